/- A custom stream: Read. -/
import Derived.Test.YtimggonlfkboaaaMeUse2
namespace Go.Proofs.Ytimggonlfkboaaa
open Go.RowKit

theorem CS.read_range {C : CS} {n : Int} (h : inR n = false) : C.read n = ([], 4, C) := by unfold CS.read; rw [if_pos h]
theorem CS.read_none {C : CS} : C.read 0 = ([], 0, C) := by unfold CS.read; rw [if_neg (by decide), if_pos rfl]
theorem CS.read_end {C : CS} {n : Int} (h : inR n = true) (h0 : n ≠ 0) (hr : C.reads = []) : C.read n = ([], 0, C) := by unfold CS.read; rw [if_neg (by simp [h]), if_neg h0, hr]
theorem CS.read_err {C : CS} {n : Int} {x : List UInt8 × Int} {r : List (List UInt8 × Int)} (h : inR n = true) (h0 : n ≠ 0) (hr : C.reads = x :: r) (hx : x.2 ≠ 0) : C.read n = ([], x.2, ⟨r, C.writes, C.taken⟩) := by
  unfold CS.read; rw [if_neg (by simp [h]), if_neg h0, hr]; exact if_pos hx
theorem CS.read_cut {C : CS} {n : Int} {d : List UInt8} {r : List (List UInt8 × Int)} (h : inR n = true) (h0 : n ≠ 0) (hr : C.reads = (d, 0) :: r) (hn : n.toNat < d.length) : C.read n = (d.take n.toNat, 0, ⟨(d.drop n.toNat, 0) :: r, C.writes, C.taken⟩) := by
  unfold CS.read; rw [if_neg (by simp [h]), if_neg h0, hr]; simp only [ne_eq, not_true_eq_false, if_false]; exact if_pos hn
theorem CS.read_all {C : CS} {n : Int} {d : List UInt8} {r : List (List UInt8 × Int)} (h : inR n = true) (h0 : n ≠ 0) (hr : C.reads = (d, 0) :: r) (hn : ¬ n.toNat < d.length) : C.read n = (d, 0, ⟨r, C.writes, C.taken⟩) := by
  unfold CS.read; rw [if_neg (by simp [h]), if_neg h0, hr]; simp only [ne_eq, not_true_eq_false, if_false]; exact if_neg hn
set_option maxHeartbeats 1000000 in
theorem cread_range (O : Nat → Prop) (g : Nat) (C : CS) (n : Int) (w : World) (h : CusAt w O g C) (hn : inR n = false) :
    Calls Try.prog 28 #[.pointer (some ⟨g, 0, none⟩), .int .i64 n] w fun e w' => e = .returned (.tuple #[.slice none 0 0, .int .i64 4]) ∧ w = w' := by
  obtain ⟨rv, wv, tv, R, N, ⟨h0, -⟩, -⟩ := h
  have hn' : n < 0 ∨ (¬ n < 0 ∧ 1048576 < n) := by simp only [inR, decide_eq_false_iff_not] at hn; omega
  clear hn
  rcases hn' with h1 | ⟨h1, h2⟩
  all_goals
    go_enter_defers Try.func28, Try.ntmps28
    go_wp2_with (first | (go_at_call 42; refine (cMade_yes g _ h0).mono ?_; rintro _ _ ⟨rfl, rfl⟩) | fail)
    exact ⟨_, results_tmp2 rfl _ _ _, rfl, rfl⟩
set_option maxHeartbeats 1000000 in
theorem cread_none (O : Nat → Prop) (g : Nat) (C : CS) (w : World) (h : CusAt w O g C) :
    Calls Try.prog 28 #[.pointer (some ⟨g, 0, none⟩), .int .i64 0] w fun e w' => e = .returned (.tuple #[.slice none 0 0, .int .i64 0]) ∧ w = w' := by
  obtain ⟨rv, wv, tv, R, N, ⟨h0, -⟩, -⟩ := h
  go_enter_defers Try.func28, Try.ntmps28
  go_wp2_with (first | (go_at_call 42; refine (cMade_yes g _ h0).mono ?_; rintro _ _ ⟨rfl, rfl⟩) | fail)
  exact ⟨_, results_tmp2 rfl _ _ _, rfl, rfl⟩
set_option maxHeartbeats 1000000 in
theorem cread_end (O : Nat → Prop) (g : Nat) (C : CS) (n : Nat) (w : World) (h : CusAt w O g C) (h1 : 0 < n) (h2 : n ≤ 1048576) (hr : C.reads = []) :
    Calls Try.prog 28 #[.pointer (some ⟨g, 0, none⟩), .int .i64 (n : Int)] w fun e w' => e = .returned (.tuple #[.slice none 0 0, .int .i64 0]) ∧ w = w' := by
  obtain ⟨rv, wv, tv, R, N, ⟨h0, hc1, -⟩, -, hA, -⟩ := h
  rw [hr] at hA
  obtain ⟨a, cap, rfl, -⟩ := hA
  simp only [List.map_nil, List.length_nil] at hc1
  have h3 : ¬ (n : Int) < 0 := by omega
  have h4 : ¬ (1048576 : Int) < (n : Int) := by omega
  have h5 : ((n : Int) == 0) = false := by simp; omega
  go_enter_defers Try.func28, Try.ntmps28
  go_wp2_with (first | (go_at_call 42; refine (cMade_yes g _ h0).mono ?_; rintro _ _ ⟨rfl, rfl⟩) | fail)
  exact ⟨_, results_tmp2 rfl _ _ _, rfl, rfl⟩
set_option maxRecDepth 100000 in
set_option maxHeartbeats 2000000 in
/-- The walk to the door: k bytes of the first answer are told, and its error. -/
theorem cread_walk (O : Nat → Prop) (g : Nat) (C C2 : CS) (n k : Nat) (x : List UInt8 × Int) (r : List (List UInt8 × Int)) (w : World) (h : CusAt w O g C) (hO : ∀ j, O j → j < w.heap.size) (h1 : 0 < n) (h2 : n ≤ 1048576) (hr : C.reads = x :: r) (hk : k = min n (nrm x).1.length)
    (hU : ∀ W, CusAt W O g C → CallsD Try.prog 43 #[.pointer (some ⟨g, 0, none⟩), .int .i64 (k : Int)] .returning W fun e u' w' => u' = .returning ∧ (e = .returned (.tuple #[]) ∧ CusAt w' O g C2 ∧ Turned O W w')) :
    Calls Try.prog 28 #[.pointer (some ⟨g, 0, none⟩), .int .i64 (n : Int)] w fun e w' => ∃ v, e = .returned (.tuple #[v, .int .i64 x.2]) ∧ w'.ownsRow w.heap.size 5 1 v k (((nrm x).1.take k).map bv) ∧ CusAt w' O g C2 ∧ Turned O w w' := by
  have HM := hide h
  have hlim : x.1.length ≤ 1048576 := by obtain ⟨rv, wv, tv, R, N, _, _, _, _, _, _, _, _, _, _, _, l3⟩ := h; exact l3 x (by rw [hr]; simp)
  have HOl := hide hO
  clear hO
  obtain ⟨rv, wv, tv, R, N, ⟨h0, hc1, -⟩, -, hA, -, -, -, hR, -⟩ := h
  rw [hr, List.map_cons] at hA
  obtain ⟨b, off, cap, rfl, hcap, hb, ⟨va, vc, a1, a2, a3, a4, a5, a6, a7⟩, -⟩ := hA.head
  have hnx : (nrm x).2 = x.2 := by unfold nrm; split <;> rfl
  have hnl : (nrm x).1.length ≤ x.1.length := by unfold nrm; split; exact Nat.le_refl _; exact Nat.zero_le _
  rw [hnx] at a2
  rw [List.length_map] at hc1 hcap
  generalize (nrm x).1 = y at *
  generalize x.2 = E at *
  have h3 : ¬ (n : Int) < 0 := by omega
  have h4 : ¬ (1048576 : Int) < (n : Int) := by omega
  have h5 : ((n : Int) == 0) = false := by simp; omega
  have h6 : ((r.length : Int) + 1 == 0) = false := by simp; omega
  have h7 : ¬ (r.length : Int) + 1 = 0 := by omega
  have h8 : (0 : Int) < (r.length : Int) + 1 := by omega
  have hmi : min (n : Int) (y.length : Int) = (k : Int) := by omega
  have hkc : k ≤ vc := by omega
  have hky : k ≤ y.length := by omega
  have hB := recv4 w (Obj.cells #[.slice va y.length vc, .int .i64 E] 64)
  have hcutb : Bys w (.slice va k vc) (y.take k) := by
    by_cases h00 : 0 < y.length
    · obtain ⟨_, yb, yo, rfl, _, _⟩ := bys_block a5 h00
      have := bys_cut a5 0 k vc (by omega)
      simpa using this
    · obtain rfl : k = 0 := by omega
      rcases a5 with ⟨e1, e2⟩ | ⟨q, cq, e1, e2⟩ | ⟨_, _, _, _, e1, _⟩
      · simp only [Value.slice.injEq] at e1
        exact .inl ⟨by rw [e1.1, e1.2.2], by simp⟩
      · simp only [Value.slice.injEq] at e1
        exact .inr (.inl ⟨q, cq, by rw [e1.1, e1.2.2], by simp⟩)
      · exact absurd e1 h00
  have hyk : (y.take k).length = k := by rw [List.length_take]; omega
  have HC := hide (mclone_any (.slice va k vc) (y.take k) (w.alloc (Obj.cells #[.slice va y.length vc, .int .i64 E] 64)).drew ((hcutb.below hB).below (Below.refl _ _).drew) (by rw [hyk]; omega))
  have c0 : (w.alloc (Obj.cells #[.slice va y.length vc, .int .i64 E] 64)).cell? ⟨w.heap.size, 0, none⟩ = some (.slice va y.length vc) := by simp only [World.cell?, heap_alloc_new]; rfl
  have c1 : (w.alloc (Obj.cells #[.slice va y.length vc, .int .i64 E] 64)).cell? ⟨w.heap.size, 1, none⟩ = some (.int .i64 E) := by simp only [World.cell?, heap_alloc_new]; rfl
  have HC01 := hide (And.intro c0 c1)
  have hls : w.heap.size < (w.alloc (Obj.cells #[.slice va y.length vc, .int .i64 E] 64)).heap.size := size_new _ _
  have HU := hide hU
  have HB := hide hB
  have Hyk := hide hyk
  clear hA hcutb a5 a7 hR hU hB hyk hk
  go_enter_defers Try.func28, Try.ntmps28
  go_wp2_with (first | (go_at_call 42; refine (cMade_yes g _ h0).mono ?_; rintro _ _ ⟨rfl, rfl⟩) | fail)
  generalize w.alloc (Obj.cells #[.slice va y.length vc, .int .i64 E] 64) = wA at *
  go_region_held3 (fun w' => w'.cell? ⟨w.heap.size, 0, none⟩ = some (.slice va y.length vc) ∧ w'.cell? ⟨w.heap.size, 1, none⟩ = some (.int .i64 E))
    (first | exact hx5 | exact ⟨c0, c1⟩ | go_keep)
    (first
      | (go_at_call 44; refine HC.out.mono ?_; rintro _ w2 ⟨v, rfl, k1, k2⟩; have hx5 : w2.cell? ⟨w.heap.size, 0, none⟩ = some (.slice va y.length vc) ∧ w2.cell? ⟨w.heap.size, 1, none⟩ = some (.int .i64 E) := ⟨(k2.cell (p := ⟨w.heap.size, 0, none⟩) hls).trans HC01.out.1, (k2.cell (p := ⟨w.heap.size, 1, none⟩) hls).trans HC01.out.2⟩; have K1 := hide k1; have K2 := hide k2; clear k1 k2)
      | fail)
  go_wp2
  have hB2 : Below w.heap.size w w2 := HB.out.trans ((((Below.refl _ wA).drew).trans K2.out).mono HB.out.size)
  refine leaves_cons (f := 43) (args := #[.pointer (some ⟨g, 0, none⟩), .int .i64 (k : Int)]) (by simp) (by simp [go_sem]) ?_
  refine (HU.out _ (HM.out.below hB2)).mono ?_
  rintro e u' w3 ⟨rfl, rfl, q1, q2⟩
  have hown := K1.out
  rw [Hyk.out] at hown
  refine ⟨_, results_tmp2 rfl _ _ _, v, rfl, ?_, q1, (Turned.of_below (S := O) hB2).trans q2 (fun _ _ e => e)⟩
  refine owns_turned (owns_mono (base := wA.heap.size) hown HB.out.size) q2 (fun j e o => ?_)
  have h9 := HOl.out j o
  have h10 : wA.heap.size ≤ j := (hown.lt j e).1
  have := HB.out.size
  omega
theorem nrm_ok (d : List UInt8) : nrm (d, 0) = (d, 0) := by simp [nrm]
theorem nrm_err {x : List UInt8 × Int} (h : x.2 ≠ 0) : (nrm x).1 = [] := by unfold nrm; rw [if_neg h]
theorem cread_low (O : Nat → Prop) (g : Nat) (C : CS) (n : Int) (w : World) (h : CusAt w O g C) (hO : ∀ j, O j → j < w.heap.size) :
    Calls Try.prog 28 #[.pointer (some ⟨g, 0, none⟩), .int .i64 n] w fun e w' => ∃ v, e = .returned (.tuple #[v, .int .i64 (C.read n).2.1]) ∧ w'.ownsRow w.heap.size 5 1 v (C.read n).1.length ((C.read n).1.map bv) ∧ CusAt w' O g (C.read n).2.2 ∧ Turned O w w' := by
  cases hn : inR n with
  | false =>
    rw [CS.read_range hn]
    refine (cread_range O g C n w h hn).mono ?_
    rintro e w' ⟨rfl, rfl⟩
    exact ⟨_, rfl, World.ownsRow_nil _ _ _ _, h, Turned.refl _ _⟩
  | true =>
    by_cases h0 : n = 0
    · subst h0
      rw [CS.read_none]
      refine (cread_none O g C w h).mono ?_
      rintro e w' ⟨rfl, rfl⟩
      exact ⟨_, rfl, World.ownsRow_nil _ _ _ _, h, Turned.refl _ _⟩
    have hn' := hn
    simp only [inR, decide_eq_true_eq] at hn'
    obtain ⟨m, rfl⟩ : ∃ m : Nat, n = m := ⟨n.toNat, by omega⟩
    have hm : 0 < m := by omega
    have hm2 : m ≤ 1048576 := by omega
    cases hr : C.reads with
    | nil =>
      rw [CS.read_end hn h0 hr]
      refine (cread_end O g C m w h hm hm2 hr).mono ?_
      rintro e w' ⟨rfl, rfl⟩
      exact ⟨_, rfl, World.ownsRow_nil _ _ _ _, h, Turned.refl _ _⟩
    | cons x r =>
      by_cases hx : x.2 = 0
      · obtain ⟨d, e0⟩ := x
        obtain rfl : e0 = 0 := hx
        by_cases hd : m < d.length
        · rw [CS.read_cut hn h0 hr (by simpa using hd), Int.toNat_natCast]
          refine (cread_walk O g C ⟨(d.drop m, 0) :: r, C.writes, C.taken⟩ m m (d, 0) r w h hO hm hm2 hr (by rw [nrm_ok]; show m = min m d.length; omega) (fun W hW => useAnswer_cut O g m C d r .returning W hW hr hd)).mono ?_
          rintro e w' ⟨v, rfl, q1, q2⟩
          rw [nrm_ok] at q1
          exact ⟨v, rfl, by rw [List.length_take, Nat.min_eq_left (by omega)]; exact q1, q2⟩
        · rw [CS.read_all hn h0 hr (by simpa using hd)]
          refine (cread_walk O g C ⟨r, C.writes, C.taken⟩ m d.length (d, 0) r w h hO hm hm2 hr (by rw [nrm_ok]; show d.length = min m d.length; omega) (fun W hW => useAnswer_pop O g d.length C (d, 0) r .returning W hW hr (by rw [nrm_ok]))).mono ?_
          rintro e w' ⟨v, rfl, q1, q2⟩
          rw [nrm_ok, List.take_of_length_le (Nat.le_refl _)] at q1
          exact ⟨v, rfl, q1, q2⟩
      · rw [CS.read_err hn h0 hr hx]
        refine (cread_walk O g C ⟨r, C.writes, C.taken⟩ m 0 x r w h hO hm hm2 hr (by rw [nrm_err hx]; simp) (fun W hW => useAnswer_pop O g 0 C x r .returning W hW hr (by rw [nrm_err hx]; rfl))).mono ?_
        rintro e w' ⟨v, rfl, q1, q2⟩
        rw [List.take_zero] at q1
        exact ⟨v, rfl, q1, q2⟩
theorem CusAt.mono {W : World} {O O' : Nat → Prop} {g : Nat} {C : CS} (h : CusAt W O g C) (ho : ∀ j, O j → O' j) : CusAt W O' g C := by
  obtain ⟨rv, wv, tv, R, N, h0, hf, hA, hN, hT, ht, hR, hN2, og, rest⟩ := h
  exact ⟨rv, wv, tv, R, N, h0, hf, hA, hN, hT, fun k e => ⟨ho k (ht k e).1, (ht k e).2⟩, fun k e => ⟨ho k (hR k e).1, (hR k e).2⟩, fun k e => ⟨ho k (hN2 k e).1, (hN2 k e).2⟩, ho g og, rest⟩
theorem cread_any (O : Nat → Prop) (g : Nat) (C : CS) (n : Int) (w : World) (h : CusAt w O g C) :
    Calls Try.prog 28 #[.pointer (some ⟨g, 0, none⟩), .int .i64 n] w fun e w' => ∃ v, e = .returned (.tuple #[v, .int .i64 (C.read n).2.1]) ∧ w'.ownsRow w.heap.size 5 1 v (C.read n).1.length ((C.read n).1.map bv) ∧ CusAt w' O g (C.read n).2.2 ∧ Turned O w w' := by
  refine (cread_low _ g C n w h.trim (fun j e => e.2)).mono ?_
  rintro e w' ⟨v, rfl, q1, q2, q3⟩
  exact ⟨v, rfl, q1, q2.mono (fun j e => e.1), q3.mono (fun j e => e.1)⟩
end Go.Proofs.Ytimggonlfkboaaa

/- What the proof stands on, part 18: the contracts of the program's calls that it reaches. -/
import Derived.Test.YtanbiinomagdbaaGreatKM17
import Derived.Laws.CopyOwn
/- A custom stream: useAnswer, useNumber, as deferred calls. -/
namespace Go.Proofs.YtanbiinomagdbaaGreat
open Go.RowKit

set_option maxRecDepth 100000 in
set_option maxHeartbeats 2000000 in
theorem useAnswer_cut (O : Nat → Prop) (g n : Nat) (C : CS) (d : List UInt8) (r : List (List UInt8 × Int)) (u : FrameMode) (w : World) (h : CusAt w O g C) (hr : C.reads = (d, 0) :: r) (hn : n < d.length) :
    CallsD Tryz.prog 181 #[.pointer (some ⟨g, 0, none⟩), .int .i64 (n : Int)] u w fun e u' w' => u' = u ∧ (e = .returned (.tuple #[]) ∧ CusAt w' O g ⟨(d.drop n, 0) :: r, C.writes, C.taken⟩ ∧ Turned O w w') := by
  obtain ⟨b, off, cap, db, doff, dc, h1, h2, h3, h4, h5, ob⟩ := h.cut hr hn
  have H5 := hide h5
  have h6 : (n : Int) < (d.length : Int) := by omega
  have h7 : (0 : Int) < (r.length : Int) + 1 := by omega
  have h8 : n ≤ dc := by omega
  have h9 : ¬ dc = n := by omega
  have h10 : (n : Int) < (dc : Int) := by omega
  clear h5 h hr
  go_enter_d Tryz.func181, Tryz.ntmps181
  go_wp2
  go_region
  go_wp2
  refine bodyPost_ret (results_none rfl _ _ _) rfl ?_
  exact ⟨rfl, H5.out.below (Below.refl _ _).drew, ((Turned.refl O w).set (.inl ob)).trans (Turned.of_below (S := O) (Below.refl _ _).drew) (fun _ _ e => e)⟩
set_option maxRecDepth 100000 in
set_option maxHeartbeats 2000000 in
theorem useAnswer_pop (O : Nat → Prop) (g n : Nat) (C : CS) (x : List UInt8 × Int) (r : List (List UInt8 × Int)) (u : FrameMode) (w : World) (h : CusAt w O g C) (hr : C.reads = x :: r) (hn : n = (nrm x).1.length) :
    CallsD Tryz.prog 181 #[.pointer (some ⟨g, 0, none⟩), .int .i64 (n : Int)] u w fun e u' w' => u' = u ∧ (e = .returned (.tuple #[]) ∧ CusAt w' O g ⟨r, C.writes, C.taken⟩ ∧ Turned O w w') := by
  obtain ⟨b, off, cap, va, vc, h1, h2, h3, h4, h5, h6, h7, h8, h9, h10, h11, h12⟩ := h.pop hr
  have H11 := hide h11
  have H12 := hide h12
  rw [← hn] at h2
  have HN := hide hn
  have h13 : (0 : Int) < (r.length : Int) + 1 := by omega
  have h14 : ¬ (n : Int) < (n : Int) := by omega
  clear h11 h12 h hr hn
  have hT : ∀ u1 u2 u3, Turned O w (((w.setCell ⟨b, off, none⟩ u1).setCell ⟨b, off + 1, none⟩ u2).setCell ⟨g, 1, none⟩ u3) := fun u1 u2 u3 => (((Turned.refl O w).set (.inl h9)).set (.inl h9)).set (.inl h10)
  have HT := hide hT
  clear hT
  by_cases hc : cap = 1
  · subst hc
    obtain ⟨hr0, hc0⟩ := H12.out rfl
    subst hr0
    have HC0 := hide hc0
    clear hc0 H11 H12
    go_enter_d Tryz.func181, Tryz.ntmps181
    go_wp2
    go_end0
    exact ⟨rfl, HC0.out _, HT.out _ _ _⟩
  · have HC0 := hide (H11.out (by omega))
    clear H11 H12
    go_enter_d Tryz.func181, Tryz.ntmps181
    go_wp2
    go_end0
    exact ⟨rfl, HC0.out, HT.out _ _ _⟩
theorem CusAt.less {W : World} {O : Nat → Prop} {g : Nat} {C : CS} {k : Int} {r : List Int} (h : CusAt W O g C) (hr : C.writes = k :: r) :
    ∃ b off cap, W.cell? ⟨g, 2, none⟩ = some (.slice (some ⟨b, off, none⟩) (r.length + 1) cap) ∧ W.cell? ⟨b, off, none⟩ = some (.int .i64 k) ∧ W.frozen? ⟨g, 2, none⟩ = false ∧ r.length + 1 ≤ cap ∧ O g ∧
      (1 < cap → CusAt (W.setCell ⟨g, 2, none⟩ (.slice (some ⟨b, off + 1, none⟩) r.length (cap - 1))) O g ⟨C.reads, r, C.taken⟩) ∧
      (cap = 1 → r = [] ∧ ∀ a, CusAt (W.setCell ⟨g, 2, none⟩ (.slice a 0 0)) O g ⟨C.reads, r, C.taken⟩) := by
  obtain ⟨rv, wv, tv, R, N, ⟨h0, h1, h2, h3⟩, ⟨f1, f2, f3⟩, hA, hN, hT, ht, hR, hN2, og, l1, l2, l3⟩ := h
  rw [hr] at hN l2
  obtain ⟨a, cap, rfl, hcap, hc⟩ := hN
  obtain ⟨b, off, rfl, hb, hd⟩ := hc (by simp)
  have hbg := (hN2 b hb).2
  have key : ∀ u, NRow (W.setCell ⟨g, 2, none⟩ u) N u r → CusAt (W.setCell ⟨g, 2, none⟩ u) O g ⟨C.reads, r, C.taken⟩ := by
    intro u hu
    refine ⟨rv, u, tv, R, N, ⟨?_, ?_, World.cell?_setCell_same _ _ _ h2, ?_⟩, ⟨?_, ?_, ?_⟩, hA.keep fun k e _ => Below.heap_setCell _ _ _ _ (hR k e).2.1, hu, owns_keep hT fun k e => Below.heap_setCell _ _ _ _ (ht k e).2.2.2, ht, hR, hN2, og, l1, by simp at l2; show r.length ≤ 4096; omega, l3⟩
    · exact (World.cell?_setCell_other _ _ _ _ (by simp)).trans h0
    · exact (World.cell?_setCell_other _ _ _ _ (by simp)).trans h1
    · exact (World.cell?_setCell_other _ _ _ _ (by simp)).trans h3
    · exact (World.frozen?_setCell _ _ _ _).trans f1
    · exact (World.frozen?_setCell _ _ _ _).trans f2
    · exact (World.frozen?_setCell _ _ _ _).trans f3
  refine ⟨b, off, cap, h2, hd 0 (by simp), f2, hcap, og, fun hc1 => key _ ?_, fun hc1 => ?_⟩
  · refine ⟨_, _, rfl, by simp at hcap; omega, fun _ => ⟨b, off + 1, rfl, hb, fun j hj => ?_⟩⟩
    have := hd (j + 1) (by simpa using hj)
    rw [show off + (j + 1) = off + 1 + j by omega] at this
    exact (World.cell?_setCell_other _ _ _ _ (fun e => hbg (congrArg Addr.block e).symm)).trans this
  · have hr0 : r = [] := List.length_eq_zero_iff.1 (by simp at hcap; omega)
    refine ⟨hr0, fun a => key _ ?_⟩
    subst hr0
    exact ⟨_, _, rfl, Nat.le_refl _, fun h => absurd h (by simp)⟩
set_option maxRecDepth 100000 in
set_option maxHeartbeats 2000000 in
theorem useNumber_any (O : Nat → Prop) (g : Nat) (C : CS) (k : Int) (r : List Int) (u : FrameMode) (w : World) (h : CusAt w O g C) (hr : C.writes = k :: r) :
    CallsD Tryz.prog 219 #[.pointer (some ⟨g, 0, none⟩)] u w fun e u' w' => u' = u ∧ (e = .returned (.tuple #[]) ∧ CusAt w' O g ⟨C.reads, r, C.taken⟩ ∧ Turned O w w') := by
  obtain ⟨b, off, cap, h1, h2, h3, h4, og, h5, h6⟩ := h.less hr
  have hT : ∀ u3, Turned O w (w.setCell ⟨g, 2, none⟩ u3) := fun u3 => (Turned.refl O w).set (.inl og)
  have HT := hide hT
  have H5 := hide h5
  have H6 := hide h6
  have h13 : (0 : Int) < (r.length : Int) + 1 := by omega
  clear hT h5 h6 h hr
  by_cases hc : cap = 1
  · subst hc
    obtain ⟨hr0, hc0⟩ := H6.out rfl
    subst hr0
    have HC0 := hide hc0
    clear hc0 H5 H6
    go_enter_d Tryz.func219, Tryz.ntmps219
    go_wp2
    go_end0
    exact ⟨rfl, HC0.out _, HT.out _⟩
  · have HC0 := hide (H5.out (by omega))
    clear H5 H6
    go_enter_d Tryz.func219, Tryz.ntmps219
    go_wp2
    go_end0
    exact ⟨rfl, HC0.out, HT.out _⟩
end Go.Proofs.YtanbiinomagdbaaGreat

/- A custom stream: Read. -/
namespace Go.Proofs.YtanbiinomagdbaaGreat
open Go.RowKit

theorem CS.read_range {C : CS} {n : Int} (h : inR n = false) : C.read n = ([], 4, C) := by unfold CS.read; rw [if_pos h]
theorem CS.read_none {C : CS} : C.read 0 = ([], 0, C) := by unfold CS.read; rw [if_neg (by decide), if_pos rfl]
theorem CS.read_end {C : CS} {n : Int} (h : inR n = true) (h0 : n ≠ 0) (hr : C.reads = []) : C.read n = ([], 0, C) := by unfold CS.read; rw [if_neg (by simp [h]), if_neg h0, hr]
theorem CS.read_err {C : CS} {n : Int} {x : List UInt8 × Int} {r : List (List UInt8 × Int)} (h : inR n = true) (h0 : n ≠ 0) (hr : C.reads = x :: r) (hx : x.2 ≠ 0) : C.read n = ([], x.2, ⟨r, C.writes, C.taken⟩) := by
  unfold CS.read; rw [if_neg (by simp [h]), if_neg h0, hr]; exact if_pos hx
theorem CS.read_cut {C : CS} {n : Int} {d : List UInt8} {r : List (List UInt8 × Int)} (h : inR n = true) (h0 : n ≠ 0) (hr : C.reads = (d, 0) :: r) (hn : n.toNat < d.length) : C.read n = (d.take n.toNat, 0, ⟨(d.drop n.toNat, 0) :: r, C.writes, C.taken⟩) := by
  unfold CS.read; rw [if_neg (by simp [h]), if_neg h0, hr]; simp only [ne_eq, not_true_eq_false, if_false]; exact if_pos hn
theorem CS.read_all {C : CS} {n : Int} {d : List UInt8} {r : List (List UInt8 × Int)} (h : inR n = true) (h0 : n ≠ 0) (hr : C.reads = (d, 0) :: r) (hn : ¬ n.toNat < d.length) : C.read n = (d, 0, ⟨r, C.writes, C.taken⟩) := by
  unfold CS.read; rw [if_neg (by simp [h]), if_neg h0, hr]; simp only [ne_eq, not_true_eq_false, if_false]; exact if_neg hn
set_option maxHeartbeats 1000000 in
theorem cread_range (O : Nat → Prop) (g : Nat) (C : CS) (n : Int) (w : World) (h : CusAt w O g C) (hn : inR n = false) :
    Calls Tryz.prog 99 #[.pointer (some ⟨g, 0, none⟩), .int .i64 n] w fun e w' => e = .returned (.tuple #[.slice none 0 0, .int .i64 4]) ∧ w = w' := by
  obtain ⟨rv, wv, tv, R, N, ⟨h0, -⟩, -⟩ := h
  have hn' : n < 0 ∨ (¬ n < 0 ∧ 1048576 < n) := by simp only [inR, decide_eq_false_iff_not] at hn; omega
  clear hn
  rcases hn' with h1 | ⟨h1, h2⟩
  all_goals
    go_enter_defers Tryz.func99, Tryz.ntmps99
    go_wp2_with (first | (go_at_call 180; refine (cMade_yes g _ h0).mono ?_; rintro _ _ ⟨rfl, rfl⟩) | fail)
    exact ⟨_, results_tmp2 rfl _ _ _, rfl, rfl⟩
set_option maxHeartbeats 1000000 in
theorem cread_none (O : Nat → Prop) (g : Nat) (C : CS) (w : World) (h : CusAt w O g C) :
    Calls Tryz.prog 99 #[.pointer (some ⟨g, 0, none⟩), .int .i64 0] w fun e w' => e = .returned (.tuple #[.slice none 0 0, .int .i64 0]) ∧ w = w' := by
  obtain ⟨rv, wv, tv, R, N, ⟨h0, -⟩, -⟩ := h
  go_enter_defers Tryz.func99, Tryz.ntmps99
  go_wp2_with (first | (go_at_call 180; refine (cMade_yes g _ h0).mono ?_; rintro _ _ ⟨rfl, rfl⟩) | fail)
  exact ⟨_, results_tmp2 rfl _ _ _, rfl, rfl⟩
set_option maxHeartbeats 1000000 in
theorem cread_end (O : Nat → Prop) (g : Nat) (C : CS) (n : Nat) (w : World) (h : CusAt w O g C) (h1 : 0 < n) (h2 : n ≤ 1048576) (hr : C.reads = []) :
    Calls Tryz.prog 99 #[.pointer (some ⟨g, 0, none⟩), .int .i64 (n : Int)] w fun e w' => e = .returned (.tuple #[.slice none 0 0, .int .i64 0]) ∧ w = w' := by
  obtain ⟨rv, wv, tv, R, N, ⟨h0, hc1, -⟩, -, hA, -⟩ := h
  rw [hr] at hA
  obtain ⟨a, cap, rfl, -⟩ := hA
  simp only [List.map_nil, List.length_nil] at hc1
  have h3 : ¬ (n : Int) < 0 := by omega
  have h4 : ¬ (1048576 : Int) < (n : Int) := by omega
  have h5 : ((n : Int) == 0) = false := by simp; omega
  go_enter_defers Tryz.func99, Tryz.ntmps99
  go_wp2_with (first | (go_at_call 180; refine (cMade_yes g _ h0).mono ?_; rintro _ _ ⟨rfl, rfl⟩) | fail)
  exact ⟨_, results_tmp2 rfl _ _ _, rfl, rfl⟩
set_option maxRecDepth 100000 in
set_option maxHeartbeats 2000000 in
theorem cread_walk (O : Nat → Prop) (g : Nat) (C C2 : CS) (n k : Nat) (x : List UInt8 × Int) (r : List (List UInt8 × Int)) (w : World) (h : CusAt w O g C) (hO : ∀ j, O j → j < w.heap.size) (h1 : 0 < n) (h2 : n ≤ 1048576) (hr : C.reads = x :: r) (hk : k = min n (nrm x).1.length)
    (hU : ∀ W, CusAt W O g C → CallsD Tryz.prog 181 #[.pointer (some ⟨g, 0, none⟩), .int .i64 (k : Int)] .returning W fun e u' w' => u' = .returning ∧ (e = .returned (.tuple #[]) ∧ CusAt w' O g C2 ∧ Turned O W w')) :
    Calls Tryz.prog 99 #[.pointer (some ⟨g, 0, none⟩), .int .i64 (n : Int)] w fun e w' => ∃ v, e = .returned (.tuple #[v, .int .i64 x.2]) ∧ w'.ownsRow w.heap.size 5 1 v k (((nrm x).1.take k).map bv) ∧ CusAt w' O g C2 ∧ Turned O w w' := by
  have HM := hide h
  have hlim : x.1.length ≤ 1048576 := by obtain ⟨rv, wv, tv, R, N, _, _, _, _, _, _, _, _, _, _, _, l3⟩ := h; exact l3 x (by rw [hr]; simp)
  have HOl := hide hO
  clear hO
  obtain ⟨rv, wv, tv, R, N, ⟨h0, hc1, -⟩, -, hA, -, -, -, hR, -⟩ := h
  rw [hr, List.map_cons] at hA
  obtain ⟨b, off, cap, rfl, hcap, hb, ⟨va, vc, a1, a2, a3, a4, a5, a6, a7⟩, -⟩ := hA.head
  have hnx : (nrm x).2 = x.2 := by unfold nrm; split <;> rfl
  have hnl : (nrm x).1.length ≤ x.1.length := by unfold nrm; split; exact Nat.le_refl _; exact Nat.zero_le _
  rw [hnx] at a2
  rw [List.length_map] at hc1 hcap
  generalize (nrm x).1 = y at *
  generalize x.2 = E at *
  have h3 : ¬ (n : Int) < 0 := by omega
  have h4 : ¬ (1048576 : Int) < (n : Int) := by omega
  have h5 : ((n : Int) == 0) = false := by simp; omega
  have h6 : ((r.length : Int) + 1 == 0) = false := by simp; omega
  have h7 : ¬ (r.length : Int) + 1 = 0 := by omega
  have h8 : (0 : Int) < (r.length : Int) + 1 := by omega
  have hmi : min (n : Int) (y.length : Int) = (k : Int) := by omega
  have hkc : k ≤ vc := by omega
  have hky : k ≤ y.length := by omega
  have hB := recv4 w (Obj.cells #[.slice va y.length vc, .int .i64 E] 187)
  have hcutb : Bys w (.slice va k vc) (y.take k) := by
    by_cases h00 : 0 < y.length
    · obtain ⟨_, yb, yo, rfl, _, _⟩ := bys_block a5 h00
      have := bys_cut a5 0 k vc (by omega)
      simpa using this
    · obtain rfl : k = 0 := by omega
      rcases a5 with ⟨e1, e2⟩ | ⟨q, cq, e1, e2⟩ | ⟨_, _, _, _, e1, _⟩
      · simp only [Value.slice.injEq] at e1
        exact .inl ⟨by rw [e1.1, e1.2.2], by simp⟩
      · simp only [Value.slice.injEq] at e1
        exact .inr (.inl ⟨q, cq, by rw [e1.1, e1.2.2], by simp⟩)
      · exact absurd e1 h00
  have hyk : (y.take k).length = k := by rw [List.length_take]; omega
  have HC := hide (mclone_any (.slice va k vc) (y.take k) (w.alloc (Obj.cells #[.slice va y.length vc, .int .i64 E] 187)).drew ((hcutb.below hB).below (Below.refl _ _).drew) (by rw [hyk]; omega))
  have c0 : (w.alloc (Obj.cells #[.slice va y.length vc, .int .i64 E] 187)).cell? ⟨w.heap.size, 0, none⟩ = some (.slice va y.length vc) := by simp only [World.cell?, heap_alloc_new]; rfl
  have c1 : (w.alloc (Obj.cells #[.slice va y.length vc, .int .i64 E] 187)).cell? ⟨w.heap.size, 1, none⟩ = some (.int .i64 E) := by simp only [World.cell?, heap_alloc_new]; rfl
  have HC01 := hide (And.intro c0 c1)
  have hls : w.heap.size < (w.alloc (Obj.cells #[.slice va y.length vc, .int .i64 E] 187)).heap.size := size_new _ _
  have HU := hide hU
  have HB := hide hB
  have Hyk := hide hyk
  clear hA hcutb a5 a7 hR hU hB hyk hk
  go_enter_defers Tryz.func99, Tryz.ntmps99
  go_wp2_with (first | (go_at_call 180; refine (cMade_yes g _ h0).mono ?_; rintro _ _ ⟨rfl, rfl⟩) | fail)
  generalize w.alloc (Obj.cells #[.slice va y.length vc, .int .i64 E] 187) = wA at *
  go_region_held3 (fun w' => w'.cell? ⟨w.heap.size, 0, none⟩ = some (.slice va y.length vc) ∧ w'.cell? ⟨w.heap.size, 1, none⟩ = some (.int .i64 E))
    (first | exact hx5 | exact ⟨c0, c1⟩ | go_keep)
    (first
      | (go_at_call 182; refine HC.out.mono ?_; rintro _ w2 ⟨v, rfl, k1, k2⟩; have hx5 : w2.cell? ⟨w.heap.size, 0, none⟩ = some (.slice va y.length vc) ∧ w2.cell? ⟨w.heap.size, 1, none⟩ = some (.int .i64 E) := ⟨(k2.cell (p := ⟨w.heap.size, 0, none⟩) hls).trans HC01.out.1, (k2.cell (p := ⟨w.heap.size, 1, none⟩) hls).trans HC01.out.2⟩; have K1 := hide k1; have K2 := hide k2; clear k1 k2)
      | fail)
  go_wp2
  have hB2 : Below w.heap.size w w2 := HB.out.trans ((((Below.refl _ wA).drew).trans K2.out).mono HB.out.size)
  refine leaves_cons (f := 181) (args := #[.pointer (some ⟨g, 0, none⟩), .int .i64 (k : Int)]) (by simp) (by simp [go_sem]) ?_
  refine (HU.out _ (HM.out.below hB2)).mono ?_
  rintro e u' w3 ⟨rfl, rfl, q1, q2⟩
  have hown := K1.out
  rw [Hyk.out] at hown
  refine ⟨_, results_tmp2 rfl _ _ _, v, rfl, ?_, q1, (Turned.of_below (S := O) hB2).trans q2 (fun _ _ e => e)⟩
  refine owns_turned (owns_mono (base := wA.heap.size) hown HB.out.size) q2 (fun j e o => ?_)
  have h9 := HOl.out j o
  have h10 : wA.heap.size ≤ j := (hown.lt j e).1
  have := HB.out.size
  omega
theorem nrm_ok (d : List UInt8) : nrm (d, 0) = (d, 0) := by simp [nrm]
theorem nrm_err {x : List UInt8 × Int} (h : x.2 ≠ 0) : (nrm x).1 = [] := by unfold nrm; rw [if_neg h]
theorem cread_low (O : Nat → Prop) (g : Nat) (C : CS) (n : Int) (w : World) (h : CusAt w O g C) (hO : ∀ j, O j → j < w.heap.size) :
    Calls Tryz.prog 99 #[.pointer (some ⟨g, 0, none⟩), .int .i64 n] w fun e w' => ∃ v, e = .returned (.tuple #[v, .int .i64 (C.read n).2.1]) ∧ w'.ownsRow w.heap.size 5 1 v (C.read n).1.length ((C.read n).1.map bv) ∧ CusAt w' O g (C.read n).2.2 ∧ Turned O w w' := by
  cases hn : inR n with
  | false =>
    rw [CS.read_range hn]
    refine (cread_range O g C n w h hn).mono ?_
    rintro e w' ⟨rfl, rfl⟩
    exact ⟨_, rfl, World.ownsRow_nil _ _ _ _, h, Turned.refl _ _⟩
  | true =>
    by_cases h0 : n = 0
    · subst h0
      rw [CS.read_none]
      refine (cread_none O g C w h).mono ?_
      rintro e w' ⟨rfl, rfl⟩
      exact ⟨_, rfl, World.ownsRow_nil _ _ _ _, h, Turned.refl _ _⟩
    have hn' := hn
    simp only [inR, decide_eq_true_eq] at hn'
    obtain ⟨m, rfl⟩ : ∃ m : Nat, n = m := ⟨n.toNat, by omega⟩
    have hm : 0 < m := by omega
    have hm2 : m ≤ 1048576 := by omega
    cases hr : C.reads with
    | nil =>
      rw [CS.read_end hn h0 hr]
      refine (cread_end O g C m w h hm hm2 hr).mono ?_
      rintro e w' ⟨rfl, rfl⟩
      exact ⟨_, rfl, World.ownsRow_nil _ _ _ _, h, Turned.refl _ _⟩
    | cons x r =>
      by_cases hx : x.2 = 0
      · obtain ⟨d, e0⟩ := x
        obtain rfl : e0 = 0 := hx
        by_cases hd : m < d.length
        · rw [CS.read_cut hn h0 hr (by simpa using hd), Int.toNat_natCast]
          refine (cread_walk O g C ⟨(d.drop m, 0) :: r, C.writes, C.taken⟩ m m (d, 0) r w h hO hm hm2 hr (by rw [nrm_ok]; show m = min m d.length; omega) (fun W hW => useAnswer_cut O g m C d r .returning W hW hr hd)).mono ?_
          rintro e w' ⟨v, rfl, q1, q2⟩
          rw [nrm_ok] at q1
          exact ⟨v, rfl, by rw [List.length_take, Nat.min_eq_left (by omega)]; exact q1, q2⟩
        · rw [CS.read_all hn h0 hr (by simpa using hd)]
          refine (cread_walk O g C ⟨r, C.writes, C.taken⟩ m d.length (d, 0) r w h hO hm hm2 hr (by rw [nrm_ok]; show d.length = min m d.length; omega) (fun W hW => useAnswer_pop O g d.length C (d, 0) r .returning W hW hr (by rw [nrm_ok]))).mono ?_
          rintro e w' ⟨v, rfl, q1, q2⟩
          rw [nrm_ok, List.take_of_length_le (Nat.le_refl _)] at q1
          exact ⟨v, rfl, q1, q2⟩
      · rw [CS.read_err hn h0 hr hx]
        refine (cread_walk O g C ⟨r, C.writes, C.taken⟩ m 0 x r w h hO hm hm2 hr (by rw [nrm_err hx]; simp) (fun W hW => useAnswer_pop O g 0 C x r .returning W hW hr (by rw [nrm_err hx]; rfl))).mono ?_
        rintro e w' ⟨v, rfl, q1, q2⟩
        rw [List.take_zero] at q1
        exact ⟨v, rfl, q1, q2⟩
theorem CusAt.mono {W : World} {O O' : Nat → Prop} {g : Nat} {C : CS} (h : CusAt W O g C) (ho : ∀ j, O j → O' j) : CusAt W O' g C := by
  obtain ⟨rv, wv, tv, R, N, h0, hf, hA, hN, hT, ht, hR, hN2, og, rest⟩ := h
  exact ⟨rv, wv, tv, R, N, h0, hf, hA, hN, hT, fun k e => ⟨ho k (ht k e).1, (ht k e).2⟩, fun k e => ⟨ho k (hR k e).1, (hR k e).2⟩, fun k e => ⟨ho k (hN2 k e).1, (hN2 k e).2⟩, ho g og, rest⟩
theorem cread_any (O : Nat → Prop) (g : Nat) (C : CS) (n : Int) (w : World) (h : CusAt w O g C) :
    Calls Tryz.prog 99 #[.pointer (some ⟨g, 0, none⟩), .int .i64 n] w fun e w' => ∃ v, e = .returned (.tuple #[v, .int .i64 (C.read n).2.1]) ∧ w'.ownsRow w.heap.size 5 1 v (C.read n).1.length ((C.read n).1.map bv) ∧ CusAt w' O g (C.read n).2.2 ∧ Turned O w w' := by
  refine (cread_low _ g C n w h.trim (fun j e => e.2)).mono ?_
  rintro e w' ⟨v, rfl, q1, q2, q3⟩
  exact ⟨v, rfl, q1, q2.mono (fun j e => e.1), q3.mono (fun j e => e.1)⟩
end Go.Proofs.YtanbiinomagdbaaGreat

/- A custom stream: howMany. -/
namespace Go.Proofs.YtanbiinomagdbaaGreat
open Go.RowKit

set_option maxRecDepth 100000 in
set_option maxHeartbeats 2000000 in
theorem howMany_all (O : Nat → Prop) (g n : Nat) (C : CS) (w : World) (h : CusAt w O g C) (hr : C.writes = []) :
    Calls Tryz.prog 183 #[.pointer (some ⟨g, 0, none⟩), .int .i64 (n : Int)] w fun e w' => e = .returned (.tuple #[.int .i64 (n : Int), .int .i64 0]) ∧ w = w' := by
  obtain ⟨rv, wv, tv, R, N, ⟨h0, h1, h2, h3⟩, ⟨f1, f2, f3⟩, hA, hN, hT, ht, hR, hN2, og, l1, l2, l3⟩ := h
  rw [hr] at hN
  obtain ⟨a, cap, rfl, -, -⟩ := hN
  simp only [List.length_nil] at h2
  clear hA hT ht hR hN2 l1 l2 l3 h0 h1 h3 hr
  go_enter_defers Tryz.func183, Tryz.ntmps183
  go_wp2
  exact ⟨_, results_tmp2 rfl _ _ _, rfl, rfl⟩
set_option maxRecDepth 100000 in
set_option maxHeartbeats 2000000 in
theorem howMany_fails (O : Nat → Prop) (g n : Nat) (C : CS) (r : List Int) (w : World) (h : CusAt w O g C) (hr : C.writes = -1 :: r) :
    Calls Tryz.prog 183 #[.pointer (some ⟨g, 0, none⟩), .int .i64 (n : Int)] w fun e w' => e = .returned (.tuple #[.int .i64 0, .int .i64 101]) ∧ CusAt w' O g ⟨C.reads, r, C.taken⟩ ∧ Turned O w w' := by
  obtain ⟨b, off, cap, h1, h2, h3, h4, og, -, -⟩ := h.less hr
  have HU := hide fun (W : World) (hW : CusAt W O g C) => useNumber_any O g C (-1) r .returning W hW hr
  have HM := hide h
  have h13 : (0 : Int) < (r.length : Int) + 1 := by omega
  have h14 : ((r.length : Int) + 1 == 0) = false := by simp; omega
  have h15 : ¬ (r.length : Int) + 1 = 0 := by omega
  clear h hr
  go_enter_defers Tryz.func183, Tryz.ntmps183
  go_wp2
  refine leaves_cons (f := 219) (args := #[.pointer (some ⟨g, 0, none⟩)]) (by simp) (by simp [go_sem]) ?_
  refine (HU.out _ HM.out).mono ?_
  rintro e u' w' ⟨rfl, rfl, k1, k2⟩
  exact ⟨_, results_tmp2 rfl _ _ _, rfl, k1, k2⟩
set_option maxRecDepth 100000 in
set_option maxHeartbeats 2000000 in
theorem howMany_some (O : Nat → Prop) (g n k : Nat) (C : CS) (r : List Int) (w : World) (h : CusAt w O g C) (hr : C.writes = (k : Int) :: r) :
    Calls Tryz.prog 183 #[.pointer (some ⟨g, 0, none⟩), .int .i64 (n : Int)] w fun e w' => e = .returned (.tuple #[.int .i64 ((min k n : Nat) : Int), .int .i64 0]) ∧ CusAt w' O g ⟨C.reads, r, C.taken⟩ ∧ Turned O w w' := by
  obtain ⟨b, off, cap, h1, h2, h3, h4, og, -, -⟩ := h.less hr
  have HU := hide fun (W : World) (hW : CusAt W O g C) => useNumber_any O g C (k : Int) r .returning W hW hr
  have HM := hide h
  have h13 : (0 : Int) < (r.length : Int) + 1 := by omega
  have h14 : ((r.length : Int) + 1 == 0) = false := by simp; omega
  have h15 : ¬ (r.length : Int) + 1 = 0 := by omega
  have h16 : ¬ (k : Int) < -1 := by omega
  have h17 : ¬ (k : Int) = -1 := by omega
  have h18 : ((k : Int) == -1) = false := by simp <;> omega
  obtain ⟨m, hm⟩ : ∃ m, m = min k n := ⟨_, rfl⟩
  have hmi : min (k : Int) (n : Int) = (m : Int) := by omega
  rw [← hm]
  clear h hr hm
  go_enter_defers Tryz.func183, Tryz.ntmps183
  go_wp2
  refine leaves_cons (f := 219) (args := #[.pointer (some ⟨g, 0, none⟩)]) (by simp) (by simp [go_sem]) ?_
  refine (HU.out _ HM.out).mono ?_
  rintro e u' w' ⟨rfl, rfl, k1, k2⟩
  exact ⟨_, results_tmp2 rfl _ _ _, rfl, k1, k2⟩
end Go.Proofs.YtanbiinomagdbaaGreat

/- A custom stream: Write, Taken. -/
namespace Go.Proofs.YtanbiinomagdbaaGreat
open Go.RowKit

theorem CS.write_long {C : CS} {x : List UInt8} (h : 1048576 < x.length) : C.write x = (0, 5, C) := by unfold CS.write; rw [if_pos h]
theorem CS.write_none {C : CS} : C.write [] = (0, 0, C) := by unfold CS.write; rw [if_neg (by decide), if_pos rfl]
theorem CS.write_last {C : CS} {x : List UInt8} (h : x.length ≤ 1048576) (h0 : x ≠ []) (hw : C.writes = []) : C.write x = ((x.length : Int), 0, ⟨C.reads, [], C.taken ++ x⟩) := by unfold CS.write; rw [if_neg (by omega), if_neg h0, hw]
theorem CS.write_fails {C : CS} {x : List UInt8} {k : Int} {r : List Int} (h : x.length ≤ 1048576) (h0 : x ≠ []) (hw : C.writes = k :: r) (hk : k < 0) : C.write x = (0, 101, ⟨C.reads, r, C.taken⟩) := by
  unfold CS.write; rw [if_neg (by omega), if_neg h0, hw]; exact if_pos hk
theorem CS.write_some {C : CS} {x : List UInt8} {k : Nat} {r : List Int} (h : x.length ≤ 1048576) (h0 : x ≠ []) (hw : C.writes = (k : Int) :: r) : C.write x = (((min k x.length : Nat) : Int), 0, ⟨C.reads, r, C.taken ++ x.take (min k x.length)⟩) := by
  unfold CS.write; rw [if_neg (by omega), if_neg h0, hw]; simp only [Int.toNat_natCast]; exact if_neg (by omega)
set_option maxRecDepth 100000 in
set_option maxHeartbeats 1000000 in
theorem ctaken_any (O : Nat → Prop) (g : Nat) (C : CS) (w : World) (h : CusAt w O g C) (hl : C.taken.length ≤ 140737488351232) :
    Calls Tryz.prog 108 #[.pointer (some ⟨g, 0, none⟩)] w fun e w' => ∃ v, e = .returned v ∧ w'.ownsRow w.heap.size 5 1 v C.taken.length (C.taken.map bv) ∧ Below w.heap.size w w' := by
  obtain ⟨rv, wv, tv, R, N, ⟨h0, h1, h2, h3⟩, ⟨f1, f2, f3⟩, hA, hN, hT, ht, hR, hN2, og, l1, l2, l3⟩ := h
  have HC := hide (mclone_any tv C.taken w (Bys.of_owns hT) hl)
  clear hA hT ht hR hN2 l1 l2 l3 h1 h2 hN
  go_enter Tryz.func108, Tryz.ntmps108
  go_wp2_with (first | (go_at_call 180; refine (cMade_yes g _ h0).mono ?_; rintro _ _ ⟨rfl, rfl⟩) | (go_at_call 182; refine HC.out.mono ?_; rintro _ w2 ⟨v, rfl, k1, k2⟩; have K1 := hide k1; clear k1) | fail)
  go_ret
  exact ⟨v, rfl, K1.out, k2⟩
theorem CusAt.take {W : World} {O : Nat → Prop} {g : Nat} {C : CS} {a : Option Addr} {n c : Nat} {x : List UInt8} (ty : TypeId) (h : CusAt W O g C) (hx : Bys W (.slice a n c) x) (hl : C.taken.length + x.length ≤ 140737488351232) :
    ∃ ta tl tc sa sl sc w', W.cell? ⟨g, 3, none⟩ = some (.slice ta tl tc) ∧ W.frozen? ⟨g, 3, none⟩ = false ∧ (Builtin.append_ #[40, 40] ty #[.slice ta tl tc, .slice a n c]).run Tryz.prog W = .ok (.slice sa sl sc) w' ∧ w'.cell? ⟨g, 3, none⟩ = some (.slice ta tl tc) ∧ w'.frozen? ⟨g, 3, none⟩ = false ∧
      CStep W O g ⟨C.reads, C.writes, C.taken ++ x⟩ (w'.setCell ⟨g, 3, none⟩ (.slice sa sl sc)) := by
  obtain ⟨rv, wv, tv, R, N, ⟨h0, h1, h2, h3⟩, ⟨f1, f2, f3⟩, hA, hN, hT, ht, hR, hN2, og, l1, l2, l3⟩ := h
  obtain ⟨ta, tc, rfl⟩ := owns_slice hT
  obtain ⟨s', w', hrun, HO, hgr, hbl⟩ := run_append_bytes W ty 0 (.slice ta C.taken.length tc) (.slice a n c) C.taken x hT hx hl (Nat.zero_le _)
  obtain ⟨sa, sc, rfl⟩ := owns_slice HO.out
  have hTu : Turned (fun k => (Value.slice ta C.taken.length tc).ownBlock = some k) W w' := ⟨hgr.os, hgr.tape, hgr.output, hgr.size, fun k hk hn => hgr.block k hk (fun e => hn e.symm)⟩
  have hgl : g < W.heap.size := World.block_lt_of_cell? W _ h0
  have kg : w'.heap[g]? = W.heap[g]? := hTu.block g hgl (fun e => (ht g e).2.2.2 rfl)
  have c3 : w'.cell? ⟨g, 3, none⟩ = some (.slice ta C.taken.length tc) := (World.cell?_of_block (w := W) kg).trans h3
  have hs := HO.out
  have hsl : ∀ k, (Value.slice sa (C.taken ++ x).length sc).ownBlock = some k → (O k ∨ W.heap.size ≤ k) ∧ ¬ (R k ∧ k < W.heap.size) ∧ ¬ (N k ∧ k < W.heap.size) ∧ k ≠ g := by
    intro k e
    rcases hbl with e' | e'
    · have e3 := ht k (by rw [← e', e])
      exact ⟨.inl e3.1, fun x => e3.2.1 x.1, fun x => e3.2.2.1 x.1, e3.2.2.2⟩
    · rw [e'] at e
      have e3 : W.heap.size = k := Option.some.inj e
      exact ⟨.inr (by omega), fun x => by omega, fun x => by omega, by omega⟩
  have hRt : ∀ k, R k → k < W.heap.size → w'.heap[k]? = W.heap[k]? := fun k e hl => hTu.block k hl (fun e' => (ht k e').2.1 e)
  have hNt : ∀ k, N k → k < W.heap.size → w'.heap[k]? = W.heap[k]? := fun k e hl => hTu.block k hl (fun e' => (ht k e').2.2.1 e)
  have h0' : CusAt W (fun k => O k ∧ k < W.heap.size) g C := CusAt.trim ⟨rv, wv, _, R, N, ⟨h0, h1, h2, h3⟩, ⟨f1, f2, f3⟩, hA, hN, hT, ht, hR, hN2, og, l1, l2, l3⟩
  refine ⟨ta, _, tc, sa, _, sc, w', h3, f3, hrun, c3, (World.frozen?_of_block (w := W) kg).trans f3, fun k => (O k ∧ k < W.heap.size) ∨ (Value.slice sa (C.taken ++ x).length sc).ownBlock = some k, ?_, fun k e => ?_, ?_⟩
  · obtain ⟨hA', hN'⟩ := cus_rows hA hN
    refine ⟨rv, wv, .slice sa (C.taken ++ x).length sc, fun k => R k ∧ k < W.heap.size, fun k => N k ∧ k < W.heap.size, ⟨?_, ?_, ?_, World.cell?_setCell_same _ _ _ c3⟩, ⟨?_, ?_, ?_⟩, ?_, ?_, ?_, fun k e => ⟨.inr e, (hsl k e).2⟩, fun k e => ⟨.inl ⟨(hR k e.1).1, e.2⟩, (hR k e.1).2.1, fun x => (hR k e.1).2.2 x.1⟩, fun k e => ⟨.inl ⟨(hN2 k e.1).1, e.2⟩, (hN2 k e.1).2⟩, .inl ⟨og, hgl⟩, l1, l2, l3⟩
    · exact (World.cell?_setCell_other _ _ _ _ (by simp)).trans ((World.cell?_of_block (w := W) kg).trans h0)
    · exact (World.cell?_setCell_other _ _ _ _ (by simp)).trans ((World.cell?_of_block (w := W) kg).trans h1)
    · exact (World.cell?_setCell_other _ _ _ _ (by simp)).trans ((World.cell?_of_block (w := W) kg).trans h2)
    · exact (World.frozen?_setCell _ _ _ _).trans ((World.frozen?_of_block (w := W) kg).trans f1)
    · exact (World.frozen?_setCell _ _ _ _).trans ((World.frozen?_of_block (w := W) kg).trans f2)
    · exact (World.frozen?_setCell _ _ _ _).trans ((World.frozen?_of_block (w := W) kg).trans f3)
    · exact hA'.keep fun k e hl => (Below.heap_setCell _ _ _ _ (hR k e.1).2.1).trans (hRt k e.1 hl)
    · exact hN'.keep fun k e hl => (Below.heap_setCell _ _ _ _ (hN2 k e.1).2).trans (hNt k e.1 hl)
    · exact owns_keep hs fun k e => Below.heap_setCell _ _ _ _ (hsl k e).2.2.2
  · rcases e with e | e
    · exact .inl e.1
    · exact (hsl k e).1
  · exact (hTu.mono (S' := O) (fun k e => (ht k e).1)).set (.inl og)
set_option maxHeartbeats 1000000 in
theorem cwrite_long (O : Nat → Prop) (g : Nat) (C : CS) (a : Option Addr) (n c : Nat) (w : World) (h : CusAt w O g C) (hl : 1048576 < n) :
    Calls Tryz.prog 100 #[.pointer (some ⟨g, 0, none⟩), .slice a n c] w fun e w' => e = .returned (.tuple #[.int .i64 0, .int .i64 5]) ∧ w = w' := by
  obtain ⟨rv, wv, tv, R, N, ⟨h0, -⟩, -⟩ := h
  have hd : (1048576 : Int) < (n : Int) := by omega
  go_enter Tryz.func100, Tryz.ntmps100
  go_wp2_with (first | (go_at_call 180; refine (cMade_yes g _ h0).mono ?_; rintro _ _ ⟨rfl, rfl⟩) | fail)
  go_ret2
  exact ⟨rfl, rfl⟩
set_option maxHeartbeats 1000000 in
theorem cwrite_none (O : Nat → Prop) (g : Nat) (C : CS) (a : Option Addr) (c : Nat) (w : World) (h : CusAt w O g C) :
    Calls Tryz.prog 100 #[.pointer (some ⟨g, 0, none⟩), .slice a 0 c] w fun e w' => e = .returned (.tuple #[.int .i64 0, .int .i64 0]) ∧ w = w' := by
  obtain ⟨rv, wv, tv, R, N, ⟨h0, -⟩, -⟩ := h
  go_enter Tryz.func100, Tryz.ntmps100
  go_wp2_with (first | (go_at_call 180; refine (cMade_yes g _ h0).mono ?_; rintro _ _ ⟨rfl, rfl⟩) | fail)
  go_ret2
  exact ⟨rfl, rfl⟩
set_option maxRecDepth 100000 in
set_option maxHeartbeats 2000000 in
theorem cwrite_walk (O : Nat → Prop) (g : Nat) (C C2 : CS) (x : List UInt8) (a : Option Addr) (c m : Nat) (E : Int) (w : World) (h : CusAt w O g C) (hx : Bys w (.slice a x.length c) x) (hc : x.length ≤ c) (hap : ∀ k, (Value.slice a x.length c).ownBlock = some k → ¬ O k) (hl : x.length ≤ 1048576) (h0x : 0 < x.length) (hm : m ≤ x.length) (hT : C2.taken.length + m ≤ 140737488351232)
    (hH : Calls Tryz.prog 183 #[.pointer (some ⟨g, 0, none⟩), .int .i64 (x.length : Int)] w fun e w' => e = .returned (.tuple #[.int .i64 (m : Int), .int .i64 E]) ∧ CusAt w' O g C2 ∧ Turned O w w') :
    Calls Tryz.prog 100 #[.pointer (some ⟨g, 0, none⟩), .slice a x.length c] w fun e w' => e = .returned (.tuple #[.int .i64 (m : Int), .int .i64 E]) ∧ CStep w O g ⟨C2.reads, C2.writes, C2.taken ++ x.take m⟩ w' := by
  have h0 : w.cell? ⟨g, 0, none⟩ = some (.bool true) := by obtain ⟨rv, wv, tv, R, N, ⟨h0, -⟩, -⟩ := h; exact h0
  obtain ⟨_, xb, xo, rfl, hxl, hcells⟩ := bys_block hx h0x
  have htl : (x.take m).length = m := by rw [List.length_take]; omega
  have hcut : Bys w (.slice (some ⟨xb, xo, none⟩) m c) (x.take m) := by have := bys_cut hx 0 m c (by omega); simpa using this
  have HH := hide hH
  have HX := hide (And.intro hcut hap)
  have hd : ¬ (1048576 : Int) < (x.length : Int) := by omega
  have hd2 : ((x.length : Int) == 0) = false := by simp; intro e; rw [e] at h0x; simp at h0x
  have hmc : m ≤ c := by omega
  clear hH hx hcells hcut hap h
  go_enter Tryz.func100, Tryz.ntmps100
  go_wp2_with (first | (go_at_call 180; refine (cMade_yes g _ h0).mono ?_; rintro _ _ ⟨rfl, rfl⟩) | (go_at_call 183; refine HH.out.mono ?_; rintro _ w2 ⟨rfl, k1, k2⟩; have K1 := hide k1; have K2 := hide k2; clear k1 k2) | fail)
  have hxk : Bys w2.drew (.slice (some ⟨xb, xo, none⟩) m c) (x.take m) := (HX.out.1.turned K2.out (fun k hk _ => HX.out.2 k (by simpa [Value.ownBlock] using hk))).below (Below.refl _ _).drew
  obtain ⟨ta, tl, tc, sa, sl, sc, w3, t1, t2, hrun, t3, t4, hS⟩ := (K1.out.below (Below.refl _ _).drew).take 40 hxk (by rw [htl]; exact hT)
  have HR := hide hrun
  have HS := hide hS
  have u1 : w2.cell? ⟨g, 3, none⟩ = some (.slice ta tl tc) := t1
  have u2 : w2.frozen? ⟨g, 3, none⟩ = false := t2
  clear hrun hS t1 t2 hxk HX HH
  go_region_law (first | (refine step_append_run _ (by rfl) _ _ _ _ (by rfl) _ _ (by rfl) (by rfl) _ _ HR.out ?_) | fail)
  go_wp2
  go_ret2
  obtain ⟨O', a1, a2, a3⟩ := HS.out
  exact ⟨rfl, O', a1, fun k e => (a2 k e).imp id (fun (e' : w2.heap.size ≤ k) => Nat.le_trans K2.out.size e'), K2.out.trans ((Turned.of_below (S := O) (Below.refl _ w2).drew).trans a3 (fun _ _ e => e)) (fun _ _ e => e)⟩
theorem cwrite_any (O : Nat → Prop) (g : Nat) (C : CS) (x : List UInt8) (a : Option Addr) (c : Nat) (w : World) (h : CusAt w O g C) (hx : Bys w (.slice a x.length c) x) (hc : x.length ≤ c) (hap : 0 < x.length → ∀ k, (Value.slice a x.length c).ownBlock = some k → ¬ O k) (hp : ∀ k r, C.writes = k :: r → -1 ≤ k) (hT : C.taken.length + x.length ≤ 140737488351232) :
    Calls Tryz.prog 100 #[.pointer (some ⟨g, 0, none⟩), .slice a x.length c] w fun e w' => e = .returned (.tuple #[.int .i64 (C.write x).1, .int .i64 (C.write x).2.1]) ∧ CStep w O g (C.write x).2.2 w' := by
  by_cases hl : 1048576 < x.length
  · rw [CS.write_long hl]
    refine (cwrite_long O g C a x.length c w h hl).mono ?_
    rintro e w' ⟨rfl, rfl⟩
    exact ⟨rfl, CStep.same h⟩
  by_cases h0 : x = []
  · subst h0
    rw [CS.write_none]
    refine (cwrite_none O g C a c w h).mono ?_
    rintro e w' ⟨rfl, rfl⟩
    exact ⟨rfl, CStep.same h⟩
  have h0x := List.length_pos_iff.2 h0
  cases hw : C.writes with
  | nil =>
    rw [CS.write_last (by omega) h0 hw]
    have := cwrite_walk O g C C x a c x.length 0 w h hx hc (hap h0x) (by omega) h0x (Nat.le_refl _) hT ((howMany_all O g x.length C w h hw).mono (by rintro e w' ⟨rfl, rfl⟩; exact ⟨rfl, h, Turned.refl _ _⟩))
    rw [List.take_of_length_le (Nat.le_refl _), hw] at this
    exact this
  | cons k r =>
    by_cases hk : k < 0
    · obtain rfl : k = -1 := by have := hp k r hw; omega
      rw [CS.write_fails (by omega) h0 hw (by decide)]
      have := cwrite_walk O g C ⟨C.reads, r, C.taken⟩ x a c 0 101 w h hx hc (hap h0x) (by omega) h0x (Nat.zero_le _) (by show C.taken.length + 0 ≤ _; omega) (howMany_fails O g x.length C r w h hw)
      rw [List.take_zero, List.append_nil] at this
      exact this
    · obtain ⟨k, rfl⟩ : ∃ n : Nat, k = n := ⟨k.toNat, by omega⟩
      rw [CS.write_some (by omega) h0 hw]
      exact cwrite_walk O g C ⟨C.reads, r, C.taken⟩ x a c (min k x.length) 0 w h hx hc (hap h0x) (by omega) h0x (by omega) (by show C.taken.length + min k x.length ≤ _; omega) (howMany_some O g x.length k C r w h hw)
end Go.Proofs.YtanbiinomagdbaaGreat

/- The reference's custom streams: in memory; Read. -/
namespace Go.Proofs.YtanbiinomagdbaaGreat
open Go.RowKit

structure RCusP (W : World) (O : Nat → Prop) (g : Nat) (C : CS) (rv wv tv : Value) (m : Int) (R N : Nat → Prop) : Prop where
  row : W.heap[g]? = some (.cells (rmc 4 tv 0 0 rv wv m) 189)
  ans : Ans W R rv C.reads
  num : NRow W N wv C.writes
  tak : W.ownsRow 0 5 1 tv C.taken.length (C.taken.map bv)
  ot : ∀ k, tv.ownBlock = some k → O k ∧ ¬ R k ∧ ¬ N k ∧ k ≠ g
  oR : ∀ k, R k → O k ∧ k ≠ g ∧ ¬ N k
  oN : ∀ k, N k → O k ∧ k ≠ g
  og : O g
  z1 : C.reads.length ≤ 4096
  z2 : C.writes.length ≤ 4096
  z3 : ∀ x ∈ C.reads, x.1.length ≤ 1048576
def RCusAt (W : World) (O : Nat → Prop) (g : Nat) (C : CS) : Prop := ∃ rv wv tv m, ∃ R N : Nat → Prop, RCusP W O g C rv wv tv m R N
def RCStep (w : World) (O : Nat → Prop) (g : Nat) (C : CS) (w' : World) : Prop := ∃ O', RCusAt w' O' g C ∧ (∀ k, O' k → O k ∨ w.heap.size ≤ k) ∧ Turned O w w'
theorem RCusP.lt {W : World} {O : Nat → Prop} {g : Nat} {C : CS} {rv wv tv : Value} {m : Int} {R N : Nat → Prop} (h : RCusP W O g C rv wv tv m R N) : g < W.heap.size := (Array.getElem?_eq_some_iff.1 h.row).1
theorem RCusP.keep {W W' : World} {O : Nat → Prop} {g : Nat} {C : CS} {rv wv tv : Value} {m : Int} {R N : Nat → Prop} (h : RCusP W O g C rv wv tv m R N) (hk : ∀ j, O j → j < W.heap.size → W'.heap[j]? = W.heap[j]?) : RCusP W' O g C rv wv tv m R N :=
  ⟨(hk g h.og h.lt).trans h.row, h.ans.keep fun k e hl => hk k (h.oR k e).1 hl, h.num.keep fun k e hl => hk k (h.oN k e).1 hl, owns_keep h.tak fun k e => hk k (h.ot k e).1 (h.tak.lt k e).2, h.ot, h.oR, h.oN, h.og, h.z1, h.z2, h.z3⟩
theorem RCusAt.keep {W W' : World} {O : Nat → Prop} {g : Nat} {C : CS} (h : RCusAt W O g C) (hk : ∀ j, O j → j < W.heap.size → W'.heap[j]? = W.heap[j]?) : RCusAt W' O g C := by
  obtain ⟨rv, wv, tv, m, R, N, h⟩ := h
  exact ⟨rv, wv, tv, m, R, N, h.keep hk⟩
theorem RCusAt.below {W W' : World} {O : Nat → Prop} {g : Nat} {C : CS} (h : RCusAt W O g C) (hB : Below W.heap.size W W') : RCusAt W' O g C := h.keep fun j _ hl => hB.block j hl
theorem RCusP.below {W W' : World} {O : Nat → Prop} {g : Nat} {C : CS} {rv wv tv : Value} {m : Int} {R N : Nat → Prop} (h : RCusP W O g C rv wv tv m R N) (hB : Below W.heap.size W W') : RCusP W' O g C rv wv tv m R N := h.keep fun j _ hl => hB.block j hl
theorem RCusP.set {W : World} {O : Nat → Prop} {g : Nat} {C C' : CS} {rv wv tv rv' wv' : Value} {m m' : Int} {R N : Nat → Prop} (h : RCusP W O g C rv wv tv m R N) (j : Nat) (u : Value) (hrow : (W.setCell ⟨g, j, none⟩ u).heap[g]? = some (.cells (rmc 4 tv 0 0 rv' wv' m') 189))
    (hA : Ans W R rv' C'.reads) (hN : NRow W N wv' C'.writes) (ht : C'.taken = C.taken) (z1 : C'.reads.length ≤ 4096) (z2 : C'.writes.length ≤ 4096) (z3 : ∀ x ∈ C'.reads, x.1.length ≤ 1048576) : RCusP (W.setCell ⟨g, j, none⟩ u) O g C' rv' wv' tv m' R N :=
  ⟨hrow, hA.keep fun k e _ => heap_setCell_other _ _ _ _ (h.oR k e).2.1, hN.keep fun k e _ => heap_setCell_other _ _ _ _ (h.oN k e).2, by rw [ht]; exact owns_keep h.tak fun k e => heap_setCell_other _ _ _ _ (h.ot k e).2.2.2, h.ot, h.oR, h.oN, h.og, z1, z2, z3⟩
theorem RCusP.tick {W : World} {O : Nat → Prop} {g : Nat} {C : CS} {rv wv tv : Value} {m : Int} {R N : Nat → Prop} (h : RCusP W O g C rv wv tv m R N) (m' : Int) : RCusP (W.setCell ⟨g, 8, none⟩ (.int .i64 m')) O g C rv wv tv m' R N :=
  h.set 8 _ (Go.heap_setCell_same W g 8 _ _ (.int .i64 m') h.row) h.ans h.num rfl h.z1 h.z2 h.z3
theorem RCusP.pop {W : World} {O : Nat → Prop} {g : Nat} {C : CS} {rv wv tv : Value} {m : Int} {R N : Nat → Prop} {x : List UInt8 × Int} {r : List (List UInt8 × Int)} (h : RCusP W O g C rv wv tv m R N) (hr : C.reads = x :: r) :
    ∃ b off cap va vc, rv = .slice (some ⟨b, off, none⟩) (r.length + 1) cap ∧ W.cell? ⟨b, off, none⟩ = some (.slice va x.1.length vc) ∧ W.cell? ⟨b, off + 1, none⟩ = some (.int .i64 x.2) ∧ Bys W (.slice va x.1.length vc) x.1 ∧ x.1.length ≤ vc ∧ r.length + 1 ≤ cap ∧ (R b ∧ b < W.heap.size ∧ W.frozen? ⟨b, off, none⟩ = false) ∧
      (1 < cap → RCusP (W.setCell ⟨g, 4, none⟩ (.slice (some ⟨b, off + 2, none⟩) r.length (cap - 1))) O g ⟨r, C.writes, C.taken⟩ (.slice (some ⟨b, off + 2, none⟩) r.length (cap - 1)) wv tv m R N) ∧
      (cap = 1 → r = [] ∧ ∀ a, RCusP (W.setCell ⟨g, 4, none⟩ (.slice a 0 0)) O g ⟨r, C.writes, C.taken⟩ (.slice a 0 0) wv tv m R N) := by
  have hA := h.ans
  have z1 := h.z1
  have z3 := h.z3
  rw [hr] at hA z1 z3
  obtain ⟨b, off, cap, rfl, hcap, hb, ⟨va, vc, a1, a2, a3, a4, a5, a6, a7⟩, hrest⟩ := hA.head
  have z1' : r.length ≤ 4096 := by simp at z1; omega
  refine ⟨b, off, cap, va, vc, rfl, a1, a2, a5, a6, hcap, ⟨hb, World.block_lt_of_cell? W _ a1, a3⟩, fun hc => ?_, fun hc => ?_⟩
  · exact h.set 4 _ (Go.heap_setCell_same W g 4 _ _ _ h.row) ⟨_, _, rfl, by show r.length ≤ cap - 1; omega, fun _ => ⟨b, off + 2, rfl, hb, hrest⟩⟩ h.num rfl z1' h.z2 (fun y hy => z3 y (List.mem_cons_of_mem _ hy))
  · have hr0 : r = [] := List.length_eq_zero_iff.1 (by omega)
    subst hr0
    exact ⟨rfl, fun a => h.set 4 _ (Go.heap_setCell_same W g 4 _ _ _ h.row) ⟨_, _, rfl, Nat.le_refl _, fun h => absurd h (by simp)⟩ h.num rfl (by simp) h.z2 (fun y hy => by simp at hy)⟩
theorem RCusP.cut {W : World} {O : Nat → Prop} {g n : Nat} {C : CS} {rv wv tv : Value} {m : Int} {R N : Nat → Prop} {d : List UInt8} {r : List (List UInt8 × Int)} (h : RCusP W O g C rv wv tv m R N) (hr : C.reads = (d, 0) :: r) (hn : n < d.length) :
    ∃ b off cap db doff dc, rv = .slice (some ⟨b, off, none⟩) (r.length + 1) cap ∧ W.cell? ⟨b, off, none⟩ = some (.slice (some ⟨db, doff, none⟩) d.length dc) ∧ W.cell? ⟨b, off + 1, none⟩ = some (.int .i64 0) ∧ W.frozen? ⟨b, off, none⟩ = false ∧ d.length ≤ dc ∧ Bys W (.slice (some ⟨db, doff, none⟩) d.length dc) d ∧ (b ≠ g ∧ b < W.heap.size ∧ O b) ∧
      RCusP (W.setCell ⟨b, off, none⟩ (.slice (some ⟨db, doff + n, none⟩) (d.length - n) (dc - n))) O g ⟨(d.drop n, 0) :: r, C.writes, C.taken⟩ rv wv tv m R N := by
  have hA := h.ans
  have z1 := h.z1
  have z3 := h.z3
  rw [hr] at hA z1 z3
  obtain ⟨b, off, cap, rfl, hcap, hb, ⟨va, vc, a1, a2, a3, a4, a5, a6, a7⟩, hrest⟩ := hA.head
  obtain ⟨_, db, doff, rfl, hdl, hdc⟩ := bys_block a5 (by show 0 < d.length; omega)
  have hne : ∀ k, Value.slice (some ⟨db, doff, none⟩) (d, (0 : Int)).1.length vc ≠ .int .u8 k := fun k e => by cases e
  have hbg := (h.oR b hb).2.1
  refine ⟨b, off, cap, db, doff, vc, rfl, a1, a2, a3, a6, a5, ⟨hbg, World.block_lt_of_cell? W _ a1, (h.oR b hb).1⟩, ⟨(heap_setCell_other _ _ _ _ (fun e => hbg e.symm)).trans h.row, ?_, h.num.set a1 (.inr fun k e e' => (h.oR b hb).2.2 (by have e2 : k = b := e'; rw [← e2]; exact e)) _, owns_keep h.tak fun k e => heap_setCell_other _ _ _ _ (fun e' => (h.ot k e).2.1 (by have e2 : k = b := e'; rw [e2]; exact hb)), h.ot, h.oR, h.oN, h.og, by simpa using z1, h.z2, fun x hx => ?_⟩⟩
  · refine ⟨_, cap, by rw [List.length_cons], by rw [List.length_cons]; exact hcap, fun _ => ⟨b, off, rfl, hb, fun j hj => ?_⟩⟩
    cases j with
    | zero =>
      rw [Nat.zero_mul, Nat.add_zero]
      refine ⟨some ⟨db, doff + n, none⟩, vc - n, ?_, (World.cell?_setCell_other _ _ _ _ (by simp)).trans a2, (World.frozen?_setCell _ _ _ _).trans a3, (World.frozen?_setCell _ _ _ _).trans a4, ?_, ?_, fun _ k e => a7 (by show 0 < d.length; omega) k (by simpa [Value.ownBlock] using e)⟩
      · show World.cell? _ _ = some (.slice _ (d.drop n).length _)
        rw [List.length_drop]
        exact World.cell?_setCell_same _ _ _ a1
      · show Bys _ (.slice _ (d.drop n).length _) (d.drop n)
        have := (bys_cut a5 n (d.length - n) (vc - n) (by show n + (d.length - n) ≤ d.length; omega)).set a1 hne (.slice (some ⟨db, doff + n, none⟩) (d.length - n) (vc - n))
        rw [List.length_drop]
        rwa [List.take_of_length_le (by rw [List.length_drop]; exact Nat.le_refl _)] at this
      · show (d.drop n).length ≤ _
        rw [List.length_drop]
        have : d.length ≤ vc := a6
        omega
    | succ j =>
      have hj' : j < r.length := by simpa using hj
      have := (hrest j hj').set a1 hne (by simp <;> omega) (by simp <;> omega) (.slice (some ⟨db, doff + n, none⟩) (d.length - n) (vc - n))
      rw [show off + (j + 1) * 2 = off + 2 + j * 2 by omega]
      simpa using this
  · rcases List.mem_cons.1 hx with rfl | hx
    · show (d.drop n).length ≤ 1048576
      have : d.length ≤ 1048576 := z3 (d, 0) (by simp)
      rw [List.length_drop]; omega
    · exact z3 x (List.mem_cons_of_mem _ hx)
def RAnsw (O : Nat → Prop) (g : Nat) (C : CS) (n : Int) (w : World) (e : Ending) (w' : World) : Prop := ∃ v, e = .returned (.tuple #[v, .int .i64 (C.read n).2.1]) ∧ Bys w' v (C.read n).1 ∧ RCusAt w' O g (C.read n).2.2 ∧ Turned O w w'
set_option maxRecDepth 100000 in
set_option maxHeartbeats 2000000 in
theorem ranswer_end (O : Nat → Prop) (g n : Nat) (C : CS) (w : World) (h : RCusAt w O g C) (h1 : 0 < n) (h2 : n ≤ 1048576) (hr : C.reads = []) : Calls Tryz.prog 101 #[.pointer (some ⟨g, 0, none⟩), .int .i64 (n : Int)] w (RAnsw O g C n w) := by
  have H := hide h
  obtain ⟨rv, wv, tv, m, R, N, hp⟩ := h
  have hA := hp.ans
  rw [hr] at hA
  obtain ⟨a, cap, rfl, -⟩ := hA
  have q4 : w.cell? ⟨g, 4, none⟩ = some (.slice a 0 cap) := cell_of_row w g 4 _ _ _ hp.row
  unfold RAnsw
  rw [CS.read_end (by simp [inR]; omega) (by omega) hr]
  clear hp
  go_enter Tryz.func101, Tryz.ntmps101
  go_wp2
  go_ret2
  exact ⟨_, rfl, .inl ⟨rfl, rfl⟩, H.out, Turned.refl _ _⟩
set_option maxRecDepth 100000 in
set_option maxHeartbeats 2000000 in
theorem ranswer_cut (O : Nat → Prop) (g n : Nat) (C : CS) (d : List UInt8) (r : List (List UInt8 × Int)) (w : World) (h : RCusAt w O g C) (h1 : 0 < n) (h2 : n ≤ 1048576) (hr : C.reads = (d, 0) :: r) (hn : n < d.length) : Calls Tryz.prog 101 #[.pointer (some ⟨g, 0, none⟩), .int .i64 (n : Int)] w (RAnsw O g C n w) := by
  obtain ⟨rv, wv, tv, m, R, N, hp⟩ := h
  have hgl := hp.lt
  obtain ⟨b, off, cap, db, doff, dc, rfl, c0, c1, f0, hdc, hby, ⟨hbg, hbl, ob⟩, hP⟩ := hp.cut hr hn
  have q4 : w.cell? ⟨g, 4, none⟩ = some (.slice (some ⟨b, off, none⟩) (r.length + 1) cap) := cell_of_row w g 4 _ _ _ hp.row
  unfold RAnsw
  rw [CS.read_cut (by simp [inR]; omega) (by omega) hr (by simpa using hn), Int.toNat_natCast]
  have hBa := recv4 w (Obj.cells #[.slice (some ⟨db, doff, none⟩) d.length dc, .int .i64 0] 295)
  have q4a : (w.alloc (Obj.cells #[.slice (some ⟨db, doff, none⟩) d.length dc, .int .i64 0] 295)).cell? ⟨g, 4, none⟩ = some (.slice (some ⟨b, off, none⟩) (r.length + 1) cap) := (hBa.cell (p := ⟨g, 4, none⟩) hgl).trans q4
  have c0a : (w.alloc (Obj.cells #[.slice (some ⟨db, doff, none⟩) d.length dc, .int .i64 0] 295)).cell? ⟨b, off, none⟩ = some (.slice (some ⟨db, doff, none⟩) d.length dc) := (hBa.cell (p := ⟨b, off, none⟩) hbl).trans c0
  have f0a : (w.alloc (Obj.cells #[.slice (some ⟨db, doff, none⟩) d.length dc, .int .i64 0] 295)).frozen? ⟨b, off, none⟩ = false := (hBa.frozen (p := ⟨b, off, none⟩) hbl).trans f0
  have h7 : (0 : Int) < (r.length : Int) + 1 := by omega
  have h8 : min (n : Int) (d.length : Int) = (n : Int) := by omega
  have h9 : ((n : Int) == (d.length : Int)) = false := by simp; omega
  have h10 : n ≤ dc := by omega
  have h11 : ¬ dc = n := by omega
  have h12 : (n : Int) ≤ (d.length : Int) := by omega
  have h13 : (n : Int) < (dc : Int) := by omega
  have H : Hid (∀ W', Below w.heap.size w W' → RCusP (W'.setCell ⟨b, off, none⟩ (.slice (some ⟨db, doff + n, none⟩) (d.length - n) (dc - n))) O g ⟨(d.drop n, 0) :: r, C.writes, C.taken⟩ (.slice (some ⟨b, off, none⟩) (r.length + 1) cap) wv tv m R N) := hide fun W' hB => by
    obtain ⟨b', off', cap', db', doff', dc', e, c0', -, -, -, -, -, hP'⟩ := (hp.below hB).cut hr hn
    cases e
    have e0 := (hB.cell (p := ⟨b, off, none⟩) hbl).trans c0
    rw [e0] at c0'
    cases c0'
    exact hP'
  have HY := hide (bys_cut hby 0 n dc (by omega))
  clear hp hP hby hr
  go_enter Tryz.func101, Tryz.ntmps101
  go_wp2_with fail
  obtain ⟨l0, l1⟩ := duo_cells w (.slice (some ⟨db, doff, none⟩) d.length dc) (.int .i64 0) 295
  have HBa := hide hBa
  have hnb : ¬ b = w.heap.size := by omega
  have hnb' : ¬ w.heap.size = b := by omega
  clear hBa l1
  generalize w.alloc (Obj.cells #[.slice (some ⟨db, doff, none⟩) d.length dc, .int .i64 0] 295) = wA at *
  have hl0 : ∀ u, (wA.drew.setCell ⟨b, off, none⟩ u).cell? ⟨w.heap.size, 0, none⟩ = some (.slice (some ⟨db, doff, none⟩) d.length dc) := fun u => (World.cell?_setCell_far _ _ _ _ (by show b ≠ w.heap.size; omega)).trans l0
  go_region
  all_goals
    go_wp2
    go_ret2
    have hBd := HBa.out.trans ((Below.refl _ wA).drew.mono HBa.out.size)
    have hb1 : Bys w (.slice (some ⟨db, doff, none⟩) n dc) (d.take n) := by simpa using HY.out
    exact ⟨_, rfl, (hb1.below hBd).set c0a (fun k e => by cases e) _, ⟨_, _, _, _, _, _, H.out _ hBd⟩, (Turned.of_below (S := O) hBd).trans ((Turned.refl O wA.drew).set (.inl ob)) (fun _ _ e => e)⟩
set_option maxRecDepth 100000 in
set_option maxHeartbeats 2000000 in
theorem ranswer_pop (O : Nat → Prop) (g n : Nat) (C : CS) (x : List UInt8 × Int) (r : List (List UInt8 × Int)) (w : World) (h : RCusAt w O g C) (h1 : 0 < n) (h2 : n ≤ 1048576) (hr : C.reads = x :: r) (hn : x.2 ≠ 0 ∨ ¬ n < x.1.length) : Calls Tryz.prog 101 #[.pointer (some ⟨g, 0, none⟩), .int .i64 (n : Int)] w (RAnsw O g C n w) := by
  obtain ⟨rv, wv, tv, m, R, N, hp⟩ := h
  have hgl := hp.lt
  obtain ⟨b, off, cap, va, vc, rfl, c0, c1, hby, hvc, hcap, ⟨hRb, hbl, -⟩, -, -⟩ := hp.pop hr
  have q4 : w.cell? ⟨g, 4, none⟩ = some (.slice (some ⟨b, off, none⟩) (r.length + 1) cap) := cell_of_row w g 4 _ _ _ hp.row
  have hBa := recv4 w (Obj.cells #[.slice va x.1.length vc, .int .i64 x.2] 295)
  have q4a : (w.alloc (Obj.cells #[.slice va x.1.length vc, .int .i64 x.2] 295)).cell? ⟨g, 4, none⟩ = some (.slice (some ⟨b, off, none⟩) (r.length + 1) cap) := (hBa.cell (p := ⟨g, 4, none⟩) hgl).trans q4
  have f4a : (w.alloc (Obj.cells #[.slice va x.1.length vc, .int .i64 x.2] 295)).frozen? ⟨g, 4, none⟩ = false := (hBa.frozen (p := ⟨g, 4, none⟩) hgl).trans (frozen_of_row w g 4 _ _ hp.row)
  have h7 : (0 : Int) < (r.length : Int) + 1 := by omega
  have H : Hid (∀ W', Below w.heap.size w W' → (1 < cap → RCusAt (W'.setCell ⟨g, 4, none⟩ (.slice (some ⟨b, off + 2, none⟩) r.length (cap - 1))) O g ⟨r, C.writes, C.taken⟩) ∧ (cap = 1 → r = [] ∧ ∀ a, RCusAt (W'.setCell ⟨g, 4, none⟩ (.slice a 0 0)) O g ⟨r, C.writes, C.taken⟩)) := hide fun W' hB => by
    obtain ⟨b', off', cap', va', vc', e, -, -, -, -, -, -, hP1, hP2⟩ := (hp.below hB).pop hr
    cases e
    exact ⟨fun hc => ⟨_, _, _, _, _, _, hP1 hc⟩, fun hc => ⟨(hP2 hc).1, fun a => ⟨_, _, _, _, _, _, (hP2 hc).2 a⟩⟩⟩
  have HY := hide hby
  have og := hp.og
  obtain ⟨l0, l1⟩ := duo_cells w (.slice va x.1.length vc) (.int .i64 x.2) 295
  have HBa := hide hBa
  clear hp hby hBa
  obtain ⟨d, e⟩ := x
  simp only at *
  unfold RAnsw
  by_cases he : e = 0
  · subst he
    have hn2 : ¬ n < d.length := by rcases hn with h | h; exact absurd rfl h; exact h
    rw [CS.read_all (by simp [inR]; omega) (by omega) hr (by simpa using hn2)]
    have h8 : min (n : Int) (d.length : Int) = (d.length : Int) := by omega
    have h9 : (d.length : Int) ≤ (vc : Int) := by omega
    have H4 := hide (fun (W' : World) (u : Value) (hB : Below (w.alloc (Obj.cells #[.slice va d.length vc, .int .i64 0] 295)).heap.size (w.alloc (Obj.cells #[.slice va d.length vc, .int .i64 0] 295)) W') => ((World.cell?_setCell_far W' ⟨g, 4, none⟩ ⟨w.heap.size, 0, none⟩ u (by show g ≠ w.heap.size; omega)).trans ((hB.cell (p := ⟨w.heap.size, 0, none⟩) (World.block_lt_of_cell? _ _ l0)).trans l0)))
    have l4 : ∀ u, ((w.alloc (Obj.cells #[.slice va d.length vc, .int .i64 0] 295)).setCell ⟨g, 4, none⟩ u).cell? ⟨w.heap.size, 0, none⟩ = some (.slice va d.length vc) := fun u => H4.out _ u (Below.refl _ _)
    clear hr hn H4
    by_cases hc : cap = 1
    · subst hc
      obtain ⟨hr0, hP⟩ := (H.out _ (Below.refl _ _)).2 rfl
      subst hr0
      have HP := hide hP
      clear hP H
      go_enter Tryz.func101, Tryz.ntmps101
      go_wp2
      go_ret2
      exact ⟨_, rfl, (HY.out.set q4 (fun k e => by cases e) _).below (recv4 _ _), (HP.out _).below (recv4 _ _), ((Turned.refl O w).set (.inl og)).trans (Turned.of_below (S := O) (recv4 _ _)) (fun _ _ e => e)⟩
    · have HP := hide ((H.out _ (Below.refl _ _)).1 (by omega))
      clear H
      go_enter Tryz.func101, Tryz.ntmps101
      go_wp2
      go_ret2
      exact ⟨_, rfl, (HY.out.set q4 (fun k e => by cases e) _).below (recv4 _ _), HP.out.below (recv4 _ _), ((Turned.refl O w).set (.inl og)).trans (Turned.of_below (S := O) (recv4 _ _)) (fun _ _ e => e)⟩
  · rw [CS.read_err (by simp [inR]; omega) (by omega) hr he]
    have he2 : (e != 0) = true := by simpa using he
    have he3 : (e == 0) = false := by simpa using he
    clear hr hn
    by_cases hc : cap = 1
    · subst hc
      obtain ⟨hr0, hP⟩ := (H.out _ (Below.refl _ _)).2 rfl
      subst hr0
      have HP := hide hP
      clear hP H
      go_enter Tryz.func101, Tryz.ntmps101
      go_wp2_with fail
      have y1 : ((w.setCell ⟨g, 4, none⟩ (.slice (some ⟨b, off, none⟩) 0 0)).alloc (Obj.cells #[.slice va d.length vc, .int .i64 e] 295)).cell? ⟨w.heap.size, 1, none⟩ = some (.int .i64 e) := by
        have := (duo_cells (w.setCell ⟨g, 4, none⟩ (.slice (some ⟨b, off, none⟩) 0 0)) (.slice va d.length vc) (.int .i64 e) 295).2
        rwa [show (w.setCell ⟨g, 4, none⟩ (.slice (some ⟨b, off, none⟩) 0 0)).heap.size = w.heap.size by simp [World.setCell]] at this
      go_quiet (fail)
      go_wp2
      go_ret2
      exact ⟨_, rfl, .inl ⟨rfl, rfl⟩, (HP.out _).below (below_drewN (recv4 _ _) _), ((Turned.refl O w).set (.inl og)).trans (Turned.of_below (S := O) (below_drewN (recv4 _ _) _)) (fun _ _ e => e)⟩
    · have HP := hide ((H.out _ (Below.refl _ _)).1 (by omega))
      clear H
      go_enter Tryz.func101, Tryz.ntmps101
      go_wp2_with fail
      have y1 : ((w.setCell ⟨g, 4, none⟩ (.slice (some ⟨b, off + 2, none⟩) r.length (cap - 1))).alloc (Obj.cells #[.slice va d.length vc, .int .i64 e] 295)).cell? ⟨w.heap.size, 1, none⟩ = some (.int .i64 e) := by
        have := (duo_cells (w.setCell ⟨g, 4, none⟩ (.slice (some ⟨b, off + 2, none⟩) r.length (cap - 1))) (.slice va d.length vc) (.int .i64 e) 295).2
        rwa [show (w.setCell ⟨g, 4, none⟩ (.slice (some ⟨b, off + 2, none⟩) r.length (cap - 1))).heap.size = w.heap.size by simp [World.setCell]] at this
      go_quiet (fail)
      go_wp2
      go_ret2
      exact ⟨_, rfl, .inl ⟨rfl, rfl⟩, HP.out.below (below_drewN (recv4 _ _) _), ((Turned.refl O w).set (.inl og)).trans (Turned.of_below (S := O) (below_drewN (recv4 _ _) _)) (fun _ _ e => e)⟩
theorem ranswer_any (O : Nat → Prop) (g n : Nat) (C : CS) (w : World) (h : RCusAt w O g C) (h1 : 0 < n) (h2 : n ≤ 1048576) : Calls Tryz.prog 101 #[.pointer (some ⟨g, 0, none⟩), .int .i64 (n : Int)] w (RAnsw O g C n w) := by
  rcases hr : C.reads with _ | ⟨⟨d, e⟩, r⟩
  · exact ranswer_end O g n C w h h1 h2 hr
  · by_cases hc : e ≠ 0 ∨ ¬ n < d.length
    · exact ranswer_pop O g n C (d, e) r w h h1 h2 hr hc
    · obtain rfl : e = 0 := Classical.byContradiction fun he => hc (.inl he)
      exact ranswer_cut O g n C d r w h h1 h2 hr (Classical.byContradiction fun he => hc (.inr he))
set_option maxRecDepth 100000 in
set_option maxHeartbeats 2000000 in
theorem rrcread_any (O : Nat → Prop) (g : Nat) (n : Int) (C : CS) (w : World) (h : RCusAt w O g C) :
    Calls Tryz.prog 21 #[.pointer (some ⟨g, 0, none⟩), .int .i64 n] w (RAnsw O g C n w) := by
  obtain ⟨rv, wv, tv, m, R, N, hp⟩ := h
  have q0 : w.cell? ⟨g, 0, none⟩ = some (.int .i64 4) := cell_of_row w g 0 _ _ _ hp.row
  have q8 : w.cell? ⟨g, 8, none⟩ = some (.int .i64 m) := cell_of_row w g 8 _ _ _ hp.row
  have s8 := frozen_of_row w g 8 _ _ hp.row
  have r0 : ∀ c', (w.setCell ⟨g, 8, none⟩ (.int .i64 c')).cell? ⟨g, 0, none⟩ = some (.int .i64 4) := fun c' => cell_of_row _ g 0 _ _ _ (hp.tick c').row
  have HT : Hid (RCusAt (w.setCell ⟨g, 8, none⟩ (.int .i64 (wrap64 (m + 1)))) O g C ∧ Turned O w (w.setCell ⟨g, 8, none⟩ (.int .i64 (wrap64 (m + 1))))) := hide ⟨⟨_, _, _, _, _, _, hp.tick _⟩, (Turned.refl O w).set (.inl hp.og)⟩
  clear hp
  unfold RAnsw
  by_cases hR : inR n = true
  · obtain ⟨K, rfl⟩ : ∃ K : Nat, n = K := ⟨n.toNat, by simp [inR] at hR; omega⟩
    have hK : K ≤ 1048576 := by simp [inR] at hR; omega
    clear hR
    rcases Nat.eq_zero_or_pos K with rfl | hp
    · rw [show ((0 : Nat) : Int) = 0 from rfl, CS.read_none]
      go_enter Tryz.func21, Tryz.ntmps21
      go_wp2
      go_ret2
      exact ⟨_, rfl, .inl ⟨rfl, rfl⟩, HT.out.1, HT.out.2⟩
    · have e1 : ¬ (K : Int) < 0 := by omega
      have e2 : ¬ 1048576 < (K : Int) := by omega
      have e3 : ((K : Int) == 0) = false := by simp; omega
      have HA := hide (ranswer_any O g K C _ HT.out.1 hp hK)
      unfold RAnsw at HA
      generalize C.read (K : Int) = X at *
      go_enter Tryz.func21, Tryz.ntmps21
      go_wp2_with fail
      refine HA.out.mono ?_
      rintro _ w5 ⟨v, rfl, hby, hC, hT⟩
      have H5 := hide (And.intro hby (And.intro hC (HT.out.2.trans hT (fun _ _ e => e))))
      clear hby hC hT HT HA
      go_wp2
      go_ret2
      exact ⟨_, rfl, H5.out.1, H5.out.2.1, H5.out.2.2⟩
  · have hR' : inR n = false := by simpa using hR
    rw [CS.read_range hR']
    rcases (show n < 0 ∨ (¬ n < 0 ∧ 1048576 < n) by simp [inR] at hR; omega) with e1 | ⟨e1, e2⟩
    all_goals
      clear hR hR'
      go_enter Tryz.func21, Tryz.ntmps21
      go_wp2
      go_ret2
      exact ⟨_, rfl, .inl ⟨rfl, rfl⟩, HT.out.1, HT.out.2⟩
end Go.Proofs.YtanbiinomagdbaaGreat

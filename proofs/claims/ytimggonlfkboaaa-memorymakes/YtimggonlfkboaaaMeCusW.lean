/- A custom stream: Write, Taken. -/
import Derived.Test.YtimggonlfkboaaaMeMany
import Derived.Laws.CopyOwn
namespace Go.Proofs.Ytimggonlfkboaaa
open Go.RowKit

theorem CS.write_long {C : CS} {x : List UInt8} (h : 1048576 < x.length) : C.write x = (0, 5, C) := by unfold CS.write; rw [if_pos h]
theorem CS.write_none {C : CS} : C.write [] = (0, 0, C) := by unfold CS.write; rw [if_neg (by decide), if_pos rfl]
theorem CS.write_last {C : CS} {x : List UInt8} (h : x.length ≤ 1048576) (h0 : x ≠ []) (hw : C.writes = []) : C.write x = ((x.length : Int), 0, ⟨C.reads, [], C.taken ++ x⟩) := by unfold CS.write; rw [if_neg (by omega), if_neg h0, hw]
theorem CS.write_fails {C : CS} {x : List UInt8} {k : Int} {r : List Int} (h : x.length ≤ 1048576) (h0 : x ≠ []) (hw : C.writes = k :: r) (hk : k < 0) : C.write x = (0, 101, ⟨C.reads, r, C.taken⟩) := by
  unfold CS.write; rw [if_neg (by omega), if_neg h0, hw]; exact if_pos hk
theorem CS.write_some {C : CS} {x : List UInt8} {k : Nat} {r : List Int} (h : x.length ≤ 1048576) (h0 : x ≠ []) (hw : C.writes = (k : Int) :: r) : C.write x = (((min k x.length : Nat) : Int), 0, ⟨C.reads, r, C.taken ++ x.take (min k x.length)⟩) := by
  unfold CS.write; rw [if_neg (by omega), if_neg h0, hw]; simp only [Int.toNat_natCast]; exact if_neg (by omega)
set_option maxRecDepth 100000 in
set_option maxHeartbeats 1000000 in
theorem ctaken_any (O : Nat → Prop) (g : Nat) (C : CS) (w : World) (h : CusAt w O g C) (hl : C.taken.length ≤ 140737488351232) :
    Calls Try.prog 47 #[.pointer (some ⟨g, 0, none⟩)] w fun e w' => ∃ v, e = .returned v ∧ w'.ownsRow w.heap.size 5 1 v C.taken.length (C.taken.map bv) ∧ Below w.heap.size w w' := by
  obtain ⟨rv, wv, tv, R, N, ⟨h0, h1, h2, h3⟩, ⟨f1, f2, f3⟩, hA, hN, hT, ht, hR, hN2, og, l1, l2, l3⟩ := h
  have HC := hide (mclone_any tv C.taken w (Bys.of_owns hT) hl)
  clear hA hT ht hR hN2 l1 l2 l3 h1 h2 hN
  go_enter Try.func47, Try.ntmps47
  go_wp2_with (first | (go_at_call 42; refine (cMade_yes g _ h0).mono ?_; rintro _ _ ⟨rfl, rfl⟩) | (go_at_call 44; refine HC.out.mono ?_; rintro _ w2 ⟨v, rfl, k1, k2⟩; have K1 := hide k1; clear k1) | fail)
  go_ret
  exact ⟨v, rfl, K1.out, k2⟩
/-- A nonempty or empty slice that is appended to what was taken. -/
theorem CusAt.take {W : World} {O : Nat → Prop} {g : Nat} {C : CS} {a : Option Addr} {n c : Nat} {x : List UInt8} (ty : TypeId) (h : CusAt W O g C) (hx : Bys W (.slice a n c) x) (hl : C.taken.length + x.length ≤ 140737488351232) :
    ∃ ta tl tc sa sl sc w', W.cell? ⟨g, 3, none⟩ = some (.slice ta tl tc) ∧ W.frozen? ⟨g, 3, none⟩ = false ∧ (Builtin.append_ #[22, 22] ty #[.slice ta tl tc, .slice a n c]).run Try.prog W = .ok (.slice sa sl sc) w' ∧ w'.cell? ⟨g, 3, none⟩ = some (.slice ta tl tc) ∧ w'.frozen? ⟨g, 3, none⟩ = false ∧
      CStep W O g ⟨C.reads, C.writes, C.taken ++ x⟩ (w'.setCell ⟨g, 3, none⟩ (.slice sa sl sc)) := by
  obtain ⟨rv, wv, tv, R, N, ⟨h0, h1, h2, h3⟩, ⟨f1, f2, f3⟩, hA, hN, hT, ht, hR, hN2, og, l1, l2, l3⟩ := h
  obtain ⟨ta, tc, rfl⟩ := owns_slice hT
  obtain ⟨s', w', hrun, HO, hgr, hbl⟩ := run_append_bytes W ty 0 (.slice ta C.taken.length tc) (.slice a n c) C.taken x hT hx hl (Nat.zero_le _)
  obtain ⟨sa, sc, rfl⟩ := owns_slice HO.out
  have hTu : Turned (fun k => (Value.slice ta C.taken.length tc).ownBlock = some k) W w' := ⟨hgr.os, hgr.tape, hgr.output, hgr.size, fun k hk hn => hgr.block k hk (fun e => hn e.symm)⟩
  have hgl : g < W.heap.size := World.block_lt_of_cell? W _ h0
  have kg : w'.heap[g]? = W.heap[g]? := hTu.block g hgl (fun e => (ht g e).2.2.2 rfl)
  have c3 : w'.cell? ⟨g, 3, none⟩ = some (.slice ta C.taken.length tc) := (World.cell?_of_block (w := W) kg).trans h3
  have hs := HO.out
  have hsl : ∀ k, (Value.slice sa (C.taken ++ x).length sc).ownBlock = some k → (O k ∨ W.heap.size ≤ k) ∧ ¬ (R k ∧ k < W.heap.size) ∧ ¬ (N k ∧ k < W.heap.size) ∧ k ≠ g := by
    intro k e
    rcases hbl with e' | e'
    · have e3 := ht k (by rw [← e', e])
      exact ⟨.inl e3.1, fun x => e3.2.1 x.1, fun x => e3.2.2.1 x.1, e3.2.2.2⟩
    · rw [e'] at e
      have e3 : W.heap.size = k := Option.some.inj e
      exact ⟨.inr (by omega), fun x => by omega, fun x => by omega, by omega⟩
  have hRt : ∀ k, R k → k < W.heap.size → w'.heap[k]? = W.heap[k]? := fun k e hl => hTu.block k hl (fun e' => (ht k e').2.1 e)
  have hNt : ∀ k, N k → k < W.heap.size → w'.heap[k]? = W.heap[k]? := fun k e hl => hTu.block k hl (fun e' => (ht k e').2.2.1 e)
  have h0' : CusAt W (fun k => O k ∧ k < W.heap.size) g C := CusAt.trim ⟨rv, wv, _, R, N, ⟨h0, h1, h2, h3⟩, ⟨f1, f2, f3⟩, hA, hN, hT, ht, hR, hN2, og, l1, l2, l3⟩
  refine ⟨ta, _, tc, sa, _, sc, w', h3, f3, hrun, c3, (World.frozen?_of_block (w := W) kg).trans f3, fun k => (O k ∧ k < W.heap.size) ∨ (Value.slice sa (C.taken ++ x).length sc).ownBlock = some k, ?_, fun k e => ?_, ?_⟩
  · obtain ⟨hA', hN'⟩ := cus_rows hA hN
    refine ⟨rv, wv, .slice sa (C.taken ++ x).length sc, fun k => R k ∧ k < W.heap.size, fun k => N k ∧ k < W.heap.size, ⟨?_, ?_, ?_, World.cell?_setCell_same _ _ _ c3⟩, ⟨?_, ?_, ?_⟩, ?_, ?_, ?_, fun k e => ⟨.inr e, (hsl k e).2⟩, fun k e => ⟨.inl ⟨(hR k e.1).1, e.2⟩, (hR k e.1).2.1, fun x => (hR k e.1).2.2 x.1⟩, fun k e => ⟨.inl ⟨(hN2 k e.1).1, e.2⟩, (hN2 k e.1).2⟩, .inl ⟨og, hgl⟩, l1, l2, l3⟩
    · exact (World.cell?_setCell_other _ _ _ _ (by simp)).trans ((World.cell?_of_block (w := W) kg).trans h0)
    · exact (World.cell?_setCell_other _ _ _ _ (by simp)).trans ((World.cell?_of_block (w := W) kg).trans h1)
    · exact (World.cell?_setCell_other _ _ _ _ (by simp)).trans ((World.cell?_of_block (w := W) kg).trans h2)
    · exact (World.frozen?_setCell _ _ _ _).trans ((World.frozen?_of_block (w := W) kg).trans f1)
    · exact (World.frozen?_setCell _ _ _ _).trans ((World.frozen?_of_block (w := W) kg).trans f2)
    · exact (World.frozen?_setCell _ _ _ _).trans ((World.frozen?_of_block (w := W) kg).trans f3)
    · exact hA'.keep fun k e hl => (Below.heap_setCell _ _ _ _ (hR k e.1).2.1).trans (hRt k e.1 hl)
    · exact hN'.keep fun k e hl => (Below.heap_setCell _ _ _ _ (hN2 k e.1).2).trans (hNt k e.1 hl)
    · exact owns_keep hs fun k e => Below.heap_setCell _ _ _ _ (hsl k e).2.2.2
  · rcases e with e | e
    · exact .inl e.1
    · exact (hsl k e).1
  · exact (hTu.mono (S' := O) (fun k e => (ht k e).1)).set (.inl og)
set_option maxHeartbeats 1000000 in
theorem cwrite_long (O : Nat → Prop) (g : Nat) (C : CS) (a : Option Addr) (n c : Nat) (w : World) (h : CusAt w O g C) (hl : 1048576 < n) :
    Calls Try.prog 37 #[.pointer (some ⟨g, 0, none⟩), .slice a n c] w fun e w' => e = .returned (.tuple #[.int .i64 0, .int .i64 5]) ∧ w = w' := by
  obtain ⟨rv, wv, tv, R, N, ⟨h0, -⟩, -⟩ := h
  have hd : (1048576 : Int) < (n : Int) := by omega
  go_enter Try.func37, Try.ntmps37
  go_wp2_with (first | (go_at_call 42; refine (cMade_yes g _ h0).mono ?_; rintro _ _ ⟨rfl, rfl⟩) | fail)
  go_ret2
  exact ⟨rfl, rfl⟩
set_option maxHeartbeats 1000000 in
theorem cwrite_none (O : Nat → Prop) (g : Nat) (C : CS) (a : Option Addr) (c : Nat) (w : World) (h : CusAt w O g C) :
    Calls Try.prog 37 #[.pointer (some ⟨g, 0, none⟩), .slice a 0 c] w fun e w' => e = .returned (.tuple #[.int .i64 0, .int .i64 0]) ∧ w = w' := by
  obtain ⟨rv, wv, tv, R, N, ⟨h0, -⟩, -⟩ := h
  go_enter Try.func37, Try.ntmps37
  go_wp2_with (first | (go_at_call 42; refine (cMade_yes g _ h0).mono ?_; rintro _ _ ⟨rfl, rfl⟩) | fail)
  go_ret2
  exact ⟨rfl, rfl⟩
set_option maxRecDepth 100000 in
set_option maxHeartbeats 2000000 in
theorem cwrite_walk (O : Nat → Prop) (g : Nat) (C C2 : CS) (x : List UInt8) (a : Option Addr) (c m : Nat) (E : Int) (w : World) (h : CusAt w O g C) (hx : Bys w (.slice a x.length c) x) (hc : x.length ≤ c) (hap : ∀ k, (Value.slice a x.length c).ownBlock = some k → ¬ O k) (hl : x.length ≤ 1048576) (h0x : 0 < x.length) (hm : m ≤ x.length) (hT : C2.taken.length + m ≤ 140737488351232)
    (hH : Calls Try.prog 50 #[.pointer (some ⟨g, 0, none⟩), .int .i64 (x.length : Int)] w fun e w' => e = .returned (.tuple #[.int .i64 (m : Int), .int .i64 E]) ∧ CusAt w' O g C2 ∧ Turned O w w') :
    Calls Try.prog 37 #[.pointer (some ⟨g, 0, none⟩), .slice a x.length c] w fun e w' => e = .returned (.tuple #[.int .i64 (m : Int), .int .i64 E]) ∧ CStep w O g ⟨C2.reads, C2.writes, C2.taken ++ x.take m⟩ w' := by
  have h0 : w.cell? ⟨g, 0, none⟩ = some (.bool true) := by obtain ⟨rv, wv, tv, R, N, ⟨h0, -⟩, -⟩ := h; exact h0
  obtain ⟨_, xb, xo, rfl, hxl, hcells⟩ := bys_block hx h0x
  have htl : (x.take m).length = m := by rw [List.length_take]; omega
  have hcut : Bys w (.slice (some ⟨xb, xo, none⟩) m c) (x.take m) := by have := bys_cut hx 0 m c (by omega); simpa using this
  have HH := hide hH
  have HX := hide (And.intro hcut hap)
  have hd : ¬ (1048576 : Int) < (x.length : Int) := by omega
  have hd2 : ((x.length : Int) == 0) = false := by simp; intro e; rw [e] at h0x; simp at h0x
  have hmc : m ≤ c := by omega
  clear hH hx hcells hcut hap h
  go_enter Try.func37, Try.ntmps37
  go_wp2_with (first | (go_at_call 42; refine (cMade_yes g _ h0).mono ?_; rintro _ _ ⟨rfl, rfl⟩) | (go_at_call 50; refine HH.out.mono ?_; rintro _ w2 ⟨rfl, k1, k2⟩; have K1 := hide k1; have K2 := hide k2; clear k1 k2) | fail)
  have hxk : Bys w2.drew (.slice (some ⟨xb, xo, none⟩) m c) (x.take m) := (HX.out.1.turned K2.out (fun k hk _ => HX.out.2 k (by simpa [Value.ownBlock] using hk))).below (Below.refl _ _).drew
  obtain ⟨ta, tl, tc, sa, sl, sc, w3, t1, t2, hrun, t3, t4, hS⟩ := (K1.out.below (Below.refl _ _).drew).take 22 hxk (by rw [htl]; exact hT)
  have HR := hide hrun
  have HS := hide hS
  have u1 : w2.cell? ⟨g, 3, none⟩ = some (.slice ta tl tc) := t1
  have u2 : w2.frozen? ⟨g, 3, none⟩ = false := t2
  clear hrun hS t1 t2 hxk HX HH
  go_region_law (first | (refine step_append_run _ (by rfl) _ _ _ _ (by rfl) _ _ (by rfl) (by rfl) _ _ HR.out ?_) | fail)
  go_wp2
  go_ret2
  obtain ⟨O', a1, a2, a3⟩ := HS.out
  exact ⟨rfl, O', a1, fun k e => (a2 k e).imp id (fun (e' : w2.heap.size ≤ k) => Nat.le_trans K2.out.size e'), K2.out.trans ((Turned.of_below (S := O) (Below.refl _ w2).drew).trans a3 (fun _ _ e => e)) (fun _ _ e => e)⟩
theorem cwrite_any (O : Nat → Prop) (g : Nat) (C : CS) (x : List UInt8) (a : Option Addr) (c : Nat) (w : World) (h : CusAt w O g C) (hx : Bys w (.slice a x.length c) x) (hc : x.length ≤ c) (hap : 0 < x.length → ∀ k, (Value.slice a x.length c).ownBlock = some k → ¬ O k) (hp : ∀ k r, C.writes = k :: r → -1 ≤ k) (hT : C.taken.length + x.length ≤ 140737488351232) :
    Calls Try.prog 37 #[.pointer (some ⟨g, 0, none⟩), .slice a x.length c] w fun e w' => e = .returned (.tuple #[.int .i64 (C.write x).1, .int .i64 (C.write x).2.1]) ∧ CStep w O g (C.write x).2.2 w' := by
  by_cases hl : 1048576 < x.length
  · rw [CS.write_long hl]
    refine (cwrite_long O g C a x.length c w h hl).mono ?_
    rintro e w' ⟨rfl, rfl⟩
    exact ⟨rfl, CStep.same h⟩
  by_cases h0 : x = []
  · subst h0
    rw [CS.write_none]
    refine (cwrite_none O g C a c w h).mono ?_
    rintro e w' ⟨rfl, rfl⟩
    exact ⟨rfl, CStep.same h⟩
  have h0x := List.length_pos_iff.2 h0
  cases hw : C.writes with
  | nil =>
    rw [CS.write_last (by omega) h0 hw]
    have := cwrite_walk O g C C x a c x.length 0 w h hx hc (hap h0x) (by omega) h0x (Nat.le_refl _) hT ((howMany_all O g x.length C w h hw).mono (by rintro e w' ⟨rfl, rfl⟩; exact ⟨rfl, h, Turned.refl _ _⟩))
    rw [List.take_of_length_le (Nat.le_refl _), hw] at this
    exact this
  | cons k r =>
    by_cases hk : k < 0
    · obtain rfl : k = -1 := by have := hp k r hw; omega
      rw [CS.write_fails (by omega) h0 hw (by decide)]
      have := cwrite_walk O g C ⟨C.reads, r, C.taken⟩ x a c 0 101 w h hx hc (hap h0x) (by omega) h0x (Nat.zero_le _) (by show C.taken.length + 0 ≤ _; omega) (howMany_fails O g x.length C r w h hw)
      rw [List.take_zero, List.append_nil] at this
      exact this
    · obtain ⟨k, rfl⟩ : ∃ n : Nat, k = n := ⟨k.toNat, by omega⟩
      rw [CS.write_some (by omega) h0 hw]
      exact cwrite_walk O g C ⟨C.reads, r, C.taken⟩ x a c (min k x.length) 0 w h hx hc (hap h0x) (by omega) h0x (by omega) (by show C.taken.length + min k x.length ≤ _; omega) (howMany_some O g x.length k C r w h hw)
end Go.Proofs.Ytimggonlfkboaaa

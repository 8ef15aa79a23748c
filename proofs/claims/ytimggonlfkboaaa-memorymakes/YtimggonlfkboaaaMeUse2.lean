/- A custom stream: useAnswer, useNumber, as deferred calls. -/
import Derived.Test.YtimggonlfkboaaaMeUse
namespace Go.Proofs.Ytimggonlfkboaaa
open Go.RowKit

set_option maxRecDepth 100000 in
set_option maxHeartbeats 2000000 in
theorem useAnswer_cut (O : Nat → Prop) (g n : Nat) (C : CS) (d : List UInt8) (r : List (List UInt8 × Int)) (u : FrameMode) (w : World) (h : CusAt w O g C) (hr : C.reads = (d, 0) :: r) (hn : n < d.length) :
    CallsD Try.prog 43 #[.pointer (some ⟨g, 0, none⟩), .int .i64 (n : Int)] u w fun e u' w' => u' = u ∧ (e = .returned (.tuple #[]) ∧ CusAt w' O g ⟨(d.drop n, 0) :: r, C.writes, C.taken⟩ ∧ Turned O w w') := by
  obtain ⟨b, off, cap, db, doff, dc, h1, h2, h3, h4, h5, ob⟩ := h.cut hr hn
  have H5 := hide h5
  have h6 : (n : Int) < (d.length : Int) := by omega
  have h7 : (0 : Int) < (r.length : Int) + 1 := by omega
  have h8 : n ≤ dc := by omega
  have h9 : ¬ dc = n := by omega
  have h10 : (n : Int) < (dc : Int) := by omega
  clear h5 h hr
  go_enter_d Try.func43, Try.ntmps43
  go_wp2
  go_region
  go_wp2
  refine bodyPost_ret (results_none rfl _ _ _) rfl ?_
  exact ⟨rfl, H5.out.below (Below.refl _ _).drew, ((Turned.refl O w).set (.inl ob)).trans (Turned.of_below (S := O) (Below.refl _ _).drew) (fun _ _ e => e)⟩
set_option maxRecDepth 100000 in
set_option maxHeartbeats 2000000 in
theorem useAnswer_pop (O : Nat → Prop) (g n : Nat) (C : CS) (x : List UInt8 × Int) (r : List (List UInt8 × Int)) (u : FrameMode) (w : World) (h : CusAt w O g C) (hr : C.reads = x :: r) (hn : n = (nrm x).1.length) :
    CallsD Try.prog 43 #[.pointer (some ⟨g, 0, none⟩), .int .i64 (n : Int)] u w fun e u' w' => u' = u ∧ (e = .returned (.tuple #[]) ∧ CusAt w' O g ⟨r, C.writes, C.taken⟩ ∧ Turned O w w') := by
  obtain ⟨b, off, cap, va, vc, h1, h2, h3, h4, h5, h6, h7, h8, h9, h10, h11, h12⟩ := h.pop hr
  have H11 := hide h11
  have H12 := hide h12
  rw [← hn] at h2
  have HN := hide hn
  have h13 : (0 : Int) < (r.length : Int) + 1 := by omega
  have h14 : ¬ (n : Int) < (n : Int) := by omega
  clear h11 h12 h hr hn
  have hT : ∀ u1 u2 u3, Turned O w (((w.setCell ⟨b, off, none⟩ u1).setCell ⟨b, off + 1, none⟩ u2).setCell ⟨g, 1, none⟩ u3) := fun u1 u2 u3 => (((Turned.refl O w).set (.inl h9)).set (.inl h9)).set (.inl h10)
  have HT := hide hT
  clear hT
  by_cases hc : cap = 1
  · subst hc
    obtain ⟨hr0, hc0⟩ := H12.out rfl
    subst hr0
    have HC0 := hide hc0
    clear hc0 H11 H12
    go_enter_d Try.func43, Try.ntmps43
    go_wp2
    go_end0
    exact ⟨rfl, HC0.out _, HT.out _ _ _⟩
  · have HC0 := hide (H11.out (by omega))
    clear H11 H12
    go_enter_d Try.func43, Try.ntmps43
    go_wp2
    go_end0
    exact ⟨rfl, HC0.out, HT.out _ _ _⟩
/-- The first number is used up. -/
theorem CusAt.less {W : World} {O : Nat → Prop} {g : Nat} {C : CS} {k : Int} {r : List Int} (h : CusAt W O g C) (hr : C.writes = k :: r) :
    ∃ b off cap, W.cell? ⟨g, 2, none⟩ = some (.slice (some ⟨b, off, none⟩) (r.length + 1) cap) ∧ W.cell? ⟨b, off, none⟩ = some (.int .i64 k) ∧ W.frozen? ⟨g, 2, none⟩ = false ∧ r.length + 1 ≤ cap ∧ O g ∧
      (1 < cap → CusAt (W.setCell ⟨g, 2, none⟩ (.slice (some ⟨b, off + 1, none⟩) r.length (cap - 1))) O g ⟨C.reads, r, C.taken⟩) ∧
      (cap = 1 → r = [] ∧ ∀ a, CusAt (W.setCell ⟨g, 2, none⟩ (.slice a 0 0)) O g ⟨C.reads, r, C.taken⟩) := by
  obtain ⟨rv, wv, tv, R, N, ⟨h0, h1, h2, h3⟩, ⟨f1, f2, f3⟩, hA, hN, hT, ht, hR, hN2, og, l1, l2, l3⟩ := h
  rw [hr] at hN l2
  obtain ⟨a, cap, rfl, hcap, hc⟩ := hN
  obtain ⟨b, off, rfl, hb, hd⟩ := hc (by simp)
  have hbg := (hN2 b hb).2
  have key : ∀ u, NRow (W.setCell ⟨g, 2, none⟩ u) N u r → CusAt (W.setCell ⟨g, 2, none⟩ u) O g ⟨C.reads, r, C.taken⟩ := by
    intro u hu
    refine ⟨rv, u, tv, R, N, ⟨?_, ?_, World.cell?_setCell_same _ _ _ h2, ?_⟩, ⟨?_, ?_, ?_⟩, hA.keep fun k e _ => Below.heap_setCell _ _ _ _ (hR k e).2.1, hu, owns_keep hT fun k e => Below.heap_setCell _ _ _ _ (ht k e).2.2.2, ht, hR, hN2, og, l1, by simp at l2; show r.length ≤ 4096; omega, l3⟩
    · exact (World.cell?_setCell_other _ _ _ _ (by simp)).trans h0
    · exact (World.cell?_setCell_other _ _ _ _ (by simp)).trans h1
    · exact (World.cell?_setCell_other _ _ _ _ (by simp)).trans h3
    · exact (World.frozen?_setCell _ _ _ _).trans f1
    · exact (World.frozen?_setCell _ _ _ _).trans f2
    · exact (World.frozen?_setCell _ _ _ _).trans f3
  refine ⟨b, off, cap, h2, hd 0 (by simp), f2, hcap, og, fun hc1 => key _ ?_, fun hc1 => ?_⟩
  · refine ⟨_, _, rfl, by simp at hcap; omega, fun _ => ⟨b, off + 1, rfl, hb, fun j hj => ?_⟩⟩
    have := hd (j + 1) (by simpa using hj)
    rw [show off + (j + 1) = off + 1 + j by omega] at this
    exact (World.cell?_setCell_other _ _ _ _ (fun e => hbg (congrArg Addr.block e).symm)).trans this
  · have hr0 : r = [] := List.length_eq_zero_iff.1 (by simp at hcap; omega)
    refine ⟨hr0, fun a => key _ ?_⟩
    subst hr0
    exact ⟨_, _, rfl, Nat.le_refl _, fun h => absurd h (by simp)⟩
set_option maxRecDepth 100000 in
set_option maxHeartbeats 2000000 in
theorem useNumber_any (O : Nat → Prop) (g : Nat) (C : CS) (k : Int) (r : List Int) (u : FrameMode) (w : World) (h : CusAt w O g C) (hr : C.writes = k :: r) :
    CallsD Try.prog 56 #[.pointer (some ⟨g, 0, none⟩)] u w fun e u' w' => u' = u ∧ (e = .returned (.tuple #[]) ∧ CusAt w' O g ⟨C.reads, r, C.taken⟩ ∧ Turned O w w') := by
  obtain ⟨b, off, cap, h1, h2, h3, h4, og, h5, h6⟩ := h.less hr
  have hT : ∀ u3, Turned O w (w.setCell ⟨g, 2, none⟩ u3) := fun u3 => (Turned.refl O w).set (.inl og)
  have HT := hide hT
  have H5 := hide h5
  have H6 := hide h6
  have h13 : (0 : Int) < (r.length : Int) + 1 := by omega
  clear hT h5 h6 h hr
  by_cases hc : cap = 1
  · subst hc
    obtain ⟨hr0, hc0⟩ := H6.out rfl
    subst hr0
    have HC0 := hide hc0
    clear hc0 H5 H6
    go_enter_d Try.func56, Try.ntmps56
    go_wp2
    go_end0
    exact ⟨rfl, HC0.out _, HT.out _⟩
  · have HC0 := hide (H5.out (by omega))
    clear H5 H6
    go_enter_d Try.func56, Try.ntmps56
    go_wp2
    go_end0
    exact ⟨rfl, HC0.out, HT.out _⟩
end Go.Proofs.Ytimggonlfkboaaa

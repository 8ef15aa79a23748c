/- A custom stream: an answer is used up. -/
import Derived.Test.YtimggonlfkboaaaMeCus
namespace Go.Proofs.Ytimggonlfkboaaa
open Go.RowKit

/-- Some bytes of the first answer are used up. -/
theorem CusAt.cut {W : World} {O : Nat → Prop} {g n : Nat} {C : CS} {d : List UInt8} {r : List (List UInt8 × Int)} (h : CusAt W O g C) (hr : C.reads = (d, 0) :: r) (hn : n < d.length) :
    ∃ b off cap db doff dc, W.cell? ⟨g, 1, none⟩ = some (.slice (some ⟨b, off, none⟩) (r.length + 1) cap) ∧ W.cell? ⟨b, off, none⟩ = some (.slice (some ⟨db, doff, none⟩) d.length dc) ∧ W.frozen? ⟨b, off, none⟩ = false ∧ d.length ≤ dc ∧
      CusAt (W.setCell ⟨b, off, none⟩ (.slice (some ⟨db, doff + n, none⟩) (d.length - n) (dc - n))) O g ⟨(d.drop n, 0) :: r, C.writes, C.taken⟩ ∧ O b := by
  obtain ⟨rv, wv, tv, R, N, ⟨h0, h1, h2, h3⟩, ⟨f1, f2, f3⟩, hA, hN, hT, ht, hR, hN2, og, l1, l2, l3⟩ := h
  rw [hr] at hA l1 l3
  have hnd : nrm (d, (0 : Int)) = (d, 0) := by simp [nrm]
  rw [List.map_cons, hnd] at hA
  obtain ⟨b, off, cap, rfl, hcap, hb, ⟨va, vc, a1, a2, a3, a4, a5, a6, a7⟩, hrest⟩ := hA.head
  obtain ⟨_, db, doff, rfl, hdl, hdc⟩ := bys_block a5 (by show 0 < d.length; omega)
  have hne : ∀ k, Value.slice (some ⟨db, doff, none⟩) (d, (0 : Int)).1.length vc ≠ .int .u8 k := fun k e => by cases e
  have hbg := (hR b hb).2.1
  rw [List.length_map] at h1 hcap
  refine ⟨b, off, cap, db, doff, vc, h1, a1, a3, a6, ⟨.slice (some ⟨b, off, none⟩) (r.length + 1) cap, wv, tv, R, N, ⟨?_, ?_, ?_, ?_⟩, ⟨?_, ?_, ?_⟩, ?_, hN.set a1 (.inr fun k e e' => (hR b hb).2.2 (by have e2 : k = b := e'; rw [← e2]; exact e)) _, owns_keep hT fun k e => Below.heap_setCell _ _ _ _ (fun e' => (ht k e).2.1 (by have e2 : k = b := e'; rw [e2]; exact hb)), ht, hR, hN2, og, l1, l2, fun x hx => ?_⟩, (hR b hb).1⟩
  · exact (World.cell?_setCell_other _ _ _ _ (fun e => hbg (congrArg Addr.block e))).trans h0
  · exact (World.cell?_setCell_other _ _ _ _ (fun e => hbg (congrArg Addr.block e))).trans h1
  · exact (World.cell?_setCell_other _ _ _ _ (fun e => hbg (congrArg Addr.block e))).trans h2
  · exact (World.cell?_setCell_other _ _ _ _ (fun e => hbg (congrArg Addr.block e))).trans h3
  · exact (World.frozen?_setCell _ _ _ _).trans f1
  · exact (World.frozen?_setCell _ _ _ _).trans f2
  · exact (World.frozen?_setCell _ _ _ _).trans f3
  · have hnd2 : nrm (d.drop n, (0 : Int)) = (d.drop n, 0) := by simp [nrm]
    show Ans _ R _ (((d.drop n, (0 : Int)) :: r).map nrm)
    rw [List.map_cons, hnd2]
    refine ⟨_, cap, by rw [List.length_cons, List.length_map], by rw [List.length_cons, List.length_map]; exact hcap, fun _ => ⟨b, off, rfl, hb, fun j hj => ?_⟩⟩
    cases j with
    | zero =>
      rw [Nat.zero_mul, Nat.add_zero]
      refine ⟨some ⟨db, doff + n, none⟩, vc - n, ?_, (World.cell?_setCell_other _ _ _ _ (by simp)).trans a2, (World.frozen?_setCell _ _ _ _).trans a3, (World.frozen?_setCell _ _ _ _).trans a4, ?_, ?_, fun _ k e => a7 (by show 0 < d.length; omega) k (by simpa [Value.ownBlock] using e)⟩
      · show World.cell? _ _ = some (.slice _ (d.drop n).length _)
        rw [List.length_drop]
        exact World.cell?_setCell_same _ _ _ a1
      · show Bys _ (.slice _ (d.drop n).length _) (d.drop n)
        have := (bys_cut a5 n (d.length - n) (vc - n) (by show n + (d.length - n) ≤ d.length; omega)).set a1 hne (.slice (some ⟨db, doff + n, none⟩) (d.length - n) (vc - n))
        rw [List.length_drop]
        rwa [List.take_of_length_le (by rw [List.length_drop]; exact Nat.le_refl _)] at this
      · show (d.drop n).length ≤ _
        rw [List.length_drop]
        have : d.length ≤ vc := a6
        omega
    | succ j =>
      have hj' : j < (r.map nrm).length := by simpa using hj
      have := (hrest j hj').set a1 hne (by simp <;> omega) (by simp <;> omega) (.slice (some ⟨db, doff + n, none⟩) (d.length - n) (vc - n))
      rw [show off + (j + 1) * 2 = off + 2 + j * 2 by omega]
      simpa using this
  · rcases List.mem_cons.1 hx with rfl | hx
    · show (d.drop n).length ≤ 1048576
      have : d.length ≤ 1048576 := l3 (d, 0) (by simp)
      rw [List.length_drop]; omega
    · exact l3 x (List.mem_cons_of_mem _ hx)
/-- The first answer is used up. -/
theorem CusAt.pop {W : World} {O : Nat → Prop} {g : Nat} {C : CS} {x : List UInt8 × Int} {r : List (List UInt8 × Int)} (h : CusAt W O g C) (hr : C.reads = x :: r) :
    ∃ b off cap va vc, W.cell? ⟨g, 1, none⟩ = some (.slice (some ⟨b, off, none⟩) (r.length + 1) cap) ∧ W.cell? ⟨b, off, none⟩ = some (.slice va (nrm x).1.length vc) ∧ W.cell? ⟨b, off + 1, none⟩ = some (.int .i64 x.2) ∧ W.frozen? ⟨b, off, none⟩ = false ∧ W.frozen? ⟨b, off + 1, none⟩ = false ∧ W.frozen? ⟨g, 1, none⟩ = false ∧ r.length + 1 ≤ cap ∧ b ≠ g ∧ O b ∧ O g ∧
      (1 < cap → CusAt (((W.setCell ⟨b, off, none⟩ (.slice none 0 0)).setCell ⟨b, off + 1, none⟩ (.int .i64 0)).setCell ⟨g, 1, none⟩ (.slice (some ⟨b, off + 2, none⟩) r.length (cap - 1))) O g ⟨r, C.writes, C.taken⟩) ∧
      (cap = 1 → r = [] ∧ ∀ a, CusAt (((W.setCell ⟨b, off, none⟩ (.slice none 0 0)).setCell ⟨b, off + 1, none⟩ (.int .i64 0)).setCell ⟨g, 1, none⟩ (.slice a 0 0)) O g ⟨r, C.writes, C.taken⟩) := by
  obtain ⟨rv, wv, tv, R, N, ⟨h0, h1, h2, h3⟩, ⟨f1, f2, f3⟩, hA, hN, hT, ht, hR, hN2, og, l1, l2, l3⟩ := h
  rw [hr] at hA l1 l3
  rw [List.map_cons] at hA
  obtain ⟨b, off, cap, rfl, hcap, hb, ⟨va, vc, a1, a2, a3, a4, a5, a6, a7⟩, hrest⟩ := hA.head
  have hnx : (nrm x).2 = x.2 := by unfold nrm; split <;> rfl
  rw [hnx] at a2
  have hbg := (hR b hb).2.1
  rw [List.length_map] at h1 hcap
  have hne : ∀ k, Value.slice va (nrm x).1.length vc ≠ .int .u8 k := fun k e => by cases e
  have hne2 : ∀ k, Value.int .i64 x.2 ≠ .int .u8 k := fun k e => by cases e
  have hne3 : ∀ k, Value.slice (some (⟨b, off, none⟩ : Addr)) (r.length + 1) cap ≠ .int .u8 k := fun k e => by cases e
  have m1 : (W.setCell ⟨b, off, none⟩ (.slice none 0 0)).cell? ⟨b, off + 1, none⟩ = some (.int .i64 x.2) := (World.cell?_setCell_other _ _ _ _ (by simp)).trans a2
  have m2 : ((W.setCell ⟨b, off, none⟩ (.slice none 0 0)).setCell ⟨b, off + 1, none⟩ (.int .i64 0)).cell? ⟨g, 1, none⟩ = some (.slice (some ⟨b, off, none⟩) (r.length + 1) cap) :=
    (World.cell?_setCell_other _ _ _ _ (fun e => hbg (congrArg Addr.block e))).trans ((World.cell?_setCell_other _ _ _ _ (fun e => hbg (congrArg Addr.block e))).trans h1)
  have key : ∀ u, (Ans (((W.setCell ⟨b, off, none⟩ (.slice none 0 0)).setCell ⟨b, off + 1, none⟩ (.int .i64 0)).setCell ⟨g, 1, none⟩ u) R u (r.map nrm)) → CusAt (((W.setCell ⟨b, off, none⟩ (.slice none 0 0)).setCell ⟨b, off + 1, none⟩ (.int .i64 0)).setCell ⟨g, 1, none⟩ u) O g ⟨r, C.writes, C.taken⟩ := by
    intro u hu
    refine ⟨u, wv, tv, R, N, ⟨?_, World.cell?_setCell_same _ _ _ m2, ?_, ?_⟩, ⟨?_, ?_, ?_⟩, hu, ?_, ?_, ht, hR, hN2, og, by simp at l1; show r.length ≤ 4096; omega, l2, fun y hy => l3 y (List.mem_cons_of_mem _ hy)⟩
    · exact (World.cell?_setCell_other _ _ _ _ (by simp)).trans ((World.cell?_setCell_other _ _ _ _ (fun e => hbg (congrArg Addr.block e))).trans ((World.cell?_setCell_other _ _ _ _ (fun e => hbg (congrArg Addr.block e))).trans h0))
    · exact (World.cell?_setCell_other _ _ _ _ (by simp)).trans ((World.cell?_setCell_other _ _ _ _ (fun e => hbg (congrArg Addr.block e))).trans ((World.cell?_setCell_other _ _ _ _ (fun e => hbg (congrArg Addr.block e))).trans h2))
    · exact (World.cell?_setCell_other _ _ _ _ (by simp)).trans ((World.cell?_setCell_other _ _ _ _ (fun e => hbg (congrArg Addr.block e))).trans ((World.cell?_setCell_other _ _ _ _ (fun e => hbg (congrArg Addr.block e))).trans h3))
    · rw [World.frozen?_setCell, World.frozen?_setCell, World.frozen?_setCell]; exact f1
    · rw [World.frozen?_setCell, World.frozen?_setCell, World.frozen?_setCell]; exact f2
    · rw [World.frozen?_setCell, World.frozen?_setCell, World.frozen?_setCell]; exact f3
    · exact ((hN.set a1 (.inr fun k e e' => (hR b hb).2.2 (by have e2 : k = b := e'; rw [← e2]; exact e)) _).set m1 (.inr fun k e e' => (hR b hb).2.2 (by have e2 : k = b := e'; rw [← e2]; exact e)) _).set m2 (.inr fun k e => (hN2 k e).2) _
    · exact owns_keep hT fun k e => (Below.heap_setCell _ _ _ _ (fun e' => (ht k e).2.2.2 e')).trans ((Below.heap_setCell _ _ _ _ (fun e' => (ht k e).2.1 (by have e2 : k = b := e'; rw [e2]; exact hb))).trans (Below.heap_setCell _ _ _ _ (fun e' => (ht k e).2.1 (by have e2 : k = b := e'; rw [e2]; exact hb))))
  refine ⟨b, off, cap, va, vc, h1, a1, a2, a3, a4, f1, hcap, hbg, (hR b hb).1, og, fun hc => key _ ?_, fun hc => ⟨List.length_eq_zero_iff.1 (by omega), fun a => key _ ?_⟩⟩
  · refine ⟨_, _, by rw [List.length_map], by rw [List.length_map]; omega, fun _ => ⟨b, off + 2, rfl, hb, fun j hj => ?_⟩⟩
    exact ((((hrest j hj).set a1 hne (by simp <;> omega) (by simp <;> omega) _).set m1 hne2 (by simp <;> omega) (by simp <;> omega) _).set m2 hne3 (fun e => hbg (congrArg Addr.block e).symm) (fun e => hbg (congrArg Addr.block e).symm) _)
  · obtain rfl : r = [] := List.length_eq_zero_iff.1 (by omega)
    exact ⟨_, _, rfl, Nat.le_refl _, fun h => absurd h (by simp)⟩
end Go.Proofs.Ytimggonlfkboaaa

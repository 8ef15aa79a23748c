/- What the proof stands on, part 12: the contracts of the program's calls that it reaches. -/
import Derived.Test.YtdmkjbdlidadiaaGreatKP11
import Derived.Laws.CopyOwn
import Derived.Lib.SlBytesConst
/- A custom stream: an answer is used up. -/
namespace Go.Proofs.YtdmkjbdlidadiaaGreat
open Go.RowKit

theorem CusAt.cut {W : World} {O : Nat → Prop} {g n : Nat} {C : CS} {d : List UInt8} {r : List (List UInt8 × Int)} (h : CusAt W O g C) (hr : C.reads = (d, 0) :: r) (hn : n < d.length) :
    ∃ b off cap db doff dc, W.cell? ⟨g, 1, none⟩ = some (.slice (some ⟨b, off, none⟩) (r.length + 1) cap) ∧ W.cell? ⟨b, off, none⟩ = some (.slice (some ⟨db, doff, none⟩) d.length dc) ∧ W.frozen? ⟨b, off, none⟩ = false ∧ d.length ≤ dc ∧
      CusAt (W.setCell ⟨b, off, none⟩ (.slice (some ⟨db, doff + n, none⟩) (d.length - n) (dc - n))) O g ⟨(d.drop n, 0) :: r, C.writes, C.taken⟩ ∧ O b := by
  obtain ⟨rv, wv, tv, R, N, ⟨h0, h1, h2, h3⟩, ⟨f1, f2, f3⟩, hA, hN, hT, ht, hR, hN2, og, l1, l2, l3⟩ := h
  rw [hr] at hA l1 l3
  have hnd : nrm (d, (0 : Int)) = (d, 0) := by simp [nrm]
  rw [List.map_cons, hnd] at hA
  obtain ⟨b, off, cap, rfl, hcap, hb, ⟨va, vc, a1, a2, a3, a4, a5, a6, a7⟩, hrest⟩ := hA.head
  obtain ⟨_, db, doff, rfl, hdl, hdc⟩ := bys_block a5 (by show 0 < d.length; omega)
  have hne : ∀ k, Value.slice (some ⟨db, doff, none⟩) (d, (0 : Int)).1.length vc ≠ .int .u8 k := fun k e => by cases e
  have hbg := (hR b hb).2.1
  rw [List.length_map] at h1 hcap
  refine ⟨b, off, cap, db, doff, vc, h1, a1, a3, a6, ⟨.slice (some ⟨b, off, none⟩) (r.length + 1) cap, wv, tv, R, N, ⟨?_, ?_, ?_, ?_⟩, ⟨?_, ?_, ?_⟩, ?_, hN.set a1 (.inr fun k e e' => (hR b hb).2.2 (by have e2 : k = b := e'; rw [← e2]; exact e)) _, owns_keep hT fun k e => Below.heap_setCell _ _ _ _ (fun e' => (ht k e).2.1 (by have e2 : k = b := e'; rw [e2]; exact hb)), ht, hR, hN2, og, l1, l2, fun x hx => ?_⟩, (hR b hb).1⟩
  · exact (World.cell?_setCell_other _ _ _ _ (fun e => hbg (congrArg Addr.block e))).trans h0
  · exact (World.cell?_setCell_other _ _ _ _ (fun e => hbg (congrArg Addr.block e))).trans h1
  · exact (World.cell?_setCell_other _ _ _ _ (fun e => hbg (congrArg Addr.block e))).trans h2
  · exact (World.cell?_setCell_other _ _ _ _ (fun e => hbg (congrArg Addr.block e))).trans h3
  · exact (World.frozen?_setCell _ _ _ _).trans f1
  · exact (World.frozen?_setCell _ _ _ _).trans f2
  · exact (World.frozen?_setCell _ _ _ _).trans f3
  · have hnd2 : nrm (d.drop n, (0 : Int)) = (d.drop n, 0) := by simp [nrm]
    show Ans _ R _ (((d.drop n, (0 : Int)) :: r).map nrm)
    rw [List.map_cons, hnd2]
    refine ⟨_, cap, by rw [List.length_cons, List.length_map], by rw [List.length_cons, List.length_map]; exact hcap, fun _ => ⟨b, off, rfl, hb, fun j hj => ?_⟩⟩
    cases j with
    | zero =>
      rw [Nat.zero_mul, Nat.add_zero]
      refine ⟨some ⟨db, doff + n, none⟩, vc - n, ?_, (World.cell?_setCell_other _ _ _ _ (by simp)).trans a2, (World.frozen?_setCell _ _ _ _).trans a3, (World.frozen?_setCell _ _ _ _).trans a4, ?_, ?_, fun _ k e => a7 (by show 0 < d.length; omega) k (by simpa [Value.ownBlock] using e)⟩
      · show World.cell? _ _ = some (.slice _ (d.drop n).length _)
        rw [List.length_drop]
        exact World.cell?_setCell_same _ _ _ a1
      · show Bys _ (.slice _ (d.drop n).length _) (d.drop n)
        have := (bys_cut a5 n (d.length - n) (vc - n) (by show n + (d.length - n) ≤ d.length; omega)).set a1 hne (.slice (some ⟨db, doff + n, none⟩) (d.length - n) (vc - n))
        rw [List.length_drop]
        rwa [List.take_of_length_le (by rw [List.length_drop]; exact Nat.le_refl _)] at this
      · show (d.drop n).length ≤ _
        rw [List.length_drop]
        have : d.length ≤ vc := a6
        omega
    | succ j =>
      have hj' : j < (r.map nrm).length := by simpa using hj
      have := (hrest j hj').set a1 hne (by simp <;> omega) (by simp <;> omega) (.slice (some ⟨db, doff + n, none⟩) (d.length - n) (vc - n))
      rw [show off + (j + 1) * 2 = off + 2 + j * 2 by omega]
      simpa using this
  · rcases List.mem_cons.1 hx with rfl | hx
    · show (d.drop n).length ≤ 1048576
      have : d.length ≤ 1048576 := l3 (d, 0) (by simp)
      rw [List.length_drop]; omega
    · exact l3 x (List.mem_cons_of_mem _ hx)
end Go.Proofs.YtdmkjbdlidadiaaGreat

/- A custom stream: useAnswer, useNumber, as deferred calls. -/
namespace Go.Proofs.YtdmkjbdlidadiaaGreat
open Go.RowKit

theorem CusAt.less {W : World} {O : Nat → Prop} {g : Nat} {C : CS} {k : Int} {r : List Int} (h : CusAt W O g C) (hr : C.writes = k :: r) :
    ∃ b off cap, W.cell? ⟨g, 2, none⟩ = some (.slice (some ⟨b, off, none⟩) (r.length + 1) cap) ∧ W.cell? ⟨b, off, none⟩ = some (.int .i64 k) ∧ W.frozen? ⟨g, 2, none⟩ = false ∧ r.length + 1 ≤ cap ∧ O g ∧
      (1 < cap → CusAt (W.setCell ⟨g, 2, none⟩ (.slice (some ⟨b, off + 1, none⟩) r.length (cap - 1))) O g ⟨C.reads, r, C.taken⟩) ∧
      (cap = 1 → r = [] ∧ ∀ a, CusAt (W.setCell ⟨g, 2, none⟩ (.slice a 0 0)) O g ⟨C.reads, r, C.taken⟩) := by
  obtain ⟨rv, wv, tv, R, N, ⟨h0, h1, h2, h3⟩, ⟨f1, f2, f3⟩, hA, hN, hT, ht, hR, hN2, og, l1, l2, l3⟩ := h
  rw [hr] at hN l2
  obtain ⟨a, cap, rfl, hcap, hc⟩ := hN
  obtain ⟨b, off, rfl, hb, hd⟩ := hc (by simp)
  have hbg := (hN2 b hb).2
  have key : ∀ u, NRow (W.setCell ⟨g, 2, none⟩ u) N u r → CusAt (W.setCell ⟨g, 2, none⟩ u) O g ⟨C.reads, r, C.taken⟩ := by
    intro u hu
    refine ⟨rv, u, tv, R, N, ⟨?_, ?_, World.cell?_setCell_same _ _ _ h2, ?_⟩, ⟨?_, ?_, ?_⟩, hA.keep fun k e _ => Below.heap_setCell _ _ _ _ (hR k e).2.1, hu, owns_keep hT fun k e => Below.heap_setCell _ _ _ _ (ht k e).2.2.2, ht, hR, hN2, og, l1, by simp at l2; show r.length ≤ 4096; omega, l3⟩
    · exact (World.cell?_setCell_other _ _ _ _ (by simp)).trans h0
    · exact (World.cell?_setCell_other _ _ _ _ (by simp)).trans h1
    · exact (World.cell?_setCell_other _ _ _ _ (by simp)).trans h3
    · exact (World.frozen?_setCell _ _ _ _).trans f1
    · exact (World.frozen?_setCell _ _ _ _).trans f2
    · exact (World.frozen?_setCell _ _ _ _).trans f3
  refine ⟨b, off, cap, h2, hd 0 (by simp), f2, hcap, og, fun hc1 => key _ ?_, fun hc1 => ?_⟩
  · refine ⟨_, _, rfl, by simp at hcap; omega, fun _ => ⟨b, off + 1, rfl, hb, fun j hj => ?_⟩⟩
    have := hd (j + 1) (by simpa using hj)
    rw [show off + (j + 1) = off + 1 + j by omega] at this
    exact (World.cell?_setCell_other _ _ _ _ (fun e => hbg (congrArg Addr.block e).symm)).trans this
  · have hr0 : r = [] := List.length_eq_zero_iff.1 (by simp at hcap; omega)
    refine ⟨hr0, fun a => key _ ?_⟩
    subst hr0
    exact ⟨_, _, rfl, Nat.le_refl _, fun h => absurd h (by simp)⟩
end Go.Proofs.YtdmkjbdlidadiaaGreat

/- A custom stream: Read. -/
namespace Go.Proofs.YtdmkjbdlidadiaaGreat
open Go.RowKit

theorem CusAt.mono {W : World} {O O' : Nat → Prop} {g : Nat} {C : CS} (h : CusAt W O g C) (ho : ∀ j, O j → O' j) : CusAt W O' g C := by
  obtain ⟨rv, wv, tv, R, N, h0, hf, hA, hN, hT, ht, hR, hN2, og, rest⟩ := h
  exact ⟨rv, wv, tv, R, N, h0, hf, hA, hN, hT, fun k e => ⟨ho k (ht k e).1, (ht k e).2⟩, fun k e => ⟨ho k (hR k e).1, (hR k e).2⟩, fun k e => ⟨ho k (hN2 k e).1, (hN2 k e).2⟩, ho g og, rest⟩
end Go.Proofs.YtdmkjbdlidadiaaGreat

/- A custom stream: howMany. -/
namespace Go.Proofs.YtdmkjbdlidadiaaGreat
open Go.RowKit

end Go.Proofs.YtdmkjbdlidadiaaGreat

/- A custom stream: Write, Taken. -/
namespace Go.Proofs.YtdmkjbdlidadiaaGreat
open Go.RowKit

theorem CusAt.take {W : World} {O : Nat → Prop} {g : Nat} {C : CS} {a : Option Addr} {n c : Nat} {x : List UInt8} (ty : TypeId) (h : CusAt W O g C) (hx : Bys W (.slice a n c) x) (hl : C.taken.length + x.length ≤ 140737488351232) :
    ∃ ta tl tc sa sl sc w', W.cell? ⟨g, 3, none⟩ = some (.slice ta tl tc) ∧ W.frozen? ⟨g, 3, none⟩ = false ∧ (Builtin.append_ #[40, 40] ty #[.slice ta tl tc, .slice a n c]).run Tryz.prog W = .ok (.slice sa sl sc) w' ∧ w'.cell? ⟨g, 3, none⟩ = some (.slice ta tl tc) ∧ w'.frozen? ⟨g, 3, none⟩ = false ∧
      CStep W O g ⟨C.reads, C.writes, C.taken ++ x⟩ (w'.setCell ⟨g, 3, none⟩ (.slice sa sl sc)) := by
  obtain ⟨rv, wv, tv, R, N, ⟨h0, h1, h2, h3⟩, ⟨f1, f2, f3⟩, hA, hN, hT, ht, hR, hN2, og, l1, l2, l3⟩ := h
  obtain ⟨ta, tc, rfl⟩ := owns_slice hT
  obtain ⟨s', w', hrun, HO, hgr, hbl⟩ := run_append_bytes W ty 0 (.slice ta C.taken.length tc) (.slice a n c) C.taken x hT hx hl (Nat.zero_le _)
  obtain ⟨sa, sc, rfl⟩ := owns_slice HO.out
  have hTu : Turned (fun k => (Value.slice ta C.taken.length tc).ownBlock = some k) W w' := ⟨hgr.os, hgr.tape, hgr.output, hgr.size, fun k hk hn => hgr.block k hk (fun e => hn e.symm)⟩
  have hgl : g < W.heap.size := World.block_lt_of_cell? W _ h0
  have kg : w'.heap[g]? = W.heap[g]? := hTu.block g hgl (fun e => (ht g e).2.2.2 rfl)
  have c3 : w'.cell? ⟨g, 3, none⟩ = some (.slice ta C.taken.length tc) := (World.cell?_of_block (w := W) kg).trans h3
  have hs := HO.out
  have hsl : ∀ k, (Value.slice sa (C.taken ++ x).length sc).ownBlock = some k → (O k ∨ W.heap.size ≤ k) ∧ ¬ (R k ∧ k < W.heap.size) ∧ ¬ (N k ∧ k < W.heap.size) ∧ k ≠ g := by
    intro k e
    rcases hbl with e' | e'
    · have e3 := ht k (by rw [← e', e])
      exact ⟨.inl e3.1, fun x => e3.2.1 x.1, fun x => e3.2.2.1 x.1, e3.2.2.2⟩
    · rw [e'] at e
      have e3 : W.heap.size = k := Option.some.inj e
      exact ⟨.inr (by omega), fun x => by omega, fun x => by omega, by omega⟩
  have hRt : ∀ k, R k → k < W.heap.size → w'.heap[k]? = W.heap[k]? := fun k e hl => hTu.block k hl (fun e' => (ht k e').2.1 e)
  have hNt : ∀ k, N k → k < W.heap.size → w'.heap[k]? = W.heap[k]? := fun k e hl => hTu.block k hl (fun e' => (ht k e').2.2.1 e)
  have h0' : CusAt W (fun k => O k ∧ k < W.heap.size) g C := CusAt.trim ⟨rv, wv, _, R, N, ⟨h0, h1, h2, h3⟩, ⟨f1, f2, f3⟩, hA, hN, hT, ht, hR, hN2, og, l1, l2, l3⟩
  refine ⟨ta, _, tc, sa, _, sc, w', h3, f3, hrun, c3, (World.frozen?_of_block (w := W) kg).trans f3, fun k => (O k ∧ k < W.heap.size) ∨ (Value.slice sa (C.taken ++ x).length sc).ownBlock = some k, ?_, fun k e => ?_, ?_⟩
  · obtain ⟨hA', hN'⟩ := cus_rows hA hN
    refine ⟨rv, wv, .slice sa (C.taken ++ x).length sc, fun k => R k ∧ k < W.heap.size, fun k => N k ∧ k < W.heap.size, ⟨?_, ?_, ?_, World.cell?_setCell_same _ _ _ c3⟩, ⟨?_, ?_, ?_⟩, ?_, ?_, ?_, fun k e => ⟨.inr e, (hsl k e).2⟩, fun k e => ⟨.inl ⟨(hR k e.1).1, e.2⟩, (hR k e.1).2.1, fun x => (hR k e.1).2.2 x.1⟩, fun k e => ⟨.inl ⟨(hN2 k e.1).1, e.2⟩, (hN2 k e.1).2⟩, .inl ⟨og, hgl⟩, l1, l2, l3⟩
    · exact (World.cell?_setCell_other _ _ _ _ (by simp)).trans ((World.cell?_of_block (w := W) kg).trans h0)
    · exact (World.cell?_setCell_other _ _ _ _ (by simp)).trans ((World.cell?_of_block (w := W) kg).trans h1)
    · exact (World.cell?_setCell_other _ _ _ _ (by simp)).trans ((World.cell?_of_block (w := W) kg).trans h2)
    · exact (World.frozen?_setCell _ _ _ _).trans ((World.frozen?_of_block (w := W) kg).trans f1)
    · exact (World.frozen?_setCell _ _ _ _).trans ((World.frozen?_of_block (w := W) kg).trans f2)
    · exact (World.frozen?_setCell _ _ _ _).trans ((World.frozen?_of_block (w := W) kg).trans f3)
    · exact hA'.keep fun k e hl => (Below.heap_setCell _ _ _ _ (hR k e.1).2.1).trans (hRt k e.1 hl)
    · exact hN'.keep fun k e hl => (Below.heap_setCell _ _ _ _ (hN2 k e.1).2).trans (hNt k e.1 hl)
    · exact owns_keep hs fun k e => Below.heap_setCell _ _ _ _ (hsl k e).2.2.2
  · rcases e with e | e
    · exact .inl e.1
    · exact (hsl k e).1
  · exact (hTu.mono (S' := O) (fun k e => (ht k e).1)).set (.inl og)
end Go.Proofs.YtdmkjbdlidadiaaGreat

/- The reference's custom streams: in memory; Read. -/
namespace Go.Proofs.YtdmkjbdlidadiaaGreat
open Go.RowKit

structure RCusP (W : World) (O : Nat → Prop) (g : Nat) (C : CS) (rv wv tv : Value) (m : Int) (R N : Nat → Prop) : Prop where
  row : W.heap[g]? = some (.cells (rmc 4 tv 0 0 rv wv m) 196)
  ans : Ans W R rv C.reads
  num : NRow W N wv C.writes
  tak : W.ownsRow 0 5 1 tv C.taken.length (C.taken.map bv)
  ot : ∀ k, tv.ownBlock = some k → O k ∧ ¬ R k ∧ ¬ N k ∧ k ≠ g
  oR : ∀ k, R k → O k ∧ k ≠ g ∧ ¬ N k
  oN : ∀ k, N k → O k ∧ k ≠ g
  og : O g
  z1 : C.reads.length ≤ 4096
  z2 : C.writes.length ≤ 4096
  z3 : ∀ x ∈ C.reads, x.1.length ≤ 1048576
def RCusAt (W : World) (O : Nat → Prop) (g : Nat) (C : CS) : Prop := ∃ rv wv tv m, ∃ R N : Nat → Prop, RCusP W O g C rv wv tv m R N
def RCStep (w : World) (O : Nat → Prop) (g : Nat) (C : CS) (w' : World) : Prop := ∃ O', RCusAt w' O' g C ∧ (∀ k, O' k → O k ∨ w.heap.size ≤ k) ∧ Turned O w w'
theorem RCusP.lt {W : World} {O : Nat → Prop} {g : Nat} {C : CS} {rv wv tv : Value} {m : Int} {R N : Nat → Prop} (h : RCusP W O g C rv wv tv m R N) : g < W.heap.size := (Array.getElem?_eq_some_iff.1 h.row).1
theorem RCusP.keep {W W' : World} {O : Nat → Prop} {g : Nat} {C : CS} {rv wv tv : Value} {m : Int} {R N : Nat → Prop} (h : RCusP W O g C rv wv tv m R N) (hk : ∀ j, O j → j < W.heap.size → W'.heap[j]? = W.heap[j]?) : RCusP W' O g C rv wv tv m R N :=
  ⟨(hk g h.og h.lt).trans h.row, h.ans.keep fun k e hl => hk k (h.oR k e).1 hl, h.num.keep fun k e hl => hk k (h.oN k e).1 hl, owns_keep h.tak fun k e => hk k (h.ot k e).1 (h.tak.lt k e).2, h.ot, h.oR, h.oN, h.og, h.z1, h.z2, h.z3⟩
theorem RCusAt.keep {W W' : World} {O : Nat → Prop} {g : Nat} {C : CS} (h : RCusAt W O g C) (hk : ∀ j, O j → j < W.heap.size → W'.heap[j]? = W.heap[j]?) : RCusAt W' O g C := by
  obtain ⟨rv, wv, tv, m, R, N, h⟩ := h
  exact ⟨rv, wv, tv, m, R, N, h.keep hk⟩
theorem RCusAt.below {W W' : World} {O : Nat → Prop} {g : Nat} {C : CS} (h : RCusAt W O g C) (hB : Below W.heap.size W W') : RCusAt W' O g C := h.keep fun j _ hl => hB.block j hl
theorem RCusP.below {W W' : World} {O : Nat → Prop} {g : Nat} {C : CS} {rv wv tv : Value} {m : Int} {R N : Nat → Prop} (h : RCusP W O g C rv wv tv m R N) (hB : Below W.heap.size W W') : RCusP W' O g C rv wv tv m R N := h.keep fun j _ hl => hB.block j hl
theorem RCusP.set {W : World} {O : Nat → Prop} {g : Nat} {C C' : CS} {rv wv tv rv' wv' : Value} {m m' : Int} {R N : Nat → Prop} (h : RCusP W O g C rv wv tv m R N) (j : Nat) (u : Value) (hrow : (W.setCell ⟨g, j, none⟩ u).heap[g]? = some (.cells (rmc 4 tv 0 0 rv' wv' m') 196))
    (hA : Ans W R rv' C'.reads) (hN : NRow W N wv' C'.writes) (ht : C'.taken = C.taken) (z1 : C'.reads.length ≤ 4096) (z2 : C'.writes.length ≤ 4096) (z3 : ∀ x ∈ C'.reads, x.1.length ≤ 1048576) : RCusP (W.setCell ⟨g, j, none⟩ u) O g C' rv' wv' tv m' R N :=
  ⟨hrow, hA.keep fun k e _ => heap_setCell_other _ _ _ _ (h.oR k e).2.1, hN.keep fun k e _ => heap_setCell_other _ _ _ _ (h.oN k e).2, by rw [ht]; exact owns_keep h.tak fun k e => heap_setCell_other _ _ _ _ (h.ot k e).2.2.2, h.ot, h.oR, h.oN, h.og, z1, z2, z3⟩
theorem RCusP.cut {W : World} {O : Nat → Prop} {g n : Nat} {C : CS} {rv wv tv : Value} {m : Int} {R N : Nat → Prop} {d : List UInt8} {r : List (List UInt8 × Int)} (h : RCusP W O g C rv wv tv m R N) (hr : C.reads = (d, 0) :: r) (hn : n < d.length) :
    ∃ b off cap db doff dc, rv = .slice (some ⟨b, off, none⟩) (r.length + 1) cap ∧ W.cell? ⟨b, off, none⟩ = some (.slice (some ⟨db, doff, none⟩) d.length dc) ∧ W.cell? ⟨b, off + 1, none⟩ = some (.int .i64 0) ∧ W.frozen? ⟨b, off, none⟩ = false ∧ d.length ≤ dc ∧ Bys W (.slice (some ⟨db, doff, none⟩) d.length dc) d ∧ (b ≠ g ∧ b < W.heap.size ∧ O b) ∧
      RCusP (W.setCell ⟨b, off, none⟩ (.slice (some ⟨db, doff + n, none⟩) (d.length - n) (dc - n))) O g ⟨(d.drop n, 0) :: r, C.writes, C.taken⟩ rv wv tv m R N := by
  have hA := h.ans
  have z1 := h.z1
  have z3 := h.z3
  rw [hr] at hA z1 z3
  obtain ⟨b, off, cap, rfl, hcap, hb, ⟨va, vc, a1, a2, a3, a4, a5, a6, a7⟩, hrest⟩ := hA.head
  obtain ⟨_, db, doff, rfl, hdl, hdc⟩ := bys_block a5 (by show 0 < d.length; omega)
  have hne : ∀ k, Value.slice (some ⟨db, doff, none⟩) (d, (0 : Int)).1.length vc ≠ .int .u8 k := fun k e => by cases e
  have hbg := (h.oR b hb).2.1
  refine ⟨b, off, cap, db, doff, vc, rfl, a1, a2, a3, a6, a5, ⟨hbg, World.block_lt_of_cell? W _ a1, (h.oR b hb).1⟩, ⟨(heap_setCell_other _ _ _ _ (fun e => hbg e.symm)).trans h.row, ?_, h.num.set a1 (.inr fun k e e' => (h.oR b hb).2.2 (by have e2 : k = b := e'; rw [← e2]; exact e)) _, owns_keep h.tak fun k e => heap_setCell_other _ _ _ _ (fun e' => (h.ot k e).2.1 (by have e2 : k = b := e'; rw [e2]; exact hb)), h.ot, h.oR, h.oN, h.og, by simpa using z1, h.z2, fun x hx => ?_⟩⟩
  · refine ⟨_, cap, by rw [List.length_cons], by rw [List.length_cons]; exact hcap, fun _ => ⟨b, off, rfl, hb, fun j hj => ?_⟩⟩
    cases j with
    | zero =>
      rw [Nat.zero_mul, Nat.add_zero]
      refine ⟨some ⟨db, doff + n, none⟩, vc - n, ?_, (World.cell?_setCell_other _ _ _ _ (by simp)).trans a2, (World.frozen?_setCell _ _ _ _).trans a3, (World.frozen?_setCell _ _ _ _).trans a4, ?_, ?_, fun _ k e => a7 (by show 0 < d.length; omega) k (by simpa [Value.ownBlock] using e)⟩
      · show World.cell? _ _ = some (.slice _ (d.drop n).length _)
        rw [List.length_drop]
        exact World.cell?_setCell_same _ _ _ a1
      · show Bys _ (.slice _ (d.drop n).length _) (d.drop n)
        have := (bys_cut a5 n (d.length - n) (vc - n) (by show n + (d.length - n) ≤ d.length; omega)).set a1 hne (.slice (some ⟨db, doff + n, none⟩) (d.length - n) (vc - n))
        rw [List.length_drop]
        rwa [List.take_of_length_le (by rw [List.length_drop]; exact Nat.le_refl _)] at this
      · show (d.drop n).length ≤ _
        rw [List.length_drop]
        have : d.length ≤ vc := a6
        omega
    | succ j =>
      have hj' : j < r.length := by simpa using hj
      have := (hrest j hj').set a1 hne (by simp <;> omega) (by simp <;> omega) (.slice (some ⟨db, doff + n, none⟩) (d.length - n) (vc - n))
      rw [show off + (j + 1) * 2 = off + 2 + j * 2 by omega]
      simpa using this
  · rcases List.mem_cons.1 hx with rfl | hx
    · show (d.drop n).length ≤ 1048576
      have : d.length ≤ 1048576 := z3 (d, 0) (by simp)
      rw [List.length_drop]; omega
    · exact z3 x (List.mem_cons_of_mem _ hx)
end Go.Proofs.YtdmkjbdlidadiaaGreat

/- The reference's custom streams: Write, Seek. -/
namespace Go.Proofs.YtdmkjbdlidadiaaGreat
open Go.RowKit

theorem RCStep.same {w : World} {O : Nat → Prop} {g : Nat} {C : CS} (h : RCusAt w O g C) : RCStep w O g C w := ⟨O, h, fun _ e => .inl e, Turned.refl _ _⟩
theorem RCusP.less {W : World} {O : Nat → Prop} {g : Nat} {C : CS} {rv wv tv : Value} {m : Int} {R N : Nat → Prop} {k : Int} {r : List Int} (h : RCusP W O g C rv wv tv m R N) (hr : C.writes = k :: r) :
    ∃ b off cap, wv = .slice (some ⟨b, off, none⟩) (r.length + 1) cap ∧ W.cell? ⟨b, off, none⟩ = some (.int .i64 k) ∧ r.length + 1 ≤ cap ∧
      (1 < cap → RCusP (W.setCell ⟨g, 5, none⟩ (.slice (some ⟨b, off + 1, none⟩) r.length (cap - 1))) O g ⟨C.reads, r, C.taken⟩ rv (.slice (some ⟨b, off + 1, none⟩) r.length (cap - 1)) tv m R N) ∧
      (cap = 1 → r = [] ∧ ∀ a, RCusP (W.setCell ⟨g, 5, none⟩ (.slice a 0 0)) O g ⟨C.reads, r, C.taken⟩ rv (.slice a 0 0) tv m R N) := by
  have hN := h.num
  have z2 := h.z2
  rw [hr] at hN z2
  obtain ⟨a, cap, rfl, hcap, hc⟩ := hN
  obtain ⟨b, off, rfl, hb, hd⟩ := hc (by simp)
  have z2' : r.length ≤ 4096 := by simp at z2; omega
  rw [List.length_cons] at hcap
  refine ⟨b, off, cap, rfl, hd 0 (by simp), hcap, fun hc1 => ?_, fun hc1 => ?_⟩
  · refine h.set 5 _ (Go.heap_setCell_same W g 5 _ _ _ h.row) h.ans ⟨_, _, rfl, by show r.length ≤ cap - 1; omega, fun _ => ⟨b, off + 1, rfl, hb, fun j hj => ?_⟩⟩ rfl h.z1 z2' h.z3
    have hj' : j < r.length := hj
    have := hd (j + 1) (by simpa using hj')
    rw [show off + (j + 1) = off + 1 + j by omega] at this
    exact this
  · have hr0 : r = [] := List.length_eq_zero_iff.1 (by omega)
    subst hr0
    exact ⟨rfl, fun a => h.set 5 _ (Go.heap_setCell_same W g 5 _ _ _ h.row) h.ans ⟨_, _, rfl, Nat.le_refl _, fun h => absurd h (by simp)⟩ rfl h.z1 (by simp) h.z3⟩
theorem RCusAt.take {W : World} {O : Nat → Prop} {g : Nat} {C : CS} {a : Option Addr} {n c : Nat} {x : List UInt8} (ty : TypeId) (h : RCusAt W O g C) (hx : Bys W (.slice a n c) x) (hl : C.taken.length + x.length ≤ 140737488351232) :
    ∃ ta tl tc sa sl sc w', W.cell? ⟨g, 1, none⟩ = some (.slice ta tl tc) ∧ W.frozen? ⟨g, 1, none⟩ = false ∧ (Builtin.append_ #[40, 40] ty #[.slice ta tl tc, .slice a n c]).run Tryz.prog W = .ok (.slice sa sl sc) w' ∧ w'.cell? ⟨g, 1, none⟩ = some (.slice ta tl tc) ∧ w'.frozen? ⟨g, 1, none⟩ = false ∧
      RCStep W O g ⟨C.reads, C.writes, C.taken ++ x⟩ (w'.setCell ⟨g, 1, none⟩ (.slice sa sl sc)) := by
  obtain ⟨rv, wv, tv, m, R, N, h⟩ := h
  have hT := h.tak
  obtain ⟨ta, tc, rfl⟩ := owns_slice hT
  obtain ⟨s', w', hrun, HO, hgr, hbl⟩ := run_append_bytes W ty 0 (.slice ta C.taken.length tc) (.slice a n c) C.taken x hT hx hl (Nat.zero_le _)
  obtain ⟨sa, sc, rfl⟩ := owns_slice HO.out
  have hTu : Turned (fun k => (Value.slice ta C.taken.length tc).ownBlock = some k) W w' := ⟨hgr.os, hgr.tape, hgr.output, hgr.size, fun k hk hn => hgr.block k hk (fun e => hn e.symm)⟩
  have hgl := h.lt
  have hg' : w'.heap[g]? = some (.cells (rmc 4 (.slice ta C.taken.length tc) 0 0 rv wv m) 196) := (hTu.block g hgl (fun e => (h.ot g e).2.2.2 rfl)).trans h.row
  have hs := HO.out
  have hsl : ∀ k, (Value.slice sa (C.taken ++ x).length sc).ownBlock = some k → (O k ∨ W.heap.size ≤ k) ∧ ¬ (R k ∧ k < W.heap.size) ∧ ¬ (N k ∧ k < W.heap.size) ∧ k ≠ g := by
    intro k e
    rcases hbl with e' | e'
    · have e3 := h.ot k (by rw [← e', e])
      exact ⟨.inl e3.1, fun x => e3.2.1 x.1, fun x => e3.2.2.1 x.1, e3.2.2.2⟩
    · rw [e'] at e
      have e3 : W.heap.size = k := Option.some.inj e
      exact ⟨.inr (by omega), fun x => by omega, fun x => by omega, by omega⟩
  have hRt : ∀ k, R k → k < W.heap.size → w'.heap[k]? = W.heap[k]? := fun k e hl => hTu.block k hl (fun e' => (h.ot k e').2.1 e)
  have hNt : ∀ k, N k → k < W.heap.size → w'.heap[k]? = W.heap[k]? := fun k e hl => hTu.block k hl (fun e' => (h.ot k e').2.2.1 e)
  obtain ⟨hA', hN'⟩ := cus_rows h.ans h.num
  refine ⟨ta, _, tc, sa, _, sc, w', cell_of_row _ g 1 _ _ _ h.row, frozen_of_row _ g 1 _ _ h.row, hrun, cell_of_row _ g 1 _ _ _ hg', frozen_of_row _ g 1 _ _ hg', fun k => (O k ∧ k < W.heap.size) ∨ (Value.slice sa (C.taken ++ x).length sc).ownBlock = some k, ⟨rv, wv, .slice sa (C.taken ++ x).length sc, m, fun k => R k ∧ k < W.heap.size, fun k => N k ∧ k < W.heap.size, ?_⟩, fun k e => ?_, ?_⟩
  · exact ⟨Go.heap_setCell_same w' g 1 _ _ _ hg', hA'.keep fun k e hl => (heap_setCell_other _ _ _ _ (h.oR k e.1).2.1).trans (hRt k e.1 hl), hN'.keep fun k e hl => (heap_setCell_other _ _ _ _ (h.oN k e.1).2).trans (hNt k e.1 hl), owns_keep hs fun k e => heap_setCell_other _ _ _ _ (hsl k e).2.2.2,
      fun k e => ⟨.inr e, (hsl k e).2⟩, fun k e => ⟨.inl ⟨(h.oR k e.1).1, e.2⟩, (h.oR k e.1).2.1, fun x => (h.oR k e.1).2.2 x.1⟩, fun k e => ⟨.inl ⟨(h.oN k e.1).1, e.2⟩, (h.oN k e.1).2⟩, .inl ⟨h.og, hgl⟩, h.z1, h.z2, h.z3⟩
  · rcases e with e | e
    · exact .inl e.1
    · exact (hsl k e).1
  · exact (hTu.mono (S' := O) (fun k e => (h.ot k e).1)).set (.inl h.og)
theorem RCusAt.less {W : World} {O : Nat → Prop} {g : Nat} {C : CS} {k : Int} {r : List Int} (h : RCusAt W O g C) (hr : C.writes = k :: r) :
    ∃ b off cap, W.cell? ⟨g, 5, none⟩ = some (.slice (some ⟨b, off, none⟩) (r.length + 1) cap) ∧ W.cell? ⟨b, off, none⟩ = some (.int .i64 k) ∧ W.frozen? ⟨g, 5, none⟩ = false ∧ r.length + 1 ≤ cap ∧ O g ∧
      (1 < cap → RCusAt (W.setCell ⟨g, 5, none⟩ (.slice (some ⟨b, off + 1, none⟩) r.length (cap - 1))) O g ⟨C.reads, r, C.taken⟩) ∧
      (cap = 1 → r = [] ∧ ∀ a, RCusAt (W.setCell ⟨g, 5, none⟩ (.slice a 0 0)) O g ⟨C.reads, r, C.taken⟩) := by
  obtain ⟨rv, wv, tv, m, R, N, h⟩ := h
  obtain ⟨b, off, cap, rfl, h1, h2, h3, h4⟩ := h.less hr
  exact ⟨b, off, cap, cell_of_row _ g 5 _ _ _ h.row, h1, frozen_of_row _ g 5 _ _ h.row, h2, h.og, fun hc => ⟨_, _, _, _, _, _, h3 hc⟩, fun hc => ⟨(h4 hc).1, fun a => ⟨_, _, _, _, _, _, (h4 hc).2 a⟩⟩⟩
end Go.Proofs.YtdmkjbdlidadiaaGreat

/- Two objects in memory that share nothing. -/
namespace Go.Proofs.YtdmkjbdlidadiaaGreat
open Go.RowKit

structure OAt (A : World → (Nat → Prop) → Prop) : Prop where
  keep : ∀ {w w' : World} {O : Nat → Prop}, A w O → (∀ j, O j → j < w.heap.size → w'.heap[j]? = w.heap[j]?) → w.heap.size ≤ w'.heap.size → A w' O
  trim : ∀ {w : World} {O : Nat → Prop}, A w O → A w (fun k => O k ∧ k < w.heap.size)
def OStep (A : World → (Nat → Prop) → Prop) (w : World) (O : Nat → Prop) (w' : World) : Prop := ∃ O', A w' O' ∧ (∀ k, O' k → O k ∨ w.heap.size ≤ k) ∧ Turned O w w'
def Both (A B : World → (Nat → Prop) → Prop) (w : World) (Q : Nat → Prop) : Prop := ∃ O P, A w O ∧ B w P ∧ (∀ j, O j → Q j ∧ j < w.heap.size ∧ ¬ P j) ∧ ∀ j, P j → Q j ∧ j < w.heap.size
theorem Both.below {A B : World → (Nat → Prop) → Prop} {w w' : World} {Q : Nat → Prop} (h : Both A B w Q) (hA : OAt A) (hB : OAt B) (hb : Below w.heap.size w w') : Both A B w' (fun j => Q j ∧ (j < w.heap.size ∨ w'.heap.size ≤ j)) := by
  obtain ⟨O, P, h1, h2, h3, h4⟩ := h
  have hz := hb.size
  exact ⟨O, P, hA.keep h1 (fun j _ hl => hb.block j hl) hz, hB.keep h2 (fun j _ hl => hb.block j hl) hz, fun j e => ⟨⟨(h3 j e).1, .inl (h3 j e).2.1⟩, Nat.lt_of_lt_of_le (h3 j e).2.1 hz, (h3 j e).2.2⟩, fun j e => ⟨⟨(h4 j e).1, .inl (h4 j e).2⟩, Nat.lt_of_lt_of_le (h4 j e).2 hz⟩⟩
theorem Both.mono {A B : World → (Nat → Prop) → Prop} {w : World} {Q Q' : Nat → Prop} (h : Both A B w Q) (hq : ∀ j, Q j → Q' j) : Both A B w Q' := by
  obtain ⟨O, P, h1, h2, h3, h4⟩ := h
  exact ⟨O, P, h1, h2, fun j e => ⟨hq j (h3 j e).1, (h3 j e).2⟩, fun j e => ⟨hq j (h4 j e).1, (h4 j e).2⟩⟩
theorem Both.swap {A B : World → (Nat → Prop) → Prop} {w : World} {Q : Nat → Prop} (h : Both A B w Q) : Both B A w Q := by
  obtain ⟨O, P, h1, h2, h3, h4⟩ := h
  exact ⟨P, O, h2, h1, fun j e => ⟨(h4 j e).1, (h4 j e).2, fun e' => (h3 j e').2.2 e⟩, fun j e => ⟨(h3 j e).1, (h3 j e).2.1⟩⟩
theorem Both.one {A B : World → (Nat → Prop) → Prop} {w : World} {Q : Nat → Prop} (h : Both A B w Q) (hB : OAt B) :
    ∃ O, A w O ∧ (∀ j, O j → Q j ∧ j < w.heap.size) ∧ (∀ A' w1 w', Below w.heap.size w w1 → OAt A' → OStep A' w1 O w' → Both A' B w' (fun j => Q j ∨ w1.heap.size ≤ j) ∧ Turned Q w w') ∧
      ∀ A' w', A' w' O → Turned O w w' → Both A' B w' (fun j => Q j ∧ (j < w.heap.size ∨ w'.heap.size ≤ j)) ∧ Turned Q w w' := by
  obtain ⟨O, P, h1, h2, h3, h4⟩ := h
  refine ⟨O, h1, fun j e => ⟨(h3 j e).1, (h3 j e).2.1⟩, fun A' w1 w' hb1 hA' hS => ?_, fun A' w' hA' hT => ?_⟩
  · obtain ⟨O', a1, a2, a3⟩ := hS
    have hz := a3.size
    have hz1 := hb1.size
    refine ⟨⟨fun k => O' k ∧ k < w'.heap.size, P, hA'.trim a1, hB.keep h2 (fun j e hl => (a3.block j (Nat.lt_of_lt_of_le hl hz1) (fun e' => (h3 j e').2.2 e)).trans (hb1.block j hl)) (Nat.le_trans hz1 hz), fun j e => ⟨?_, e.2, fun e' => ?_⟩, fun j e => ⟨.inl (h4 j e).1, Nat.lt_of_lt_of_le (h4 j e).2 (Nat.le_trans hz1 hz)⟩⟩, (Turned.of_below hb1).trans (a3.mono fun k e => (h3 k e).1) (fun _ _ e => e)⟩
    · rcases a2 j e.1 with e1 | e1
      · exact .inl (h3 j e1).1
      · exact .inr e1
    · rcases a2 j e.1 with e1 | e1
      · exact (h3 j e1).2.2 e'
      · have := (h4 j e').2; omega
  · have hz := hT.size
    exact ⟨⟨O, P, hA', hB.keep h2 (fun j e hl => hT.block j hl (fun e' => (h3 j e').2.2 e)) hz, fun j e => ⟨⟨(h3 j e).1, .inl (h3 j e).2.1⟩, Nat.lt_of_lt_of_le (h3 j e).2.1 hz, (h3 j e).2.2⟩, fun j e => ⟨⟨(h4 j e).1, .inl (h4 j e).2⟩, Nat.lt_of_lt_of_le (h4 j e).2 hz⟩⟩, hT.mono fun k e => (h3 k e).1⟩
theorem Both.two {A B : World → (Nat → Prop) → Prop} {w : World} {Q : Nat → Prop} (h : Both A B w Q) (hA : OAt A) :
    ∃ P, B w P ∧ (∀ j, P j → Q j ∧ j < w.heap.size) ∧ (∀ B' w1 w', Below w.heap.size w w1 → OAt B' → OStep B' w1 P w' → Both A B' w' (fun j => Q j ∨ w1.heap.size ≤ j) ∧ Turned Q w w') ∧
      ∀ B' w', B' w' P → Turned P w w' → Both A B' w' (fun j => Q j ∧ (j < w.heap.size ∨ w'.heap.size ≤ j)) ∧ Turned Q w w' := by
  obtain ⟨P, h1, h2, h3, h4⟩ := h.swap.one hA
  exact ⟨P, h1, h2, fun B' w1 w' hb hB' hS => by obtain ⟨a, b⟩ := h3 B' w1 w' hb hB' hS; exact ⟨a.swap, b⟩, fun B' w' hB' hT => by obtain ⟨a, b⟩ := h4 B' w' hB' hT; exact ⟨a.swap, b⟩⟩
theorem Both.make {A B : World → (Nat → Prop) → Prop} {w w' : World} {O Q : Nat → Prop} (hA : OAt A) (hB : OAt B) (h1 : A w O) (hO : ∀ j, O j → j < w.heap.size → Q j) (hQ : ∀ j, w.heap.size ≤ j → j < w'.heap.size → Q j) (hb : Below w.heap.size w w') (h2 : B w' (fun k => w.heap.size ≤ k)) : Both A B w' Q := by
  have hz := hb.size
  exact ⟨fun k => O k ∧ k < w.heap.size, fun k => w.heap.size ≤ k ∧ k < w'.heap.size, hA.keep (hA.trim h1) (fun j _ hl => hb.block j hl) hz, hB.trim h2, fun j e => ⟨hO j e.1 e.2, by have := e.2; omega, fun e' => by have := e.2; have := e'.1; omega⟩, fun j e => ⟨hQ j e.1 e.2, e.2⟩⟩
end Go.Proofs.YtdmkjbdlidadiaaGreat

/- The statements' own example holds: alive answers true. -/
namespace Go.Proofs.YtdmkjbdlidadiaaGreat
open Go.RowKit

theorem mem_o (g : Nat) (S : MS) : OAt (fun w O => MemAt w O g S) := ⟨fun h hk _ => h.keep hk, fun h => h.trim⟩
end Go.Proofs.YtdmkjbdlidadiaaGreat

/- A Raw of either side, of any kind: what a law is told of the two. -/
namespace Go.Proofs.YtdmkjbdlidadiaaGreat
open Go.RowKit

structure RD (σ : Type) where
  read : σ → Int → List UInt8 × Int × σ
  write : σ → List UInt8 → Int × Int × σ
  seek : σ → Int → Int → Int × Int × σ
structure PlK {σ : Type} (D : RD σ) (T : TypeId) (v : Value) (g mb : Nat) (fr fw fs : FuncId) (A B : σ → World → (Nat → Prop) → Prop) (ok : Nat → σ → Prop) (Md : World → Prop) : Prop where
  mread : ∀ w, (method 503 T v "Read").run Tryz.prog w = .ok (fr, v) w
  mwrite : ∀ w, (method 503 T v "Write").run Tryz.prog w = .ok (fw, v) w
  mseek : ∀ w, (method 503 T v "Seek").run Tryz.prog w = .ok (fs, v) w
  cread : ∀ a w, (callFunc fr a).run Tryz.prog w = .ok (.enter fr a) w
  cwrite : ∀ a w, (callFunc fw a).run Tryz.prog w = .ok (.enter fw a) w
  cseek : ∀ a w, (callFunc fs a).run Tryz.prog w = .ok (.enter fs a) w
  oA : ∀ s, OAt (A s)
  oB : ∀ s, OAt (B s)
  less : ∀ n s, ok (n + 1) s → ok n s
  nr : ∀ n s k, ok (n + 1) s → ok n (D.read s k).2.2
  nw : ∀ n s x, ok (n + 1) s → x.length ≤ 1048576 → ok n (D.write s x).2.2
  ns : ∀ n s o wh, ok (n + 1) s → ok n (D.seek s o wh).2.2
  few : ∀ {w : World} {O : Nat → Prop} {s : σ} (n : Int), A s w O → (D.read s n).1.length ≤ 1048576
  pr : ∀ {w : World} {O : Nat → Prop} {s : σ} (n : Int), A s w O → ok 1 s → Calls Tryz.prog fr #[v, .int .i64 n] w fun e w' => ∃ u, e = .returned (.tuple #[u, .int .i64 (D.read s n).2.1]) ∧ w'.ownsRow w.heap.size 5 1 u (D.read s n).1.length ((D.read s n).1.map bv) ∧ A (D.read s n).2.2 w' O ∧ Turned O w w'
  qr : ∀ {w : World} {O : Nat → Prop} {s : σ} (n : Int), B s w O → ok 1 s → Calls Tryz.prog 234 #[.pointer (some ⟨g, 0, none⟩), .int .i64 n] w fun e w' => ∃ u, e = .returned (.tuple #[u, .int .i64 (D.read s n).2.1]) ∧ Bys w' u (D.read s n).1 ∧ OStep (B (D.read s n).2.2) w O w'
  pw : ∀ {w : World} {O : Nat → Prop} {s : σ} (x : List UInt8) (a : Option Addr) (c : Nat), A s w O → ok 1 s → Bys w (.slice a x.length c) x → x.length ≤ c → x.length ≤ 1048576 → (0 < x.length → ∀ k, (Value.slice a x.length c).ownBlock = some k → ¬ O k) →
    Calls Tryz.prog fw #[v, .slice a x.length c] w fun e w' => e = .returned (.tuple #[.int .i64 (D.write s x).1, .int .i64 (D.write s x).2.1]) ∧ OStep (A (D.write s x).2.2) w O w'
  qw : ∀ {w : World} {O : Nat → Prop} {s : σ} (x : List UInt8) (a : Option Addr) (c : Nat), B s w O → ok 1 s → Bys w (.slice a x.length c) x → x.length ≤ c → x.length ≤ 1048576 → (0 < x.length → ∀ k, (Value.slice a x.length c).ownBlock = some k → ¬ O k) →
    Calls Tryz.prog 232 #[.pointer (some ⟨g, 0, none⟩), .slice a x.length c] w fun e w' => e = .returned (.tuple #[.int .i64 (D.write s x).1, .int .i64 (D.write s x).2.1]) ∧ OStep (B (D.write s x).2.2) w O w'
  ps : ∀ {w : World} {O : Nat → Prop} {s : σ} (o wh : Int), A s w O → ok 1 s → I64 o → Calls Tryz.prog fs #[v, .int .i64 o, .int .i64 wh] w fun e w' => e = .returned (.tuple #[.int .i64 (D.seek s o wh).1, .int .i64 (D.seek s o wh).2.1]) ∧ OStep (A (D.seek s o wh).2.2) w O w'
  qs : ∀ {w : World} {O : Nat → Prop} {s : σ} (o wh : Int), B s w O → ok 1 s → I64 o → Calls Tryz.prog 101 #[.pointer (some ⟨g, 0, none⟩), .int .i64 o, .int .i64 wh] w fun e w' => e = .returned (.tuple #[.int .i64 (D.seek s o wh).1, .int .i64 (D.seek s o wh).2.1]) ∧ OStep (B (D.seek s o wh).2.2) w O w'
  tr : ∀ {w : World} {O : Nat → Prop} {s : σ} (n : Nat), B s w O → (D.read s (n : Int)).1.length ≤ n ∧ ((D.read s (n : Int)).2.1 ≠ 0 → (D.read s (n : Int)).1 = [])
  tw : ∀ {w : World} {O : Nat → Prop} {s : σ} (x : List UInt8), B s w O → 0 ≤ (D.write s x).1 ∧ (D.write s x).1 ≤ x.length ∧ ((D.write s x).2.1 ≠ 0 → (D.write s x).1 = 0)
  same : ∀ {w : World} {s : σ}, Both (A s) (B s) w (fun j => mb < j) → Md w → ok 0 s → Calls Tryz.prog 27 #[.pointer (some ⟨mb, 0, none⟩)] w fun e w' => e = .returned (.bool true) ∧ Below w.heap.size w w'
abbrev PP {σ : Type} (A B : σ → World → (Nat → Prop) → Prop) (s : σ) (lo : Nat) (w : World) : Prop := Both (A s) (B s) w (fun j => lo ≤ j)
theorem PP.below {σ : Type} {A B : σ → World → (Nat → Prop) → Prop} {s : σ} {lo : Nat} {w w' : World} (h : PP A B s lo w) (hA : ∀ s, OAt (A s)) (hB : ∀ s, OAt (B s)) (hb : Below w.heap.size w w') : PP A B s lo w' := (Both.below h (hA s) (hB s) hb).mono fun _ e => e.1
theorem pk_num {σ : Type} {A B : σ → World → (Nat → Prop) → Prop} (oA : ∀ s, OAt (A s)) (oB : ∀ s, OAt (B s)) {s s' : σ} {lo : Nat} {w : World} {F G : FuncId} {X Y : Array Value} {N E : Int} (h : PP A B s lo w) (hlo : lo ≤ w.heap.size)
    (hF : ∀ O wb, A s wb O → (∀ j, O j → lo ≤ j ∧ (j < w.heap.size ∨ wb.heap.size ≤ j)) → Below w.heap.size w wb → Calls Tryz.prog F X wb fun e w' => e = .returned (.tuple #[.int .i64 N, .int .i64 E]) ∧ OStep (A s') wb O w')
    (hG : ∀ O wb, B s wb O → (∀ j, O j → lo ≤ j) → Turned (fun j => lo ≤ j) w wb → Calls Tryz.prog G Y wb fun e w' => e = .returned (.tuple #[.int .i64 N, .int .i64 E]) ∧ OStep (B s') wb O w') :
    ∀ wb, Below w.heap.size w wb → Calls Tryz.prog F X wb fun e w1 => e = .returned (.tuple #[.int .i64 N, .int .i64 E]) ∧ Turned (fun j => lo ≤ j ∧ (j < w.heap.size ∨ wb.heap.size ≤ j)) wb w1 ∧ Turned (fun j => lo ≤ j) w w1 ∧
      ∀ w2, Below w1.heap.size w1 w2 → Calls Tryz.prog G Y w2 fun e w3 => e = .returned (.tuple #[.int .i64 N, .int .i64 E]) ∧ Hid (PP A B s' lo w3) ∧ Turned (fun j => lo ≤ j ∧ (j < w.heap.size ∨ wb.heap.size ≤ j)) wb w3 ∧ Turned (fun j => lo ≤ j) w w3 := by
  intro wb hb
  have hbb := Both.below h (oA _) (oB _) hb
  have hzb := hb.size
  obtain ⟨O, h1, h2, h3, -⟩ := hbb.one (oB _)
  refine (hF O wb h1 (fun j e => (h2 j e).1) hb).mono ?_
  rintro e w1 ⟨rfl, hS⟩
  obtain ⟨q1, q2⟩ := h3 (A s') wb w1 (Below.refl _ _) (oA _) hS
  have hT1 : Turned (fun j => lo ≤ j) w w1 := (Turned.of_below (S := fun j => lo ≤ j) hb).trans (q2.mono fun _ e => e.1) (fun _ _ e => e)
  refine ⟨rfl, q2, hT1, fun w2 hb2 => ?_⟩
  have hz1 := q2.size
  have hz2 := hb2.size
  have q3 := q1.below (oA _) (oB _) hb2
  obtain ⟨P, p1, p2, p3, -⟩ := q3.two (oA _)
  have hT2 := hT1.trans (Turned.of_below (S := fun j => lo ≤ j) hb2) (fun _ _ e => e)
  refine (hG P w2 p1 (fun j e => by rcases (p2 j e).1.1 with e | e; exact e.1; exact Nat.le_trans (Nat.le_trans hlo hzb) e) hT2).mono ?_
  rintro e w3 ⟨rfl, hS3⟩
  obtain ⟨r1, r2⟩ := p3 (B s') w2 w3 (Below.refl _ _) (oB _) hS3
  have hin : ∀ j, ((fun j => ((lo ≤ j ∧ (j < w.heap.size ∨ wb.heap.size ≤ j)) ∨ wb.heap.size ≤ j) ∧ (j < w1.heap.size ∨ w2.heap.size ≤ j)) j) → lo ≤ j ∧ (j < w.heap.size ∨ wb.heap.size ≤ j) := fun j e => by
    rcases e.1 with e1 | e1
    · exact e1
    · exact ⟨by omega, .inr e1⟩
  refine ⟨rfl, hide (r1.mono fun j e => ?_), (q2.trans (Turned.of_below (S := fun j => lo ≤ j ∧ (j < w.heap.size ∨ wb.heap.size ≤ j)) hb2) (fun _ _ e => e)).trans (r2.mono hin) (fun _ _ e => e), hT2.trans (r2.mono fun j e => (hin j e).1) (fun _ _ e => e)⟩
  rcases e with e | e
  · exact (hin j e).1
  · show lo ≤ j; omega
end Go.Proofs.YtdmkjbdlidadiaaGreat

/- A plant's kinds: memories and custom streams. -/
namespace Go.Proofs.YtdmkjbdlidadiaaGreat
open Go.RowKit

theorem rmem_o (g : Nat) (kind : Int) (S : MS) : OAt (fun w O => RMemAt w O g kind S) := ⟨fun h hk _ => h.keep hk, fun h => h.trim⟩
theorem RCusAt.trim {W : World} {O : Nat → Prop} {g : Nat} {C : CS} (h : RCusAt W O g C) : RCusAt W (fun k => O k ∧ k < W.heap.size) g C := by
  obtain ⟨rv, wv, tv, m, R, N, h⟩ := h
  obtain ⟨hA', hN'⟩ := cus_rows h.ans h.num
  exact ⟨rv, wv, tv, m, _, _, ⟨h.row, hA', hN', h.tak, fun k e => ⟨⟨(h.ot k e).1, (h.tak.lt k e).2⟩, fun x => (h.ot k e).2.1 x.1, fun x => (h.ot k e).2.2.1 x.1, (h.ot k e).2.2.2⟩, fun k e => ⟨⟨(h.oR k e.1).1, e.2⟩, (h.oR k e.1).2.1, fun x => (h.oR k e.1).2.2 x.1⟩, fun k e => ⟨⟨(h.oN k e.1).1, e.2⟩, (h.oN k e.1).2⟩, ⟨h.og, h.lt⟩, h.z1, h.z2, h.z3⟩⟩
def msD : RD MS := ⟨MS.read, MS.write, MS.seek⟩
theorem ms_few {w : World} {O : Nat → Prop} {g : Nat} {S : MS} (n : Int) (h : MemAt w O g S) : (S.read n).1.length ≤ 1048576 := by
  have h1 := h.ok
  unfold MS.read
  split
  · show (piece S.l S.pl n.toNat).length ≤ _; rw [piece_len]; omega
  · exact Nat.zero_le _
theorem ms_told (S : MS) (n : Nat) : (S.read (n : Int)).1.length ≤ n ∧ ((S.read (n : Int)).2.1 ≠ 0 → (S.read (n : Int)).1 = []) := by
  unfold MS.read
  split
  · exact ⟨by show (piece S.l S.pl (n : Int).toNat).length ≤ n; rw [piece_len, Int.toNat_natCast]; omega, fun h => absurd rfl h⟩
  · exact ⟨Nat.zero_le _, fun _ => rfl⟩
theorem ms_told_w (S : MS) (x : List UInt8) : 0 ≤ (S.write x).1 ∧ (S.write x).1 ≤ x.length ∧ ((S.write x).2.1 ≠ 0 → (S.write x).1 = 0) := by
  unfold MS.write
  split
  · exact ⟨Int.le_refl _, by show (0 : Int) ≤ _; omega, fun _ => rfl⟩
  split
  · exact ⟨Int.le_refl _, by show (0 : Int) ≤ _; omega, fun _ => rfl⟩
  split
  · exact ⟨Int.le_refl _, by show (0 : Int) ≤ _; omega, fun _ => rfl⟩
  · exact ⟨by show (0 : Int) ≤ ((min x.length (S.room - S.pl) : Nat) : Int); omega, by show ((min x.length (S.room - S.pl) : Nat) : Int) ≤ _; omega, fun h => absurd rfl h⟩
def mdc (T : TypeId) (v : Value) (g : Nat) (f q c : Option Addr) : Array Value := #[.iface T v, .pointer (some ⟨g, 0, none⟩), .pointer f, .pointer q, .pointer c, .pointer none, .pointer none]
def MdAt (mb : Nat) (T : TypeId) (v : Value) (g : Nat) (f q c : Option Addr) (w : World) : Prop := w.heap[mb]? = some (.cells (mdc T v g f q c) 78)
set_option maxRecDepth 100000 in
set_option maxHeartbeats 2000000 in
theorem same_fixed (x g mb : Nat) (S : MS) (w : World) (h : Both (fun w O => MemAt w O x S) (fun w O => RMemAt w O g 1 S) w (fun j => mb < j)) (hm : MdAt mb 74 (.pointer (some ⟨x, 0, none⟩)) g (some ⟨x, 0, none⟩) none none w) :
    Calls Tryz.prog 27 #[.pointer (some ⟨mb, 0, none⟩)] w fun e w' => e = .returned (.bool true) ∧ Below w.heap.size w w' := by
  obtain ⟨O, P, hA, hB, -, -⟩ := h
  obtain ⟨ba, bc, g1, hby⟩ : ∃ ba bc, w.cell? ⟨g, 1, none⟩ = some (.slice ba S.l.length bc) ∧ Bys w (.slice ba S.l.length bc) S.l := by
    obtain ⟨ba, bc, m, hg, hr, -⟩ := hB
    exact ⟨ba, bc, cell_of_row w g 1 _ _ _ hg, Bys.of_owns hr⟩
  have q1 : w.cell? ⟨mb, 1, none⟩ = some (.pointer (some ⟨g, 0, none⟩)) := cell_of_row w mb 1 _ _ _ hm
  have q2 : w.cell? ⟨mb, 2, none⟩ = some (.pointer (some ⟨x, 0, none⟩)) := cell_of_row w mb 2 _ _ _ hm
  have hlen : S.l.length ≤ maxLen := by have := hA.ok; unfold maxLen; omega
  have HM := hide (fmbytes_any O x S w.drew (hA.below (Below.refl _ _).drew))
  have HY := hide hby
  have hgl : g < w.heap.size := World.block_lt_of_cell? w _ g1
  have hml : mb < w.heap.size := World.block_lt_of_cell? w _ q1
  clear hm hA hB hby
  go_enter Tryz.func27, Tryz.ntmps27
  go_wp2_with fail
  go_region_held3 (fun w' => w'.cell? ⟨mb, 1, none⟩ = some (.pointer (some ⟨g, 0, none⟩)) ∧ w'.cell? ⟨mb, 2, none⟩ = some (.pointer (some ⟨x, 0, none⟩)) ∧ w'.cell? ⟨g, 1, none⟩ = some (.slice ba S.l.length bc))
    (first | exact K3 | exact K2 | go_keep)
    (first
      | (go_at_call 113; refine HM.out.mono ?_; rintro _ w2 ⟨v, rfl, ho, hB2⟩; obtain ⟨va, vc, rfl⟩ := owns_slice ho; have K2 : w2.cell? ⟨mb, 1, none⟩ = some (.pointer (some ⟨g, 0, none⟩)) ∧ w2.cell? ⟨mb, 2, none⟩ = some (.pointer (some ⟨x, 0, none⟩)) ∧ w2.cell? ⟨g, 1, none⟩ = some (.slice ba S.l.length bc) := ⟨(hB2.cell (p := ⟨mb, 1, none⟩) hml).trans q1, (hB2.cell (p := ⟨mb, 2, none⟩) hml).trans q2, (hB2.cell (p := ⟨g, 1, none⟩) hgl).trans g1⟩)
      | (go_at_call 64; refine (same_any _ _ _ w2 (Bys.of_owns ho) (HY.out.below ((Below.refl _ w).drew.trans hB2)) hlen).mono ?_; rintro _ w3 ⟨rfl, hB3⟩; have K3 : w3.cell? ⟨mb, 1, none⟩ = some (.pointer (some ⟨g, 0, none⟩)) ∧ w3.cell? ⟨mb, 2, none⟩ = some (.pointer (some ⟨x, 0, none⟩)) ∧ w3.cell? ⟨g, 1, none⟩ = some (.slice ba S.l.length bc) := ⟨(hB3.cell (p := ⟨mb, 1, none⟩) (Nat.lt_of_lt_of_le hml hB2.size)).trans K2.1, (hB3.cell (p := ⟨mb, 2, none⟩) (Nat.lt_of_lt_of_le hml hB2.size)).trans K2.2.1, (hB3.cell (p := ⟨g, 1, none⟩) (Nat.lt_of_lt_of_le hgl hB2.size)).trans K2.2.2⟩)
      | fail)
  all_goals
    go_wp2
    go_ret
    exact ⟨rfl, (Below.refl _ w).drew.trans (hB2.trans (hB3.mono hB2.size))⟩
set_option maxRecDepth 100000 in
set_option maxHeartbeats 2000000 in
theorem same_growing (x g mb : Nat) (S : MS) (w : World) (h : Both (fun w O => MemAt w O x S) (fun w O => RMemAt w O g 2 S) w (fun j => mb < j)) (hm : MdAt mb 75 (.pointer (some ⟨x, 0, none⟩)) g none (some ⟨x, 0, none⟩) none w) :
    Calls Tryz.prog 27 #[.pointer (some ⟨mb, 0, none⟩)] w fun e w' => e = .returned (.bool true) ∧ Below w.heap.size w w' := by
  obtain ⟨O, P, hA, hB, -, -⟩ := h
  obtain ⟨ba, bc, g1, hby⟩ : ∃ ba bc, w.cell? ⟨g, 1, none⟩ = some (.slice ba S.l.length bc) ∧ Bys w (.slice ba S.l.length bc) S.l := by
    obtain ⟨ba, bc, m, hg, hr, -⟩ := hB
    exact ⟨ba, bc, cell_of_row w g 1 _ _ _ hg, Bys.of_owns hr⟩
  have q1 : w.cell? ⟨mb, 1, none⟩ = some (.pointer (some ⟨g, 0, none⟩)) := cell_of_row w mb 1 _ _ _ hm
  have q12 : w.cell? ⟨mb, 2, none⟩ = some (.pointer none) := cell_of_row w mb 2 _ _ _ hm
  have q2 : w.cell? ⟨mb, 3, none⟩ = some (.pointer (some ⟨x, 0, none⟩)) := cell_of_row w mb 3 _ _ _ hm
  have hlen : S.l.length ≤ maxLen := by have := hA.ok; unfold maxLen; omega
  have HM := hide (gmbytes_any O x S w.drew (hA.below (Below.refl _ _).drew))
  have HY := hide hby
  have hgl : g < w.heap.size := World.block_lt_of_cell? w _ g1
  have hml : mb < w.heap.size := World.block_lt_of_cell? w _ q1
  clear hm hA hB hby
  go_enter Tryz.func27, Tryz.ntmps27
  go_wp2_with fail
  go_region_held3 (fun w' => w'.cell? ⟨mb, 1, none⟩ = some (.pointer (some ⟨g, 0, none⟩)) ∧ w'.cell? ⟨mb, 3, none⟩ = some (.pointer (some ⟨x, 0, none⟩)) ∧ w'.cell? ⟨g, 1, none⟩ = some (.slice ba S.l.length bc))
    (first | exact K3 | exact K2 | go_keep)
    (first
      | (go_at_call 103; refine HM.out.mono ?_; rintro _ w2 ⟨v, rfl, ho, hB2⟩; obtain ⟨va, vc, rfl⟩ := owns_slice ho; have K2 : w2.cell? ⟨mb, 1, none⟩ = some (.pointer (some ⟨g, 0, none⟩)) ∧ w2.cell? ⟨mb, 3, none⟩ = some (.pointer (some ⟨x, 0, none⟩)) ∧ w2.cell? ⟨g, 1, none⟩ = some (.slice ba S.l.length bc) := ⟨(hB2.cell (p := ⟨mb, 1, none⟩) hml).trans q1, (hB2.cell (p := ⟨mb, 3, none⟩) hml).trans q2, (hB2.cell (p := ⟨g, 1, none⟩) hgl).trans g1⟩)
      | (go_at_call 64; refine (same_any _ _ _ w2 (Bys.of_owns ho) (HY.out.below ((Below.refl _ w).drew.trans hB2)) hlen).mono ?_; rintro _ w3 ⟨rfl, hB3⟩; have K3 : w3.cell? ⟨mb, 1, none⟩ = some (.pointer (some ⟨g, 0, none⟩)) ∧ w3.cell? ⟨mb, 3, none⟩ = some (.pointer (some ⟨x, 0, none⟩)) ∧ w3.cell? ⟨g, 1, none⟩ = some (.slice ba S.l.length bc) := ⟨(hB3.cell (p := ⟨mb, 1, none⟩) (Nat.lt_of_lt_of_le hml hB2.size)).trans K2.1, (hB3.cell (p := ⟨mb, 3, none⟩) (Nat.lt_of_lt_of_le hml hB2.size)).trans K2.2.1, (hB3.cell (p := ⟨g, 1, none⟩) (Nat.lt_of_lt_of_le hgl hB2.size)).trans K2.2.2⟩)
      | fail)
  all_goals
    go_wp2
    go_ret
    exact ⟨rfl, (Below.refl _ w).drew.trans (hB2.trans (hB3.mono hB2.size))⟩
set_option maxRecDepth 100000 in
theorem pk_growing (x g mb : Nat) : PlK msD 75 (.pointer (some ⟨x, 0, none⟩)) g mb 310 312 311 (fun S w O => MemAt w O x S) (fun S w O => RMemAt w O g 2 S) (fun _ _ => True) (MdAt mb 75 (.pointer (some ⟨x, 0, none⟩)) g none (some ⟨x, 0, none⟩) none) where
  mread w := by kernel_rfl
  mwrite w := by kernel_rfl
  mseek w := by kernel_rfl
  cread a w := by kernel_rfl
  cwrite a w := by kernel_rfl
  cseek a w := by kernel_rfl
  oA s := mem_o _ _
  oB s := rmem_o _ _ _
  less _ _ h := h
  nr _ _ _ h := h
  nw _ _ _ h _ := h
  ns _ _ _ _ h := h
  few n h := ms_few n h
  pr n h _ := gmread_any _ _ _ n _ h
  qr n h _ := (rrmread_any _ _ _ n _ _ h (.inr (.inl rfl))).mono fun e w' ⟨u, h1, h2, h3, h4⟩ => ⟨u, h1, h2, _, h3, fun _ e => .inl e, h4⟩
  pw y a c h _ hx hc _ hap := gmwrite_any _ _ _ y a c _ h hx hc hap
  qw y a c h _ hx hc _ hap := rrmwrite_any _ _ _ _ y a c _ h (.inr rfl) hx hc hap
  ps o wh h _ _ := gmseek_any _ _ _ o wh _ h
  qs o wh h _ _ := (rrmseek_any _ _ _ o wh _ _ h (.inr (.inl rfl))).mono fun e w' ⟨h1, h3, h4⟩ => ⟨h1, _, h3, fun _ e => .inl e, h4⟩
  tr n _ := ms_told _ n
  tw x _ := ms_told_w _ x
  same h hm _ := same_growing x g mb _ _ h hm
end Go.Proofs.YtdmkjbdlidadiaaGreat

/- Raws, as values and in memory; retry's small functions. -/
namespace Go.Proofs.YtdmkjbdlidadiaaGreat
open Go.RowKit Go.Maps

structure RawD (S : Type) where
  read : S → Nat → List UInt8 × Int × S
  write : S → List UInt8 → Int × Int × S
structure RawM {S : Type} (D : RawD S) (T : TypeId) (v : Value) (fr fw : FuncId) (rok wok : S → Prop) (At : World → (Nat → Prop) → S → Prop) : Prop where
  mread : ∀ w, (method 503 T v "Read").run Tryz.prog w = .ok (fr, v) w
  mwrite : ∀ w, (method 503 T v "Write").run Tryz.prog w = .ok (fw, v) w
  cread : ∀ a w, (callFunc fr a).run Tryz.prog w = .ok (.enter fr a) w
  cwrite : ∀ a w, (callFunc fw a).run Tryz.prog w = .ok (.enter fw a) w
  keep : ∀ {w w' : World} {O : Nat → Prop} {s : S}, At w O s → (∀ j, O j → j < w.heap.size → w'.heap[j]? = w.heap[j]?) → w.heap.size ≤ w'.heap.size → At w' O s
  few : ∀ {w : World} {O : Nat → Prop} {s : S} (n : Nat), At w O s → (D.read s n).1.length ≤ 1073741824
  read : ∀ {w : World} {O : Nat → Prop} {s : S} (n : Nat), At w O s → rok s → 1 ≤ n → n ≤ 1048576 → Calls Tryz.prog fr #[v, .int .i64 n] w fun e w' => ∃ ua uc, e = .returned (.tuple #[.slice ua (D.read s n).1.length uc, .int .i64 (D.read s n).2.1]) ∧ Bys w' (.slice ua (D.read s n).1.length uc) (D.read s n).1 ∧ At w' O (D.read s n).2.2 ∧ Turned O w w'
  write : ∀ {w : World} {O : Nat → Prop} {s : S} (bs : List UInt8) (a : Option Addr) (c : Nat), At w O s → wok s → Bys w (.slice a bs.length c) bs → bs.length ≤ c → 1 ≤ bs.length → bs.length ≤ 1048576 → (∀ k, (Value.slice a bs.length c).ownBlock = some k → ¬ O k) →
    Calls Tryz.prog fw #[v, .slice a bs.length c] w fun e w' => e = .returned (.tuple #[.int .i64 (D.write s bs).1, .int .i64 (D.write s bs).2.1]) ∧ ∃ O', At w' O' (D.write s bs).2.2 ∧ (∀ k, O' k → O k ∨ w.heap.size ≤ k) ∧ Turned O w w'
theorem view_own {P : Prop} {w : World} {E : Int} {l : List UInt8} {e : Ending} {w' : World} (h : ∃ u, e = .returned (.tuple #[u, .int .i64 E]) ∧ w'.ownsRow w.heap.size 5 1 u l.length (l.map bv) ∧ P) : ∃ ua uc, e = .returned (.tuple #[.slice ua l.length uc, .int .i64 E]) ∧ Bys w' (.slice ua l.length uc) l ∧ P := by
  obtain ⟨u, rfl, ho, hp⟩ := h
  obtain ⟨ua, uc, rfl⟩ := owns_slice ho
  exact ⟨ua, uc, rfl, Bys.of_owns ho, hp⟩
def RStep {S : Type} (At : World → (Nat → Prop) → S → Prop) (w : World) (O : Nat → Prop) (s : S) (w' : World) : Prop := ∃ O', At w' O' s ∧ (∀ k, O' k → O k ∨ w.heap.size ≤ k) ∧ Turned O w w'
def someV {S : Type} (D : RawD S) (n : Nat) : Nat → S → List UInt8 × Int × S
  | 0, s => ([], 81, s)
  | k + 1, s => if (D.read s n).2.1 = 22 ∨ (D.read s n).2.1 = 23 then someV D n k (D.read s n).2.2
      else if n < (D.read s n).1.length then ([], 82, (D.read s n).2.2)
      else if (D.read s n).2.1 = 0 then ((D.read s n).1, 0, (D.read s n).2.2)
      else ([], (D.read s n).2.1, (D.read s n).2.2)
theorem someV_next {S : Type} (D : RawD S) (n k : Nat) (s : S) {b : List UInt8} {e : Int} {s2 : S} (h : D.read s n = (b, e, s2)) : someV D n (k + 1) s = if e = 22 ∨ e = 23 then someV D n k s2 else if n < b.length then ([], 82, s2) else if e = 0 then (b, 0, s2) else ([], e, s2) := by
  show (if (D.read s n).2.1 = 22 ∨ (D.read s n).2.1 = 23 then someV D n k (D.read s n).2.2 else if n < (D.read s n).1.length then ([], 82, (D.read s n).2.2) else if (D.read s n).2.1 = 0 then ((D.read s n).1, 0, (D.read s n).2.2) else ([], (D.read s n).2.1, (D.read s n).2.2)) = _
  rw [h]
def someOk {S : Type} (D : RawD S) (ok : S → Prop) (n : Nat) : Nat → S → Prop
  | 0, _ => True
  | k + 1, s => ok s ∧ ((D.read s n).2.1 = 22 ∨ (D.read s n).2.1 = 23 → someOk D ok n k (D.read s n).2.2)
def putV {S : Type} (D : RawD S) (bs : List UInt8) : Nat → S → Nat → Nat → Nat × Int × S
  | 0, s, d, _ => (d, 0, s)
  | k + 1, s, d, t => if d < bs.length then
      (if ((D.write s (bs.drop d)).2.1 = 22 ∨ (D.write s (bs.drop d)).2.1 = 23) ∨ ((D.write s (bs.drop d)).1 = 0 ∧ (D.write s (bs.drop d)).2.1 = 0) then
        (if t + 1 = 8192 then (d, 81, (D.write s (bs.drop d)).2.2) else putV D bs k (D.write s (bs.drop d)).2.2 d (t + 1))
       else if (D.write s (bs.drop d)).1 < 0 ∨ ((bs.length - d : Nat) : Int) < (D.write s (bs.drop d)).1 then (d, 82, (D.write s (bs.drop d)).2.2)
       else if (D.write s (bs.drop d)).2.1 = 0 then putV D bs k (D.write s (bs.drop d)).2.2 (d + (D.write s (bs.drop d)).1.toNat) 0
       else (d, (D.write s (bs.drop d)).2.1, (D.write s (bs.drop d)).2.2))
      else (d, 0, s)
def putOk {S : Type} (D : RawD S) (ok : S → Prop) (bs : List UInt8) : Nat → S → Nat → Nat → Prop
  | 0, _, _, _ => True
  | k + 1, s, d, t => d < bs.length → ok s ∧
      (((D.write s (bs.drop d)).2.1 = 22 ∨ (D.write s (bs.drop d)).2.1 = 23) ∨ ((D.write s (bs.drop d)).1 = 0 ∧ (D.write s (bs.drop d)).2.1 = 0) → t + 1 ≠ 8192 → putOk D ok bs k (D.write s (bs.drop d)).2.2 d (t + 1)) ∧
      ((D.write s (bs.drop d)).2.1 = 0 → 1 ≤ (D.write s (bs.drop d)).1 → (D.write s (bs.drop d)).1 ≤ ((bs.length - d : Nat) : Int) → putOk D ok bs k (D.write s (bs.drop d)).2.2 (d + (D.write s (bs.drop d)).1.toNat) 0)
theorem putV_next {S : Type} (D : RawD S) (bs : List UInt8) (k : Nat) (s : S) (d t : Nat) {m e : Int} {s2 : S} (h : D.write s (bs.drop d) = (m, e, s2)) : putV D bs (k + 1) s d t = if d < bs.length then
      (if (e = 22 ∨ e = 23) ∨ (m = 0 ∧ e = 0) then (if t + 1 = 8192 then (d, 81, s2) else putV D bs k s2 d (t + 1))
       else if m < 0 ∨ ((bs.length - d : Nat) : Int) < m then (d, 82, s2)
       else if e = 0 then putV D bs k s2 (d + m.toNat) 0
       else (d, e, s2))
      else (d, 0, s) := by
  show (if d < bs.length then
      (if ((D.write s (bs.drop d)).2.1 = 22 ∨ (D.write s (bs.drop d)).2.1 = 23) ∨ ((D.write s (bs.drop d)).1 = 0 ∧ (D.write s (bs.drop d)).2.1 = 0) then
        (if t + 1 = 8192 then (d, 81, (D.write s (bs.drop d)).2.2) else putV D bs k (D.write s (bs.drop d)).2.2 d (t + 1))
       else if (D.write s (bs.drop d)).1 < 0 ∨ ((bs.length - d : Nat) : Int) < (D.write s (bs.drop d)).1 then (d, 82, (D.write s (bs.drop d)).2.2)
       else if (D.write s (bs.drop d)).2.1 = 0 then putV D bs k (D.write s (bs.drop d)).2.2 (d + (D.write s (bs.drop d)).1.toNat) 0
       else (d, (D.write s (bs.drop d)).2.1, (D.write s (bs.drop d)).2.2))
      else (d, 0, s)) = _
  rw [h]
theorem putV_done {S : Type} (D : RawD S) (bs : List UInt8) (k : Nat) (s : S) (d t : Nat) (h : ¬ d < bs.length) : putV D bs k s d t = (d, 0, s) := by
  cases k with
  | zero => rfl
  | succ k => unfold putV; rw [if_neg h]
theorem putOk_next {S : Type} (D : RawD S) (ok : S → Prop) (bs : List UInt8) (k : Nat) (s : S) (d t : Nat) {m e : Int} {s2 : S} (h : D.write s (bs.drop d) = (m, e, s2)) (hd : d < bs.length) (hp : putOk D ok bs (k + 1) s d t) : ok s ∧ ((e = 22 ∨ e = 23) ∨ (m = 0 ∧ e = 0) → t + 1 ≠ 8192 → putOk D ok bs k s2 d (t + 1)) ∧ (e = 0 → 1 ≤ m → m ≤ ((bs.length - d : Nat) : Int) → putOk D ok bs k s2 (d + m.toNat) 0) := by
  have h2 := hp hd
  rw [h] at h2
  exact h2
def putF (bs : List UInt8) : Nat := bs.length * 8192 + 8192
theorem RStep.refl {S : Type} {At : World → (Nat → Prop) → S → Prop} {w : World} {O : Nat → Prop} {s : S} (h : At w O s) : RStep At w O s w := ⟨O, h, fun _ e => .inl e, Turned.of_below (Below.refl _ _)⟩
theorem isTry_yes (e : Int) (w : World) (h : e = 22 ∨ e = 23) : Calls Tryz.prog 235 #[.int .i64 e] w fun r w' => r = .returned (.bool true) ∧ w = w' := by
  rcases h with rfl | rfl
  all_goals
    go_enter Tryz.func235, Tryz.ntmps235
    go_wp2
    go_ret
    exact ⟨rfl, rfl⟩
theorem isTry_no (e : Int) (w : World) (h : ¬ (e = 22 ∨ e = 23)) : Calls Tryz.prog 235 #[.int .i64 e] w fun r w' => r = .returned (.bool false) ∧ w = w' := by
  have h1 : ¬ e = 22 := fun x => h (.inl x)
  have h2 : ¬ e = 23 := fun x => h (.inr x)
  have h3 : (e == 22) = false := by simp [h1]
  have h4 : (e == 23) = false := by simp [h2]
  go_enter Tryz.func235, Tryz.ntmps235
  go_wp2
  go_ret
  exact ⟨rfl, rfl⟩
theorem readable_yes (T : TypeId) (v : Value) (n : Int) (w : World) (h1 : 1 ≤ n) (h2 : n ≤ 1048576) : Calls Tryz.prog 249 #[.iface T v, .int .i64 n] w fun r w' => r = .returned (.int .i64 0) ∧ w = w' := by
  have h3 : ¬ n < 1 := by omega
  have h4 : ¬ 1048576 < n := by omega
  go_enter Tryz.func249, Tryz.ntmps249
  go_wp2
  go_ret
  exact ⟨rfl, rfl⟩
set_option maxRecDepth 100000 in
set_option maxHeartbeats 1000000 in
theorem bclone_any (v : Value) (l : List UInt8) (w : World) (h : Bys w v l) (hs : l.length ≤ 140737488351232) :
    Calls Tryz.prog 199 #[v] w fun e w' => ∃ u, e = .returned u ∧ w'.ownsRow w.heap.size 5 1 u l.length (l.map bv) ∧ Below w.heap.size w w' := by
  have hmade : (w.alloc (Obj.cells #[] 5)).ownsRow w.heap.size 5 1 (.slice (some ⟨w.heap.size, 0, none⟩) 0 0) ([] : List UInt8).length (([] : List UInt8).map bv) := World.ownsRow_made _ _ _ (Nat.le_refl _) (by decide) rfl
  have hB := recv_below w (Obj.cells #[] 5)
  obtain ⟨s', w1, hrun, HO, hg, hb⟩ := run_append_bytes (w.alloc (Obj.cells #[] 5)) 40 w.heap.size _ v [] l hmade (h.below hB) (by simpa using hs) hB.size
  have HR := hide hrun
  have HB : Hid (Below w.heap.size w w1) := hide (hB.grown hg hB.size (fun j e => by
    have : w.heap.size = j := by simpa [Value.ownBlock] using e
    omega))
  rcases h with ⟨rfl, rfl⟩ | ⟨a, cap, rfl, rfl⟩ | ⟨b, off, cap, rfl, h0, -⟩
  · have hnil : ∀ W, (binOp .eql 40 (.slice none 0 0) (.slice none 0 0)).run Tryz.prog W = .ok (.bool true) W := fun W => Lib.run_eql_slice_nil_nil W _ _ Tryz.underlying40
    go_enter Tryz.func199, Tryz.ntmps199
    go_wp2
    go_ret
    exact ⟨_, rfl, World.ownsRow_nil _ _ _ _, Below.refl _ _⟩
  · have hnil : ∀ W, (binOp .eql 40 (.slice (some a) 0 cap) (.slice none 0 0)).run Tryz.prog W = .ok (.bool false) W := fun W => Lib.run_eql_slice_some_nil W _ _ _ Tryz.underlying40
    clear hrun hg hb hmade hB
    go_enter Tryz.func199, Tryz.ntmps199
    go_wp2_with (at_builtin; refine Lib.wpList_append_run _ rfl _ _ _ _ rfl _ _ rfl rfl _ _ HR.out ?_)
    go_ret
    exact ⟨_, rfl, HO.out, HB.out⟩
  · have hnil : ∀ W, (binOp .eql 40 (.slice (some ⟨b, off, none⟩) l.length cap) (.slice none 0 0)).run Tryz.prog W = .ok (.bool false) W := fun W => Lib.run_eql_slice_some_nil W _ _ _ Tryz.underlying40
    clear hrun hg hb hmade hB
    go_enter Tryz.func199, Tryz.ntmps199
    go_wp2_with (at_builtin; refine Lib.wpList_append_run _ rfl _ _ _ _ rfl _ _ rfl rfl _ _ HR.out ?_)
    go_ret
    exact ⟨_, rfl, HO.out, HB.out⟩
end Go.Proofs.YtdmkjbdlidadiaaGreat

/- Some, over any Raw. -/
namespace Go.Proofs.YtdmkjbdlidadiaaGreat
open Go.RowKit Go.Maps

set_option maxRecDepth 100000 in
set_option maxHeartbeats 4000000 in
theorem some_any {S : Type} {D : RawD S} {T : TypeId} {v : Value} {fr fw : FuncId} {rok wok : S → Prop} {At : World → (Nat → Prop) → S → Prop} (R : RawM D T v fr fw rok wok At) {w : World} {O : Nat → Prop} {s : S} (n : Nat) (h : At w O s) (h1 : 1 ≤ n) (h2 : n ≤ 1048576) (hok : someOk D rok n 8192 s) :
    Calls Tryz.prog 236 #[.iface T v, .int .i64 n] w fun e w' => ∃ u, e = .returned (.tuple #[u, .int .i64 (someV D n 8192 s).2.1]) ∧ w'.ownsRow w.heap.size 5 1 u (someV D n 8192 s).1.length ((someV D n 8192 s).1.map bv) ∧ At w' O (someV D n 8192 s).2.2 ∧ Turned O w w' := by
  have hm := R.mread
  have hcr := R.cread
  have HA := hide h
  have HOk := hide hok
  have HR := hide R
  clear h hok R
  go_enter Tryz.func236, Tryz.ntmps236
  go_wp2_with (first | (go_at_call 249; refine (readable_yes T v n _ (by omega) (by omega)).mono ?_; rintro _ _ ⟨rfl, rfl⟩) | fail)
  obtain ⟨tr, htr⟩ : ∃ tr, tr = 8192 := ⟨_, rfl⟩
  have HTr := hide htr
  clear htr
  go_loopw [15] (fun i wr => ∃ (k : Nat) (s' : S), i = .int .i64 k ∧ k ≤ 8192 ∧ Hid (At wr O s') ∧ Hid (someOk D rok n (tr - k) s' ∧ someV D n (tr - k) s' = someV D n 8192 s) ∧ Hid (Turned O w wr) ∧ w.heap.size ≤ wr.heap.size) (fun i _ => 8192 - (intOf i).toNat)
  case atStart => exact ⟨0, s, rfl, Nat.zero_le _, HA, hide (by rw [HTr.out]; exact ⟨HOk.out, rfl⟩), hide (Turned.of_below (Below.refl _ _)), Nat.le_refl _⟩
  case round =>
    obtain ⟨k, s', rfl, hk, HAt, HV, HT, hsz⟩ := hrel
    clear HA HOk
    by_cases hlt : k < 8192
    case neg =>
      have hke : k = 8192 := by omega
      have HE : Hid (someV D n 8192 s = ([], 81, s')) := hide (by
        have := HV.out.2
        rw [show tr - k = 0 by have := HTr.out; omega] at this
        exact this.symm)
      have hlt' : ¬ (k : Int) < 8192 := by omega
      clear HV hke hlt
      go_wp2_with fail
      go_ret2
      rw [HE.out]
      exact ⟨_, rfl, World.ownsRow_nil _ _ _ _, HAt.out, HT.out⟩
    have hlt' : (k : Int) < 8192 := by omega
    obtain ⟨j, hj⟩ : ∃ j, tr - k = j + 1 := ⟨tr - k - 1, by have := HTr.out; omega⟩
    rw [hj] at HV
    have HRd := hide (HR.out.read n HAt.out HV.out.1.1 h1 h2)
    have hfew := HR.out.few n HAt.out
    obtain ⟨b, e, s2, hd⟩ : ∃ b e s2, D.read s' n = (b, e, s2) := ⟨_, _, _, rfl⟩
    rw [hd] at HRd hfew
    simp only at HRd hfew
    have hV1 : e = 22 ∨ e = 23 → someOk D rok n j s2 := by have := HV.out.1.2; rw [hd] at this; exact this
    have hV2 := HV.out.2
    rw [someV_next D n j s' hd] at hV2
    have HV1 := hide hV1
    have HJ := hide hj
    clear HV hd hj hV1
    by_cases ht : e = 22 ∨ e = 23
    · rw [if_pos ht] at hV2
      have HV2 := hide hV2
      have HV3 := hide (HV1.out ht)
      have HTt := hide ht
      clear hV2 ht
      go_wp2_with fail
      refine HRd.out.mono ?_
      rintro _ w1 ⟨ua, uc, rfl, hO1, hA1, hT1⟩
      have HA1 := hide hA1
      have HT1 := hide (HT.out.trans hT1 (fun _ _ e => e))
      have hs1 : w.heap.size ≤ w1.heap.size := Nat.le_trans hsz hT1.size
      clear hO1 hA1 hT1
      go_wp2_with (first | (go_at_call 235; refine (isTry_yes _ _ HTt.out).mono ?_; rintro _ _ ⟨rfl, rfl⟩) | fail)
      go_roundw
      case rel => exact ⟨k + 1, s2, by go_num, by omega, HA1, hide (by rw [show tr - (k + 1) = j by have := HJ.out; omega]; exact ⟨HV3.out, HV2.out⟩), HT1, hs1⟩
      case measure => simp [intOf]; omega
    · rw [if_neg ht] at hV2
      have HTt := hide ht
      clear ht HV1
      by_cases hn : n < b.length
      · rw [if_pos hn] at hV2
        have HV2 := hide hV2
        have hn' : (n : Int) < (b.length : Int) := by omega
        clear hV2 hn
        go_wp2_with fail
        refine HRd.out.mono ?_
        rintro _ w1 ⟨ua, uc, rfl, hO1, hA1, hT1⟩
        have HA1 := hide hA1
        have HT1 := hide (HT.out.trans hT1 (fun _ _ e => e))
        clear hO1 hA1 hT1
        go_wp2_with (first | (go_at_call 235; refine (isTry_no _ _ HTt.out).mono ?_; rintro _ _ ⟨rfl, rfl⟩) | fail)
        go_ret2
        rw [← HV2.out]
        exact ⟨_, rfl, World.ownsRow_nil _ _ _ _, HA1.out, HT1.out⟩
      rw [if_neg hn] at hV2
      have hn' : ¬ (n : Int) < (b.length : Int) := by omega
      by_cases he : e = 0
      · subst he
        rw [if_pos rfl] at hV2
        have HV2 := hide hV2
        clear hV2 hn
        go_wp2_with fail
        refine HRd.out.mono ?_
        rintro _ w1 ⟨ua, uc, rfl, hO1, hA1, hT1⟩
        have HC := hide (bclone_any (.slice ua b.length uc) b w1 hO1 (by omega))
        have HA1 := hide hA1
        have HT1 := hide (HT.out.trans hT1 (fun _ _ e => e))
        clear hO1 hA1 hT1
        go_wp2_with (first | (go_at_call 235; refine (isTry_no _ _ HTt.out).mono ?_; rintro _ _ ⟨rfl, rfl⟩) | fail)
        refine HC.out.mono ?_
        rintro _ w2 ⟨u2, rfl, hO2, hB2⟩
        have HA2 := hide (HR.out.keep HA1.out (fun j _ hj => hB2.block j hj) hB2.size)
        have HT2 := hide (HT1.out.trans (Turned.of_below hB2) (fun _ _ e => e))
        have HO2 := hide (owns_mono hO2 HT1.out.size)
        clear hO2 hB2
        go_wp2
        go_ret2
        rw [← HV2.out]
        exact ⟨_, rfl, HO2.out, HA2.out, HT2.out⟩
      · rw [if_neg he] at hV2
        have HV2 := hide hV2
        have he2 : (e != 0) = true := by simp [he]
        have he3 : (e == 0) = false := by simp [he]
        clear hV2 hn
        go_wp2_with fail
        refine HRd.out.mono ?_
        rintro _ w1 ⟨ua, uc, rfl, hO1, hA1, hT1⟩
        have HA1 := hide hA1
        have HT1 := hide (HT.out.trans hT1 (fun _ _ e => e))
        clear hO1 hA1 hT1
        go_wp2_with (first | (go_at_call 235; refine (isTry_no _ _ HTt.out).mono ?_; rintro _ _ ⟨rfl, rfl⟩) | fail)
        go_ret2
        rw [← HV2.out]
        exact ⟨_, rfl, World.ownsRow_nil _ _ _ _, HA1.out, HT1.out⟩
end Go.Proofs.YtdmkjbdlidadiaaGreat

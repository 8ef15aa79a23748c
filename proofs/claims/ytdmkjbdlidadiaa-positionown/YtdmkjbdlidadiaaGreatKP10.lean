/- What the proof stands on, part 10: the contracts of the program's calls that it reaches. -/
import Derived.Test.YtdmkjbdlidadiaaGreatKP9
import Derived.Deep.Cut
import Derived.Deep.RegionLaw
/- Position: a state with nothing held; a copy of a state. -/
namespace Go.Proofs.YtdmkjbdlidadiaaGreat
open Go.RowKit

set_option maxRecDepth 100000 in
set_option maxHeartbeats 4000000 in
theorem emptied_any (x : SS) (oa ia ba : Option Addr) (oc ic bc : Nat) (w : World) : Calls Tryz.prog 137 #[.agg #[.bool x.rd, .bool x.wt, .int .i64 x.mode, .int .i64 x.size, .slice oa x.out.length oc, .slice ia x.inn.length ic, .slice ba x.back.length bc, .int .i64 x.dir, .bool x.fin, .bool x.bad, .bool x.closed]] w fun e w' => e = .returned (.agg #[.bool x.bare.rd, .bool x.bare.wt, .int .i64 x.bare.mode, .int .i64 x.bare.size, .slice none 0 0, .slice none 0 0, .slice none 0 0, .int .i64 x.bare.dir, .bool x.bare.fin, .bool x.bare.bad, .bool x.bare.closed]) ∧ Below w.heap.size w w' := by
  go_enter Tryz.func137, Tryz.ntmps137
  go_wp2_with fail
  have HB0 := hide ((recv_below w (Obj.cells #[.bool x.rd, .bool x.wt, .int .i64 x.mode, .int .i64 x.size, .slice oa x.out.length oc, .slice ia x.inn.length ic, .slice ba x.back.length bc, .int .i64 x.dir, .bool x.fin, .bool x.bad, .bool x.closed] 58)).trans ((recv_below (w.alloc (Obj.cells #[.bool x.rd, .bool x.wt, .int .i64 x.mode, .int .i64 x.size, .slice oa x.out.length oc, .slice ia x.inn.length ic, .slice ba x.back.length bc, .int .i64 x.dir, .bool x.fin, .bool x.bad, .bool x.closed] 58)) (Obj.cells #[.bool false, .bool false, .int .i64 0, .int .i64 0, .slice none 0 0, .slice none 0 0, .slice none 0 0, .int .i64 0, .bool false, .bool false, .bool false] 58)).mono (recv_below w (Obj.cells #[.bool x.rd, .bool x.wt, .int .i64 x.mode, .int .i64 x.size, .slice oa x.out.length oc, .slice ia x.inn.length ic, .slice ba x.back.length bc, .int .i64 x.dir, .bool x.fin, .bool x.bad, .bool x.closed] 58)).size))
  have HS0 := hide ((StAt.new w x (.slice oa x.out.length oc) (.slice ia x.inn.length ic) (.slice ba x.back.length bc)).below (recv_below _ (Obj.cells #[.bool false, .bool false, .int .i64 0, .int .i64 0, .slice none 0 0, .slice none 0 0, .slice none 0 0, .int .i64 0, .bool false, .bool false, .bool false] 58)))
  have HZ0 : Hid (((w.alloc (Obj.cells #[.bool x.rd, .bool x.wt, .int .i64 x.mode, .int .i64 x.size, .slice oa x.out.length oc, .slice ia x.inn.length ic, .slice ba x.back.length bc, .int .i64 x.dir, .bool x.fin, .bool x.bad, .bool x.closed] 58)).alloc (Obj.cells #[.bool false, .bool false, .int .i64 0, .int .i64 0, .slice none 0 0, .slice none 0 0, .slice none 0 0, .int .i64 0, .bool false, .bool false, .bool false] 58)).heap[w.heap.size + 1]? = some (Obj.cells #[.bool false, .bool false, .int .i64 0, .int .i64 0, .slice none 0 0, .slice none 0 0, .slice none 0 0, .int .i64 0, .bool false, .bool false, .bool false] 58)) := hide (by have := heap_alloc_new (w.alloc (Obj.cells #[.bool x.rd, .bool x.wt, .int .i64 x.mode, .int .i64 x.size, .slice oa x.out.length oc, .slice ia x.inn.length ic, .slice ba x.back.length bc, .int .i64 x.dir, .bool x.fin, .bool x.bad, .bool x.closed] 58)) (Obj.cells #[.bool false, .bool false, .int .i64 0, .int .i64 0, .slice none 0 0, .slice none 0 0, .slice none 0 0, .int .i64 0, .bool false, .bool false, .bool false] 58); rw [show (w.alloc (Obj.cells #[.bool x.rd, .bool x.wt, .int .i64 x.mode, .int .i64 x.size, .slice oa x.out.length oc, .slice ia x.inn.length ic, .slice ba x.back.length bc, .int .i64 x.dir, .bool x.fin, .bool x.bad, .bool x.closed] 58)).heap.size = w.heap.size + 1 from Array.size_push ..] at this; exact this)
  generalize (w.alloc (Obj.cells #[.bool x.rd, .bool x.wt, .int .i64 x.mode, .int .i64 x.size, .slice oa x.out.length oc, .slice ia x.inn.length ic, .slice ba x.back.length bc, .int .i64 x.dir, .bool x.fin, .bool x.bad, .bool x.closed] 58)).alloc (Obj.cells #[.bool false, .bool false, .int .i64 0, .int .i64 0, .slice none 0 0, .slice none 0 0, .slice none 0 0, .int .i64 0, .bool false, .bool false, .bool false] 58) = w0 at *
  have hz0 : w.heap.size + 1 < w0.heap.size := (Array.getElem?_eq_some_iff.1 HZ0.out).1
  refine (listsOf_any _ _).mono ?_
  rintro _ w1 ⟨rfl, hB1⟩
  have HS1 := hide (HS0.out.below hB1)
  have HZ1 := hide ((hB1.block _ hz0).trans HZ0.out)
  have HB1 := hide (HB0.out.trans (hB1.mono HB0.out.size))
  have hz1 := hB1.size
  clear hB1 HS0 HB0 HZ0
  go_wp2_with fail
  have hx0 := index_ps0 w.heap.size
  have hx1 := index_ps1 w.heap.size
  have hx2 := index_ps2 w.heap.size
  generalize hA : ps3 w.heap.size = A at *
  clear hA
  go_loopw [6] (fun i wr => (i = .int .i64 0 ∧ Hid (StAt wr w.heap.size x (.slice oa x.out.length oc) (.slice ia x.inn.length ic) (.slice ba x.back.length bc)) ∧ Hid (wr.heap[w.heap.size + 1]? = some (Obj.cells #[.bool false, .bool false, .int .i64 0, .int .i64 0, .slice none 0 0, .slice none 0 0, .slice none 0 0, .int .i64 0, .bool false, .bool false, .bool false] 58)) ∧ Hid (Below w.heap.size w wr) ∧ w0.heap.size ≤ wr.heap.size) ∨ (i = .int .i64 1 ∧ Hid (StAt wr w.heap.size x (.slice none 0 0) (.slice ia x.inn.length ic) (.slice ba x.back.length bc)) ∧ Hid (wr.heap[w.heap.size + 1]? = some (Obj.cells #[.bool false, .bool false, .int .i64 0, .int .i64 0, .slice none 0 0, .slice none 0 0, .slice none 0 0, .int .i64 0, .bool false, .bool false, .bool false] 58)) ∧ Hid (Below w.heap.size w wr) ∧ w0.heap.size ≤ wr.heap.size) ∨ (i = .int .i64 2 ∧ Hid (StAt wr w.heap.size x (.slice none 0 0) (.slice none 0 0) (.slice ba x.back.length bc)) ∧ Hid (wr.heap[w.heap.size + 1]? = some (Obj.cells #[.bool false, .bool false, .int .i64 0, .int .i64 0, .slice none 0 0, .slice none 0 0, .slice none 0 0, .int .i64 0, .bool false, .bool false, .bool false] 58)) ∧ Hid (Below w.heap.size w wr) ∧ w0.heap.size ≤ wr.heap.size) ∨ (i = .int .i64 3 ∧ Hid (StAt wr w.heap.size x (.slice none 0 0) (.slice none 0 0) (.slice none 0 0)) ∧ Hid (wr.heap[w.heap.size + 1]? = some (Obj.cells #[.bool false, .bool false, .int .i64 0, .int .i64 0, .slice none 0 0, .slice none 0 0, .slice none 0 0, .int .i64 0, .bool false, .bool false, .bool false] 58)) ∧ Hid (Below w.heap.size w wr) ∧ w0.heap.size ≤ wr.heap.size)) (fun i _ => 3 - (intOf i).toNat)
  case atStart => exact .inl ⟨rfl, HS1, HZ1, HB1, hz1⟩
  case round =>
    clear HS1 HZ1 HB1 hz1
    rcases hrel with ⟨rfl, HS, HZ, HB, hz⟩ | ⟨rfl, HS, HZ, HB, hz⟩ | ⟨rfl, HS, HZ, HB, hz⟩ | ⟨rfl, HS, HZ, HB, hz⟩
    · have c := cell_of_row wr w.heap.size 4 _ _ _ HS.out
      have f := HS.out.soft 4
      simp at c
      obtain ⟨e1, e2⟩ := HS.out.set (x' := x) (o' := .slice none 0 0) (i' := .slice ia x.inn.length ic) (b' := .slice ba x.back.length bc) 4 (.slice none 0 0) rfl
      have HS2 := hide e1
      have HZ2 := hide ((e2.block (w.heap.size + 1) (by omega) (by show ¬ _ = _; omega)).trans HZ.out)
      have HB2 := hide (HB.out.trans (e2.below (B := w.heap.size) (fun k e => by have e' : k = w.heap.size := e; omega) HB.out.size))
      have hz2 := e2.size
      clear e1 e2
      go_wp2_with fail
      exact ⟨.inr (.inl ⟨rfl, HS2, HZ2, HB2, by omega⟩), by simp [intOf]⟩
    · have c := cell_of_row wr w.heap.size 5 _ _ _ HS.out
      have f := HS.out.soft 5
      simp at c
      obtain ⟨e1, e2⟩ := HS.out.set (x' := x) (o' := .slice none 0 0) (i' := .slice none 0 0) (b' := .slice ba x.back.length bc) 5 (.slice none 0 0) rfl
      have HS2 := hide e1
      have HZ2 := hide ((e2.block (w.heap.size + 1) (by omega) (by show ¬ _ = _; omega)).trans HZ.out)
      have HB2 := hide (HB.out.trans (e2.below (B := w.heap.size) (fun k e => by have e' : k = w.heap.size := e; omega) HB.out.size))
      have hz2 := e2.size
      clear e1 e2
      go_wp2_with fail
      exact ⟨.inr (.inr (.inl ⟨rfl, HS2, HZ2, HB2, by omega⟩)), by simp [intOf]⟩
    · have c := cell_of_row wr w.heap.size 6 _ _ _ HS.out
      have f := HS.out.soft 6
      simp at c
      obtain ⟨e1, e2⟩ := HS.out.set (x' := x) (o' := .slice none 0 0) (i' := .slice none 0 0) (b' := .slice none 0 0) 6 (.slice none 0 0) rfl
      have HS2 := hide e1
      have HZ2 := hide ((e2.block (w.heap.size + 1) (by omega) (by show ¬ _ = _; omega)).trans HZ.out)
      have HB2 := hide (HB.out.trans (e2.below (B := w.heap.size) (fun k e => by have e' : k = w.heap.size := e; omega) HB.out.size))
      have hz2 := e2.size
      clear e1 e2
      go_wp2_with fail
      exact ⟨.inr (.inr (.inr ⟨rfl, HS2, HZ2, HB2, by omega⟩)), by simp [intOf]⟩
    · obtain ⟨d1, d2⟩ := HS.out.set (x' := ⟨x.rd, x.wt, x.mode, x.size, x.out, x.inn, x.back, 0, x.fin, x.bad, x.closed⟩) (o' := .slice none 0 0) (i' := .slice none 0 0) (b' := .slice none 0 0) 7 (.int .i64 0) rfl
      obtain ⟨e1, e2⟩ := d1.set (x' := x.bare) (o' := .slice none 0 0) (i' := .slice none 0 0) (b' := .slice none 0 0) 8 (.bool false) rfl
      have HS2 := hide e1
      have HT2 := hide (d2.trans e2 (fun _ _ e => e))
      have HZ2 := hide ((HT2.out.block (w.heap.size + 1) (by omega) (by show ¬ _ = _; omega)).trans HZ.out)
      have HB2 := hide (HB.out.trans (HT2.out.below (B := w.heap.size) (fun k e => by have e' : k = w.heap.size := e; omega) HB.out.size))
      have f7 := HS.out.soft 7
      have f8 := HS.out.soft 8
      have f8b := d1.soft 8
      obtain ⟨c0, c1, c2, c3, c4, c5, c6, c7, c8, c9, c10⟩ := HS.out.cs
      clear d1 d2 e1 e2
      go_upto_region 7 with fail
      clear f7 f8 f8b c0 c1 c2 c3 c4 c5 c6 c7 c8 c9 c10
      generalize (wr.setCell ⟨w.heap.size, 7, none⟩ (.int .i64 0)).setCell ⟨w.heap.size, 8, none⟩ (.bool false) = w4 at *
      obtain ⟨c0, c1, c2, c3, c4, c5, c6, c7, c8, c9, c10⟩ := HS2.out.cs
      have f0 := frozen_of_row w4 (w.heap.size + 1) 0 _ _ HZ2.out
      have f1 := frozen_of_row w4 (w.heap.size + 1) 1 _ _ HZ2.out
      have f2 := frozen_of_row w4 (w.heap.size + 1) 2 _ _ HZ2.out
      have f3 := frozen_of_row w4 (w.heap.size + 1) 3 _ _ HZ2.out
      have f4 := frozen_of_row w4 (w.heap.size + 1) 4 _ _ HZ2.out
      have f5 := frozen_of_row w4 (w.heap.size + 1) 5 _ _ HZ2.out
      have f6 := frozen_of_row w4 (w.heap.size + 1) 6 _ _ HZ2.out
      have f7 := frozen_of_row w4 (w.heap.size + 1) 7 _ _ HZ2.out
      have f8 := frozen_of_row w4 (w.heap.size + 1) 8 _ _ HZ2.out
      have f9 := frozen_of_row w4 (w.heap.size + 1) 9 _ _ HZ2.out
      have f10 := frozen_of_row w4 (w.heap.size + 1) 10 _ _ HZ2.out
      have d0 := cell_of_row w4 (w.heap.size + 1) 0 _ _ _ HZ2.out
      have d1 := cell_of_row w4 (w.heap.size + 1) 1 _ _ _ HZ2.out
      have d2 := cell_of_row w4 (w.heap.size + 1) 2 _ _ _ HZ2.out
      have d3 := cell_of_row w4 (w.heap.size + 1) 3 _ _ _ HZ2.out
      have d4 := cell_of_row w4 (w.heap.size + 1) 4 _ _ _ HZ2.out
      have d5 := cell_of_row w4 (w.heap.size + 1) 5 _ _ _ HZ2.out
      have d6 := cell_of_row w4 (w.heap.size + 1) 6 _ _ _ HZ2.out
      have d7 := cell_of_row w4 (w.heap.size + 1) 7 _ _ _ HZ2.out
      have d8 := cell_of_row w4 (w.heap.size + 1) 8 _ _ _ HZ2.out
      have d9 := cell_of_row w4 (w.heap.size + 1) 9 _ _ _ HZ2.out
      have d10 := cell_of_row w4 (w.heap.size + 1) 10 _ _ _ HZ2.out
      simp at d0 d1 d2 d3 d4 d5 d6 d7 d8 d9 d10
      go_wp2
      obtain ⟨e1, e2⟩ := st_fill w4 (w.heap.size + 1) x.bare (.slice none 0 0) (.slice none 0 0) (.slice none 0 0) HZ2.out
      refine bodyPost_ret (results_cell_row rfl _ _ (w.heap.size + 1) _ _ _ _ rfl e1 Tryz.underlying58 rfl (by kernel_rfl)) rfl ?_
      exact ⟨rfl, HB2.out.trans (e2.below (B := w.heap.size) (fun k e => by have e' : k = w.heap.size + 1 := e; omega) HB2.out.size)⟩
set_option maxRecDepth 100000 in
set_option maxHeartbeats 4000000 in
theorem pcopied14 (x : SS) (o i b : Value) (P : Nat → Prop) (w : World) (h : SIn w P x o i b) (ho : x.out.length ≤ 140737488351232) (hi : x.inn.length ≤ 140737488351232) (hb : x.back.length ≤ 140737488351232) :
    Calls Tryz.prog 132 #[.agg #[.bool x.rd, .bool x.wt, .int .i64 x.mode, .int .i64 x.size, o, i, b, .int .i64 x.dir, .bool x.fin, .bool x.bad, .bool x.closed]] w fun e w' => ∃ o' i' b', e = .returned (.agg #[.bool x.rd, .bool x.wt, .int .i64 x.mode, .int .i64 x.size, o', i', b', .int .i64 x.dir, .bool x.fin, .bool x.bad, .bool x.closed]) ∧ w'.ownsRow w.heap.size 5 1 o' x.out.length (x.out.map bv) ∧ w'.ownsRow w.heap.size 5 1 i' x.inn.length (x.inn.map bv) ∧ w'.ownsRow w.heap.size 5 1 b' x.back.length (x.back.map bv) ∧ Below w.heap.size w w' := by
  have HC1 := hide (fun W (hB : Below w.heap.size w W) => bclone_any o x.out W ((h.so.turned (Turned.of_below (S := fun _ => False) hB) (fun _ _ _ => id)).choose_spec.choose_spec.2.1) ho)
  have HC2 := hide (fun W (hB : Below w.heap.size w W) => bclone_any i x.inn W ((h.si.turned (Turned.of_below (S := fun _ => False) hB) (fun _ _ _ => id)).choose_spec.choose_spec.2.1) hi)
  have HC3 := hide (fun W (hB : Below w.heap.size w W) => bclone_any b x.back W ((h.sb.turned (Turned.of_below (S := fun _ => False) hB) (fun _ _ _ => id)).choose_spec.choose_spec.2.1) hb)
  obtain ⟨oa, oc, rfl, -⟩ := h.so
  obtain ⟨ia, ic, rfl, -⟩ := h.si
  obtain ⟨ba, bc, rfl, -⟩ := h.sb
  clear h
  go_enter Tryz.func132, Tryz.ntmps132
  go_wp2_with fail
  have HB0 := hide ((recv_below w (Obj.cells #[.bool x.rd, .bool x.wt, .int .i64 x.mode, .int .i64 x.size, .slice oa x.out.length oc, .slice ia x.inn.length ic, .slice ba x.back.length bc, .int .i64 x.dir, .bool x.fin, .bool x.bad, .bool x.closed] 58)).trans ((recv_below (w.alloc (Obj.cells #[.bool x.rd, .bool x.wt, .int .i64 x.mode, .int .i64 x.size, .slice oa x.out.length oc, .slice ia x.inn.length ic, .slice ba x.back.length bc, .int .i64 x.dir, .bool x.fin, .bool x.bad, .bool x.closed] 58)) (Obj.cells #[.bool false, .bool false, .int .i64 0, .int .i64 0, .slice none 0 0, .slice none 0 0, .slice none 0 0, .int .i64 0, .bool false, .bool false, .bool false] 58)).mono (recv_below w (Obj.cells #[.bool x.rd, .bool x.wt, .int .i64 x.mode, .int .i64 x.size, .slice oa x.out.length oc, .slice ia x.inn.length ic, .slice ba x.back.length bc, .int .i64 x.dir, .bool x.fin, .bool x.bad, .bool x.closed] 58)).size))
  have HS0 := hide ((StAt.new w x (.slice oa x.out.length oc) (.slice ia x.inn.length ic) (.slice ba x.back.length bc)).below (recv_below _ (Obj.cells #[.bool false, .bool false, .int .i64 0, .int .i64 0, .slice none 0 0, .slice none 0 0, .slice none 0 0, .int .i64 0, .bool false, .bool false, .bool false] 58)))
  have HZ0 : Hid (((w.alloc (Obj.cells #[.bool x.rd, .bool x.wt, .int .i64 x.mode, .int .i64 x.size, .slice oa x.out.length oc, .slice ia x.inn.length ic, .slice ba x.back.length bc, .int .i64 x.dir, .bool x.fin, .bool x.bad, .bool x.closed] 58)).alloc (Obj.cells #[.bool false, .bool false, .int .i64 0, .int .i64 0, .slice none 0 0, .slice none 0 0, .slice none 0 0, .int .i64 0, .bool false, .bool false, .bool false] 58)).heap[w.heap.size + 1]? = some (Obj.cells #[.bool false, .bool false, .int .i64 0, .int .i64 0, .slice none 0 0, .slice none 0 0, .slice none 0 0, .int .i64 0, .bool false, .bool false, .bool false] 58)) := hide (by have := heap_alloc_new (w.alloc (Obj.cells #[.bool x.rd, .bool x.wt, .int .i64 x.mode, .int .i64 x.size, .slice oa x.out.length oc, .slice ia x.inn.length ic, .slice ba x.back.length bc, .int .i64 x.dir, .bool x.fin, .bool x.bad, .bool x.closed] 58)) (Obj.cells #[.bool false, .bool false, .int .i64 0, .int .i64 0, .slice none 0 0, .slice none 0 0, .slice none 0 0, .int .i64 0, .bool false, .bool false, .bool false] 58); rw [show (w.alloc (Obj.cells #[.bool x.rd, .bool x.wt, .int .i64 x.mode, .int .i64 x.size, .slice oa x.out.length oc, .slice ia x.inn.length ic, .slice ba x.back.length bc, .int .i64 x.dir, .bool x.fin, .bool x.bad, .bool x.closed] 58)).heap.size = w.heap.size + 1 from Array.size_push ..] at this; exact this)
  generalize (w.alloc (Obj.cells #[.bool x.rd, .bool x.wt, .int .i64 x.mode, .int .i64 x.size, .slice oa x.out.length oc, .slice ia x.inn.length ic, .slice ba x.back.length bc, .int .i64 x.dir, .bool x.fin, .bool x.bad, .bool x.closed] 58)).alloc (Obj.cells #[.bool false, .bool false, .int .i64 0, .int .i64 0, .slice none 0 0, .slice none 0 0, .slice none 0 0, .int .i64 0, .bool false, .bool false, .bool false] 58) = w0 at *
  have hz0 : w.heap.size + 1 < w0.heap.size := (Array.getElem?_eq_some_iff.1 HZ0.out).1
  refine (listsOf_any _ _).mono ?_
  rintro _ w1 ⟨rfl, hB1⟩
  have HS1 := hide (HS0.out.below hB1)
  have HZ1 := hide ((hB1.block _ hz0).trans HZ0.out)
  have HB1 := hide (HB0.out.trans (hB1.mono HB0.out.size))
  have hz1 := hB1.size
  clear hB1 HS0 HB0 HZ0
  go_wp2_with fail
  have hx0 := index_ps0 w.heap.size
  have hx1 := index_ps1 w.heap.size
  have hx2 := index_ps2 w.heap.size
  generalize hA : ps3 w.heap.size = A at *
  clear hA
  go_loopw [6] (fun i wr => (i = .int .i64 0 ∧ Hid (StAt wr w.heap.size x (.slice oa x.out.length oc) (.slice ia x.inn.length ic) (.slice ba x.back.length bc)) ∧ Hid (wr.heap[w.heap.size + 1]? = some (Obj.cells #[.bool false, .bool false, .int .i64 0, .int .i64 0, .slice none 0 0, .slice none 0 0, .slice none 0 0, .int .i64 0, .bool false, .bool false, .bool false] 58)) ∧ Hid (Below w.heap.size w wr) ∧ w0.heap.size ≤ wr.heap.size) ∨ (i = .int .i64 1 ∧ ∃ (a1 : Option Addr) (k1 : Nat), Hid (wr.ownsRow w0.heap.size 5 1 (.slice a1 x.out.length k1) x.out.length (x.out.map bv)) ∧ Hid (StAt wr w.heap.size x (.slice a1 x.out.length k1) (.slice ia x.inn.length ic) (.slice ba x.back.length bc)) ∧ Hid (wr.heap[w.heap.size + 1]? = some (Obj.cells #[.bool false, .bool false, .int .i64 0, .int .i64 0, .slice none 0 0, .slice none 0 0, .slice none 0 0, .int .i64 0, .bool false, .bool false, .bool false] 58)) ∧ Hid (Below w.heap.size w wr) ∧ w0.heap.size ≤ wr.heap.size) ∨ (i = .int .i64 2 ∧ ∃ (a1 : Option Addr) (k1 : Nat) (a2 : Option Addr) (k2 : Nat), Hid (wr.ownsRow w0.heap.size 5 1 (.slice a1 x.out.length k1) x.out.length (x.out.map bv)) ∧ Hid (wr.ownsRow w0.heap.size 5 1 (.slice a2 x.inn.length k2) x.inn.length (x.inn.map bv)) ∧ Hid (StAt wr w.heap.size x (.slice a1 x.out.length k1) (.slice a2 x.inn.length k2) (.slice ba x.back.length bc)) ∧ Hid (wr.heap[w.heap.size + 1]? = some (Obj.cells #[.bool false, .bool false, .int .i64 0, .int .i64 0, .slice none 0 0, .slice none 0 0, .slice none 0 0, .int .i64 0, .bool false, .bool false, .bool false] 58)) ∧ Hid (Below w.heap.size w wr) ∧ w0.heap.size ≤ wr.heap.size) ∨ (i = .int .i64 3 ∧ ∃ (a1 : Option Addr) (k1 : Nat) (a2 : Option Addr) (k2 : Nat) (a3 : Option Addr) (k3 : Nat), Hid (wr.ownsRow w0.heap.size 5 1 (.slice a1 x.out.length k1) x.out.length (x.out.map bv)) ∧ Hid (wr.ownsRow w0.heap.size 5 1 (.slice a2 x.inn.length k2) x.inn.length (x.inn.map bv)) ∧ Hid (wr.ownsRow w0.heap.size 5 1 (.slice a3 x.back.length k3) x.back.length (x.back.map bv)) ∧ Hid (StAt wr w.heap.size x (.slice a1 x.out.length k1) (.slice a2 x.inn.length k2) (.slice a3 x.back.length k3)) ∧ Hid (wr.heap[w.heap.size + 1]? = some (Obj.cells #[.bool false, .bool false, .int .i64 0, .int .i64 0, .slice none 0 0, .slice none 0 0, .slice none 0 0, .int .i64 0, .bool false, .bool false, .bool false] 58)) ∧ Hid (Below w.heap.size w wr) ∧ w0.heap.size ≤ wr.heap.size)) (fun i _ => 3 - (intOf i).toNat)
  case atStart => exact .inl ⟨rfl, HS1, HZ1, HB1, hz1⟩
  case round =>
    clear HS1 HZ1 HB1 hz1
    rcases hrel with ⟨rfl, HS, HZ, HB, hz⟩ | ⟨rfl, a1, k1, HO1, HS, HZ, HB, hz⟩ | ⟨rfl, a1, k1, a2, k2, HO1, HO2, HS, HZ, HB, hz⟩ | ⟨rfl, a1, k1, a2, k2, a3, k3, HO1, HO2, HO3, HS, HZ, HB, hz⟩
    · have c := cell_of_row wr w.heap.size 4 _ _ _ HS.out
      simp at c
      go_upto_region 4 with fail
      go_wp2_with fail
      refine (HC1.out _ HB.out).mono ?_
      rintro _ w5 ⟨u5, rfl, hO5, hB5⟩
      obtain ⟨a1, k1, rfl⟩ := owns_slice hO5
      have HS5 := hide (HS.out.below hB5)
      have HZ5 := hide ((hB5.block (w.heap.size + 1) (by omega)).trans HZ.out)
      have HB5 := hide (HB.out.trans (hB5.mono HB.out.size))
      have hz5 := hB5.size

      have HO1n := hide (owns_mono hO5 hz)
      have f5 := HS5.out.soft 4
      have c5 := cell_of_row w5 w.heap.size 4 _ _ _ HS5.out
      simp at c5
      clear hO5 hB5
      all_goals
        obtain ⟨e1, e2⟩ := HS5.out.set (x' := x) (o' := .slice a1 x.out.length k1) (i' := .slice ia x.inn.length ic) (b' := .slice ba x.back.length bc) 4 (.slice a1 x.out.length k1) rfl
        have HS2 := hide e1
        have HZ2 := hide ((e2.block (w.heap.size + 1) (by omega) (by show ¬ _ = _; omega)).trans HZ5.out)
        have HB2 := hide (HB5.out.trans (e2.below (B := w.heap.size) (fun k e => by have e' : k = w.heap.size := e; omega) HB5.out.size))
        have hz2 := e2.size
        have HO12 := hide (owns_turned HO1n.out e2 (fun j e => by have := (HO1n.out.lt j e).1; show ¬ j = w.heap.size; omega))
        clear e1 e2
        go_wp2_with fail
        exact ⟨.inr (.inl ⟨rfl, a1, k1, HO12, HS2, HZ2, HB2, by omega⟩), by simp [intOf]⟩
    · have c := cell_of_row wr w.heap.size 5 _ _ _ HS.out
      simp at c
      go_upto_region 4 with fail
      go_wp2_with fail
      refine (HC2.out _ HB.out).mono ?_
      rintro _ w5 ⟨u5, rfl, hO5, hB5⟩
      obtain ⟨a2, k2, rfl⟩ := owns_slice hO5
      have HS5 := hide (HS.out.below hB5)
      have HZ5 := hide ((hB5.block (w.heap.size + 1) (by omega)).trans HZ.out)
      have HB5 := hide (HB.out.trans (hB5.mono HB.out.size))
      have hz5 := hB5.size
      have HO1n := hide (owns_below HO1.out hB5)
      have HO2n := hide (owns_mono hO5 hz)
      have f5 := HS5.out.soft 5
      have c5 := cell_of_row w5 w.heap.size 5 _ _ _ HS5.out
      simp at c5
      clear hO5 hB5
      all_goals
        obtain ⟨e1, e2⟩ := HS5.out.set (x' := x) (o' := .slice a1 x.out.length k1) (i' := .slice a2 x.inn.length k2) (b' := .slice ba x.back.length bc) 5 (.slice a2 x.inn.length k2) rfl
        have HS2 := hide e1
        have HZ2 := hide ((e2.block (w.heap.size + 1) (by omega) (by show ¬ _ = _; omega)).trans HZ5.out)
        have HB2 := hide (HB5.out.trans (e2.below (B := w.heap.size) (fun k e => by have e' : k = w.heap.size := e; omega) HB5.out.size))
        have hz2 := e2.size
        have HO12 := hide (owns_turned HO1n.out e2 (fun j e => by have := (HO1n.out.lt j e).1; show ¬ j = w.heap.size; omega))
        have HO22 := hide (owns_turned HO2n.out e2 (fun j e => by have := (HO2n.out.lt j e).1; show ¬ j = w.heap.size; omega))
        clear e1 e2
        go_wp2_with fail
        exact ⟨.inr (.inr (.inl ⟨rfl, a1, k1, a2, k2, HO12, HO22, HS2, HZ2, HB2, by omega⟩)), by simp [intOf]⟩
    · have c := cell_of_row wr w.heap.size 6 _ _ _ HS.out
      simp at c
      go_upto_region 4 with fail
      go_wp2_with fail
      refine (HC3.out _ HB.out).mono ?_
      rintro _ w5 ⟨u5, rfl, hO5, hB5⟩
      obtain ⟨a3, k3, rfl⟩ := owns_slice hO5
      have HS5 := hide (HS.out.below hB5)
      have HZ5 := hide ((hB5.block (w.heap.size + 1) (by omega)).trans HZ.out)
      have HB5 := hide (HB.out.trans (hB5.mono HB.out.size))
      have hz5 := hB5.size
      have HO1n := hide (owns_below HO1.out hB5)
      have HO2n := hide (owns_below HO2.out hB5)
      have HO3n := hide (owns_mono hO5 hz)
      have f5 := HS5.out.soft 6
      have c5 := cell_of_row w5 w.heap.size 6 _ _ _ HS5.out
      simp at c5
      clear hO5 hB5
      all_goals
        obtain ⟨e1, e2⟩ := HS5.out.set (x' := x) (o' := .slice a1 x.out.length k1) (i' := .slice a2 x.inn.length k2) (b' := .slice a3 x.back.length k3) 6 (.slice a3 x.back.length k3) rfl
        have HS2 := hide e1
        have HZ2 := hide ((e2.block (w.heap.size + 1) (by omega) (by show ¬ _ = _; omega)).trans HZ5.out)
        have HB2 := hide (HB5.out.trans (e2.below (B := w.heap.size) (fun k e => by have e' : k = w.heap.size := e; omega) HB5.out.size))
        have hz2 := e2.size
        have HO12 := hide (owns_turned HO1n.out e2 (fun j e => by have := (HO1n.out.lt j e).1; show ¬ j = w.heap.size; omega))
        have HO22 := hide (owns_turned HO2n.out e2 (fun j e => by have := (HO2n.out.lt j e).1; show ¬ j = w.heap.size; omega))
        have HO32 := hide (owns_turned HO3n.out e2 (fun j e => by have := (HO3n.out.lt j e).1; show ¬ j = w.heap.size; omega))
        clear e1 e2
        go_wp2_with fail
        exact ⟨.inr (.inr (.inr ⟨rfl, a1, k1, a2, k2, a3, k3, HO12, HO22, HO32, HS2, HZ2, HB2, by omega⟩)), by simp [intOf]⟩
    · obtain ⟨c0, c1, c2, c3, c4, c5, c6, c7, c8, c9, c10⟩ := HS.out.cs
      have f0 := frozen_of_row wr (w.heap.size + 1) 0 _ _ HZ.out
      have f1 := frozen_of_row wr (w.heap.size + 1) 1 _ _ HZ.out
      have f2 := frozen_of_row wr (w.heap.size + 1) 2 _ _ HZ.out
      have f3 := frozen_of_row wr (w.heap.size + 1) 3 _ _ HZ.out
      have f4 := frozen_of_row wr (w.heap.size + 1) 4 _ _ HZ.out
      have f5 := frozen_of_row wr (w.heap.size + 1) 5 _ _ HZ.out
      have f6 := frozen_of_row wr (w.heap.size + 1) 6 _ _ HZ.out
      have f7 := frozen_of_row wr (w.heap.size + 1) 7 _ _ HZ.out
      have f8 := frozen_of_row wr (w.heap.size + 1) 8 _ _ HZ.out
      have f9 := frozen_of_row wr (w.heap.size + 1) 9 _ _ HZ.out
      have f10 := frozen_of_row wr (w.heap.size + 1) 10 _ _ HZ.out
      have d0 := cell_of_row wr (w.heap.size + 1) 0 _ _ _ HZ.out
      have d1 := cell_of_row wr (w.heap.size + 1) 1 _ _ _ HZ.out
      have d2 := cell_of_row wr (w.heap.size + 1) 2 _ _ _ HZ.out
      have d3 := cell_of_row wr (w.heap.size + 1) 3 _ _ _ HZ.out
      have d4 := cell_of_row wr (w.heap.size + 1) 4 _ _ _ HZ.out
      have d5 := cell_of_row wr (w.heap.size + 1) 5 _ _ _ HZ.out
      have d6 := cell_of_row wr (w.heap.size + 1) 6 _ _ _ HZ.out
      have d7 := cell_of_row wr (w.heap.size + 1) 7 _ _ _ HZ.out
      have d8 := cell_of_row wr (w.heap.size + 1) 8 _ _ _ HZ.out
      have d9 := cell_of_row wr (w.heap.size + 1) 9 _ _ _ HZ.out
      have d10 := cell_of_row wr (w.heap.size + 1) 10 _ _ _ HZ.out
      simp at d0 d1 d2 d3 d4 d5 d6 d7 d8 d9 d10
      go_wp2
      obtain ⟨e1, e2⟩ := st_fill wr (w.heap.size + 1) x (.slice a1 x.out.length k1) (.slice a2 x.inn.length k2) (.slice a3 x.back.length k3) HZ.out
      refine bodyPost_ret (results_cell_row rfl _ _ (w.heap.size + 1) _ _ _ _ rfl e1 Tryz.underlying58 rfl (by kernel_rfl)) rfl ?_
      exact ⟨_, _, _, rfl, owns_mono (owns_turned HO1.out e2 (fun j e => by have := (HO1.out.lt j e).1; show ¬ j = w.heap.size + 1; omega)) (by omega), owns_mono (owns_turned HO2.out e2 (fun j e => by have := (HO2.out.lt j e).1; show ¬ j = w.heap.size + 1; omega)) (by omega), owns_mono (owns_turned HO3.out e2 (fun j e => by have := (HO3.out.lt j e).1; show ¬ j = w.heap.size + 1; omega)) (by omega), HB.out.trans (e2.below (B := w.heap.size) (fun k e => by have e' : k = w.heap.size + 1 := e; omega) HB.out.size)⟩
end Go.Proofs.YtdmkjbdlidadiaaGreat

/- Streams: what a call leaves, carried on. -/
namespace Go.Proofs.YtdmkjbdlidadiaaGreat
open Go.RowKit

theorem SOut.of_own {S : Type} {At : World → (Nat → Prop) → S → Prop} (hT : ∀ s, OAt (fun w O => At w O s)) {w w3 : World} {O : Nat → Prop} {x : SS} {s : S} {o i b : Value} (hA : At w O s) (hO : ∀ j, O j → j < w.heap.size) (h1 : w3.ownsRow w.heap.size 5 1 o x.out.length (x.out.map bv)) (h2 : w3.ownsRow w.heap.size 5 1 i x.inn.length (x.inn.map bv)) (h3 : w3.ownsRow w.heap.size 5 1 b x.back.length (x.back.map bv)) (hB : Below w.heap.size w w3) : SOut At w O x s o i b w3 := by
  have hz := hB.size
  have far : ∀ k, w.heap.size ≤ k → ¬ O k := fun k h e => by have := hO k e; omega
  exact ⟨O, ⟨Sl.own h1, Sl.own h2, Sl.own h3, fun k e => ⟨(h1.lt k e).1, far k (h1.lt k e).1, (h1.lt k e).2⟩, fun k e => ⟨(h2.lt k e).1, far k (h2.lt k e).1, (h2.lt k e).2⟩, fun k e => ⟨(h3.lt k e).1, far k (h3.lt k e).1, (h3.lt k e).2⟩⟩, (hT s).keep hA (fun j _ hj => hB.block j hj) hz, fun j e => Nat.lt_of_lt_of_le (hO j e) hz, fun k e => .inl e, Turned.of_below (S := O) hB⟩
end Go.Proofs.YtdmkjbdlidadiaaGreat

/- Position: Tell, over any Raw. -/
namespace Go.Proofs.YtdmkjbdlidadiaaGreat
open Go.RowKit

set_option maxRecDepth 100000 in
set_option maxHeartbeats 4000000 in
theorem ptell_any {S : Type} {D : RawD S} {T : TypeId} {v : Value} {fr fw : FuncId} {rok wok : S → Prop} {At : World → (Nat → Prop) → S → Prop} (R : RawM D T v fr fw rok wok At) (hT : ∀ s, OAt (fun w O => At w O s)) {G : Nat → S → Prop} (hG : Bears D rok wok G) {K : SkV S} {fs : FuncId} {sok : S → Prop} (Q : RawS K T v fs sok At) (hK : BearsS K sok G) {w : World} {O P : Nat → Prop} {s : S} {x : SS} {o i b : Value} (h : SIn w P x o i b) (hA : At w O s) (hO : ∀ j, O j → j < w.heap.size) (hg : G 4 s) (ho : x.out.length ≤ 140737488351232) (hi : x.inn.length ≤ 140737488351232) (hb : x.back.length ≤ 140737488351232) :
    Calls Tryz.prog 38 #[.agg #[.bool x.rd, .bool x.wt, .int .i64 x.mode, .int .i64 x.size, o, i, b, .int .i64 x.dir, .bool x.fin, .bool x.bad, .bool x.closed], .iface T v] w fun e w' => ∃ o' i' b', e = .returned (.tuple #[.agg #[.bool (x.tell D K s).1.rd, .bool (x.tell D K s).1.wt, .int .i64 (x.tell D K s).1.mode, .int .i64 (x.tell D K s).1.size, o', i', b', .int .i64 (x.tell D K s).1.dir, .bool (x.tell D K s).1.fin, .bool (x.tell D K s).1.bad, .bool (x.tell D K s).1.closed], .int .i64 (x.tell D K s).2.1, .int .i64 (x.tell D K s).2.2.1]) ∧ SOut At w O (x.tell D K s).1 (x.tell D K s).2.2.2 o' i' b' w' := by
  have HDv := hide (fun (W : World) (hW : Below w.heap.size w W) (hr : x.refuse true = 0) => delivered_any R hT hG (h.below hW) ((hT s).keep hA (fun j _ hj => hW.block j hj) hW.size) (fun j e => Nat.lt_of_lt_of_le (hO j e) hW.size) (hG.less _ _ (hG.less _ _ hg)) ho hi hb hr)
  have HCp := hide (fun (W : World) (hW : Below w.heap.size w W) => pcopied14 x o i b P W (h.below hW) ho hi hb)
  obtain ⟨oa, oc, rfl, -⟩ := h.so
  obtain ⟨ia, ic, rfl, -⟩ := h.si
  obtain ⟨ba, bc, rfl, -⟩ := h.sb
  clear h
  have HRf := hide (fun W => prefusal14 x oa ia ba oc ic bc T v W hi hb)
  generalize hq : x.tell D K s = q
  obtain ⟨qx, qn, qe, qs⟩ := q
  unfold SS.tell at hq
  go_enter Tryz.func38, Tryz.ntmps38
  go_wp2_with fail
  have HB0 := hide ((recv_below w (Obj.cells #[.bool x.rd, .bool x.wt, .int .i64 x.mode, .int .i64 x.size, .slice oa x.out.length oc, .slice ia x.inn.length ic, .slice ba x.back.length bc, .int .i64 x.dir, .bool x.fin, .bool x.bad, .bool x.closed] 58)).trans ((recv_below (w.alloc (Obj.cells #[.bool x.rd, .bool x.wt, .int .i64 x.mode, .int .i64 x.size, .slice oa x.out.length oc, .slice ia x.inn.length ic, .slice ba x.back.length bc, .int .i64 x.dir, .bool x.fin, .bool x.bad, .bool x.closed] 58)) (Obj.cells #[.bool false, .bool false, .int .i64 0, .int .i64 0, .slice none 0 0, .slice none 0 0, .slice none 0 0, .int .i64 0, .bool false, .bool false, .bool false] 58)).mono (recv_below w (Obj.cells #[.bool x.rd, .bool x.wt, .int .i64 x.mode, .int .i64 x.size, .slice oa x.out.length oc, .slice ia x.inn.length ic, .slice ba x.back.length bc, .int .i64 x.dir, .bool x.fin, .bool x.bad, .bool x.closed] 58)).size))
  have HS0 := hide ((StAt.new w x (.slice oa x.out.length oc) (.slice ia x.inn.length ic) (.slice ba x.back.length bc)).below (recv_below _ (Obj.cells #[.bool false, .bool false, .int .i64 0, .int .i64 0, .slice none 0 0, .slice none 0 0, .slice none 0 0, .int .i64 0, .bool false, .bool false, .bool false] 58)))
  have HZ0 : Hid (((w.alloc (Obj.cells #[.bool x.rd, .bool x.wt, .int .i64 x.mode, .int .i64 x.size, .slice oa x.out.length oc, .slice ia x.inn.length ic, .slice ba x.back.length bc, .int .i64 x.dir, .bool x.fin, .bool x.bad, .bool x.closed] 58)).alloc (Obj.cells #[.bool false, .bool false, .int .i64 0, .int .i64 0, .slice none 0 0, .slice none 0 0, .slice none 0 0, .int .i64 0, .bool false, .bool false, .bool false] 58)).heap[w.heap.size + 1]? = some (Obj.cells #[.bool false, .bool false, .int .i64 0, .int .i64 0, .slice none 0 0, .slice none 0 0, .slice none 0 0, .int .i64 0, .bool false, .bool false, .bool false] 58)) := hide (by have := heap_alloc_new (w.alloc (Obj.cells #[.bool x.rd, .bool x.wt, .int .i64 x.mode, .int .i64 x.size, .slice oa x.out.length oc, .slice ia x.inn.length ic, .slice ba x.back.length bc, .int .i64 x.dir, .bool x.fin, .bool x.bad, .bool x.closed] 58)) (Obj.cells #[.bool false, .bool false, .int .i64 0, .int .i64 0, .slice none 0 0, .slice none 0 0, .slice none 0 0, .int .i64 0, .bool false, .bool false, .bool false] 58); rw [show (w.alloc (Obj.cells #[.bool x.rd, .bool x.wt, .int .i64 x.mode, .int .i64 x.size, .slice oa x.out.length oc, .slice ia x.inn.length ic, .slice ba x.back.length bc, .int .i64 x.dir, .bool x.fin, .bool x.bad, .bool x.closed] 58)).heap.size = w.heap.size + 1 from Array.size_push ..] at this; exact this)
  generalize (w.alloc (Obj.cells #[.bool x.rd, .bool x.wt, .int .i64 x.mode, .int .i64 x.size, .slice oa x.out.length oc, .slice ia x.inn.length ic, .slice ba x.back.length bc, .int .i64 x.dir, .bool x.fin, .bool x.bad, .bool x.closed] 58)).alloc (Obj.cells #[.bool false, .bool false, .int .i64 0, .int .i64 0, .slice none 0 0, .slice none 0 0, .slice none 0 0, .int .i64 0, .bool false, .bool false, .bool false] 58) = w0 at *
  have hz0 : w.heap.size + 1 < w0.heap.size := (Array.getElem?_eq_some_iff.1 HZ0.out).1
  refine (HRf.out _).mono ?_
  rintro _ w1 ⟨rfl, hB1⟩
  have HB1 := hide (HB0.out.trans (hB1.mono HB0.out.size))
  have HS1 := hide (HS0.out.below hB1)
  have HZ1 := hide ((hB1.block (w.heap.size + 1) hz0).trans HZ0.out)
  have hz1 := hB1.size
  clear hB1 HS0 HZ0 HB0 HRf
  obtain ⟨c0, c1, c2, c3, c4, c5, c6, c7, c8, c9, c10⟩ := HS1.out.cs
  by_cases hn : x.refuse true = 0
  case neg =>
    rw [if_pos hn] at hq
    obtain ⟨rfl, rfl, rfl, rfl⟩ : x = qx ∧ 0 = qn ∧ x.refuse true = qe ∧ s = qs := by simpa using hq
    obtain ⟨nw, hnw⟩ : ∃ nw, nw = x.refuse true := ⟨_, rfl⟩
    rw [← hnw] at hn ⊢
    have HNw := hide hnw
    have hn2 : (nw == 0) = false := by simp [hn]
    have hn3 : (nw != 0) = true := by simp [hn]
    clear hq hnw HDv
    go_wp2_with fail
    refine (HCp.out _ HB1.out).mono ?_
    rintro _ w2 ⟨o1, i1, b1, rfl, y3, y4, y5, hB2⟩
    have hOu := SOut.of_own hT ((hT s).keep hA (fun j _ hj => HB1.out.block j hj) HB1.out.size) (fun j e => Nat.lt_of_lt_of_le (hO j e) HB1.out.size) y3 y4 y5 hB2
    obtain ⟨a1, k1, rfl⟩ := owns_slice y3
    obtain ⟨a2, k2, rfl⟩ := owns_slice y4
    obtain ⟨a3, k3, rfl⟩ := owns_slice y5
    have HOu := hide hOu
    have HZ3 := hide ((hB2.block (w.heap.size + 1) (by omega)).trans HZ1.out)
    clear hOu y3 y4 y5 hB2 c0 c1 c2 c3 c4 c5 c6 c7 c8 c9 c10
    have f0 := frozen_of_row w2 (w.heap.size + 1) 0 _ _ HZ3.out
    have f1 := frozen_of_row w2 (w.heap.size + 1) 1 _ _ HZ3.out
    have f2 := frozen_of_row w2 (w.heap.size + 1) 2 _ _ HZ3.out
    have f3 := frozen_of_row w2 (w.heap.size + 1) 3 _ _ HZ3.out
    have f4 := frozen_of_row w2 (w.heap.size + 1) 4 _ _ HZ3.out
    have f5 := frozen_of_row w2 (w.heap.size + 1) 5 _ _ HZ3.out
    have f6 := frozen_of_row w2 (w.heap.size + 1) 6 _ _ HZ3.out
    have f7 := frozen_of_row w2 (w.heap.size + 1) 7 _ _ HZ3.out
    have f8 := frozen_of_row w2 (w.heap.size + 1) 8 _ _ HZ3.out
    have f9 := frozen_of_row w2 (w.heap.size + 1) 9 _ _ HZ3.out
    have f10 := frozen_of_row w2 (w.heap.size + 1) 10 _ _ HZ3.out
    have d0 := cell_of_row w2 (w.heap.size + 1) 0 _ _ _ HZ3.out
    have d1 := cell_of_row w2 (w.heap.size + 1) 1 _ _ _ HZ3.out
    have d2 := cell_of_row w2 (w.heap.size + 1) 2 _ _ _ HZ3.out
    have d3 := cell_of_row w2 (w.heap.size + 1) 3 _ _ _ HZ3.out
    have d4 := cell_of_row w2 (w.heap.size + 1) 4 _ _ _ HZ3.out
    have d5 := cell_of_row w2 (w.heap.size + 1) 5 _ _ _ HZ3.out
    have d6 := cell_of_row w2 (w.heap.size + 1) 6 _ _ _ HZ3.out
    have d7 := cell_of_row w2 (w.heap.size + 1) 7 _ _ _ HZ3.out
    have d8 := cell_of_row w2 (w.heap.size + 1) 8 _ _ _ HZ3.out
    have d9 := cell_of_row w2 (w.heap.size + 1) 9 _ _ _ HZ3.out
    have d10 := cell_of_row w2 (w.heap.size + 1) 10 _ _ _ HZ3.out
    simp at d0 d1 d2 d3 d4 d5 d6 d7 d8 d9 d10
    go_wp2
    obtain ⟨e1, e2⟩ := st_fill w2 (w.heap.size + 1) x (.slice a1 x.out.length k1) (.slice a2 x.inn.length k2) (.slice a3 x.back.length k3) HZ3.out
    refine bodyPost_ret (res_three rfl _ (w.heap.size + 1) rfl x _ _ _ e1) rfl ?_
    exact ⟨_, _, _, by rw [← HNw.out]; rfl, SOut.fin hT HOu.out HB1.out (by omega) (Nat.le_succ _) hO e2⟩
  rw [if_neg (by simp [hn])] at hq
  have hrf := hn
  rw [hn]
  clear hn
  have hlen : x.out.length ≤ 65536 := by have := may_buf (refuse_may hrf).1; omega
  have hp := HDv.out _ HB1.out hrf
  have hG2 := (hG.put 3 s x.out hg hlen).2
  have hdo := deliver_ok D x s
  have hdh : (x.deliver D s).1.inn = x.inn ∧ (x.deliver D s).1.back = x.back := by unfold SS.deliver SS.mark; split <;> exact ⟨rfl, rfl⟩
  have hG3 : G 3 (x.deliver D s).2.2 := hG2
  clear hG2 hlen HDv HCp
  generalize x.deliver D s = X at *
  obtain ⟨dx, de, ds⟩ := X
  simp only at hp hq hdo hG3 hdh
  have HP := hide hp
  have HDo := hide hdo
  have HG3 := hide hG3
  have HDh := hide hdh
  clear hp hdo hG3 hdh
  go_wp2_with fail
  refine HP.out.mono ?_
  rintro _ w2 ⟨o1, i1, b1, rfl, hS⟩
  obtain ⟨a1, k1, rfl, -⟩ := hS.choose_spec.1.so
  obtain ⟨a2, k2, rfl, -⟩ := hS.choose_spec.1.si
  obtain ⟨a3, k3, rfl, -⟩ := hS.choose_spec.1.sb
  obtain ⟨hst, O2, hV⟩ := QV.of_out hT HB1.out HS1.out HZ1.out (by omega) (Nat.le_refl _) (Nat.le_succ _) hO hS
  unfold filled at hV
  have HV2 := hide hV
  have HS2 := hide hst
  clear hS hst hV HP HS1 HZ1 c0 c1 c2 c3 c4 c5 c6 c7 c8 c9 c10
  obtain ⟨c0, c1, c2, c3, c4, c5, c6, c7, c8, c9, c10⟩ := HS2.out.cs
  have s0 := HS2.out.soft 0
  have s1 := HS2.out.soft 1
  have s2 := HS2.out.soft 2
  have s3 := HS2.out.soft 3
  have s4 := HS2.out.soft 4
  have s5 := HS2.out.soft 5
  have s6 := HS2.out.soft 6
  have s7 := HS2.out.soft 7
  have s8 := HS2.out.soft 8
  have s9 := HS2.out.soft 9
  have s10 := HS2.out.soft 10
  go_upto_region 5 with fail
  clear c0 c1 c2 c3 c4 c5 c6 c7 c8 c9 c10
  clear s0 s1 s2 s3 s4 s5 s6 s7 s8 s9 s10
  clear HS2
  generalize (((((((((((w2.setCell ⟨w.heap.size, 0, none⟩ (.bool dx.rd)).setCell ⟨w.heap.size, 1, none⟩ (.bool dx.wt)).setCell ⟨w.heap.size, 2, none⟩ (.int .i64 dx.mode)).setCell ⟨w.heap.size, 3, none⟩ (.int .i64 dx.size)).setCell ⟨w.heap.size, 4, none⟩ (.slice a1 dx.out.length k1)).setCell ⟨w.heap.size, 5, none⟩ (.slice a2 dx.inn.length k2)).setCell ⟨w.heap.size, 6, none⟩ (.slice a3 dx.back.length k3)).setCell ⟨w.heap.size, 7, none⟩ (.int .i64 dx.dir)).setCell ⟨w.heap.size, 8, none⟩ (.bool dx.fin)).setCell ⟨w.heap.size, 9, none⟩ (.bool dx.bad)).setCell ⟨w.heap.size, 10, none⟩ (.bool dx.closed)) = w3 at *
  by_cases he : de = 0
  case neg =>
    rw [if_pos he] at hq
    obtain ⟨rfl, rfl, rfl, rfl⟩ : dx = qx ∧ 0 = qn ∧ de = qe ∧ ds = qs := by simpa using hq
    have hb2 : (de == 0) = false := by simp [he]
    have hb3 : (de != 0) = true := by simp [he]
    clear hq he
    obtain ⟨e1, e2⟩ := HV2.out.out hT
    unfold filled at e1 e2
    have HE := hide e1
    have HF := hide e2
    have HZr := hide HV2.out.zr
    obtain ⟨c0, c1, c2, c3, c4, c5, c6, c7, c8, c9, c10⟩ := HV2.out.st.cs
    have f0 := frozen_of_row w3 (w.heap.size + 1) 0 _ _ HZr.out
    have f1 := frozen_of_row w3 (w.heap.size + 1) 1 _ _ HZr.out
    have f2 := frozen_of_row w3 (w.heap.size + 1) 2 _ _ HZr.out
    have f3 := frozen_of_row w3 (w.heap.size + 1) 3 _ _ HZr.out
    have f4 := frozen_of_row w3 (w.heap.size + 1) 4 _ _ HZr.out
    have f5 := frozen_of_row w3 (w.heap.size + 1) 5 _ _ HZr.out
    have f6 := frozen_of_row w3 (w.heap.size + 1) 6 _ _ HZr.out
    have f7 := frozen_of_row w3 (w.heap.size + 1) 7 _ _ HZr.out
    have f8 := frozen_of_row w3 (w.heap.size + 1) 8 _ _ HZr.out
    have f9 := frozen_of_row w3 (w.heap.size + 1) 9 _ _ HZr.out
    have f10 := frozen_of_row w3 (w.heap.size + 1) 10 _ _ HZr.out
    have d0 := cell_of_row w3 (w.heap.size + 1) 0 _ _ _ HZr.out
    have d1 := cell_of_row w3 (w.heap.size + 1) 1 _ _ _ HZr.out
    have d2 := cell_of_row w3 (w.heap.size + 1) 2 _ _ _ HZr.out
    have d3 := cell_of_row w3 (w.heap.size + 1) 3 _ _ _ HZr.out
    have d4 := cell_of_row w3 (w.heap.size + 1) 4 _ _ _ HZr.out
    have d5 := cell_of_row w3 (w.heap.size + 1) 5 _ _ _ HZr.out
    have d6 := cell_of_row w3 (w.heap.size + 1) 6 _ _ _ HZr.out
    have d7 := cell_of_row w3 (w.heap.size + 1) 7 _ _ _ HZr.out
    have d8 := cell_of_row w3 (w.heap.size + 1) 8 _ _ _ HZr.out
    have d9 := cell_of_row w3 (w.heap.size + 1) 9 _ _ _ HZr.out
    have d10 := cell_of_row w3 (w.heap.size + 1) 10 _ _ _ HZr.out
    simp at d0 d1 d2 d3 d4 d5 d6 d7 d8 d9 d10
    clear e1 e2
    go_wp2
    refine bodyPost_ret (res_three rfl _ (w.heap.size + 1) rfl dx _ _ _ HE.out) rfl ?_
    exact ⟨_, _, _, rfl, HF.out⟩
  subst he
  rw [if_neg (by simp)] at hq
  unfold SS.told at hq
  have HSk := hide (Q.seek 0 1 HV2.out.raw (hK 2 ds 0 1 HG3.out).1 (by omega))
  have hpt := Q.told 0 1 HV2.out.raw
  obtain ⟨p, f, t, hk⟩ : ∃ p f t, K ds 0 1 = (p, f, t) := ⟨_, _, _, rfl⟩
  rw [hk] at HSk hq hpt
  simp only at HSk hq hpt
  clear hk
  have hm := Q.mseek
  have hc := Q.cseek
  go_wp2_with fail
  refine HSk.out.mono ?_
  rintro _ w4 ⟨rfl, hS4⟩
  obtain ⟨O4, hV4, -⟩ := HV2.out.step hT hS4
  have HV4 := hide hV4
  clear hV4 hS4 HV2 HSk hm hc
  by_cases hf : f = 0
  case neg =>
    rw [if_pos hf] at hq
    obtain ⟨rfl, rfl, rfl, rfl⟩ : dx = qx ∧ 0 = qn ∧ f = qe ∧ t = qs := by simpa using hq
    have hb2 : (f == 0) = false := by simp [hf]
    have hb3 : (f != 0) = true := by simp [hf]
    clear hq hf hpt
    obtain ⟨e1, e2⟩ := HV4.out.out hT
    unfold filled at e1 e2
    have HE := hide e1
    have HF := hide e2
    have HZr := hide HV4.out.zr
    obtain ⟨c0, c1, c2, c3, c4, c5, c6, c7, c8, c9, c10⟩ := HV4.out.st.cs
    have f0 := frozen_of_row w4 (w.heap.size + 1) 0 _ _ HZr.out
    have f1 := frozen_of_row w4 (w.heap.size + 1) 1 _ _ HZr.out
    have f2 := frozen_of_row w4 (w.heap.size + 1) 2 _ _ HZr.out
    have f3 := frozen_of_row w4 (w.heap.size + 1) 3 _ _ HZr.out
    have f4 := frozen_of_row w4 (w.heap.size + 1) 4 _ _ HZr.out
    have f5 := frozen_of_row w4 (w.heap.size + 1) 5 _ _ HZr.out
    have f6 := frozen_of_row w4 (w.heap.size + 1) 6 _ _ HZr.out
    have f7 := frozen_of_row w4 (w.heap.size + 1) 7 _ _ HZr.out
    have f8 := frozen_of_row w4 (w.heap.size + 1) 8 _ _ HZr.out
    have f9 := frozen_of_row w4 (w.heap.size + 1) 9 _ _ HZr.out
    have f10 := frozen_of_row w4 (w.heap.size + 1) 10 _ _ HZr.out
    have d0 := cell_of_row w4 (w.heap.size + 1) 0 _ _ _ HZr.out
    have d1 := cell_of_row w4 (w.heap.size + 1) 1 _ _ _ HZr.out
    have d2 := cell_of_row w4 (w.heap.size + 1) 2 _ _ _ HZr.out
    have d3 := cell_of_row w4 (w.heap.size + 1) 3 _ _ _ HZr.out
    have d4 := cell_of_row w4 (w.heap.size + 1) 4 _ _ _ HZr.out
    have d5 := cell_of_row w4 (w.heap.size + 1) 5 _ _ _ HZr.out
    have d6 := cell_of_row w4 (w.heap.size + 1) 6 _ _ _ HZr.out
    have d7 := cell_of_row w4 (w.heap.size + 1) 7 _ _ _ HZr.out
    have d8 := cell_of_row w4 (w.heap.size + 1) 8 _ _ _ HZr.out
    have d9 := cell_of_row w4 (w.heap.size + 1) 9 _ _ _ HZr.out
    have d10 := cell_of_row w4 (w.heap.size + 1) 10 _ _ _ HZr.out
    simp at d0 d1 d2 d3 d4 d5 d6 d7 d8 d9 d10
    clear e1 e2
    go_wp2
    refine bodyPost_ret (res_three rfl _ (w.heap.size + 1) rfl dx _ _ _ HE.out) rfl ?_
    exact ⟨_, _, _, rfl, HF.out⟩
  subst hf
  rw [if_neg (by simp)] at hq
  have hxo : dx.out = [] := by rw [HDo.out (by trivial)]
  have hle : dx.inn.length ≤ 140737488351232 ∧ dx.back.length ≤ 140737488351232 := by rw [HDh.out.1, HDh.out.2]; exact ⟨hi, hb⟩
  have HH := hide (fun W => pheld14 dx a1 a2 a3 k1 k2 k3 W (by rw [hxo]; simp) hle.1 hle.2)
  have HHo : Hid ((dx.out.length : Int) + dx.inn.length + dx.back.length = dx.hold) := hide (by rw [hxo]; unfold SS.hold; simp)
  rw [HHo.out] at HH
  have hh0 : 0 ≤ dx.hold := by unfold SS.hold; omega
  clear hxo hle HHo
  generalize dx.hold = H at *
  obtain ⟨c0, c1, c2, c3, c4, c5, c6, c7, c8, c9, c10⟩ := HV4.out.st.cs
  go_wp2_with fail
  refine (HH.out _).mono ?_
  rintro _ w5 ⟨rfl, hB5⟩
  have HV5 := hide (HV4.out.below hT hB5)
  clear hB5 HV4 HH c0 c1 c2 c3 c4 c5 c6 c7 c8 c9 c10
  by_cases hlt : p < H
  case pos =>
    rw [if_pos hlt] at hq
    obtain ⟨rfl, rfl, rfl, rfl⟩ : dx = qx ∧ 0 = qn ∧ 4 = qe ∧ t = qs := by simpa using hq
    clear hq hpt hh0
    obtain ⟨e1, e2⟩ := HV5.out.out hT
    unfold filled at e1 e2
    have HE := hide e1
    have HF := hide e2
    have HZr := hide HV5.out.zr
    obtain ⟨c0, c1, c2, c3, c4, c5, c6, c7, c8, c9, c10⟩ := HV5.out.st.cs
    have f0 := frozen_of_row w5 (w.heap.size + 1) 0 _ _ HZr.out
    have f1 := frozen_of_row w5 (w.heap.size + 1) 1 _ _ HZr.out
    have f2 := frozen_of_row w5 (w.heap.size + 1) 2 _ _ HZr.out
    have f3 := frozen_of_row w5 (w.heap.size + 1) 3 _ _ HZr.out
    have f4 := frozen_of_row w5 (w.heap.size + 1) 4 _ _ HZr.out
    have f5 := frozen_of_row w5 (w.heap.size + 1) 5 _ _ HZr.out
    have f6 := frozen_of_row w5 (w.heap.size + 1) 6 _ _ HZr.out
    have f7 := frozen_of_row w5 (w.heap.size + 1) 7 _ _ HZr.out
    have f8 := frozen_of_row w5 (w.heap.size + 1) 8 _ _ HZr.out
    have f9 := frozen_of_row w5 (w.heap.size + 1) 9 _ _ HZr.out
    have f10 := frozen_of_row w5 (w.heap.size + 1) 10 _ _ HZr.out
    have d0 := cell_of_row w5 (w.heap.size + 1) 0 _ _ _ HZr.out
    have d1 := cell_of_row w5 (w.heap.size + 1) 1 _ _ _ HZr.out
    have d2 := cell_of_row w5 (w.heap.size + 1) 2 _ _ _ HZr.out
    have d3 := cell_of_row w5 (w.heap.size + 1) 3 _ _ _ HZr.out
    have d4 := cell_of_row w5 (w.heap.size + 1) 4 _ _ _ HZr.out
    have d5 := cell_of_row w5 (w.heap.size + 1) 5 _ _ _ HZr.out
    have d6 := cell_of_row w5 (w.heap.size + 1) 6 _ _ _ HZr.out
    have d7 := cell_of_row w5 (w.heap.size + 1) 7 _ _ _ HZr.out
    have d8 := cell_of_row w5 (w.heap.size + 1) 8 _ _ _ HZr.out
    have d9 := cell_of_row w5 (w.heap.size + 1) 9 _ _ _ HZr.out
    have d10 := cell_of_row w5 (w.heap.size + 1) 10 _ _ _ HZr.out
    simp at d0 d1 d2 d3 d4 d5 d6 d7 d8 d9 d10
    clear e1 e2
    go_wp2
    refine bodyPost_ret (res_three rfl _ (w.heap.size + 1) rfl dx _ _ _ HE.out) rfl ?_
    exact ⟨_, _, _, rfl, HF.out⟩
  rw [if_neg hlt] at hq
  obtain ⟨rfl, rfl, rfl, rfl⟩ : dx = qx ∧ p - H = qn ∧ 0 = qe ∧ t = qs := by simpa using hq
  have HW : Hid (wrap64 (p - H) = p - H) := hide (by unfold wrap64; omega)
  have hb4 : decide (p < H) = false := by simp [hlt]
  clear hq hpt hh0 hlt
  obtain ⟨e1, e2⟩ := HV5.out.out hT
  unfold filled at e1 e2
  have HE := hide e1
  have HF := hide e2
  have HZr := hide HV5.out.zr
  obtain ⟨c0, c1, c2, c3, c4, c5, c6, c7, c8, c9, c10⟩ := HV5.out.st.cs
  have f0 := frozen_of_row w5 (w.heap.size + 1) 0 _ _ HZr.out
  have f1 := frozen_of_row w5 (w.heap.size + 1) 1 _ _ HZr.out
  have f2 := frozen_of_row w5 (w.heap.size + 1) 2 _ _ HZr.out
  have f3 := frozen_of_row w5 (w.heap.size + 1) 3 _ _ HZr.out
  have f4 := frozen_of_row w5 (w.heap.size + 1) 4 _ _ HZr.out
  have f5 := frozen_of_row w5 (w.heap.size + 1) 5 _ _ HZr.out
  have f6 := frozen_of_row w5 (w.heap.size + 1) 6 _ _ HZr.out
  have f7 := frozen_of_row w5 (w.heap.size + 1) 7 _ _ HZr.out
  have f8 := frozen_of_row w5 (w.heap.size + 1) 8 _ _ HZr.out
  have f9 := frozen_of_row w5 (w.heap.size + 1) 9 _ _ HZr.out
  have f10 := frozen_of_row w5 (w.heap.size + 1) 10 _ _ HZr.out
  have d0 := cell_of_row w5 (w.heap.size + 1) 0 _ _ _ HZr.out
  have d1 := cell_of_row w5 (w.heap.size + 1) 1 _ _ _ HZr.out
  have d2 := cell_of_row w5 (w.heap.size + 1) 2 _ _ _ HZr.out
  have d3 := cell_of_row w5 (w.heap.size + 1) 3 _ _ _ HZr.out
  have d4 := cell_of_row w5 (w.heap.size + 1) 4 _ _ _ HZr.out
  have d5 := cell_of_row w5 (w.heap.size + 1) 5 _ _ _ HZr.out
  have d6 := cell_of_row w5 (w.heap.size + 1) 6 _ _ _ HZr.out
  have d7 := cell_of_row w5 (w.heap.size + 1) 7 _ _ _ HZr.out
  have d8 := cell_of_row w5 (w.heap.size + 1) 8 _ _ _ HZr.out
  have d9 := cell_of_row w5 (w.heap.size + 1) 9 _ _ _ HZr.out
  have d10 := cell_of_row w5 (w.heap.size + 1) 10 _ _ _ HZr.out
  simp at d0 d1 d2 d3 d4 d5 d6 d7 d8 d9 d10
  clear e1 e2
  go_wp2
  refine bodyPost_ret (res_three rfl _ (w.heap.size + 1) rfl dx _ _ _ HE.out) rfl ?_
  exact ⟨_, _, _, by rw [HW.out]; rfl, HF.out⟩
end Go.Proofs.YtdmkjbdlidadiaaGreat

/- Position: Seek, over any Raw. -/
namespace Go.Proofs.YtdmkjbdlidadiaaGreat
open Go.RowKit

set_option maxRecDepth 100000 in
set_option maxHeartbeats 4000000 in
theorem pseek_any {S : Type} {D : RawD S} {T : TypeId} {v : Value} {fr fw : FuncId} {rok wok : S → Prop} {At : World → (Nat → Prop) → S → Prop} (R : RawM D T v fr fw rok wok At) (hT : ∀ s, OAt (fun w O => At w O s)) {G : Nat → S → Prop} (hG : Bears D rok wok G) {K : SkV S} {fs : FuncId} {sok : S → Prop} (Q : RawS K T v fs sok At) (hK : BearsS K sok G) {w : World} {O P : Nat → Prop} {s : S} {x : SS} {o i b : Value} (off wh : Int) (h : SIn w P x o i b) (hA : At w O s) (hO : ∀ j, O j → j < w.heap.size) (hg : G 4 s) (ho : x.out.length ≤ 140737488351232) (hi : x.inn.length ≤ 140737488351232) (hb : x.back.length ≤ 140737488351232) (hoff : -9223372036854775808 ≤ off ∧ off ≤ 9223372036854775807) :
    Calls Tryz.prog 43 #[.agg #[.bool x.rd, .bool x.wt, .int .i64 x.mode, .int .i64 x.size, o, i, b, .int .i64 x.dir, .bool x.fin, .bool x.bad, .bool x.closed], .iface T v, .int .i64 off, .int .i64 wh] w fun e w' => ∃ o' i' b', e = .returned (.tuple #[.agg #[.bool (x.seek D K s off wh).1.rd, .bool (x.seek D K s off wh).1.wt, .int .i64 (x.seek D K s off wh).1.mode, .int .i64 (x.seek D K s off wh).1.size, o', i', b', .int .i64 (x.seek D K s off wh).1.dir, .bool (x.seek D K s off wh).1.fin, .bool (x.seek D K s off wh).1.bad, .bool (x.seek D K s off wh).1.closed], .int .i64 (x.seek D K s off wh).2.1, .int .i64 (x.seek D K s off wh).2.2.1]) ∧ SOut At w O (x.seek D K s off wh).1 (x.seek D K s off wh).2.2.2 o' i' b' w' := by
  have HDv := hide (fun (W : World) (hW : Below w.heap.size w W) (hr : x.refuse true = 0) => delivered_any R hT hG (h.below hW) ((hT s).keep hA (fun j _ hj => hW.block j hj) hW.size) (fun j e => Nat.lt_of_lt_of_le (hO j e) hW.size) (hG.less _ _ (hG.less _ _ hg)) ho hi hb hr)
  have HCp := hide (fun (W : World) (hW : Below w.heap.size w W) => pcopied14 x o i b P W (h.below hW) ho hi hb)
  obtain ⟨oa, oc, rfl, -⟩ := h.so
  obtain ⟨ia, ic, rfl, -⟩ := h.si
  obtain ⟨ba, bc, rfl, -⟩ := h.sb
  clear h
  have HRf := hide (fun W => seekRefusal_any x oa ia ba oc ic bc T v wh W hi hb)
  have HOf := hide hoff
  clear hoff
  generalize hq : x.seek D K s off wh = q
  obtain ⟨qx, qn, qe, qs⟩ := q
  have hq : (if x.srefuse true wh ≠ 0 then (x, 0, x.srefuse true wh, s) else if (x.deliver D s).2.1 ≠ 0 then ((x.deliver D s).1, 0, (x.deliver D s).2.1, (x.deliver D s).2.2) else (x.deliver D s).1.sought K (x.deliver D s).2.2 off wh) = (qx, qn, qe, qs) := by
    rw [← hq]
    unfold SS.seek SS.srefuse
    by_cases h0 : x.refuse true = 0
    · by_cases h1 : wh < 0 ∨ 2 < wh
      · simp [h0, h1]
      · simp [h0, h1]
    · simp [h0]
  go_enter Tryz.func43, Tryz.ntmps43
  go_wp2_with fail
  have HB0 := hide ((recv_below w (Obj.cells #[.bool x.rd, .bool x.wt, .int .i64 x.mode, .int .i64 x.size, .slice oa x.out.length oc, .slice ia x.inn.length ic, .slice ba x.back.length bc, .int .i64 x.dir, .bool x.fin, .bool x.bad, .bool x.closed] 58)).trans ((recv_below (w.alloc (Obj.cells #[.bool x.rd, .bool x.wt, .int .i64 x.mode, .int .i64 x.size, .slice oa x.out.length oc, .slice ia x.inn.length ic, .slice ba x.back.length bc, .int .i64 x.dir, .bool x.fin, .bool x.bad, .bool x.closed] 58)) (Obj.cells #[.bool false, .bool false, .int .i64 0, .int .i64 0, .slice none 0 0, .slice none 0 0, .slice none 0 0, .int .i64 0, .bool false, .bool false, .bool false] 58)).mono (recv_below w (Obj.cells #[.bool x.rd, .bool x.wt, .int .i64 x.mode, .int .i64 x.size, .slice oa x.out.length oc, .slice ia x.inn.length ic, .slice ba x.back.length bc, .int .i64 x.dir, .bool x.fin, .bool x.bad, .bool x.closed] 58)).size))
  have HS0 := hide ((StAt.new w x (.slice oa x.out.length oc) (.slice ia x.inn.length ic) (.slice ba x.back.length bc)).below (recv_below _ (Obj.cells #[.bool false, .bool false, .int .i64 0, .int .i64 0, .slice none 0 0, .slice none 0 0, .slice none 0 0, .int .i64 0, .bool false, .bool false, .bool false] 58)))
  have HZ0 : Hid (((w.alloc (Obj.cells #[.bool x.rd, .bool x.wt, .int .i64 x.mode, .int .i64 x.size, .slice oa x.out.length oc, .slice ia x.inn.length ic, .slice ba x.back.length bc, .int .i64 x.dir, .bool x.fin, .bool x.bad, .bool x.closed] 58)).alloc (Obj.cells #[.bool false, .bool false, .int .i64 0, .int .i64 0, .slice none 0 0, .slice none 0 0, .slice none 0 0, .int .i64 0, .bool false, .bool false, .bool false] 58)).heap[w.heap.size + 1]? = some (Obj.cells #[.bool false, .bool false, .int .i64 0, .int .i64 0, .slice none 0 0, .slice none 0 0, .slice none 0 0, .int .i64 0, .bool false, .bool false, .bool false] 58)) := hide (by have := heap_alloc_new (w.alloc (Obj.cells #[.bool x.rd, .bool x.wt, .int .i64 x.mode, .int .i64 x.size, .slice oa x.out.length oc, .slice ia x.inn.length ic, .slice ba x.back.length bc, .int .i64 x.dir, .bool x.fin, .bool x.bad, .bool x.closed] 58)) (Obj.cells #[.bool false, .bool false, .int .i64 0, .int .i64 0, .slice none 0 0, .slice none 0 0, .slice none 0 0, .int .i64 0, .bool false, .bool false, .bool false] 58); rw [show (w.alloc (Obj.cells #[.bool x.rd, .bool x.wt, .int .i64 x.mode, .int .i64 x.size, .slice oa x.out.length oc, .slice ia x.inn.length ic, .slice ba x.back.length bc, .int .i64 x.dir, .bool x.fin, .bool x.bad, .bool x.closed] 58)).heap.size = w.heap.size + 1 from Array.size_push ..] at this; exact this)
  generalize (w.alloc (Obj.cells #[.bool x.rd, .bool x.wt, .int .i64 x.mode, .int .i64 x.size, .slice oa x.out.length oc, .slice ia x.inn.length ic, .slice ba x.back.length bc, .int .i64 x.dir, .bool x.fin, .bool x.bad, .bool x.closed] 58)).alloc (Obj.cells #[.bool false, .bool false, .int .i64 0, .int .i64 0, .slice none 0 0, .slice none 0 0, .slice none 0 0, .int .i64 0, .bool false, .bool false, .bool false] 58) = w0 at *
  have hz0 : w.heap.size + 1 < w0.heap.size := (Array.getElem?_eq_some_iff.1 HZ0.out).1
  refine (HRf.out _).mono ?_
  rintro _ w1 ⟨rfl, hB1⟩
  have HB1 := hide (HB0.out.trans (hB1.mono HB0.out.size))
  have HS1 := hide (HS0.out.below hB1)
  have HZ1 := hide ((hB1.block (w.heap.size + 1) hz0).trans HZ0.out)
  have hz1 := hB1.size
  clear hB1 HS0 HZ0 HB0 HRf
  obtain ⟨c0, c1, c2, c3, c4, c5, c6, c7, c8, c9, c10⟩ := HS1.out.cs
  by_cases hn : x.srefuse true wh = 0
  case neg =>
    rw [if_pos hn] at hq
    obtain ⟨rfl, rfl, rfl, rfl⟩ : x = qx ∧ 0 = qn ∧ x.srefuse true wh = qe ∧ s = qs := by simpa using hq
    obtain ⟨nw, hnw⟩ : ∃ nw, nw = x.srefuse true wh := ⟨_, rfl⟩
    rw [← hnw] at hn ⊢
    have HNw := hide hnw
    have hn2 : (nw == 0) = false := by simp [hn]
    have hn3 : (nw != 0) = true := by simp [hn]
    clear hq hnw HDv
    go_wp2_with fail
    refine (HCp.out _ HB1.out).mono ?_
    rintro _ w2 ⟨o1, i1, b1, rfl, y3, y4, y5, hB2⟩
    have hOu := SOut.of_own hT ((hT s).keep hA (fun j _ hj => HB1.out.block j hj) HB1.out.size) (fun j e => Nat.lt_of_lt_of_le (hO j e) HB1.out.size) y3 y4 y5 hB2
    obtain ⟨a1, k1, rfl⟩ := owns_slice y3
    obtain ⟨a2, k2, rfl⟩ := owns_slice y4
    obtain ⟨a3, k3, rfl⟩ := owns_slice y5
    have HOu := hide hOu
    have HZ3 := hide ((hB2.block (w.heap.size + 1) (by omega)).trans HZ1.out)
    clear hOu y3 y4 y5 hB2 c0 c1 c2 c3 c4 c5 c6 c7 c8 c9 c10
    have f0 := frozen_of_row w2 (w.heap.size + 1) 0 _ _ HZ3.out
    have f1 := frozen_of_row w2 (w.heap.size + 1) 1 _ _ HZ3.out
    have f2 := frozen_of_row w2 (w.heap.size + 1) 2 _ _ HZ3.out
    have f3 := frozen_of_row w2 (w.heap.size + 1) 3 _ _ HZ3.out
    have f4 := frozen_of_row w2 (w.heap.size + 1) 4 _ _ HZ3.out
    have f5 := frozen_of_row w2 (w.heap.size + 1) 5 _ _ HZ3.out
    have f6 := frozen_of_row w2 (w.heap.size + 1) 6 _ _ HZ3.out
    have f7 := frozen_of_row w2 (w.heap.size + 1) 7 _ _ HZ3.out
    have f8 := frozen_of_row w2 (w.heap.size + 1) 8 _ _ HZ3.out
    have f9 := frozen_of_row w2 (w.heap.size + 1) 9 _ _ HZ3.out
    have f10 := frozen_of_row w2 (w.heap.size + 1) 10 _ _ HZ3.out
    have d0 := cell_of_row w2 (w.heap.size + 1) 0 _ _ _ HZ3.out
    have d1 := cell_of_row w2 (w.heap.size + 1) 1 _ _ _ HZ3.out
    have d2 := cell_of_row w2 (w.heap.size + 1) 2 _ _ _ HZ3.out
    have d3 := cell_of_row w2 (w.heap.size + 1) 3 _ _ _ HZ3.out
    have d4 := cell_of_row w2 (w.heap.size + 1) 4 _ _ _ HZ3.out
    have d5 := cell_of_row w2 (w.heap.size + 1) 5 _ _ _ HZ3.out
    have d6 := cell_of_row w2 (w.heap.size + 1) 6 _ _ _ HZ3.out
    have d7 := cell_of_row w2 (w.heap.size + 1) 7 _ _ _ HZ3.out
    have d8 := cell_of_row w2 (w.heap.size + 1) 8 _ _ _ HZ3.out
    have d9 := cell_of_row w2 (w.heap.size + 1) 9 _ _ _ HZ3.out
    have d10 := cell_of_row w2 (w.heap.size + 1) 10 _ _ _ HZ3.out
    simp at d0 d1 d2 d3 d4 d5 d6 d7 d8 d9 d10
    go_wp2
    obtain ⟨e1, e2⟩ := st_fill w2 (w.heap.size + 1) x (.slice a1 x.out.length k1) (.slice a2 x.inn.length k2) (.slice a3 x.back.length k3) HZ3.out
    refine bodyPost_ret (res_three rfl _ (w.heap.size + 1) rfl x _ _ _ e1) rfl ?_
    exact ⟨_, _, _, by rw [← HNw.out]; rfl, SOut.fin hT HOu.out HB1.out (by omega) (Nat.le_succ _) hO e2⟩
  rw [if_neg (by simp [hn])] at hq
  have hrf : x.refuse true = 0 := by
    unfold SS.srefuse at hn
    by_cases h0 : x.refuse true = 0
    · exact h0
    · rw [if_pos h0] at hn; exact hn
  rw [hn]
  clear hn
  have hlen : x.out.length ≤ 65536 := by have := may_buf (refuse_may hrf).1; omega
  have hp := HDv.out _ HB1.out hrf
  have hG2 := (hG.put 3 s x.out hg hlen).2
  have hdo := deliver_ok D x s
  have hdh : (x.deliver D s).1.inn = x.inn ∧ (x.deliver D s).1.back = x.back := by unfold SS.deliver SS.mark; split <;> exact ⟨rfl, rfl⟩
  have hG3 : G 3 (x.deliver D s).2.2 := hG2
  clear hG2 hlen HDv HCp
  generalize x.deliver D s = X at *
  obtain ⟨dx, de, ds⟩ := X
  simp only at hp hq hdo hG3 hdh
  have HP := hide hp
  have HDo := hide hdo
  have HG3 := hide hG3
  have HDh := hide hdh
  clear hp hdo hG3 hdh
  go_wp2_with fail
  refine HP.out.mono ?_
  rintro _ w2 ⟨o1, i1, b1, rfl, hS⟩
  obtain ⟨a1, k1, rfl, -⟩ := hS.choose_spec.1.so
  obtain ⟨a2, k2, rfl, -⟩ := hS.choose_spec.1.si
  obtain ⟨a3, k3, rfl, -⟩ := hS.choose_spec.1.sb
  obtain ⟨hst, O2, hV⟩ := QV.of_out hT HB1.out HS1.out HZ1.out (by omega) (Nat.le_refl _) (Nat.le_succ _) hO hS
  unfold filled at hV
  have HV2 := hide hV
  have HS2 := hide hst
  clear hS hst hV HP HS1 HZ1 c0 c1 c2 c3 c4 c5 c6 c7 c8 c9 c10
  obtain ⟨c0, c1, c2, c3, c4, c5, c6, c7, c8, c9, c10⟩ := HS2.out.cs
  have s0 := HS2.out.soft 0
  have s1 := HS2.out.soft 1
  have s2 := HS2.out.soft 2
  have s3 := HS2.out.soft 3
  have s4 := HS2.out.soft 4
  have s5 := HS2.out.soft 5
  have s6 := HS2.out.soft 6
  have s7 := HS2.out.soft 7
  have s8 := HS2.out.soft 8
  have s9 := HS2.out.soft 9
  have s10 := HS2.out.soft 10
  go_upto_region 5 with fail
  clear c0 c1 c2 c3 c4 c5 c6 c7 c8 c9 c10
  clear s0 s1 s2 s3 s4 s5 s6 s7 s8 s9 s10
  clear HS2
  generalize (((((((((((w2.setCell ⟨w.heap.size, 0, none⟩ (.bool dx.rd)).setCell ⟨w.heap.size, 1, none⟩ (.bool dx.wt)).setCell ⟨w.heap.size, 2, none⟩ (.int .i64 dx.mode)).setCell ⟨w.heap.size, 3, none⟩ (.int .i64 dx.size)).setCell ⟨w.heap.size, 4, none⟩ (.slice a1 dx.out.length k1)).setCell ⟨w.heap.size, 5, none⟩ (.slice a2 dx.inn.length k2)).setCell ⟨w.heap.size, 6, none⟩ (.slice a3 dx.back.length k3)).setCell ⟨w.heap.size, 7, none⟩ (.int .i64 dx.dir)).setCell ⟨w.heap.size, 8, none⟩ (.bool dx.fin)).setCell ⟨w.heap.size, 9, none⟩ (.bool dx.bad)).setCell ⟨w.heap.size, 10, none⟩ (.bool dx.closed)) = w3 at *
  by_cases he : de = 0
  case neg =>
    rw [if_pos he] at hq
    obtain ⟨rfl, rfl, rfl, rfl⟩ : dx = qx ∧ 0 = qn ∧ de = qe ∧ ds = qs := by simpa using hq
    have hb2 : (de == 0) = false := by simp [he]
    have hb3 : (de != 0) = true := by simp [he]
    clear hq he
    obtain ⟨e1, e2⟩ := HV2.out.out hT
    unfold filled at e1 e2
    have HE := hide e1
    have HF := hide e2
    have HZr := hide HV2.out.zr
    obtain ⟨c0, c1, c2, c3, c4, c5, c6, c7, c8, c9, c10⟩ := HV2.out.st.cs
    have f0 := frozen_of_row w3 (w.heap.size + 1) 0 _ _ HZr.out
    have f1 := frozen_of_row w3 (w.heap.size + 1) 1 _ _ HZr.out
    have f2 := frozen_of_row w3 (w.heap.size + 1) 2 _ _ HZr.out
    have f3 := frozen_of_row w3 (w.heap.size + 1) 3 _ _ HZr.out
    have f4 := frozen_of_row w3 (w.heap.size + 1) 4 _ _ HZr.out
    have f5 := frozen_of_row w3 (w.heap.size + 1) 5 _ _ HZr.out
    have f6 := frozen_of_row w3 (w.heap.size + 1) 6 _ _ HZr.out
    have f7 := frozen_of_row w3 (w.heap.size + 1) 7 _ _ HZr.out
    have f8 := frozen_of_row w3 (w.heap.size + 1) 8 _ _ HZr.out
    have f9 := frozen_of_row w3 (w.heap.size + 1) 9 _ _ HZr.out
    have f10 := frozen_of_row w3 (w.heap.size + 1) 10 _ _ HZr.out
    have d0 := cell_of_row w3 (w.heap.size + 1) 0 _ _ _ HZr.out
    have d1 := cell_of_row w3 (w.heap.size + 1) 1 _ _ _ HZr.out
    have d2 := cell_of_row w3 (w.heap.size + 1) 2 _ _ _ HZr.out
    have d3 := cell_of_row w3 (w.heap.size + 1) 3 _ _ _ HZr.out
    have d4 := cell_of_row w3 (w.heap.size + 1) 4 _ _ _ HZr.out
    have d5 := cell_of_row w3 (w.heap.size + 1) 5 _ _ _ HZr.out
    have d6 := cell_of_row w3 (w.heap.size + 1) 6 _ _ _ HZr.out
    have d7 := cell_of_row w3 (w.heap.size + 1) 7 _ _ _ HZr.out
    have d8 := cell_of_row w3 (w.heap.size + 1) 8 _ _ _ HZr.out
    have d9 := cell_of_row w3 (w.heap.size + 1) 9 _ _ _ HZr.out
    have d10 := cell_of_row w3 (w.heap.size + 1) 10 _ _ _ HZr.out
    simp at d0 d1 d2 d3 d4 d5 d6 d7 d8 d9 d10
    clear e1 e2
    go_wp2
    refine bodyPost_ret (res_three rfl _ (w.heap.size + 1) rfl dx _ _ _ HE.out) rfl ?_
    exact ⟨_, _, _, rfl, HF.out⟩
  subst he
  rw [if_neg (by simp)] at hq
  unfold SS.sought at hq
  have hxo : dx.out = [] := by rw [HDo.out (by trivial)]
  have hle : dx.inn.length ≤ 140737488351232 ∧ dx.back.length ≤ 140737488351232 := by rw [HDh.out.1, HDh.out.2]; exact ⟨hi, hb⟩
  have HH := hide (fun W => pheld14 dx a1 a2 a3 k1 k2 k3 W (by rw [hxo]; simp) hle.1 hle.2)
  have HHo : Hid ((dx.out.length : Int) + dx.inn.length + dx.back.length = dx.hold) := hide (by rw [hxo]; unfold SS.hold; simp)
  rw [HHo.out] at HH
  have HHb : Hid (0 ≤ dx.hold ∧ dx.hold ≤ 1000000000000000) := hide (by unfold SS.hold; omega)
  have HEm := hide (fun W => emptied_any dx a1 a2 a3 k1 k2 k3 W)
  clear hxo hle HHo
  generalize dx.hold = H at *
  obtain ⟨c0, c1, c2, c3, c4, c5, c6, c7, c8, c9, c10⟩ := HV2.out.st.cs
  go_wp2_with fail
  refine (HH.out _).mono ?_
  rintro _ w4 ⟨rfl, hB4⟩
  have HV4 := hide (HV2.out.below hT hB4)
  clear hB4 HV2 HH c0 c1 c2 c3 c4 c5 c6 c7 c8 c9 c10
  have HMv := hide (moved_any Q hK H off wh HV4.out.raw (hG.less _ _ HG3.out) HHb.out HOf.out)
  obtain ⟨p, f, t, hk⟩ : ∃ p f t, movedV K ds H off wh = (p, f, t) := ⟨_, _, _, rfl⟩
  rw [hk] at HMv hq
  simp only at HMv hq
  clear hk HHb HOf
  go_wp2_with fail
  refine HMv.out.mono ?_
  rintro _ w5 ⟨rfl, hS5⟩
  obtain ⟨O5, hV5, -⟩ := HV4.out.step hT hS5
  have HV5 := hide hV5
  clear hV5 hS5 HV4 HMv
  by_cases hf : f = 0
  case neg =>
    rw [if_pos hf] at hq
    obtain ⟨rfl, rfl, rfl, rfl⟩ : dx = qx ∧ 0 = qn ∧ f = qe ∧ t = qs := by simpa using hq
    have hb2 : (f == 0) = false := by simp [hf]
    have hb3 : (f != 0) = true := by simp [hf]
    clear hq hf
    obtain ⟨e1, e2⟩ := HV5.out.out hT
    unfold filled at e1 e2
    have HE := hide e1
    have HF := hide e2
    have HZr := hide HV5.out.zr
    obtain ⟨c0, c1, c2, c3, c4, c5, c6, c7, c8, c9, c10⟩ := HV5.out.st.cs
    have f0 := frozen_of_row w5 (w.heap.size + 1) 0 _ _ HZr.out
    have f1 := frozen_of_row w5 (w.heap.size + 1) 1 _ _ HZr.out
    have f2 := frozen_of_row w5 (w.heap.size + 1) 2 _ _ HZr.out
    have f3 := frozen_of_row w5 (w.heap.size + 1) 3 _ _ HZr.out
    have f4 := frozen_of_row w5 (w.heap.size + 1) 4 _ _ HZr.out
    have f5 := frozen_of_row w5 (w.heap.size + 1) 5 _ _ HZr.out
    have f6 := frozen_of_row w5 (w.heap.size + 1) 6 _ _ HZr.out
    have f7 := frozen_of_row w5 (w.heap.size + 1) 7 _ _ HZr.out
    have f8 := frozen_of_row w5 (w.heap.size + 1) 8 _ _ HZr.out
    have f9 := frozen_of_row w5 (w.heap.size + 1) 9 _ _ HZr.out
    have f10 := frozen_of_row w5 (w.heap.size + 1) 10 _ _ HZr.out
    have d0 := cell_of_row w5 (w.heap.size + 1) 0 _ _ _ HZr.out
    have d1 := cell_of_row w5 (w.heap.size + 1) 1 _ _ _ HZr.out
    have d2 := cell_of_row w5 (w.heap.size + 1) 2 _ _ _ HZr.out
    have d3 := cell_of_row w5 (w.heap.size + 1) 3 _ _ _ HZr.out
    have d4 := cell_of_row w5 (w.heap.size + 1) 4 _ _ _ HZr.out
    have d5 := cell_of_row w5 (w.heap.size + 1) 5 _ _ _ HZr.out
    have d6 := cell_of_row w5 (w.heap.size + 1) 6 _ _ _ HZr.out
    have d7 := cell_of_row w5 (w.heap.size + 1) 7 _ _ _ HZr.out
    have d8 := cell_of_row w5 (w.heap.size + 1) 8 _ _ _ HZr.out
    have d9 := cell_of_row w5 (w.heap.size + 1) 9 _ _ _ HZr.out
    have d10 := cell_of_row w5 (w.heap.size + 1) 10 _ _ _ HZr.out
    simp at d0 d1 d2 d3 d4 d5 d6 d7 d8 d9 d10
    clear e1 e2
    go_wp2
    refine bodyPost_ret (res_three rfl _ (w.heap.size + 1) rfl dx _ _ _ HE.out) rfl ?_
    exact ⟨_, _, _, rfl, HF.out⟩
  subst hf
  rw [if_neg (by simp)] at hq
  obtain ⟨hqx, rfl, rfl, rfl⟩ : dx.bare = qx ∧ p = qn ∧ 0 = qe ∧ t = qs := by simpa using hq
  clear hq
  subst hqx
  obtain ⟨c0, c1, c2, c3, c4, c5, c6, c7, c8, c9, c10⟩ := HV5.out.st.cs
  go_wp2_with fail
  refine (HEm.out _).mono ?_
  rintro _ w6 ⟨rfl, hB6⟩
  have HV6 := hide (HV5.out.below hT hB6)
  clear hB6 HV5 HEm c0 c1 c2 c3 c4 c5 c6 c7 c8 c9 c10
  obtain ⟨e1, e2⟩ := HV6.out.out2 hT dx.bare (.slice none 0 0) (.slice none 0 0) (.slice none 0 0) (SIn.nils0 rfl rfl rfl)
  unfold filled at e1 e2
  have HE := hide e1
  have HF := hide e2
  have HZr := hide HV6.out.zr
  have f0 := frozen_of_row w6 (w.heap.size + 1) 0 _ _ HZr.out
  have f1 := frozen_of_row w6 (w.heap.size + 1) 1 _ _ HZr.out
  have f2 := frozen_of_row w6 (w.heap.size + 1) 2 _ _ HZr.out
  have f3 := frozen_of_row w6 (w.heap.size + 1) 3 _ _ HZr.out
  have f4 := frozen_of_row w6 (w.heap.size + 1) 4 _ _ HZr.out
  have f5 := frozen_of_row w6 (w.heap.size + 1) 5 _ _ HZr.out
  have f6 := frozen_of_row w6 (w.heap.size + 1) 6 _ _ HZr.out
  have f7 := frozen_of_row w6 (w.heap.size + 1) 7 _ _ HZr.out
  have f8 := frozen_of_row w6 (w.heap.size + 1) 8 _ _ HZr.out
  have f9 := frozen_of_row w6 (w.heap.size + 1) 9 _ _ HZr.out
  have f10 := frozen_of_row w6 (w.heap.size + 1) 10 _ _ HZr.out
  have d0 := cell_of_row w6 (w.heap.size + 1) 0 _ _ _ HZr.out
  have d1 := cell_of_row w6 (w.heap.size + 1) 1 _ _ _ HZr.out
  have d2 := cell_of_row w6 (w.heap.size + 1) 2 _ _ _ HZr.out
  have d3 := cell_of_row w6 (w.heap.size + 1) 3 _ _ _ HZr.out
  have d4 := cell_of_row w6 (w.heap.size + 1) 4 _ _ _ HZr.out
  have d5 := cell_of_row w6 (w.heap.size + 1) 5 _ _ _ HZr.out
  have d6 := cell_of_row w6 (w.heap.size + 1) 6 _ _ _ HZr.out
  have d7 := cell_of_row w6 (w.heap.size + 1) 7 _ _ _ HZr.out
  have d8 := cell_of_row w6 (w.heap.size + 1) 8 _ _ _ HZr.out
  have d9 := cell_of_row w6 (w.heap.size + 1) 9 _ _ _ HZr.out
  have d10 := cell_of_row w6 (w.heap.size + 1) 10 _ _ _ HZr.out
  simp at d0 d1 d2 d3 d4 d5 d6 d7 d8 d9 d10
  clear e1 e2
  go_wp2
  refine bodyPost_ret (res_three rfl _ (w.heap.size + 1) rfl dx.bare _ _ _ HE.out) rfl ?_
  exact ⟨_, _, _, rfl, HF.out⟩
end Go.Proofs.YtdmkjbdlidadiaaGreat

/- Position over memory that grows: values. -/
namespace Go.Proofs.YtdmkjbdlidadiaaGreat
open Go.RowKit

theorem bearsS_true {S : Type} (K : SkV S) : BearsS K (fun _ => True) (fun _ _ => True) := fun _ _ _ _ _ => ⟨trivial, trivial⟩
theorem gro_seek (g : Nat) : RawS MS.seek 75 (.pointer (some ⟨g, 0, none⟩)) 311 (fun _ => True) (fun w O S => MemAt w O g S) where
  mseek w := by kernel_rfl
  cseek a w := by kernel_rfl
  seek o wh h _ _ := gmseek_any _ g _ o wh _ h
  told {w O s} o wh h := by
    have hk := h.ok
    unfold MS.seek
    split
    · exact ⟨Int.le_refl _, by simp only; omega⟩
    split
    · exact ⟨Int.le_refl _, by simp only; omega⟩
    · simp only
      omega
def moRW : Mo := ⟨true, true, false, false, false, false, false, false⟩
theorem chk_moRW : chkM moRW = 0 := by decide
def xRW (mode size : Int) : SS := ⟨true, true, mode, size, [], [], [], 0, false, false, false⟩
theorem new_RW (mode size : Int) : SS.new moRW mode size = if 1 ≤ mode ∧ mode ≤ 3 then (if 1 ≤ size ∧ size ≤ 65536 then (xRW mode size, 0) else (ss0, 4)) else (ss0, 1) := by
  unfold SS.new
  rw [if_pos chk_moRW]
  rfl
end Go.Proofs.YtdmkjbdlidadiaaGreat

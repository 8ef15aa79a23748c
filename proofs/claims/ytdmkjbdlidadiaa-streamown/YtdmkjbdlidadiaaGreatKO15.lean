/- What the proof stands on, part 15: the contracts of the program's calls that it reaches. -/
import Derived.Test.YtdmkjbdlidadiaaGreatKO14
import Derived.Deep.Cut
/- Streams: the calls over a Raw that is nil. -/
namespace Go.Proofs.YtdmkjbdlidadiaaGreat
open Go.RowKit

theorem refuse_nil (x : SS) : x.refuse false ≠ 0 := by
  unfold SS.refuse
  split
  · decide
  · simp
set_option maxRecDepth 100000 in
set_option maxHeartbeats 1000000 in
theorem turnToWriting_nil (x : SS) (g : Nat) (oa ia ba : Option Addr) (oc ic bc : Nat) (w : World) (h : Way w g x (.slice oa x.out.length oc) (.slice ia x.inn.length ic) (.slice ba x.back.length bc) .nilIface) (hi : x.inn.length ≤ 140737488351232) (hb : x.back.length ≤ 140737488351232) : Calls Tryz.prog 116 #[.pointer (some ⟨g, 0, none⟩)] w fun en w' => en = .returned (.int .i64 (x.refuse false)) ∧ Below w.heap.size w w' := by
  have HR := hide (wrefusal_nil x g oa ia ba oc ic bc w h hi hb)
  have hn := refuse_nil x
  generalize x.refuse false = r at *
  have h1 : (r == 0) = false := by simp [hn]
  have h2 : (r != 0) = true := by simp [hn]
  clear h
  go_enter Tryz.func116, Tryz.ntmps116
  go_wp2_with fail
  refine HR.out.mono ?_
  rintro _ w1 ⟨rfl, hB1⟩
  have HB1 := hide hB1
  clear hB1
  go_wp2
  go_ret
  exact ⟨rfl, HB1.out⟩
set_option maxRecDepth 100000 in
set_option maxHeartbeats 1000000 in
theorem turnToReading_nil (x : SS) (g : Nat) (oa ia ba : Option Addr) (oc ic bc : Nat) (w : World) (h : Way w g x (.slice oa x.out.length oc) (.slice ia x.inn.length ic) (.slice ba x.back.length bc) .nilIface) (hi : x.inn.length ≤ 140737488351232) (hb : x.back.length ≤ 140737488351232) : Calls Tryz.prog 118 #[.pointer (some ⟨g, 0, none⟩)] w fun en w' => en = .returned (.int .i64 (x.refuse false)) ∧ Below w.heap.size w w' := by
  have HR := hide (wrefusal_nil x g oa ia ba oc ic bc w h hi hb)
  have hn := refuse_nil x
  generalize x.refuse false = r at *
  have h1 : (r == 0) = false := by simp [hn]
  have h2 : (r != 0) = true := by simp [hn]
  clear h
  go_enter Tryz.func118, Tryz.ntmps118
  go_wp2_with fail
  refine HR.out.mono ?_
  rintro _ w1 ⟨rfl, hB1⟩
  have HB1 := hide hB1
  clear hB1
  go_wp2
  go_ret
  exact ⟨rfl, HB1.out⟩
set_option maxRecDepth 100000 in
set_option maxHeartbeats 2000000 in
theorem sPut_nil {w : World} {P : Nat → Prop} {x : SS} {o i b : Value} (c : UInt8) (h : SIn w P x o i b) (ho : x.out.length ≤ 140737488351232) (hi : x.inn.length ≤ 140737488351232) (hb : x.back.length ≤ 140737488351232) :
    Calls Tryz.prog 28 #[.agg #[.bool x.rd, .bool x.wt, .int .i64 x.mode, .int .i64 x.size, o, i, b, .int .i64 x.dir, .bool x.fin, .bool x.bad, .bool x.closed], .nilIface, .int .u8 (c.toNat : Int)] w fun e w' => ∃ a1 a2 a3 k1 k2 k3, e = .returned (.tuple #[.agg #[.bool x.rd, .bool x.wt, .int .i64 x.mode, .int .i64 x.size, .slice a1 x.out.length k1, .slice a2 x.inn.length k2, .slice a3 x.back.length k3, .int .i64 x.dir, .bool x.fin, .bool x.bad, .bool x.closed], .int .i64 (x.refuse false)]) ∧ Below w.heap.size w w' := by
  have HWx := hide (fun (W : World) (hW : Below w.heap.size w W) => onWay_any x o i b P .nilIface W (h.below hW) ho hi hb (.inl rfl))
  obtain ⟨oa, oc, rfl, -⟩ := h.so
  obtain ⟨ia, ic, rfl, -⟩ := h.si
  obtain ⟨ba, bc, rfl, -⟩ := h.sb
  clear h
  have hn := refuse_nil x
  obtain ⟨r, hrq⟩ : ∃ r, x.refuse false = r := ⟨_, rfl⟩
  rw [hrq] at hn ⊢
  have HRq := hide hrq
  clear hrq
  go_enter Tryz.func28, Tryz.ntmps28
  go_wp2_with fail
  have HB0 := hide ((recv_below w (Obj.cells #[.bool x.rd, .bool x.wt, .int .i64 x.mode, .int .i64 x.size, .slice oa x.out.length oc, .slice ia x.inn.length ic, .slice ba x.back.length bc, .int .i64 x.dir, .bool x.fin, .bool x.bad, .bool x.closed] 58)).trans ((recv_below (w.alloc (Obj.cells #[.bool x.rd, .bool x.wt, .int .i64 x.mode, .int .i64 x.size, .slice oa x.out.length oc, .slice ia x.inn.length ic, .slice ba x.back.length bc, .int .i64 x.dir, .bool x.fin, .bool x.bad, .bool x.closed] 58)) (Obj.cells #[.bool false, .bool false, .int .i64 0, .int .i64 0, .slice none 0 0, .slice none 0 0, .slice none 0 0, .int .i64 0, .bool false, .bool false, .bool false] 58)).mono (recv_below w (Obj.cells #[.bool x.rd, .bool x.wt, .int .i64 x.mode, .int .i64 x.size, .slice oa x.out.length oc, .slice ia x.inn.length ic, .slice ba x.back.length bc, .int .i64 x.dir, .bool x.fin, .bool x.bad, .bool x.closed] 58)).size))
  have HZ0 : Hid (((w.alloc (Obj.cells #[.bool x.rd, .bool x.wt, .int .i64 x.mode, .int .i64 x.size, .slice oa x.out.length oc, .slice ia x.inn.length ic, .slice ba x.back.length bc, .int .i64 x.dir, .bool x.fin, .bool x.bad, .bool x.closed] 58)).alloc (Obj.cells #[.bool false, .bool false, .int .i64 0, .int .i64 0, .slice none 0 0, .slice none 0 0, .slice none 0 0, .int .i64 0, .bool false, .bool false, .bool false] 58)).heap[w.heap.size + 1]? = some (Obj.cells #[.bool false, .bool false, .int .i64 0, .int .i64 0, .slice none 0 0, .slice none 0 0, .slice none 0 0, .int .i64 0, .bool false, .bool false, .bool false] 58)) := hide (by have := heap_alloc_new (w.alloc (Obj.cells #[.bool x.rd, .bool x.wt, .int .i64 x.mode, .int .i64 x.size, .slice oa x.out.length oc, .slice ia x.inn.length ic, .slice ba x.back.length bc, .int .i64 x.dir, .bool x.fin, .bool x.bad, .bool x.closed] 58)) (Obj.cells #[.bool false, .bool false, .int .i64 0, .int .i64 0, .slice none 0 0, .slice none 0 0, .slice none 0 0, .int .i64 0, .bool false, .bool false, .bool false] 58); rw [show (w.alloc (Obj.cells #[.bool x.rd, .bool x.wt, .int .i64 x.mode, .int .i64 x.size, .slice oa x.out.length oc, .slice ia x.inn.length ic, .slice ba x.back.length bc, .int .i64 x.dir, .bool x.fin, .bool x.bad, .bool x.closed] 58)).heap.size = w.heap.size + 1 from Array.size_push ..] at this; exact this)
  generalize (w.alloc (Obj.cells #[.bool x.rd, .bool x.wt, .int .i64 x.mode, .int .i64 x.size, .slice oa x.out.length oc, .slice ia x.inn.length ic, .slice ba x.back.length bc, .int .i64 x.dir, .bool x.fin, .bool x.bad, .bool x.closed] 58)).alloc (Obj.cells #[.bool false, .bool false, .int .i64 0, .int .i64 0, .slice none 0 0, .slice none 0 0, .slice none 0 0, .int .i64 0, .bool false, .bool false, .bool false] 58) = w0 at *
  have hz0 : w.heap.size + 1 < w0.heap.size := (Array.getElem?_eq_some_iff.1 HZ0.out).1
  refine (HWx.out _ HB0.out).mono ?_
  rintro _ w1 ⟨g, o1, i1, b1, rfl, y1, y2, y3, y4, y5, y6, hB1⟩
  obtain ⟨a1, k1, rfl⟩ := owns_slice y3
  obtain ⟨a2, k2, rfl⟩ := owns_slice y4
  obtain ⟨a3, k3, rfl⟩ := owns_slice y5
  have HTu := hide (turnToWriting_nil x g a1 a2 a3 k1 k2 k3 w1 y1 hi hb)
  rw [HRq.out] at HTu
  have HB1 := hide (HB0.out.trans (hB1.mono HB0.out.size))
  have hz1 := hB1.size
  have HY := hide y1
  have HZ1 := hide ((hB1.block (w.heap.size + 1) hz0).trans HZ0.out)
  clear y1 y2 y3 y4 y5 y6 hB1 HWx HB0 HZ0
  go_wp2_with fail
  refine HTu.out.mono ?_
  rintro _ w2 ⟨rfl, hB2⟩
  have hz2 := hB2.size
  obtain ⟨c0, c1, c2, c3, c4, c5, c6, c7, c8, c9, c10, c11⟩ := (HY.out.below hB2).cs
  have HZ3 := hide ((hB2.block (w.heap.size + 1) (by omega)).trans HZ1.out)
  have HB2 := hide (HB1.out.trans (hB2.mono HB1.out.size))
  obtain ⟨e1, e2⟩ := st_fill w2 (w.heap.size + 1) x (.slice a1 x.out.length k1) (.slice a2 x.inn.length k2) (.slice a3 x.back.length k3) HZ3.out
  have HE := hide e1
  have HF := hide (HB2.out.trans (e2.below (B := w.heap.size) (fun k e => by have e' : k = w.heap.size + 1 := e; omega) HB2.out.size))
  have h1 : (r == 0) = false := by simp [hn]
  have h2 : (r != 0) = true := by simp [hn]
  clear hB2 e1 e2 HTu HY HZ1 HB1
  have z0 := cell_of_row w2 (w.heap.size + 1) 0 _ _ _ HZ3.out
  have z1 := cell_of_row w2 (w.heap.size + 1) 1 _ _ _ HZ3.out
  have z2 := cell_of_row w2 (w.heap.size + 1) 2 _ _ _ HZ3.out
  have z3 := cell_of_row w2 (w.heap.size + 1) 3 _ _ _ HZ3.out
  have z4 := cell_of_row w2 (w.heap.size + 1) 4 _ _ _ HZ3.out
  have z5 := cell_of_row w2 (w.heap.size + 1) 5 _ _ _ HZ3.out
  have z6 := cell_of_row w2 (w.heap.size + 1) 6 _ _ _ HZ3.out
  have z7 := cell_of_row w2 (w.heap.size + 1) 7 _ _ _ HZ3.out
  have z8 := cell_of_row w2 (w.heap.size + 1) 8 _ _ _ HZ3.out
  have z9 := cell_of_row w2 (w.heap.size + 1) 9 _ _ _ HZ3.out
  have z10 := cell_of_row w2 (w.heap.size + 1) 10 _ _ _ HZ3.out
  have u0 := frozen_of_row w2 (w.heap.size + 1) 0 _ _ HZ3.out
  have u1 := frozen_of_row w2 (w.heap.size + 1) 1 _ _ HZ3.out
  have u2 := frozen_of_row w2 (w.heap.size + 1) 2 _ _ HZ3.out
  have u3 := frozen_of_row w2 (w.heap.size + 1) 3 _ _ HZ3.out
  have u4 := frozen_of_row w2 (w.heap.size + 1) 4 _ _ HZ3.out
  have u5 := frozen_of_row w2 (w.heap.size + 1) 5 _ _ HZ3.out
  have u6 := frozen_of_row w2 (w.heap.size + 1) 6 _ _ HZ3.out
  have u7 := frozen_of_row w2 (w.heap.size + 1) 7 _ _ HZ3.out
  have u8 := frozen_of_row w2 (w.heap.size + 1) 8 _ _ HZ3.out
  have u9 := frozen_of_row w2 (w.heap.size + 1) 9 _ _ HZ3.out
  have u10 := frozen_of_row w2 (w.heap.size + 1) 10 _ _ HZ3.out
  simp at z0 z1 z2 z3 z4 z5 z6 z7 z8 z9 z10
  go_wp2
  refine bodyPost_ret (res_two rfl _ (w.heap.size + 1) rfl x _ _ _ HE.out) rfl ?_
  exact ⟨_, _, _, _, _, _, rfl, HF.out⟩
set_option maxRecDepth 100000 in
set_option maxHeartbeats 2000000 in
theorem sGet_nil {w : World} {P : Nat → Prop} {x : SS} {o i b : Value} (h : SIn w P x o i b) (ho : x.out.length ≤ 140737488351232) (hi : x.inn.length ≤ 140737488351232) (hb : x.back.length ≤ 140737488351232) :
    Calls Tryz.prog 29 #[.agg #[.bool x.rd, .bool x.wt, .int .i64 x.mode, .int .i64 x.size, o, i, b, .int .i64 x.dir, .bool x.fin, .bool x.bad, .bool x.closed], .nilIface] w fun e w' => ∃ a1 a2 a3 k1 k2 k3, e = .returned (.tuple #[.agg #[.bool x.rd, .bool x.wt, .int .i64 x.mode, .int .i64 x.size, .slice a1 x.out.length k1, .slice a2 x.inn.length k2, .slice a3 x.back.length k3, .int .i64 x.dir, .bool x.fin, .bool x.bad, .bool x.closed], .int .u8 0, .int .i64 (x.refuse false)]) ∧ Below w.heap.size w w' := by
  have HWx := hide (fun (W : World) (hW : Below w.heap.size w W) => onWay_any x o i b P .nilIface W (h.below hW) ho hi hb (.inl rfl))
  obtain ⟨oa, oc, rfl, -⟩ := h.so
  obtain ⟨ia, ic, rfl, -⟩ := h.si
  obtain ⟨ba, bc, rfl, -⟩ := h.sb
  clear h
  have hn := refuse_nil x
  obtain ⟨r, hrq⟩ : ∃ r, x.refuse false = r := ⟨_, rfl⟩
  rw [hrq] at hn ⊢
  have HRq := hide hrq
  clear hrq
  go_enter Tryz.func29, Tryz.ntmps29
  go_wp2_with fail
  have HB0 := hide ((recv_below w (Obj.cells #[.bool x.rd, .bool x.wt, .int .i64 x.mode, .int .i64 x.size, .slice oa x.out.length oc, .slice ia x.inn.length ic, .slice ba x.back.length bc, .int .i64 x.dir, .bool x.fin, .bool x.bad, .bool x.closed] 58)).trans ((recv_below (w.alloc (Obj.cells #[.bool x.rd, .bool x.wt, .int .i64 x.mode, .int .i64 x.size, .slice oa x.out.length oc, .slice ia x.inn.length ic, .slice ba x.back.length bc, .int .i64 x.dir, .bool x.fin, .bool x.bad, .bool x.closed] 58)) (Obj.cells #[.bool false, .bool false, .int .i64 0, .int .i64 0, .slice none 0 0, .slice none 0 0, .slice none 0 0, .int .i64 0, .bool false, .bool false, .bool false] 58)).mono (recv_below w (Obj.cells #[.bool x.rd, .bool x.wt, .int .i64 x.mode, .int .i64 x.size, .slice oa x.out.length oc, .slice ia x.inn.length ic, .slice ba x.back.length bc, .int .i64 x.dir, .bool x.fin, .bool x.bad, .bool x.closed] 58)).size))
  have HZ0 : Hid (((w.alloc (Obj.cells #[.bool x.rd, .bool x.wt, .int .i64 x.mode, .int .i64 x.size, .slice oa x.out.length oc, .slice ia x.inn.length ic, .slice ba x.back.length bc, .int .i64 x.dir, .bool x.fin, .bool x.bad, .bool x.closed] 58)).alloc (Obj.cells #[.bool false, .bool false, .int .i64 0, .int .i64 0, .slice none 0 0, .slice none 0 0, .slice none 0 0, .int .i64 0, .bool false, .bool false, .bool false] 58)).heap[w.heap.size + 1]? = some (Obj.cells #[.bool false, .bool false, .int .i64 0, .int .i64 0, .slice none 0 0, .slice none 0 0, .slice none 0 0, .int .i64 0, .bool false, .bool false, .bool false] 58)) := hide (by have := heap_alloc_new (w.alloc (Obj.cells #[.bool x.rd, .bool x.wt, .int .i64 x.mode, .int .i64 x.size, .slice oa x.out.length oc, .slice ia x.inn.length ic, .slice ba x.back.length bc, .int .i64 x.dir, .bool x.fin, .bool x.bad, .bool x.closed] 58)) (Obj.cells #[.bool false, .bool false, .int .i64 0, .int .i64 0, .slice none 0 0, .slice none 0 0, .slice none 0 0, .int .i64 0, .bool false, .bool false, .bool false] 58); rw [show (w.alloc (Obj.cells #[.bool x.rd, .bool x.wt, .int .i64 x.mode, .int .i64 x.size, .slice oa x.out.length oc, .slice ia x.inn.length ic, .slice ba x.back.length bc, .int .i64 x.dir, .bool x.fin, .bool x.bad, .bool x.closed] 58)).heap.size = w.heap.size + 1 from Array.size_push ..] at this; exact this)
  generalize (w.alloc (Obj.cells #[.bool x.rd, .bool x.wt, .int .i64 x.mode, .int .i64 x.size, .slice oa x.out.length oc, .slice ia x.inn.length ic, .slice ba x.back.length bc, .int .i64 x.dir, .bool x.fin, .bool x.bad, .bool x.closed] 58)).alloc (Obj.cells #[.bool false, .bool false, .int .i64 0, .int .i64 0, .slice none 0 0, .slice none 0 0, .slice none 0 0, .int .i64 0, .bool false, .bool false, .bool false] 58) = w0 at *
  have hz0 : w.heap.size + 1 < w0.heap.size := (Array.getElem?_eq_some_iff.1 HZ0.out).1
  refine (HWx.out _ HB0.out).mono ?_
  rintro _ w1 ⟨g, o1, i1, b1, rfl, y1, y2, y3, y4, y5, y6, hB1⟩
  obtain ⟨a1, k1, rfl⟩ := owns_slice y3
  obtain ⟨a2, k2, rfl⟩ := owns_slice y4
  obtain ⟨a3, k3, rfl⟩ := owns_slice y5
  have HTu := hide (turnToReading_nil x g a1 a2 a3 k1 k2 k3 w1 y1 hi hb)
  rw [HRq.out] at HTu
  have HB1 := hide (HB0.out.trans (hB1.mono HB0.out.size))
  have hz1 := hB1.size
  have HY := hide y1
  have HZ1 := hide ((hB1.block (w.heap.size + 1) hz0).trans HZ0.out)
  clear y1 y2 y3 y4 y5 y6 hB1 HWx HB0 HZ0
  go_wp2_with fail
  refine HTu.out.mono ?_
  rintro _ w2 ⟨rfl, hB2⟩
  have hz2 := hB2.size
  obtain ⟨c0, c1, c2, c3, c4, c5, c6, c7, c8, c9, c10, c11⟩ := (HY.out.below hB2).cs
  have HZ3 := hide ((hB2.block (w.heap.size + 1) (by omega)).trans HZ1.out)
  have HB2 := hide (HB1.out.trans (hB2.mono HB1.out.size))
  obtain ⟨e1, e2⟩ := st_fill w2 (w.heap.size + 1) x (.slice a1 x.out.length k1) (.slice a2 x.inn.length k2) (.slice a3 x.back.length k3) HZ3.out
  have HE := hide e1
  have HF := hide (HB2.out.trans (e2.below (B := w.heap.size) (fun k e => by have e' : k = w.heap.size + 1 := e; omega) HB2.out.size))
  have h1 : (r == 0) = false := by simp [hn]
  have h2 : (r != 0) = true := by simp [hn]
  clear hB2 e1 e2 HTu HY HZ1 HB1
  have z0 := cell_of_row w2 (w.heap.size + 1) 0 _ _ _ HZ3.out
  have z1 := cell_of_row w2 (w.heap.size + 1) 1 _ _ _ HZ3.out
  have z2 := cell_of_row w2 (w.heap.size + 1) 2 _ _ _ HZ3.out
  have z3 := cell_of_row w2 (w.heap.size + 1) 3 _ _ _ HZ3.out
  have z4 := cell_of_row w2 (w.heap.size + 1) 4 _ _ _ HZ3.out
  have z5 := cell_of_row w2 (w.heap.size + 1) 5 _ _ _ HZ3.out
  have z6 := cell_of_row w2 (w.heap.size + 1) 6 _ _ _ HZ3.out
  have z7 := cell_of_row w2 (w.heap.size + 1) 7 _ _ _ HZ3.out
  have z8 := cell_of_row w2 (w.heap.size + 1) 8 _ _ _ HZ3.out
  have z9 := cell_of_row w2 (w.heap.size + 1) 9 _ _ _ HZ3.out
  have z10 := cell_of_row w2 (w.heap.size + 1) 10 _ _ _ HZ3.out
  have u0 := frozen_of_row w2 (w.heap.size + 1) 0 _ _ HZ3.out
  have u1 := frozen_of_row w2 (w.heap.size + 1) 1 _ _ HZ3.out
  have u2 := frozen_of_row w2 (w.heap.size + 1) 2 _ _ HZ3.out
  have u3 := frozen_of_row w2 (w.heap.size + 1) 3 _ _ HZ3.out
  have u4 := frozen_of_row w2 (w.heap.size + 1) 4 _ _ HZ3.out
  have u5 := frozen_of_row w2 (w.heap.size + 1) 5 _ _ HZ3.out
  have u6 := frozen_of_row w2 (w.heap.size + 1) 6 _ _ HZ3.out
  have u7 := frozen_of_row w2 (w.heap.size + 1) 7 _ _ HZ3.out
  have u8 := frozen_of_row w2 (w.heap.size + 1) 8 _ _ HZ3.out
  have u9 := frozen_of_row w2 (w.heap.size + 1) 9 _ _ HZ3.out
  have u10 := frozen_of_row w2 (w.heap.size + 1) 10 _ _ HZ3.out
  simp at z0 z1 z2 z3 z4 z5 z6 z7 z8 z9 z10
  go_wp2
  refine bodyPost_ret (res_three rfl _ (w.heap.size + 1) rfl x _ _ _ HE.out) rfl ?_
  exact ⟨_, _, _, _, _, _, rfl, HF.out⟩
set_option maxRecDepth 100000 in
set_option maxHeartbeats 2000000 in
theorem sFlush_nil {w : World} {P : Nat → Prop} {x : SS} {o i b : Value} (h : SIn w P x o i b) (ho : x.out.length ≤ 140737488351232) (hi : x.inn.length ≤ 140737488351232) (hb : x.back.length ≤ 140737488351232) :
    Calls Tryz.prog 30 #[.agg #[.bool x.rd, .bool x.wt, .int .i64 x.mode, .int .i64 x.size, o, i, b, .int .i64 x.dir, .bool x.fin, .bool x.bad, .bool x.closed], .nilIface] w fun e w' => ∃ a1 a2 a3 k1 k2 k3, e = .returned (.tuple #[.agg #[.bool x.rd, .bool x.wt, .int .i64 x.mode, .int .i64 x.size, .slice a1 x.out.length k1, .slice a2 x.inn.length k2, .slice a3 x.back.length k3, .int .i64 x.dir, .bool x.fin, .bool x.bad, .bool x.closed], .int .i64 (x.refuse false)]) ∧ Below w.heap.size w w' := by
  have HWx := hide (fun (W : World) (hW : Below w.heap.size w W) => onWay_any x o i b P .nilIface W (h.below hW) ho hi hb (.inl rfl))
  obtain ⟨oa, oc, rfl, -⟩ := h.so
  obtain ⟨ia, ic, rfl, -⟩ := h.si
  obtain ⟨ba, bc, rfl, -⟩ := h.sb
  clear h
  have hn := refuse_nil x
  obtain ⟨r, hrq⟩ : ∃ r, x.refuse false = r := ⟨_, rfl⟩
  rw [hrq] at hn ⊢
  have HRq := hide hrq
  clear hrq
  go_enter Tryz.func30, Tryz.ntmps30
  go_wp2_with fail
  have HB0 := hide ((recv_below w (Obj.cells #[.bool x.rd, .bool x.wt, .int .i64 x.mode, .int .i64 x.size, .slice oa x.out.length oc, .slice ia x.inn.length ic, .slice ba x.back.length bc, .int .i64 x.dir, .bool x.fin, .bool x.bad, .bool x.closed] 58)).trans ((recv_below (w.alloc (Obj.cells #[.bool x.rd, .bool x.wt, .int .i64 x.mode, .int .i64 x.size, .slice oa x.out.length oc, .slice ia x.inn.length ic, .slice ba x.back.length bc, .int .i64 x.dir, .bool x.fin, .bool x.bad, .bool x.closed] 58)) (Obj.cells #[.bool false, .bool false, .int .i64 0, .int .i64 0, .slice none 0 0, .slice none 0 0, .slice none 0 0, .int .i64 0, .bool false, .bool false, .bool false] 58)).mono (recv_below w (Obj.cells #[.bool x.rd, .bool x.wt, .int .i64 x.mode, .int .i64 x.size, .slice oa x.out.length oc, .slice ia x.inn.length ic, .slice ba x.back.length bc, .int .i64 x.dir, .bool x.fin, .bool x.bad, .bool x.closed] 58)).size))
  have HZ0 : Hid (((w.alloc (Obj.cells #[.bool x.rd, .bool x.wt, .int .i64 x.mode, .int .i64 x.size, .slice oa x.out.length oc, .slice ia x.inn.length ic, .slice ba x.back.length bc, .int .i64 x.dir, .bool x.fin, .bool x.bad, .bool x.closed] 58)).alloc (Obj.cells #[.bool false, .bool false, .int .i64 0, .int .i64 0, .slice none 0 0, .slice none 0 0, .slice none 0 0, .int .i64 0, .bool false, .bool false, .bool false] 58)).heap[w.heap.size + 1]? = some (Obj.cells #[.bool false, .bool false, .int .i64 0, .int .i64 0, .slice none 0 0, .slice none 0 0, .slice none 0 0, .int .i64 0, .bool false, .bool false, .bool false] 58)) := hide (by have := heap_alloc_new (w.alloc (Obj.cells #[.bool x.rd, .bool x.wt, .int .i64 x.mode, .int .i64 x.size, .slice oa x.out.length oc, .slice ia x.inn.length ic, .slice ba x.back.length bc, .int .i64 x.dir, .bool x.fin, .bool x.bad, .bool x.closed] 58)) (Obj.cells #[.bool false, .bool false, .int .i64 0, .int .i64 0, .slice none 0 0, .slice none 0 0, .slice none 0 0, .int .i64 0, .bool false, .bool false, .bool false] 58); rw [show (w.alloc (Obj.cells #[.bool x.rd, .bool x.wt, .int .i64 x.mode, .int .i64 x.size, .slice oa x.out.length oc, .slice ia x.inn.length ic, .slice ba x.back.length bc, .int .i64 x.dir, .bool x.fin, .bool x.bad, .bool x.closed] 58)).heap.size = w.heap.size + 1 from Array.size_push ..] at this; exact this)
  generalize (w.alloc (Obj.cells #[.bool x.rd, .bool x.wt, .int .i64 x.mode, .int .i64 x.size, .slice oa x.out.length oc, .slice ia x.inn.length ic, .slice ba x.back.length bc, .int .i64 x.dir, .bool x.fin, .bool x.bad, .bool x.closed] 58)).alloc (Obj.cells #[.bool false, .bool false, .int .i64 0, .int .i64 0, .slice none 0 0, .slice none 0 0, .slice none 0 0, .int .i64 0, .bool false, .bool false, .bool false] 58) = w0 at *
  have hz0 : w.heap.size + 1 < w0.heap.size := (Array.getElem?_eq_some_iff.1 HZ0.out).1
  refine (HWx.out _ HB0.out).mono ?_
  rintro _ w1 ⟨g, o1, i1, b1, rfl, y1, y2, y3, y4, y5, y6, hB1⟩
  obtain ⟨a1, k1, rfl⟩ := owns_slice y3
  obtain ⟨a2, k2, rfl⟩ := owns_slice y4
  obtain ⟨a3, k3, rfl⟩ := owns_slice y5
  have HTu := hide (wrefusal_nil x g a1 a2 a3 k1 k2 k3 w1 y1 hi hb)
  rw [HRq.out] at HTu
  have HB1 := hide (HB0.out.trans (hB1.mono HB0.out.size))
  have hz1 := hB1.size
  have HY := hide y1
  have HZ1 := hide ((hB1.block (w.heap.size + 1) hz0).trans HZ0.out)
  clear y1 y2 y3 y4 y5 y6 hB1 HWx HB0 HZ0
  go_wp2_with fail
  refine HTu.out.mono ?_
  rintro _ w2 ⟨rfl, hB2⟩
  have hz2 := hB2.size
  obtain ⟨c0, c1, c2, c3, c4, c5, c6, c7, c8, c9, c10, c11⟩ := (HY.out.below hB2).cs
  have HZ3 := hide ((hB2.block (w.heap.size + 1) (by omega)).trans HZ1.out)
  have HB2 := hide (HB1.out.trans (hB2.mono HB1.out.size))
  obtain ⟨e1, e2⟩ := st_fill w2 (w.heap.size + 1) x (.slice a1 x.out.length k1) (.slice a2 x.inn.length k2) (.slice a3 x.back.length k3) HZ3.out
  have HE := hide e1
  have HF := hide (HB2.out.trans (e2.below (B := w.heap.size) (fun k e => by have e' : k = w.heap.size + 1 := e; omega) HB2.out.size))
  have h1 : (r == 0) = false := by simp [hn]
  have h2 : (r != 0) = true := by simp [hn]
  clear hB2 e1 e2 HTu HY HZ1 HB1
  have z0 := cell_of_row w2 (w.heap.size + 1) 0 _ _ _ HZ3.out
  have z1 := cell_of_row w2 (w.heap.size + 1) 1 _ _ _ HZ3.out
  have z2 := cell_of_row w2 (w.heap.size + 1) 2 _ _ _ HZ3.out
  have z3 := cell_of_row w2 (w.heap.size + 1) 3 _ _ _ HZ3.out
  have z4 := cell_of_row w2 (w.heap.size + 1) 4 _ _ _ HZ3.out
  have z5 := cell_of_row w2 (w.heap.size + 1) 5 _ _ _ HZ3.out
  have z6 := cell_of_row w2 (w.heap.size + 1) 6 _ _ _ HZ3.out
  have z7 := cell_of_row w2 (w.heap.size + 1) 7 _ _ _ HZ3.out
  have z8 := cell_of_row w2 (w.heap.size + 1) 8 _ _ _ HZ3.out
  have z9 := cell_of_row w2 (w.heap.size + 1) 9 _ _ _ HZ3.out
  have z10 := cell_of_row w2 (w.heap.size + 1) 10 _ _ _ HZ3.out
  have u0 := frozen_of_row w2 (w.heap.size + 1) 0 _ _ HZ3.out
  have u1 := frozen_of_row w2 (w.heap.size + 1) 1 _ _ HZ3.out
  have u2 := frozen_of_row w2 (w.heap.size + 1) 2 _ _ HZ3.out
  have u3 := frozen_of_row w2 (w.heap.size + 1) 3 _ _ HZ3.out
  have u4 := frozen_of_row w2 (w.heap.size + 1) 4 _ _ HZ3.out
  have u5 := frozen_of_row w2 (w.heap.size + 1) 5 _ _ HZ3.out
  have u6 := frozen_of_row w2 (w.heap.size + 1) 6 _ _ HZ3.out
  have u7 := frozen_of_row w2 (w.heap.size + 1) 7 _ _ HZ3.out
  have u8 := frozen_of_row w2 (w.heap.size + 1) 8 _ _ HZ3.out
  have u9 := frozen_of_row w2 (w.heap.size + 1) 9 _ _ HZ3.out
  have u10 := frozen_of_row w2 (w.heap.size + 1) 10 _ _ HZ3.out
  simp at z0 z1 z2 z3 z4 z5 z6 z7 z8 z9 z10
  go_wp2
  refine bodyPost_ret (res_two rfl _ (w.heap.size + 1) rfl x _ _ _ HE.out) rfl ?_
  exact ⟨_, _, _, _, _, _, rfl, HF.out⟩
set_option maxRecDepth 100000 in
set_option maxHeartbeats 2000000 in
theorem sClose_nil {w : World} {P : Nat → Prop} {x : SS} {o i b : Value} (h : SIn w P x o i b) (ho : x.out.length ≤ 140737488351232) (hi : x.inn.length ≤ 140737488351232) (hb : x.back.length ≤ 140737488351232) :
    Calls Tryz.prog 31 #[.agg #[.bool x.rd, .bool x.wt, .int .i64 x.mode, .int .i64 x.size, o, i, b, .int .i64 x.dir, .bool x.fin, .bool x.bad, .bool x.closed], .nilIface] w fun e w' => ∃ a1 a2 a3 k1 k2 k3, e = .returned (.tuple #[.agg #[.bool x.rd, .bool x.wt, .int .i64 x.mode, .int .i64 x.size, .slice a1 x.out.length k1, .slice a2 x.inn.length k2, .slice a3 x.back.length k3, .int .i64 x.dir, .bool x.fin, .bool x.bad, .bool x.closed], .int .i64 (x.refuse false)]) ∧ Below w.heap.size w w' := by
  have HWx := hide (fun (W : World) (hW : Below w.heap.size w W) => onWay_any x o i b P .nilIface W (h.below hW) ho hi hb (.inl rfl))
  obtain ⟨oa, oc, rfl, -⟩ := h.so
  obtain ⟨ia, ic, rfl, -⟩ := h.si
  obtain ⟨ba, bc, rfl, -⟩ := h.sb
  clear h
  have hn := refuse_nil x
  obtain ⟨r, hrq⟩ : ∃ r, x.refuse false = r := ⟨_, rfl⟩
  rw [hrq] at hn ⊢
  have HRq := hide hrq
  clear hrq
  go_enter Tryz.func31, Tryz.ntmps31
  go_wp2_with fail
  have HB0 := hide ((recv_below w (Obj.cells #[.bool x.rd, .bool x.wt, .int .i64 x.mode, .int .i64 x.size, .slice oa x.out.length oc, .slice ia x.inn.length ic, .slice ba x.back.length bc, .int .i64 x.dir, .bool x.fin, .bool x.bad, .bool x.closed] 58)).trans ((recv_below (w.alloc (Obj.cells #[.bool x.rd, .bool x.wt, .int .i64 x.mode, .int .i64 x.size, .slice oa x.out.length oc, .slice ia x.inn.length ic, .slice ba x.back.length bc, .int .i64 x.dir, .bool x.fin, .bool x.bad, .bool x.closed] 58)) (Obj.cells #[.bool false, .bool false, .int .i64 0, .int .i64 0, .slice none 0 0, .slice none 0 0, .slice none 0 0, .int .i64 0, .bool false, .bool false, .bool false] 58)).mono (recv_below w (Obj.cells #[.bool x.rd, .bool x.wt, .int .i64 x.mode, .int .i64 x.size, .slice oa x.out.length oc, .slice ia x.inn.length ic, .slice ba x.back.length bc, .int .i64 x.dir, .bool x.fin, .bool x.bad, .bool x.closed] 58)).size))
  have HZ0 : Hid (((w.alloc (Obj.cells #[.bool x.rd, .bool x.wt, .int .i64 x.mode, .int .i64 x.size, .slice oa x.out.length oc, .slice ia x.inn.length ic, .slice ba x.back.length bc, .int .i64 x.dir, .bool x.fin, .bool x.bad, .bool x.closed] 58)).alloc (Obj.cells #[.bool false, .bool false, .int .i64 0, .int .i64 0, .slice none 0 0, .slice none 0 0, .slice none 0 0, .int .i64 0, .bool false, .bool false, .bool false] 58)).heap[w.heap.size + 1]? = some (Obj.cells #[.bool false, .bool false, .int .i64 0, .int .i64 0, .slice none 0 0, .slice none 0 0, .slice none 0 0, .int .i64 0, .bool false, .bool false, .bool false] 58)) := hide (by have := heap_alloc_new (w.alloc (Obj.cells #[.bool x.rd, .bool x.wt, .int .i64 x.mode, .int .i64 x.size, .slice oa x.out.length oc, .slice ia x.inn.length ic, .slice ba x.back.length bc, .int .i64 x.dir, .bool x.fin, .bool x.bad, .bool x.closed] 58)) (Obj.cells #[.bool false, .bool false, .int .i64 0, .int .i64 0, .slice none 0 0, .slice none 0 0, .slice none 0 0, .int .i64 0, .bool false, .bool false, .bool false] 58); rw [show (w.alloc (Obj.cells #[.bool x.rd, .bool x.wt, .int .i64 x.mode, .int .i64 x.size, .slice oa x.out.length oc, .slice ia x.inn.length ic, .slice ba x.back.length bc, .int .i64 x.dir, .bool x.fin, .bool x.bad, .bool x.closed] 58)).heap.size = w.heap.size + 1 from Array.size_push ..] at this; exact this)
  generalize (w.alloc (Obj.cells #[.bool x.rd, .bool x.wt, .int .i64 x.mode, .int .i64 x.size, .slice oa x.out.length oc, .slice ia x.inn.length ic, .slice ba x.back.length bc, .int .i64 x.dir, .bool x.fin, .bool x.bad, .bool x.closed] 58)).alloc (Obj.cells #[.bool false, .bool false, .int .i64 0, .int .i64 0, .slice none 0 0, .slice none 0 0, .slice none 0 0, .int .i64 0, .bool false, .bool false, .bool false] 58) = w0 at *
  have hz0 : w.heap.size + 1 < w0.heap.size := (Array.getElem?_eq_some_iff.1 HZ0.out).1
  refine (HWx.out _ HB0.out).mono ?_
  rintro _ w1 ⟨g, o1, i1, b1, rfl, y1, y2, y3, y4, y5, y6, hB1⟩
  obtain ⟨a1, k1, rfl⟩ := owns_slice y3
  obtain ⟨a2, k2, rfl⟩ := owns_slice y4
  obtain ⟨a3, k3, rfl⟩ := owns_slice y5
  have HTu := hide (wrefusal_nil x g a1 a2 a3 k1 k2 k3 w1 y1 hi hb)
  rw [HRq.out] at HTu
  have HB1 := hide (HB0.out.trans (hB1.mono HB0.out.size))
  have hz1 := hB1.size
  have HY := hide y1
  have HZ1 := hide ((hB1.block (w.heap.size + 1) hz0).trans HZ0.out)
  clear y1 y2 y3 y4 y5 y6 hB1 HWx HB0 HZ0
  go_wp2_with fail
  refine HTu.out.mono ?_
  rintro _ w2 ⟨rfl, hB2⟩
  have hz2 := hB2.size
  obtain ⟨c0, c1, c2, c3, c4, c5, c6, c7, c8, c9, c10, c11⟩ := (HY.out.below hB2).cs
  have HZ3 := hide ((hB2.block (w.heap.size + 1) (by omega)).trans HZ1.out)
  have HB2 := hide (HB1.out.trans (hB2.mono HB1.out.size))
  obtain ⟨e1, e2⟩ := st_fill w2 (w.heap.size + 1) x (.slice a1 x.out.length k1) (.slice a2 x.inn.length k2) (.slice a3 x.back.length k3) HZ3.out
  have HE := hide e1
  have HF := hide (HB2.out.trans (e2.below (B := w.heap.size) (fun k e => by have e' : k = w.heap.size + 1 := e; omega) HB2.out.size))
  have h1 : (r == 0) = false := by simp [hn]
  have h2 : (r != 0) = true := by simp [hn]
  clear hB2 e1 e2 HTu HY HZ1 HB1
  have z0 := cell_of_row w2 (w.heap.size + 1) 0 _ _ _ HZ3.out
  have z1 := cell_of_row w2 (w.heap.size + 1) 1 _ _ _ HZ3.out
  have z2 := cell_of_row w2 (w.heap.size + 1) 2 _ _ _ HZ3.out
  have z3 := cell_of_row w2 (w.heap.size + 1) 3 _ _ _ HZ3.out
  have z4 := cell_of_row w2 (w.heap.size + 1) 4 _ _ _ HZ3.out
  have z5 := cell_of_row w2 (w.heap.size + 1) 5 _ _ _ HZ3.out
  have z6 := cell_of_row w2 (w.heap.size + 1) 6 _ _ _ HZ3.out
  have z7 := cell_of_row w2 (w.heap.size + 1) 7 _ _ _ HZ3.out
  have z8 := cell_of_row w2 (w.heap.size + 1) 8 _ _ _ HZ3.out
  have z9 := cell_of_row w2 (w.heap.size + 1) 9 _ _ _ HZ3.out
  have z10 := cell_of_row w2 (w.heap.size + 1) 10 _ _ _ HZ3.out
  have u0 := frozen_of_row w2 (w.heap.size + 1) 0 _ _ HZ3.out
  have u1 := frozen_of_row w2 (w.heap.size + 1) 1 _ _ HZ3.out
  have u2 := frozen_of_row w2 (w.heap.size + 1) 2 _ _ HZ3.out
  have u3 := frozen_of_row w2 (w.heap.size + 1) 3 _ _ HZ3.out
  have u4 := frozen_of_row w2 (w.heap.size + 1) 4 _ _ HZ3.out
  have u5 := frozen_of_row w2 (w.heap.size + 1) 5 _ _ HZ3.out
  have u6 := frozen_of_row w2 (w.heap.size + 1) 6 _ _ HZ3.out
  have u7 := frozen_of_row w2 (w.heap.size + 1) 7 _ _ HZ3.out
  have u8 := frozen_of_row w2 (w.heap.size + 1) 8 _ _ HZ3.out
  have u9 := frozen_of_row w2 (w.heap.size + 1) 9 _ _ HZ3.out
  have u10 := frozen_of_row w2 (w.heap.size + 1) 10 _ _ HZ3.out
  simp at z0 z1 z2 z3 z4 z5 z6 z7 z8 z9 z10
  go_wp2
  refine bodyPost_ret (res_two rfl _ (w.heap.size + 1) rfl x _ _ _ HE.out) rfl ?_
  exact ⟨_, _, _, _, _, _, rfl, HF.out⟩
end Go.Proofs.YtdmkjbdlidadiaaGreat

/- Streams: what follows a call may be too; how many calls of retry it takes. -/
namespace Go.Proofs.YtdmkjbdlidadiaaGreat
open Go.RowKit

theorem may_iff (x : SS) : x.may = true ↔ 1 ≤ x.mode ∧ x.mode ≤ 3 ∧ 1 ≤ x.size ∧ x.size ≤ 65536 ∧ (x.out.length : Int) ≤ x.size ∧ (x.mode = 1 → x.out.length = 0) ∧ x.inn.length ≤ 65536 ∧ x.back.length ≤ 8 ∧
    ((x.dir = 0 ∧ x.out.length = 0 ∧ x.inn.length + x.back.length = 0) ∨ (x.dir = 1 ∧ x.rd = true ∧ x.out.length = 0 ∧ x.closed = false) ∨ (x.dir = 2 ∧ x.wt = true ∧ x.inn.length + x.back.length = 0 ∧ x.closed = false)) := by
  unfold SS.may SS.buf SS.way SS.toR SS.toW
  simp only [Bool.and_eq_true, decide_eq_true_eq]
  constructor
  · rintro ⟨⟨⟨⟨⟨⟨h1, h2⟩, h3, h4⟩, h5⟩, h6⟩, h7⟩, h8⟩
    have h9 : (x.out.length : Int) ≤ x.size ∧ (x.mode = 1 → x.out.length = 0) := by split at h5 <;> (refine ⟨by omega, fun _ => by omega⟩)
    refine ⟨h1, h2, h3, h4, h9.1, h9.2, by omega, by omega, ?_⟩
    split at h8
    · simp at h8; exact .inl ⟨by assumption, by rw [h8.2]; rfl, by omega⟩
    split at h8
    · simp at h8; exact .inr (.inl ⟨by assumption, h8.1.1, by rw [h8.1.2]; rfl, h8.2⟩)
    split at h8
    · simp at h8; exact .inr (.inr ⟨by assumption, h8.1.1, by omega, h8.2⟩)
    · simp at h8
  · rintro ⟨h1, h2, h3, h4, h5, h6, h7, h8, h9⟩
    refine ⟨⟨⟨⟨⟨⟨h1, h2⟩, h3, h4⟩, ?_⟩, by omega⟩, by omega⟩, ?_⟩
    · split
      · have := h6 (by assumption); omega
      · exact h5
    · rcases h9 with ⟨e, e1, e2⟩ | ⟨e, e1, e2, e3⟩ | ⟨e, e1, e2, e3⟩
      · rw [if_pos e]; simp; exact ⟨by omega, List.length_eq_zero_iff.1 e1⟩
      · rw [if_neg (by omega), if_pos e, e1, e3]; simp; exact List.length_eq_zero_iff.1 e2
      · rw [if_neg (by omega), if_neg (by omega), if_pos e, e1, e3]; simp; omega
theorem some_le {S : Type} (D : RawD S) (n : Nat) : ∀ k s, (someV D n k s).1.length ≤ n
  | 0, s => Nat.zero_le _
  | k + 1, s => by
    rw [someV_next D n k s (b := (D.read s n).1) (e := (D.read s n).2.1) (s2 := (D.read s n).2.2) rfl]
    split
    · exact some_le D n k _
    split
    · exact Nat.zero_le _
    split
    · rename_i h _
      exact Nat.le_of_not_lt h
    · exact Nat.zero_le _
theorem mark_may (x : SS) (e : Int) : (x.mark e).may = x.may := by
  unfold SS.mark
  split <;> rfl
theorem mark_out (x : SS) (e : Int) : (x.mark e).out = x.out := by
  unfold SS.mark
  split <;> rfl
theorem deliver_may {S : Type} (D : RawD S) {x : SS} (s : S) (h : x.may = true) : (x.deliver D s).1.may = true ∧ (x.deliver D s).1.out.length ≤ x.out.length := by
  have hl : (x.out.drop (putV D x.out (putF x.out) s 0 0).1).length ≤ x.out.length := by rw [List.length_drop]; omega
  have ho := deliver_out D x s
  refine ⟨?_, by rw [ho]; exact hl⟩
  unfold SS.deliver
  simp only [mark_may]
  obtain ⟨h1, h2, h3, h4, h5, h6, h7, h8, h9⟩ := (may_iff x).1 h
  refine (may_iff _).2 ⟨h1, h2, h3, h4, ?_, ?_, h7, h8, ?_⟩
  · simp only; omega
  · intro e; have := h6 e; simp only; omega
  · simp only
    rcases h9 with ⟨e1, e2, e3⟩ | ⟨e1, e2, e3, e4⟩ | ⟨e1, e2, e3, e4⟩
    · exact .inl ⟨e1, by omega, e3⟩
    · exact .inr (.inl ⟨e1, e2, by omega, e4⟩)
    · exact .inr (.inr ⟨e1, e2, e3, e4⟩)
theorem wr_may {x : SS} (h : x.noWrite = 0) : ({ x with dir := 2 } : SS).may = true ∧ x.closed = false := by
  obtain ⟨n1, n2⟩ := noWrite_may h
  obtain ⟨m1, -, m3⟩ := refuse_may n1
  obtain ⟨h1, h2, h3, h4, h5, h6, h7, h8, h9⟩ := (may_iff x).1 m1
  refine ⟨(may_iff _).2 ⟨h1, h2, h3, h4, h5, h6, h7, h8, .inr (.inr ⟨rfl, n2, ?_, m3⟩)⟩, m3⟩
  show x.inn.length + x.back.length = 0
  unfold SS.noWrite at h
  rw [if_neg (by simp [n1]), if_neg (by simp [n2])] at h
  by_cases hd : x.dir = 1 ∧ ¬ (x.fin = true ∧ (x.inn.length : Int) + (x.back.length : Int) = 0)
  · rw [if_pos hd] at h; omega
  rcases h9 with ⟨e1, e2, e3⟩ | ⟨e1, e2, e3, e4⟩ | ⟨e1, e2, e3, e4⟩
  · exact e3
  · by_cases he : x.fin = true ∧ (x.inn.length : Int) + (x.back.length : Int) = 0
    · have := he.2; omega
    · exact absurd ⟨e1, he⟩ hd
  · exact e3
theorem rd_may {x : SS} (h : x.noRead = 0) : ({ x with dir := 1 } : SS).may = true ∧ x.closed = false ∧ x.out.length = 0 := by
  obtain ⟨n1, n2, n3⟩ := noRead_may h
  obtain ⟨m1, -, m3⟩ := refuse_may n1
  obtain ⟨h1, h2, h3, h4, h5, h6, h7, h8, h9⟩ := (may_iff x).1 m1
  have ho : x.out.length = 0 := by
    rcases h9 with ⟨e1, e2, e3⟩ | ⟨e1, e2, e3, e4⟩ | ⟨e1, e2, e3, e4⟩
    · exact e2
    · exact e3
    · exact absurd e1 n3
  exact ⟨(may_iff _).2 ⟨h1, h2, h3, h4, h5, h6, h7, h8, .inr (.inl ⟨rfl, n2, ho, m3⟩)⟩, m3, ho⟩
theorem lay_may {S : Type} (D : RawD S) {x : SS} (s : S) (c : UInt8) (h : x.may = true) (hd : x.dir = 2) (hm : x.mode ≠ 1) (hl : (x.out.length : Int) < x.size) : (x.lay D s c).1.may = true ∧ (x.lay D s c).1.out.length ≤ x.out.length + 1 := by
  obtain ⟨h1, h2, h3, h4, h5, h6, h7, h8, h9⟩ := (may_iff x).1 h
  have hx : ({ x with out := x.out ++ [c] } : SS).may = true := by
    refine (may_iff _).2 ⟨h1, h2, h3, h4, ?_, fun e => absurd e hm, h7, h8, ?_⟩
    · simp only [List.length_append, List.length_singleton]; omega
    · rcases h9 with ⟨e1, _⟩ | ⟨e1, _⟩ | e
      · omega
      · omega
      · exact .inr (.inr e)
  unfold SS.lay
  split
  · obtain ⟨q1, q2⟩ := deliver_may D s hx
    exact ⟨q1, by simpa using q2⟩
  · exact ⟨hx, by simp⟩
theorem put_may {S : Type} (D : RawD S) {x : SS} (s : S) (c : UInt8) (h : x.may = true) : (x.put D s c).1.may = true ∧ (x.put D s c).1.out.length ≤ x.out.length + 1 := by
  unfold SS.put
  split
  case isFalse => exact ⟨h, Nat.le_succ _⟩
  case isTrue hn =>
    obtain ⟨hw, -⟩ := wr_may hn
    generalize hy : ({ x with dir := 2 } : SS) = y at *
    have ho : y.out = x.out := by rw [← hy]
    have hd : y.dir = 2 := by rw [← hy]
    rw [← ho]
    unfold SS.put1
    split
    · exact ⟨by rw [mark_may]; exact hw, by rw [mark_out]; omega⟩
    rename_i hm
    split
    · rename_i hf
      split
      · rename_i h0
        obtain ⟨q1, q2⟩ := deliver_may D s hw
        have e := deliver_ok D y s h0
        have h3 := ((may_iff y).1 hw).2.2.1
        have := lay_may D (x := (y.deliver D s).1) (y.deliver D s).2.2 c q1 (by rw [e]; exact hd) (by rw [e]; exact hm) (by rw [e]; simp only [List.length_nil]; omega)
        exact ⟨this.1, by have := this.2; omega⟩
      · obtain ⟨q1, q2⟩ := deliver_may D s hw
        exact ⟨q1, by omega⟩
    · rename_i hf
      have h5 := ((may_iff y).1 hw).2.2.2.2.1
      exact lay_may D s c hw hd hm (by omega)
theorem get_may {S : Type} (D : RawD S) {x : SS} (s : S) (h : x.may = true) : (x.get D s).1.may = true ∧ (x.get D s).1.out = x.out := by
  unfold SS.get
  split
  case isFalse => exact ⟨h, rfl⟩
  case isTrue hn =>
    obtain ⟨hw, hc, ho⟩ := rd_may hn
    have hq : ({ x with dir := 1 } : SS).out = x.out := rfl
    have hd : ({ x with dir := 1 } : SS).dir = 1 := rfl
    generalize ({ x with dir := 1 } : SS) = y at *
    obtain ⟨h1, h2, h3, h4, h5, h6, h7, h8, h9⟩ := (may_iff y).1 hw
    have h9' : (y.dir = 1 ∧ y.rd = true ∧ y.out.length = 0 ∧ y.closed = false) := by
      rcases h9 with ⟨e1, _⟩ | e | ⟨e1, _⟩
      · omega
      · exact e
      · omega
    unfold SS.get1
    split
    · refine ⟨(may_iff _).2 ⟨h1, h2, h3, h4, h5, h6, h7, ?_, .inr (.inl h9')⟩, hq⟩
      simp only [List.length_dropLast]; omega
    split
    · refine ⟨(may_iff _).2 ⟨h1, h2, h3, h4, h5, h6, ?_, h8, .inr (.inl h9')⟩, hq⟩
      simp only [List.length_drop]; omega
    split
    · exact ⟨hw, hq⟩
    split
    · exact ⟨by rw [mark_may]; exact hw, by rw [mark_out]; exact hq⟩
    split
    · exact ⟨(may_iff _).2 ⟨h1, h2, h3, h4, h5, h6, h7, h8, .inr (.inl h9')⟩, hq⟩
    · refine ⟨(may_iff _).2 ⟨h1, h2, h3, h4, h5, h6, ?_, h8, .inr (.inl h9')⟩, hq⟩
      have hl := some_le D y.most 8192 s
      have hm : y.most ≤ 65536 := by unfold SS.most; split <;> omega
      simp only [List.length_drop]
      omega
theorem refuse_not {x : SS} (h : x.may = false) (b : Bool) : x.refuse b ≠ 0 := by
  unfold SS.refuse
  rw [if_pos h]
  decide
theorem put_not {S : Type} (D : RawD S) {x : SS} (s : S) (c : UInt8) (h : x.may = false) : (x.put D s c).1 = x := by
  unfold SS.put
  rw [if_neg]
  intro e
  exact refuse_not h true (noWrite_may e).1
theorem get_not {S : Type} (D : RawD S) {x : SS} (s : S) (h : x.may = false) : (x.get D s).1 = x := by
  unfold SS.get
  rw [if_neg]
  intro e
  exact refuse_not h true (noRead_may e).1
theorem may_lens {x y : SS} {L : Nat} (hL : 65536 ≤ L) (h : x.may = true → y.may = true) (h' : x.may = false → y = x) (ho : x.out.length ≤ L) (hi : x.inn.length ≤ L) (hb : x.back.length ≤ L) : y.out.length ≤ L ∧ y.inn.length ≤ L ∧ y.back.length ≤ L := by
  cases hm : x.may
  · rw [h' hm]; exact ⟨ho, hi, hb⟩
  · obtain ⟨m1, m2, m3, m4, m5, m6, m7, m8⟩ := may_buf (h hm)
    exact ⟨by omega, by omega, by omega⟩
theorem get_bear {S : Type} {D : RawD S} {rok wok : S → Prop} {G : Nat → S → Prop} (hG : Bears D rok wok G) {n : Nat} {s : S} (x : SS) (h : G (n + 2) s) : G n (x.get D s).2.2.2 := by
  have hn := hG.less _ _ (hG.less _ _ h)
  unfold SS.get
  split
  case isFalse => exact hn
  case isTrue hr =>
    have hy := (rd_may hr).1
    generalize ({ x with dir := 1 } : SS) = y at *
    obtain ⟨h1, h2, h3, h4, h5, h6, h7, h8, h9⟩ := (may_iff y).1 hy
    have hs := hG.less _ _ (hG.some (n + 1) s y.most h (by unfold SS.most; split <;> omega) (by unfold SS.most; split <;> omega)).2
    unfold SS.get1
    split
    · exact hn
    split
    · exact hn
    split
    · exact hn
    split
    · exact hs
    split <;> exact hs
end Go.Proofs.YtdmkjbdlidadiaaGreat

/- Streams: the reference's Check, Begin. -/
namespace Go.Proofs.YtdmkjbdlidadiaaGreat
open Go.RowKit

set_option maxRecDepth 100000 in
set_option maxHeartbeats 8000000 in
theorem rcheck11_any (x : SS) (oa ia ba : Option Addr) (oc ic bc : Nat) (w : World) (hi : x.inn.length ≤ 140737488351232) (hb : x.back.length ≤ 140737488351232) :
    Calls Tryz.prog 24 #[.agg #[.bool x.rd, .bool x.wt, .int .i64 x.mode, .int .i64 x.size, .slice oa x.out.length oc, .slice ia x.inn.length ic, .slice ba x.back.length bc, .int .i64 x.dir, .bool x.fin, .bool x.bad, .bool x.closed]] w fun e w' => e = .returned (.int .i64 (if x.may = true then 0 else 51)) ∧ Below w.heap.size w w' := by
  generalize hr : (if x.may = true then (0 : Int) else 51) = r
  have HR := hide hr
  clear hr
  go_enter Tryz.func24, Tryz.ntmps24
  go_upto_region 1 with fail
  have HB0 := hide (recv_below w (Obj.cells #[.bool x.rd, .bool x.wt, .int .i64 x.mode, .int .i64 x.size, .slice oa x.out.length oc, .slice ia x.inn.length ic, .slice ba x.back.length bc, .int .i64 x.dir, .bool x.fin, .bool x.bad, .bool x.closed] 52))
  have HS0 := hide (RSt.new w x (.slice oa x.out.length oc) (.slice ia x.inn.length ic) (.slice ba x.back.length bc))
  generalize w.alloc (Obj.cells #[.bool x.rd, .bool x.wt, .int .i64 x.mode, .int .i64 x.size, .slice oa x.out.length oc, .slice ia x.inn.length ic, .slice ba x.back.length bc, .int .i64 x.dir, .bool x.fin, .bool x.bad, .bool x.closed] 52) = w0 at *
  obtain ⟨c0, c1, c2, c3, c4, c5, c6, c7, c8, c9, c10⟩ := HS0.out.cs
  clear HS0
  obtain ⟨rd, wt, mode, size, out, inn, back, dir, fin, bad, closed⟩ := x
  simp only at HR hi hb c0 c1 c2 c3 c4 c5 c6 c7 c8 c9 c10 ⊢
  by_cases a0 : 1 ≤ mode
  case neg =>
    · have HN : Hid (51 = r) := hide (by rw [← HR.out]; refine (if_neg ?_).symm; intro h; have h := (may_iff _).1 h; dsimp only at h; obtain ⟨h1, h2, h3, h4, h5, h6, h7, h8, h9⟩ := h; first | omega | (have := h6 rfl; simp at this; done) | (rcases h9 with ⟨e, e1, e2⟩ | ⟨e, e1, e2, e3⟩ | ⟨e, e1, e2, e3⟩ <;> first | omega | (simp at e1; done) | (simp at e2; done) | (simp at e3; done)))
      clear HR
      go_wp2
      go_ret
      exact ⟨by rw [← HN.out]; rfl, HB0.out⟩
  by_cases a1 : mode ≤ 3
  case neg =>
    · have HN : Hid (51 = r) := hide (by rw [← HR.out]; refine (if_neg ?_).symm; intro h; have h := (may_iff _).1 h; dsimp only at h; obtain ⟨h1, h2, h3, h4, h5, h6, h7, h8, h9⟩ := h; first | omega | (have := h6 rfl; simp at this; done) | (rcases h9 with ⟨e, e1, e2⟩ | ⟨e, e1, e2, e3⟩ | ⟨e, e1, e2, e3⟩ <;> first | omega | (simp at e1; done) | (simp at e2; done) | (simp at e3; done)))
      clear HR
      go_wp2
      go_ret
      exact ⟨by rw [← HN.out]; rfl, HB0.out⟩
  by_cases a2 : 1 ≤ size
  case neg =>
    · have HN : Hid (51 = r) := hide (by rw [← HR.out]; refine (if_neg ?_).symm; intro h; have h := (may_iff _).1 h; dsimp only at h; obtain ⟨h1, h2, h3, h4, h5, h6, h7, h8, h9⟩ := h; first | omega | (have := h6 rfl; simp at this; done) | (rcases h9 with ⟨e, e1, e2⟩ | ⟨e, e1, e2, e3⟩ | ⟨e, e1, e2, e3⟩ <;> first | omega | (simp at e1; done) | (simp at e2; done) | (simp at e3; done)))
      clear HR
      go_wp2
      go_ret
      exact ⟨by rw [← HN.out]; rfl, HB0.out⟩
  by_cases a3 : size ≤ 65536
  case neg =>
    · have HN : Hid (51 = r) := hide (by rw [← HR.out]; refine (if_neg ?_).symm; intro h; have h := (may_iff _).1 h; dsimp only at h; obtain ⟨h1, h2, h3, h4, h5, h6, h7, h8, h9⟩ := h; first | omega | (have := h6 rfl; simp at this; done) | (rcases h9 with ⟨e, e1, e2⟩ | ⟨e, e1, e2, e3⟩ | ⟨e, e1, e2, e3⟩ <;> first | omega | (simp at e1; done) | (simp at e2; done) | (simp at e3; done)))
      clear HR
      go_wp2
      go_ret
      exact ⟨by rw [← HN.out]; rfl, HB0.out⟩
  by_cases a4 : 0 ≤ dir
  case neg =>
    · have HN : Hid (51 = r) := hide (by rw [← HR.out]; refine (if_neg ?_).symm; intro h; have h := (may_iff _).1 h; dsimp only at h; obtain ⟨h1, h2, h3, h4, h5, h6, h7, h8, h9⟩ := h; first | omega | (have := h6 rfl; simp at this; done) | (rcases h9 with ⟨e, e1, e2⟩ | ⟨e, e1, e2, e3⟩ | ⟨e, e1, e2, e3⟩ <;> first | omega | (simp at e1; done) | (simp at e2; done) | (simp at e3; done)))
      clear HR
      go_wp2
      go_ret
      exact ⟨by rw [← HN.out]; rfl, HB0.out⟩
  by_cases a5 : dir ≤ 2
  case neg =>
    · have HN : Hid (51 = r) := hide (by rw [← HR.out]; refine (if_neg ?_).symm; intro h; have h := (may_iff _).1 h; dsimp only at h; obtain ⟨h1, h2, h3, h4, h5, h6, h7, h8, h9⟩ := h; first | omega | (have := h6 rfl; simp at this; done) | (rcases h9 with ⟨e, e1, e2⟩ | ⟨e, e1, e2, e3⟩ | ⟨e, e1, e2, e3⟩ <;> first | omega | (simp at e1; done) | (simp at e2; done) | (simp at e3; done)))
      clear HR
      go_wp2
      go_ret
      exact ⟨by rw [← HN.out]; rfl, HB0.out⟩
  go_upto_region 3 with fail
  by_cases b0 : (out.length : Int) ≤ size
  case neg =>
    · have HN : Hid (51 = r) := hide (by rw [← HR.out]; refine (if_neg ?_).symm; intro h; have h := (may_iff _).1 h; dsimp only at h; obtain ⟨h1, h2, h3, h4, h5, h6, h7, h8, h9⟩ := h; first | omega | (have := h6 rfl; simp at this; done) | (rcases h9 with ⟨e, e1, e2⟩ | ⟨e, e1, e2, e3⟩ | ⟨e, e1, e2, e3⟩ <;> first | omega | (simp at e1; done) | (simp at e2; done) | (simp at e3; done)))
      clear HR
      go_wp2
      go_ret
      exact ⟨by rw [← HN.out]; rfl, HB0.out⟩
  by_cases m1 : mode = 1
  · subst m1
    clear a0 a1
    rcases out with _ | ⟨c, t⟩
    case cons =>
      · have HN : Hid (51 = r) := hide (by rw [← HR.out]; refine (if_neg ?_).symm; intro h; have h := (may_iff _).1 h; dsimp only at h; obtain ⟨h1, h2, h3, h4, h5, h6, h7, h8, h9⟩ := h; first | omega | (have := h6 rfl; simp at this; done) | (rcases h9 with ⟨e, e1, e2⟩ | ⟨e, e1, e2, e3⟩ | ⟨e, e1, e2, e3⟩ <;> first | omega | (simp at e1; done) | (simp at e2; done) | (simp at e3; done)))
        clear HR
        go_wp2
        go_ret
        exact ⟨by rw [← HN.out]; rfl, HB0.out⟩
    by_cases b1 : (inn.length : Int) ≤ 65536
    case neg =>
      · have HN : Hid (51 = r) := hide (by rw [← HR.out]; refine (if_neg ?_).symm; intro h; have h := (may_iff _).1 h; dsimp only at h; obtain ⟨h1, h2, h3, h4, h5, h6, h7, h8, h9⟩ := h; first | omega | (have := h6 rfl; simp at this; done) | (rcases h9 with ⟨e, e1, e2⟩ | ⟨e, e1, e2, e3⟩ | ⟨e, e1, e2, e3⟩ <;> first | omega | (simp at e1; done) | (simp at e2; done) | (simp at e3; done)))
        clear HR
        go_wp2
        go_ret
        exact ⟨by rw [← HN.out]; rfl, HB0.out⟩
    by_cases b2 : (back.length : Int) ≤ 8
    case neg =>
      · have HN : Hid (51 = r) := hide (by rw [← HR.out]; refine (if_neg ?_).symm; intro h; have h := (may_iff _).1 h; dsimp only at h; obtain ⟨h1, h2, h3, h4, h5, h6, h7, h8, h9⟩ := h; first | omega | (have := h6 rfl; simp at this; done) | (rcases h9 with ⟨e, e1, e2⟩ | ⟨e, e1, e2, e3⟩ | ⟨e, e1, e2, e3⟩ <;> first | omega | (simp at e1; done) | (simp at e2; done) | (simp at e3; done)))
        clear HR
        go_wp2
        go_ret
        exact ⟨by rw [← HN.out]; rfl, HB0.out⟩
    go_upto_region 5 with fail
    have hz : dir = 0 ∨ dir = 1 ∨ dir = 2 := by omega
    rcases hz with rfl | rfl | rfl
    · clear a4 a5
      by_cases e1 : 0 < (inn.length : Int) + (back.length : Int)
      case pos =>
        · have HN : Hid (51 = r) := hide (by rw [← HR.out]; refine (if_neg ?_).symm; intro h; have h := (may_iff _).1 h; dsimp only at h; obtain ⟨h1, h2, h3, h4, h5, h6, h7, h8, h9⟩ := h; first | omega | (have := h6 rfl; simp at this; done) | (rcases h9 with ⟨e, e1, e2⟩ | ⟨e, e1, e2, e3⟩ | ⟨e, e1, e2, e3⟩ <;> first | omega | (simp at e1; done) | (simp at e2; done) | (simp at e3; done)))
          clear HR
          go_wp2
          go_ret
          exact ⟨by rw [← HN.out]; rfl, HB0.out⟩
      cases closed with
      | false =>
        · have HN : Hid (0 = r) := hide (by rw [← HR.out]; exact (if_pos ((may_iff _).2 ⟨by first | rfl | (dsimp only; omega) | (intro _; rfl) | (intro e; exact absurd e m1), by first | rfl | (dsimp only; omega) | (intro _; rfl) | (intro e; exact absurd e m1), by first | rfl | (dsimp only; omega) | (intro _; rfl) | (intro e; exact absurd e m1), by first | rfl | (dsimp only; omega) | (intro _; rfl) | (intro e; exact absurd e m1), by first | rfl | (dsimp only; omega) | (intro _; rfl) | (intro e; exact absurd e m1), by first | rfl | (dsimp only; omega) | (intro _; rfl) | (intro e; exact absurd e m1), by first | rfl | (dsimp only; omega) | (intro _; rfl) | (intro e; exact absurd e m1), by first | rfl | (dsimp only; omega) | (intro _; rfl) | (intro e; exact absurd e m1), .inl ⟨rfl, by first | rfl | (dsimp only; omega) | (intro _; rfl) | (intro e; exact absurd e m1), by first | rfl | (dsimp only; omega) | (intro _; rfl) | (intro e; exact absurd e m1)⟩⟩)).symm)
          clear HR
          go_wp2
          go_ret
          exact ⟨by rw [← HN.out]; rfl, HB0.out⟩
      | true =>
        · have HN : Hid (0 = r) := hide (by rw [← HR.out]; exact (if_pos ((may_iff _).2 ⟨by first | rfl | (dsimp only; omega) | (intro _; rfl) | (intro e; exact absurd e m1), by first | rfl | (dsimp only; omega) | (intro _; rfl) | (intro e; exact absurd e m1), by first | rfl | (dsimp only; omega) | (intro _; rfl) | (intro e; exact absurd e m1), by first | rfl | (dsimp only; omega) | (intro _; rfl) | (intro e; exact absurd e m1), by first | rfl | (dsimp only; omega) | (intro _; rfl) | (intro e; exact absurd e m1), by first | rfl | (dsimp only; omega) | (intro _; rfl) | (intro e; exact absurd e m1), by first | rfl | (dsimp only; omega) | (intro _; rfl) | (intro e; exact absurd e m1), by first | rfl | (dsimp only; omega) | (intro _; rfl) | (intro e; exact absurd e m1), .inl ⟨rfl, by first | rfl | (dsimp only; omega) | (intro _; rfl) | (intro e; exact absurd e m1), by first | rfl | (dsimp only; omega) | (intro _; rfl) | (intro e; exact absurd e m1)⟩⟩)).symm)
          clear HR
          go_wp2
          go_ret
          exact ⟨by rw [← HN.out]; rfl, HB0.out⟩
    · clear a4 a5
      cases rd with
      | false =>
        · have HN : Hid (51 = r) := hide (by rw [← HR.out]; refine (if_neg ?_).symm; intro h; have h := (may_iff _).1 h; dsimp only at h; obtain ⟨h1, h2, h3, h4, h5, h6, h7, h8, h9⟩ := h; first | omega | (have := h6 rfl; simp at this; done) | (rcases h9 with ⟨e, e1, e2⟩ | ⟨e, e1, e2, e3⟩ | ⟨e, e1, e2, e3⟩ <;> first | omega | (simp at e1; done) | (simp at e2; done) | (simp at e3; done)))
          clear HR
          go_wp2
          go_ret
          exact ⟨by rw [← HN.out]; rfl, HB0.out⟩
      | true =>
      cases closed with
      | false =>
        · have HN : Hid (0 = r) := hide (by rw [← HR.out]; exact (if_pos ((may_iff _).2 ⟨by first | rfl | (dsimp only; omega) | (intro _; rfl) | (intro e; exact absurd e m1), by first | rfl | (dsimp only; omega) | (intro _; rfl) | (intro e; exact absurd e m1), by first | rfl | (dsimp only; omega) | (intro _; rfl) | (intro e; exact absurd e m1), by first | rfl | (dsimp only; omega) | (intro _; rfl) | (intro e; exact absurd e m1), by first | rfl | (dsimp only; omega) | (intro _; rfl) | (intro e; exact absurd e m1), by first | rfl | (dsimp only; omega) | (intro _; rfl) | (intro e; exact absurd e m1), by first | rfl | (dsimp only; omega) | (intro _; rfl) | (intro e; exact absurd e m1), by first | rfl | (dsimp only; omega) | (intro _; rfl) | (intro e; exact absurd e m1), .inr (.inl ⟨rfl, rfl, by first | rfl | (dsimp only; omega) | (intro _; rfl) | (intro e; exact absurd e m1), rfl⟩)⟩)).symm)
          clear HR
          go_wp2
          go_ret
          exact ⟨by rw [← HN.out]; rfl, HB0.out⟩
      | true =>
        · have HN : Hid (51 = r) := hide (by rw [← HR.out]; refine (if_neg ?_).symm; intro h; have h := (may_iff _).1 h; dsimp only at h; obtain ⟨h1, h2, h3, h4, h5, h6, h7, h8, h9⟩ := h; first | omega | (have := h6 rfl; simp at this; done) | (rcases h9 with ⟨e, e1, e2⟩ | ⟨e, e1, e2, e3⟩ | ⟨e, e1, e2, e3⟩ <;> first | omega | (simp at e1; done) | (simp at e2; done) | (simp at e3; done)))
          clear HR
          go_wp2
          go_ret
          exact ⟨by rw [← HN.out]; rfl, HB0.out⟩
    · clear a4 a5
      cases wt with
      | false =>
        · have HN : Hid (51 = r) := hide (by rw [← HR.out]; refine (if_neg ?_).symm; intro h; have h := (may_iff _).1 h; dsimp only at h; obtain ⟨h1, h2, h3, h4, h5, h6, h7, h8, h9⟩ := h; first | omega | (have := h6 rfl; simp at this; done) | (rcases h9 with ⟨e, e1, e2⟩ | ⟨e, e1, e2, e3⟩ | ⟨e, e1, e2, e3⟩ <;> first | omega | (simp at e1; done) | (simp at e2; done) | (simp at e3; done)))
          clear HR
          go_wp2
          go_ret
          exact ⟨by rw [← HN.out]; rfl, HB0.out⟩
      | true =>
      by_cases e1 : 0 < (inn.length : Int) + (back.length : Int)
      case pos =>
        · have HN : Hid (51 = r) := hide (by rw [← HR.out]; refine (if_neg ?_).symm; intro h; have h := (may_iff _).1 h; dsimp only at h; obtain ⟨h1, h2, h3, h4, h5, h6, h7, h8, h9⟩ := h; first | omega | (have := h6 rfl; simp at this; done) | (rcases h9 with ⟨e, e1, e2⟩ | ⟨e, e1, e2, e3⟩ | ⟨e, e1, e2, e3⟩ <;> first | omega | (simp at e1; done) | (simp at e2; done) | (simp at e3; done)))
          clear HR
          go_wp2
          go_ret
          exact ⟨by rw [← HN.out]; rfl, HB0.out⟩
      cases closed with
      | false =>
        · have HN : Hid (0 = r) := hide (by rw [← HR.out]; exact (if_pos ((may_iff _).2 ⟨by first | rfl | (dsimp only; omega) | (intro _; rfl) | (intro e; exact absurd e m1), by first | rfl | (dsimp only; omega) | (intro _; rfl) | (intro e; exact absurd e m1), by first | rfl | (dsimp only; omega) | (intro _; rfl) | (intro e; exact absurd e m1), by first | rfl | (dsimp only; omega) | (intro _; rfl) | (intro e; exact absurd e m1), by first | rfl | (dsimp only; omega) | (intro _; rfl) | (intro e; exact absurd e m1), by first | rfl | (dsimp only; omega) | (intro _; rfl) | (intro e; exact absurd e m1), by first | rfl | (dsimp only; omega) | (intro _; rfl) | (intro e; exact absurd e m1), by first | rfl | (dsimp only; omega) | (intro _; rfl) | (intro e; exact absurd e m1), .inr (.inr ⟨rfl, rfl, by first | rfl | (dsimp only; omega) | (intro _; rfl) | (intro e; exact absurd e m1), rfl⟩)⟩)).symm)
          clear HR
          go_wp2
          go_ret
          exact ⟨by rw [← HN.out]; rfl, HB0.out⟩
      | true =>
        · have HN : Hid (51 = r) := hide (by rw [← HR.out]; refine (if_neg ?_).symm; intro h; have h := (may_iff _).1 h; dsimp only at h; obtain ⟨h1, h2, h3, h4, h5, h6, h7, h8, h9⟩ := h; first | omega | (have := h6 rfl; simp at this; done) | (rcases h9 with ⟨e, e1, e2⟩ | ⟨e, e1, e2, e3⟩ | ⟨e, e1, e2, e3⟩ <;> first | omega | (simp at e1; done) | (simp at e2; done) | (simp at e3; done)))
          clear HR
          go_wp2
          go_ret
          exact ⟨by rw [← HN.out]; rfl, HB0.out⟩
  have m2 : (mode == 1) = false := by simp [m1]
  by_cases b1 : (inn.length : Int) ≤ 65536
  case neg =>
    · have HN : Hid (51 = r) := hide (by rw [← HR.out]; refine (if_neg ?_).symm; intro h; have h := (may_iff _).1 h; dsimp only at h; obtain ⟨h1, h2, h3, h4, h5, h6, h7, h8, h9⟩ := h; first | omega | (have := h6 rfl; simp at this; done) | (rcases h9 with ⟨e, e1, e2⟩ | ⟨e, e1, e2, e3⟩ | ⟨e, e1, e2, e3⟩ <;> first | omega | (simp at e1; done) | (simp at e2; done) | (simp at e3; done)))
      clear HR
      go_wp2
      go_ret
      exact ⟨by rw [← HN.out]; rfl, HB0.out⟩
  by_cases b2 : (back.length : Int) ≤ 8
  case neg =>
    · have HN : Hid (51 = r) := hide (by rw [← HR.out]; refine (if_neg ?_).symm; intro h; have h := (may_iff _).1 h; dsimp only at h; obtain ⟨h1, h2, h3, h4, h5, h6, h7, h8, h9⟩ := h; first | omega | (have := h6 rfl; simp at this; done) | (rcases h9 with ⟨e, e1, e2⟩ | ⟨e, e1, e2, e3⟩ | ⟨e, e1, e2, e3⟩ <;> first | omega | (simp at e1; done) | (simp at e2; done) | (simp at e3; done)))
      clear HR
      go_wp2
      go_ret
      exact ⟨by rw [← HN.out]; rfl, HB0.out⟩
  go_upto_region 5 with fail
  have hz : dir = 0 ∨ dir = 1 ∨ dir = 2 := by omega
  rcases hz with rfl | rfl | rfl
  · clear a4 a5
    rcases out with _ | ⟨c, t⟩
    case cons =>
      · have HN : Hid (51 = r) := hide (by rw [← HR.out]; refine (if_neg ?_).symm; intro h; have h := (may_iff _).1 h; dsimp only at h; obtain ⟨h1, h2, h3, h4, h5, h6, h7, h8, h9⟩ := h; first | omega | (have := h6 rfl; simp at this; done) | (rcases h9 with ⟨e, e1, e2⟩ | ⟨e, e1, e2, e3⟩ | ⟨e, e1, e2, e3⟩ <;> first | omega | (simp at e1; done) | (simp at e2; done) | (simp at e3; done)))
        clear HR
        go_wp2
        go_ret
        exact ⟨by rw [← HN.out]; rfl, HB0.out⟩
    by_cases e1 : 0 < (inn.length : Int) + (back.length : Int)
    case pos =>
      · have HN : Hid (51 = r) := hide (by rw [← HR.out]; refine (if_neg ?_).symm; intro h; have h := (may_iff _).1 h; dsimp only at h; obtain ⟨h1, h2, h3, h4, h5, h6, h7, h8, h9⟩ := h; first | omega | (have := h6 rfl; simp at this; done) | (rcases h9 with ⟨e, e1, e2⟩ | ⟨e, e1, e2, e3⟩ | ⟨e, e1, e2, e3⟩ <;> first | omega | (simp at e1; done) | (simp at e2; done) | (simp at e3; done)))
        clear HR
        go_wp2
        go_ret
        exact ⟨by rw [← HN.out]; rfl, HB0.out⟩
    cases closed with
    | false =>
      · have HN : Hid (0 = r) := hide (by rw [← HR.out]; exact (if_pos ((may_iff _).2 ⟨by first | rfl | (dsimp only; omega) | (intro _; rfl) | (intro e; exact absurd e m1), by first | rfl | (dsimp only; omega) | (intro _; rfl) | (intro e; exact absurd e m1), by first | rfl | (dsimp only; omega) | (intro _; rfl) | (intro e; exact absurd e m1), by first | rfl | (dsimp only; omega) | (intro _; rfl) | (intro e; exact absurd e m1), by first | rfl | (dsimp only; omega) | (intro _; rfl) | (intro e; exact absurd e m1), by first | rfl | (dsimp only; omega) | (intro _; rfl) | (intro e; exact absurd e m1), by first | rfl | (dsimp only; omega) | (intro _; rfl) | (intro e; exact absurd e m1), by first | rfl | (dsimp only; omega) | (intro _; rfl) | (intro e; exact absurd e m1), .inl ⟨rfl, by first | rfl | (dsimp only; omega) | (intro _; rfl) | (intro e; exact absurd e m1), by first | rfl | (dsimp only; omega) | (intro _; rfl) | (intro e; exact absurd e m1)⟩⟩)).symm)
        clear HR
        go_wp2
        go_ret
        exact ⟨by rw [← HN.out]; rfl, HB0.out⟩
    | true =>
      · have HN : Hid (0 = r) := hide (by rw [← HR.out]; exact (if_pos ((may_iff _).2 ⟨by first | rfl | (dsimp only; omega) | (intro _; rfl) | (intro e; exact absurd e m1), by first | rfl | (dsimp only; omega) | (intro _; rfl) | (intro e; exact absurd e m1), by first | rfl | (dsimp only; omega) | (intro _; rfl) | (intro e; exact absurd e m1), by first | rfl | (dsimp only; omega) | (intro _; rfl) | (intro e; exact absurd e m1), by first | rfl | (dsimp only; omega) | (intro _; rfl) | (intro e; exact absurd e m1), by first | rfl | (dsimp only; omega) | (intro _; rfl) | (intro e; exact absurd e m1), by first | rfl | (dsimp only; omega) | (intro _; rfl) | (intro e; exact absurd e m1), by first | rfl | (dsimp only; omega) | (intro _; rfl) | (intro e; exact absurd e m1), .inl ⟨rfl, by first | rfl | (dsimp only; omega) | (intro _; rfl) | (intro e; exact absurd e m1), by first | rfl | (dsimp only; omega) | (intro _; rfl) | (intro e; exact absurd e m1)⟩⟩)).symm)
        clear HR
        go_wp2
        go_ret
        exact ⟨by rw [← HN.out]; rfl, HB0.out⟩
  · clear a4 a5
    cases rd with
    | false =>
      · have HN : Hid (51 = r) := hide (by rw [← HR.out]; refine (if_neg ?_).symm; intro h; have h := (may_iff _).1 h; dsimp only at h; obtain ⟨h1, h2, h3, h4, h5, h6, h7, h8, h9⟩ := h; first | omega | (have := h6 rfl; simp at this; done) | (rcases h9 with ⟨e, e1, e2⟩ | ⟨e, e1, e2, e3⟩ | ⟨e, e1, e2, e3⟩ <;> first | omega | (simp at e1; done) | (simp at e2; done) | (simp at e3; done)))
        clear HR
        go_wp2
        go_ret
        exact ⟨by rw [← HN.out]; rfl, HB0.out⟩
    | true =>
    rcases out with _ | ⟨c, t⟩
    case cons =>
      · have HN : Hid (51 = r) := hide (by rw [← HR.out]; refine (if_neg ?_).symm; intro h; have h := (may_iff _).1 h; dsimp only at h; obtain ⟨h1, h2, h3, h4, h5, h6, h7, h8, h9⟩ := h; first | omega | (have := h6 rfl; simp at this; done) | (rcases h9 with ⟨e, e1, e2⟩ | ⟨e, e1, e2, e3⟩ | ⟨e, e1, e2, e3⟩ <;> first | omega | (simp at e1; done) | (simp at e2; done) | (simp at e3; done)))
        clear HR
        go_wp2
        go_ret
        exact ⟨by rw [← HN.out]; rfl, HB0.out⟩
    cases closed with
    | false =>
      · have HN : Hid (0 = r) := hide (by rw [← HR.out]; exact (if_pos ((may_iff _).2 ⟨by first | rfl | (dsimp only; omega) | (intro _; rfl) | (intro e; exact absurd e m1), by first | rfl | (dsimp only; omega) | (intro _; rfl) | (intro e; exact absurd e m1), by first | rfl | (dsimp only; omega) | (intro _; rfl) | (intro e; exact absurd e m1), by first | rfl | (dsimp only; omega) | (intro _; rfl) | (intro e; exact absurd e m1), by first | rfl | (dsimp only; omega) | (intro _; rfl) | (intro e; exact absurd e m1), by first | rfl | (dsimp only; omega) | (intro _; rfl) | (intro e; exact absurd e m1), by first | rfl | (dsimp only; omega) | (intro _; rfl) | (intro e; exact absurd e m1), by first | rfl | (dsimp only; omega) | (intro _; rfl) | (intro e; exact absurd e m1), .inr (.inl ⟨rfl, rfl, by first | rfl | (dsimp only; omega) | (intro _; rfl) | (intro e; exact absurd e m1), rfl⟩)⟩)).symm)
        clear HR
        go_wp2
        go_ret
        exact ⟨by rw [← HN.out]; rfl, HB0.out⟩
    | true =>
      · have HN : Hid (51 = r) := hide (by rw [← HR.out]; refine (if_neg ?_).symm; intro h; have h := (may_iff _).1 h; dsimp only at h; obtain ⟨h1, h2, h3, h4, h5, h6, h7, h8, h9⟩ := h; first | omega | (have := h6 rfl; simp at this; done) | (rcases h9 with ⟨e, e1, e2⟩ | ⟨e, e1, e2, e3⟩ | ⟨e, e1, e2, e3⟩ <;> first | omega | (simp at e1; done) | (simp at e2; done) | (simp at e3; done)))
        clear HR
        go_wp2
        go_ret
        exact ⟨by rw [← HN.out]; rfl, HB0.out⟩
  · clear a4 a5
    cases wt with
    | false =>
      · have HN : Hid (51 = r) := hide (by rw [← HR.out]; refine (if_neg ?_).symm; intro h; have h := (may_iff _).1 h; dsimp only at h; obtain ⟨h1, h2, h3, h4, h5, h6, h7, h8, h9⟩ := h; first | omega | (have := h6 rfl; simp at this; done) | (rcases h9 with ⟨e, e1, e2⟩ | ⟨e, e1, e2, e3⟩ | ⟨e, e1, e2, e3⟩ <;> first | omega | (simp at e1; done) | (simp at e2; done) | (simp at e3; done)))
        clear HR
        go_wp2
        go_ret
        exact ⟨by rw [← HN.out]; rfl, HB0.out⟩
    | true =>
    by_cases e1 : 0 < (inn.length : Int) + (back.length : Int)
    case pos =>
      · have HN : Hid (51 = r) := hide (by rw [← HR.out]; refine (if_neg ?_).symm; intro h; have h := (may_iff _).1 h; dsimp only at h; obtain ⟨h1, h2, h3, h4, h5, h6, h7, h8, h9⟩ := h; first | omega | (have := h6 rfl; simp at this; done) | (rcases h9 with ⟨e, e1, e2⟩ | ⟨e, e1, e2, e3⟩ | ⟨e, e1, e2, e3⟩ <;> first | omega | (simp at e1; done) | (simp at e2; done) | (simp at e3; done)))
        clear HR
        go_wp2
        go_ret
        exact ⟨by rw [← HN.out]; rfl, HB0.out⟩
    cases closed with
    | false =>
      · have HN : Hid (0 = r) := hide (by rw [← HR.out]; exact (if_pos ((may_iff _).2 ⟨by first | rfl | (dsimp only; omega) | (intro _; rfl) | (intro e; exact absurd e m1), by first | rfl | (dsimp only; omega) | (intro _; rfl) | (intro e; exact absurd e m1), by first | rfl | (dsimp only; omega) | (intro _; rfl) | (intro e; exact absurd e m1), by first | rfl | (dsimp only; omega) | (intro _; rfl) | (intro e; exact absurd e m1), by first | rfl | (dsimp only; omega) | (intro _; rfl) | (intro e; exact absurd e m1), by first | rfl | (dsimp only; omega) | (intro _; rfl) | (intro e; exact absurd e m1), by first | rfl | (dsimp only; omega) | (intro _; rfl) | (intro e; exact absurd e m1), by first | rfl | (dsimp only; omega) | (intro _; rfl) | (intro e; exact absurd e m1), .inr (.inr ⟨rfl, rfl, by first | rfl | (dsimp only; omega) | (intro _; rfl) | (intro e; exact absurd e m1), rfl⟩)⟩)).symm)
        clear HR
        go_wp2
        go_ret
        exact ⟨by rw [← HN.out]; rfl, HB0.out⟩
    | true =>
      · have HN : Hid (51 = r) := hide (by rw [← HR.out]; refine (if_neg ?_).symm; intro h; have h := (may_iff _).1 h; dsimp only at h; obtain ⟨h1, h2, h3, h4, h5, h6, h7, h8, h9⟩ := h; first | omega | (have := h6 rfl; simp at this; done) | (rcases h9 with ⟨e, e1, e2⟩ | ⟨e, e1, e2, e3⟩ | ⟨e, e1, e2, e3⟩ <;> first | omega | (simp at e1; done) | (simp at e2; done) | (simp at e3; done)))
        clear HR
        go_wp2
        go_ret
        exact ⟨by rw [← HN.out]; rfl, HB0.out⟩
end Go.Proofs.YtdmkjbdlidadiaaGreat

/- Streams over memory that grows. -/
namespace Go.Proofs.YtdmkjbdlidadiaaGreat
open Go.RowKit

theorem someOk_true {S : Type} (D : RawD S) (n : Nat) : ∀ k s, someOk D (fun _ => True) n k s
  | 0, _ => trivial
  | k + 1, _ => ⟨trivial, fun _ => someOk_true D n k _⟩
theorem putOk_true {S : Type} (D : RawD S) (bs : List UInt8) : ∀ k s d t, putOk D (fun _ => True) bs k s d t
  | 0, _, _, _ => trivial
  | k + 1, _, _, _ => fun _ => ⟨trivial, fun _ _ => putOk_true D bs k _ _ _, fun _ _ _ => putOk_true D bs k _ _ _⟩
theorem bears_true {S : Type} (D : RawD S) : Bears D (fun _ => True) (fun _ => True) (fun _ _ => True) := ⟨fun _ s bs _ _ => ⟨putOk_true D bs _ s _ _, trivial⟩, fun _ s m _ _ _ => ⟨someOk_true D m _ s, trivial⟩, fun _ _ h => h⟩
def msR : RawD MS := ⟨fun S n => S.read n, fun S x => S.write x⟩
theorem gmem_o (g : Nat) (S : MS) : OAt (fun w O => MemAt w O g S) := ⟨fun h hk _ => h.keep hk, fun h => h.trim⟩
theorem piece_le (l : List UInt8) (p n : Nat) : (piece l p n).length ≤ l.length := by
  unfold piece
  simp
  omega
theorem gro_raw (g : Nat) : RawM msR 75 (.pointer (some ⟨g, 0, none⟩)) 310 312 (fun _ => True) (fun _ => True) (fun w O S => MemAt w O g S) where
  mread w := by kernel_rfl
  mwrite w := by kernel_rfl
  cread a w := by kernel_rfl
  cwrite a w := by kernel_rfl
  keep h hk _ := h.keep hk
  few {w O s} n h := by
    have := h.ok
    show (s.read n).1.length ≤ _
    unfold MS.read
    split
    · have := piece_le s.l s.pl (n : Int).toNat
      simp only
      omega
    · simp
  read n h _ _ _ := (gmread_any _ g _ n _ h).mono fun _ _ e => view_own e
  write bs a c h _ hb hc _ _ hap := gmwrite_any _ g _ bs a c _ h hb hc (fun _ => hap)
structure Thr (x : SS) (S : MS) : Prop where
  rd : x.rd = false
  wt : x.wt = true
  m1 : 1 ≤ x.mode
  m3 : x.mode ≤ 3
  s1 : 1 ≤ x.size
  s2 : x.size ≤ 65536
  ol : (x.out.length : Int) < x.size
  o1 : x.mode = 1 → x.out = []
  inn : x.inn = []
  back : x.back = []
  fin : x.fin = false
  bad : x.bad = false
  closed : x.closed = false
  dir : x.dir = 2 ∨ (x.dir = 0 ∧ x.out = [])
  pl : S.pl = S.l.length
  room : S.room = 1048576
theorem Thr.may {x : SS} {S : MS} (h : Thr x S) : x.may = true := by
  unfold SS.may SS.buf SS.way SS.toR SS.toW
  have h1 : (x.out.length : Int) ≤ if x.mode = 1 then 0 else x.size := by
    split
    · rename_i e
      rw [h.o1 e]; simp
    · have := h.ol; omega
  rw [h.inn, h.back, h.closed, h.wt]
  simp only [h.m1, h.m3, h.s1, h.s2, h1, decide_true, Bool.true_and, List.length_nil]
  rcases h.dir with e | ⟨e, e2⟩
  · simp [e]
  · simp [e, e2]
theorem Thr.refuse {x : SS} {S : MS} (h : Thr x S) : x.refuse true = 0 := by
  unfold SS.refuse
  rw [if_neg (by simp [h.may]), if_neg (by simp), if_neg (by simp [h.closed])]
end Go.Proofs.YtdmkjbdlidadiaaGreat

/- What the proof stands on, part 13: the contracts of the program's calls that it reaches. -/
import Derived.Test.YtdmkjbdlidadiaaGreatKO12
import Derived.Deep.RegionHeld3
import Derived.Deep.Cut
/- Streams: the law's Given and Same. -/
namespace Go.Proofs.YtdmkjbdlidadiaaGreat
open Go.RowKit

set_option maxRecDepth 100000 in
set_option maxHeartbeats 4000000 in
theorem given_any (x : SS) (o i b : Value) (P : Nat → Prop) (w : World) (h : SIn w P x o i b) (ho : x.out.length ≤ 140737488351232) (hi : x.inn.length ≤ 140737488351232) (hb : x.back.length ≤ 140737488351232) :
    Calls Tryz.prog 21 #[.agg #[.bool x.rd, .bool x.wt, .int .i64 x.mode, .int .i64 x.size, o, i, b, .int .i64 x.dir, .bool x.fin, .bool x.bad, .bool x.closed]] w fun e w' => ∃ o' i' b', e = .returned (.agg #[.bool x.rd, .bool x.wt, .int .i64 x.mode, .int .i64 x.size, o', i', b', .int .i64 x.dir, .bool x.fin, .bool x.bad, .bool x.closed]) ∧ w'.ownsRow w.heap.size 5 1 o' x.out.length (x.out.map bv) ∧ w'.ownsRow w.heap.size 5 1 i' x.inn.length (x.inn.map bv) ∧ w'.ownsRow w.heap.size 5 1 b' x.back.length (x.back.map bv) ∧ Below w.heap.size w w' ∧ Ap3 o' i' b' := by
  have HOw := hide (fun (W : World) (hW : Below w.heap.size w W) => rown_any x o i b P W (h.below hW) ho hi hb)
  obtain ⟨oa, oc, rfl, -⟩ := h.so
  obtain ⟨ia, ic, rfl, -⟩ := h.si
  obtain ⟨ba, bc, rfl, -⟩ := h.sb
  clear h
  go_enter Tryz.func21, Tryz.ntmps21
  go_wp2_with fail
  have HB0 := hide ((recv_below w (Obj.cells #[.bool x.rd, .bool x.wt, .int .i64 x.mode, .int .i64 x.size, .slice oa x.out.length oc, .slice ia x.inn.length ic, .slice ba x.back.length bc, .int .i64 x.dir, .bool x.fin, .bool x.bad, .bool x.closed] 52)).trans ((recv_below (w.alloc (Obj.cells #[.bool x.rd, .bool x.wt, .int .i64 x.mode, .int .i64 x.size, .slice oa x.out.length oc, .slice ia x.inn.length ic, .slice ba x.back.length bc, .int .i64 x.dir, .bool x.fin, .bool x.bad, .bool x.closed] 52)) (Obj.cells #[.bool false, .bool false, .int .i64 0, .int .i64 0, .slice none 0 0, .slice none 0 0, .slice none 0 0, .int .i64 0, .bool false, .bool false, .bool false] 58)).mono (recv_below w (Obj.cells #[.bool x.rd, .bool x.wt, .int .i64 x.mode, .int .i64 x.size, .slice oa x.out.length oc, .slice ia x.inn.length ic, .slice ba x.back.length bc, .int .i64 x.dir, .bool x.fin, .bool x.bad, .bool x.closed] 52)).size))
  have HZ0 : Hid (((w.alloc (Obj.cells #[.bool x.rd, .bool x.wt, .int .i64 x.mode, .int .i64 x.size, .slice oa x.out.length oc, .slice ia x.inn.length ic, .slice ba x.back.length bc, .int .i64 x.dir, .bool x.fin, .bool x.bad, .bool x.closed] 52)).alloc (Obj.cells #[.bool false, .bool false, .int .i64 0, .int .i64 0, .slice none 0 0, .slice none 0 0, .slice none 0 0, .int .i64 0, .bool false, .bool false, .bool false] 58)).heap[w.heap.size + 1]? = some (Obj.cells #[.bool false, .bool false, .int .i64 0, .int .i64 0, .slice none 0 0, .slice none 0 0, .slice none 0 0, .int .i64 0, .bool false, .bool false, .bool false] 58)) := hide (by have := heap_alloc_new (w.alloc (Obj.cells #[.bool x.rd, .bool x.wt, .int .i64 x.mode, .int .i64 x.size, .slice oa x.out.length oc, .slice ia x.inn.length ic, .slice ba x.back.length bc, .int .i64 x.dir, .bool x.fin, .bool x.bad, .bool x.closed] 52)) (Obj.cells #[.bool false, .bool false, .int .i64 0, .int .i64 0, .slice none 0 0, .slice none 0 0, .slice none 0 0, .int .i64 0, .bool false, .bool false, .bool false] 58); rw [show (w.alloc (Obj.cells #[.bool x.rd, .bool x.wt, .int .i64 x.mode, .int .i64 x.size, .slice oa x.out.length oc, .slice ia x.inn.length ic, .slice ba x.back.length bc, .int .i64 x.dir, .bool x.fin, .bool x.bad, .bool x.closed] 52)).heap.size = w.heap.size + 1 from Array.size_push ..] at this; exact this)
  generalize (w.alloc (Obj.cells #[.bool x.rd, .bool x.wt, .int .i64 x.mode, .int .i64 x.size, .slice oa x.out.length oc, .slice ia x.inn.length ic, .slice ba x.back.length bc, .int .i64 x.dir, .bool x.fin, .bool x.bad, .bool x.closed] 52)).alloc (Obj.cells #[.bool false, .bool false, .int .i64 0, .int .i64 0, .slice none 0 0, .slice none 0 0, .slice none 0 0, .int .i64 0, .bool false, .bool false, .bool false] 58) = w0 at *
  have hz0 : w.heap.size + 1 < w0.heap.size := (Array.getElem?_eq_some_iff.1 HZ0.out).1
  refine (HOw.out _ HB0.out).mono ?_
  rintro _ w1 ⟨o1, i1, b1, rfl, y3, y4, y5, hB1, hAp⟩
  obtain ⟨a1, k1, rfl⟩ := owns_slice y3
  obtain ⟨a2, k2, rfl⟩ := owns_slice y4
  obtain ⟨a3, k3, rfl⟩ := owns_slice y5
  have HZ1 := hide ((hB1.block (w.heap.size + 1) hz0).trans HZ0.out)
  have HB1 := hide (HB0.out.trans (hB1.mono HB0.out.size))
  have HY := hide (And.intro y3 (And.intro y4 y5))
  have HAp := hide hAp
  clear hAp y3 y4 y5 hB1 HZ0 HB0 HOw
  have z0 := cell_of_row w1 (w.heap.size + 1) 0 _ _ _ HZ1.out
  have z1 := cell_of_row w1 (w.heap.size + 1) 1 _ _ _ HZ1.out
  have z2 := cell_of_row w1 (w.heap.size + 1) 2 _ _ _ HZ1.out
  have z3 := cell_of_row w1 (w.heap.size + 1) 3 _ _ _ HZ1.out
  have z4 := cell_of_row w1 (w.heap.size + 1) 4 _ _ _ HZ1.out
  have z5 := cell_of_row w1 (w.heap.size + 1) 5 _ _ _ HZ1.out
  have z6 := cell_of_row w1 (w.heap.size + 1) 6 _ _ _ HZ1.out
  have z7 := cell_of_row w1 (w.heap.size + 1) 7 _ _ _ HZ1.out
  have z8 := cell_of_row w1 (w.heap.size + 1) 8 _ _ _ HZ1.out
  have z9 := cell_of_row w1 (w.heap.size + 1) 9 _ _ _ HZ1.out
  have z10 := cell_of_row w1 (w.heap.size + 1) 10 _ _ _ HZ1.out
  have u0 := frozen_of_row w1 (w.heap.size + 1) 0 _ _ HZ1.out
  have u1 := frozen_of_row w1 (w.heap.size + 1) 1 _ _ HZ1.out
  have u2 := frozen_of_row w1 (w.heap.size + 1) 2 _ _ HZ1.out
  have u3 := frozen_of_row w1 (w.heap.size + 1) 3 _ _ HZ1.out
  have u4 := frozen_of_row w1 (w.heap.size + 1) 4 _ _ HZ1.out
  have u5 := frozen_of_row w1 (w.heap.size + 1) 5 _ _ HZ1.out
  have u6 := frozen_of_row w1 (w.heap.size + 1) 6 _ _ HZ1.out
  have u7 := frozen_of_row w1 (w.heap.size + 1) 7 _ _ HZ1.out
  have u8 := frozen_of_row w1 (w.heap.size + 1) 8 _ _ HZ1.out
  have u9 := frozen_of_row w1 (w.heap.size + 1) 9 _ _ HZ1.out
  have u10 := frozen_of_row w1 (w.heap.size + 1) 10 _ _ HZ1.out
  simp at z0 z1 z2 z3 z4 z5 z6 z7 z8 z9 z10
  go_wp2
  obtain ⟨e1, e2⟩ := st_fill w1 (w.heap.size + 1) x (.slice a1 x.out.length k1) (.slice a2 x.inn.length k2) (.slice a3 x.back.length k3) HZ1.out
  refine bodyPost_ret (results_cell_row rfl _ _ (w.heap.size + 1) _ _ _ _ rfl e1 Tryz.underlying58 rfl (by kernel_rfl)) rfl ?_
  obtain ⟨hr1, hr2, hr3⟩ := HY.out
  exact ⟨_, _, _, rfl, owns_mono (owns_turned hr1 e2 (fun k e => by have := (hr1.lt k e).1; omega)) (by omega), owns_mono (owns_turned hr2 e2 (fun k e => by have := (hr2.lt k e).1; omega)) (by omega), owns_mono (owns_turned hr3 e2 (fun k e => by have := (hr3.lt k e).1; omega)) (by omega), HB1.out.trans (e2.below (fun k e => by omega) HB1.out.size), HAp.out⟩
set_option maxRecDepth 100000 in
set_option maxHeartbeats 4000000 in
theorem ssame_any (x : SS) (o i b p q r : Value) (P Q : Nat → Prop) (w : World) (h : SIn w P x o i b) (h' : SIn w Q x p q r) (ho : x.out.length ≤ 140737488351232) (hi : x.inn.length ≤ 140737488351232) (hb : x.back.length ≤ 140737488351232) :
    Calls Tryz.prog 26 #[.agg #[.bool x.rd, .bool x.wt, .int .i64 x.mode, .int .i64 x.size, o, i, b, .int .i64 x.dir, .bool x.fin, .bool x.bad, .bool x.closed], .agg #[.bool x.rd, .bool x.wt, .int .i64 x.mode, .int .i64 x.size, p, q, r, .int .i64 x.dir, .bool x.fin, .bool x.bad, .bool x.closed]] w fun e w' => e = .returned (.bool true) ∧ Below w.heap.size w w' := by
  obtain ⟨oa, oc, rfl, hb1, -⟩ := h.so
  obtain ⟨ia, ic, rfl, hb2, -⟩ := h.si
  obtain ⟨ba, bc, rfl, hb3, -⟩ := h.sb
  obtain ⟨pa, pc, rfl, hb4, -⟩ := h'.so
  obtain ⟨qa, qc, rfl, hb5, -⟩ := h'.si
  obtain ⟨ra, rc, rfl, hb6, -⟩ := h'.sb
  have HS1 := hide (fun (W : World) (hW : Below w.heap.size w W) => same_any (.slice oa x.out.length oc) (.slice pa x.out.length pc) x.out W (hb1.below hW) (hb4.below hW) (by unfold maxLen; omega))
  have HS2 := hide (fun (W : World) (hW : Below w.heap.size w W) => same_any (.slice ia x.inn.length ic) (.slice qa x.inn.length qc) x.inn W (hb2.below hW) (hb5.below hW) (by unfold maxLen; omega))
  have HS3 := hide (fun (W : World) (hW : Below w.heap.size w W) => same_any (.slice ba x.back.length bc) (.slice ra x.back.length rc) x.back W (hb3.below hW) (hb6.below hW) (by unfold maxLen; omega))
  clear h h' hb1 hb2 hb3 hb4 hb5 hb6
  go_enter Tryz.func26, Tryz.ntmps26
  go_upto_region 1 with fail
  have HB0 := hide ((recv_below w (Obj.cells #[.bool x.rd, .bool x.wt, .int .i64 x.mode, .int .i64 x.size, .slice oa x.out.length oc, .slice ia x.inn.length ic, .slice ba x.back.length bc, .int .i64 x.dir, .bool x.fin, .bool x.bad, .bool x.closed] 58)).trans ((recv_below (w.alloc (Obj.cells #[.bool x.rd, .bool x.wt, .int .i64 x.mode, .int .i64 x.size, .slice oa x.out.length oc, .slice ia x.inn.length ic, .slice ba x.back.length bc, .int .i64 x.dir, .bool x.fin, .bool x.bad, .bool x.closed] 58)) (Obj.cells #[.bool x.rd, .bool x.wt, .int .i64 x.mode, .int .i64 x.size, .slice pa x.out.length pc, .slice qa x.inn.length qc, .slice ra x.back.length rc, .int .i64 x.dir, .bool x.fin, .bool x.bad, .bool x.closed] 52)).mono (recv_below w (Obj.cells #[.bool x.rd, .bool x.wt, .int .i64 x.mode, .int .i64 x.size, .slice oa x.out.length oc, .slice ia x.inn.length ic, .slice ba x.back.length bc, .int .i64 x.dir, .bool x.fin, .bool x.bad, .bool x.closed] 58)).size))
  have HA0 := hide ((StAt.new w x (.slice oa x.out.length oc) (.slice ia x.inn.length ic) (.slice ba x.back.length bc)).below (recv_below _ (Obj.cells #[.bool x.rd, .bool x.wt, .int .i64 x.mode, .int .i64 x.size, .slice pa x.out.length pc, .slice qa x.inn.length qc, .slice ra x.back.length rc, .int .i64 x.dir, .bool x.fin, .bool x.bad, .bool x.closed] 52)))
  have HR0 : Hid (RSt ((w.alloc (Obj.cells #[.bool x.rd, .bool x.wt, .int .i64 x.mode, .int .i64 x.size, .slice oa x.out.length oc, .slice ia x.inn.length ic, .slice ba x.back.length bc, .int .i64 x.dir, .bool x.fin, .bool x.bad, .bool x.closed] 58)).alloc (Obj.cells #[.bool x.rd, .bool x.wt, .int .i64 x.mode, .int .i64 x.size, .slice pa x.out.length pc, .slice qa x.inn.length qc, .slice ra x.back.length rc, .int .i64 x.dir, .bool x.fin, .bool x.bad, .bool x.closed] 52)) (w.heap.size + 1) x (.slice pa x.out.length pc) (.slice qa x.inn.length qc) (.slice ra x.back.length rc)) := hide (by have := RSt.new (w.alloc (Obj.cells #[.bool x.rd, .bool x.wt, .int .i64 x.mode, .int .i64 x.size, .slice oa x.out.length oc, .slice ia x.inn.length ic, .slice ba x.back.length bc, .int .i64 x.dir, .bool x.fin, .bool x.bad, .bool x.closed] 58)) x (.slice pa x.out.length pc) (.slice qa x.inn.length qc) (.slice ra x.back.length rc); rw [show (w.alloc (Obj.cells #[.bool x.rd, .bool x.wt, .int .i64 x.mode, .int .i64 x.size, .slice oa x.out.length oc, .slice ia x.inn.length ic, .slice ba x.back.length bc, .int .i64 x.dir, .bool x.fin, .bool x.bad, .bool x.closed] 58)).heap.size = w.heap.size + 1 from Array.size_push ..] at this; exact this)
  generalize (w.alloc (Obj.cells #[.bool x.rd, .bool x.wt, .int .i64 x.mode, .int .i64 x.size, .slice oa x.out.length oc, .slice ia x.inn.length ic, .slice ba x.back.length bc, .int .i64 x.dir, .bool x.fin, .bool x.bad, .bool x.closed] 58)).alloc (Obj.cells #[.bool x.rd, .bool x.wt, .int .i64 x.mode, .int .i64 x.size, .slice pa x.out.length pc, .slice qa x.inn.length qc, .slice ra x.back.length rc, .int .i64 x.dir, .bool x.fin, .bool x.bad, .bool x.closed] 52) = w0 at *
  have HK := hide (fun (W : World) (hW : Below w0.heap.size w0 W) => (show (fun W => W.cell? ⟨w.heap.size, 0, none⟩ = some (.bool x.rd) ∧ W.cell? ⟨w.heap.size, 1, none⟩ = some (.bool x.wt) ∧ W.cell? ⟨w.heap.size, 2, none⟩ = some (.int .i64 x.mode) ∧ W.cell? ⟨w.heap.size, 3, none⟩ = some (.int .i64 x.size) ∧ W.cell? ⟨w.heap.size, 4, none⟩ = some (.slice oa x.out.length oc) ∧ W.cell? ⟨w.heap.size, 5, none⟩ = some (.slice ia x.inn.length ic) ∧ W.cell? ⟨w.heap.size, 6, none⟩ = some (.slice ba x.back.length bc) ∧ W.cell? ⟨w.heap.size, 7, none⟩ = some (.int .i64 x.dir) ∧ W.cell? ⟨w.heap.size, 8, none⟩ = some (.bool x.fin) ∧ W.cell? ⟨w.heap.size, 9, none⟩ = some (.bool x.bad) ∧ W.cell? ⟨w.heap.size, 10, none⟩ = some (.bool x.closed) ∧ W.cell? ⟨w.heap.size + 1, 0, none⟩ = some (.bool x.rd) ∧ W.cell? ⟨w.heap.size + 1, 1, none⟩ = some (.bool x.wt) ∧ W.cell? ⟨w.heap.size + 1, 2, none⟩ = some (.int .i64 x.mode) ∧ W.cell? ⟨w.heap.size + 1, 3, none⟩ = some (.int .i64 x.size) ∧ W.cell? ⟨w.heap.size + 1, 4, none⟩ = some (.slice pa x.out.length pc) ∧ W.cell? ⟨w.heap.size + 1, 5, none⟩ = some (.slice qa x.inn.length qc) ∧ W.cell? ⟨w.heap.size + 1, 6, none⟩ = some (.slice ra x.back.length rc) ∧ W.cell? ⟨w.heap.size + 1, 7, none⟩ = some (.int .i64 x.dir) ∧ W.cell? ⟨w.heap.size + 1, 8, none⟩ = some (.bool x.fin) ∧ W.cell? ⟨w.heap.size + 1, 9, none⟩ = some (.bool x.bad) ∧ W.cell? ⟨w.heap.size + 1, 10, none⟩ = some (.bool x.closed)) W from by
    obtain ⟨c0, c1, c2, c3, c4, c5, c6, c7, c8, c9, c10⟩ := (HA0.out.below hW).cs
    obtain ⟨d0, d1, d2, d3, d4, d5, d6, d7, d8, d9, d10⟩ := (HR0.out.below hW).cs
    exact ⟨c0, c1, c2, c3, c4, c5, c6, c7, c8, c9, c10, d0, d1, d2, d3, d4, d5, d6, d7, d8, d9, d10⟩))
  clear HA0 HR0
  obtain ⟨c0, c1, c2, c3, c4, c5, c6, c7, c8, c9, c10, d0, d1, d2, d3, d4, d5, d6, d7, d8, d9, d10⟩ := HK.out w0 (Below.refl _ _)
  go_wp2_with fail
  refine (HS1.out _ HB0.out).mono ?_
  rintro _ w1 ⟨rfl, hB1⟩
  have HB1 : Hid (Below w0.heap.size w0 w1) := hide hB1
  clear hB1
  clear c0 c1 c2 c3 c4 c5 c6 c7 c8 c9 c10 d0 d1 d2 d3 d4 d5 d6 d7 d8 d9 d10
  obtain ⟨c0, c1, c2, c3, c4, c5, c6, c7, c8, c9, c10, d0, d1, d2, d3, d4, d5, d6, d7, d8, d9, d10⟩ := HK.out w1 HB1.out
  go_wp2_with fail
  refine (HS2.out _ (HB0.out.trans (HB1.out.mono HB0.out.size))).mono ?_
  rintro _ w2 ⟨rfl, hB2⟩
  have HB2 : Hid (Below w0.heap.size w0 w2) := hide (HB1.out.trans (hB2.mono HB1.out.size))
  clear hB2
  clear c0 c1 c2 c3 c4 c5 c6 c7 c8 c9 c10 d0 d1 d2 d3 d4 d5 d6 d7 d8 d9 d10
  obtain ⟨c0, c1, c2, c3, c4, c5, c6, c7, c8, c9, c10, d0, d1, d2, d3, d4, d5, d6, d7, d8, d9, d10⟩ := HK.out w2 HB2.out
  go_wp2_with fail
  refine (HS3.out _ (HB0.out.trans (HB2.out.mono HB0.out.size))).mono ?_
  rintro _ w3 ⟨rfl, hB3⟩
  have HB3 : Hid (Below w0.heap.size w0 w3) := hide (HB2.out.trans (hB3.mono HB2.out.size))
  clear hB3
  clear c0 c1 c2 c3 c4 c5 c6 c7 c8 c9 c10 d0 d1 d2 d3 d4 d5 d6 d7 d8 d9 d10
  obtain ⟨c0, c1, c2, c3, c4, c5, c6, c7, c8, c9, c10, d0, d1, d2, d3, d4, d5, d6, d7, d8, d9, d10⟩ := HK.out w3 HB3.out
  go_wp2
  go_ret
  exact ⟨rfl, HB0.out.trans (HB3.out.mono HB0.out.size)⟩
end Go.Proofs.YtdmkjbdlidadiaaGreat

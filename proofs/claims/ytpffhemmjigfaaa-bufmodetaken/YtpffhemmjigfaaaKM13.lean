/- What the proof stands on, part 13: the contracts of the program's calls that it reaches. -/
import Derived.Test.YtpffhemmjigfaaaKM12
import Derived.Deep.RegionLaw
import Derived.Deep.DeepCutAuto
/- Bytes pushed back: the law's num, reading, alive. -/
namespace Go.Proofs.Ytpffhemmjigfaaa
open Go.RowKit

theorem pnum_is (x : Int) (w : World) : Calls Try.prog 16 #[.int .i64 x] w fun e w' => e = .returned (.int .i64 x) ∧ w = w' := by
  go_enter Try.func16, Try.ntmps16
  go_wp2
  go_ret
  exact ⟨rfl, rfl⟩
set_option maxRecDepth 100000 in
set_option maxHeartbeats 2000000 in
theorem reading_any (w : World) : Calls Try.prog 34 #[] w fun e w' => e = .returned (.agg #[.bool (xR 3 4).rd, .bool (xR 3 4).wt, .int .i64 (xR 3 4).mode, .int .i64 (xR 3 4).size, .slice none 0 0, .slice none 0 0, .slice none 0 0, .int .i64 (xR 3 4).dir, .bool (xR 3 4).fin, .bool (xR 3 4).bad, .bool (xR 3 4).closed]) ∧ Below w.heap.size w w' := by
  have hN := fun W => sNew_any moR 3 4 W
  rw [new_R, if_pos (by decide), if_pos (by decide)] at hN
  simp only at hN
  unfold mv at hN
  have HN := hide hN
  clear hN
  go_enter Try.func34, Try.ntmps34
  go_wp2_with fail
  have HB0 := hide (recv_below w (Obj.cells #[.bool false, .bool false, .int .i64 0, .int .i64 0, .slice none 0 0, .slice none 0 0, .slice none 0 0, .int .i64 0, .bool false, .bool false, .bool false] 25))
  have HZ0 := hide (heap_alloc_new w (Obj.cells #[.bool false, .bool false, .int .i64 0, .int .i64 0, .slice none 0 0, .slice none 0 0, .slice none 0 0, .int .i64 0, .bool false, .bool false, .bool false] 25))
  generalize w.alloc (Obj.cells #[.bool false, .bool false, .int .i64 0, .int .i64 0, .slice none 0 0, .slice none 0 0, .slice none 0 0, .int .i64 0, .bool false, .bool false, .bool false] 25) = w0 at *
  refine (HN.out _).mono ?_
  rintro _ w1 ⟨rfl, hB1⟩
  have hl0 := (Array.getElem?_eq_some_iff.1 HZ0.out).1
  have hz1 := hB1.size
  have HZ1 := hide ((hB1.block w.heap.size hl0).trans HZ0.out)
  have HB1 := hide (HB0.out.trans (hB1.mono HB0.out.size))
  clear hB1 HZ0 HB0 HN
  have hBr := recv_below w1 (Obj.cells #[.bool (xR 3 4).rd, .bool (xR 3 4).wt, .int .i64 (xR 3 4).mode, .int .i64 (xR 3 4).size, .slice none 0 0, .slice none 0 0, .slice none 0 0, .int .i64 (xR 3 4).dir, .bool (xR 3 4).fin, .bool (xR 3 4).bad, .bool (xR 3 4).closed] 25)
  have hZ2 := (hBr.block w.heap.size (by omega)).trans HZ1.out
  have HB2 := hide (HB1.out.trans (hBr.mono HB1.out.size))
  obtain ⟨e1, e2⟩ := st_fill _ w.heap.size (xR 3 4) (.slice none 0 0) (.slice none 0 0) (.slice none 0 0) hZ2
  have HE := hide e1
  have HB3 := hide (HB2.out.trans (e2.below (B := w.heap.size) (fun k e => by have e' : k = w.heap.size := e; omega) (by have := hBr.size; omega)))
  have HS2 := hide (StAt.new w1 (xR 3 4) (.slice none 0 0) (.slice none 0 0) (.slice none 0 0))
  have f0 := frozen_of_row (w1.alloc (Obj.cells #[.bool (xR 3 4).rd, .bool (xR 3 4).wt, .int .i64 (xR 3 4).mode, .int .i64 (xR 3 4).size, .slice none 0 0, .slice none 0 0, .slice none 0 0, .int .i64 (xR 3 4).dir, .bool (xR 3 4).fin, .bool (xR 3 4).bad, .bool (xR 3 4).closed] 25)) w.heap.size 0 _ _ hZ2
  have f1 := frozen_of_row (w1.alloc (Obj.cells #[.bool (xR 3 4).rd, .bool (xR 3 4).wt, .int .i64 (xR 3 4).mode, .int .i64 (xR 3 4).size, .slice none 0 0, .slice none 0 0, .slice none 0 0, .int .i64 (xR 3 4).dir, .bool (xR 3 4).fin, .bool (xR 3 4).bad, .bool (xR 3 4).closed] 25)) w.heap.size 1 _ _ hZ2
  have f2 := frozen_of_row (w1.alloc (Obj.cells #[.bool (xR 3 4).rd, .bool (xR 3 4).wt, .int .i64 (xR 3 4).mode, .int .i64 (xR 3 4).size, .slice none 0 0, .slice none 0 0, .slice none 0 0, .int .i64 (xR 3 4).dir, .bool (xR 3 4).fin, .bool (xR 3 4).bad, .bool (xR 3 4).closed] 25)) w.heap.size 2 _ _ hZ2
  have f3 := frozen_of_row (w1.alloc (Obj.cells #[.bool (xR 3 4).rd, .bool (xR 3 4).wt, .int .i64 (xR 3 4).mode, .int .i64 (xR 3 4).size, .slice none 0 0, .slice none 0 0, .slice none 0 0, .int .i64 (xR 3 4).dir, .bool (xR 3 4).fin, .bool (xR 3 4).bad, .bool (xR 3 4).closed] 25)) w.heap.size 3 _ _ hZ2
  have f4 := frozen_of_row (w1.alloc (Obj.cells #[.bool (xR 3 4).rd, .bool (xR 3 4).wt, .int .i64 (xR 3 4).mode, .int .i64 (xR 3 4).size, .slice none 0 0, .slice none 0 0, .slice none 0 0, .int .i64 (xR 3 4).dir, .bool (xR 3 4).fin, .bool (xR 3 4).bad, .bool (xR 3 4).closed] 25)) w.heap.size 4 _ _ hZ2
  have f5 := frozen_of_row (w1.alloc (Obj.cells #[.bool (xR 3 4).rd, .bool (xR 3 4).wt, .int .i64 (xR 3 4).mode, .int .i64 (xR 3 4).size, .slice none 0 0, .slice none 0 0, .slice none 0 0, .int .i64 (xR 3 4).dir, .bool (xR 3 4).fin, .bool (xR 3 4).bad, .bool (xR 3 4).closed] 25)) w.heap.size 5 _ _ hZ2
  have f6 := frozen_of_row (w1.alloc (Obj.cells #[.bool (xR 3 4).rd, .bool (xR 3 4).wt, .int .i64 (xR 3 4).mode, .int .i64 (xR 3 4).size, .slice none 0 0, .slice none 0 0, .slice none 0 0, .int .i64 (xR 3 4).dir, .bool (xR 3 4).fin, .bool (xR 3 4).bad, .bool (xR 3 4).closed] 25)) w.heap.size 6 _ _ hZ2
  have f7 := frozen_of_row (w1.alloc (Obj.cells #[.bool (xR 3 4).rd, .bool (xR 3 4).wt, .int .i64 (xR 3 4).mode, .int .i64 (xR 3 4).size, .slice none 0 0, .slice none 0 0, .slice none 0 0, .int .i64 (xR 3 4).dir, .bool (xR 3 4).fin, .bool (xR 3 4).bad, .bool (xR 3 4).closed] 25)) w.heap.size 7 _ _ hZ2
  have f8 := frozen_of_row (w1.alloc (Obj.cells #[.bool (xR 3 4).rd, .bool (xR 3 4).wt, .int .i64 (xR 3 4).mode, .int .i64 (xR 3 4).size, .slice none 0 0, .slice none 0 0, .slice none 0 0, .int .i64 (xR 3 4).dir, .bool (xR 3 4).fin, .bool (xR 3 4).bad, .bool (xR 3 4).closed] 25)) w.heap.size 8 _ _ hZ2
  have f9 := frozen_of_row (w1.alloc (Obj.cells #[.bool (xR 3 4).rd, .bool (xR 3 4).wt, .int .i64 (xR 3 4).mode, .int .i64 (xR 3 4).size, .slice none 0 0, .slice none 0 0, .slice none 0 0, .int .i64 (xR 3 4).dir, .bool (xR 3 4).fin, .bool (xR 3 4).bad, .bool (xR 3 4).closed] 25)) w.heap.size 9 _ _ hZ2
  have f10 := frozen_of_row (w1.alloc (Obj.cells #[.bool (xR 3 4).rd, .bool (xR 3 4).wt, .int .i64 (xR 3 4).mode, .int .i64 (xR 3 4).size, .slice none 0 0, .slice none 0 0, .slice none 0 0, .int .i64 (xR 3 4).dir, .bool (xR 3 4).fin, .bool (xR 3 4).bad, .bool (xR 3 4).closed] 25)) w.heap.size 10 _ _ hZ2
  have d0 := cell_of_row (w1.alloc (Obj.cells #[.bool (xR 3 4).rd, .bool (xR 3 4).wt, .int .i64 (xR 3 4).mode, .int .i64 (xR 3 4).size, .slice none 0 0, .slice none 0 0, .slice none 0 0, .int .i64 (xR 3 4).dir, .bool (xR 3 4).fin, .bool (xR 3 4).bad, .bool (xR 3 4).closed] 25)) w.heap.size 0 _ _ _ hZ2
  have d1 := cell_of_row (w1.alloc (Obj.cells #[.bool (xR 3 4).rd, .bool (xR 3 4).wt, .int .i64 (xR 3 4).mode, .int .i64 (xR 3 4).size, .slice none 0 0, .slice none 0 0, .slice none 0 0, .int .i64 (xR 3 4).dir, .bool (xR 3 4).fin, .bool (xR 3 4).bad, .bool (xR 3 4).closed] 25)) w.heap.size 1 _ _ _ hZ2
  have d2 := cell_of_row (w1.alloc (Obj.cells #[.bool (xR 3 4).rd, .bool (xR 3 4).wt, .int .i64 (xR 3 4).mode, .int .i64 (xR 3 4).size, .slice none 0 0, .slice none 0 0, .slice none 0 0, .int .i64 (xR 3 4).dir, .bool (xR 3 4).fin, .bool (xR 3 4).bad, .bool (xR 3 4).closed] 25)) w.heap.size 2 _ _ _ hZ2
  have d3 := cell_of_row (w1.alloc (Obj.cells #[.bool (xR 3 4).rd, .bool (xR 3 4).wt, .int .i64 (xR 3 4).mode, .int .i64 (xR 3 4).size, .slice none 0 0, .slice none 0 0, .slice none 0 0, .int .i64 (xR 3 4).dir, .bool (xR 3 4).fin, .bool (xR 3 4).bad, .bool (xR 3 4).closed] 25)) w.heap.size 3 _ _ _ hZ2
  have d4 := cell_of_row (w1.alloc (Obj.cells #[.bool (xR 3 4).rd, .bool (xR 3 4).wt, .int .i64 (xR 3 4).mode, .int .i64 (xR 3 4).size, .slice none 0 0, .slice none 0 0, .slice none 0 0, .int .i64 (xR 3 4).dir, .bool (xR 3 4).fin, .bool (xR 3 4).bad, .bool (xR 3 4).closed] 25)) w.heap.size 4 _ _ _ hZ2
  have d5 := cell_of_row (w1.alloc (Obj.cells #[.bool (xR 3 4).rd, .bool (xR 3 4).wt, .int .i64 (xR 3 4).mode, .int .i64 (xR 3 4).size, .slice none 0 0, .slice none 0 0, .slice none 0 0, .int .i64 (xR 3 4).dir, .bool (xR 3 4).fin, .bool (xR 3 4).bad, .bool (xR 3 4).closed] 25)) w.heap.size 5 _ _ _ hZ2
  have d6 := cell_of_row (w1.alloc (Obj.cells #[.bool (xR 3 4).rd, .bool (xR 3 4).wt, .int .i64 (xR 3 4).mode, .int .i64 (xR 3 4).size, .slice none 0 0, .slice none 0 0, .slice none 0 0, .int .i64 (xR 3 4).dir, .bool (xR 3 4).fin, .bool (xR 3 4).bad, .bool (xR 3 4).closed] 25)) w.heap.size 6 _ _ _ hZ2
  have d7 := cell_of_row (w1.alloc (Obj.cells #[.bool (xR 3 4).rd, .bool (xR 3 4).wt, .int .i64 (xR 3 4).mode, .int .i64 (xR 3 4).size, .slice none 0 0, .slice none 0 0, .slice none 0 0, .int .i64 (xR 3 4).dir, .bool (xR 3 4).fin, .bool (xR 3 4).bad, .bool (xR 3 4).closed] 25)) w.heap.size 7 _ _ _ hZ2
  have d8 := cell_of_row (w1.alloc (Obj.cells #[.bool (xR 3 4).rd, .bool (xR 3 4).wt, .int .i64 (xR 3 4).mode, .int .i64 (xR 3 4).size, .slice none 0 0, .slice none 0 0, .slice none 0 0, .int .i64 (xR 3 4).dir, .bool (xR 3 4).fin, .bool (xR 3 4).bad, .bool (xR 3 4).closed] 25)) w.heap.size 8 _ _ _ hZ2
  have d9 := cell_of_row (w1.alloc (Obj.cells #[.bool (xR 3 4).rd, .bool (xR 3 4).wt, .int .i64 (xR 3 4).mode, .int .i64 (xR 3 4).size, .slice none 0 0, .slice none 0 0, .slice none 0 0, .int .i64 (xR 3 4).dir, .bool (xR 3 4).fin, .bool (xR 3 4).bad, .bool (xR 3 4).closed] 25)) w.heap.size 9 _ _ _ hZ2
  have d10 := cell_of_row (w1.alloc (Obj.cells #[.bool (xR 3 4).rd, .bool (xR 3 4).wt, .int .i64 (xR 3 4).mode, .int .i64 (xR 3 4).size, .slice none 0 0, .slice none 0 0, .slice none 0 0, .int .i64 (xR 3 4).dir, .bool (xR 3 4).fin, .bool (xR 3 4).bad, .bool (xR 3 4).closed] 25)) w.heap.size 10 _ _ _ hZ2
  simp at d0 d1 d2 d3 d4 d5 d6 d7 d8 d9 d10
  obtain ⟨c0, c1, c2, c3, c4, c5, c6, c7, c8, c9, c10⟩ := HS2.out.cs
  clear hZ2 e1 e2 hBr
  go_wp2
  refine bodyPost_ret (results_cell_row rfl _ _ w.heap.size _ _ _ _ rfl HE.out Try.underlying25 rfl (by kernel_rfl)) rfl ?_
  exact ⟨rfl, HB3.out⟩
/-- The page's example. -/
def pxA : SS := ⟨true, false, 3, 4, [], [], [97], 1, false, false, false⟩
def pxB : SS := ⟨true, false, 3, 4, [], [], [97, 98], 1, false, false, false⟩
def pxC : SS := ⟨true, false, 3, 4, [], [], [98, 97], 1, false, false, false⟩
theorem px_a : (xR 3 4).unget [97] = (pxA, 0) := by rfl
theorem px_b : pxA.unget [98] = (pxB, 0) := by rfl
theorem px_c : (xR 3 4).unget [97, 98] = (pxC, 0) := by rfl
theorem px_h : pxB.heldL = [98, 97] ∧ pxB.refuse true = 0 := ⟨by rfl, by rfl⟩
theorem px_k : pxC.heldL = [97, 98] ∧ pxC.refuse true = 0 := ⟨by rfl, by rfl⟩
set_option maxRecDepth 100000 in
set_option maxHeartbeats 4000000 in
theorem palive_any (w : World) : Calls Try.prog 18 #[] w fun e w' => e = .returned (.bool true) ∧ Below w.heap.size w w' := by
  go_enter Try.func18, Try.ntmps18
  go_wp2_with fail
  refine (reading_any _).mono ?_
  rintro _ w1 ⟨rfl, hB1⟩
  have HB1 := hide hB1
  clear hB1
  have hU := punget_any 97 (xR 3 4) (.slice none 0 0) (.slice none 0 0) (.slice none 0 0) (fun _ => True) w1 ⟨Sl.nil, Sl.nil, Sl.nil, fun _ _ => trivial, fun _ _ => trivial, fun _ _ => trivial⟩ (by decide) (by decide) (by decide)
  rw [px_a] at hU
  simp only at hU
  have HU := hide hU
  clear hU
  go_wp2_with fail
  refine HU.out.mono ?_
  rintro _ w2 ⟨o2, i2, b2, rfl, hO2, hB2⟩
  obtain ⟨a1, k1, rfl⟩ := owns_slice hO2.1
  obtain ⟨a2, k2, rfl⟩ := owns_slice hO2.2.1
  obtain ⟨a3, k3, rfl⟩ := owns_slice hO2.2.2.1
  have HB2 := hide (HB1.out.trans (hB2.mono HB1.out.size))
  have hst := StAt.new w2 pxA (.slice a1 pxA.out.length k1) (.slice a2 pxA.inn.length k2) (.slice a3 pxA.back.length k3)
  have hBr := recv_below w2 (Obj.cells #[.bool pxA.rd, .bool pxA.wt, .int .i64 pxA.mode, .int .i64 pxA.size, .slice a1 pxA.out.length k1, .slice a2 pxA.inn.length k2, .slice a3 pxA.back.length k3, .int .i64 pxA.dir, .bool pxA.fin, .bool pxA.bad, .bool pxA.closed] 25)
  have HB3 := hide (HB2.out.trans (hBr.mono HB2.out.size))
  have hU := punget_any 98 pxA _ _ _ _ _ (hO2.below hBr).sin (by decide) (by decide) (by decide)
  rw [px_b] at hU
  simp only at hU
  have HU := hide hU
  have HS := hide hst
  have hg3 := hst.lt
  have hzw2 := HB2.out.size
  obtain ⟨c0, c1, c2, c3, c4, c5, c6, c7, c8, c9, c10⟩ := hst.cs
  clear hU hO2 hB2 hst hBr HB1 HB2
  go_wp2_with fail
  generalize w2.alloc (Obj.cells #[.bool pxA.rd, .bool pxA.wt, .int .i64 pxA.mode, .int .i64 pxA.size, .slice a1 pxA.out.length k1, .slice a2 pxA.inn.length k2, .slice a3 pxA.back.length k3, .int .i64 pxA.dir, .bool pxA.fin, .bool pxA.bad, .bool pxA.closed] 25) = w3 at *
  refine HU.out.mono ?_
  rintro _ w4 ⟨o4, i4, b4, rfl, hO4, hB4⟩
  clear c0 c1 c2 c3 c4 c5 c6 c7 c8 c9 c10 HU
  obtain ⟨b1, m1, rfl⟩ := owns_slice hO4.1
  obtain ⟨b2, m2, rfl⟩ := owns_slice hO4.2.1
  obtain ⟨b3, m3, rfl⟩ := owns_slice hO4.2.2.1
  have hst := HS.out.below hB4
  have HB4 := hide (HB3.out.trans (hB4.mono HB3.out.size))
  have hz4 := hB4.size
  have hzw := HB3.out.size
  obtain ⟨e1, e2⟩ := st_fill2 w4 w2.heap.size pxA pxB _ _ _ (.slice b1 pxB.out.length m1) (.slice b2 pxB.inn.length m2) (.slice b3 pxB.back.length m3) hst
  have hH := callsIn_wide.1 (pheld_in 3 (Nat.le_refl _) pxB _ _ _ _ _ (hO4.turned e2 (fun k h1 h2 e => by have e' : k = w2.heap.size := e; omega)).sin (by decide) (by decide))
  rw [px_h.1, px_h.2] at hH
  have HH := hide hH
  have HS5 := hide e1
  have HB5 := hide (HB4.out.trans (e2.below (B := w.heap.size) (fun k e => by have e' : k = w2.heap.size := e; omega) HB4.out.size))
  obtain ⟨c0, c1, c2, c3, c4, c5, c6, c7, c8, c9, c10⟩ := hst.cs
  have f0 := hst.soft 0
  have f1 := hst.soft 1
  have f2 := hst.soft 2
  have f3 := hst.soft 3
  have f4 := hst.soft 4
  have f5 := hst.soft 5
  have f6 := hst.soft 6
  have f7 := hst.soft 7
  have f8 := hst.soft 8
  have f9 := hst.soft 9
  have f10 := hst.soft 10
  unfold filled at HS5 HB5 HH
  clear hst hO4 hB4 e1 e2 hH HS HB3 HB4
  go_wp2_with fail
  generalize (((((((((((w4.setCell ⟨w2.heap.size, 0, none⟩ (.bool pxB.rd)).setCell ⟨w2.heap.size, 1, none⟩ (.bool pxB.wt)).setCell ⟨w2.heap.size, 2, none⟩ (.int .i64 pxB.mode)).setCell ⟨w2.heap.size, 3, none⟩ (.int .i64 pxB.size)).setCell ⟨w2.heap.size, 4, none⟩ (.slice b1 pxB.out.length m1)).setCell ⟨w2.heap.size, 5, none⟩ (.slice b2 pxB.inn.length m2)).setCell ⟨w2.heap.size, 6, none⟩ (.slice b3 pxB.back.length m3)).setCell ⟨w2.heap.size, 7, none⟩ (.int .i64 pxB.dir)).setCell ⟨w2.heap.size, 8, none⟩ (.bool pxB.fin)).setCell ⟨w2.heap.size, 9, none⟩ (.bool pxB.bad)).setCell ⟨w2.heap.size, 10, none⟩ (.bool pxB.closed)) = w5 at *
  clear c0 c1 c2 c3 c4 c5 c6 c7 c8 c9 c10 f0 f1 f2 f3 f4 f5 f6 f7 f8 f9 f10 HS5
  refine HH.out.mono ?_
  rintro _ w6 ⟨v6, rfl, hO6, hB6⟩
  obtain ⟨p6, q6, rfl⟩ := owns_slice hO6
  have HO6 := hide hO6
  have HB6 := hide (HB5.out.trans (hB6.mono HB5.out.size))
  clear hO6 hB6 HH HB5
  go_wp2_with fail
  refine (reading_any _).mono ?_
  rintro _ w7 ⟨rfl, hB7⟩
  have HO7 := hide (owns_below HO6.out hB7)
  have HB7 := hide (HB6.out.trans (hB7.mono HB6.out.size))
  clear hB7 HO6 HB6
  have cl := bconv_lit w7 #[.int .u8 97, .int .u8 98] 2 2 rfl
  have hb3 := blit_bys w7 [97, 98] #[.int .u8 97, .int .u8 98] 2 (2, 3) rfl rfl
  have hBl := (Below.refl _ w7).alloc (Nat.le_refl _) (Obj.cells #[.int .u8 97, .int .u8 98] 5 (2, 3))
  have HO8 := hide (owns_below HO7.out hBl)
  have HB8 := hide (HB7.out.trans (hBl.mono HB7.out.size))
  have hU := callsIn_wide.1 (pungetAll_in 3 (Nat.le_refl _) (xR 3 4) (.slice none 0 0) (.slice none 0 0) (.slice none 0 0) (fun _ => True) (some ⟨w7.heap.size, 0, none⟩) 2 [97, 98] _ ⟨Sl.nil, Sl.nil, Sl.nil, fun _ _ => trivial, fun _ _ => trivial, fun _ _ => trivial⟩ (by decide) (by decide) (by decide) hb3 (by decide))
  rw [px_c] at hU
  simp only [List.length_cons, List.length_nil, Nat.reduceAdd] at hU
  have HU := hide hU
  clear hU hb3 hBl HO7 HB7
  go_wp2_with fail
  generalize w7.alloc (Obj.cells #[.int .u8 97, .int .u8 98] 5 (2, 3)) = w8 at *
  refine HU.out.mono ?_
  rintro _ w9 ⟨o9, i9, b9, rfl, hO9, hB9⟩
  clear HU cl
  obtain ⟨t1, n1, rfl⟩ := owns_slice hO9.1
  obtain ⟨t2, n2, rfl⟩ := owns_slice hO9.2.1
  obtain ⟨t3, n3, rfl⟩ := owns_slice hO9.2.2.1
  have hst := StAt.new w9 pxC (.slice t1 pxC.out.length n1) (.slice t2 pxC.inn.length n2) (.slice t3 pxC.back.length n3)
  have hBr := recv_below w9 (Obj.cells #[.bool pxC.rd, .bool pxC.wt, .int .i64 pxC.mode, .int .i64 pxC.size, .slice t1 pxC.out.length n1, .slice t2 pxC.inn.length n2, .slice t3 pxC.back.length n3, .int .i64 pxC.dir, .bool pxC.fin, .bool pxC.bad, .bool pxC.closed] 25)
  have HB9 := hide (HB8.out.trans (hB9.mono HB8.out.size))
  have HB10 := hide (HB9.out.trans (hBr.mono HB9.out.size))
  have HO10 := hide (owns_below (owns_below HO8.out hB9) hBr)
  have hH := callsIn_wide.1 (pheld_in 3 (Nat.le_refl _) pxC _ _ _ _ _ (hO9.below hBr).sin (by decide) (by decide))
  rw [px_k.1, px_k.2] at hH
  have HH := hide hH
  obtain ⟨c0, c1, c2, c3, c4, c5, c6, c7, c8, c9, c10⟩ := hst.cs
  clear hH hO9 hB9 hst hBr HB8 HB9 HO8
  go_wp2_with fail
  generalize w9.alloc (Obj.cells #[.bool pxC.rd, .bool pxC.wt, .int .i64 pxC.mode, .int .i64 pxC.size, .slice t1 pxC.out.length n1, .slice t2 pxC.inn.length n2, .slice t3 pxC.back.length n3, .int .i64 pxC.dir, .bool pxC.fin, .bool pxC.bad, .bool pxC.closed] 25) = w10 at *
  clear c0 c1 c2 c3 c4 c5 c6 c7 c8 c9 c10
  refine HH.out.mono ?_
  rintro _ w11 ⟨v11, rfl, hO11, hB11⟩
  obtain ⟨p11, q11, rfl⟩ := owns_slice hO11
  have s11 := owns_string hO11
  have s6 := owns_string (owns_below HO10.out hB11)
  have HB11 := hide (HB10.out.trans (hB11.mono HB10.out.size))
  clear hO11 hB11 HH HB10 HO10
  simp only [List.length_cons, List.length_nil, Nat.reduceAdd] at s6 s11 ⊢
  go_wp2_with (first | (go_at_call 16; refine (pnum_is _ _).mono ?_; rintro _ _ ⟨rfl, rfl⟩) | fail)
  go_ret
  exact ⟨rfl, HB11.out⟩
end Go.Proofs.Ytpffhemmjigfaaa

/- PushbackSteps: the walk. -/
namespace Go.Proofs.Ytpffhemmjigfaaa
open Go.RowKit

theorem bys_len13 {W : World} {a : Option Addr} {n c : Nat} {l : List UInt8} (h : Bys W (.slice a n c) l) : n = l.length := by
  obtain ⟨_, _, e, -⟩ := bys_form h
  cases e
  rfl
theorem unget_len (x : SS) (t : List UInt8) (ho : x.out.length ≤ 140737488351232) (hi : x.inn.length ≤ 140737488351232) (hb : x.back.length ≤ 140737488351232) : (x.unget t).1.out.length ≤ 140737488351232 ∧ (x.unget t).1.inn.length ≤ 140737488351232 ∧ (x.unget t).1.back.length ≤ 140737488351232 := by
  unfold SS.unget
  split
  · exact ⟨ho, hi, hb⟩
  · rename_i h
    have h0 : x.noPush t.length = 0 := by
      by_cases e : x.noPush t.length = 0
      · exact e
      · exact absurd (.inl e) h
    have := (noPush_may h0).2.2.2
    refine ⟨ho, hi, ?_⟩
    simp only [List.length_append, List.length_reverse]
    omega
theorem held_len (x : SS) : x.heldL.length ≤ 140737488351232 := by
  unfold SS.heldL
  split
  · simp
  · rename_i h
    have h0 : x.refuse true = 0 := by simpa using h
    have := may_buf (refuse_may h0).1
    simp only [List.length_append, List.length_reverse]
    omega
theorem SIn.all {W : World} {P : Nat → Prop} {x : SS} {o i b : Value} (h : SIn W P x o i b) : SIn W (fun _ => True) x o i b := h.mono fun _ _ => trivial
set_option maxRecDepth 100000 in
set_option maxHeartbeats 8000000 in
theorem psteps_any (x : SS) (o i b : Value) (c : UInt8) (ta : Option Addr) (tn tc : Nat) (t : List UInt8) (w : World) (h : SIn w (fun _ => True) x o i b) (ho : x.out.length ≤ 140737488351232) (hi : x.inn.length ≤ 140737488351232) (hb : x.back.length ≤ 140737488351232) (hby : Bys w (.slice ta tn tc) t) (htl : t.length ≤ 140737488351232) :
    Calls Try.prog 3 #[.agg #[.bool x.rd, .bool x.wt, .int .i64 x.mode, .int .i64 x.size, o, i, b, .int .i64 x.dir, .bool x.fin, .bool x.bad, .bool x.closed], .int .u8 (c.toNat : Int), .slice ta tn tc] w fun e w' => e = .returned (.bool true) ∧ Below w.heap.size w w' := by
  obtain rfl := bys_len13 hby
  have HI := hide h
  have HBy := hide hby
  obtain ⟨s1, s4, rfl, -⟩ := h.so
  obtain ⟨s2, s5, rfl, -⟩ := h.si
  obtain ⟨s3, s6, rfl, -⟩ := h.sb
  clear h hby
  obtain ⟨q1, hq1⟩ : ∃ q, q = x.unget [c] := ⟨_, rfl⟩
  obtain ⟨q2, hq2⟩ : ∃ q, q = x.unget t := ⟨_, rfl⟩
  have hl1 := unget_len x [c] ho hi hb
  have hl2 := unget_len x t ho hi hb
  have hl3 := held_len x
  obtain ⟨L, hL⟩ : ∃ L, L = x.heldL := ⟨_, rfl⟩
  obtain ⟨E, hE⟩ : ∃ E, E = x.refuse true := ⟨_, rfl⟩
  rw [← hq1] at hl1
  rw [← hq2] at hl2
  rw [← hL] at hl3
  have HU1 := hide (fun (o i b : Value) W (hs : SIn W (fun _ => True) x o i b) => punget_any c x o i b _ W hs ho hi hb)
  have HU2 := hide (fun (o i b : Value) W (hs : SIn W (fun _ => True) x o i b) => runget_any c x o i b _ W hs ho hi hb)
  have HU3 := hide (fun (o i b : Value) W (hs : SIn W (fun _ => True) x o i b) (hb2 : Bys W (.slice ta t.length tc) t) => callsIn_wide.1 (pungetAll_in 3 (Nat.le_refl _) x o i b _ ta tc t W hs ho hi hb hb2 htl))
  have HU4 := hide (fun (o i b : Value) W (hs : SIn W (fun _ => True) x o i b) (hb2 : Bys W (.slice ta t.length tc) t) => rungetAll_any x o i b _ ta tc t W hs ho hi hb hb2 htl)
  have HU5 := hide (fun (o i b : Value) W (hs : SIn W (fun _ => True) x o i b) => callsIn_wide.1 (pheld_in 3 (Nat.le_refl _) x o i b _ W hs hi hb))
  have HU6 := hide (fun (o i b : Value) W (hs : SIn W (fun _ => True) x o i b) => rheld13_any x o i b _ W hs hi hb)
  have HGv := hide (fun W (hs : SIn W (fun _ => True) x (.slice s1 x.out.length s4) (.slice s2 x.inn.length s5) (.slice s3 x.back.length s6)) => given_any x _ _ _ _ W hs ho hi hb)
  rw [← hq1] at HU1 HU2
  rw [← hq2] at HU3 HU4
  rw [← hL, ← hE] at HU5 HU6
  clear hq1 hq2 hL hE
  obtain ⟨y, e⟩ := q1
  obtain ⟨z, e'⟩ := q2
  simp only at HU1 HU2 HU3 HU4 hl1 hl2
  go_enter Try.func3, Try.ntmps3
  have HW : Hid (Below w.heap.size w w) := hide (Below.refl _ _)
  have hA := recv_below w (Obj.cells #[.bool x.rd, .bool x.wt, .int .i64 x.mode, .int .i64 x.size, .slice s1 x.out.length s4, .slice s2 x.inn.length s5, .slice s3 x.back.length s6, .int .i64 x.dir, .bool x.fin, .bool x.bad, .bool x.closed] 24)
  have HS := hide (RSt.new w x (.slice s1 x.out.length s4) (.slice s2 x.inn.length s5) (.slice s3 x.back.length s6))
  replace HW := hide (HW.out.trans (hA.mono HW.out.size))
  replace HI := hide (HI.out.below hA)
  replace HBy := hide (HBy.out.below hA)
  clear hA
  obtain ⟨c0, c1, c2, c3, c4, c5, c6, c7, c8, c9, c10⟩ := HS.out.cs
  go_wp2_with fail
  clear c0 c1 c2 c3 c4 c5 c6 c7 c8 c9 c10
  generalize w.alloc (Obj.cells #[.bool x.rd, .bool x.wt, .int .i64 x.mode, .int .i64 x.size, .slice s1 x.out.length s4, .slice s2 x.inn.length s5, .slice s3 x.back.length s6, .int .i64 x.dir, .bool x.fin, .bool x.bad, .bool x.closed] 24) = w0 at *
  refine (HGv.out _ HI.out).mono ?_
  rintro _ w1 ⟨o1, i1, b1, rfl, y1, y2, y3, hB, -⟩
  obtain ⟨g1, g4, rfl⟩ := owns_slice y1
  obtain ⟨g2, g5, rfl⟩ := owns_slice y2
  obtain ⟨g3, g6, rfl⟩ := owns_slice y3
  have HGi : Hid (SIn w1 (fun _ => True) x (.slice g1 x.out.length g4) (.slice g2 x.inn.length g5) (.slice g3 x.back.length g6)) := hide ⟨Sl.own y1, Sl.own y2, Sl.own y3, fun _ _ => trivial, fun _ _ => trivial, fun _ _ => trivial⟩
  replace HW := hide (HW.out.trans (hB.mono HW.out.size))
  replace HI := hide (HI.out.below hB)
  replace HBy := hide (HBy.out.below hB)
  replace HS := hide (HS.out.below hB)
  clear y1 y2 y3 hB HGv
  have hA := recv_below w1 (Obj.cells #[.bool x.rd, .bool x.wt, .int .i64 x.mode, .int .i64 x.size, .slice g1 x.out.length g4, .slice g2 x.inn.length g5, .slice g3 x.back.length g6, .int .i64 x.dir, .bool x.fin, .bool x.bad, .bool x.closed] 25)
  have HG := hide (StAt.new w1 x (.slice g1 x.out.length g4) (.slice g2 x.inn.length g5) (.slice g3 x.back.length g6))
  replace HW := hide (HW.out.trans (hA.mono HW.out.size))
  replace HI := hide (HI.out.below hA)
  replace HBy := hide (HBy.out.below hA)
  replace HS := hide (HS.out.below hA)
  replace HGi := hide (HGi.out.below hA)
  clear hA
  obtain ⟨c0, c1, c2, c3, c4, c5, c6, c7, c8, c9, c10⟩ := HG.out.cs
  go_wp2_with fail
  clear c0 c1 c2 c3 c4 c5 c6 c7 c8 c9 c10
  generalize w1.alloc (Obj.cells #[.bool x.rd, .bool x.wt, .int .i64 x.mode, .int .i64 x.size, .slice g1 x.out.length g4, .slice g2 x.inn.length g5, .slice g3 x.back.length g6, .int .i64 x.dir, .bool x.fin, .bool x.bad, .bool x.closed] 25) = w2 at *
  refine (HU1.out _ _ _ _ HGi.out).mono ?_
  rintro _ w3 ⟨o1, i1, b1, rfl, hO, hB⟩
  obtain ⟨x1, x4, rfl⟩ := owns_slice hO.1
  obtain ⟨x2, x5, rfl⟩ := owns_slice hO.2.1
  obtain ⟨x3, x6, rfl⟩ := owns_slice hO.2.2.1
  have HXi := hide hO.sin.all
  replace HW := hide (HW.out.trans (hB.mono HW.out.size))
  replace HI := hide (HI.out.below hB)
  replace HBy := hide (HBy.out.below hB)
  replace HS := hide (HS.out.below hB)
  replace HGi := hide (HGi.out.below hB)
  replace HG := hide (HG.out.below hB)
  clear hO hB
  have hA := recv_below w3 (Obj.cells #[.bool y.rd, .bool y.wt, .int .i64 y.mode, .int .i64 y.size, .slice x1 y.out.length x4, .slice x2 y.inn.length x5, .slice x3 y.back.length x6, .int .i64 y.dir, .bool y.fin, .bool y.bad, .bool y.closed] 25)
  have HX := hide (StAt.new w3 y (.slice x1 y.out.length x4) (.slice x2 y.inn.length x5) (.slice x3 y.back.length x6))
  replace HW := hide (HW.out.trans (hA.mono HW.out.size))
  replace HI := hide (HI.out.below hA)
  replace HBy := hide (HBy.out.below hA)
  replace HS := hide (HS.out.below hA)
  replace HGi := hide (HGi.out.below hA)
  replace HG := hide (HG.out.below hA)
  replace HXi := hide (HXi.out.below hA)
  clear hA
  obtain ⟨c0, c1, c2, c3, c4, c5, c6, c7, c8, c9, c10⟩ := HS.out.cs
  go_wp2_with fail
  clear c0 c1 c2 c3 c4 c5 c6 c7 c8 c9 c10
  generalize w3.alloc (Obj.cells #[.bool y.rd, .bool y.wt, .int .i64 y.mode, .int .i64 y.size, .slice x1 y.out.length x4, .slice x2 y.inn.length x5, .slice x3 y.back.length x6, .int .i64 y.dir, .bool y.fin, .bool y.bad, .bool y.closed] 25) = w4 at *
  refine (HU2.out _ _ _ _ HI.out).mono ?_
  rintro _ w5 ⟨o1, i1, b1, rfl, hO, hB⟩
  obtain ⟨y1, y4, rfl⟩ := owns_slice hO.1
  obtain ⟨y2, y5, rfl⟩ := owns_slice hO.2.1
  obtain ⟨y3, y6, rfl⟩ := owns_slice hO.2.2.1
  have HYi := hide hO.sin.all
  replace HW := hide (HW.out.trans (hB.mono HW.out.size))
  replace HI := hide (HI.out.below hB)
  replace HBy := hide (HBy.out.below hB)
  replace HS := hide (HS.out.below hB)
  replace HGi := hide (HGi.out.below hB)
  replace HG := hide (HG.out.below hB)
  replace HXi := hide (HXi.out.below hB)
  replace HX := hide (HX.out.below hB)
  clear hO hB
  have hA := recv_below w5 (Obj.cells #[.bool y.rd, .bool y.wt, .int .i64 y.mode, .int .i64 y.size, .slice y1 y.out.length y4, .slice y2 y.inn.length y5, .slice y3 y.back.length y6, .int .i64 y.dir, .bool y.fin, .bool y.bad, .bool y.closed] 24)
  have HY := hide (RSt.new w5 y (.slice y1 y.out.length y4) (.slice y2 y.inn.length y5) (.slice y3 y.back.length y6))
  replace HW := hide (HW.out.trans (hA.mono HW.out.size))
  replace HI := hide (HI.out.below hA)
  replace HBy := hide (HBy.out.below hA)
  replace HS := hide (HS.out.below hA)
  replace HGi := hide (HGi.out.below hA)
  replace HG := hide (HG.out.below hA)
  replace HXi := hide (HXi.out.below hA)
  replace HX := hide (HX.out.below hA)
  replace HYi := hide (HYi.out.below hA)
  clear hA
  obtain ⟨c0, c1, c2, c3, c4, c5, c6, c7, c8, c9, c10⟩ := HG.out.cs
  go_wp2_with fail
  clear c0 c1 c2 c3 c4 c5 c6 c7 c8 c9 c10
  generalize w5.alloc (Obj.cells #[.bool y.rd, .bool y.wt, .int .i64 y.mode, .int .i64 y.size, .slice y1 y.out.length y4, .slice y2 y.inn.length y5, .slice y3 y.back.length y6, .int .i64 y.dir, .bool y.fin, .bool y.bad, .bool y.closed] 24) = w6 at *
  refine (HU3.out _ _ _ _ HGi.out HBy.out).mono ?_
  rintro _ w7 ⟨o1, i1, b1, rfl, hO, hB⟩
  obtain ⟨u1, u4, rfl⟩ := owns_slice hO.1
  obtain ⟨u2, u5, rfl⟩ := owns_slice hO.2.1
  obtain ⟨u3, u6, rfl⟩ := owns_slice hO.2.2.1
  have HUi := hide hO.sin.all
  replace HW := hide (HW.out.trans (hB.mono HW.out.size))
  replace HI := hide (HI.out.below hB)
  replace HBy := hide (HBy.out.below hB)
  replace HS := hide (HS.out.below hB)
  replace HGi := hide (HGi.out.below hB)
  replace HG := hide (HG.out.below hB)
  replace HXi := hide (HXi.out.below hB)
  replace HX := hide (HX.out.below hB)
  replace HYi := hide (HYi.out.below hB)
  replace HY := hide (HY.out.below hB)
  clear hO hB
  have hA := recv_below w7 (Obj.cells #[.bool z.rd, .bool z.wt, .int .i64 z.mode, .int .i64 z.size, .slice u1 z.out.length u4, .slice u2 z.inn.length u5, .slice u3 z.back.length u6, .int .i64 z.dir, .bool z.fin, .bool z.bad, .bool z.closed] 25)
  have HUs := hide (StAt.new w7 z (.slice u1 z.out.length u4) (.slice u2 z.inn.length u5) (.slice u3 z.back.length u6))
  replace HW := hide (HW.out.trans (hA.mono HW.out.size))
  replace HI := hide (HI.out.below hA)
  replace HBy := hide (HBy.out.below hA)
  replace HS := hide (HS.out.below hA)
  replace HGi := hide (HGi.out.below hA)
  replace HG := hide (HG.out.below hA)
  replace HXi := hide (HXi.out.below hA)
  replace HX := hide (HX.out.below hA)
  replace HYi := hide (HYi.out.below hA)
  replace HY := hide (HY.out.below hA)
  replace HUi := hide (HUi.out.below hA)
  clear hA
  obtain ⟨c0, c1, c2, c3, c4, c5, c6, c7, c8, c9, c10⟩ := HS.out.cs
  go_wp2_with fail
  clear c0 c1 c2 c3 c4 c5 c6 c7 c8 c9 c10
  generalize w7.alloc (Obj.cells #[.bool z.rd, .bool z.wt, .int .i64 z.mode, .int .i64 z.size, .slice u1 z.out.length u4, .slice u2 z.inn.length u5, .slice u3 z.back.length u6, .int .i64 z.dir, .bool z.fin, .bool z.bad, .bool z.closed] 25) = w8 at *
  refine (HU4.out _ _ _ _ HI.out HBy.out).mono ?_
  rintro _ w9 ⟨o1, i1, b1, rfl, hO, hB⟩
  obtain ⟨v1, v4, rfl⟩ := owns_slice hO.1
  obtain ⟨v2, v5, rfl⟩ := owns_slice hO.2.1
  obtain ⟨v3, v6, rfl⟩ := owns_slice hO.2.2.1
  have HVi := hide hO.sin.all
  replace HW := hide (HW.out.trans (hB.mono HW.out.size))
  replace HI := hide (HI.out.below hB)
  replace HBy := hide (HBy.out.below hB)
  replace HS := hide (HS.out.below hB)
  replace HGi := hide (HGi.out.below hB)
  replace HG := hide (HG.out.below hB)
  replace HXi := hide (HXi.out.below hB)
  replace HX := hide (HX.out.below hB)
  replace HYi := hide (HYi.out.below hB)
  replace HY := hide (HY.out.below hB)
  replace HUi := hide (HUi.out.below hB)
  replace HUs := hide (HUs.out.below hB)
  clear hO hB
  have hA := recv_below w9 (Obj.cells #[.bool z.rd, .bool z.wt, .int .i64 z.mode, .int .i64 z.size, .slice v1 z.out.length v4, .slice v2 z.inn.length v5, .slice v3 z.back.length v6, .int .i64 z.dir, .bool z.fin, .bool z.bad, .bool z.closed] 24)
  have HV := hide (RSt.new w9 z (.slice v1 z.out.length v4) (.slice v2 z.inn.length v5) (.slice v3 z.back.length v6))
  replace HW := hide (HW.out.trans (hA.mono HW.out.size))
  replace HI := hide (HI.out.below hA)
  replace HBy := hide (HBy.out.below hA)
  replace HS := hide (HS.out.below hA)
  replace HGi := hide (HGi.out.below hA)
  replace HG := hide (HG.out.below hA)
  replace HXi := hide (HXi.out.below hA)
  replace HX := hide (HX.out.below hA)
  replace HYi := hide (HYi.out.below hA)
  replace HY := hide (HY.out.below hA)
  replace HUi := hide (HUi.out.below hA)
  replace HUs := hide (HUs.out.below hA)
  replace HVi := hide (HVi.out.below hA)
  clear hA
  obtain ⟨c0, c1, c2, c3, c4, c5, c6, c7, c8, c9, c10⟩ := HG.out.cs
  go_wp2_with fail
  clear c0 c1 c2 c3 c4 c5 c6 c7 c8 c9 c10
  generalize w9.alloc (Obj.cells #[.bool z.rd, .bool z.wt, .int .i64 z.mode, .int .i64 z.size, .slice v1 z.out.length v4, .slice v2 z.inn.length v5, .slice v3 z.back.length v6, .int .i64 z.dir, .bool z.fin, .bool z.bad, .bool z.closed] 24) = w10 at *
  refine (HU5.out _ _ _ _ HGi.out).mono ?_
  rintro _ w11 ⟨m, rfl, hO, hB⟩
  obtain ⟨ma, mc, rfl⟩ := owns_slice hO
  have HM := hide (Bys.of_owns hO)
  replace HW := hide (HW.out.trans (hB.mono HW.out.size))
  replace HI := hide (HI.out.below hB)
  replace HBy := hide (HBy.out.below hB)
  replace HS := hide (HS.out.below hB)
  replace HGi := hide (HGi.out.below hB)
  replace HG := hide (HG.out.below hB)
  replace HXi := hide (HXi.out.below hB)
  replace HX := hide (HX.out.below hB)
  replace HYi := hide (HYi.out.below hB)
  replace HY := hide (HY.out.below hB)
  replace HUi := hide (HUi.out.below hB)
  replace HUs := hide (HUs.out.below hB)
  replace HVi := hide (HVi.out.below hB)
  replace HV := hide (HV.out.below hB)
  clear hO hB
  obtain ⟨c0, c1, c2, c3, c4, c5, c6, c7, c8, c9, c10⟩ := HS.out.cs
  go_wp2_with fail
  clear c0 c1 c2 c3 c4 c5 c6 c7 c8 c9 c10
  refine (HU6.out _ _ _ _ HI.out).mono ?_
  rintro _ w12 ⟨n, rfl, hO, hB⟩
  obtain ⟨na, nc, rfl⟩ := owns_slice hO
  have HN := hide (Bys.of_owns hO)
  replace HW := hide (HW.out.trans (hB.mono HW.out.size))
  replace HI := hide (HI.out.below hB)
  replace HBy := hide (HBy.out.below hB)
  replace HS := hide (HS.out.below hB)
  replace HGi := hide (HGi.out.below hB)
  replace HG := hide (HG.out.below hB)
  replace HXi := hide (HXi.out.below hB)
  replace HX := hide (HX.out.below hB)
  replace HYi := hide (HYi.out.below hB)
  replace HY := hide (HY.out.below hB)
  replace HUi := hide (HUi.out.below hB)
  replace HUs := hide (HUs.out.below hB)
  replace HVi := hide (HVi.out.below hB)
  replace HV := hide (HV.out.below hB)
  replace HM := hide (HM.out.below hB)
  clear hO hB HU1 HU2 HU3 HU4 HU5 HU6
  obtain ⟨c0, c1, c2, c3, c4, c5, c6, c7, c8, c9, c10⟩ := HX.out.cs
  obtain ⟨d0, d1, d2, d3, d4, d5, d6, d7, d8, d9, d10⟩ := HY.out.cs
  go_wp2_with (first | (go_at_call 16; refine (pnum_is _ _).mono ?_; rintro _ _ ⟨rfl, rfl⟩) | fail)
  clear c0 c1 c2 c3 c4 c5 c6 c7 c8 c9 c10
  clear d0 d1 d2 d3 d4 d5 d6 d7 d8 d9 d10
  refine (ssame_any y _ _ _ _ _ _ _ _ _ HXi.out HYi.out hl1.1 hl1.2.1 hl1.2.2).mono ?_
  rintro _ w13 ⟨rfl, hB⟩
  replace HW := hide (HW.out.trans (hB.mono HW.out.size))
  replace HI := hide (HI.out.below hB)
  replace HBy := hide (HBy.out.below hB)
  replace HS := hide (HS.out.below hB)
  replace HGi := hide (HGi.out.below hB)
  replace HG := hide (HG.out.below hB)
  replace HXi := hide (HXi.out.below hB)
  replace HX := hide (HX.out.below hB)
  replace HYi := hide (HYi.out.below hB)
  replace HY := hide (HY.out.below hB)
  replace HUi := hide (HUi.out.below hB)
  replace HUs := hide (HUs.out.below hB)
  replace HVi := hide (HVi.out.below hB)
  replace HV := hide (HV.out.below hB)
  replace HM := hide (HM.out.below hB)
  replace HN := hide (HN.out.below hB)
  clear hB
  obtain ⟨c0, c1, c2, c3, c4, c5, c6, c7, c8, c9, c10⟩ := HUs.out.cs
  obtain ⟨d0, d1, d2, d3, d4, d5, d6, d7, d8, d9, d10⟩ := HV.out.cs
  go_wp2_with (first | (go_at_call 16; refine (pnum_is _ _).mono ?_; rintro _ _ ⟨rfl, rfl⟩) | fail)
  clear c0 c1 c2 c3 c4 c5 c6 c7 c8 c9 c10
  clear d0 d1 d2 d3 d4 d5 d6 d7 d8 d9 d10
  refine (ssame_any z _ _ _ _ _ _ _ _ _ HUi.out HVi.out hl2.1 hl2.2.1 hl2.2.2).mono ?_
  rintro _ w14 ⟨rfl, hB⟩
  replace HW := hide (HW.out.trans (hB.mono HW.out.size))
  replace HI := hide (HI.out.below hB)
  replace HBy := hide (HBy.out.below hB)
  replace HS := hide (HS.out.below hB)
  replace HGi := hide (HGi.out.below hB)
  replace HG := hide (HG.out.below hB)
  replace HXi := hide (HXi.out.below hB)
  replace HX := hide (HX.out.below hB)
  replace HYi := hide (HYi.out.below hB)
  replace HY := hide (HY.out.below hB)
  replace HUi := hide (HUi.out.below hB)
  replace HUs := hide (HUs.out.below hB)
  replace HVi := hide (HVi.out.below hB)
  replace HV := hide (HV.out.below hB)
  replace HM := hide (HM.out.below hB)
  replace HN := hide (HN.out.below hB)
  clear hB
  go_wp2_with (first | (go_at_call 16; refine (pnum_is _ _).mono ?_; rintro _ _ ⟨rfl, rfl⟩) | fail)
  refine (same_any _ _ L _ HM.out HN.out (by unfold maxLen; omega)).mono ?_
  rintro _ w15 ⟨rfl, hB⟩
  replace HW := hide (HW.out.trans (hB.mono HW.out.size))
  replace HI := hide (HI.out.below hB)
  replace HBy := hide (HBy.out.below hB)
  replace HS := hide (HS.out.below hB)
  replace HGi := hide (HGi.out.below hB)
  replace HG := hide (HG.out.below hB)
  replace HXi := hide (HXi.out.below hB)
  replace HX := hide (HX.out.below hB)
  replace HYi := hide (HYi.out.below hB)
  replace HY := hide (HY.out.below hB)
  replace HUi := hide (HUi.out.below hB)
  replace HUs := hide (HUs.out.below hB)
  replace HVi := hide (HVi.out.below hB)
  replace HV := hide (HV.out.below hB)
  replace HM := hide (HM.out.below hB)
  replace HN := hide (HN.out.below hB)
  clear hB
  obtain ⟨c0, c1, c2, c3, c4, c5, c6, c7, c8, c9, c10⟩ := HG.out.cs
  obtain ⟨d0, d1, d2, d3, d4, d5, d6, d7, d8, d9, d10⟩ := HS.out.cs
  go_wp2_with (first | (go_at_call 16; refine (pnum_is _ _).mono ?_; rintro _ _ ⟨rfl, rfl⟩) | fail)
  clear c0 c1 c2 c3 c4 c5 c6 c7 c8 c9 c10
  clear d0 d1 d2 d3 d4 d5 d6 d7 d8 d9 d10
  refine (ssame_any x _ _ _ _ _ _ _ _ _ HGi.out HI.out ho hi hb).mono ?_
  rintro _ w16 ⟨rfl, hB⟩
  replace HW := hide (HW.out.trans (hB.mono HW.out.size))
  replace HI := hide (HI.out.below hB)
  replace HBy := hide (HBy.out.below hB)
  replace HS := hide (HS.out.below hB)
  replace HGi := hide (HGi.out.below hB)
  replace HG := hide (HG.out.below hB)
  replace HXi := hide (HXi.out.below hB)
  replace HX := hide (HX.out.below hB)
  replace HYi := hide (HYi.out.below hB)
  replace HY := hide (HY.out.below hB)
  replace HUi := hide (HUi.out.below hB)
  replace HUs := hide (HUs.out.below hB)
  replace HVi := hide (HVi.out.below hB)
  replace HV := hide (HV.out.below hB)
  replace HM := hide (HM.out.below hB)
  replace HN := hide (HN.out.below hB)
  clear hB
  go_wp2_with (first | (go_at_call 16; refine (pnum_is _ _).mono ?_; rintro _ _ ⟨rfl, rfl⟩) | fail)
  refine (palive_any _).mono ?_
  rintro _ w17 ⟨rfl, hB⟩
  replace HW := hide (HW.out.trans (hB.mono HW.out.size))
  clear hB
  go_wp2
  go_ret
  exact ⟨rfl, HW.out⟩
end Go.Proofs.Ytpffhemmjigfaaa

/- PushbackOne: the walk. -/
namespace Go.Proofs.Ytpffhemmjigfaaa
open Go.RowKit

/-- The state behind pushing back l, one by one, where all of it goes. -/
def SS.pushed (x : SS) (l : List UInt8) : SS := if l = [] then x else { x with back := x.back ++ l.reverse, dir := 1, fin := false }
theorem unget_pushed {x : SS} {l : List UInt8} (h : l = [] ∨ x.noPush l.length = 0) : (x.unget l).1 = x.pushed l := by
  unfold SS.unget SS.pushed
  by_cases e : l = []
  · rw [if_pos (.inr e), if_pos e]
  · have h0 := h.resolve_left e
    rw [if_neg (by simp [e, h0]), if_neg e]
theorem noPush_base (x : SS) (n m : Nat) (h : x.noPush n ≠ 0) (hm : n ≤ m) : x.noPush m = x.noPush n := by
  unfold SS.noPush at h ⊢
  split
  · rfl
  · split
    · rfl
    · split
      · rfl
      · rename_i h1 h2 h3
        rw [if_neg h1, if_neg h2, if_neg h3] at h
        by_cases h4 : (8 : Int) - x.back.length < n
        · rw [if_pos (by omega), if_pos h4]
        · rw [if_neg h4] at h
          exact absurd rfl h
theorem may_turned {x : SS} (h : x.may = true) (hr : x.rd = true) (hd : x.dir ≠ 2) (hc : x.closed = false) (bk : List UInt8) (hb : bk.length ≤ 8) (f : Bool) : ({ x with back := bk, dir := 1, fin := f } : SS).may = true := by
  obtain ⟨h1, h2, h3, h4, h5, h6, h7, h8, h9⟩ := (may_iff x).1 h
  refine (may_iff _).2 ⟨h1, h2, h3, h4, h5, h6, h7, hb, .inr (.inl ⟨rfl, hr, ?_, hc⟩)⟩
  rcases h9 with ⟨-, e, -⟩ | ⟨-, -, e, -⟩ | ⟨e, -⟩
  · exact e
  · exact e
  · exact absurd e hd
theorem noPush_zero {x : SS} {n : Nat} (h1 : x.refuse true = 0) (h2 : x.rd = true) (h3 : x.dir ≠ 2) (h4 : (n : Int) ≤ 8 - x.back.length) : x.noPush n = 0 := by
  unfold SS.noPush
  rw [if_neg (by simp [h1]), if_neg (by simp [h2]), if_neg h3, if_neg (by omega)]
theorem refuse_zero {x : SS} (h1 : x.may = true) (h2 : x.closed = false) : x.refuse true = 0 := by
  unfold SS.refuse
  rw [if_neg (by simp [h1]), if_neg (by simp), if_neg (by simp [h2])]
theorem noPush_val {x : SS} {n : Nat} (h1 : x.refuse true = 0) (h2 : x.rd = true) (h3 : x.dir ≠ 2) : x.noPush n = if (8 : Int) - x.back.length < n then 31 else 0 := by
  unfold SS.noPush
  rw [if_neg (by simp [h1]), if_neg (by simp [h2]), if_neg h3]
/-- One more. -/
theorem pushed_step (x : SS) (l : List UInt8) (c : UInt8) (h : l = [] ∨ x.noPush l.length = 0) :
    (x.pushed l).unget [c] = if x.noPush (l.length + 1) = 0 then (x.pushed (c :: l), 0) else (x.pushed l, x.noPush (l.length + 1)) := by
  by_cases e : l = []
  · subst e
    unfold SS.pushed SS.unget
    simp only [List.length_nil, Nat.zero_add, if_true, List.length_cons]
    split
    · rename_i h1
      rw [if_neg (h1.resolve_right (by simp))]
    · rename_i h1
      rw [if_pos (by by_cases e : x.noPush 1 = 0; exact e; exact absurd (.inl e) h1), if_neg (by simp)]
  · have h0 := h.resolve_left e
    obtain ⟨m1, m2, m3, m4⟩ := noPush_may h0
    have hm := (refuse_may m1)
    have hp : x.pushed l = { x with back := x.back ++ l.reverse, dir := 1, fin := false } := by unfold SS.pushed; rw [if_neg e]
    have hp2 : x.pushed (c :: l) = { x with back := x.back ++ (c :: l).reverse, dir := 1, fin := false } := by unfold SS.pushed; rw [if_neg (by simp)]
    have hlen : (x.back ++ l.reverse).length ≤ 8 := by simp only [List.length_append, List.length_reverse]; omega
    have r1 : (x.pushed l).refuse true = 0 := by rw [hp]; exact refuse_zero (may_turned hm.1 m2 m3 hm.2.2 _ hlen _) hm.2.2
    have n1 : (x.pushed l).noPush 1 = x.noPush (l.length + 1) := by
      rw [noPush_val r1 (by rw [hp]; exact m2) (by rw [hp]; simp), noPush_val m1 m2 m3, hp]
      simp only [List.length_append, List.length_reverse]
      by_cases h4 : (8 : Int) - x.back.length < ((l.length + 1 : Nat) : Int)
      · rw [if_pos (by omega), if_pos h4]
      · rw [if_neg (by omega), if_neg h4]
    unfold SS.unget
    simp only [List.length_cons, List.length_nil, Nat.zero_add]
    rw [n1]
    by_cases h5 : x.noPush (l.length + 1) = 0
    · rw [if_neg (by simp [h5]), if_pos h5, hp, hp2]
      simp
    · rw [if_pos (.inl h5), if_neg h5]

theorem drop_next (t : List UInt8) (j : Nat) (hj : j < t.length) : t.drop j = t.getD j 0 :: t.drop (j + 1) := by
  rw [List.drop_eq_getElem_cons hj]
  simp [List.getD_eq_getElem?_getD, hj]
/-- Where the loop stands: the state so far, and the error so far. -/
def OnJ (x : SS) (t : List UInt8) (k : Nat) (y : SS) (f : Int) : Prop :=
  (f = 0 ∧ y = x.pushed (t.drop k) ∧ (t.drop k = [] ∨ x.noPush (t.drop k).length = 0)) ∨ (f ≠ 0 ∧ f = x.noPush t.length ∧ y.out.length ≤ 140737488351232 ∧ y.inn.length ≤ 140737488351232 ∧ y.back.length ≤ 140737488351232)
theorem onJ_len {x : SS} {t : List UInt8} {k : Nat} {y : SS} {f : Int} (h : OnJ x t k y f) (ho : x.out.length ≤ 140737488351232) (hi : x.inn.length ≤ 140737488351232) (hb : x.back.length ≤ 140737488351232) : y.out.length ≤ 140737488351232 ∧ y.inn.length ≤ 140737488351232 ∧ y.back.length ≤ 140737488351232 := by
  rcases h with ⟨-, rfl, h2⟩ | ⟨-, -, h⟩
  · rw [← unget_pushed h2]
    exact unget_len x _ ho hi hb
  · exact h
theorem onJ_step {x : SS} {t : List UInt8} {j : Nat} {y : SS} (h : OnJ x t (j + 1) y 0) (hj : j < t.length) (ho : x.out.length ≤ 140737488351232) (hi : x.inn.length ≤ 140737488351232) (hb : x.back.length ≤ 140737488351232) : OnJ x t j (y.unget [t.getD j 0]).1 (y.unget [t.getD j 0]).2 := by
  rcases h with ⟨-, rfl, h2⟩ | ⟨h, -⟩
  case inr => exact absurd rfl h
  have hl : (t.drop (j + 1)).length + 1 = (t.drop j).length := by simp only [List.length_drop]; omega
  have hle : (t.drop j).length ≤ t.length := by simp only [List.length_drop]; omega
  rw [pushed_step x _ _ h2, hl]
  by_cases h3 : x.noPush (t.drop j).length = 0
  · rw [if_pos h3, ← drop_next t j hj]
    exact .inl ⟨rfl, rfl, .inr h3⟩
  · rw [if_neg h3]
    refine .inr ⟨h3, (noPush_base x _ _ h3 hle).symm, ?_⟩
    rw [← unget_pushed h2]
    exact unget_len x _ ho hi hb
/-- What the loop ends with. -/
theorem onJ_end {x : SS} {t : List UInt8} {k : Nat} {y : SS} {f : Int} (h : OnJ x t k y f) (hk : k = 0 ∨ f ≠ 0) (ht : t ≠ []) : f = (x.unget t).2 ∧ (f = 0 → y = (x.unget t).1) := by
  have h2 : (x.unget t).2 = x.noPush t.length := by
    unfold SS.unget
    by_cases e : x.noPush t.length = 0
    · rw [if_neg (by simp [e, ht]), e]
    · rw [if_pos (.inl e)]
  rcases h with ⟨rfl, rfl, h3⟩ | ⟨h3, h4, -⟩
  · obtain rfl := hk.resolve_right (by simp)
    rw [List.drop_zero] at h3 ⊢
    exact ⟨by rw [h2, h3.resolve_left ht], fun _ => (unget_pushed h3).symm⟩
  · exact ⟨by rw [h2, h4], fun e => absurd e h3⟩
theorem unget_err {x : SS} {t : List UInt8} (h : (x.unget t).2 ≠ 0 ∨ t = []) : (x.unget t).1 = x := by
  unfold SS.unget at h ⊢
  by_cases e : x.noPush t.length ≠ 0 ∨ t = []
  · rw [if_pos e]
  · rw [if_neg e] at h
    rcases h with h | h
    · exact absurd rfl h
    · exact absurd (.inr h) e

set_option maxRecDepth 100000 in
set_option maxHeartbeats 8000000 in
theorem pone_any (x : SS) (o i b : Value) (ta : Option Addr) (tn tc : Nat) (t : List UInt8) (w : World) (h : SIn w (fun _ => True) x o i b) (ho : x.out.length ≤ 140737488351232) (hi : x.inn.length ≤ 140737488351232) (hb : x.back.length ≤ 140737488351232) (hby : Bys w (.slice ta tn tc) t) (htl : t.length ≤ 140737488351232) :
    Calls Try.prog 5 #[.agg #[.bool x.rd, .bool x.wt, .int .i64 x.mode, .int .i64 x.size, o, i, b, .int .i64 x.dir, .bool x.fin, .bool x.bad, .bool x.closed], .slice ta tn tc] w fun e w' => e = .returned (.bool true) ∧ Below w.heap.size w w' := by
  obtain rfl := bys_len13 hby
  have HI := hide h
  have HI1 := hide h
  have HBy := hide hby
  have HBy0 := hide hby
  obtain ⟨s1, s4, rfl, -⟩ := h.so
  obtain ⟨s2, s5, rfl, -⟩ := h.si
  obtain ⟨s3, s6, rfl, -⟩ := h.sb
  clear h hby
  obtain ⟨q2, hq2⟩ : ∃ q, q = x.unget t := ⟨_, rfl⟩
  have hl2 := unget_len x t ho hi hb
  rw [← hq2] at hl2
  have HU3 := hide (fun (o i b : Value) W (P : Nat → Prop) (hs : SIn W P x o i b) (hb2 : Bys W (.slice ta t.length tc) t) => callsIn_wide.1 (pungetAll_in 3 (Nat.le_refl _) x o i b _ ta tc t W hs ho hi hb hb2 htl))
  have HGv := hide (fun W (hs : SIn W (fun _ => True) x (.slice s1 x.out.length s4) (.slice s2 x.inn.length s5) (.slice s3 x.back.length s6)) => given_any x _ _ _ _ W hs ho hi hb)
  rw [← hq2] at HU3
  have HQ := hide hq2
  clear hq2
  obtain ⟨z, E⟩ := q2
  simp only at HU3 hl2
  go_enter Try.func5, Try.ntmps5
  have HW : Hid (Below w.heap.size w w) := hide (Below.refl _ _)
  have hA := recv_below w (Obj.cells #[.bool x.rd, .bool x.wt, .int .i64 x.mode, .int .i64 x.size, .slice s1 x.out.length s4, .slice s2 x.inn.length s5, .slice s3 x.back.length s6, .int .i64 x.dir, .bool x.fin, .bool x.bad, .bool x.closed] 24)
  have HS := hide (RSt.new w x (.slice s1 x.out.length s4) (.slice s2 x.inn.length s5) (.slice s3 x.back.length s6))
  replace HW := hide (HW.out.trans (hA.mono HW.out.size))
  replace HI := hide (HI.out.below hA)
  replace HBy := hide (HBy.out.below hA)
  clear hA
  obtain ⟨c0, c1, c2, c3, c4, c5, c6, c7, c8, c9, c10⟩ := HS.out.cs
  go_wp2_with fail
  clear c0 c1 c2 c3 c4 c5 c6 c7 c8 c9 c10
  generalize w.alloc (Obj.cells #[.bool x.rd, .bool x.wt, .int .i64 x.mode, .int .i64 x.size, .slice s1 x.out.length s4, .slice s2 x.inn.length s5, .slice s3 x.back.length s6, .int .i64 x.dir, .bool x.fin, .bool x.bad, .bool x.closed] 24) = w0 at *
  refine (palive_any _).mono ?_
  rintro _ w1 ⟨rfl, hB⟩
  replace HW := hide (HW.out.trans (hB.mono HW.out.size))
  replace HI := hide (HI.out.below hB)
  replace HBy := hide (HBy.out.below hB)
  replace HS := hide (HS.out.below hB)
  clear hB
  obtain ⟨c0, c1, c2, c3, c4, c5, c6, c7, c8, c9, c10⟩ := HS.out.cs
  go_wp2_with fail
  clear c0 c1 c2 c3 c4 c5 c6 c7 c8 c9 c10
  refine (HGv.out _ HI.out).mono ?_
  rintro _ w2 ⟨o1, i1, b1, rfl, y1, y2, y3, hB, hAp⟩
  obtain ⟨g1, g4, rfl⟩ := owns_slice y1
  obtain ⟨g2, g5, rfl⟩ := owns_slice y2
  obtain ⟨g3, g6, rfl⟩ := owns_slice y3
  have HX : Hid (Own3 w1.heap.size w2 x (.slice g1 x.out.length g4) (.slice g2 x.inn.length g5) (.slice g3 x.back.length g6)) := hide ⟨y1, y2, y3, hAp⟩
  replace HW := hide (HW.out.trans (hB.mono HW.out.size))
  replace HI := hide (HI.out.below hB)
  replace HBy := hide (HBy.out.below hB)
  replace HS := hide (HS.out.below hB)
  clear y1 y2 y3 hB hAp
  go_wp2_with fail
  refine (HU3.out _ _ _ _ _ HX.out.sin HBy.out).mono ?_
  rintro _ w3 ⟨o1, i1, b1, rfl, hO, hB⟩
  obtain ⟨u1, u4, rfl⟩ := owns_slice hO.1
  obtain ⟨u2, u5, rfl⟩ := owns_slice hO.2.1
  obtain ⟨u3, u6, rfl⟩ := owns_slice hO.2.2.1
  have HZ := hide (hO.sin.mono (Q := fun k => k < w3.heap.size) fun k e => e.2)
  have HI0 := HI1
  replace HW := hide (HW.out.trans (hB.mono HW.out.size))
  replace HI := hide (HI.out.below hB)
  replace HBy := hide (HBy.out.below hB)
  replace HS := hide (HS.out.below hB)
  clear hO hB HX HU3
  have hA := recv_below w3 (Obj.cells #[.bool z.rd, .bool z.wt, .int .i64 z.mode, .int .i64 z.size, .slice u1 z.out.length u4, .slice u2 z.inn.length u5, .slice u3 z.back.length u6, .int .i64 z.dir, .bool z.fin, .bool z.bad, .bool z.closed] 25)
  have HZs := hide (StAt.new w3 z (.slice u1 z.out.length u4) (.slice u2 z.inn.length u5) (.slice u3 z.back.length u6))
  replace HW := hide (HW.out.trans (hA.mono HW.out.size))
  replace HI := hide (HI.out.below hA)
  replace HBy := hide (HBy.out.below hA)
  replace HS := hide (HS.out.below hA)
  replace HZ := hide (HZ.out.below hA)
  clear hA
  obtain ⟨c0, c1, c2, c3, c4, c5, c6, c7, c8, c9, c10⟩ := HS.out.cs
  go_wp2_with fail
  clear c0 c1 c2 c3 c4 c5 c6 c7 c8 c9 c10
  generalize w3.alloc (Obj.cells #[.bool z.rd, .bool z.wt, .int .i64 z.mode, .int .i64 z.size, .slice u1 z.out.length u4, .slice u2 z.inn.length u5, .slice u3 z.back.length u6, .int .i64 z.dir, .bool z.fin, .bool z.bad, .bool z.closed] 25) = w4 at *
  refine (HGv.out _ HI.out).mono ?_
  rintro _ w5 ⟨o1, i1, b1, rfl, y1, y2, y3, hB, hAp⟩
  obtain ⟨v1, v4, rfl⟩ := owns_slice y1
  obtain ⟨v2, v5, rfl⟩ := owns_slice y2
  obtain ⟨v3, v6, rfl⟩ := owns_slice y3
  have HYy : Hid (SIn w5 (fun k => w4.heap.size ≤ k ∧ k < w5.heap.size) x (.slice v1 x.out.length v4) (.slice v2 x.inn.length v5) (.slice v3 x.back.length v6)) := hide ⟨Sl.own y1, Sl.own y2, Sl.own y3, fun k e => y1.lt k e, fun k e => y2.lt k e, fun k e => y3.lt k e⟩
  replace HW := hide (HW.out.trans (hB.mono HW.out.size))
  replace HI := hide (HI.out.below hB)
  replace HBy := hide (HBy.out.below hB)
  replace HS := hide (HS.out.below hB)
  replace HZ := hide (HZ.out.below hB)
  replace HZs := hide (HZs.out.below hB)
  clear y1 y2 y3 hB hAp HGv
  have HWz := hide (And.intro HW.out.size (And.intro HS.out.lt HZs.out.lt))
  have hA := recv_below w5 (Obj.cells #[.bool x.rd, .bool x.wt, .int .i64 x.mode, .int .i64 x.size, .slice v1 x.out.length v4, .slice v2 x.inn.length v5, .slice v3 x.back.length v6, .int .i64 x.dir, .bool x.fin, .bool x.bad, .bool x.closed] 25)
  have HYs := hide (StAt.new w5 x (.slice v1 x.out.length v4) (.slice v2 x.inn.length v5) (.slice v3 x.back.length v6))
  replace HW := hide (HW.out.trans (hA.mono HW.out.size))
  replace HI := hide (HI.out.below hA)
  replace HBy := hide (HBy.out.below hA)
  replace HS := hide (HS.out.below hA)
  replace HZ := hide (HZ.out.below hA)
  replace HZs := hide (HZs.out.below hA)
  replace HYy := hide (HYy.out.below hA)
  clear hA
  go_wp2_with fail
  have hg := HYs.out.lt
  generalize w5.alloc (Obj.cells #[.bool x.rd, .bool x.wt, .int .i64 x.mode, .int .i64 x.size, .slice v1 x.out.length v4, .slice v2 x.inn.length v5, .slice v3 x.back.length v6, .int .i64 x.dir, .bool x.fin, .bool x.bad, .bool x.closed] 25) = w6 at *
  obtain ⟨gy, hgy⟩ : ∃ g, g = w5.heap.size := ⟨_, rfl⟩
  have hgw : w.heap.size < gy := by have := HWz.out; omega
  have hgz : w3.heap.size < gy := by have := HWz.out; omega
  rw [← hgy] at HYs hg ⊢
  have HYi : Hid (SIn w6 (fun k => k ≠ gy) x (.slice v1 x.out.length v4) (.slice v2 x.inn.length v5) (.slice v3 x.back.length v6)) := hide (HYy.out.mono fun k e => by have e' : w4.heap.size ≤ k ∧ k < w5.heap.size := e; omega)
  have HO0 : Hid (OnJ x t t.length x 0) := hide (.inl ⟨rfl, by unfold SS.pushed; rw [if_pos (by simp)], .inl (by simp)⟩)
  clear hgy HYy HWz
  go_loopw [8, 9] (fun s8 s9 wr => ∃ (k : Nat) (y : SS) (f : Int) (o' i' b' : Value), k ≤ t.length ∧ s8 = .int .i64 f ∧ s9 = .int .i64 ((k : Int) - 1) ∧ Hid (OnJ x t k y f) ∧ Hid (StAt wr gy y o' i' b') ∧ Hid (SIn wr (fun k => k ≠ gy) y o' i' b') ∧ Hid (Turned (fun k => k = gy) w6 wr)) (fun _ s9 _ => (intOf s9 + 1).toNat)
  case atStart => exact ⟨t.length, x, 0, _, _, _, Nat.le_refl _, rfl, rfl, HO0, HYs, HYi, hide (Turned.refl _ _)⟩
  case round =>
    clear HYs HYi HO0
    obtain ⟨k, y, f, o', i', b', hk, rfl, rfl, HJ, HYs, HYi, HT⟩ := hrel
    obtain ⟨y1, y4, rfl, -⟩ := HYi.out.so
    obtain ⟨y2, y5, rfl, -⟩ := HYi.out.si
    obtain ⟨y3, y6, rfl, -⟩ := HYi.out.sb
    have hzr := HT.out.size
    have hyl := onJ_len HJ.out ho hi hb
    have HWr := hide (HW.out.trans (HT.out.below (B := w.heap.size) (fun k e => by have e' : k = gy := e; omega) HW.out.size))
    have HBr := hide (HBy0.out.below HWr.out)
    have HIr := hide (HI1.out.below HWr.out)
    have HZr := hide (HZ.out.turned HT.out fun k e _ e' => by have e1 : k < w3.heap.size := e; have e2 : k = gy := e'; omega)
    have HSr : Hid (RSt wr w.heap.size x (.slice s1 x.out.length s4) (.slice s2 x.inn.length s5) (.slice s3 x.back.length s6)) := hide ((HT.out.block _ HS.out.lt (by omega)).trans HS.out)
    have HZsr : Hid (StAt wr w3.heap.size z (.slice u1 z.out.length u4) (.slice u2 z.inn.length u5) (.slice u3 z.back.length u6)) := hide ((HT.out.block _ HZs.out.lt (by omega)).trans HZs.out)
    by_cases hgo : k = 0 ∨ f ≠ 0
    case pos =>
      have HE : Hid (t ≠ [] → f = E ∧ (f = 0 → y = z)) := hide (fun ht => by have := onJ_end HJ.out hgo ht; rw [← HQ.out] at this; exact this)
      have HZe : Hid (E ≠ 0 ∨ t = [] → z = x) := hide (fun h => by have := unget_err (x := x) (t := t); rw [← HQ.out] at this; exact this h)
      clear HQ HJ HT HI HW HZ HS HZs HBy HI0
      have hout : ∀ W (hB : Below wr.heap.size wr W), Below w.heap.size w W := fun W hB => HWr.out.trans (hB.mono HWr.out.size)
      have HOut := hide hout
      clear hout
      by_cases ht : t = []
      · have hz := HZe.out (.inr ht)
        subst hz ht
        obtain rfl : k = 0 := by simpa using hk
        clear HE HZe hgo
        obtain ⟨c0, c1, c2, c3, c4, c5, c6, c7, c8, c9, c10⟩ := HZsr.out.cs
        obtain ⟨d0, d1, d2, d3, d4, d5, d6, d7, d8, d9, d10⟩ := HSr.out.cs
        go_wp2_with (first | (go_at_call 16; refine (pnum_is _ _).mono ?_; rintro _ _ ⟨rfl, rfl⟩) | fail)
        refine (ssame_any z _ _ _ _ _ _ _ _ _ HZr.out HIr.out ho hi hb).mono ?_
        rintro _ w7 ⟨rfl, hB⟩
        have HF := hide (HOut.out _ hB)
        clear hB
        go_wp2
        go_ret
        exact ⟨rfl, HF.out⟩
      have htl0 : 0 < t.length := List.length_pos_iff.2 ht
      have htb : ((t.length : Int) == 0) = false := by simp; omega
      have ht1 : ¬ (t.length : Int) = 0 := by omega
      obtain ⟨hfE, hyz⟩ := HE.out ht
      subst hfE
      by_cases hE : f = 0
      · have hyz := hyz hE
        subst hyz hE
        obtain rfl : k = 0 := by simpa using hgo
        clear HE HZe hgo
        obtain ⟨c0, c1, c2, c3, c4, c5, c6, c7, c8, c9, c10⟩ := HZsr.out.cs
        obtain ⟨d0, d1, d2, d3, d4, d5, d6, d7, d8, d9, d10⟩ := HYs.out.cs
        go_wp2_with (first | (go_at_call 16; refine (pnum_is _ _).mono ?_; rintro _ _ ⟨rfl, rfl⟩) | fail)
        refine (ssame_any y _ _ _ _ _ _ _ _ _ HZr.out HYi.out hl2.1 hl2.2.1 hl2.2.2).mono ?_
        rintro _ w7 ⟨rfl, hB⟩
        have HF := hide (HOut.out _ hB)
        clear hB
        go_wp2
        go_ret
        exact ⟨rfl, HF.out⟩
      · have hz := HZe.out (.inl hE)
        subst hz
        clear HE HZe hyz
        have he1 : (f == 0) = false := by simp [hE]
        have he2 : (f != 0) = true := by simp [hE]
        obtain ⟨c0, c1, c2, c3, c4, c5, c6, c7, c8, c9, c10⟩ := HZsr.out.cs
        obtain ⟨d0, d1, d2, d3, d4, d5, d6, d7, d8, d9, d10⟩ := HSr.out.cs
        rcases k with _ | j
        · go_wp2_with (first | (go_at_call 16; refine (pnum_is _ _).mono ?_; rintro _ _ ⟨rfl, rfl⟩) | fail)
          refine (ssame_any z _ _ _ _ _ _ _ _ _ HZr.out HIr.out ho hi hb).mono ?_
          rintro _ w7 ⟨rfl, hB⟩
          have HF := hide (HOut.out _ hB)
          clear hB
          go_wp2
          go_ret
          exact ⟨rfl, HF.out⟩
        · have e1 : ((j + 1 : Nat) : Int) - 1 = (j : Int) := by omega
          rw [e1]
          have hj0 : (0 : Int) ≤ (j : Int) := by omega
          go_wp2_with (first | (go_at_call 16; refine (pnum_is _ _).mono ?_; rintro _ _ ⟨rfl, rfl⟩) | fail)
          refine (ssame_any z _ _ _ _ _ _ _ _ _ HZr.out HIr.out ho hi hb).mono ?_
          rintro _ w7 ⟨rfl, hB⟩
          have HF := hide (HOut.out _ hB)
          clear hB
          go_wp2
          go_ret
          exact ⟨rfl, HF.out⟩
    obtain ⟨j, rfl⟩ : ∃ j, k = j + 1 := ⟨k - 1, by omega⟩
    obtain rfl : f = 0 := by omega
    have e1 : ((j + 1 : Nat) : Int) - 1 = (j : Int) := by omega
    rw [e1]
    have hj0 : (0 : Int) ≤ (j : Int) := by omega
    have hj1 : (j : Int) < (t.length : Int) := by omega
    obtain ⟨-, bb, boff, rfl, -, hc⟩ := bys_block HBr.out (by omega)
    have hcj := hc j (by omega)
    have HJ2 := hide (onJ_step HJ.out (by omega) ho hi hb)
    have hpu := fun W (hW : Below wr.heap.size wr W) => punget_any (t.getD j 0) y _ _ _ _ W (HYi.out.below hW) hyl.1 hyl.2.1 hyl.2.2
    generalize t.getD j 0 = c at *
    generalize y.unget [c] = q at *
    obtain ⟨y', f'⟩ := q
    simp only at HJ2 hpu
    have HPu := hide hpu
    have hgr := HYs.out.lt
    have HN : Hid (∀ W1 (p1 p2 p3 : Value), Own3 wr.drew.heap.size W1 y' p1 p2 p3 → Below wr.drew.heap.size wr.drew W1 → StAt W1 gy y (.slice y1 y.out.length y4) (.slice y2 y.inn.length y5) (.slice y3 y.back.length y6) ∧ (StAt (filled W1 gy y' p1 p2 p3) gy y' p1 p2 p3 ∧ SIn (filled W1 gy y' p1 p2 p3) (fun k => k ≠ gy) y' p1 p2 p3 ∧ Turned (fun k => k = gy) w6 (filled W1 gy y' p1 p2 p3))) := hide (fun W1 p1 p2 p3 hO hB => by
      have hst : StAt W1 gy y (.slice y1 y.out.length y4) (.slice y2 y.inn.length y5) (.slice y3 y.back.length y6) := HYs.out.below ((Below.refl _ _).drew.trans hB)
      obtain ⟨e1, e2⟩ := st_fill2 W1 gy y y' _ _ _ p1 p2 p3 hst
      have hgd : gy < wr.drew.heap.size := hgr
      refine ⟨hst, e1, (hO.sin.turned e2 fun k e _ e' => by have e3 : k = gy := e'; have := e.1; omega).mono fun k e => by have := e.1; omega, ?_⟩
      exact (HT.out.trans (Turned.of_below (S := fun k => k = gy) ((Below.refl _ _).drew.trans hB)) (fun _ _ e => e)).trans e2 (fun _ _ e => e))
    obtain ⟨c0, c1, c2, c3, c4, c5, c6, c7, c8, c9, c10⟩ := HYs.out.cs
    clear hc hgo HJ HT HI HW HZ HS HZs HBy HI0 HSr HZsr HZr HIr HBr HQ hpu
    go_wp2_with (first | (go_at_call 16; refine (pnum_is _ _).mono ?_; rintro _ _ ⟨rfl, rfl⟩) | fail)
    go_region_law (first
      | (go_simp; go_at_call 9; refine (HPu.out _ (by exact (Below.refl _ _).drew)).mono ?_; rintro _ W1 ⟨p1, p2, p3, rfl, hO, hB⟩; obtain ⟨hst, n1, n2, n3⟩ := HN.out W1 p1 p2 p3 hO hB; obtain ⟨r1, r4, rfl⟩ := owns_slice hO.1; obtain ⟨r2, r5, rfl⟩ := owns_slice hO.2.1; obtain ⟨r3, r6, rfl⟩ := owns_slice hO.2.2.1; have HN1 := hide n1; have HN2 := hide n2; have HN3 := hide n3; obtain ⟨d0, d1, d2, d3, d4, d5, d6, d7, d8, d9, d10⟩ := hst.cs; have f0 := hst.soft 0; have f1 := hst.soft 1; have f2 := hst.soft 2; have f3 := hst.soft 3; have f4 := hst.soft 4; have f5 := hst.soft 5; have f6 := hst.soft 6; have f7 := hst.soft 7; have f8 := hst.soft 8; have f9 := hst.soft 9; have f10 := hst.soft 10; clear hst n1 n2 n3 hO hB)
      | fail)
    all_goals
      unfold filled at HN1 HN2 HN3
      go_wp2
      go_roundw
      case rel => exact ⟨j, y', f', _, _, _, by omega, rfl, by go_num, HJ2, HN1, HN2, HN3⟩
      case measure => simp [intOf]
end Go.Proofs.Ytpffhemmjigfaaa

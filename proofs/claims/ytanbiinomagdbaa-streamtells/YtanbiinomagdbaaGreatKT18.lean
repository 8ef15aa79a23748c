/- What the proof stands on, part 18: the contracts of the program's calls that it reaches. -/
import Derived.Test.YtanbiinomagdbaaGreatKT17
import Derived.KernelRfl
import Derived.Lib.SlBytesConst
/- Streams: New. -/
namespace Go.Proofs.YtanbiinomagdbaaGreat
open Go.RowKit

def ss0 : SS := ⟨false, false, 0, 0, [], [], [], 0, false, false, false⟩
def SS.new (m : Mo) (mode size : Int) : SS × Int :=
  if chkM m = 0 then (if 1 ≤ mode ∧ mode ≤ 3 then (if 1 ≤ size ∧ size ≤ 65536 then (⟨m.rd, m.wr, mode, size, [], [], [], 0, false, false, false⟩, 0) else (ss0, 4)) else (ss0, 1)) else (ss0, chkM m)
set_option maxRecDepth 100000 in
set_option maxHeartbeats 2000000 in
theorem sNew_any (m : Mo) (mode size : Int) (w : World) :
    Calls Tryz.prog 30 #[mv m, .int .i64 mode, .int .i64 size] w fun e w' => e = .returned (.tuple #[.agg #[.bool (SS.new m mode size).1.rd, .bool (SS.new m mode size).1.wt, .int .i64 (SS.new m mode size).1.mode, .int .i64 (SS.new m mode size).1.size, .slice none 0 0, .slice none 0 0, .slice none 0 0, .int .i64 (SS.new m mode size).1.dir, .bool (SS.new m mode size).1.fin, .bool (SS.new m mode size).1.bad, .bool (SS.new m mode size).1.closed], .int .i64 (SS.new m mode size).2]) ∧ Below w.heap.size w w' := by
  have HC := hide (ocheck_any m)
  generalize hq : SS.new m mode size = q
  obtain ⟨qx, qe⟩ := q
  unfold SS.new at hq
  generalize chkM m = ck at *
  unfold mv at *
  by_cases h0 : ck = 0
  · subst h0
    rw [if_pos rfl] at hq
    by_cases h1 : 1 ≤ mode ∧ mode ≤ 3
    · rw [if_pos h1] at hq
      have HI : Hid ((decide (1 ≤ mode) && decide (mode ≤ 3)) = true) := hide (by rw [decide_eq_true h1.1, decide_eq_true h1.2]; rfl)
      by_cases h2 : 1 ≤ size ∧ size ≤ 65536
      · rw [if_pos h2] at hq
        have HJ : Hid ((decide (1 ≤ size) && decide (size ≤ 65536)) = true) := hide (by rw [decide_eq_true h2.1, decide_eq_true h2.2]; rfl)
        obtain ⟨rfl, rfl⟩ : (⟨m.rd, m.wr, mode, size, [], [], [], 0, false, false, false⟩ : SS) = qx ∧ 0 = qe := by simpa using hq
        clear hq h1 h2
        go_enter Tryz.func30, Tryz.ntmps30
        go_wp2_with fail
        have HB0 := hide ((recv_below w (Obj.cells #[.bool m.rd, .bool m.wr, .bool m.ap, .bool m.cr, .bool m.tr, .bool m.ex, .bool m.bi, .bool m.ma] 84)).trans ((recv_below (w.alloc (Obj.cells #[.bool m.rd, .bool m.wr, .bool m.ap, .bool m.cr, .bool m.tr, .bool m.ex, .bool m.bi, .bool m.ma] 84)) (Obj.cells #[.bool false, .bool false, .int .i64 0, .int .i64 0, .slice none 0 0, .slice none 0 0, .slice none 0 0, .int .i64 0, .bool false, .bool false, .bool false] 80)).mono (recv_below w (Obj.cells #[.bool m.rd, .bool m.wr, .bool m.ap, .bool m.cr, .bool m.tr, .bool m.ex, .bool m.bi, .bool m.ma] 84)).size))
        have HM0 : Hid (((w.alloc (Obj.cells #[.bool m.rd, .bool m.wr, .bool m.ap, .bool m.cr, .bool m.tr, .bool m.ex, .bool m.bi, .bool m.ma] 84)).alloc (Obj.cells #[.bool false, .bool false, .int .i64 0, .int .i64 0, .slice none 0 0, .slice none 0 0, .slice none 0 0, .int .i64 0, .bool false, .bool false, .bool false] 80)).heap[w.heap.size]? = some (Obj.cells #[.bool m.rd, .bool m.wr, .bool m.ap, .bool m.cr, .bool m.tr, .bool m.ex, .bool m.bi, .bool m.ma] 84)) := hide (((recv_below (w.alloc (Obj.cells #[.bool m.rd, .bool m.wr, .bool m.ap, .bool m.cr, .bool m.tr, .bool m.ex, .bool m.bi, .bool m.ma] 84)) (Obj.cells #[.bool false, .bool false, .int .i64 0, .int .i64 0, .slice none 0 0, .slice none 0 0, .slice none 0 0, .int .i64 0, .bool false, .bool false, .bool false] 80)).block w.heap.size (by simp)).trans (heap_alloc_new w (Obj.cells #[.bool m.rd, .bool m.wr, .bool m.ap, .bool m.cr, .bool m.tr, .bool m.ex, .bool m.bi, .bool m.ma] 84)))
        have HZ0 : Hid (((w.alloc (Obj.cells #[.bool m.rd, .bool m.wr, .bool m.ap, .bool m.cr, .bool m.tr, .bool m.ex, .bool m.bi, .bool m.ma] 84)).alloc (Obj.cells #[.bool false, .bool false, .int .i64 0, .int .i64 0, .slice none 0 0, .slice none 0 0, .slice none 0 0, .int .i64 0, .bool false, .bool false, .bool false] 80)).heap[w.heap.size + 1]? = some (Obj.cells #[.bool false, .bool false, .int .i64 0, .int .i64 0, .slice none 0 0, .slice none 0 0, .slice none 0 0, .int .i64 0, .bool false, .bool false, .bool false] 80)) := hide (by have := heap_alloc_new (w.alloc (Obj.cells #[.bool m.rd, .bool m.wr, .bool m.ap, .bool m.cr, .bool m.tr, .bool m.ex, .bool m.bi, .bool m.ma] 84)) (Obj.cells #[.bool false, .bool false, .int .i64 0, .int .i64 0, .slice none 0 0, .slice none 0 0, .slice none 0 0, .int .i64 0, .bool false, .bool false, .bool false] 80); rw [show (w.alloc (Obj.cells #[.bool m.rd, .bool m.wr, .bool m.ap, .bool m.cr, .bool m.tr, .bool m.ex, .bool m.bi, .bool m.ma] 84)).heap.size = w.heap.size + 1 from Array.size_push ..] at this; exact this)
        generalize (w.alloc (Obj.cells #[.bool m.rd, .bool m.wr, .bool m.ap, .bool m.cr, .bool m.tr, .bool m.ex, .bool m.bi, .bool m.ma] 84)).alloc (Obj.cells #[.bool false, .bool false, .int .i64 0, .int .i64 0, .slice none 0 0, .slice none 0 0, .slice none 0 0, .int .i64 0, .bool false, .bool false, .bool false] 80) = w0 at *
        have hz0 : w.heap.size + 1 < w0.heap.size := (Array.getElem?_eq_some_iff.1 HZ0.out).1
        refine (HC.out w0).mono ?_
        rintro _ w1 ⟨rfl, hB1⟩
        have HZ1 := hide ((hB1.block (w.heap.size + 1) hz0).trans HZ0.out)
        have HM1 := hide ((hB1.block w.heap.size (by omega)).trans HM0.out)
        have p0 := cell_of_row w1 w.heap.size 0 _ _ _ HM1.out
        have p1 := cell_of_row w1 w.heap.size 1 _ _ _ HM1.out
        have z0 := cell_of_row w1 (w.heap.size + 1) 0 _ _ _ HZ1.out
        have z1 := cell_of_row w1 (w.heap.size + 1) 1 _ _ _ HZ1.out
        have z2 := cell_of_row w1 (w.heap.size + 1) 2 _ _ _ HZ1.out
        have z3 := cell_of_row w1 (w.heap.size + 1) 3 _ _ _ HZ1.out
        have z4 := cell_of_row w1 (w.heap.size + 1) 4 _ _ _ HZ1.out
        have z5 := cell_of_row w1 (w.heap.size + 1) 5 _ _ _ HZ1.out
        have z6 := cell_of_row w1 (w.heap.size + 1) 6 _ _ _ HZ1.out
        have z7 := cell_of_row w1 (w.heap.size + 1) 7 _ _ _ HZ1.out
        have z8 := cell_of_row w1 (w.heap.size + 1) 8 _ _ _ HZ1.out
        have z9 := cell_of_row w1 (w.heap.size + 1) 9 _ _ _ HZ1.out
        have z10 := cell_of_row w1 (w.heap.size + 1) 10 _ _ _ HZ1.out
        have u0 := frozen_of_row w1 (w.heap.size + 1) 0 _ _ HZ1.out
        have u1 := frozen_of_row w1 (w.heap.size + 1) 1 _ _ HZ1.out
        have u2 := frozen_of_row w1 (w.heap.size + 1) 2 _ _ HZ1.out
        have u3 := frozen_of_row w1 (w.heap.size + 1) 3 _ _ HZ1.out
        have u4 := frozen_of_row w1 (w.heap.size + 1) 4 _ _ HZ1.out
        have u5 := frozen_of_row w1 (w.heap.size + 1) 5 _ _ HZ1.out
        have u6 := frozen_of_row w1 (w.heap.size + 1) 6 _ _ HZ1.out
        have u7 := frozen_of_row w1 (w.heap.size + 1) 7 _ _ HZ1.out
        have u8 := frozen_of_row w1 (w.heap.size + 1) 8 _ _ HZ1.out
        have u9 := frozen_of_row w1 (w.heap.size + 1) 9 _ _ HZ1.out
        have u10 := frozen_of_row w1 (w.heap.size + 1) 10 _ _ HZ1.out
        simp at p0 p1 z0 z1 z2 z3 z4 z5 z6 z7 z8 z9 z10
        have HB1 := hide (HB0.out.trans (hB1.mono HB0.out.size))
        clear hB1
        go_wp2_with (first | (go_at_call 110; refine (isMode_any _ _).mono ?_; rintro _ _ ⟨rfl, rfl⟩; rw [HI.out]) | (go_at_call 111; refine (isSize_any _ _).mono ?_; rintro _ _ ⟨rfl, rfl⟩; rw [HJ.out]) | fail)
        obtain ⟨e1, e2⟩ := st_fill w1 (w.heap.size + 1) (⟨m.rd, m.wr, mode, size, [], [], [], 0, false, false, false⟩ : SS) (.slice none 0 0) (.slice none 0 0) (.slice none 0 0) HZ1.out
        refine bodyPost_ret (res_two rfl _ (w.heap.size + 1) rfl (⟨m.rd, m.wr, mode, size, [], [], [], 0, false, false, false⟩ : SS) _ _ _ e1) rfl ?_
        exact ⟨rfl, HB1.out.trans (e2.below (fun k e => by omega) HB1.out.size)⟩
      · rw [if_neg h2] at hq
        have HJ : Hid ((decide (1 ≤ size) && decide (size ≤ 65536)) = false) := hide (by
          by_cases h3 : 1 ≤ size
          · rw [decide_eq_false (p := size ≤ 65536) (fun e => h2 ⟨h3, e⟩), Bool.and_false]
          · rw [decide_eq_false h3]; rfl)
        obtain ⟨rfl, rfl⟩ : ss0 = qx ∧ 4 = qe := by simpa using hq
        clear hq h1 h2
        go_enter Tryz.func30, Tryz.ntmps30
        go_wp2_with fail
        have HB0 := hide ((recv_below w (Obj.cells #[.bool m.rd, .bool m.wr, .bool m.ap, .bool m.cr, .bool m.tr, .bool m.ex, .bool m.bi, .bool m.ma] 84)).trans ((recv_below (w.alloc (Obj.cells #[.bool m.rd, .bool m.wr, .bool m.ap, .bool m.cr, .bool m.tr, .bool m.ex, .bool m.bi, .bool m.ma] 84)) (Obj.cells #[.bool false, .bool false, .int .i64 0, .int .i64 0, .slice none 0 0, .slice none 0 0, .slice none 0 0, .int .i64 0, .bool false, .bool false, .bool false] 80)).mono (recv_below w (Obj.cells #[.bool m.rd, .bool m.wr, .bool m.ap, .bool m.cr, .bool m.tr, .bool m.ex, .bool m.bi, .bool m.ma] 84)).size))
        have HM0 : Hid (((w.alloc (Obj.cells #[.bool m.rd, .bool m.wr, .bool m.ap, .bool m.cr, .bool m.tr, .bool m.ex, .bool m.bi, .bool m.ma] 84)).alloc (Obj.cells #[.bool false, .bool false, .int .i64 0, .int .i64 0, .slice none 0 0, .slice none 0 0, .slice none 0 0, .int .i64 0, .bool false, .bool false, .bool false] 80)).heap[w.heap.size]? = some (Obj.cells #[.bool m.rd, .bool m.wr, .bool m.ap, .bool m.cr, .bool m.tr, .bool m.ex, .bool m.bi, .bool m.ma] 84)) := hide (((recv_below (w.alloc (Obj.cells #[.bool m.rd, .bool m.wr, .bool m.ap, .bool m.cr, .bool m.tr, .bool m.ex, .bool m.bi, .bool m.ma] 84)) (Obj.cells #[.bool false, .bool false, .int .i64 0, .int .i64 0, .slice none 0 0, .slice none 0 0, .slice none 0 0, .int .i64 0, .bool false, .bool false, .bool false] 80)).block w.heap.size (by simp)).trans (heap_alloc_new w (Obj.cells #[.bool m.rd, .bool m.wr, .bool m.ap, .bool m.cr, .bool m.tr, .bool m.ex, .bool m.bi, .bool m.ma] 84)))
        have HZ0 : Hid (((w.alloc (Obj.cells #[.bool m.rd, .bool m.wr, .bool m.ap, .bool m.cr, .bool m.tr, .bool m.ex, .bool m.bi, .bool m.ma] 84)).alloc (Obj.cells #[.bool false, .bool false, .int .i64 0, .int .i64 0, .slice none 0 0, .slice none 0 0, .slice none 0 0, .int .i64 0, .bool false, .bool false, .bool false] 80)).heap[w.heap.size + 1]? = some (Obj.cells #[.bool false, .bool false, .int .i64 0, .int .i64 0, .slice none 0 0, .slice none 0 0, .slice none 0 0, .int .i64 0, .bool false, .bool false, .bool false] 80)) := hide (by have := heap_alloc_new (w.alloc (Obj.cells #[.bool m.rd, .bool m.wr, .bool m.ap, .bool m.cr, .bool m.tr, .bool m.ex, .bool m.bi, .bool m.ma] 84)) (Obj.cells #[.bool false, .bool false, .int .i64 0, .int .i64 0, .slice none 0 0, .slice none 0 0, .slice none 0 0, .int .i64 0, .bool false, .bool false, .bool false] 80); rw [show (w.alloc (Obj.cells #[.bool m.rd, .bool m.wr, .bool m.ap, .bool m.cr, .bool m.tr, .bool m.ex, .bool m.bi, .bool m.ma] 84)).heap.size = w.heap.size + 1 from Array.size_push ..] at this; exact this)
        generalize (w.alloc (Obj.cells #[.bool m.rd, .bool m.wr, .bool m.ap, .bool m.cr, .bool m.tr, .bool m.ex, .bool m.bi, .bool m.ma] 84)).alloc (Obj.cells #[.bool false, .bool false, .int .i64 0, .int .i64 0, .slice none 0 0, .slice none 0 0, .slice none 0 0, .int .i64 0, .bool false, .bool false, .bool false] 80) = w0 at *
        have hz0 : w.heap.size + 1 < w0.heap.size := (Array.getElem?_eq_some_iff.1 HZ0.out).1
        refine (HC.out w0).mono ?_
        rintro _ w1 ⟨rfl, hB1⟩
        have HZ1 := hide ((hB1.block (w.heap.size + 1) hz0).trans HZ0.out)
        have HM1 := hide ((hB1.block w.heap.size (by omega)).trans HM0.out)
        have p0 := cell_of_row w1 w.heap.size 0 _ _ _ HM1.out
        have p1 := cell_of_row w1 w.heap.size 1 _ _ _ HM1.out
        have z0 := cell_of_row w1 (w.heap.size + 1) 0 _ _ _ HZ1.out
        have z1 := cell_of_row w1 (w.heap.size + 1) 1 _ _ _ HZ1.out
        have z2 := cell_of_row w1 (w.heap.size + 1) 2 _ _ _ HZ1.out
        have z3 := cell_of_row w1 (w.heap.size + 1) 3 _ _ _ HZ1.out
        have z4 := cell_of_row w1 (w.heap.size + 1) 4 _ _ _ HZ1.out
        have z5 := cell_of_row w1 (w.heap.size + 1) 5 _ _ _ HZ1.out
        have z6 := cell_of_row w1 (w.heap.size + 1) 6 _ _ _ HZ1.out
        have z7 := cell_of_row w1 (w.heap.size + 1) 7 _ _ _ HZ1.out
        have z8 := cell_of_row w1 (w.heap.size + 1) 8 _ _ _ HZ1.out
        have z9 := cell_of_row w1 (w.heap.size + 1) 9 _ _ _ HZ1.out
        have z10 := cell_of_row w1 (w.heap.size + 1) 10 _ _ _ HZ1.out
        have u0 := frozen_of_row w1 (w.heap.size + 1) 0 _ _ HZ1.out
        have u1 := frozen_of_row w1 (w.heap.size + 1) 1 _ _ HZ1.out
        have u2 := frozen_of_row w1 (w.heap.size + 1) 2 _ _ HZ1.out
        have u3 := frozen_of_row w1 (w.heap.size + 1) 3 _ _ HZ1.out
        have u4 := frozen_of_row w1 (w.heap.size + 1) 4 _ _ HZ1.out
        have u5 := frozen_of_row w1 (w.heap.size + 1) 5 _ _ HZ1.out
        have u6 := frozen_of_row w1 (w.heap.size + 1) 6 _ _ HZ1.out
        have u7 := frozen_of_row w1 (w.heap.size + 1) 7 _ _ HZ1.out
        have u8 := frozen_of_row w1 (w.heap.size + 1) 8 _ _ HZ1.out
        have u9 := frozen_of_row w1 (w.heap.size + 1) 9 _ _ HZ1.out
        have u10 := frozen_of_row w1 (w.heap.size + 1) 10 _ _ HZ1.out
        simp at p0 p1 z0 z1 z2 z3 z4 z5 z6 z7 z8 z9 z10
        have HB1 := hide (HB0.out.trans (hB1.mono HB0.out.size))
        clear hB1
        go_wp2_with (first | (go_at_call 110; refine (isMode_any _ _).mono ?_; rintro _ _ ⟨rfl, rfl⟩; rw [HI.out]) | (go_at_call 111; refine (isSize_any _ _).mono ?_; rintro _ _ ⟨rfl, rfl⟩; rw [HJ.out]) | fail)
        obtain ⟨e1, e2⟩ := st_fill w1 (w.heap.size + 1) ss0 (.slice none 0 0) (.slice none 0 0) (.slice none 0 0) HZ1.out
        refine bodyPost_ret (res_two rfl _ (w.heap.size + 1) rfl ss0 _ _ _ e1) rfl ?_
        exact ⟨rfl, HB1.out.trans (e2.below (fun k e => by omega) HB1.out.size)⟩
    · rw [if_neg h1] at hq
      have HI : Hid ((decide (1 ≤ mode) && decide (mode ≤ 3)) = false) := hide (by
        by_cases h3 : 1 ≤ mode
        · rw [decide_eq_false (p := mode ≤ 3) (fun e => h1 ⟨h3, e⟩), Bool.and_false]
        · rw [decide_eq_false h3]; rfl)
      obtain ⟨rfl, rfl⟩ : ss0 = qx ∧ 1 = qe := by simpa using hq
      clear hq h1
      go_enter Tryz.func30, Tryz.ntmps30
      go_wp2_with fail
      have HB0 := hide ((recv_below w (Obj.cells #[.bool m.rd, .bool m.wr, .bool m.ap, .bool m.cr, .bool m.tr, .bool m.ex, .bool m.bi, .bool m.ma] 84)).trans ((recv_below (w.alloc (Obj.cells #[.bool m.rd, .bool m.wr, .bool m.ap, .bool m.cr, .bool m.tr, .bool m.ex, .bool m.bi, .bool m.ma] 84)) (Obj.cells #[.bool false, .bool false, .int .i64 0, .int .i64 0, .slice none 0 0, .slice none 0 0, .slice none 0 0, .int .i64 0, .bool false, .bool false, .bool false] 80)).mono (recv_below w (Obj.cells #[.bool m.rd, .bool m.wr, .bool m.ap, .bool m.cr, .bool m.tr, .bool m.ex, .bool m.bi, .bool m.ma] 84)).size))
      have HM0 : Hid (((w.alloc (Obj.cells #[.bool m.rd, .bool m.wr, .bool m.ap, .bool m.cr, .bool m.tr, .bool m.ex, .bool m.bi, .bool m.ma] 84)).alloc (Obj.cells #[.bool false, .bool false, .int .i64 0, .int .i64 0, .slice none 0 0, .slice none 0 0, .slice none 0 0, .int .i64 0, .bool false, .bool false, .bool false] 80)).heap[w.heap.size]? = some (Obj.cells #[.bool m.rd, .bool m.wr, .bool m.ap, .bool m.cr, .bool m.tr, .bool m.ex, .bool m.bi, .bool m.ma] 84)) := hide (((recv_below (w.alloc (Obj.cells #[.bool m.rd, .bool m.wr, .bool m.ap, .bool m.cr, .bool m.tr, .bool m.ex, .bool m.bi, .bool m.ma] 84)) (Obj.cells #[.bool false, .bool false, .int .i64 0, .int .i64 0, .slice none 0 0, .slice none 0 0, .slice none 0 0, .int .i64 0, .bool false, .bool false, .bool false] 80)).block w.heap.size (by simp)).trans (heap_alloc_new w (Obj.cells #[.bool m.rd, .bool m.wr, .bool m.ap, .bool m.cr, .bool m.tr, .bool m.ex, .bool m.bi, .bool m.ma] 84)))
      have HZ0 : Hid (((w.alloc (Obj.cells #[.bool m.rd, .bool m.wr, .bool m.ap, .bool m.cr, .bool m.tr, .bool m.ex, .bool m.bi, .bool m.ma] 84)).alloc (Obj.cells #[.bool false, .bool false, .int .i64 0, .int .i64 0, .slice none 0 0, .slice none 0 0, .slice none 0 0, .int .i64 0, .bool false, .bool false, .bool false] 80)).heap[w.heap.size + 1]? = some (Obj.cells #[.bool false, .bool false, .int .i64 0, .int .i64 0, .slice none 0 0, .slice none 0 0, .slice none 0 0, .int .i64 0, .bool false, .bool false, .bool false] 80)) := hide (by have := heap_alloc_new (w.alloc (Obj.cells #[.bool m.rd, .bool m.wr, .bool m.ap, .bool m.cr, .bool m.tr, .bool m.ex, .bool m.bi, .bool m.ma] 84)) (Obj.cells #[.bool false, .bool false, .int .i64 0, .int .i64 0, .slice none 0 0, .slice none 0 0, .slice none 0 0, .int .i64 0, .bool false, .bool false, .bool false] 80); rw [show (w.alloc (Obj.cells #[.bool m.rd, .bool m.wr, .bool m.ap, .bool m.cr, .bool m.tr, .bool m.ex, .bool m.bi, .bool m.ma] 84)).heap.size = w.heap.size + 1 from Array.size_push ..] at this; exact this)
      generalize (w.alloc (Obj.cells #[.bool m.rd, .bool m.wr, .bool m.ap, .bool m.cr, .bool m.tr, .bool m.ex, .bool m.bi, .bool m.ma] 84)).alloc (Obj.cells #[.bool false, .bool false, .int .i64 0, .int .i64 0, .slice none 0 0, .slice none 0 0, .slice none 0 0, .int .i64 0, .bool false, .bool false, .bool false] 80) = w0 at *
      have hz0 : w.heap.size + 1 < w0.heap.size := (Array.getElem?_eq_some_iff.1 HZ0.out).1
      refine (HC.out w0).mono ?_
      rintro _ w1 ⟨rfl, hB1⟩
      have HZ1 := hide ((hB1.block (w.heap.size + 1) hz0).trans HZ0.out)
      have HM1 := hide ((hB1.block w.heap.size (by omega)).trans HM0.out)
      have p0 := cell_of_row w1 w.heap.size 0 _ _ _ HM1.out
      have p1 := cell_of_row w1 w.heap.size 1 _ _ _ HM1.out
      have z0 := cell_of_row w1 (w.heap.size + 1) 0 _ _ _ HZ1.out
      have z1 := cell_of_row w1 (w.heap.size + 1) 1 _ _ _ HZ1.out
      have z2 := cell_of_row w1 (w.heap.size + 1) 2 _ _ _ HZ1.out
      have z3 := cell_of_row w1 (w.heap.size + 1) 3 _ _ _ HZ1.out
      have z4 := cell_of_row w1 (w.heap.size + 1) 4 _ _ _ HZ1.out
      have z5 := cell_of_row w1 (w.heap.size + 1) 5 _ _ _ HZ1.out
      have z6 := cell_of_row w1 (w.heap.size + 1) 6 _ _ _ HZ1.out
      have z7 := cell_of_row w1 (w.heap.size + 1) 7 _ _ _ HZ1.out
      have z8 := cell_of_row w1 (w.heap.size + 1) 8 _ _ _ HZ1.out
      have z9 := cell_of_row w1 (w.heap.size + 1) 9 _ _ _ HZ1.out
      have z10 := cell_of_row w1 (w.heap.size + 1) 10 _ _ _ HZ1.out
      have u0 := frozen_of_row w1 (w.heap.size + 1) 0 _ _ HZ1.out
      have u1 := frozen_of_row w1 (w.heap.size + 1) 1 _ _ HZ1.out
      have u2 := frozen_of_row w1 (w.heap.size + 1) 2 _ _ HZ1.out
      have u3 := frozen_of_row w1 (w.heap.size + 1) 3 _ _ HZ1.out
      have u4 := frozen_of_row w1 (w.heap.size + 1) 4 _ _ HZ1.out
      have u5 := frozen_of_row w1 (w.heap.size + 1) 5 _ _ HZ1.out
      have u6 := frozen_of_row w1 (w.heap.size + 1) 6 _ _ HZ1.out
      have u7 := frozen_of_row w1 (w.heap.size + 1) 7 _ _ HZ1.out
      have u8 := frozen_of_row w1 (w.heap.size + 1) 8 _ _ HZ1.out
      have u9 := frozen_of_row w1 (w.heap.size + 1) 9 _ _ HZ1.out
      have u10 := frozen_of_row w1 (w.heap.size + 1) 10 _ _ HZ1.out
      simp at p0 p1 z0 z1 z2 z3 z4 z5 z6 z7 z8 z9 z10
      have HB1 := hide (HB0.out.trans (hB1.mono HB0.out.size))
      clear hB1
      go_wp2_with (first | (go_at_call 110; refine (isMode_any _ _).mono ?_; rintro _ _ ⟨rfl, rfl⟩; rw [HI.out]) | fail)
      obtain ⟨e1, e2⟩ := st_fill w1 (w.heap.size + 1) ss0 (.slice none 0 0) (.slice none 0 0) (.slice none 0 0) HZ1.out
      refine bodyPost_ret (res_two rfl _ (w.heap.size + 1) rfl ss0 _ _ _ e1) rfl ?_
      exact ⟨rfl, HB1.out.trans (e2.below (fun k e => by omega) HB1.out.size)⟩
  · rw [if_neg h0] at hq
    obtain ⟨rfl, rfl⟩ : ss0 = qx ∧ ck = qe := by simpa using hq
    have h1 : (ck != 0) = true := by simp [h0]
    clear hq
    go_enter Tryz.func30, Tryz.ntmps30
    go_wp2_with fail
    have HB0 := hide ((recv_below w (Obj.cells #[.bool m.rd, .bool m.wr, .bool m.ap, .bool m.cr, .bool m.tr, .bool m.ex, .bool m.bi, .bool m.ma] 84)).trans ((recv_below (w.alloc (Obj.cells #[.bool m.rd, .bool m.wr, .bool m.ap, .bool m.cr, .bool m.tr, .bool m.ex, .bool m.bi, .bool m.ma] 84)) (Obj.cells #[.bool false, .bool false, .int .i64 0, .int .i64 0, .slice none 0 0, .slice none 0 0, .slice none 0 0, .int .i64 0, .bool false, .bool false, .bool false] 80)).mono (recv_below w (Obj.cells #[.bool m.rd, .bool m.wr, .bool m.ap, .bool m.cr, .bool m.tr, .bool m.ex, .bool m.bi, .bool m.ma] 84)).size))
    have HM0 : Hid (((w.alloc (Obj.cells #[.bool m.rd, .bool m.wr, .bool m.ap, .bool m.cr, .bool m.tr, .bool m.ex, .bool m.bi, .bool m.ma] 84)).alloc (Obj.cells #[.bool false, .bool false, .int .i64 0, .int .i64 0, .slice none 0 0, .slice none 0 0, .slice none 0 0, .int .i64 0, .bool false, .bool false, .bool false] 80)).heap[w.heap.size]? = some (Obj.cells #[.bool m.rd, .bool m.wr, .bool m.ap, .bool m.cr, .bool m.tr, .bool m.ex, .bool m.bi, .bool m.ma] 84)) := hide (((recv_below (w.alloc (Obj.cells #[.bool m.rd, .bool m.wr, .bool m.ap, .bool m.cr, .bool m.tr, .bool m.ex, .bool m.bi, .bool m.ma] 84)) (Obj.cells #[.bool false, .bool false, .int .i64 0, .int .i64 0, .slice none 0 0, .slice none 0 0, .slice none 0 0, .int .i64 0, .bool false, .bool false, .bool false] 80)).block w.heap.size (by simp)).trans (heap_alloc_new w (Obj.cells #[.bool m.rd, .bool m.wr, .bool m.ap, .bool m.cr, .bool m.tr, .bool m.ex, .bool m.bi, .bool m.ma] 84)))
    have HZ0 : Hid (((w.alloc (Obj.cells #[.bool m.rd, .bool m.wr, .bool m.ap, .bool m.cr, .bool m.tr, .bool m.ex, .bool m.bi, .bool m.ma] 84)).alloc (Obj.cells #[.bool false, .bool false, .int .i64 0, .int .i64 0, .slice none 0 0, .slice none 0 0, .slice none 0 0, .int .i64 0, .bool false, .bool false, .bool false] 80)).heap[w.heap.size + 1]? = some (Obj.cells #[.bool false, .bool false, .int .i64 0, .int .i64 0, .slice none 0 0, .slice none 0 0, .slice none 0 0, .int .i64 0, .bool false, .bool false, .bool false] 80)) := hide (by have := heap_alloc_new (w.alloc (Obj.cells #[.bool m.rd, .bool m.wr, .bool m.ap, .bool m.cr, .bool m.tr, .bool m.ex, .bool m.bi, .bool m.ma] 84)) (Obj.cells #[.bool false, .bool false, .int .i64 0, .int .i64 0, .slice none 0 0, .slice none 0 0, .slice none 0 0, .int .i64 0, .bool false, .bool false, .bool false] 80); rw [show (w.alloc (Obj.cells #[.bool m.rd, .bool m.wr, .bool m.ap, .bool m.cr, .bool m.tr, .bool m.ex, .bool m.bi, .bool m.ma] 84)).heap.size = w.heap.size + 1 from Array.size_push ..] at this; exact this)
    generalize (w.alloc (Obj.cells #[.bool m.rd, .bool m.wr, .bool m.ap, .bool m.cr, .bool m.tr, .bool m.ex, .bool m.bi, .bool m.ma] 84)).alloc (Obj.cells #[.bool false, .bool false, .int .i64 0, .int .i64 0, .slice none 0 0, .slice none 0 0, .slice none 0 0, .int .i64 0, .bool false, .bool false, .bool false] 80) = w0 at *
    have hz0 : w.heap.size + 1 < w0.heap.size := (Array.getElem?_eq_some_iff.1 HZ0.out).1
    refine (HC.out w0).mono ?_
    rintro _ w1 ⟨rfl, hB1⟩
    have HZ1 := hide ((hB1.block (w.heap.size + 1) hz0).trans HZ0.out)
    have HM1 := hide ((hB1.block w.heap.size (by omega)).trans HM0.out)
    have p0 := cell_of_row w1 w.heap.size 0 _ _ _ HM1.out
    have p1 := cell_of_row w1 w.heap.size 1 _ _ _ HM1.out
    have z0 := cell_of_row w1 (w.heap.size + 1) 0 _ _ _ HZ1.out
    have z1 := cell_of_row w1 (w.heap.size + 1) 1 _ _ _ HZ1.out
    have z2 := cell_of_row w1 (w.heap.size + 1) 2 _ _ _ HZ1.out
    have z3 := cell_of_row w1 (w.heap.size + 1) 3 _ _ _ HZ1.out
    have z4 := cell_of_row w1 (w.heap.size + 1) 4 _ _ _ HZ1.out
    have z5 := cell_of_row w1 (w.heap.size + 1) 5 _ _ _ HZ1.out
    have z6 := cell_of_row w1 (w.heap.size + 1) 6 _ _ _ HZ1.out
    have z7 := cell_of_row w1 (w.heap.size + 1) 7 _ _ _ HZ1.out
    have z8 := cell_of_row w1 (w.heap.size + 1) 8 _ _ _ HZ1.out
    have z9 := cell_of_row w1 (w.heap.size + 1) 9 _ _ _ HZ1.out
    have z10 := cell_of_row w1 (w.heap.size + 1) 10 _ _ _ HZ1.out
    have u0 := frozen_of_row w1 (w.heap.size + 1) 0 _ _ HZ1.out
    have u1 := frozen_of_row w1 (w.heap.size + 1) 1 _ _ HZ1.out
    have u2 := frozen_of_row w1 (w.heap.size + 1) 2 _ _ HZ1.out
    have u3 := frozen_of_row w1 (w.heap.size + 1) 3 _ _ HZ1.out
    have u4 := frozen_of_row w1 (w.heap.size + 1) 4 _ _ HZ1.out
    have u5 := frozen_of_row w1 (w.heap.size + 1) 5 _ _ HZ1.out
    have u6 := frozen_of_row w1 (w.heap.size + 1) 6 _ _ HZ1.out
    have u7 := frozen_of_row w1 (w.heap.size + 1) 7 _ _ HZ1.out
    have u8 := frozen_of_row w1 (w.heap.size + 1) 8 _ _ HZ1.out
    have u9 := frozen_of_row w1 (w.heap.size + 1) 9 _ _ HZ1.out
    have u10 := frozen_of_row w1 (w.heap.size + 1) 10 _ _ HZ1.out
    simp at p0 p1 z0 z1 z2 z3 z4 z5 z6 z7 z8 z9 z10
    have HB1 := hide (HB0.out.trans (hB1.mono HB0.out.size))
    clear hB1
    go_wp2
    obtain ⟨e1, e2⟩ := st_fill w1 (w.heap.size + 1) ss0 (.slice none 0 0) (.slice none 0 0) (.slice none 0 0) HZ1.out
    refine bodyPost_ret (res_two rfl _ (w.heap.size + 1) rfl ss0 _ _ _ e1) rfl ?_
    exact ⟨rfl, HB1.out.trans (e2.below (fun k e => by omega) HB1.out.size)⟩
end Go.Proofs.YtanbiinomagdbaaGreat

/- Streams: the page's example. -/
namespace Go.Proofs.YtanbiinomagdbaaGreat
open Go.RowKit

theorem num_st (e : Int) (w : World) : Calls Tryz.prog 31 #[.int .i64 e] w fun r w' => r = .returned (.int .i64 e) ∧ w = w' := by
  go_enter Tryz.func31, Tryz.ntmps31
  go_wp2
  go_ret
  exact ⟨rfl, rfl⟩
def moW : Mo := ⟨false, true, false, true, true, false, false, false⟩
def moR : Mo := ⟨true, false, false, false, false, false, false, false⟩
theorem chk_moW : chkM moW = 0 := by decide
theorem chk_moR : chkM moR = 0 := by decide
theorem SIn.nils {W : World} {P : Nat → Prop} {x : SS} (h1 : x.out = []) (h2 : x.inn = []) (h3 : x.back = []) : SIn W P x (.slice none 0 0) (.slice none 0 0) (.slice none 0 0) := by
  have hno : ∀ k, (Value.slice none 0 0).ownBlock = some k → False := fun k e => by simp [Value.ownBlock] at e
  exact ⟨h1 ▸ Sl.nil, h2 ▸ Sl.nil, h3 ▸ Sl.nil, fun k e => (hno k e).elim, fun k e => (hno k e).elim, fun k e => (hno k e).elim⟩
def xW (mode size : Int) : SS := ⟨false, true, mode, size, [], [], [], 0, false, false, false⟩
def xR (mode size : Int) : SS := ⟨true, false, mode, size, [], [], [], 0, false, false, false⟩
theorem new_W (mode size : Int) : SS.new moW mode size = if 1 ≤ mode ∧ mode ≤ 3 then (if 1 ≤ size ∧ size ≤ 65536 then (xW mode size, 0) else (ss0, 4)) else (ss0, 1) := by
  unfold SS.new
  rw [if_pos chk_moW]
  rfl
theorem new_R (mode size : Int) : SS.new moR mode size = if 1 ≤ mode ∧ mode ≤ 3 then (if 1 ≤ size ∧ size ≤ 65536 then (xR mode size, 0) else (ss0, 4)) else (ss0, 1) := by
  unfold SS.new
  rw [if_pos chk_moR]
  rfl
def exA : SS := ⟨false, true, 3, 2, [97], [], [], 2, false, false, false⟩
def exB : SS := ⟨false, true, 3, 2, [], [], [], 2, false, false, false⟩
def exC : SS := ⟨false, true, 3, 2, [99], [], [], 2, false, false, false⟩
def exD : SS := ⟨false, true, 3, 2, [], [], [], 0, false, false, true⟩
theorem ex_a : (xW 3 2).put msR ⟨[], 1048576, 0⟩ 97 = (exA, 0, ⟨[], 1048576, 0⟩) := by kernel_rfl
theorem ex_b : exA.put msR ⟨[], 1048576, 0⟩ 98 = (exB, 0, ⟨[97, 98], 1048576, 2⟩) := by kernel_rfl
theorem ex_c : exB.put msR ⟨[97, 98], 1048576, 2⟩ 99 = (exC, 0, ⟨[97, 98], 1048576, 2⟩) := by kernel_rfl
theorem ex_d : exC.close msR ⟨[97, 98], 1048576, 2⟩ = (exD, 0, ⟨[97, 98, 99], 1048576, 3⟩) := by kernel_rfl
set_option maxRecDepth 100000 in
set_option maxHeartbeats 4000000 in
theorem salive_any (w : World) : Calls Tryz.prog 29 #[] w fun e w' => e = .returned (.bool true) ∧ Below w.heap.size w w' := by
  go_enter Tryz.func29, Tryz.ntmps29
  go_wp2_with fail
  refine (newGrowing_good (.slice none 0 0) [] _ (.inl ⟨rfl, rfl⟩) (by simp)).mono ?_
  rintro _ w1 ⟨g, rfl, hM, hB⟩
  have hN := fun W => sNew_any moW 3 2 W
  rw [new_W, if_pos (by decide), if_pos (by decide)] at hN
  simp only at hN
  unfold mv at hN
  have HN := hide hN
  have HM := hide hM
  have HB := hide hB
  clear hN hM hB
  go_wp2_with fail
  refine (HN.out _).mono ?_
  rintro _ w2 ⟨rfl, hB2⟩
  have HM2 := hide (HM.out.below hB2)
  have HB2 := hide (HB.out.trans (hB2.mono HB.out.size))
  clear hB2 HM HB
  go_wp2_with (first | (go_at_call 31; refine (num_st _ _).mono ?_; rintro _ _ ⟨rfl, rfl⟩) | fail)
  have HS2 := hide (StAt.new w2 (xW 3 2) (.slice none 0 0) (.slice none 0 0) (.slice none 0 0))
  have HB3 := hide (recv_below w2 (Obj.cells #[.bool (xW 3 2).rd, .bool (xW 3 2).wt, .int .i64 (xW 3 2).mode, .int .i64 (xW 3 2).size, .slice none 0 0, .slice none 0 0, .slice none 0 0, .int .i64 (xW 3 2).dir, .bool (xW 3 2).fin, .bool (xW 3 2).bad, .bool (xW 3 2).closed] 80))
  have HLV : Hid (LV (fun w O S => MemAt w O g S) (w2.alloc (Obj.cells #[.bool (xW 3 2).rd, .bool (xW 3 2).wt, .int .i64 (xW 3 2).mode, .int .i64 (xW 3 2).size, .slice none 0 0, .slice none 0 0, .slice none 0 0, .int .i64 (xW 3 2).dir, .bool (xW 3 2).fin, .bool (xW 3 2).bad, .bool (xW 3 2).closed] 80)) w.heap.size w2.heap.size (fun k => w.heap.size ≤ k ∧ k < w2.heap.size) (xW 3 2) ⟨[], 1048576, 0⟩ (.slice none 0 0) (.slice none 0 0) (.slice none 0 0)) := hide
    ⟨HS2.out, SIn.nils rfl rfl rfl, HM2.out.trim.below HB3.out, fun j e => Nat.lt_of_lt_of_le e.2 HB3.out.size, fun j e => e.1, fun e => by omega, HB2.out.size⟩
  have HTT : Hid (Turned (fun k => w.heap.size ≤ k) w (w2.alloc (Obj.cells #[.bool (xW 3 2).rd, .bool (xW 3 2).wt, .int .i64 (xW 3 2).mode, .int .i64 (xW 3 2).size, .slice none 0 0, .slice none 0 0, .slice none 0 0, .int .i64 (xW 3 2).dir, .bool (xW 3 2).fin, .bool (xW 3 2).bad, .bool (xW 3 2).closed] 80))) := hide ((Turned.of_below HB2.out).trans (Turned.of_below (S := fun k => w.heap.size ≤ k) HB3.out) (fun _ _ e => e))
  generalize w2.alloc (Obj.cells #[.bool (xW 3 2).rd, .bool (xW 3 2).wt, .int .i64 (xW 3 2).mode, .int .i64 (xW 3 2).size, .slice none 0 0, .slice none 0 0, .slice none 0 0, .int .i64 (xW 3 2).dir, .bool (xW 3 2).fin, .bool (xW 3 2).bad, .bool (xW 3 2).closed] 80) = w3 at *
  have HSZ := hide HTT.out.size
  clear HS2 HB3 HM2 HN
  have hp := sPut_any (gro_raw g) (fun s => gmem_o g s) (bears_true msR) 97 HLV.out.ls HLV.out.raw HLV.out.ol trivial (by decide) (by decide) (by decide)
  rw [ex_a] at hp
  simp only at hp
  have HP := hide hp
  clear hp
  refine HP.out.mono ?_
  rintro _ w4 ⟨o', i', b', rfl, hS⟩
  obtain ⟨a1, k1, rfl, -⟩ := hS.choose_spec.1.so
  obtain ⟨a2, k2, rfl, -⟩ := hS.choose_spec.1.si
  obtain ⟨a3, k3, rfl, -⟩ := hS.choose_spec.1.sb
  obtain ⟨hst, ⟨O4, hl⟩, ht⟩ := LV.next (fun s => gmem_o g s) HLV.out HSZ.out hS
  have HLV4 := hide hl
  have HT4 := hide (HTT.out.trans ht (fun _ _ e => e))
  obtain ⟨c0, c1, c2, c3, c4, c5, c6, c7, c8, c9, c10⟩ := hst.cs
  have f0 := hst.soft 0
  have f1 := hst.soft 1
  have f2 := hst.soft 2
  have f3 := hst.soft 3
  have f4 := hst.soft 4
  have f5 := hst.soft 5
  have f6 := hst.soft 6
  have f7 := hst.soft 7
  have f8 := hst.soft 8
  have f9 := hst.soft 9
  have f10 := hst.soft 10
  clear hS hst hl ht HP
  go_wp2_with fail
  unfold filled at HLV4 HT4
  generalize (((((((((((w4.setCell ⟨w2.heap.size, 0, none⟩ (.bool exA.rd)).setCell ⟨w2.heap.size, 1, none⟩ (.bool exA.wt)).setCell ⟨w2.heap.size, 2, none⟩ (.int .i64 exA.mode)).setCell ⟨w2.heap.size, 3, none⟩ (.int .i64 exA.size)).setCell ⟨w2.heap.size, 4, none⟩ (.slice a1 exA.out.length k1)).setCell ⟨w2.heap.size, 5, none⟩ (.slice a2 exA.inn.length k2)).setCell ⟨w2.heap.size, 6, none⟩ (.slice a3 exA.back.length k3)).setCell ⟨w2.heap.size, 7, none⟩ (.int .i64 exA.dir)).setCell ⟨w2.heap.size, 8, none⟩ (.bool exA.fin)).setCell ⟨w2.heap.size, 9, none⟩ (.bool exA.bad)).setCell ⟨w2.heap.size, 10, none⟩ (.bool exA.closed)) = w4' at *
  have HTT := HT4
  have HSZ := hide HTT.out.size
  clear c0 c1 c2 c3 c4 c5 c6 c7 c8 c9 c10 f0 f1 f2 f3 f4 f5 f6 f7 f8 f9 f10 HT4
  refine (gmbytes_any _ g _ _ HLV4.out.raw).mono ?_
  rintro _ w5 ⟨v5, rfl, hO5, hB5⟩
  obtain ⟨a5, k5, rfl⟩ := owns_slice hO5
  have HLV5 := hide (HLV4.out.below (fun s => gmem_o g s) hB5)
  have HT5 := hide (HTT.out.trans (Turned.of_below (S := fun k => w.heap.size ≤ k) hB5) (fun _ _ e => e))
  clear HTT HSZ
  have HTT := HT5
  have HSZ := hide HTT.out.size
  obtain ⟨c0, c1, c2, c3, c4, c5, c6, c7, c8, c9, c10⟩ := HLV5.out.st.cs
  clear hO5 hB5 HLV4
  simp only [List.length_nil]
  go_wp2_with fail
  clear c0 c1 c2 c3 c4 c5 c6 c7 c8 c9 c10
  have hp := sPut_any (gro_raw g) (fun s => gmem_o g s) (bears_true msR) 98 HLV5.out.ls HLV5.out.raw HLV5.out.ol trivial (by decide) (by decide) (by decide)
  rw [ex_b] at hp
  simp only at hp
  have HP := hide hp
  clear hp
  refine HP.out.mono ?_
  rintro _ w6 ⟨o', i', b', rfl, hS⟩
  obtain ⟨a1, k1, rfl, -⟩ := hS.choose_spec.1.so
  obtain ⟨a2, k2, rfl, -⟩ := hS.choose_spec.1.si
  obtain ⟨a3, k3, rfl, -⟩ := hS.choose_spec.1.sb
  obtain ⟨hst, ⟨O6, hl⟩, ht⟩ := LV.next (fun s => gmem_o g s) HLV5.out HSZ.out hS
  have HLV6 := hide hl
  have HT6 := hide (HTT.out.trans ht (fun _ _ e => e))
  obtain ⟨c0, c1, c2, c3, c4, c5, c6, c7, c8, c9, c10⟩ := hst.cs
  have f0 := hst.soft 0
  have f1 := hst.soft 1
  have f2 := hst.soft 2
  have f3 := hst.soft 3
  have f4 := hst.soft 4
  have f5 := hst.soft 5
  have f6 := hst.soft 6
  have f7 := hst.soft 7
  have f8 := hst.soft 8
  have f9 := hst.soft 9
  have f10 := hst.soft 10
  clear hS hst hl ht HP
  go_wp2_with fail
  unfold filled at HLV6 HT6
  generalize (((((((((((w6.setCell ⟨w2.heap.size, 0, none⟩ (.bool exB.rd)).setCell ⟨w2.heap.size, 1, none⟩ (.bool exB.wt)).setCell ⟨w2.heap.size, 2, none⟩ (.int .i64 exB.mode)).setCell ⟨w2.heap.size, 3, none⟩ (.int .i64 exB.size)).setCell ⟨w2.heap.size, 4, none⟩ (.slice a1 exB.out.length k1)).setCell ⟨w2.heap.size, 5, none⟩ (.slice a2 exB.inn.length k2)).setCell ⟨w2.heap.size, 6, none⟩ (.slice a3 exB.back.length k3)).setCell ⟨w2.heap.size, 7, none⟩ (.int .i64 exB.dir)).setCell ⟨w2.heap.size, 8, none⟩ (.bool exB.fin)).setCell ⟨w2.heap.size, 9, none⟩ (.bool exB.bad)).setCell ⟨w2.heap.size, 10, none⟩ (.bool exB.closed)) = w6' at *
  have HTT := HT6
  have HSZ := hide HTT.out.size
  clear c0 c1 c2 c3 c4 c5 c6 c7 c8 c9 c10 f0 f1 f2 f3 f4 f5 f6 f7 f8 f9 f10 HT6
  have hp := sPut_any (gro_raw g) (fun s => gmem_o g s) (bears_true msR) 99 HLV6.out.ls HLV6.out.raw HLV6.out.ol trivial (by decide) (by decide) (by decide)
  rw [ex_c] at hp
  simp only at hp
  have HP := hide hp
  clear hp
  refine HP.out.mono ?_
  rintro _ w7 ⟨o', i', b', rfl, hS⟩
  obtain ⟨a1, k1, rfl, -⟩ := hS.choose_spec.1.so
  obtain ⟨a2, k2, rfl, -⟩ := hS.choose_spec.1.si
  obtain ⟨a3, k3, rfl, -⟩ := hS.choose_spec.1.sb
  obtain ⟨hst, ⟨O7, hl⟩, ht⟩ := LV.next (fun s => gmem_o g s) HLV6.out HSZ.out hS
  have HLV7 := hide hl
  have HT7 := hide (HTT.out.trans ht (fun _ _ e => e))
  obtain ⟨c0, c1, c2, c3, c4, c5, c6, c7, c8, c9, c10⟩ := hst.cs
  have f0 := hst.soft 0
  have f1 := hst.soft 1
  have f2 := hst.soft 2
  have f3 := hst.soft 3
  have f4 := hst.soft 4
  have f5 := hst.soft 5
  have f6 := hst.soft 6
  have f7 := hst.soft 7
  have f8 := hst.soft 8
  have f9 := hst.soft 9
  have f10 := hst.soft 10
  clear hS hst hl ht HP
  go_wp2_with fail
  unfold filled at HLV7 HT7
  generalize (((((((((((w7.setCell ⟨w2.heap.size, 0, none⟩ (.bool exC.rd)).setCell ⟨w2.heap.size, 1, none⟩ (.bool exC.wt)).setCell ⟨w2.heap.size, 2, none⟩ (.int .i64 exC.mode)).setCell ⟨w2.heap.size, 3, none⟩ (.int .i64 exC.size)).setCell ⟨w2.heap.size, 4, none⟩ (.slice a1 exC.out.length k1)).setCell ⟨w2.heap.size, 5, none⟩ (.slice a2 exC.inn.length k2)).setCell ⟨w2.heap.size, 6, none⟩ (.slice a3 exC.back.length k3)).setCell ⟨w2.heap.size, 7, none⟩ (.int .i64 exC.dir)).setCell ⟨w2.heap.size, 8, none⟩ (.bool exC.fin)).setCell ⟨w2.heap.size, 9, none⟩ (.bool exC.bad)).setCell ⟨w2.heap.size, 10, none⟩ (.bool exC.closed)) = w7' at *
  have HTT := HT7
  have HSZ := hide HTT.out.size
  clear c0 c1 c2 c3 c4 c5 c6 c7 c8 c9 c10 f0 f1 f2 f3 f4 f5 f6 f7 f8 f9 f10 HT7
  have hp := sClose_any (gro_raw g) (fun s => gmem_o g s) (bears_true msR) HLV7.out.ls HLV7.out.raw HLV7.out.ol trivial (by decide) (by decide) (by decide)
  rw [ex_d] at hp
  simp only at hp
  have HP := hide hp
  clear hp
  refine HP.out.mono ?_
  rintro _ w8 ⟨o', i', b', rfl, hS⟩
  obtain ⟨a1, k1, rfl, -⟩ := hS.choose_spec.1.so
  obtain ⟨a2, k2, rfl, -⟩ := hS.choose_spec.1.si
  obtain ⟨a3, k3, rfl, -⟩ := hS.choose_spec.1.sb
  obtain ⟨hst, ⟨O8, hl⟩, ht⟩ := LV.next (fun s => gmem_o g s) HLV7.out HSZ.out hS
  have HLV8 := hide hl
  have HT8 := hide (HTT.out.trans ht (fun _ _ e => e))
  obtain ⟨c0, c1, c2, c3, c4, c5, c6, c7, c8, c9, c10⟩ := hst.cs
  have f0 := hst.soft 0
  have f1 := hst.soft 1
  have f2 := hst.soft 2
  have f3 := hst.soft 3
  have f4 := hst.soft 4
  have f5 := hst.soft 5
  have f6 := hst.soft 6
  have f7 := hst.soft 7
  have f8 := hst.soft 8
  have f9 := hst.soft 9
  have f10 := hst.soft 10
  clear hS hst hl ht HP
  go_wp2_with fail
  unfold filled at HLV8 HT8
  generalize (((((((((((w8.setCell ⟨w2.heap.size, 0, none⟩ (.bool exD.rd)).setCell ⟨w2.heap.size, 1, none⟩ (.bool exD.wt)).setCell ⟨w2.heap.size, 2, none⟩ (.int .i64 exD.mode)).setCell ⟨w2.heap.size, 3, none⟩ (.int .i64 exD.size)).setCell ⟨w2.heap.size, 4, none⟩ (.slice a1 exD.out.length k1)).setCell ⟨w2.heap.size, 5, none⟩ (.slice a2 exD.inn.length k2)).setCell ⟨w2.heap.size, 6, none⟩ (.slice a3 exD.back.length k3)).setCell ⟨w2.heap.size, 7, none⟩ (.int .i64 exD.dir)).setCell ⟨w2.heap.size, 8, none⟩ (.bool exD.fin)).setCell ⟨w2.heap.size, 9, none⟩ (.bool exD.bad)).setCell ⟨w2.heap.size, 10, none⟩ (.bool exD.closed)) = w8' at *
  have HTT := HT8
  have HSZ := hide HTT.out.size
  clear c0 c1 c2 c3 c4 c5 c6 c7 c8 c9 c10 f0 f1 f2 f3 f4 f5 f6 f7 f8 f9 f10 HT8
  refine (num_st _ _).mono ?_
  rintro _ _ ⟨rfl, rfl⟩
  go_wp2_with (first | (go_at_call 31; refine (num_st _ _).mono ?_; rintro _ _ ⟨rfl, rfl⟩) | fail)
  refine (gmbytes_any _ g _ _ HLV8.out.raw).mono ?_
  rintro _ w9 ⟨v9, rfl, hO9, hB9⟩
  obtain ⟨a9, k9, rfl⟩ := owns_slice hO9
  have s9 := owns_string hO9
  have c10 : w9.cell? ⟨w2.heap.size, 10, none⟩ = some (.bool true) := (HLV8.out.st.below hB9).cs.2.2.2.2.2.2.2.2.2.2
  have HB9 := hide ((HTT.out.trans (Turned.of_below (S := fun k => w.heap.size ≤ k) hB9) (fun _ _ e => e)).below (fun k e => e) (Nat.le_refl _))
  clear hO9 hB9 HLV8
  simp only [List.length_cons, List.length_nil, Nat.reduceAdd] at s9 ⊢
  go_wp2_with (first | (go_at_call 31; refine (num_st _ _).mono ?_; rintro _ _ ⟨rfl, rfl⟩) | fail)
  go_ret
  exact ⟨rfl, HB9.out⟩
end Go.Proofs.YtanbiinomagdbaaGreat

/- StreamTells, as values: what is got from a kernel's file, whatever its faults are. -/
namespace Go.Proofs.YtanbiinomagdbaaGreat
open Go.RowKit Go.Maps

def KTl (b : List UInt8) (p : Nat) (L : List Fault) (rd : Nat) : KS := ⟨[⟨⟨#[102]⟩, .file b⟩], [0], [⟨1, 0, 3, p, 1⟩], 2, L, rd, 0⟩
theorem tl_read (b : List UInt8) : RdV (kerD 1) b (KTl b) where
  read p L rd n hp hL h1 h2 := by
    have hx : (KTl b p L rd).find 1 = some ⟨1, 0, 3, p, 1⟩ := rfl
    have n1 : (1 : Int) ≤ (n : Int) := by omega
    have n2 : (n : Int) ≤ 1048576 := by omega
    show ∃ Y E, (KTl b p L rd).read 1 (n : Int) = _ ∧ _
    rw [read_is hx (by show fbit 3 1 ≠ 0; decide) n1 n2 rfl]
    rw [show (KTl b p L rd).plan = L from rfl]
    rcases nxt_err (l := L) n1 n2 with e | e | e
    · rw [if_pos e]
      have hg := nxt_good hL n1 n2 e
      refine ⟨piece b p (nxt L n).1.toNat, 0, rfl, take_piece hp, ?_, ?_, .inl ⟨rfl, fun hlt h0 => ?_⟩⟩
      · rw [piece_len]; omega
      · rw [piece_len]; omega
      · have := congrArg List.length h0
        rw [piece_len] at this
        simp at this
        omega
    · rw [if_neg (by omega), e]
      refine ⟨[], 22, rfl, by simp, by simpa using hp, by simp, .inr ⟨.inl rfl, rfl, fun hn => ?_⟩⟩
      subst hn
      rw [nxt_nil n1 n2] at e
      cases e
    · rw [if_neg (by omega), e]
      refine ⟨[], 23, rfl, by simp, by simpa using hp, by simp, .inr ⟨.inr rfl, rfl, fun hn => ?_⟩⟩
      subst hn
      rw [nxt_nil n1 n2] at e
      cases e
structure TsR (x : SS) (K : KS) (b : List UInt8) (i : Nat) : Prop where
  rd : x.rd = true
  m1 : 1 ≤ x.mode
  m2 : x.mode ≤ 3
  s1 : 1 ≤ x.size
  s2 : x.size ≤ 65536
  out : x.out = []
  back : x.back = []
  fin : x.fin = false
  bad : x.bad = false
  closed : x.closed = false
  dir : x.dir = 1 ∨ (x.dir = 0 ∧ x.inn = [])
  few : x.inn.length ≤ 65536
  inn : x.inn = (b.drop i).take x.inn.length
  st : ∃ L rd, K = KTl b (i + x.inn.length) L rd ∧ planOk L ∧ rd + L.length ≤ 4096 + i
  top : i + x.inn.length ≤ b.length
theorem TsR.may {x : SS} {K : KS} {b : List UInt8} {i : Nat} (h : TsR x K b i) : x.may = true := by
  unfold SS.may SS.buf SS.way SS.toR SS.toW
  have h1 := h.m1
  have h2 := h.m2
  have h3 := h.s1
  have h4 := h.s2
  have h5 : (x.inn.length : Int) ≤ 65536 := by have := h.few; omega
  have h6 : (0 : Int) ≤ if x.mode = 1 then 0 else x.size := by split <;> omega
  rw [h.out, h.back, h.closed, h.rd]
  rcases h.dir with e | ⟨e, e4⟩
  · simp [e, h1, h2, h3, h4, h5, h6]
  · simp [e, e4, h1, h2, h3, h4, h6]
theorem TsR.noRead {x : SS} {K : KS} {b : List UInt8} {i : Nat} (h : TsR x K b i) : x.noRead = 0 := by
  have hr : x.refuse true = 0 := by
    unfold SS.refuse
    rw [if_neg (by simp [h.may]), if_neg (by simp), if_neg (by simp [h.closed])]
  unfold SS.noRead
  rw [if_neg (by simp [hr]), if_neg (by simp [h.rd]), if_neg (fun e => by rcases h.dir with d | d <;> omega)]
theorem TsR.most {x : SS} {K : KS} {b : List UInt8} {i : Nat} (h : TsR x K b i) : 1 ≤ ({ x with dir := 1 } : SS).most ∧ ({ x with dir := 1 } : SS).most ≤ 65536 := by
  have h3 := h.s1
  have h4 := h.s2
  unfold SS.most
  simp only
  split <;> omega
theorem tl_some {x : SS} {K : KS} {b : List UInt8} {i : Nat} (h : TsR x K b i) (h0 : x.inn.length = 0) (hi : i < 1000000000) : ∃ Y L rd, someV (kerD 1) ({ x with dir := 1 } : SS).most 8192 K = (Y, 0, KTl b (i + Y.length) L rd) ∧ b.take i ++ Y = b.take (i + Y.length) ∧ i + Y.length ≤ b.length ∧ Y.length ≤ 65536 ∧ (i < b.length → Y ≠ []) ∧ planOk L ∧ rd + L.length ≤ 4096 + i + 1 := by
  obtain ⟨L, rd, hK, hL, hr⟩ := h.st
  have ht := h.top
  obtain ⟨m1, m2⟩ := h.most
  rw [h0, Nat.add_zero] at hK ht
  have hl := hL.1
  obtain ⟨-, Y, L', rd', g2, g3, g4, g5, g6, g7, g8⟩ := (tl_read b).some (ok := fun _ => True) (R := 2000000000) (fun _ _ _ _ => trivial) _ i ht m1 (by omega) 8192 L rd (by omega) hL (by omega)
  rw [hK]
  exact ⟨Y, L', rd', g2, g3, g4, by omega, g6, g7, by omega⟩
theorem take_more_is {b Y : List UInt8} {i : Nat} (h : b.take i ++ Y = b.take (i + Y.length)) (hl : i + Y.length ≤ b.length) : Y = (b.drop i).take Y.length := by
  have h1 : (b.take (i + Y.length)).drop i = (b.drop i).take Y.length := by rw [List.drop_take]; congr 1; omega
  rw [← h1, ← h, List.drop_append_of_le_length (by rw [List.length_take]; omega), List.drop_eq_nil_of_le (by rw [List.length_take]; omega), List.nil_append]
theorem tl_get {x : SS} {K : KS} {b : List UInt8} {i : Nat} (h : TsR x K b i) (hi : i < b.length) (hb : i < 1000000000) : (x.get (kerD 1) K).2.2.1 = 0 ∧ (x.get (kerD 1) K).2.1 = b.getD i 0 ∧ TsR (x.get (kerD 1) K).1 (x.get (kerD 1) K).2.2.2 b (i + 1) := by
  have hin := h.inn
  have htop := h.top
  have hfew := h.few
  unfold SS.get
  rw [if_pos h.noRead]
  unfold SS.get1
  rw [if_neg (by simp only; rw [h.back]; simp)]
  by_cases hp : 0 < x.inn.length
  · rw [if_pos hp]
    obtain ⟨L, rd, hK, hL, hr⟩ := h.st
    refine ⟨rfl, ?_, ⟨h.rd, h.m1, h.m2, h.s1, h.s2, h.out, h.back, h.fin, h.bad, h.closed, .inl rfl, ?_, ?_, ⟨L, rd, ?_, hL, by omega⟩, ?_⟩⟩
    · simp only
      rw [hin]
      simp only [List.getD_eq_getElem?_getD, List.getElem?_take, List.getElem?_drop, Nat.add_zero]
      rw [if_pos hp]
    · simp only [List.length_drop]
      omega
    · simp only [List.length_drop]
      conv => lhs; rw [hin]
      rw [List.drop_take, List.drop_drop]
    · simp only [List.length_drop]
      rw [hK]
      congr 1
      omega
    · simp only [List.length_drop]
      omega
  · have h0 : x.inn.length = 0 := by omega
    rw [if_neg hp, if_neg (by simp only; rw [h.fin]; simp)]
    obtain ⟨Y, L, rd, g1, g2, g3, g4, g5, g6, g7⟩ := tl_some h h0 hb
    rw [g1]
    simp only
    have hY : 0 < Y.length := List.length_pos_iff.2 (g5 hi)
    have hYe := take_more_is g2 g3
    rw [if_neg (by simp), if_neg (by omega)]
    refine ⟨rfl, ?_, ⟨h.rd, h.m1, h.m2, h.s1, h.s2, h.out, h.back, h.fin, h.bad, h.closed, .inl rfl, ?_, ?_, ⟨L, rd, ?_, g6, by omega⟩, ?_⟩⟩
    · simp only
      rw [hYe]
      simp only [List.getD_eq_getElem?_getD, List.getElem?_take, List.getElem?_drop, Nat.add_zero]
      rw [if_pos hY]
    · simp only [List.length_drop]
      omega
    · simp only [List.length_drop]
      conv => lhs; rw [hYe]
      rw [List.drop_take, List.drop_drop]
    · simp only [List.length_drop]
      congr 1
      omega
    · simp only [List.length_drop]
      omega
theorem tl_end {x : SS} {K : KS} {b : List UInt8} (h : TsR x K b b.length) (hb : b.length < 1000000000) : ∃ K2, x.get (kerD 1) K = ({ x with dir := 1, fin := true }, 0, 111, K2) ∧ K2.reads ≤ 4096 + b.length + 1 ∧ K2.writes = 0 := by
  have htop := h.top
  have h0 : x.inn.length = 0 := by omega
  obtain ⟨Y, L, rd, g1, g2, g3, g4, g5, g6, g7⟩ := tl_some h h0 hb
  have hY : Y.length = 0 := by omega
  refine ⟨(someV (kerD 1) ({ x with dir := 1 } : SS).most 8192 K).2.2, ?_, ?_, ?_⟩
  · unfold SS.get
    rw [if_pos h.noRead]
    unfold SS.get1
    rw [if_neg (by simp only; rw [h.back]; simp), if_neg (by simp only; omega), if_neg (by simp only; rw [h.fin]; simp), if_neg (by rw [g1]; simp), if_pos (by rw [g1]; exact hY)]
  · rw [g1]
    show rd ≤ _
    omega
  · rw [g1]
    rfl
theorem tl_over {x : SS} {K : KS} {b : List UInt8} (h : TsR x K b b.length) (K' : KS) : (({ x with dir := 1, fin := true } : SS).get (kerD 1) K').2.2.1 = 111 := by
  have htop := h.top
  have h0 : x.inn.length = 0 := by omega
  have hm : ({ x with dir := 1, fin := true } : SS).may = true := by
    have h1 := h.m1
    have h2 := h.m2
    have h3 := h.s1
    have h4 := h.s2
    have h5 : (x.inn.length : Int) ≤ 65536 := by have := h.few; omega
    have h6 : (0 : Int) ≤ if x.mode = 1 then 0 else x.size := by split <;> omega
    unfold SS.may SS.buf SS.way SS.toR SS.toW
    simp [h.out, h.back, h.closed, h.rd, h1, h2, h3, h4, h5, h6]
  have hn : ({ x with dir := 1, fin := true } : SS).noRead = 0 := by
    have hr : ({ x with dir := 1, fin := true } : SS).refuse true = 0 := by
      unfold SS.refuse
      rw [if_neg (by rw [hm]; simp), if_neg (by simp), if_neg (by simp [h.closed])]
    unfold SS.noRead
    rw [if_neg (by rw [hr]; simp), if_neg (by simp [h.rd]), if_neg (by simp)]
  unfold SS.get
  rw [if_pos hn]
  unfold SS.get1
  rw [if_neg (by simp only; rw [h.back]; simp), if_neg (by simp only; omega), if_pos rfl]
theorem tl_seek (b : List UInt8) (fs : List Fault) : ((KTl b 0 fs 0).seek 1 0 0).2.2 = KTl b 0 fs 0 := by
  have hx : (KTl b 0 fs 0).find 1 = some ⟨1, 0, 3, 0, 1⟩ := rfl
  unfold KS.seek
  rw [hx]
  simp only [show (KTl b 0 fs 0).tho ⟨1, 0, 3, 0, 1⟩ = .file b from rfl]
  rw [if_neg (by decide), if_pos (by simp)]
  rfl
theorem tl_made (b : List UInt8) (fs : List Fault) : kmD ⟨4, 0, b, [], [], fs, [], 0, false⟩ false = 1 ∧ kmK ⟨4, 0, b, [], [], fs, [], 0, false⟩ false = KTl b 0 fs 0 := by
  have hc : ∀ (K : KS) i, KS.cut K i 3 = K := fun K i => by
    unfold KS.cut
    rw [if_neg (by decide)]
  have hq : KS.byName ⟨[⟨⟨#[102]⟩, .file b⟩], [0], [], 1, fs, 0, 0⟩ ⟨#[102]⟩ = some 0 := rfl
  have ho : KS.open ⟨[⟨⟨#[102]⟩, .file b⟩], [0], [], 1, fs, 0, 0⟩ ⟨#[102]⟩ 3 = (1, 0, KTl b 0 fs 0) := by
    unfold KS.open
    rw [if_neg (by decide), if_neg (by decide), if_neg (by simp), hq]
    simp only
    rw [if_pos (by decide), hc]
    rfl
  have hn : KS.new (kfs ⟨4, 0, b, [], [], fs, [], 0, false⟩ false) (kts ⟨4, 0, b, [], [], fs, [], 0, false⟩ false) fs = ⟨[⟨⟨#[102]⟩, .file b⟩], [0], [], 1, fs, 0, 0⟩ := by
    simp [kfs, kts, KS.new, KS.nought, KS.addTh, insN]
  unfold kmD kmK
  rw [show kfl ⟨4, 0, b, [], [], fs, [], 0, false⟩ = 3 from rfl]
  simp only
  rw [hn, ho]
  exact ⟨rfl, rfl⟩
end Go.Proofs.YtanbiinomagdbaaGreat

/- How many calls of retry a kernel's description bears. -/
namespace Go.Proofs.YtanbiinomagdbaaGreat
open Go.RowKit Go.Maps

def kB (n : Nat) (K : KS) : Prop := K.reads + n * 8192 ≤ 4611686018427387904 ∧ K.writes + n * 536879104 ≤ 4611686018427387904
theorem ker_some (d : Int) (m : Nat) : ∀ k (K : KS), K.reads + k ≤ 4611686018427387904 → someOk (kerD d) kerR m k K ∧ (someV (kerD d) m k K).2.2.reads ≤ K.reads + k ∧ (someV (kerD d) m k K).2.2.writes = K.writes
  | 0, K, _ => ⟨trivial, Nat.le_refl _, rfl⟩
  | k + 1, K, h => by
    obtain ⟨c1, c2⟩ := read_counts K d (m : Int)
    have hr : (kerD d).read K m = K.read d (m : Int) := rfl
    generalize hq : K.read d (m : Int) = q at c1 c2 hr
    obtain ⟨Y, e, K2⟩ := q
    simp only at c1 c2
    obtain ⟨i1, i2, i3⟩ := ker_some d m k K2 (by omega)
    refine ⟨⟨by unfold kerR; omega, fun _ => by rw [hr]; exact i1⟩, ?_⟩
    rw [someV_next (kerD d) m k K hr]
    split
    · exact ⟨by omega, by omega⟩
    split
    · exact ⟨by simp only; omega, c2⟩
    split
    · exact ⟨by simp only; omega, c2⟩
    · exact ⟨by simp only; omega, c2⟩
theorem ker_put (d : Int) (bs : List UInt8) : ∀ k (K : KS) p t, K.writes + k ≤ 4611686018427387904 → putOk (kerD d) kerW bs k K p t ∧ (putV (kerD d) bs k K p t).2.2.writes ≤ K.writes + k ∧ (putV (kerD d) bs k K p t).2.2.reads = K.reads
  | 0, K, _, _, _ => ⟨trivial, Nat.le_refl _, rfl⟩
  | k + 1, K, p, t, h => by
    obtain ⟨c1, c2⟩ := write_counts K d (bs.drop p)
    have hr : (kerD d).write K (bs.drop p) = K.write d (bs.drop p) := rfl
    generalize hq : K.write d (bs.drop p) = q at c1 c2 hr
    obtain ⟨m, e, K2⟩ := q
    simp only at c1 c2
    refine ⟨fun _ => ⟨by unfold kerW; omega, fun _ _ => ?_, fun _ _ _ => ?_⟩, ?_⟩
    · rw [hr]; exact (ker_put d bs k K2 _ _ (by omega)).1
    · rw [hr]; exact (ker_put d bs k K2 _ _ (by omega)).1
    rw [putV_next (kerD d) bs k K p t hr]
    split
    · split
      · split
        · exact ⟨by simp only; omega, c2⟩
        · obtain ⟨-, i2, i3⟩ := ker_put d bs k K2 p (t + 1) (by omega)
          exact ⟨by omega, by omega⟩
      · split
        · exact ⟨by simp only; omega, c2⟩
        split
        · obtain ⟨-, i2, i3⟩ := ker_put d bs k K2 (p + m.toNat) 0 (by omega)
          exact ⟨by omega, by omega⟩
        · exact ⟨by simp only; omega, c2⟩
    · exact ⟨by simp only; omega, rfl⟩
set_option maxRecDepth 100000 in
theorem ker_some_b (d : Int) (m k n : Nat) (K : KS) (hk : k ≤ 8192) (h : kB (n + 1) K) : someOk (kerD d) kerR m k K ∧ kB n (someV (kerD d) m k K).2.2 := by
  unfold kB at *
  have h3 := ker_some d m k K (by omega)
  have b := h3.2.1
  have c := h3.2.2
  exact And.intro h3.1 ⟨by omega, by omega⟩
set_option maxRecDepth 100000 in
theorem ker_put_b (d : Int) (bs : List UInt8) (k n : Nat) (K : KS) (hk : k ≤ 536879104) (h : kB (n + 1) K) : putOk (kerD d) kerW bs k K 0 0 ∧ kB n (putV (kerD d) bs k K 0 0).2.2 := by
  unfold kB at *
  have h3 := ker_put d bs k K 0 0 (by omega)
  have b := h3.2.1
  have c := h3.2.2
  exact And.intro h3.1 ⟨by omega, by omega⟩
set_option maxRecDepth 100000 in
theorem ker_bears (d : Int) : Bears (kerD d) kerR kerW kB where
  put n K bs h hl := ker_put_b d bs (putF bs) n K (by unfold putF; omega) h
  some n K m h _ _ := ker_some_b d m 8192 n K (Nat.le_refl _) h
  less n K h := by unfold kB at *; omega
end Go.Proofs.YtanbiinomagdbaaGreat

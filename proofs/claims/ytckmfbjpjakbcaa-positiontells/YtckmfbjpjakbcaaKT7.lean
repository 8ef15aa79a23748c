/- What the proof stands on, part 7: the contracts of the program's calls that it reaches. -/
import Derived.Test.YtckmfbjpjakbcaaKT6
import Derived.KernelRfl
import Derived.Lib.SlBytesConst
import Derived.Deep.RegionLaw
/- Streams: New. -/
namespace Go.Proofs.Ytckmfbjpjakbcaa
open Go.RowKit

def ss0 : SS := ⟨false, false, 0, 0, [], [], [], 0, false, false, false⟩
def SS.new (m : Mo) (mode size : Int) : SS × Int :=
  if chkM m = 0 then (if 1 ≤ mode ∧ mode ≤ 3 then (if 1 ≤ size ∧ size ≤ 65536 then (⟨m.rd, m.wr, mode, size, [], [], [], 0, false, false, false⟩, 0) else (ss0, 4)) else (ss0, 1)) else (ss0, chkM m)
set_option maxRecDepth 100000 in
set_option maxHeartbeats 2000000 in
theorem sNew_any (m : Mo) (mode size : Int) (w : World) :
    Calls Try.prog 7 #[mv m, .int .i64 mode, .int .i64 size] w fun e w' => e = .returned (.tuple #[.agg #[.bool (SS.new m mode size).1.rd, .bool (SS.new m mode size).1.wt, .int .i64 (SS.new m mode size).1.mode, .int .i64 (SS.new m mode size).1.size, .slice none 0 0, .slice none 0 0, .slice none 0 0, .int .i64 (SS.new m mode size).1.dir, .bool (SS.new m mode size).1.fin, .bool (SS.new m mode size).1.bad, .bool (SS.new m mode size).1.closed], .int .i64 (SS.new m mode size).2]) ∧ Below w.heap.size w w' := by
  have HC := hide (ocheck_any m)
  generalize hq : SS.new m mode size = q
  obtain ⟨qx, qe⟩ := q
  unfold SS.new at hq
  generalize chkM m = ck at *
  unfold mv at *
  by_cases h0 : ck = 0
  · subst h0
    rw [if_pos rfl] at hq
    by_cases h1 : 1 ≤ mode ∧ mode ≤ 3
    · rw [if_pos h1] at hq
      have HI : Hid ((decide (1 ≤ mode) && decide (mode ≤ 3)) = true) := hide (by rw [decide_eq_true h1.1, decide_eq_true h1.2]; rfl)
      by_cases h2 : 1 ≤ size ∧ size ≤ 65536
      · rw [if_pos h2] at hq
        have HJ : Hid ((decide (1 ≤ size) && decide (size ≤ 65536)) = true) := hide (by rw [decide_eq_true h2.1, decide_eq_true h2.2]; rfl)
        obtain ⟨rfl, rfl⟩ : (⟨m.rd, m.wr, mode, size, [], [], [], 0, false, false, false⟩ : SS) = qx ∧ 0 = qe := by simpa using hq
        clear hq h1 h2
        go_enter Try.func7, Try.ntmps7
        go_wp2_with fail
        have HB0 := hide ((recv_below w (Obj.cells #[.bool m.rd, .bool m.wr, .bool m.ap, .bool m.cr, .bool m.tr, .bool m.ex, .bool m.bi, .bool m.ma] 33)).trans ((recv_below (w.alloc (Obj.cells #[.bool m.rd, .bool m.wr, .bool m.ap, .bool m.cr, .bool m.tr, .bool m.ex, .bool m.bi, .bool m.ma] 33)) (Obj.cells #[.bool false, .bool false, .int .i64 0, .int .i64 0, .slice none 0 0, .slice none 0 0, .slice none 0 0, .int .i64 0, .bool false, .bool false, .bool false] 29)).mono (recv_below w (Obj.cells #[.bool m.rd, .bool m.wr, .bool m.ap, .bool m.cr, .bool m.tr, .bool m.ex, .bool m.bi, .bool m.ma] 33)).size))
        have HM0 : Hid (((w.alloc (Obj.cells #[.bool m.rd, .bool m.wr, .bool m.ap, .bool m.cr, .bool m.tr, .bool m.ex, .bool m.bi, .bool m.ma] 33)).alloc (Obj.cells #[.bool false, .bool false, .int .i64 0, .int .i64 0, .slice none 0 0, .slice none 0 0, .slice none 0 0, .int .i64 0, .bool false, .bool false, .bool false] 29)).heap[w.heap.size]? = some (Obj.cells #[.bool m.rd, .bool m.wr, .bool m.ap, .bool m.cr, .bool m.tr, .bool m.ex, .bool m.bi, .bool m.ma] 33)) := hide (((recv_below (w.alloc (Obj.cells #[.bool m.rd, .bool m.wr, .bool m.ap, .bool m.cr, .bool m.tr, .bool m.ex, .bool m.bi, .bool m.ma] 33)) (Obj.cells #[.bool false, .bool false, .int .i64 0, .int .i64 0, .slice none 0 0, .slice none 0 0, .slice none 0 0, .int .i64 0, .bool false, .bool false, .bool false] 29)).block w.heap.size (by simp)).trans (heap_alloc_new w (Obj.cells #[.bool m.rd, .bool m.wr, .bool m.ap, .bool m.cr, .bool m.tr, .bool m.ex, .bool m.bi, .bool m.ma] 33)))
        have HZ0 : Hid (((w.alloc (Obj.cells #[.bool m.rd, .bool m.wr, .bool m.ap, .bool m.cr, .bool m.tr, .bool m.ex, .bool m.bi, .bool m.ma] 33)).alloc (Obj.cells #[.bool false, .bool false, .int .i64 0, .int .i64 0, .slice none 0 0, .slice none 0 0, .slice none 0 0, .int .i64 0, .bool false, .bool false, .bool false] 29)).heap[w.heap.size + 1]? = some (Obj.cells #[.bool false, .bool false, .int .i64 0, .int .i64 0, .slice none 0 0, .slice none 0 0, .slice none 0 0, .int .i64 0, .bool false, .bool false, .bool false] 29)) := hide (by have := heap_alloc_new (w.alloc (Obj.cells #[.bool m.rd, .bool m.wr, .bool m.ap, .bool m.cr, .bool m.tr, .bool m.ex, .bool m.bi, .bool m.ma] 33)) (Obj.cells #[.bool false, .bool false, .int .i64 0, .int .i64 0, .slice none 0 0, .slice none 0 0, .slice none 0 0, .int .i64 0, .bool false, .bool false, .bool false] 29); rw [show (w.alloc (Obj.cells #[.bool m.rd, .bool m.wr, .bool m.ap, .bool m.cr, .bool m.tr, .bool m.ex, .bool m.bi, .bool m.ma] 33)).heap.size = w.heap.size + 1 from Array.size_push ..] at this; exact this)
        generalize (w.alloc (Obj.cells #[.bool m.rd, .bool m.wr, .bool m.ap, .bool m.cr, .bool m.tr, .bool m.ex, .bool m.bi, .bool m.ma] 33)).alloc (Obj.cells #[.bool false, .bool false, .int .i64 0, .int .i64 0, .slice none 0 0, .slice none 0 0, .slice none 0 0, .int .i64 0, .bool false, .bool false, .bool false] 29) = w0 at *
        have hz0 : w.heap.size + 1 < w0.heap.size := (Array.getElem?_eq_some_iff.1 HZ0.out).1
        refine (HC.out w0).mono ?_
        rintro _ w1 ⟨rfl, hB1⟩
        have HZ1 := hide ((hB1.block (w.heap.size + 1) hz0).trans HZ0.out)
        have HM1 := hide ((hB1.block w.heap.size (by omega)).trans HM0.out)
        have p0 := cell_of_row w1 w.heap.size 0 _ _ _ HM1.out
        have p1 := cell_of_row w1 w.heap.size 1 _ _ _ HM1.out
        have z0 := cell_of_row w1 (w.heap.size + 1) 0 _ _ _ HZ1.out
        have z1 := cell_of_row w1 (w.heap.size + 1) 1 _ _ _ HZ1.out
        have z2 := cell_of_row w1 (w.heap.size + 1) 2 _ _ _ HZ1.out
        have z3 := cell_of_row w1 (w.heap.size + 1) 3 _ _ _ HZ1.out
        have z4 := cell_of_row w1 (w.heap.size + 1) 4 _ _ _ HZ1.out
        have z5 := cell_of_row w1 (w.heap.size + 1) 5 _ _ _ HZ1.out
        have z6 := cell_of_row w1 (w.heap.size + 1) 6 _ _ _ HZ1.out
        have z7 := cell_of_row w1 (w.heap.size + 1) 7 _ _ _ HZ1.out
        have z8 := cell_of_row w1 (w.heap.size + 1) 8 _ _ _ HZ1.out
        have z9 := cell_of_row w1 (w.heap.size + 1) 9 _ _ _ HZ1.out
        have z10 := cell_of_row w1 (w.heap.size + 1) 10 _ _ _ HZ1.out
        have u0 := frozen_of_row w1 (w.heap.size + 1) 0 _ _ HZ1.out
        have u1 := frozen_of_row w1 (w.heap.size + 1) 1 _ _ HZ1.out
        have u2 := frozen_of_row w1 (w.heap.size + 1) 2 _ _ HZ1.out
        have u3 := frozen_of_row w1 (w.heap.size + 1) 3 _ _ HZ1.out
        have u4 := frozen_of_row w1 (w.heap.size + 1) 4 _ _ HZ1.out
        have u5 := frozen_of_row w1 (w.heap.size + 1) 5 _ _ HZ1.out
        have u6 := frozen_of_row w1 (w.heap.size + 1) 6 _ _ HZ1.out
        have u7 := frozen_of_row w1 (w.heap.size + 1) 7 _ _ HZ1.out
        have u8 := frozen_of_row w1 (w.heap.size + 1) 8 _ _ HZ1.out
        have u9 := frozen_of_row w1 (w.heap.size + 1) 9 _ _ HZ1.out
        have u10 := frozen_of_row w1 (w.heap.size + 1) 10 _ _ HZ1.out
        simp at p0 p1 z0 z1 z2 z3 z4 z5 z6 z7 z8 z9 z10
        have HB1 := hide (HB0.out.trans (hB1.mono HB0.out.size))
        clear hB1
        go_wp2_with (first | (go_at_call 17; refine (isMode_any _ _).mono ?_; rintro _ _ ⟨rfl, rfl⟩; rw [HI.out]) | (go_at_call 18; refine (isSize_any _ _).mono ?_; rintro _ _ ⟨rfl, rfl⟩; rw [HJ.out]) | fail)
        obtain ⟨e1, e2⟩ := st_fill w1 (w.heap.size + 1) (⟨m.rd, m.wr, mode, size, [], [], [], 0, false, false, false⟩ : SS) (.slice none 0 0) (.slice none 0 0) (.slice none 0 0) HZ1.out
        refine bodyPost_ret (res_two rfl _ (w.heap.size + 1) rfl (⟨m.rd, m.wr, mode, size, [], [], [], 0, false, false, false⟩ : SS) _ _ _ e1) rfl ?_
        exact ⟨rfl, HB1.out.trans (e2.below (fun k e => by omega) HB1.out.size)⟩
      · rw [if_neg h2] at hq
        have HJ : Hid ((decide (1 ≤ size) && decide (size ≤ 65536)) = false) := hide (by
          by_cases h3 : 1 ≤ size
          · rw [decide_eq_false (p := size ≤ 65536) (fun e => h2 ⟨h3, e⟩), Bool.and_false]
          · rw [decide_eq_false h3]; rfl)
        obtain ⟨rfl, rfl⟩ : ss0 = qx ∧ 4 = qe := by simpa using hq
        clear hq h1 h2
        go_enter Try.func7, Try.ntmps7
        go_wp2_with fail
        have HB0 := hide ((recv_below w (Obj.cells #[.bool m.rd, .bool m.wr, .bool m.ap, .bool m.cr, .bool m.tr, .bool m.ex, .bool m.bi, .bool m.ma] 33)).trans ((recv_below (w.alloc (Obj.cells #[.bool m.rd, .bool m.wr, .bool m.ap, .bool m.cr, .bool m.tr, .bool m.ex, .bool m.bi, .bool m.ma] 33)) (Obj.cells #[.bool false, .bool false, .int .i64 0, .int .i64 0, .slice none 0 0, .slice none 0 0, .slice none 0 0, .int .i64 0, .bool false, .bool false, .bool false] 29)).mono (recv_below w (Obj.cells #[.bool m.rd, .bool m.wr, .bool m.ap, .bool m.cr, .bool m.tr, .bool m.ex, .bool m.bi, .bool m.ma] 33)).size))
        have HM0 : Hid (((w.alloc (Obj.cells #[.bool m.rd, .bool m.wr, .bool m.ap, .bool m.cr, .bool m.tr, .bool m.ex, .bool m.bi, .bool m.ma] 33)).alloc (Obj.cells #[.bool false, .bool false, .int .i64 0, .int .i64 0, .slice none 0 0, .slice none 0 0, .slice none 0 0, .int .i64 0, .bool false, .bool false, .bool false] 29)).heap[w.heap.size]? = some (Obj.cells #[.bool m.rd, .bool m.wr, .bool m.ap, .bool m.cr, .bool m.tr, .bool m.ex, .bool m.bi, .bool m.ma] 33)) := hide (((recv_below (w.alloc (Obj.cells #[.bool m.rd, .bool m.wr, .bool m.ap, .bool m.cr, .bool m.tr, .bool m.ex, .bool m.bi, .bool m.ma] 33)) (Obj.cells #[.bool false, .bool false, .int .i64 0, .int .i64 0, .slice none 0 0, .slice none 0 0, .slice none 0 0, .int .i64 0, .bool false, .bool false, .bool false] 29)).block w.heap.size (by simp)).trans (heap_alloc_new w (Obj.cells #[.bool m.rd, .bool m.wr, .bool m.ap, .bool m.cr, .bool m.tr, .bool m.ex, .bool m.bi, .bool m.ma] 33)))
        have HZ0 : Hid (((w.alloc (Obj.cells #[.bool m.rd, .bool m.wr, .bool m.ap, .bool m.cr, .bool m.tr, .bool m.ex, .bool m.bi, .bool m.ma] 33)).alloc (Obj.cells #[.bool false, .bool false, .int .i64 0, .int .i64 0, .slice none 0 0, .slice none 0 0, .slice none 0 0, .int .i64 0, .bool false, .bool false, .bool false] 29)).heap[w.heap.size + 1]? = some (Obj.cells #[.bool false, .bool false, .int .i64 0, .int .i64 0, .slice none 0 0, .slice none 0 0, .slice none 0 0, .int .i64 0, .bool false, .bool false, .bool false] 29)) := hide (by have := heap_alloc_new (w.alloc (Obj.cells #[.bool m.rd, .bool m.wr, .bool m.ap, .bool m.cr, .bool m.tr, .bool m.ex, .bool m.bi, .bool m.ma] 33)) (Obj.cells #[.bool false, .bool false, .int .i64 0, .int .i64 0, .slice none 0 0, .slice none 0 0, .slice none 0 0, .int .i64 0, .bool false, .bool false, .bool false] 29); rw [show (w.alloc (Obj.cells #[.bool m.rd, .bool m.wr, .bool m.ap, .bool m.cr, .bool m.tr, .bool m.ex, .bool m.bi, .bool m.ma] 33)).heap.size = w.heap.size + 1 from Array.size_push ..] at this; exact this)
        generalize (w.alloc (Obj.cells #[.bool m.rd, .bool m.wr, .bool m.ap, .bool m.cr, .bool m.tr, .bool m.ex, .bool m.bi, .bool m.ma] 33)).alloc (Obj.cells #[.bool false, .bool false, .int .i64 0, .int .i64 0, .slice none 0 0, .slice none 0 0, .slice none 0 0, .int .i64 0, .bool false, .bool false, .bool false] 29) = w0 at *
        have hz0 : w.heap.size + 1 < w0.heap.size := (Array.getElem?_eq_some_iff.1 HZ0.out).1
        refine (HC.out w0).mono ?_
        rintro _ w1 ⟨rfl, hB1⟩
        have HZ1 := hide ((hB1.block (w.heap.size + 1) hz0).trans HZ0.out)
        have HM1 := hide ((hB1.block w.heap.size (by omega)).trans HM0.out)
        have p0 := cell_of_row w1 w.heap.size 0 _ _ _ HM1.out
        have p1 := cell_of_row w1 w.heap.size 1 _ _ _ HM1.out
        have z0 := cell_of_row w1 (w.heap.size + 1) 0 _ _ _ HZ1.out
        have z1 := cell_of_row w1 (w.heap.size + 1) 1 _ _ _ HZ1.out
        have z2 := cell_of_row w1 (w.heap.size + 1) 2 _ _ _ HZ1.out
        have z3 := cell_of_row w1 (w.heap.size + 1) 3 _ _ _ HZ1.out
        have z4 := cell_of_row w1 (w.heap.size + 1) 4 _ _ _ HZ1.out
        have z5 := cell_of_row w1 (w.heap.size + 1) 5 _ _ _ HZ1.out
        have z6 := cell_of_row w1 (w.heap.size + 1) 6 _ _ _ HZ1.out
        have z7 := cell_of_row w1 (w.heap.size + 1) 7 _ _ _ HZ1.out
        have z8 := cell_of_row w1 (w.heap.size + 1) 8 _ _ _ HZ1.out
        have z9 := cell_of_row w1 (w.heap.size + 1) 9 _ _ _ HZ1.out
        have z10 := cell_of_row w1 (w.heap.size + 1) 10 _ _ _ HZ1.out
        have u0 := frozen_of_row w1 (w.heap.size + 1) 0 _ _ HZ1.out
        have u1 := frozen_of_row w1 (w.heap.size + 1) 1 _ _ HZ1.out
        have u2 := frozen_of_row w1 (w.heap.size + 1) 2 _ _ HZ1.out
        have u3 := frozen_of_row w1 (w.heap.size + 1) 3 _ _ HZ1.out
        have u4 := frozen_of_row w1 (w.heap.size + 1) 4 _ _ HZ1.out
        have u5 := frozen_of_row w1 (w.heap.size + 1) 5 _ _ HZ1.out
        have u6 := frozen_of_row w1 (w.heap.size + 1) 6 _ _ HZ1.out
        have u7 := frozen_of_row w1 (w.heap.size + 1) 7 _ _ HZ1.out
        have u8 := frozen_of_row w1 (w.heap.size + 1) 8 _ _ HZ1.out
        have u9 := frozen_of_row w1 (w.heap.size + 1) 9 _ _ HZ1.out
        have u10 := frozen_of_row w1 (w.heap.size + 1) 10 _ _ HZ1.out
        simp at p0 p1 z0 z1 z2 z3 z4 z5 z6 z7 z8 z9 z10
        have HB1 := hide (HB0.out.trans (hB1.mono HB0.out.size))
        clear hB1
        go_wp2_with (first | (go_at_call 17; refine (isMode_any _ _).mono ?_; rintro _ _ ⟨rfl, rfl⟩; rw [HI.out]) | (go_at_call 18; refine (isSize_any _ _).mono ?_; rintro _ _ ⟨rfl, rfl⟩; rw [HJ.out]) | fail)
        obtain ⟨e1, e2⟩ := st_fill w1 (w.heap.size + 1) ss0 (.slice none 0 0) (.slice none 0 0) (.slice none 0 0) HZ1.out
        refine bodyPost_ret (res_two rfl _ (w.heap.size + 1) rfl ss0 _ _ _ e1) rfl ?_
        exact ⟨rfl, HB1.out.trans (e2.below (fun k e => by omega) HB1.out.size)⟩
    · rw [if_neg h1] at hq
      have HI : Hid ((decide (1 ≤ mode) && decide (mode ≤ 3)) = false) := hide (by
        by_cases h3 : 1 ≤ mode
        · rw [decide_eq_false (p := mode ≤ 3) (fun e => h1 ⟨h3, e⟩), Bool.and_false]
        · rw [decide_eq_false h3]; rfl)
      obtain ⟨rfl, rfl⟩ : ss0 = qx ∧ 1 = qe := by simpa using hq
      clear hq h1
      go_enter Try.func7, Try.ntmps7
      go_wp2_with fail
      have HB0 := hide ((recv_below w (Obj.cells #[.bool m.rd, .bool m.wr, .bool m.ap, .bool m.cr, .bool m.tr, .bool m.ex, .bool m.bi, .bool m.ma] 33)).trans ((recv_below (w.alloc (Obj.cells #[.bool m.rd, .bool m.wr, .bool m.ap, .bool m.cr, .bool m.tr, .bool m.ex, .bool m.bi, .bool m.ma] 33)) (Obj.cells #[.bool false, .bool false, .int .i64 0, .int .i64 0, .slice none 0 0, .slice none 0 0, .slice none 0 0, .int .i64 0, .bool false, .bool false, .bool false] 29)).mono (recv_below w (Obj.cells #[.bool m.rd, .bool m.wr, .bool m.ap, .bool m.cr, .bool m.tr, .bool m.ex, .bool m.bi, .bool m.ma] 33)).size))
      have HM0 : Hid (((w.alloc (Obj.cells #[.bool m.rd, .bool m.wr, .bool m.ap, .bool m.cr, .bool m.tr, .bool m.ex, .bool m.bi, .bool m.ma] 33)).alloc (Obj.cells #[.bool false, .bool false, .int .i64 0, .int .i64 0, .slice none 0 0, .slice none 0 0, .slice none 0 0, .int .i64 0, .bool false, .bool false, .bool false] 29)).heap[w.heap.size]? = some (Obj.cells #[.bool m.rd, .bool m.wr, .bool m.ap, .bool m.cr, .bool m.tr, .bool m.ex, .bool m.bi, .bool m.ma] 33)) := hide (((recv_below (w.alloc (Obj.cells #[.bool m.rd, .bool m.wr, .bool m.ap, .bool m.cr, .bool m.tr, .bool m.ex, .bool m.bi, .bool m.ma] 33)) (Obj.cells #[.bool false, .bool false, .int .i64 0, .int .i64 0, .slice none 0 0, .slice none 0 0, .slice none 0 0, .int .i64 0, .bool false, .bool false, .bool false] 29)).block w.heap.size (by simp)).trans (heap_alloc_new w (Obj.cells #[.bool m.rd, .bool m.wr, .bool m.ap, .bool m.cr, .bool m.tr, .bool m.ex, .bool m.bi, .bool m.ma] 33)))
      have HZ0 : Hid (((w.alloc (Obj.cells #[.bool m.rd, .bool m.wr, .bool m.ap, .bool m.cr, .bool m.tr, .bool m.ex, .bool m.bi, .bool m.ma] 33)).alloc (Obj.cells #[.bool false, .bool false, .int .i64 0, .int .i64 0, .slice none 0 0, .slice none 0 0, .slice none 0 0, .int .i64 0, .bool false, .bool false, .bool false] 29)).heap[w.heap.size + 1]? = some (Obj.cells #[.bool false, .bool false, .int .i64 0, .int .i64 0, .slice none 0 0, .slice none 0 0, .slice none 0 0, .int .i64 0, .bool false, .bool false, .bool false] 29)) := hide (by have := heap_alloc_new (w.alloc (Obj.cells #[.bool m.rd, .bool m.wr, .bool m.ap, .bool m.cr, .bool m.tr, .bool m.ex, .bool m.bi, .bool m.ma] 33)) (Obj.cells #[.bool false, .bool false, .int .i64 0, .int .i64 0, .slice none 0 0, .slice none 0 0, .slice none 0 0, .int .i64 0, .bool false, .bool false, .bool false] 29); rw [show (w.alloc (Obj.cells #[.bool m.rd, .bool m.wr, .bool m.ap, .bool m.cr, .bool m.tr, .bool m.ex, .bool m.bi, .bool m.ma] 33)).heap.size = w.heap.size + 1 from Array.size_push ..] at this; exact this)
      generalize (w.alloc (Obj.cells #[.bool m.rd, .bool m.wr, .bool m.ap, .bool m.cr, .bool m.tr, .bool m.ex, .bool m.bi, .bool m.ma] 33)).alloc (Obj.cells #[.bool false, .bool false, .int .i64 0, .int .i64 0, .slice none 0 0, .slice none 0 0, .slice none 0 0, .int .i64 0, .bool false, .bool false, .bool false] 29) = w0 at *
      have hz0 : w.heap.size + 1 < w0.heap.size := (Array.getElem?_eq_some_iff.1 HZ0.out).1
      refine (HC.out w0).mono ?_
      rintro _ w1 ⟨rfl, hB1⟩
      have HZ1 := hide ((hB1.block (w.heap.size + 1) hz0).trans HZ0.out)
      have HM1 := hide ((hB1.block w.heap.size (by omega)).trans HM0.out)
      have p0 := cell_of_row w1 w.heap.size 0 _ _ _ HM1.out
      have p1 := cell_of_row w1 w.heap.size 1 _ _ _ HM1.out
      have z0 := cell_of_row w1 (w.heap.size + 1) 0 _ _ _ HZ1.out
      have z1 := cell_of_row w1 (w.heap.size + 1) 1 _ _ _ HZ1.out
      have z2 := cell_of_row w1 (w.heap.size + 1) 2 _ _ _ HZ1.out
      have z3 := cell_of_row w1 (w.heap.size + 1) 3 _ _ _ HZ1.out
      have z4 := cell_of_row w1 (w.heap.size + 1) 4 _ _ _ HZ1.out
      have z5 := cell_of_row w1 (w.heap.size + 1) 5 _ _ _ HZ1.out
      have z6 := cell_of_row w1 (w.heap.size + 1) 6 _ _ _ HZ1.out
      have z7 := cell_of_row w1 (w.heap.size + 1) 7 _ _ _ HZ1.out
      have z8 := cell_of_row w1 (w.heap.size + 1) 8 _ _ _ HZ1.out
      have z9 := cell_of_row w1 (w.heap.size + 1) 9 _ _ _ HZ1.out
      have z10 := cell_of_row w1 (w.heap.size + 1) 10 _ _ _ HZ1.out
      have u0 := frozen_of_row w1 (w.heap.size + 1) 0 _ _ HZ1.out
      have u1 := frozen_of_row w1 (w.heap.size + 1) 1 _ _ HZ1.out
      have u2 := frozen_of_row w1 (w.heap.size + 1) 2 _ _ HZ1.out
      have u3 := frozen_of_row w1 (w.heap.size + 1) 3 _ _ HZ1.out
      have u4 := frozen_of_row w1 (w.heap.size + 1) 4 _ _ HZ1.out
      have u5 := frozen_of_row w1 (w.heap.size + 1) 5 _ _ HZ1.out
      have u6 := frozen_of_row w1 (w.heap.size + 1) 6 _ _ HZ1.out
      have u7 := frozen_of_row w1 (w.heap.size + 1) 7 _ _ HZ1.out
      have u8 := frozen_of_row w1 (w.heap.size + 1) 8 _ _ HZ1.out
      have u9 := frozen_of_row w1 (w.heap.size + 1) 9 _ _ HZ1.out
      have u10 := frozen_of_row w1 (w.heap.size + 1) 10 _ _ HZ1.out
      simp at p0 p1 z0 z1 z2 z3 z4 z5 z6 z7 z8 z9 z10
      have HB1 := hide (HB0.out.trans (hB1.mono HB0.out.size))
      clear hB1
      go_wp2_with (first | (go_at_call 17; refine (isMode_any _ _).mono ?_; rintro _ _ ⟨rfl, rfl⟩; rw [HI.out]) | fail)
      obtain ⟨e1, e2⟩ := st_fill w1 (w.heap.size + 1) ss0 (.slice none 0 0) (.slice none 0 0) (.slice none 0 0) HZ1.out
      refine bodyPost_ret (res_two rfl _ (w.heap.size + 1) rfl ss0 _ _ _ e1) rfl ?_
      exact ⟨rfl, HB1.out.trans (e2.below (fun k e => by omega) HB1.out.size)⟩
  · rw [if_neg h0] at hq
    obtain ⟨rfl, rfl⟩ : ss0 = qx ∧ ck = qe := by simpa using hq
    have h1 : (ck != 0) = true := by simp [h0]
    clear hq
    go_enter Try.func7, Try.ntmps7
    go_wp2_with fail
    have HB0 := hide ((recv_below w (Obj.cells #[.bool m.rd, .bool m.wr, .bool m.ap, .bool m.cr, .bool m.tr, .bool m.ex, .bool m.bi, .bool m.ma] 33)).trans ((recv_below (w.alloc (Obj.cells #[.bool m.rd, .bool m.wr, .bool m.ap, .bool m.cr, .bool m.tr, .bool m.ex, .bool m.bi, .bool m.ma] 33)) (Obj.cells #[.bool false, .bool false, .int .i64 0, .int .i64 0, .slice none 0 0, .slice none 0 0, .slice none 0 0, .int .i64 0, .bool false, .bool false, .bool false] 29)).mono (recv_below w (Obj.cells #[.bool m.rd, .bool m.wr, .bool m.ap, .bool m.cr, .bool m.tr, .bool m.ex, .bool m.bi, .bool m.ma] 33)).size))
    have HM0 : Hid (((w.alloc (Obj.cells #[.bool m.rd, .bool m.wr, .bool m.ap, .bool m.cr, .bool m.tr, .bool m.ex, .bool m.bi, .bool m.ma] 33)).alloc (Obj.cells #[.bool false, .bool false, .int .i64 0, .int .i64 0, .slice none 0 0, .slice none 0 0, .slice none 0 0, .int .i64 0, .bool false, .bool false, .bool false] 29)).heap[w.heap.size]? = some (Obj.cells #[.bool m.rd, .bool m.wr, .bool m.ap, .bool m.cr, .bool m.tr, .bool m.ex, .bool m.bi, .bool m.ma] 33)) := hide (((recv_below (w.alloc (Obj.cells #[.bool m.rd, .bool m.wr, .bool m.ap, .bool m.cr, .bool m.tr, .bool m.ex, .bool m.bi, .bool m.ma] 33)) (Obj.cells #[.bool false, .bool false, .int .i64 0, .int .i64 0, .slice none 0 0, .slice none 0 0, .slice none 0 0, .int .i64 0, .bool false, .bool false, .bool false] 29)).block w.heap.size (by simp)).trans (heap_alloc_new w (Obj.cells #[.bool m.rd, .bool m.wr, .bool m.ap, .bool m.cr, .bool m.tr, .bool m.ex, .bool m.bi, .bool m.ma] 33)))
    have HZ0 : Hid (((w.alloc (Obj.cells #[.bool m.rd, .bool m.wr, .bool m.ap, .bool m.cr, .bool m.tr, .bool m.ex, .bool m.bi, .bool m.ma] 33)).alloc (Obj.cells #[.bool false, .bool false, .int .i64 0, .int .i64 0, .slice none 0 0, .slice none 0 0, .slice none 0 0, .int .i64 0, .bool false, .bool false, .bool false] 29)).heap[w.heap.size + 1]? = some (Obj.cells #[.bool false, .bool false, .int .i64 0, .int .i64 0, .slice none 0 0, .slice none 0 0, .slice none 0 0, .int .i64 0, .bool false, .bool false, .bool false] 29)) := hide (by have := heap_alloc_new (w.alloc (Obj.cells #[.bool m.rd, .bool m.wr, .bool m.ap, .bool m.cr, .bool m.tr, .bool m.ex, .bool m.bi, .bool m.ma] 33)) (Obj.cells #[.bool false, .bool false, .int .i64 0, .int .i64 0, .slice none 0 0, .slice none 0 0, .slice none 0 0, .int .i64 0, .bool false, .bool false, .bool false] 29); rw [show (w.alloc (Obj.cells #[.bool m.rd, .bool m.wr, .bool m.ap, .bool m.cr, .bool m.tr, .bool m.ex, .bool m.bi, .bool m.ma] 33)).heap.size = w.heap.size + 1 from Array.size_push ..] at this; exact this)
    generalize (w.alloc (Obj.cells #[.bool m.rd, .bool m.wr, .bool m.ap, .bool m.cr, .bool m.tr, .bool m.ex, .bool m.bi, .bool m.ma] 33)).alloc (Obj.cells #[.bool false, .bool false, .int .i64 0, .int .i64 0, .slice none 0 0, .slice none 0 0, .slice none 0 0, .int .i64 0, .bool false, .bool false, .bool false] 29) = w0 at *
    have hz0 : w.heap.size + 1 < w0.heap.size := (Array.getElem?_eq_some_iff.1 HZ0.out).1
    refine (HC.out w0).mono ?_
    rintro _ w1 ⟨rfl, hB1⟩
    have HZ1 := hide ((hB1.block (w.heap.size + 1) hz0).trans HZ0.out)
    have HM1 := hide ((hB1.block w.heap.size (by omega)).trans HM0.out)
    have p0 := cell_of_row w1 w.heap.size 0 _ _ _ HM1.out
    have p1 := cell_of_row w1 w.heap.size 1 _ _ _ HM1.out
    have z0 := cell_of_row w1 (w.heap.size + 1) 0 _ _ _ HZ1.out
    have z1 := cell_of_row w1 (w.heap.size + 1) 1 _ _ _ HZ1.out
    have z2 := cell_of_row w1 (w.heap.size + 1) 2 _ _ _ HZ1.out
    have z3 := cell_of_row w1 (w.heap.size + 1) 3 _ _ _ HZ1.out
    have z4 := cell_of_row w1 (w.heap.size + 1) 4 _ _ _ HZ1.out
    have z5 := cell_of_row w1 (w.heap.size + 1) 5 _ _ _ HZ1.out
    have z6 := cell_of_row w1 (w.heap.size + 1) 6 _ _ _ HZ1.out
    have z7 := cell_of_row w1 (w.heap.size + 1) 7 _ _ _ HZ1.out
    have z8 := cell_of_row w1 (w.heap.size + 1) 8 _ _ _ HZ1.out
    have z9 := cell_of_row w1 (w.heap.size + 1) 9 _ _ _ HZ1.out
    have z10 := cell_of_row w1 (w.heap.size + 1) 10 _ _ _ HZ1.out
    have u0 := frozen_of_row w1 (w.heap.size + 1) 0 _ _ HZ1.out
    have u1 := frozen_of_row w1 (w.heap.size + 1) 1 _ _ HZ1.out
    have u2 := frozen_of_row w1 (w.heap.size + 1) 2 _ _ HZ1.out
    have u3 := frozen_of_row w1 (w.heap.size + 1) 3 _ _ HZ1.out
    have u4 := frozen_of_row w1 (w.heap.size + 1) 4 _ _ HZ1.out
    have u5 := frozen_of_row w1 (w.heap.size + 1) 5 _ _ HZ1.out
    have u6 := frozen_of_row w1 (w.heap.size + 1) 6 _ _ HZ1.out
    have u7 := frozen_of_row w1 (w.heap.size + 1) 7 _ _ HZ1.out
    have u8 := frozen_of_row w1 (w.heap.size + 1) 8 _ _ HZ1.out
    have u9 := frozen_of_row w1 (w.heap.size + 1) 9 _ _ HZ1.out
    have u10 := frozen_of_row w1 (w.heap.size + 1) 10 _ _ HZ1.out
    simp at p0 p1 z0 z1 z2 z3 z4 z5 z6 z7 z8 z9 z10
    have HB1 := hide (HB0.out.trans (hB1.mono HB0.out.size))
    clear hB1
    go_wp2
    obtain ⟨e1, e2⟩ := st_fill w1 (w.heap.size + 1) ss0 (.slice none 0 0) (.slice none 0 0) (.slice none 0 0) HZ1.out
    refine bodyPost_ret (res_two rfl _ (w.heap.size + 1) rfl ss0 _ _ _ e1) rfl ?_
    exact ⟨rfl, HB1.out.trans (e2.below (fun k e => by omega) HB1.out.size)⟩
end Go.Proofs.Ytckmfbjpjakbcaa

/- Streams: a variable that holds a state, beside a Raw. -/
namespace Go.Proofs.Ytckmfbjpjakbcaa
open Go.RowKit

def filled (w : World) (g : Nat) (x : SS) (o i b : Value) : World := (((((((((((w.setCell ⟨g, 0, none⟩ (.bool x.rd)).setCell ⟨g, 1, none⟩ (.bool x.wt)).setCell ⟨g, 2, none⟩ (.int .i64 x.mode)).setCell ⟨g, 3, none⟩ (.int .i64 x.size)).setCell ⟨g, 4, none⟩ (o)).setCell ⟨g, 5, none⟩ (i)).setCell ⟨g, 6, none⟩ (b)).setCell ⟨g, 7, none⟩ (.int .i64 x.dir)).setCell ⟨g, 8, none⟩ (.bool x.fin)).setCell ⟨g, 9, none⟩ (.bool x.bad)).setCell ⟨g, 10, none⟩ (.bool x.closed))
theorem st_fill2 (w : World) (g : Nat) (y x : SS) (o0 i0 b0 o i b : Value) (h : StAt w g y o0 i0 b0) : StAt (filled w g x o i b) g x o i b ∧ Turned (fun k => k = g) w (filled w g x o i b) := by
  have e0 := Go.heap_setCell_same _ g 0 _ _ (.bool x.rd) h
  simp only [List.setIfInBounds_toArray, List.set_cons_zero] at e0
  have e1 := Go.heap_setCell_same _ g 1 _ _ (.bool x.wt) e0
  simp only [List.setIfInBounds_toArray, List.set_cons_zero, List.set_cons_succ] at e1
  have e2 := Go.heap_setCell_same _ g 2 _ _ (.int .i64 x.mode) e1
  simp only [List.setIfInBounds_toArray, List.set_cons_zero, List.set_cons_succ] at e2
  have e3 := Go.heap_setCell_same _ g 3 _ _ (.int .i64 x.size) e2
  simp only [List.setIfInBounds_toArray, List.set_cons_zero, List.set_cons_succ] at e3
  have e4 := Go.heap_setCell_same _ g 4 _ _ (o) e3
  simp only [List.setIfInBounds_toArray, List.set_cons_zero, List.set_cons_succ] at e4
  have e5 := Go.heap_setCell_same _ g 5 _ _ (i) e4
  simp only [List.setIfInBounds_toArray, List.set_cons_zero, List.set_cons_succ] at e5
  have e6 := Go.heap_setCell_same _ g 6 _ _ (b) e5
  simp only [List.setIfInBounds_toArray, List.set_cons_zero, List.set_cons_succ] at e6
  have e7 := Go.heap_setCell_same _ g 7 _ _ (.int .i64 x.dir) e6
  simp only [List.setIfInBounds_toArray, List.set_cons_zero, List.set_cons_succ] at e7
  have e8 := Go.heap_setCell_same _ g 8 _ _ (.bool x.fin) e7
  simp only [List.setIfInBounds_toArray, List.set_cons_zero, List.set_cons_succ] at e8
  have e9 := Go.heap_setCell_same _ g 9 _ _ (.bool x.bad) e8
  simp only [List.setIfInBounds_toArray, List.set_cons_zero, List.set_cons_succ] at e9
  have e10 := Go.heap_setCell_same _ g 10 _ _ (.bool x.closed) e9
  simp only [List.setIfInBounds_toArray, List.set_cons_zero, List.set_cons_succ] at e10
  exact ⟨e10, ((((((((((((Turned.refl (fun k => k = g) w).set (.inl rfl)).set (.inl rfl)).set (.inl rfl)).set (.inl rfl)).set (.inl rfl)).set (.inl rfl)).set (.inl rfl)).set (.inl rfl)).set (.inl rfl)).set (.inl rfl)).set (.inl rfl))⟩
structure LV {S : Type} (At : World → (Nat → Prop) → S → Prop) (W : World) (B g : Nat) (O : Nat → Prop) (x : SS) (s : S) (o i b : Value) : Prop where
  st : StAt W g x o i b
  ls : SIn W (fun k => B ≤ k ∧ ¬ O k ∧ k ≠ g ∧ k < W.heap.size) x o i b
  raw : At W O s
  ol : ∀ j, O j → j < W.heap.size
  ob : ∀ j, O j → B ≤ j
  og : ¬ O g
  gB : B ≤ g
theorem StAt.lt {W : World} {g : Nat} {x : SS} {o i b : Value} (h : StAt W g x o i b) : g < W.heap.size := (Array.getElem?_eq_some_iff.1 h).1
theorem StAt.soft {W : World} {g : Nat} {x : SS} {o i b : Value} (h : StAt W g x o i b) (j : Nat) : W.frozen? ⟨g, j, none⟩ = false := frozen_of_row W g j _ _ h
theorem LV.below {S : Type} {At : World → (Nat → Prop) → S → Prop} (hT : ∀ s, OAt (fun w O => At w O s)) {w w' : World} {B g : Nat} {O : Nat → Prop} {x : SS} {s : S} {o i b : Value} (h : LV At w B g O x s o i b) (hB : Below w.heap.size w w') : LV At w' B g O x s o i b := by
  have hz := hB.size
  exact ⟨h.st.below hB, (h.ls.below hB).mono fun k e => ⟨e.1, e.2.1, e.2.2.1, by have := e.2.2.2; omega⟩, (hT s).keep h.raw (fun j _ hj => hB.block j hj) hz, fun j e => Nat.lt_of_lt_of_le (h.ol j e) hz, h.ob, h.og, h.gB⟩
theorem LV.next {S : Type} {At : World → (Nat → Prop) → S → Prop} (hT : ∀ s, OAt (fun w O => At w O s)) {w w1 : World} {B g : Nat} {O : Nat → Prop} {x x' : SS} {s s' : S} {o i b o' i' b' : Value} (h : LV At w B g O x s o i b) (hB : B ≤ w.heap.size) (hS : SOut At w O x' s' o' i' b' w1) :
    StAt w1 g x o i b ∧ (∃ O', LV At (filled w1 g x' o' i' b') B g O' x' s' o' i' b') ∧ Turned (fun k => B ≤ k) w (filled w1 g x' o' i' b') := by
  obtain ⟨O', h1, h2, h3, h4, h5⟩ := hS
  have hz := h5.size
  have hg := h.st.lt
  have hst : StAt w1 g x o i b := (h5.block g hg h.og).trans h.st
  obtain ⟨e1, e2⟩ := st_fill2 w1 g x x' o i b o' i' b' hst
  have hz2 := e2.size
  have hog : ¬ O' g := fun e => by
    rcases h4 g e with e | e
    · exact h.og e
    · omega
  refine ⟨hst, ⟨O', e1, (h1.turned e2 fun k e _ e' => by have := e.1; omega).mono fun k e => ⟨by have := e.1; omega, e.2.1, by have := e.1; omega, by have := e.2.2; omega⟩, (hT s').keep h2 (fun j e hj => e2.block j hj (fun e' => hog (e' ▸ e))) hz2, fun j e => Nat.lt_of_lt_of_le (h3 j e) hz2, fun j e => ?_, hog, h.gB⟩, (h5.mono fun k e => h.ob k e).trans (e2.mono fun k e => (by have := h.gB; omega : B ≤ k)) (fun _ _ e => e)⟩
  rcases h4 j e with e | e
  · exact h.ob j e
  · omega
end Go.Proofs.Ytckmfbjpjakbcaa

/- Streams: the page's example. -/
namespace Go.Proofs.Ytckmfbjpjakbcaa
open Go.RowKit

def moR : Mo := ⟨true, false, false, false, false, false, false, false⟩
theorem chk_moR : chkM moR = 0 := by decide
def xR (mode size : Int) : SS := ⟨true, false, mode, size, [], [], [], 0, false, false, false⟩
theorem new_R (mode size : Int) : SS.new moR mode size = if 1 ≤ mode ∧ mode ≤ 3 then (if 1 ≤ size ∧ size ≤ 65536 then (xR mode size, 0) else (ss0, 4)) else (ss0, 1) := by
  unfold SS.new
  rw [if_pos chk_moR]
  rfl
end Go.Proofs.Ytckmfbjpjakbcaa

/- Streams: what follows a call may be too; how many calls of retry it takes. -/
namespace Go.Proofs.Ytckmfbjpjakbcaa
open Go.RowKit

theorem may_iff (x : SS) : x.may = true ↔ 1 ≤ x.mode ∧ x.mode ≤ 3 ∧ 1 ≤ x.size ∧ x.size ≤ 65536 ∧ (x.out.length : Int) ≤ x.size ∧ (x.mode = 1 → x.out.length = 0) ∧ x.inn.length ≤ 65536 ∧ x.back.length ≤ 8 ∧
    ((x.dir = 0 ∧ x.out.length = 0 ∧ x.inn.length + x.back.length = 0) ∨ (x.dir = 1 ∧ x.rd = true ∧ x.out.length = 0 ∧ x.closed = false) ∨ (x.dir = 2 ∧ x.wt = true ∧ x.inn.length + x.back.length = 0 ∧ x.closed = false)) := by
  unfold SS.may SS.buf SS.way SS.toR SS.toW
  simp only [Bool.and_eq_true, decide_eq_true_eq]
  constructor
  · rintro ⟨⟨⟨⟨⟨⟨h1, h2⟩, h3, h4⟩, h5⟩, h6⟩, h7⟩, h8⟩
    have h9 : (x.out.length : Int) ≤ x.size ∧ (x.mode = 1 → x.out.length = 0) := by split at h5 <;> (refine ⟨by omega, fun _ => by omega⟩)
    refine ⟨h1, h2, h3, h4, h9.1, h9.2, by omega, by omega, ?_⟩
    split at h8
    · simp at h8; exact .inl ⟨by assumption, by rw [h8.2]; rfl, by omega⟩
    split at h8
    · simp at h8; exact .inr (.inl ⟨by assumption, h8.1.1, by rw [h8.1.2]; rfl, h8.2⟩)
    split at h8
    · simp at h8; exact .inr (.inr ⟨by assumption, h8.1.1, by omega, h8.2⟩)
    · simp at h8
  · rintro ⟨h1, h2, h3, h4, h5, h6, h7, h8, h9⟩
    refine ⟨⟨⟨⟨⟨⟨h1, h2⟩, h3, h4⟩, ?_⟩, by omega⟩, by omega⟩, ?_⟩
    · split
      · have := h6 (by assumption); omega
      · exact h5
    · rcases h9 with ⟨e, e1, e2⟩ | ⟨e, e1, e2, e3⟩ | ⟨e, e1, e2, e3⟩
      · rw [if_pos e]; simp; exact ⟨by omega, List.length_eq_zero_iff.1 e1⟩
      · rw [if_neg (by omega), if_pos e, e1, e3]; simp; exact List.length_eq_zero_iff.1 e2
      · rw [if_neg (by omega), if_neg (by omega), if_pos e, e1, e3]; simp; omega
end Go.Proofs.Ytckmfbjpjakbcaa

/- Position: Tell, Seek and Rewind, as values, over any Raw that is one. -/
namespace Go.Proofs.Ytckmfbjpjakbcaa
open Go.RowKit

abbrev SkV (S : Type) := S → Int → Int → Int × Int × S
def SS.hold (x : SS) : Int := (x.inn.length : Int) + (x.back.length : Int)
def SS.bare (x : SS) : SS := ⟨x.rd, x.wt, x.mode, x.size, [], [], [], 0, false, x.bad, x.closed⟩
def SS.told {S : Type} (K : SkV S) (x : SS) (s : S) : SS × Int × Int × S :=
  if (K s 0 1).2.1 ≠ 0 then (x, 0, (K s 0 1).2.1, (K s 0 1).2.2)
  else if (K s 0 1).1 < x.hold then (x, 0, 4, (K s 0 1).2.2)
  else (x, (K s 0 1).1 - x.hold, 0, (K s 0 1).2.2)
def SS.tell {S : Type} (D : RawD S) (K : SkV S) (x : SS) (s : S) : SS × Int × Int × S :=
  if x.refuse true ≠ 0 then (x, 0, x.refuse true, s)
  else if (x.deliver D s).2.1 ≠ 0 then ((x.deliver D s).1, 0, (x.deliver D s).2.1, (x.deliver D s).2.2)
  else (x.deliver D s).1.told K (x.deliver D s).2.2
def movedV {S : Type} (K : SkV S) (s : S) (n off wh : Int) : Int × Int × S :=
  if wh ≠ 1 then K s off wh
  else if (K s 0 1).2.1 ≠ 0 then (0, (K s 0 1).2.1, (K s 0 1).2.2)
  else if 0 ≤ (K s 0 1).1 - n + off ∧ (K s 0 1).1 - n + off ≤ 1048576 then K (K s 0 1).2.2 ((K s 0 1).1 - n + off) 0
  else (0, 4, (K s 0 1).2.2)
def SS.sought {S : Type} (K : SkV S) (x : SS) (s : S) (off wh : Int) : SS × Int × Int × S :=
  if (movedV K s x.hold off wh).2.1 ≠ 0 then (x, 0, (movedV K s x.hold off wh).2.1, (movedV K s x.hold off wh).2.2)
  else (x.bare, (movedV K s x.hold off wh).1, 0, (movedV K s x.hold off wh).2.2)
def SS.seek {S : Type} (D : RawD S) (K : SkV S) (x : SS) (s : S) (off wh : Int) : SS × Int × Int × S :=
  if x.refuse true ≠ 0 then (x, 0, x.refuse true, s)
  else if wh < 0 ∨ 2 < wh then (x, 0, 1, s)
  else if (x.deliver D s).2.1 ≠ 0 then ((x.deliver D s).1, 0, (x.deliver D s).2.1, (x.deliver D s).2.2)
  else (x.deliver D s).1.sought K (x.deliver D s).2.2 off wh
theorem flush_deliver {S : Type} (D : RawD S) {x : SS} (s : S) (h : x.refuse true = 0) : (SS.mk (x.flush D s).1.rd (x.flush D s).1.wt (x.flush D s).1.mode (x.flush D s).1.size (x.flush D s).1.out (x.flush D s).1.inn (x.flush D s).1.back x.dir (x.flush D s).1.fin (x.flush D s).1.bad (x.flush D s).1.closed, (x.flush D s).2.1, (x.flush D s).2.2) = x.deliver D s := by
  obtain ⟨hm, -, hc⟩ := refuse_may h
  unfold SS.flush
  rw [if_neg (by simp [h])]
  have hdir : (x.deliver D s).1.dir = x.dir := by unfold SS.deliver SS.mark; split <;> rfl
  split
  · split
    · rename_i h1 h2
      have e := deliver_ok D x s h2
      have e2 : x.deliver D s = ((x.deliver D s).1, (x.deliver D s).2.1, (x.deliver D s).2.2) := rfl
      rw [e2, h2, e]
    · rw [← hdir]
  · rename_i h1
    have ho : x.out = [] := by
      obtain ⟨-, -, -, -, -, -, -, -, h9⟩ := (may_iff x).1 hm
      rcases h9 with ⟨e1, e2, e3⟩ | ⟨e1, e2, e3, e4⟩ | ⟨e1, e2, e3, e4⟩
      · exact List.length_eq_zero_iff.1 e2
      · exact List.length_eq_zero_iff.1 e3
      · exact absurd e1 h1
    unfold SS.deliver
    rw [ho, putV_done _ _ _ _ _ _ (by simp)]
    unfold SS.mark
    simp [← ho]
structure RawS {S : Type} (K : SkV S) (T : TypeId) (v : Value) (fs : FuncId) (sok : S → Prop) (At : World → (Nat → Prop) → S → Prop) : Prop where
  mseek : ∀ w, (method 229 T v "Seek").run Try.prog w = .ok (fs, v) w
  cseek : ∀ a w, (callFunc fs a).run Try.prog w = .ok (.enter fs a) w
  seek : ∀ {w : World} {O : Nat → Prop} {s : S} (o wh : Int), At w O s → sok s → -9223372036854775808 ≤ o ∧ o ≤ 9223372036854775807 → Calls Try.prog fs #[v, .int .i64 o, .int .i64 wh] w fun e w' => e = .returned (.tuple #[.int .i64 (K s o wh).1, .int .i64 (K s o wh).2.1]) ∧ OStep (fun w O => At w O (K s o wh).2.2) w O w'
  told : ∀ {w : World} {O : Nat → Prop} {s : S} (o wh : Int), At w O s → 0 ≤ (K s o wh).1 ∧ (K s o wh).1 ≤ 1048576
def BearsS {S : Type} (K : SkV S) (sok : S → Prop) (G : Nat → S → Prop) : Prop := ∀ n s o wh, G (n + 1) s → sok s ∧ G n (K s o wh).2.2
end Go.Proofs.Ytckmfbjpjakbcaa

/- Position: why a call is refused; sums of places; a Raw's place is set. -/
namespace Go.Proofs.Ytckmfbjpjakbcaa
open Go.RowKit

theorem plus_eq (a b : Int) (ha : -9223372036854775808 ≤ a ∧ a ≤ 9223372036854775807) (hb : -9223372036854775808 ≤ b ∧ b ≤ 9223372036854775807) : (decide (wrap64 (a + b) < a) == decide (b < 0)) = decide (-9223372036854775808 ≤ a + b ∧ a + b ≤ 9223372036854775807) := by
  by_cases h1 : a + b < -9223372036854775808
  · have e : wrap64 (a + b) = a + b + 18446744073709551616 := by unfold wrap64; omega
    rw [e, decide_eq_false (by omega : ¬ (a + b + 18446744073709551616 < a)), decide_eq_true (by omega : b < 0), decide_eq_false (by omega)]
    rfl
  by_cases h2 : 9223372036854775807 < a + b
  · have e : wrap64 (a + b) = a + b - 18446744073709551616 := by unfold wrap64; omega
    rw [e, decide_eq_true (by omega : a + b - 18446744073709551616 < a), decide_eq_false (by omega : ¬ b < 0), decide_eq_false (by omega)]
    rfl
  have e : wrap64 (a + b) = a + b := by unfold wrap64; omega
  rw [e, decide_eq_true (by omega : -9223372036854775808 ≤ a + b ∧ a + b ≤ 9223372036854775807)]
  by_cases h3 : b < 0
  · rw [decide_eq_true (by omega : a + b < a), decide_eq_true h3]; rfl
  · rw [decide_eq_false (by omega : ¬ a + b < a), decide_eq_false h3]; rfl
theorem plus_any (a b : Int) (w : World) (ha : -9223372036854775808 ≤ a ∧ a ≤ 9223372036854775807) (hb : -9223372036854775808 ≤ b ∧ b ≤ 9223372036854775807) : Calls Try.prog 56 #[.int .i64 a, .int .i64 b] w fun e w' => e = .returned (.tuple #[.int .i64 (wrap64 (a + b)), .bool (decide (-9223372036854775808 ≤ a + b ∧ a + b ≤ 9223372036854775807))]) ∧ w = w' := by
  have HE := hide (plus_eq a b ha hb)
  clear ha hb
  generalize decide (-9223372036854775808 ≤ a + b ∧ a + b ≤ 9223372036854775807) = q at *
  go_enter Try.func56, Try.ntmps56
  go_wp2
  go_ret2
  exact ⟨by rw [← HE.out]; rfl, rfl⟩
def placeV (at' n off : Int) : Int × Int := if 0 ≤ at' - n + off ∧ at' - n + off ≤ 1048576 then (at' - n + off, 0) else (0, 4)
set_option maxHeartbeats 4000000 in
theorem placeOf_any (p n off : Int) (w : World) (hp : 0 ≤ p ∧ p ≤ 1048576) (hn : 0 ≤ n ∧ n ≤ 1000000000000000) (ho : -9223372036854775808 ≤ off ∧ off ≤ 9223372036854775807) : Calls Try.prog 42 #[.int .i64 p, .int .i64 n, .int .i64 off] w fun e w' => e = .returned (.tuple #[.int .i64 (placeV p n off).1, .int .i64 (placeV p n off).2]) ∧ w = w' := by
  have hw1 : wrap64 (p + -n) = p - n := by unfold wrap64; omega
  have hw0 : wrap64 (-n) = -n := by unfold wrap64; omega
  have h1 := fun W => plus_any p (-n) W (by omega) (by omega)
  have h2 := fun W => plus_any (p - n) off W (by omega) ho
  rw [hw1, decide_eq_true (by omega)] at h1
  have H1 := hide h1
  clear h1 hw1
  obtain ⟨t, ht⟩ : ∃ t, t = p - n := ⟨_, rfl⟩
  rw [← ht] at h2 H1
  obtain ⟨z, hz⟩ : ∃ z, z = placeV p n off := ⟨_, rfl⟩
  rw [← hz]
  have hz2 : z = if 0 ≤ t + off ∧ t + off ≤ 1048576 then (t + off, 0) else (0, 4) := by rw [hz, ht]; rfl
  have htb : -1000000000000000 ≤ t ∧ t ≤ 1048576 := by omega
  clear hz ht hn hp
  by_cases hf : -9223372036854775808 ≤ t + off ∧ t + off ≤ 9223372036854775807
  · rw [decide_eq_true hf, show wrap64 (t + off) = t + off by unfold wrap64; omega] at h2
    generalize t + off = q at *
    have H2 := hide h2
    clear h2 htb ho hf
    by_cases hq0 : q < 0
    · have HZ : Hid (z = (0, 4)) := hide (by rw [hz2, if_neg (by omega)])
      clear hz2
      go_enter Try.func42, Try.ntmps42
      go_wp2_with fail
      refine (H1.out _).mono ?_
      rintro _ _ ⟨rfl, rfl⟩
      go_wp2_with fail
      refine (H2.out _).mono ?_
      rintro _ _ ⟨rfl, rfl⟩
      go_wp2
      go_ret2
      exact ⟨by rw [HZ.out]; rfl, rfl⟩
    by_cases hq1 : 1048576 < q
    · have HZ : Hid (z = (0, 4)) := hide (by rw [hz2, if_neg (by omega)])
      clear hz2
      go_enter Try.func42, Try.ntmps42
      go_wp2_with fail
      refine (H1.out _).mono ?_
      rintro _ _ ⟨rfl, rfl⟩
      go_wp2_with fail
      refine (H2.out _).mono ?_
      rintro _ _ ⟨rfl, rfl⟩
      go_wp2
      go_ret2
      exact ⟨by rw [HZ.out]; rfl, rfl⟩
    have HZ : Hid (z = (q, 0)) := hide (by rw [hz2, if_pos (by omega)])
    clear hz2
    go_enter Try.func42, Try.ntmps42
    go_wp2_with fail
    refine (H1.out _).mono ?_
    rintro _ _ ⟨rfl, rfl⟩
    go_wp2_with fail
    refine (H2.out _).mono ?_
    rintro _ _ ⟨rfl, rfl⟩
    go_wp2
    go_ret2
    exact ⟨by rw [HZ.out]; rfl, rfl⟩
  · rw [decide_eq_false hf] at h2
    have HZ : Hid (z = (0, 4)) := hide (by rw [hz2, if_neg (by omega)])
    generalize wrap64 (t + off) = q at *
    have H2 := hide h2
    clear h2 htb ho hf hz2
    go_enter Try.func42, Try.ntmps42
    go_wp2_with fail
    refine (H1.out _).mono ?_
    rintro _ _ ⟨rfl, rfl⟩
    go_wp2_with fail
    refine (H2.out _).mono ?_
    rintro _ _ ⟨rfl, rfl⟩
    go_wp2
    go_ret2
    exact ⟨by rw [HZ.out]; rfl, rfl⟩
set_option maxRecDepth 100000 in
set_option maxHeartbeats 1000000 in
theorem prefusal_any (x : SS) (oa ia ba : Option Addr) (oc ic bc : Nat) (T : TypeId) (v : Value) (w : World) (hi : x.inn.length ≤ 140737488351232) (hb : x.back.length ≤ 140737488351232) :
    Calls Try.prog 28 #[.agg #[.bool x.rd, .bool x.wt, .int .i64 x.mode, .int .i64 x.size, .slice oa x.out.length oc, .slice ia x.inn.length ic, .slice ba x.back.length bc, .int .i64 x.dir, .bool x.fin, .bool x.bad, .bool x.closed], .iface T v] w fun e w' => e = .returned (.int .i64 (x.refuse true)) ∧ Below w.heap.size w w' := by
  have HC := hide (fun W => scheck_any x oa ia ba oc ic bc W hi hb)
  generalize hr : x.refuse true = r
  unfold SS.refuse at hr
  cases h1 : x.may with
  | false =>
    rw [h1] at HC
    simp only [Bool.false_eq_true, if_false] at HC
    have HR : Hid (51 = r) := hide (by rw [← hr, h1]; rfl)
    clear hr h1
    go_enter Try.func28, Try.ntmps28
    go_wp2_with fail
    have HB0 := hide (recv_below w (Obj.cells #[.bool x.rd, .bool x.wt, .int .i64 x.mode, .int .i64 x.size, .slice oa x.out.length oc, .slice ia x.inn.length ic, .slice ba x.back.length bc, .int .i64 x.dir, .bool x.fin, .bool x.bad, .bool x.closed] 29))
    have HS0 := hide (StAt.new w x (.slice oa x.out.length oc) (.slice ia x.inn.length ic) (.slice ba x.back.length bc))
    generalize w.alloc (Obj.cells #[.bool x.rd, .bool x.wt, .int .i64 x.mode, .int .i64 x.size, .slice oa x.out.length oc, .slice ia x.inn.length ic, .slice ba x.back.length bc, .int .i64 x.dir, .bool x.fin, .bool x.bad, .bool x.closed] 29) = w0 at *
    refine (HC.out w0).mono ?_
    rintro _ w1 ⟨rfl, hB1⟩
    have HS1 := hide (HS0.out.below hB1)
    obtain ⟨-, -, -, -, -, -, -, -, -, -, c10⟩ := HS1.out.cs

    have HB1 := hide (HB0.out.trans (hB1.mono HB0.out.size))
    clear hB1
    go_wp2
    go_ret
    exact ⟨by rw [← HR.out]; rfl, HB1.out⟩
  | true =>
    rw [h1] at HC
    simp only [if_true] at HC
    rcases Bool.eq_false_or_eq_true x.closed with h2 | h2
    · skip
      have HR : Hid (113 = r) := hide (by rw [← hr, h1, h2]; rfl)
      have H2 := hide h2
      clear hr h1 h2
      go_enter Try.func28, Try.ntmps28
      go_wp2_with fail
      have HB0 := hide (recv_below w (Obj.cells #[.bool x.rd, .bool x.wt, .int .i64 x.mode, .int .i64 x.size, .slice oa x.out.length oc, .slice ia x.inn.length ic, .slice ba x.back.length bc, .int .i64 x.dir, .bool x.fin, .bool x.bad, .bool x.closed] 29))
      have HS0 := hide (StAt.new w x (.slice oa x.out.length oc) (.slice ia x.inn.length ic) (.slice ba x.back.length bc))
      generalize w.alloc (Obj.cells #[.bool x.rd, .bool x.wt, .int .i64 x.mode, .int .i64 x.size, .slice oa x.out.length oc, .slice ia x.inn.length ic, .slice ba x.back.length bc, .int .i64 x.dir, .bool x.fin, .bool x.bad, .bool x.closed] 29) = w0 at *
      refine (HC.out w0).mono ?_
      rintro _ w1 ⟨rfl, hB1⟩
      have HS1 := hide (HS0.out.below hB1)
      obtain ⟨-, -, -, -, -, -, -, -, -, -, c10⟩ := HS1.out.cs
      rw [H2.out] at c10
      have HB1 := hide (HB0.out.trans (hB1.mono HB0.out.size))
      clear hB1
      go_wp2
      go_ret
      exact ⟨by rw [← HR.out]; rfl, HB1.out⟩
    · skip
      have HR : Hid (0 = r) := hide (by rw [← hr, h1, h2]; rfl)
      have H2 := hide h2
      clear hr h1 h2
      go_enter Try.func28, Try.ntmps28
      go_wp2_with fail
      have HB0 := hide (recv_below w (Obj.cells #[.bool x.rd, .bool x.wt, .int .i64 x.mode, .int .i64 x.size, .slice oa x.out.length oc, .slice ia x.inn.length ic, .slice ba x.back.length bc, .int .i64 x.dir, .bool x.fin, .bool x.bad, .bool x.closed] 29))
      have HS0 := hide (StAt.new w x (.slice oa x.out.length oc) (.slice ia x.inn.length ic) (.slice ba x.back.length bc))
      generalize w.alloc (Obj.cells #[.bool x.rd, .bool x.wt, .int .i64 x.mode, .int .i64 x.size, .slice oa x.out.length oc, .slice ia x.inn.length ic, .slice ba x.back.length bc, .int .i64 x.dir, .bool x.fin, .bool x.bad, .bool x.closed] 29) = w0 at *
      refine (HC.out w0).mono ?_
      rintro _ w1 ⟨rfl, hB1⟩
      have HS1 := hide (HS0.out.below hB1)
      obtain ⟨-, -, -, -, -, -, -, -, -, -, c10⟩ := HS1.out.cs
      rw [H2.out] at c10
      have HB1 := hide (HB0.out.trans (hB1.mono HB0.out.size))
      clear hB1
      go_wp2
      go_ret
      exact ⟨by rw [← HR.out]; rfl, HB1.out⟩
def SS.srefuse (x : SS) (hr : Bool) (wh : Int) : Int := if x.refuse hr ≠ 0 then x.refuse hr else if wh < 0 ∨ 2 < wh then 1 else 0
set_option maxRecDepth 100000 in
set_option maxHeartbeats 1000000 in
theorem seekRefusal_any (x : SS) (oa ia ba : Option Addr) (oc ic bc : Nat) (T : TypeId) (v : Value) (wh : Int) (w : World) (hi : x.inn.length ≤ 140737488351232) (hb : x.back.length ≤ 140737488351232) :
    Calls Try.prog 22 #[.agg #[.bool x.rd, .bool x.wt, .int .i64 x.mode, .int .i64 x.size, .slice oa x.out.length oc, .slice ia x.inn.length ic, .slice ba x.back.length bc, .int .i64 x.dir, .bool x.fin, .bool x.bad, .bool x.closed], .iface T v, .int .i64 wh] w fun e w' => e = .returned (.int .i64 (x.srefuse true wh)) ∧ Below w.heap.size w w' := by
  have HC := hide (fun W => prefusal_any x oa ia ba oc ic bc T v W hi hb)
  generalize hr : x.srefuse true wh = r
  unfold SS.srefuse at hr
  obtain ⟨rf, hrf⟩ : ∃ rf, rf = x.refuse true := ⟨_, rfl⟩
  rw [← hrf] at HC hr
  clear hrf
  by_cases h0 : rf = 0
  case neg =>
    have HR : Hid (rf = r) := hide (by rw [← hr, if_pos h0])
    have hb1 : (rf == 0) = false := by simp [h0]
    have hb2 : (rf != 0) = true := by simp [h0]
    clear hr h0
    go_enter Try.func22, Try.ntmps22
    go_wp2_with fail
    refine (HC.out _).mono ?_
    rintro _ w1 ⟨rfl, hB1⟩
    have HB1 := hide ((recv_below w (Obj.cells #[.bool x.rd, .bool x.wt, .int .i64 x.mode, .int .i64 x.size, .slice oa x.out.length oc, .slice ia x.inn.length ic, .slice ba x.back.length bc, .int .i64 x.dir, .bool x.fin, .bool x.bad, .bool x.closed] 29)).trans (hB1.mono (recv_below w (Obj.cells #[.bool x.rd, .bool x.wt, .int .i64 x.mode, .int .i64 x.size, .slice oa x.out.length oc, .slice ia x.inn.length ic, .slice ba x.back.length bc, .int .i64 x.dir, .bool x.fin, .bool x.bad, .bool x.closed] 29)).size))
    clear hB1
    go_wp2
    go_ret
    exact ⟨by rw [← HR.out]; rfl, HB1.out⟩
  subst h0
  rw [if_neg (by simp)] at hr
  by_cases h1 : wh < 0
  · skip
    have HR : Hid (1 = r) := hide (by rw [← hr, if_pos (.inl h1)])
    clear hr
    go_enter Try.func22, Try.ntmps22
    go_wp2_with fail
    refine (HC.out _).mono ?_
    rintro _ w1 ⟨rfl, hB1⟩
    have HB1 := hide ((recv_below w (Obj.cells #[.bool x.rd, .bool x.wt, .int .i64 x.mode, .int .i64 x.size, .slice oa x.out.length oc, .slice ia x.inn.length ic, .slice ba x.back.length bc, .int .i64 x.dir, .bool x.fin, .bool x.bad, .bool x.closed] 29)).trans (hB1.mono (recv_below w (Obj.cells #[.bool x.rd, .bool x.wt, .int .i64 x.mode, .int .i64 x.size, .slice oa x.out.length oc, .slice ia x.inn.length ic, .slice ba x.back.length bc, .int .i64 x.dir, .bool x.fin, .bool x.bad, .bool x.closed] 29)).size))
    clear hB1
    go_wp2
    go_ret
    exact ⟨by rw [← HR.out]; rfl, HB1.out⟩
  by_cases h2 : 2 < wh
  · skip
    have HR : Hid (1 = r) := hide (by rw [← hr, if_pos (.inr h2)])
    clear hr
    go_enter Try.func22, Try.ntmps22
    go_wp2_with fail
    refine (HC.out _).mono ?_
    rintro _ w1 ⟨rfl, hB1⟩
    have HB1 := hide ((recv_below w (Obj.cells #[.bool x.rd, .bool x.wt, .int .i64 x.mode, .int .i64 x.size, .slice oa x.out.length oc, .slice ia x.inn.length ic, .slice ba x.back.length bc, .int .i64 x.dir, .bool x.fin, .bool x.bad, .bool x.closed] 29)).trans (hB1.mono (recv_below w (Obj.cells #[.bool x.rd, .bool x.wt, .int .i64 x.mode, .int .i64 x.size, .slice oa x.out.length oc, .slice ia x.inn.length ic, .slice ba x.back.length bc, .int .i64 x.dir, .bool x.fin, .bool x.bad, .bool x.closed] 29)).size))
    clear hB1
    go_wp2
    go_ret
    exact ⟨by rw [← HR.out]; rfl, HB1.out⟩
  · skip
    have HR : Hid (0 = r) := hide (by rw [← hr, if_neg (by omega)])
    clear hr
    go_enter Try.func22, Try.ntmps22
    go_wp2_with fail
    refine (HC.out _).mono ?_
    rintro _ w1 ⟨rfl, hB1⟩
    have HB1 := hide ((recv_below w (Obj.cells #[.bool x.rd, .bool x.wt, .int .i64 x.mode, .int .i64 x.size, .slice oa x.out.length oc, .slice ia x.inn.length ic, .slice ba x.back.length bc, .int .i64 x.dir, .bool x.fin, .bool x.bad, .bool x.closed] 29)).trans (hB1.mono (recv_below w (Obj.cells #[.bool x.rd, .bool x.wt, .int .i64 x.mode, .int .i64 x.size, .slice oa x.out.length oc, .slice ia x.inn.length ic, .slice ba x.back.length bc, .int .i64 x.dir, .bool x.fin, .bool x.bad, .bool x.closed] 29)).size))
    clear hB1
    go_wp2
    go_ret
    exact ⟨by rw [← HR.out]; rfl, HB1.out⟩
end Go.Proofs.Ytckmfbjpjakbcaa

/- Streams: the reference's copy of a state. -/
namespace Go.Proofs.Ytckmfbjpjakbcaa
open Go.RowKit

def Ap3 (o i b : Value) : Prop := (∀ k, o.ownBlock = some k → i.ownBlock ≠ some k ∧ b.ownBlock ≠ some k) ∧ (∀ k, i.ownBlock = some k → b.ownBlock ≠ some k)

end Go.Proofs.Ytckmfbjpjakbcaa

/- Streams: three lists of a state, apart; a state that a call gave, in a variable of its own. -/
namespace Go.Proofs.Ytckmfbjpjakbcaa
open Go.RowKit

def Own3 (B : Nat) (W : World) (x : SS) (o i b : Value) : Prop := W.ownsRow B 5 1 o x.out.length (x.out.map bv) ∧ W.ownsRow B 5 1 i x.inn.length (x.inn.map bv) ∧ W.ownsRow B 5 1 b x.back.length (x.back.map bv) ∧ Ap3 o i b
theorem Own3.lt {B : Nat} {W : World} {x : SS} {o i b : Value} (h : Own3 B W x o i b) : (∀ k, o.ownBlock = some k → B ≤ k ∧ k < W.heap.size) ∧ (∀ k, i.ownBlock = some k → B ≤ k ∧ k < W.heap.size) ∧ ∀ k, b.ownBlock = some k → B ≤ k ∧ k < W.heap.size := ⟨h.1.lt, h.2.1.lt, h.2.2.1.lt⟩
theorem Own3.mono {B B' : Nat} {W : World} {x : SS} {o i b : Value} (h : Own3 B W x o i b) (hB : B' ≤ B) : Own3 B' W x o i b := ⟨owns_mono h.1 hB, owns_mono h.2.1 hB, owns_mono h.2.2.1 hB, h.2.2.2⟩
theorem Own3.turned {B : Nat} {P : Nat → Prop} {W W' : World} {x : SS} {o i b : Value} (h : Own3 B W x o i b) (hT : Turned P W W') (hS : ∀ k, B ≤ k → k < W.heap.size → ¬ P k) : Own3 B W' x o i b :=
  ⟨owns_turned h.1 hT fun k e => hS k (h.1.lt k e).1 (h.1.lt k e).2, owns_turned h.2.1 hT fun k e => hS k (h.2.1.lt k e).1 (h.2.1.lt k e).2, owns_turned h.2.2.1 hT fun k e => hS k (h.2.2.1.lt k e).1 (h.2.2.1.lt k e).2, h.2.2.2⟩
theorem Own3.below {B : Nat} {W W' : World} {x : SS} {o i b : Value} (h : Own3 B W x o i b) (hB : Below W.heap.size W W') : Own3 B W' x o i b := ⟨owns_below h.1 hB, owns_below h.2.1 hB, owns_below h.2.2.1 hB, h.2.2.2⟩
structure Got {S : Type} (At : World → (Nat → Prop) → S → Prop) (W0 : World) (O O' : Nat → Prop) (W : World) (g : Nat) (x : SS) (s : S) (o i b : Value) : Prop where
  st : StAt W g x o i b
  ls : SIn W (fun k => W0.heap.size ≤ k ∧ ¬ O' k ∧ k < W.heap.size) x o i b
  raw : At W O' s
  ol : ∀ j, O' j → j < W.heap.size
  oo : ∀ k, O' k → O k ∨ W0.heap.size ≤ k
  og : ¬ O' g
  g0 : W0.heap.size ≤ g
  t : Turned O W0 W
end Go.Proofs.Ytckmfbjpjakbcaa

/- Streams: a state of the program's in a call's variable, beside a Raw. -/
namespace Go.Proofs.Ytckmfbjpjakbcaa
open Go.RowKit

theorem StAt.set {W : World} {g : Nat} {x x' : SS} {o i b o' i' b' : Value} (h : StAt W g x o i b) (j : Nat) (u : Value) (hl : ([.bool x.rd, .bool x.wt, .int .i64 x.mode, .int .i64 x.size, o, i, b, .int .i64 x.dir, .bool x.fin, .bool x.bad, .bool x.closed] : List Value).set j u = [.bool x'.rd, .bool x'.wt, .int .i64 x'.mode, .int .i64 x'.size, o', i', b', .int .i64 x'.dir, .bool x'.fin, .bool x'.bad, .bool x'.closed]) : StAt (W.setCell ⟨g, j, none⟩ u) g x' o' i' b' ∧ Turned (fun k => k = g) W (W.setCell ⟨g, j, none⟩ u) := by
  refine ⟨?_, (Turned.refl (fun k => k = g) W).set (.inl rfl)⟩
  have := Go.heap_setCell_same W g j _ _ u h
  unfold StAt
  rw [this]
  simp only [List.setIfInBounds_toArray, hl]
theorem StAt.turned {P : Nat → Prop} {W W' : World} {g : Nat} {x : SS} {o i b : Value} (h : StAt W g x o i b) (hT : Turned P W W') (hn : ¬ P g) : StAt W' g x o i b := (hT.block g h.lt hn).trans h
theorem st_fill3 (w : World) (r : Nat) (x : SS) (o i b : Value) (h : w.heap[r]? = some (Obj.cells #[.bool false, .bool false, .int .i64 0, .int .i64 0, .slice none 0 0, .slice none 0 0, .slice none 0 0, .int .i64 0, .bool false, .bool false, .bool false] 29)) : StAt (filled w r x o i b) r x o i b ∧ Turned (fun k => k = r) w (filled w r x o i b) := st_fill w r x o i b h
structure QV {σ : Type} (B : World → (Nat → Prop) → σ → Prop) (w : World) (O0 : Nat → Prop) (r g : Nat) (W : World) (O : Nat → Prop) (x : SS) (s : σ) (o i b : Value) : Prop where
  st : StAt W g x o i b
  ls : SIn W (fun k => w.heap.size ≤ k ∧ ¬ O k ∧ k ≠ g ∧ k ≠ r ∧ k < W.heap.size) x o i b
  raw : B W O s
  ol : ∀ j, O j → j < W.heap.size
  og : ¬ O g
  orr : ¬ O r
  zr : W.heap[r]? = some (Obj.cells #[.bool false, .bool false, .int .i64 0, .int .i64 0, .slice none 0 0, .slice none 0 0, .slice none 0 0, .int .i64 0, .bool false, .bool false, .bool false] 29)
  gr : g ≠ r
  gw : w.heap.size ≤ g
  rw : w.heap.size ≤ r
  oo : ∀ k, O k → O0 k ∨ w.heap.size ≤ k
  tu : Turned O0 w W
theorem QV.rlt {σ : Type} {B : World → (Nat → Prop) → σ → Prop} {w : World} {O0 : Nat → Prop} {r g : Nat} {W : World} {O : Nat → Prop} {x : SS} {s : σ} {o i b : Value} (h : QV B w O0 r g W O x s o i b) : r < W.heap.size := (Array.getElem?_eq_some_iff.1 h.zr).1
theorem QV.below {σ : Type} {B : World → (Nat → Prop) → σ → Prop} (hT : ∀ s, OAt (fun w O => B w O s)) {w : World} {O0 : Nat → Prop} {r g : Nat} {W W' : World} {O : Nat → Prop} {x : SS} {s : σ} {o i b : Value} (h : QV B w O0 r g W O x s o i b) (hB : Below W.heap.size W W') : QV B w O0 r g W' O x s o i b := by
  have hz := hB.size
  exact ⟨h.st.below hB, (h.ls.below hB).mono fun k e => ⟨e.1, e.2.1, e.2.2.1, e.2.2.2.1, by have := e.2.2.2.2; omega⟩, (hT s).keep h.raw (fun j _ hj => hB.block j hj) hz, fun j e => Nat.lt_of_lt_of_le (h.ol j e) hz, h.og, h.orr, (hB.block r h.rlt).trans h.zr, h.gr, h.gw, h.rw, h.oo, h.tu.trans (Turned.of_below (S := O0) hB) (fun _ _ e => e)⟩
theorem QV.at {σ : Type} {B : World → (Nat → Prop) → σ → Prop} (hT : ∀ s, OAt (fun w O => B w O s)) {w : World} {O0 : Nat → Prop} {r g : Nat} {W W' : World} {O : Nat → Prop} {x x' : SS} {s : σ} {o i b o' i' b' : Value} (h : QV B w O0 r g W O x s o i b) (hs : StAt W' g x' o' i' b') (ht : Turned (fun k => k = g) W W') (hl : SIn W (fun k => w.heap.size ≤ k ∧ ¬ O k ∧ k ≠ g ∧ k ≠ r ∧ k < W.heap.size) x' o' i' b') : QV B w O0 r g W' O x' s o' i' b' := by
  have hz := ht.size
  have hg := h.gw
  exact ⟨hs, (hl.turned ht fun k e _ => e.2.2.1).mono fun k e => ⟨e.1, e.2.1, e.2.2.1, e.2.2.2.1, by have := e.2.2.2.2; omega⟩, (hT s).keep h.raw (fun j e hj => ht.block j hj (fun e' => h.og (e' ▸ e))) hz, fun j e => Nat.lt_of_lt_of_le (h.ol j e) hz, h.og, h.orr, (ht.block r h.rlt (fun e => h.gr e.symm)).trans h.zr, h.gr, h.gw, h.rw, h.oo, h.tu.trans ht (fun k hk e => by have e' : k = g := e; omega)⟩
theorem QV.set {σ : Type} {B : World → (Nat → Prop) → σ → Prop} (hT : ∀ s, OAt (fun w O => B w O s)) {w : World} {O0 : Nat → Prop} {r g : Nat} {W : World} {O : Nat → Prop} {x : SS} {s : σ} {o i b : Value} (h : QV B w O0 r g W O x s o i b) (x' : SS) (o' i' b' : Value) (j : Nat) (u : Value) (he : ([.bool x.rd, .bool x.wt, .int .i64 x.mode, .int .i64 x.size, o, i, b, .int .i64 x.dir, .bool x.fin, .bool x.bad, .bool x.closed] : List Value).set j u = [.bool x'.rd, .bool x'.wt, .int .i64 x'.mode, .int .i64 x'.size, o', i', b', .int .i64 x'.dir, .bool x'.fin, .bool x'.bad, .bool x'.closed]) (hl : SIn W (fun k => w.heap.size ≤ k ∧ ¬ O k ∧ k ≠ g ∧ k ≠ r ∧ k < W.heap.size) x' o' i' b') : QV B w O0 r g (W.setCell ⟨g, j, none⟩ u) O x' s o' i' b' := by
  obtain ⟨h1, h2⟩ := h.st.set j u he
  exact h.at hT h1 h2 hl
theorem QV.step {σ : Type} {B : World → (Nat → Prop) → σ → Prop} (hT : ∀ s, OAt (fun w O => B w O s)) {w : World} {O0 : Nat → Prop} {r g : Nat} {W W1 : World} {O : Nat → Prop} {x : SS} {s s' : σ} {o i b : Value} (h : QV B w O0 r g W O x s o i b) (hS : OStep (fun w O => B w O s') W O W1) : ∃ O', QV B w O0 r g W1 O' x s' o i b ∧ ∀ k, k < W.heap.size → ¬ O k → ¬ O' k := by
  obtain ⟨O1, q1, q2, q3⟩ := hS
  have hz := q3.size
  have hn : ∀ k, k < W.heap.size → ¬ O k → ¬ (O1 k ∧ k < W1.heap.size) := fun k hk hno e => (q2 k e.1).elim hno (fun e => by omega)
  have hw := h.tu.size
  exact ⟨fun k => O1 k ∧ k < W1.heap.size, ⟨h.st.turned q3 h.og, (h.ls.turned q3 fun k e _ => e.2.1).mono fun k e => ⟨e.1, hn k e.2.2.2.2 e.2.1, e.2.2.1, e.2.2.2.1, by have := e.2.2.2.2; omega⟩, (hT s').trim q1, fun j e => e.2, hn g h.st.lt h.og, hn r h.rlt h.orr, (q3.block r h.rlt h.orr).trans h.zr, h.gr, h.gw, h.rw, fun k e => (q2 k e.1).elim (h.oo k) (fun e => .inr (by omega)), h.tu.trans q3 (fun k hk e => (h.oo k e).resolve_right (by omega))⟩, hn⟩
theorem QV.out {σ : Type} {B : World → (Nat → Prop) → σ → Prop} (hT : ∀ s, OAt (fun w O => B w O s)) {w : World} {O0 : Nat → Prop} {r g : Nat} {W : World} {O : Nat → Prop} {x : SS} {s : σ} {o i b : Value} (h : QV B w O0 r g W O x s o i b) : StAt (filled W r x o i b) r x o i b ∧ SOut B w O0 x s o i b (filled W r x o i b) := by
  obtain ⟨e1, e2⟩ := st_fill3 W r x o i b h.zr
  have hz := e2.size
  have hr := h.rw
  exact ⟨e1, O, (h.ls.turned e2 fun k e _ => e.2.2.2.1).mono fun k e => ⟨e.1, e.2.1, by have := e.2.2.2.2; omega⟩, (hT s).keep h.raw (fun j e hj => e2.block j hj (fun e' => h.orr (e' ▸ e))) hz, fun j e => Nat.lt_of_lt_of_le (h.ol j e) hz, h.oo, h.tu.trans e2 (fun k hk e => by have e' : k = r := e; omega)⟩
end Go.Proofs.Ytckmfbjpjakbcaa

/- Streams: a call's variable takes what another call gave. -/
namespace Go.Proofs.Ytckmfbjpjakbcaa
open Go.RowKit

theorem QV.of_out {σ : Type} {B : World → (Nat → Prop) → σ → Prop} (hT : ∀ s, OAt (fun w O => B w O s)) {w w1 w2 : World} {O : Nat → Prop} {r g : Nat} {x x' : SS} {s' : σ} {o i b o' i' b' : Value} (hB : Below w.heap.size w w1) (hs : StAt w1 g x o i b) (hz : w1.heap[r]? = some (Obj.cells #[.bool false, .bool false, .int .i64 0, .int .i64 0, .slice none 0 0, .slice none 0 0, .slice none 0 0, .int .i64 0, .bool false, .bool false, .bool false] 29)) (hgr : g ≠ r) (hg : w.heap.size ≤ g) (hr : w.heap.size ≤ r) (hO : ∀ j, O j → j < w.heap.size) (hS : SOut B w1 O x' s' o' i' b' w2) :
    StAt w2 g x o i b ∧ ∃ O', QV B w O r g (filled w2 g x' o' i' b') O' x' s' o' i' b' := by
  obtain ⟨O', h1, h2, h3, h4, h5⟩ := hS
  have hz1 := hB.size
  have hz5 := h5.size
  have hgl := hs.lt
  have hrl : r < w1.heap.size := (Array.getElem?_eq_some_iff.1 hz).1
  have hst : StAt w2 g x o i b := (h5.block g hgl (fun e => by have := hO g e; omega)).trans hs
  obtain ⟨e1, e2⟩ := st_fill2 w2 g x x' o i b o' i' b' hst
  have hz2 := e2.size
  have no : ∀ k, w.heap.size ≤ k → k < w1.heap.size → ¬ O' k := fun k ha hb e => by
    rcases h4 k e with e | e
    · have := hO k e; omega
    · omega
  refine ⟨hst, O', e1, (h1.turned e2 fun k e _ e' => by have := e.1; omega).mono fun k e => ⟨by have := e.1; omega, e.2.1, by have := e.1; omega, by have := e.1; omega, by have := e.2.2; omega⟩, (hT s').keep h2 (fun j e hj => e2.block j hj (fun e' => no g hg hgl (e' ▸ e))) hz2, fun j e => Nat.lt_of_lt_of_le (h3 j e) hz2, no g hg hgl, no r hr hrl, ?_, hgr, hg, hr, fun k e => (h4 k e).imp id (fun e => by omega), ?_⟩
  · exact (e2.block r (by omega) (fun e => hgr e.symm)).trans ((h5.block r hrl (fun e => by have := hO r e; omega)).trans hz)
  · exact ((Turned.of_below (S := O) hB).trans h5 (fun _ _ e => e)).trans e2 (fun k hk e => by have e' : k = g := e; omega)
theorem QV.of_new {σ : Type} {B : World → (Nat → Prop) → σ → Prop} (hT : ∀ s, OAt (fun w O => B w O s)) {w w1 w2 : World} {O : Nat → Prop} {r : Nat} {x' : SS} {s' : σ} {o' i' b' : Value} (hB : Below w.heap.size w w1) (hz : w1.heap[r]? = some (Obj.cells #[.bool false, .bool false, .int .i64 0, .int .i64 0, .slice none 0 0, .slice none 0 0, .slice none 0 0, .int .i64 0, .bool false, .bool false, .bool false] 29)) (hr : w.heap.size ≤ r) (hO : ∀ j, O j → j < w.heap.size) (hS : SOut B w1 O x' s' o' i' b' w2) :
    ∃ O', QV B w O r w2.heap.size (w2.alloc (Obj.cells #[.bool x'.rd, .bool x'.wt, .int .i64 x'.mode, .int .i64 x'.size, o', i', b', .int .i64 x'.dir, .bool x'.fin, .bool x'.bad, .bool x'.closed] 29)) O' x' s' o' i' b' := by
  obtain ⟨O', h1, h2, h3, h4, h5⟩ := hS
  have hz1 := hB.size
  have hz5 := h5.size
  have hrl : r < w1.heap.size := (Array.getElem?_eq_some_iff.1 hz).1
  have hBn := recv_below w2 (Obj.cells #[.bool x'.rd, .bool x'.wt, .int .i64 x'.mode, .int .i64 x'.size, o', i', b', .int .i64 x'.dir, .bool x'.fin, .bool x'.bad, .bool x'.closed] 29)
  have hzn := hBn.size
  have hst := StAt.new w2 x' o' i' b'
  refine ⟨O', hst, (h1.below hBn).mono fun k e => ⟨by have := e.1; omega, e.2.1, by have := e.2.2; omega, by have := e.1; omega, by have := e.2.2; omega⟩, (hT s').keep h2 (fun j _ hj => hBn.block j hj) hzn, fun j e => Nat.lt_of_lt_of_le (h3 j e) hzn, fun e => by have := h3 _ e; omega, fun e => ?_, ?_, by omega, by omega, hr, fun k e => (h4 k e).imp id (fun e => by omega), ?_⟩
  · rcases h4 r e with e | e
    · have := hO r e; omega
    · omega
  · exact (hBn.block r (by omega)).trans ((h5.block r hrl (fun e => by have := hO r e; omega)).trans hz)
  · exact ((Turned.of_below (S := O) hB).trans h5 (fun _ _ e => e)).trans (Turned.of_below (S := O) hBn) (fun _ _ e => e)
theorem SIn.nils0 {W : World} {P : Nat → Prop} {x : SS} (h1 : x.out = []) (h2 : x.inn = []) (h3 : x.back = []) : SIn W P x (.slice none 0 0) (.slice none 0 0) (.slice none 0 0) := by
  have hno : ∀ k, (Value.slice none 0 0).ownBlock = some k → False := fun k e => by simp [Value.ownBlock] at e
  exact ⟨h1 ▸ Sl.nil, h2 ▸ Sl.nil, h3 ▸ Sl.nil, fun k e => (hno k e).elim, fun k e => (hno k e).elim, fun k e => (hno k e).elim⟩
theorem QV.out2 {σ : Type} {B : World → (Nat → Prop) → σ → Prop} (hT : ∀ s, OAt (fun w O => B w O s)) {w : World} {O0 : Nat → Prop} {r g : Nat} {W : World} {O : Nat → Prop} {x : SS} {s : σ} {o i b : Value} (h : QV B w O0 r g W O x s o i b) (x' : SS) (o' i' b' : Value) (hl : SIn W (fun k => w.heap.size ≤ k ∧ ¬ O k ∧ k ≠ g ∧ k ≠ r ∧ k < W.heap.size) x' o' i' b') : StAt (filled W r x' o' i' b') r x' o' i' b' ∧ SOut B w O0 x' s o' i' b' (filled W r x' o' i' b') := by
  obtain ⟨e1, e2⟩ := st_fill3 W r x' o' i' b' h.zr
  have hz := e2.size
  have hr := h.rw
  exact ⟨e1, O, (hl.turned e2 fun k e _ => e.2.2.2.1).mono fun k e => ⟨e.1, e.2.1, by have := e.2.2.2.2; omega⟩, (hT s).keep h.raw (fun j e hj => e2.block j hj (fun e' => h.orr (e' ▸ e))) hz, fun j e => Nat.lt_of_lt_of_le (h.ol j e) hz, h.oo, h.tu.trans e2 (fun k hk e => by have e' : k = r := e; omega)⟩
end Go.Proofs.Ytckmfbjpjakbcaa

/- What the proof stands on, part 17: the contracts of the program's calls that it reaches. -/
import Derived.Test.YtdmkjbdlidadiaaGreatKO16
import Derived.KernelRfl
import Derived.Lib.SlBytesConst
/- Streams: New. -/
namespace Go.Proofs.YtdmkjbdlidadiaaGreat
open Go.RowKit

def ss0 : SS := ⟨false, false, 0, 0, [], [], [], 0, false, false, false⟩
def SS.new (m : Mo) (mode size : Int) : SS × Int :=
  if chkM m = 0 then (if 1 ≤ mode ∧ mode ≤ 3 then (if 1 ≤ size ∧ size ≤ 65536 then (⟨m.rd, m.wr, mode, size, [], [], [], 0, false, false, false⟩, 0) else (ss0, 4)) else (ss0, 1)) else (ss0, chkM m)
set_option maxRecDepth 100000 in
set_option maxHeartbeats 2000000 in
theorem sNew_any (m : Mo) (mode size : Int) (w : World) :
    Calls Tryz.prog 102 #[mv m, .int .i64 mode, .int .i64 size] w fun e w' => e = .returned (.tuple #[.agg #[.bool (SS.new m mode size).1.rd, .bool (SS.new m mode size).1.wt, .int .i64 (SS.new m mode size).1.mode, .int .i64 (SS.new m mode size).1.size, .slice none 0 0, .slice none 0 0, .slice none 0 0, .int .i64 (SS.new m mode size).1.dir, .bool (SS.new m mode size).1.fin, .bool (SS.new m mode size).1.bad, .bool (SS.new m mode size).1.closed], .int .i64 (SS.new m mode size).2]) ∧ Below w.heap.size w w' := by
  have HC := hide (ocheck_any m)
  generalize hq : SS.new m mode size = q
  obtain ⟨qx, qe⟩ := q
  unfold SS.new at hq
  generalize chkM m = ck at *
  unfold mv at *
  by_cases h0 : ck = 0
  · subst h0
    rw [if_pos rfl] at hq
    by_cases h1 : 1 ≤ mode ∧ mode ≤ 3
    · rw [if_pos h1] at hq
      have HI : Hid ((decide (1 ≤ mode) && decide (mode ≤ 3)) = true) := hide (by rw [decide_eq_true h1.1, decide_eq_true h1.2]; rfl)
      by_cases h2 : 1 ≤ size ∧ size ≤ 65536
      · rw [if_pos h2] at hq
        have HJ : Hid ((decide (1 ≤ size) && decide (size ≤ 65536)) = true) := hide (by rw [decide_eq_true h2.1, decide_eq_true h2.2]; rfl)
        obtain ⟨rfl, rfl⟩ : (⟨m.rd, m.wr, mode, size, [], [], [], 0, false, false, false⟩ : SS) = qx ∧ 0 = qe := by simpa using hq
        clear hq h1 h2
        go_enter Tryz.func102, Tryz.ntmps102
        go_wp2_with fail
        have HB0 := hide ((recv_below w (Obj.cells #[.bool m.rd, .bool m.wr, .bool m.ap, .bool m.cr, .bool m.tr, .bool m.ex, .bool m.bi, .bool m.ma] 186)).trans ((recv_below (w.alloc (Obj.cells #[.bool m.rd, .bool m.wr, .bool m.ap, .bool m.cr, .bool m.tr, .bool m.ex, .bool m.bi, .bool m.ma] 186)) (Obj.cells #[.bool false, .bool false, .int .i64 0, .int .i64 0, .slice none 0 0, .slice none 0 0, .slice none 0 0, .int .i64 0, .bool false, .bool false, .bool false] 58)).mono (recv_below w (Obj.cells #[.bool m.rd, .bool m.wr, .bool m.ap, .bool m.cr, .bool m.tr, .bool m.ex, .bool m.bi, .bool m.ma] 186)).size))
        have HM0 : Hid (((w.alloc (Obj.cells #[.bool m.rd, .bool m.wr, .bool m.ap, .bool m.cr, .bool m.tr, .bool m.ex, .bool m.bi, .bool m.ma] 186)).alloc (Obj.cells #[.bool false, .bool false, .int .i64 0, .int .i64 0, .slice none 0 0, .slice none 0 0, .slice none 0 0, .int .i64 0, .bool false, .bool false, .bool false] 58)).heap[w.heap.size]? = some (Obj.cells #[.bool m.rd, .bool m.wr, .bool m.ap, .bool m.cr, .bool m.tr, .bool m.ex, .bool m.bi, .bool m.ma] 186)) := hide (((recv_below (w.alloc (Obj.cells #[.bool m.rd, .bool m.wr, .bool m.ap, .bool m.cr, .bool m.tr, .bool m.ex, .bool m.bi, .bool m.ma] 186)) (Obj.cells #[.bool false, .bool false, .int .i64 0, .int .i64 0, .slice none 0 0, .slice none 0 0, .slice none 0 0, .int .i64 0, .bool false, .bool false, .bool false] 58)).block w.heap.size (by simp)).trans (heap_alloc_new w (Obj.cells #[.bool m.rd, .bool m.wr, .bool m.ap, .bool m.cr, .bool m.tr, .bool m.ex, .bool m.bi, .bool m.ma] 186)))
        have HZ0 : Hid (((w.alloc (Obj.cells #[.bool m.rd, .bool m.wr, .bool m.ap, .bool m.cr, .bool m.tr, .bool m.ex, .bool m.bi, .bool m.ma] 186)).alloc (Obj.cells #[.bool false, .bool false, .int .i64 0, .int .i64 0, .slice none 0 0, .slice none 0 0, .slice none 0 0, .int .i64 0, .bool false, .bool false, .bool false] 58)).heap[w.heap.size + 1]? = some (Obj.cells #[.bool false, .bool false, .int .i64 0, .int .i64 0, .slice none 0 0, .slice none 0 0, .slice none 0 0, .int .i64 0, .bool false, .bool false, .bool false] 58)) := hide (by have := heap_alloc_new (w.alloc (Obj.cells #[.bool m.rd, .bool m.wr, .bool m.ap, .bool m.cr, .bool m.tr, .bool m.ex, .bool m.bi, .bool m.ma] 186)) (Obj.cells #[.bool false, .bool false, .int .i64 0, .int .i64 0, .slice none 0 0, .slice none 0 0, .slice none 0 0, .int .i64 0, .bool false, .bool false, .bool false] 58); rw [show (w.alloc (Obj.cells #[.bool m.rd, .bool m.wr, .bool m.ap, .bool m.cr, .bool m.tr, .bool m.ex, .bool m.bi, .bool m.ma] 186)).heap.size = w.heap.size + 1 from Array.size_push ..] at this; exact this)
        generalize (w.alloc (Obj.cells #[.bool m.rd, .bool m.wr, .bool m.ap, .bool m.cr, .bool m.tr, .bool m.ex, .bool m.bi, .bool m.ma] 186)).alloc (Obj.cells #[.bool false, .bool false, .int .i64 0, .int .i64 0, .slice none 0 0, .slice none 0 0, .slice none 0 0, .int .i64 0, .bool false, .bool false, .bool false] 58) = w0 at *
        have hz0 : w.heap.size + 1 < w0.heap.size := (Array.getElem?_eq_some_iff.1 HZ0.out).1
        refine (HC.out w0).mono ?_
        rintro _ w1 ⟨rfl, hB1⟩
        have HZ1 := hide ((hB1.block (w.heap.size + 1) hz0).trans HZ0.out)
        have HM1 := hide ((hB1.block w.heap.size (by omega)).trans HM0.out)
        have p0 := cell_of_row w1 w.heap.size 0 _ _ _ HM1.out
        have p1 := cell_of_row w1 w.heap.size 1 _ _ _ HM1.out
        have z0 := cell_of_row w1 (w.heap.size + 1) 0 _ _ _ HZ1.out
        have z1 := cell_of_row w1 (w.heap.size + 1) 1 _ _ _ HZ1.out
        have z2 := cell_of_row w1 (w.heap.size + 1) 2 _ _ _ HZ1.out
        have z3 := cell_of_row w1 (w.heap.size + 1) 3 _ _ _ HZ1.out
        have z4 := cell_of_row w1 (w.heap.size + 1) 4 _ _ _ HZ1.out
        have z5 := cell_of_row w1 (w.heap.size + 1) 5 _ _ _ HZ1.out
        have z6 := cell_of_row w1 (w.heap.size + 1) 6 _ _ _ HZ1.out
        have z7 := cell_of_row w1 (w.heap.size + 1) 7 _ _ _ HZ1.out
        have z8 := cell_of_row w1 (w.heap.size + 1) 8 _ _ _ HZ1.out
        have z9 := cell_of_row w1 (w.heap.size + 1) 9 _ _ _ HZ1.out
        have z10 := cell_of_row w1 (w.heap.size + 1) 10 _ _ _ HZ1.out
        have u0 := frozen_of_row w1 (w.heap.size + 1) 0 _ _ HZ1.out
        have u1 := frozen_of_row w1 (w.heap.size + 1) 1 _ _ HZ1.out
        have u2 := frozen_of_row w1 (w.heap.size + 1) 2 _ _ HZ1.out
        have u3 := frozen_of_row w1 (w.heap.size + 1) 3 _ _ HZ1.out
        have u4 := frozen_of_row w1 (w.heap.size + 1) 4 _ _ HZ1.out
        have u5 := frozen_of_row w1 (w.heap.size + 1) 5 _ _ HZ1.out
        have u6 := frozen_of_row w1 (w.heap.size + 1) 6 _ _ HZ1.out
        have u7 := frozen_of_row w1 (w.heap.size + 1) 7 _ _ HZ1.out
        have u8 := frozen_of_row w1 (w.heap.size + 1) 8 _ _ HZ1.out
        have u9 := frozen_of_row w1 (w.heap.size + 1) 9 _ _ HZ1.out
        have u10 := frozen_of_row w1 (w.heap.size + 1) 10 _ _ HZ1.out
        simp at p0 p1 z0 z1 z2 z3 z4 z5 z6 z7 z8 z9 z10
        have HB1 := hide (HB0.out.trans (hB1.mono HB0.out.size))
        clear hB1
        go_wp2_with (first | (go_at_call 188; refine (isMode_any _ _).mono ?_; rintro _ _ ⟨rfl, rfl⟩; rw [HI.out]) | (go_at_call 189; refine (isSize_any _ _).mono ?_; rintro _ _ ⟨rfl, rfl⟩; rw [HJ.out]) | fail)
        obtain ⟨e1, e2⟩ := st_fill w1 (w.heap.size + 1) (⟨m.rd, m.wr, mode, size, [], [], [], 0, false, false, false⟩ : SS) (.slice none 0 0) (.slice none 0 0) (.slice none 0 0) HZ1.out
        refine bodyPost_ret (res_two rfl _ (w.heap.size + 1) rfl (⟨m.rd, m.wr, mode, size, [], [], [], 0, false, false, false⟩ : SS) _ _ _ e1) rfl ?_
        exact ⟨rfl, HB1.out.trans (e2.below (fun k e => by omega) HB1.out.size)⟩
      · rw [if_neg h2] at hq
        have HJ : Hid ((decide (1 ≤ size) && decide (size ≤ 65536)) = false) := hide (by
          by_cases h3 : 1 ≤ size
          · rw [decide_eq_false (p := size ≤ 65536) (fun e => h2 ⟨h3, e⟩), Bool.and_false]
          · rw [decide_eq_false h3]; rfl)
        obtain ⟨rfl, rfl⟩ : ss0 = qx ∧ 4 = qe := by simpa using hq
        clear hq h1 h2
        go_enter Tryz.func102, Tryz.ntmps102
        go_wp2_with fail
        have HB0 := hide ((recv_below w (Obj.cells #[.bool m.rd, .bool m.wr, .bool m.ap, .bool m.cr, .bool m.tr, .bool m.ex, .bool m.bi, .bool m.ma] 186)).trans ((recv_below (w.alloc (Obj.cells #[.bool m.rd, .bool m.wr, .bool m.ap, .bool m.cr, .bool m.tr, .bool m.ex, .bool m.bi, .bool m.ma] 186)) (Obj.cells #[.bool false, .bool false, .int .i64 0, .int .i64 0, .slice none 0 0, .slice none 0 0, .slice none 0 0, .int .i64 0, .bool false, .bool false, .bool false] 58)).mono (recv_below w (Obj.cells #[.bool m.rd, .bool m.wr, .bool m.ap, .bool m.cr, .bool m.tr, .bool m.ex, .bool m.bi, .bool m.ma] 186)).size))
        have HM0 : Hid (((w.alloc (Obj.cells #[.bool m.rd, .bool m.wr, .bool m.ap, .bool m.cr, .bool m.tr, .bool m.ex, .bool m.bi, .bool m.ma] 186)).alloc (Obj.cells #[.bool false, .bool false, .int .i64 0, .int .i64 0, .slice none 0 0, .slice none 0 0, .slice none 0 0, .int .i64 0, .bool false, .bool false, .bool false] 58)).heap[w.heap.size]? = some (Obj.cells #[.bool m.rd, .bool m.wr, .bool m.ap, .bool m.cr, .bool m.tr, .bool m.ex, .bool m.bi, .bool m.ma] 186)) := hide (((recv_below (w.alloc (Obj.cells #[.bool m.rd, .bool m.wr, .bool m.ap, .bool m.cr, .bool m.tr, .bool m.ex, .bool m.bi, .bool m.ma] 186)) (Obj.cells #[.bool false, .bool false, .int .i64 0, .int .i64 0, .slice none 0 0, .slice none 0 0, .slice none 0 0, .int .i64 0, .bool false, .bool false, .bool false] 58)).block w.heap.size (by simp)).trans (heap_alloc_new w (Obj.cells #[.bool m.rd, .bool m.wr, .bool m.ap, .bool m.cr, .bool m.tr, .bool m.ex, .bool m.bi, .bool m.ma] 186)))
        have HZ0 : Hid (((w.alloc (Obj.cells #[.bool m.rd, .bool m.wr, .bool m.ap, .bool m.cr, .bool m.tr, .bool m.ex, .bool m.bi, .bool m.ma] 186)).alloc (Obj.cells #[.bool false, .bool false, .int .i64 0, .int .i64 0, .slice none 0 0, .slice none 0 0, .slice none 0 0, .int .i64 0, .bool false, .bool false, .bool false] 58)).heap[w.heap.size + 1]? = some (Obj.cells #[.bool false, .bool false, .int .i64 0, .int .i64 0, .slice none 0 0, .slice none 0 0, .slice none 0 0, .int .i64 0, .bool false, .bool false, .bool false] 58)) := hide (by have := heap_alloc_new (w.alloc (Obj.cells #[.bool m.rd, .bool m.wr, .bool m.ap, .bool m.cr, .bool m.tr, .bool m.ex, .bool m.bi, .bool m.ma] 186)) (Obj.cells #[.bool false, .bool false, .int .i64 0, .int .i64 0, .slice none 0 0, .slice none 0 0, .slice none 0 0, .int .i64 0, .bool false, .bool false, .bool false] 58); rw [show (w.alloc (Obj.cells #[.bool m.rd, .bool m.wr, .bool m.ap, .bool m.cr, .bool m.tr, .bool m.ex, .bool m.bi, .bool m.ma] 186)).heap.size = w.heap.size + 1 from Array.size_push ..] at this; exact this)
        generalize (w.alloc (Obj.cells #[.bool m.rd, .bool m.wr, .bool m.ap, .bool m.cr, .bool m.tr, .bool m.ex, .bool m.bi, .bool m.ma] 186)).alloc (Obj.cells #[.bool false, .bool false, .int .i64 0, .int .i64 0, .slice none 0 0, .slice none 0 0, .slice none 0 0, .int .i64 0, .bool false, .bool false, .bool false] 58) = w0 at *
        have hz0 : w.heap.size + 1 < w0.heap.size := (Array.getElem?_eq_some_iff.1 HZ0.out).1
        refine (HC.out w0).mono ?_
        rintro _ w1 ⟨rfl, hB1⟩
        have HZ1 := hide ((hB1.block (w.heap.size + 1) hz0).trans HZ0.out)
        have HM1 := hide ((hB1.block w.heap.size (by omega)).trans HM0.out)
        have p0 := cell_of_row w1 w.heap.size 0 _ _ _ HM1.out
        have p1 := cell_of_row w1 w.heap.size 1 _ _ _ HM1.out
        have z0 := cell_of_row w1 (w.heap.size + 1) 0 _ _ _ HZ1.out
        have z1 := cell_of_row w1 (w.heap.size + 1) 1 _ _ _ HZ1.out
        have z2 := cell_of_row w1 (w.heap.size + 1) 2 _ _ _ HZ1.out
        have z3 := cell_of_row w1 (w.heap.size + 1) 3 _ _ _ HZ1.out
        have z4 := cell_of_row w1 (w.heap.size + 1) 4 _ _ _ HZ1.out
        have z5 := cell_of_row w1 (w.heap.size + 1) 5 _ _ _ HZ1.out
        have z6 := cell_of_row w1 (w.heap.size + 1) 6 _ _ _ HZ1.out
        have z7 := cell_of_row w1 (w.heap.size + 1) 7 _ _ _ HZ1.out
        have z8 := cell_of_row w1 (w.heap.size + 1) 8 _ _ _ HZ1.out
        have z9 := cell_of_row w1 (w.heap.size + 1) 9 _ _ _ HZ1.out
        have z10 := cell_of_row w1 (w.heap.size + 1) 10 _ _ _ HZ1.out
        have u0 := frozen_of_row w1 (w.heap.size + 1) 0 _ _ HZ1.out
        have u1 := frozen_of_row w1 (w.heap.size + 1) 1 _ _ HZ1.out
        have u2 := frozen_of_row w1 (w.heap.size + 1) 2 _ _ HZ1.out
        have u3 := frozen_of_row w1 (w.heap.size + 1) 3 _ _ HZ1.out
        have u4 := frozen_of_row w1 (w.heap.size + 1) 4 _ _ HZ1.out
        have u5 := frozen_of_row w1 (w.heap.size + 1) 5 _ _ HZ1.out
        have u6 := frozen_of_row w1 (w.heap.size + 1) 6 _ _ HZ1.out
        have u7 := frozen_of_row w1 (w.heap.size + 1) 7 _ _ HZ1.out
        have u8 := frozen_of_row w1 (w.heap.size + 1) 8 _ _ HZ1.out
        have u9 := frozen_of_row w1 (w.heap.size + 1) 9 _ _ HZ1.out
        have u10 := frozen_of_row w1 (w.heap.size + 1) 10 _ _ HZ1.out
        simp at p0 p1 z0 z1 z2 z3 z4 z5 z6 z7 z8 z9 z10
        have HB1 := hide (HB0.out.trans (hB1.mono HB0.out.size))
        clear hB1
        go_wp2_with (first | (go_at_call 188; refine (isMode_any _ _).mono ?_; rintro _ _ ⟨rfl, rfl⟩; rw [HI.out]) | (go_at_call 189; refine (isSize_any _ _).mono ?_; rintro _ _ ⟨rfl, rfl⟩; rw [HJ.out]) | fail)
        obtain ⟨e1, e2⟩ := st_fill w1 (w.heap.size + 1) ss0 (.slice none 0 0) (.slice none 0 0) (.slice none 0 0) HZ1.out
        refine bodyPost_ret (res_two rfl _ (w.heap.size + 1) rfl ss0 _ _ _ e1) rfl ?_
        exact ⟨rfl, HB1.out.trans (e2.below (fun k e => by omega) HB1.out.size)⟩
    · rw [if_neg h1] at hq
      have HI : Hid ((decide (1 ≤ mode) && decide (mode ≤ 3)) = false) := hide (by
        by_cases h3 : 1 ≤ mode
        · rw [decide_eq_false (p := mode ≤ 3) (fun e => h1 ⟨h3, e⟩), Bool.and_false]
        · rw [decide_eq_false h3]; rfl)
      obtain ⟨rfl, rfl⟩ : ss0 = qx ∧ 1 = qe := by simpa using hq
      clear hq h1
      go_enter Tryz.func102, Tryz.ntmps102
      go_wp2_with fail
      have HB0 := hide ((recv_below w (Obj.cells #[.bool m.rd, .bool m.wr, .bool m.ap, .bool m.cr, .bool m.tr, .bool m.ex, .bool m.bi, .bool m.ma] 186)).trans ((recv_below (w.alloc (Obj.cells #[.bool m.rd, .bool m.wr, .bool m.ap, .bool m.cr, .bool m.tr, .bool m.ex, .bool m.bi, .bool m.ma] 186)) (Obj.cells #[.bool false, .bool false, .int .i64 0, .int .i64 0, .slice none 0 0, .slice none 0 0, .slice none 0 0, .int .i64 0, .bool false, .bool false, .bool false] 58)).mono (recv_below w (Obj.cells #[.bool m.rd, .bool m.wr, .bool m.ap, .bool m.cr, .bool m.tr, .bool m.ex, .bool m.bi, .bool m.ma] 186)).size))
      have HM0 : Hid (((w.alloc (Obj.cells #[.bool m.rd, .bool m.wr, .bool m.ap, .bool m.cr, .bool m.tr, .bool m.ex, .bool m.bi, .bool m.ma] 186)).alloc (Obj.cells #[.bool false, .bool false, .int .i64 0, .int .i64 0, .slice none 0 0, .slice none 0 0, .slice none 0 0, .int .i64 0, .bool false, .bool false, .bool false] 58)).heap[w.heap.size]? = some (Obj.cells #[.bool m.rd, .bool m.wr, .bool m.ap, .bool m.cr, .bool m.tr, .bool m.ex, .bool m.bi, .bool m.ma] 186)) := hide (((recv_below (w.alloc (Obj.cells #[.bool m.rd, .bool m.wr, .bool m.ap, .bool m.cr, .bool m.tr, .bool m.ex, .bool m.bi, .bool m.ma] 186)) (Obj.cells #[.bool false, .bool false, .int .i64 0, .int .i64 0, .slice none 0 0, .slice none 0 0, .slice none 0 0, .int .i64 0, .bool false, .bool false, .bool false] 58)).block w.heap.size (by simp)).trans (heap_alloc_new w (Obj.cells #[.bool m.rd, .bool m.wr, .bool m.ap, .bool m.cr, .bool m.tr, .bool m.ex, .bool m.bi, .bool m.ma] 186)))
      have HZ0 : Hid (((w.alloc (Obj.cells #[.bool m.rd, .bool m.wr, .bool m.ap, .bool m.cr, .bool m.tr, .bool m.ex, .bool m.bi, .bool m.ma] 186)).alloc (Obj.cells #[.bool false, .bool false, .int .i64 0, .int .i64 0, .slice none 0 0, .slice none 0 0, .slice none 0 0, .int .i64 0, .bool false, .bool false, .bool false] 58)).heap[w.heap.size + 1]? = some (Obj.cells #[.bool false, .bool false, .int .i64 0, .int .i64 0, .slice none 0 0, .slice none 0 0, .slice none 0 0, .int .i64 0, .bool false, .bool false, .bool false] 58)) := hide (by have := heap_alloc_new (w.alloc (Obj.cells #[.bool m.rd, .bool m.wr, .bool m.ap, .bool m.cr, .bool m.tr, .bool m.ex, .bool m.bi, .bool m.ma] 186)) (Obj.cells #[.bool false, .bool false, .int .i64 0, .int .i64 0, .slice none 0 0, .slice none 0 0, .slice none 0 0, .int .i64 0, .bool false, .bool false, .bool false] 58); rw [show (w.alloc (Obj.cells #[.bool m.rd, .bool m.wr, .bool m.ap, .bool m.cr, .bool m.tr, .bool m.ex, .bool m.bi, .bool m.ma] 186)).heap.size = w.heap.size + 1 from Array.size_push ..] at this; exact this)
      generalize (w.alloc (Obj.cells #[.bool m.rd, .bool m.wr, .bool m.ap, .bool m.cr, .bool m.tr, .bool m.ex, .bool m.bi, .bool m.ma] 186)).alloc (Obj.cells #[.bool false, .bool false, .int .i64 0, .int .i64 0, .slice none 0 0, .slice none 0 0, .slice none 0 0, .int .i64 0, .bool false, .bool false, .bool false] 58) = w0 at *
      have hz0 : w.heap.size + 1 < w0.heap.size := (Array.getElem?_eq_some_iff.1 HZ0.out).1
      refine (HC.out w0).mono ?_
      rintro _ w1 ⟨rfl, hB1⟩
      have HZ1 := hide ((hB1.block (w.heap.size + 1) hz0).trans HZ0.out)
      have HM1 := hide ((hB1.block w.heap.size (by omega)).trans HM0.out)
      have p0 := cell_of_row w1 w.heap.size 0 _ _ _ HM1.out
      have p1 := cell_of_row w1 w.heap.size 1 _ _ _ HM1.out
      have z0 := cell_of_row w1 (w.heap.size + 1) 0 _ _ _ HZ1.out
      have z1 := cell_of_row w1 (w.heap.size + 1) 1 _ _ _ HZ1.out
      have z2 := cell_of_row w1 (w.heap.size + 1) 2 _ _ _ HZ1.out
      have z3 := cell_of_row w1 (w.heap.size + 1) 3 _ _ _ HZ1.out
      have z4 := cell_of_row w1 (w.heap.size + 1) 4 _ _ _ HZ1.out
      have z5 := cell_of_row w1 (w.heap.size + 1) 5 _ _ _ HZ1.out
      have z6 := cell_of_row w1 (w.heap.size + 1) 6 _ _ _ HZ1.out
      have z7 := cell_of_row w1 (w.heap.size + 1) 7 _ _ _ HZ1.out
      have z8 := cell_of_row w1 (w.heap.size + 1) 8 _ _ _ HZ1.out
      have z9 := cell_of_row w1 (w.heap.size + 1) 9 _ _ _ HZ1.out
      have z10 := cell_of_row w1 (w.heap.size + 1) 10 _ _ _ HZ1.out
      have u0 := frozen_of_row w1 (w.heap.size + 1) 0 _ _ HZ1.out
      have u1 := frozen_of_row w1 (w.heap.size + 1) 1 _ _ HZ1.out
      have u2 := frozen_of_row w1 (w.heap.size + 1) 2 _ _ HZ1.out
      have u3 := frozen_of_row w1 (w.heap.size + 1) 3 _ _ HZ1.out
      have u4 := frozen_of_row w1 (w.heap.size + 1) 4 _ _ HZ1.out
      have u5 := frozen_of_row w1 (w.heap.size + 1) 5 _ _ HZ1.out
      have u6 := frozen_of_row w1 (w.heap.size + 1) 6 _ _ HZ1.out
      have u7 := frozen_of_row w1 (w.heap.size + 1) 7 _ _ HZ1.out
      have u8 := frozen_of_row w1 (w.heap.size + 1) 8 _ _ HZ1.out
      have u9 := frozen_of_row w1 (w.heap.size + 1) 9 _ _ HZ1.out
      have u10 := frozen_of_row w1 (w.heap.size + 1) 10 _ _ HZ1.out
      simp at p0 p1 z0 z1 z2 z3 z4 z5 z6 z7 z8 z9 z10
      have HB1 := hide (HB0.out.trans (hB1.mono HB0.out.size))
      clear hB1
      go_wp2_with (first | (go_at_call 188; refine (isMode_any _ _).mono ?_; rintro _ _ ⟨rfl, rfl⟩; rw [HI.out]) | fail)
      obtain ⟨e1, e2⟩ := st_fill w1 (w.heap.size + 1) ss0 (.slice none 0 0) (.slice none 0 0) (.slice none 0 0) HZ1.out
      refine bodyPost_ret (res_two rfl _ (w.heap.size + 1) rfl ss0 _ _ _ e1) rfl ?_
      exact ⟨rfl, HB1.out.trans (e2.below (fun k e => by omega) HB1.out.size)⟩
  · rw [if_neg h0] at hq
    obtain ⟨rfl, rfl⟩ : ss0 = qx ∧ ck = qe := by simpa using hq
    have h1 : (ck != 0) = true := by simp [h0]
    clear hq
    go_enter Tryz.func102, Tryz.ntmps102
    go_wp2_with fail
    have HB0 := hide ((recv_below w (Obj.cells #[.bool m.rd, .bool m.wr, .bool m.ap, .bool m.cr, .bool m.tr, .bool m.ex, .bool m.bi, .bool m.ma] 186)).trans ((recv_below (w.alloc (Obj.cells #[.bool m.rd, .bool m.wr, .bool m.ap, .bool m.cr, .bool m.tr, .bool m.ex, .bool m.bi, .bool m.ma] 186)) (Obj.cells #[.bool false, .bool false, .int .i64 0, .int .i64 0, .slice none 0 0, .slice none 0 0, .slice none 0 0, .int .i64 0, .bool false, .bool false, .bool false] 58)).mono (recv_below w (Obj.cells #[.bool m.rd, .bool m.wr, .bool m.ap, .bool m.cr, .bool m.tr, .bool m.ex, .bool m.bi, .bool m.ma] 186)).size))
    have HM0 : Hid (((w.alloc (Obj.cells #[.bool m.rd, .bool m.wr, .bool m.ap, .bool m.cr, .bool m.tr, .bool m.ex, .bool m.bi, .bool m.ma] 186)).alloc (Obj.cells #[.bool false, .bool false, .int .i64 0, .int .i64 0, .slice none 0 0, .slice none 0 0, .slice none 0 0, .int .i64 0, .bool false, .bool false, .bool false] 58)).heap[w.heap.size]? = some (Obj.cells #[.bool m.rd, .bool m.wr, .bool m.ap, .bool m.cr, .bool m.tr, .bool m.ex, .bool m.bi, .bool m.ma] 186)) := hide (((recv_below (w.alloc (Obj.cells #[.bool m.rd, .bool m.wr, .bool m.ap, .bool m.cr, .bool m.tr, .bool m.ex, .bool m.bi, .bool m.ma] 186)) (Obj.cells #[.bool false, .bool false, .int .i64 0, .int .i64 0, .slice none 0 0, .slice none 0 0, .slice none 0 0, .int .i64 0, .bool false, .bool false, .bool false] 58)).block w.heap.size (by simp)).trans (heap_alloc_new w (Obj.cells #[.bool m.rd, .bool m.wr, .bool m.ap, .bool m.cr, .bool m.tr, .bool m.ex, .bool m.bi, .bool m.ma] 186)))
    have HZ0 : Hid (((w.alloc (Obj.cells #[.bool m.rd, .bool m.wr, .bool m.ap, .bool m.cr, .bool m.tr, .bool m.ex, .bool m.bi, .bool m.ma] 186)).alloc (Obj.cells #[.bool false, .bool false, .int .i64 0, .int .i64 0, .slice none 0 0, .slice none 0 0, .slice none 0 0, .int .i64 0, .bool false, .bool false, .bool false] 58)).heap[w.heap.size + 1]? = some (Obj.cells #[.bool false, .bool false, .int .i64 0, .int .i64 0, .slice none 0 0, .slice none 0 0, .slice none 0 0, .int .i64 0, .bool false, .bool false, .bool false] 58)) := hide (by have := heap_alloc_new (w.alloc (Obj.cells #[.bool m.rd, .bool m.wr, .bool m.ap, .bool m.cr, .bool m.tr, .bool m.ex, .bool m.bi, .bool m.ma] 186)) (Obj.cells #[.bool false, .bool false, .int .i64 0, .int .i64 0, .slice none 0 0, .slice none 0 0, .slice none 0 0, .int .i64 0, .bool false, .bool false, .bool false] 58); rw [show (w.alloc (Obj.cells #[.bool m.rd, .bool m.wr, .bool m.ap, .bool m.cr, .bool m.tr, .bool m.ex, .bool m.bi, .bool m.ma] 186)).heap.size = w.heap.size + 1 from Array.size_push ..] at this; exact this)
    generalize (w.alloc (Obj.cells #[.bool m.rd, .bool m.wr, .bool m.ap, .bool m.cr, .bool m.tr, .bool m.ex, .bool m.bi, .bool m.ma] 186)).alloc (Obj.cells #[.bool false, .bool false, .int .i64 0, .int .i64 0, .slice none 0 0, .slice none 0 0, .slice none 0 0, .int .i64 0, .bool false, .bool false, .bool false] 58) = w0 at *
    have hz0 : w.heap.size + 1 < w0.heap.size := (Array.getElem?_eq_some_iff.1 HZ0.out).1
    refine (HC.out w0).mono ?_
    rintro _ w1 ⟨rfl, hB1⟩
    have HZ1 := hide ((hB1.block (w.heap.size + 1) hz0).trans HZ0.out)
    have HM1 := hide ((hB1.block w.heap.size (by omega)).trans HM0.out)
    have p0 := cell_of_row w1 w.heap.size 0 _ _ _ HM1.out
    have p1 := cell_of_row w1 w.heap.size 1 _ _ _ HM1.out
    have z0 := cell_of_row w1 (w.heap.size + 1) 0 _ _ _ HZ1.out
    have z1 := cell_of_row w1 (w.heap.size + 1) 1 _ _ _ HZ1.out
    have z2 := cell_of_row w1 (w.heap.size + 1) 2 _ _ _ HZ1.out
    have z3 := cell_of_row w1 (w.heap.size + 1) 3 _ _ _ HZ1.out
    have z4 := cell_of_row w1 (w.heap.size + 1) 4 _ _ _ HZ1.out
    have z5 := cell_of_row w1 (w.heap.size + 1) 5 _ _ _ HZ1.out
    have z6 := cell_of_row w1 (w.heap.size + 1) 6 _ _ _ HZ1.out
    have z7 := cell_of_row w1 (w.heap.size + 1) 7 _ _ _ HZ1.out
    have z8 := cell_of_row w1 (w.heap.size + 1) 8 _ _ _ HZ1.out
    have z9 := cell_of_row w1 (w.heap.size + 1) 9 _ _ _ HZ1.out
    have z10 := cell_of_row w1 (w.heap.size + 1) 10 _ _ _ HZ1.out
    have u0 := frozen_of_row w1 (w.heap.size + 1) 0 _ _ HZ1.out
    have u1 := frozen_of_row w1 (w.heap.size + 1) 1 _ _ HZ1.out
    have u2 := frozen_of_row w1 (w.heap.size + 1) 2 _ _ HZ1.out
    have u3 := frozen_of_row w1 (w.heap.size + 1) 3 _ _ HZ1.out
    have u4 := frozen_of_row w1 (w.heap.size + 1) 4 _ _ HZ1.out
    have u5 := frozen_of_row w1 (w.heap.size + 1) 5 _ _ HZ1.out
    have u6 := frozen_of_row w1 (w.heap.size + 1) 6 _ _ HZ1.out
    have u7 := frozen_of_row w1 (w.heap.size + 1) 7 _ _ HZ1.out
    have u8 := frozen_of_row w1 (w.heap.size + 1) 8 _ _ HZ1.out
    have u9 := frozen_of_row w1 (w.heap.size + 1) 9 _ _ HZ1.out
    have u10 := frozen_of_row w1 (w.heap.size + 1) 10 _ _ HZ1.out
    simp at p0 p1 z0 z1 z2 z3 z4 z5 z6 z7 z8 z9 z10
    have HB1 := hide (HB0.out.trans (hB1.mono HB0.out.size))
    clear hB1
    go_wp2
    obtain ⟨e1, e2⟩ := st_fill w1 (w.heap.size + 1) ss0 (.slice none 0 0) (.slice none 0 0) (.slice none 0 0) HZ1.out
    refine bodyPost_ret (res_two rfl _ (w.heap.size + 1) rfl ss0 _ _ _ e1) rfl ?_
    exact ⟨rfl, HB1.out.trans (e2.below (fun k e => by omega) HB1.out.size)⟩
end Go.Proofs.YtdmkjbdlidadiaaGreat

/- Streams: the page's example. -/
namespace Go.Proofs.YtdmkjbdlidadiaaGreat
open Go.RowKit

theorem num_st (e : Int) (w : World) : Calls Tryz.prog 22 #[.int .i64 e] w fun r w' => r = .returned (.int .i64 e) ∧ w = w' := by
  go_enter Tryz.func22, Tryz.ntmps22
  go_wp2
  go_ret
  exact ⟨rfl, rfl⟩
def moW : Mo := ⟨false, true, false, true, true, false, false, false⟩
theorem chk_moW : chkM moW = 0 := by decide
theorem SIn.nils {W : World} {P : Nat → Prop} {x : SS} (h1 : x.out = []) (h2 : x.inn = []) (h3 : x.back = []) : SIn W P x (.slice none 0 0) (.slice none 0 0) (.slice none 0 0) := by
  have hno : ∀ k, (Value.slice none 0 0).ownBlock = some k → False := fun k e => by simp [Value.ownBlock] at e
  exact ⟨h1 ▸ Sl.nil, h2 ▸ Sl.nil, h3 ▸ Sl.nil, fun k e => (hno k e).elim, fun k e => (hno k e).elim, fun k e => (hno k e).elim⟩
def xW (mode size : Int) : SS := ⟨false, true, mode, size, [], [], [], 0, false, false, false⟩
theorem new_W (mode size : Int) : SS.new moW mode size = if 1 ≤ mode ∧ mode ≤ 3 then (if 1 ≤ size ∧ size ≤ 65536 then (xW mode size, 0) else (ss0, 4)) else (ss0, 1) := by
  unfold SS.new
  rw [if_pos chk_moW]
  rfl
def exA : SS := ⟨false, true, 3, 2, [97], [], [], 2, false, false, false⟩
def exB : SS := ⟨false, true, 3, 2, [], [], [], 2, false, false, false⟩
def exC : SS := ⟨false, true, 3, 2, [99], [], [], 2, false, false, false⟩
def exD : SS := ⟨false, true, 3, 2, [], [], [], 0, false, false, true⟩
theorem ex_a : (xW 3 2).put msR ⟨[], 1048576, 0⟩ 97 = (exA, 0, ⟨[], 1048576, 0⟩) := by kernel_rfl
theorem ex_b : exA.put msR ⟨[], 1048576, 0⟩ 98 = (exB, 0, ⟨[97, 98], 1048576, 2⟩) := by kernel_rfl
theorem ex_c : exB.put msR ⟨[97, 98], 1048576, 2⟩ 99 = (exC, 0, ⟨[97, 98], 1048576, 2⟩) := by kernel_rfl
theorem ex_d : exC.close msR ⟨[97, 98], 1048576, 2⟩ = (exD, 0, ⟨[97, 98, 99], 1048576, 3⟩) := by kernel_rfl
set_option maxRecDepth 100000 in
set_option maxHeartbeats 4000000 in
theorem salive_any (w : World) : Calls Tryz.prog 20 #[] w fun e w' => e = .returned (.bool true) ∧ Below w.heap.size w w' := by
  go_enter Tryz.func20, Tryz.ntmps20
  go_wp2_with fail
  refine (newGrowing_good (.slice none 0 0) [] _ (.inl ⟨rfl, rfl⟩) (by simp)).mono ?_
  rintro _ w1 ⟨g, rfl, hM, hB⟩
  have hN := fun W => sNew_any moW 3 2 W
  rw [new_W, if_pos (by decide), if_pos (by decide)] at hN
  simp only at hN
  unfold mv at hN
  have HN := hide hN
  have HM := hide hM
  have HB := hide hB
  clear hN hM hB
  go_wp2_with fail
  refine (HN.out _).mono ?_
  rintro _ w2 ⟨rfl, hB2⟩
  have HM2 := hide (HM.out.below hB2)
  have HB2 := hide (HB.out.trans (hB2.mono HB.out.size))
  clear hB2 HM HB
  go_wp2_with (first | (go_at_call 22; refine (num_st _ _).mono ?_; rintro _ _ ⟨rfl, rfl⟩) | fail)
  have HS2 := hide (StAt.new w2 (xW 3 2) (.slice none 0 0) (.slice none 0 0) (.slice none 0 0))
  have HB3 := hide (recv_below w2 (Obj.cells #[.bool (xW 3 2).rd, .bool (xW 3 2).wt, .int .i64 (xW 3 2).mode, .int .i64 (xW 3 2).size, .slice none 0 0, .slice none 0 0, .slice none 0 0, .int .i64 (xW 3 2).dir, .bool (xW 3 2).fin, .bool (xW 3 2).bad, .bool (xW 3 2).closed] 58))
  have HLV : Hid (LV (fun w O S => MemAt w O g S) (w2.alloc (Obj.cells #[.bool (xW 3 2).rd, .bool (xW 3 2).wt, .int .i64 (xW 3 2).mode, .int .i64 (xW 3 2).size, .slice none 0 0, .slice none 0 0, .slice none 0 0, .int .i64 (xW 3 2).dir, .bool (xW 3 2).fin, .bool (xW 3 2).bad, .bool (xW 3 2).closed] 58)) w.heap.size w2.heap.size (fun k => w.heap.size ≤ k ∧ k < w2.heap.size) (xW 3 2) ⟨[], 1048576, 0⟩ (.slice none 0 0) (.slice none 0 0) (.slice none 0 0)) := hide
    ⟨HS2.out, SIn.nils rfl rfl rfl, HM2.out.trim.below HB3.out, fun j e => Nat.lt_of_lt_of_le e.2 HB3.out.size, fun j e => e.1, fun e => by omega, HB2.out.size⟩
  have HTT : Hid (Turned (fun k => w.heap.size ≤ k) w (w2.alloc (Obj.cells #[.bool (xW 3 2).rd, .bool (xW 3 2).wt, .int .i64 (xW 3 2).mode, .int .i64 (xW 3 2).size, .slice none 0 0, .slice none 0 0, .slice none 0 0, .int .i64 (xW 3 2).dir, .bool (xW 3 2).fin, .bool (xW 3 2).bad, .bool (xW 3 2).closed] 58))) := hide ((Turned.of_below HB2.out).trans (Turned.of_below (S := fun k => w.heap.size ≤ k) HB3.out) (fun _ _ e => e))
  generalize w2.alloc (Obj.cells #[.bool (xW 3 2).rd, .bool (xW 3 2).wt, .int .i64 (xW 3 2).mode, .int .i64 (xW 3 2).size, .slice none 0 0, .slice none 0 0, .slice none 0 0, .int .i64 (xW 3 2).dir, .bool (xW 3 2).fin, .bool (xW 3 2).bad, .bool (xW 3 2).closed] 58) = w3 at *
  have HSZ := hide HTT.out.size
  clear HS2 HB3 HM2 HN
  have hp := sPut_any (gro_raw g) (fun s => gmem_o g s) (bears_true msR) 97 HLV.out.ls HLV.out.raw HLV.out.ol trivial (by decide) (by decide) (by decide)
  rw [ex_a] at hp
  simp only at hp
  have HP := hide hp
  clear hp
  refine HP.out.mono ?_
  rintro _ w4 ⟨o', i', b', rfl, hS⟩
  obtain ⟨a1, k1, rfl, -⟩ := hS.choose_spec.1.so
  obtain ⟨a2, k2, rfl, -⟩ := hS.choose_spec.1.si
  obtain ⟨a3, k3, rfl, -⟩ := hS.choose_spec.1.sb
  obtain ⟨hst, ⟨O4, hl⟩, ht⟩ := LV.next (fun s => gmem_o g s) HLV.out HSZ.out hS
  have HLV4 := hide hl
  have HT4 := hide (HTT.out.trans ht (fun _ _ e => e))
  obtain ⟨c0, c1, c2, c3, c4, c5, c6, c7, c8, c9, c10⟩ := hst.cs
  have f0 := hst.soft 0
  have f1 := hst.soft 1
  have f2 := hst.soft 2
  have f3 := hst.soft 3
  have f4 := hst.soft 4
  have f5 := hst.soft 5
  have f6 := hst.soft 6
  have f7 := hst.soft 7
  have f8 := hst.soft 8
  have f9 := hst.soft 9
  have f10 := hst.soft 10
  clear hS hst hl ht HP
  go_wp2_with fail
  unfold filled at HLV4 HT4
  generalize (((((((((((w4.setCell ⟨w2.heap.size, 0, none⟩ (.bool exA.rd)).setCell ⟨w2.heap.size, 1, none⟩ (.bool exA.wt)).setCell ⟨w2.heap.size, 2, none⟩ (.int .i64 exA.mode)).setCell ⟨w2.heap.size, 3, none⟩ (.int .i64 exA.size)).setCell ⟨w2.heap.size, 4, none⟩ (.slice a1 exA.out.length k1)).setCell ⟨w2.heap.size, 5, none⟩ (.slice a2 exA.inn.length k2)).setCell ⟨w2.heap.size, 6, none⟩ (.slice a3 exA.back.length k3)).setCell ⟨w2.heap.size, 7, none⟩ (.int .i64 exA.dir)).setCell ⟨w2.heap.size, 8, none⟩ (.bool exA.fin)).setCell ⟨w2.heap.size, 9, none⟩ (.bool exA.bad)).setCell ⟨w2.heap.size, 10, none⟩ (.bool exA.closed)) = w4' at *
  have HTT := HT4
  have HSZ := hide HTT.out.size
  clear c0 c1 c2 c3 c4 c5 c6 c7 c8 c9 c10 f0 f1 f2 f3 f4 f5 f6 f7 f8 f9 f10 HT4
  refine (gmbytes_any _ g _ _ HLV4.out.raw).mono ?_
  rintro _ w5 ⟨v5, rfl, hO5, hB5⟩
  obtain ⟨a5, k5, rfl⟩ := owns_slice hO5
  have HLV5 := hide (HLV4.out.below (fun s => gmem_o g s) hB5)
  have HT5 := hide (HTT.out.trans (Turned.of_below (S := fun k => w.heap.size ≤ k) hB5) (fun _ _ e => e))
  clear HTT HSZ
  have HTT := HT5
  have HSZ := hide HTT.out.size
  obtain ⟨c0, c1, c2, c3, c4, c5, c6, c7, c8, c9, c10⟩ := HLV5.out.st.cs
  clear hO5 hB5 HLV4
  simp only [List.length_nil]
  go_wp2_with fail
  clear c0 c1 c2 c3 c4 c5 c6 c7 c8 c9 c10
  have hp := sPut_any (gro_raw g) (fun s => gmem_o g s) (bears_true msR) 98 HLV5.out.ls HLV5.out.raw HLV5.out.ol trivial (by decide) (by decide) (by decide)
  rw [ex_b] at hp
  simp only at hp
  have HP := hide hp
  clear hp
  refine HP.out.mono ?_
  rintro _ w6 ⟨o', i', b', rfl, hS⟩
  obtain ⟨a1, k1, rfl, -⟩ := hS.choose_spec.1.so
  obtain ⟨a2, k2, rfl, -⟩ := hS.choose_spec.1.si
  obtain ⟨a3, k3, rfl, -⟩ := hS.choose_spec.1.sb
  obtain ⟨hst, ⟨O6, hl⟩, ht⟩ := LV.next (fun s => gmem_o g s) HLV5.out HSZ.out hS
  have HLV6 := hide hl
  have HT6 := hide (HTT.out.trans ht (fun _ _ e => e))
  obtain ⟨c0, c1, c2, c3, c4, c5, c6, c7, c8, c9, c10⟩ := hst.cs
  have f0 := hst.soft 0
  have f1 := hst.soft 1
  have f2 := hst.soft 2
  have f3 := hst.soft 3
  have f4 := hst.soft 4
  have f5 := hst.soft 5
  have f6 := hst.soft 6
  have f7 := hst.soft 7
  have f8 := hst.soft 8
  have f9 := hst.soft 9
  have f10 := hst.soft 10
  clear hS hst hl ht HP
  go_wp2_with fail
  unfold filled at HLV6 HT6
  generalize (((((((((((w6.setCell ⟨w2.heap.size, 0, none⟩ (.bool exB.rd)).setCell ⟨w2.heap.size, 1, none⟩ (.bool exB.wt)).setCell ⟨w2.heap.size, 2, none⟩ (.int .i64 exB.mode)).setCell ⟨w2.heap.size, 3, none⟩ (.int .i64 exB.size)).setCell ⟨w2.heap.size, 4, none⟩ (.slice a1 exB.out.length k1)).setCell ⟨w2.heap.size, 5, none⟩ (.slice a2 exB.inn.length k2)).setCell ⟨w2.heap.size, 6, none⟩ (.slice a3 exB.back.length k3)).setCell ⟨w2.heap.size, 7, none⟩ (.int .i64 exB.dir)).setCell ⟨w2.heap.size, 8, none⟩ (.bool exB.fin)).setCell ⟨w2.heap.size, 9, none⟩ (.bool exB.bad)).setCell ⟨w2.heap.size, 10, none⟩ (.bool exB.closed)) = w6' at *
  have HTT := HT6
  have HSZ := hide HTT.out.size
  clear c0 c1 c2 c3 c4 c5 c6 c7 c8 c9 c10 f0 f1 f2 f3 f4 f5 f6 f7 f8 f9 f10 HT6
  have hp := sPut_any (gro_raw g) (fun s => gmem_o g s) (bears_true msR) 99 HLV6.out.ls HLV6.out.raw HLV6.out.ol trivial (by decide) (by decide) (by decide)
  rw [ex_c] at hp
  simp only at hp
  have HP := hide hp
  clear hp
  refine HP.out.mono ?_
  rintro _ w7 ⟨o', i', b', rfl, hS⟩
  obtain ⟨a1, k1, rfl, -⟩ := hS.choose_spec.1.so
  obtain ⟨a2, k2, rfl, -⟩ := hS.choose_spec.1.si
  obtain ⟨a3, k3, rfl, -⟩ := hS.choose_spec.1.sb
  obtain ⟨hst, ⟨O7, hl⟩, ht⟩ := LV.next (fun s => gmem_o g s) HLV6.out HSZ.out hS
  have HLV7 := hide hl
  have HT7 := hide (HTT.out.trans ht (fun _ _ e => e))
  obtain ⟨c0, c1, c2, c3, c4, c5, c6, c7, c8, c9, c10⟩ := hst.cs
  have f0 := hst.soft 0
  have f1 := hst.soft 1
  have f2 := hst.soft 2
  have f3 := hst.soft 3
  have f4 := hst.soft 4
  have f5 := hst.soft 5
  have f6 := hst.soft 6
  have f7 := hst.soft 7
  have f8 := hst.soft 8
  have f9 := hst.soft 9
  have f10 := hst.soft 10
  clear hS hst hl ht HP
  go_wp2_with fail
  unfold filled at HLV7 HT7
  generalize (((((((((((w7.setCell ⟨w2.heap.size, 0, none⟩ (.bool exC.rd)).setCell ⟨w2.heap.size, 1, none⟩ (.bool exC.wt)).setCell ⟨w2.heap.size, 2, none⟩ (.int .i64 exC.mode)).setCell ⟨w2.heap.size, 3, none⟩ (.int .i64 exC.size)).setCell ⟨w2.heap.size, 4, none⟩ (.slice a1 exC.out.length k1)).setCell ⟨w2.heap.size, 5, none⟩ (.slice a2 exC.inn.length k2)).setCell ⟨w2.heap.size, 6, none⟩ (.slice a3 exC.back.length k3)).setCell ⟨w2.heap.size, 7, none⟩ (.int .i64 exC.dir)).setCell ⟨w2.heap.size, 8, none⟩ (.bool exC.fin)).setCell ⟨w2.heap.size, 9, none⟩ (.bool exC.bad)).setCell ⟨w2.heap.size, 10, none⟩ (.bool exC.closed)) = w7' at *
  have HTT := HT7
  have HSZ := hide HTT.out.size
  clear c0 c1 c2 c3 c4 c5 c6 c7 c8 c9 c10 f0 f1 f2 f3 f4 f5 f6 f7 f8 f9 f10 HT7
  have hp := sClose_any (gro_raw g) (fun s => gmem_o g s) (bears_true msR) HLV7.out.ls HLV7.out.raw HLV7.out.ol trivial (by decide) (by decide) (by decide)
  rw [ex_d] at hp
  simp only at hp
  have HP := hide hp
  clear hp
  refine HP.out.mono ?_
  rintro _ w8 ⟨o', i', b', rfl, hS⟩
  obtain ⟨a1, k1, rfl, -⟩ := hS.choose_spec.1.so
  obtain ⟨a2, k2, rfl, -⟩ := hS.choose_spec.1.si
  obtain ⟨a3, k3, rfl, -⟩ := hS.choose_spec.1.sb
  obtain ⟨hst, ⟨O8, hl⟩, ht⟩ := LV.next (fun s => gmem_o g s) HLV7.out HSZ.out hS
  have HLV8 := hide hl
  have HT8 := hide (HTT.out.trans ht (fun _ _ e => e))
  obtain ⟨c0, c1, c2, c3, c4, c5, c6, c7, c8, c9, c10⟩ := hst.cs
  have f0 := hst.soft 0
  have f1 := hst.soft 1
  have f2 := hst.soft 2
  have f3 := hst.soft 3
  have f4 := hst.soft 4
  have f5 := hst.soft 5
  have f6 := hst.soft 6
  have f7 := hst.soft 7
  have f8 := hst.soft 8
  have f9 := hst.soft 9
  have f10 := hst.soft 10
  clear hS hst hl ht HP
  go_wp2_with fail
  unfold filled at HLV8 HT8
  generalize (((((((((((w8.setCell ⟨w2.heap.size, 0, none⟩ (.bool exD.rd)).setCell ⟨w2.heap.size, 1, none⟩ (.bool exD.wt)).setCell ⟨w2.heap.size, 2, none⟩ (.int .i64 exD.mode)).setCell ⟨w2.heap.size, 3, none⟩ (.int .i64 exD.size)).setCell ⟨w2.heap.size, 4, none⟩ (.slice a1 exD.out.length k1)).setCell ⟨w2.heap.size, 5, none⟩ (.slice a2 exD.inn.length k2)).setCell ⟨w2.heap.size, 6, none⟩ (.slice a3 exD.back.length k3)).setCell ⟨w2.heap.size, 7, none⟩ (.int .i64 exD.dir)).setCell ⟨w2.heap.size, 8, none⟩ (.bool exD.fin)).setCell ⟨w2.heap.size, 9, none⟩ (.bool exD.bad)).setCell ⟨w2.heap.size, 10, none⟩ (.bool exD.closed)) = w8' at *
  have HTT := HT8
  have HSZ := hide HTT.out.size
  clear c0 c1 c2 c3 c4 c5 c6 c7 c8 c9 c10 f0 f1 f2 f3 f4 f5 f6 f7 f8 f9 f10 HT8
  refine (num_st _ _).mono ?_
  rintro _ _ ⟨rfl, rfl⟩
  go_wp2_with (first | (go_at_call 22; refine (num_st _ _).mono ?_; rintro _ _ ⟨rfl, rfl⟩) | fail)
  refine (gmbytes_any _ g _ _ HLV8.out.raw).mono ?_
  rintro _ w9 ⟨v9, rfl, hO9, hB9⟩
  obtain ⟨a9, k9, rfl⟩ := owns_slice hO9
  have s9 := owns_string hO9
  have c10 : w9.cell? ⟨w2.heap.size, 10, none⟩ = some (.bool true) := (HLV8.out.st.below hB9).cs.2.2.2.2.2.2.2.2.2.2
  have HB9 := hide ((HTT.out.trans (Turned.of_below (S := fun k => w.heap.size ≤ k) hB9) (fun _ _ e => e)).below (fun k e => e) (Nat.le_refl _))
  clear hO9 hB9 HLV8
  simp only [List.length_cons, List.length_nil, Nat.reduceAdd] at s9 ⊢
  go_wp2_with (first | (go_at_call 22; refine (num_st _ _).mono ?_; rintro _ _ ⟨rfl, rfl⟩) | fail)
  go_ret
  exact ⟨rfl, HB9.out⟩
end Go.Proofs.YtdmkjbdlidadiaaGreat

/- A plant's Raw is one that retry and stream may use. -/
namespace Go.Proofs.YtdmkjbdlidadiaaGreat
open Go.RowKit

theorem pk_raw {σ : Type} {D : RD σ} {T : TypeId} {v : Value} {g mb : Nat} {fr fw fs : FuncId} {A B : σ → World → (Nat → Prop) → Prop} {ok : Nat → σ → Prop} {Md : World → Prop} (K : PlK D T v g mb fr fw fs A B ok Md) : RawM D.raw T v fr fw (ok 1) (ok 1) (fun w O s => A s w O) where
  mread := K.mread
  mwrite := K.mwrite
  cread := K.cread
  cwrite := K.cwrite
  keep h h1 h2 := (K.oA _).keep h h1 h2
  few n h := Nat.le_trans (K.few (n : Int) h) (by decide)
  read n h ho _ _ := (K.pr (n : Int) h ho).mono fun e w' h2 => view_own h2
  write bs a c h ho hb hc _ h2 hap := (K.pw bs a c h ho hb hc h2 (fun _ => hap)).mono fun e w' ⟨h1, O', h3, h4, h5⟩ => ⟨h1, O', h3, h4, h5⟩
end Go.Proofs.YtdmkjbdlidadiaaGreat

/- What the proof stands on, part 20: the contracts of the program's calls that it reaches. -/
import Derived.Test.YtdmkjbdlidadiaaGreatKP19
import Derived.KernelRfl
import Derived.Lib.SlBytesConst
import Derived.Deep.RegionHeld3
import Derived.Deep.Cut
/- Streams: New. -/
namespace Go.Proofs.YtdmkjbdlidadiaaGreat
open Go.RowKit

def ss0 : SS := ⟨false, false, 0, 0, [], [], [], 0, false, false, false⟩
def SS.new (m : Mo) (mode size : Int) : SS × Int :=
  if chkM m = 0 then (if 1 ≤ mode ∧ mode ≤ 3 then (if 1 ≤ size ∧ size ≤ 65536 then (⟨m.rd, m.wr, mode, size, [], [], [], 0, false, false, false⟩, 0) else (ss0, 4)) else (ss0, 1)) else (ss0, chkM m)
set_option maxRecDepth 100000 in
set_option maxHeartbeats 2000000 in
theorem sNew_any (m : Mo) (mode size : Int) (w : World) :
    Calls Tryz.prog 102 #[mv m, .int .i64 mode, .int .i64 size] w fun e w' => e = .returned (.tuple #[.agg #[.bool (SS.new m mode size).1.rd, .bool (SS.new m mode size).1.wt, .int .i64 (SS.new m mode size).1.mode, .int .i64 (SS.new m mode size).1.size, .slice none 0 0, .slice none 0 0, .slice none 0 0, .int .i64 (SS.new m mode size).1.dir, .bool (SS.new m mode size).1.fin, .bool (SS.new m mode size).1.bad, .bool (SS.new m mode size).1.closed], .int .i64 (SS.new m mode size).2]) ∧ Below w.heap.size w w' := by
  have HC := hide (ocheck_any m)
  generalize hq : SS.new m mode size = q
  obtain ⟨qx, qe⟩ := q
  unfold SS.new at hq
  generalize chkM m = ck at *
  unfold mv at *
  by_cases h0 : ck = 0
  · subst h0
    rw [if_pos rfl] at hq
    by_cases h1 : 1 ≤ mode ∧ mode ≤ 3
    · rw [if_pos h1] at hq
      have HI : Hid ((decide (1 ≤ mode) && decide (mode ≤ 3)) = true) := hide (by rw [decide_eq_true h1.1, decide_eq_true h1.2]; rfl)
      by_cases h2 : 1 ≤ size ∧ size ≤ 65536
      · rw [if_pos h2] at hq
        have HJ : Hid ((decide (1 ≤ size) && decide (size ≤ 65536)) = true) := hide (by rw [decide_eq_true h2.1, decide_eq_true h2.2]; rfl)
        obtain ⟨rfl, rfl⟩ : (⟨m.rd, m.wr, mode, size, [], [], [], 0, false, false, false⟩ : SS) = qx ∧ 0 = qe := by simpa using hq
        clear hq h1 h2
        go_enter Tryz.func102, Tryz.ntmps102
        go_wp2_with fail
        have HB0 := hide ((recv_below w (Obj.cells #[.bool m.rd, .bool m.wr, .bool m.ap, .bool m.cr, .bool m.tr, .bool m.ex, .bool m.bi, .bool m.ma] 186)).trans ((recv_below (w.alloc (Obj.cells #[.bool m.rd, .bool m.wr, .bool m.ap, .bool m.cr, .bool m.tr, .bool m.ex, .bool m.bi, .bool m.ma] 186)) (Obj.cells #[.bool false, .bool false, .int .i64 0, .int .i64 0, .slice none 0 0, .slice none 0 0, .slice none 0 0, .int .i64 0, .bool false, .bool false, .bool false] 58)).mono (recv_below w (Obj.cells #[.bool m.rd, .bool m.wr, .bool m.ap, .bool m.cr, .bool m.tr, .bool m.ex, .bool m.bi, .bool m.ma] 186)).size))
        have HM0 : Hid (((w.alloc (Obj.cells #[.bool m.rd, .bool m.wr, .bool m.ap, .bool m.cr, .bool m.tr, .bool m.ex, .bool m.bi, .bool m.ma] 186)).alloc (Obj.cells #[.bool false, .bool false, .int .i64 0, .int .i64 0, .slice none 0 0, .slice none 0 0, .slice none 0 0, .int .i64 0, .bool false, .bool false, .bool false] 58)).heap[w.heap.size]? = some (Obj.cells #[.bool m.rd, .bool m.wr, .bool m.ap, .bool m.cr, .bool m.tr, .bool m.ex, .bool m.bi, .bool m.ma] 186)) := hide (((recv_below (w.alloc (Obj.cells #[.bool m.rd, .bool m.wr, .bool m.ap, .bool m.cr, .bool m.tr, .bool m.ex, .bool m.bi, .bool m.ma] 186)) (Obj.cells #[.bool false, .bool false, .int .i64 0, .int .i64 0, .slice none 0 0, .slice none 0 0, .slice none 0 0, .int .i64 0, .bool false, .bool false, .bool false] 58)).block w.heap.size (by simp)).trans (heap_alloc_new w (Obj.cells #[.bool m.rd, .bool m.wr, .bool m.ap, .bool m.cr, .bool m.tr, .bool m.ex, .bool m.bi, .bool m.ma] 186)))
        have HZ0 : Hid (((w.alloc (Obj.cells #[.bool m.rd, .bool m.wr, .bool m.ap, .bool m.cr, .bool m.tr, .bool m.ex, .bool m.bi, .bool m.ma] 186)).alloc (Obj.cells #[.bool false, .bool false, .int .i64 0, .int .i64 0, .slice none 0 0, .slice none 0 0, .slice none 0 0, .int .i64 0, .bool false, .bool false, .bool false] 58)).heap[w.heap.size + 1]? = some (Obj.cells #[.bool false, .bool false, .int .i64 0, .int .i64 0, .slice none 0 0, .slice none 0 0, .slice none 0 0, .int .i64 0, .bool false, .bool false, .bool false] 58)) := hide (by have := heap_alloc_new (w.alloc (Obj.cells #[.bool m.rd, .bool m.wr, .bool m.ap, .bool m.cr, .bool m.tr, .bool m.ex, .bool m.bi, .bool m.ma] 186)) (Obj.cells #[.bool false, .bool false, .int .i64 0, .int .i64 0, .slice none 0 0, .slice none 0 0, .slice none 0 0, .int .i64 0, .bool false, .bool false, .bool false] 58); rw [show (w.alloc (Obj.cells #[.bool m.rd, .bool m.wr, .bool m.ap, .bool m.cr, .bool m.tr, .bool m.ex, .bool m.bi, .bool m.ma] 186)).heap.size = w.heap.size + 1 from Array.size_push ..] at this; exact this)
        generalize (w.alloc (Obj.cells #[.bool m.rd, .bool m.wr, .bool m.ap, .bool m.cr, .bool m.tr, .bool m.ex, .bool m.bi, .bool m.ma] 186)).alloc (Obj.cells #[.bool false, .bool false, .int .i64 0, .int .i64 0, .slice none 0 0, .slice none 0 0, .slice none 0 0, .int .i64 0, .bool false, .bool false, .bool false] 58) = w0 at *
        have hz0 : w.heap.size + 1 < w0.heap.size := (Array.getElem?_eq_some_iff.1 HZ0.out).1
        refine (HC.out w0).mono ?_
        rintro _ w1 ⟨rfl, hB1⟩
        have HZ1 := hide ((hB1.block (w.heap.size + 1) hz0).trans HZ0.out)
        have HM1 := hide ((hB1.block w.heap.size (by omega)).trans HM0.out)
        have p0 := cell_of_row w1 w.heap.size 0 _ _ _ HM1.out
        have p1 := cell_of_row w1 w.heap.size 1 _ _ _ HM1.out
        have z0 := cell_of_row w1 (w.heap.size + 1) 0 _ _ _ HZ1.out
        have z1 := cell_of_row w1 (w.heap.size + 1) 1 _ _ _ HZ1.out
        have z2 := cell_of_row w1 (w.heap.size + 1) 2 _ _ _ HZ1.out
        have z3 := cell_of_row w1 (w.heap.size + 1) 3 _ _ _ HZ1.out
        have z4 := cell_of_row w1 (w.heap.size + 1) 4 _ _ _ HZ1.out
        have z5 := cell_of_row w1 (w.heap.size + 1) 5 _ _ _ HZ1.out
        have z6 := cell_of_row w1 (w.heap.size + 1) 6 _ _ _ HZ1.out
        have z7 := cell_of_row w1 (w.heap.size + 1) 7 _ _ _ HZ1.out
        have z8 := cell_of_row w1 (w.heap.size + 1) 8 _ _ _ HZ1.out
        have z9 := cell_of_row w1 (w.heap.size + 1) 9 _ _ _ HZ1.out
        have z10 := cell_of_row w1 (w.heap.size + 1) 10 _ _ _ HZ1.out
        have u0 := frozen_of_row w1 (w.heap.size + 1) 0 _ _ HZ1.out
        have u1 := frozen_of_row w1 (w.heap.size + 1) 1 _ _ HZ1.out
        have u2 := frozen_of_row w1 (w.heap.size + 1) 2 _ _ HZ1.out
        have u3 := frozen_of_row w1 (w.heap.size + 1) 3 _ _ HZ1.out
        have u4 := frozen_of_row w1 (w.heap.size + 1) 4 _ _ HZ1.out
        have u5 := frozen_of_row w1 (w.heap.size + 1) 5 _ _ HZ1.out
        have u6 := frozen_of_row w1 (w.heap.size + 1) 6 _ _ HZ1.out
        have u7 := frozen_of_row w1 (w.heap.size + 1) 7 _ _ HZ1.out
        have u8 := frozen_of_row w1 (w.heap.size + 1) 8 _ _ HZ1.out
        have u9 := frozen_of_row w1 (w.heap.size + 1) 9 _ _ HZ1.out
        have u10 := frozen_of_row w1 (w.heap.size + 1) 10 _ _ HZ1.out
        simp at p0 p1 z0 z1 z2 z3 z4 z5 z6 z7 z8 z9 z10
        have HB1 := hide (HB0.out.trans (hB1.mono HB0.out.size))
        clear hB1
        go_wp2_with (first | (go_at_call 188; refine (isMode_any _ _).mono ?_; rintro _ _ ⟨rfl, rfl⟩; rw [HI.out]) | (go_at_call 189; refine (isSize_any _ _).mono ?_; rintro _ _ ⟨rfl, rfl⟩; rw [HJ.out]) | fail)
        obtain ⟨e1, e2⟩ := st_fill w1 (w.heap.size + 1) (⟨m.rd, m.wr, mode, size, [], [], [], 0, false, false, false⟩ : SS) (.slice none 0 0) (.slice none 0 0) (.slice none 0 0) HZ1.out
        refine bodyPost_ret (res_two rfl _ (w.heap.size + 1) rfl (⟨m.rd, m.wr, mode, size, [], [], [], 0, false, false, false⟩ : SS) _ _ _ e1) rfl ?_
        exact ⟨rfl, HB1.out.trans (e2.below (fun k e => by omega) HB1.out.size)⟩
      · rw [if_neg h2] at hq
        have HJ : Hid ((decide (1 ≤ size) && decide (size ≤ 65536)) = false) := hide (by
          by_cases h3 : 1 ≤ size
          · rw [decide_eq_false (p := size ≤ 65536) (fun e => h2 ⟨h3, e⟩), Bool.and_false]
          · rw [decide_eq_false h3]; rfl)
        obtain ⟨rfl, rfl⟩ : ss0 = qx ∧ 4 = qe := by simpa using hq
        clear hq h1 h2
        go_enter Tryz.func102, Tryz.ntmps102
        go_wp2_with fail
        have HB0 := hide ((recv_below w (Obj.cells #[.bool m.rd, .bool m.wr, .bool m.ap, .bool m.cr, .bool m.tr, .bool m.ex, .bool m.bi, .bool m.ma] 186)).trans ((recv_below (w.alloc (Obj.cells #[.bool m.rd, .bool m.wr, .bool m.ap, .bool m.cr, .bool m.tr, .bool m.ex, .bool m.bi, .bool m.ma] 186)) (Obj.cells #[.bool false, .bool false, .int .i64 0, .int .i64 0, .slice none 0 0, .slice none 0 0, .slice none 0 0, .int .i64 0, .bool false, .bool false, .bool false] 58)).mono (recv_below w (Obj.cells #[.bool m.rd, .bool m.wr, .bool m.ap, .bool m.cr, .bool m.tr, .bool m.ex, .bool m.bi, .bool m.ma] 186)).size))
        have HM0 : Hid (((w.alloc (Obj.cells #[.bool m.rd, .bool m.wr, .bool m.ap, .bool m.cr, .bool m.tr, .bool m.ex, .bool m.bi, .bool m.ma] 186)).alloc (Obj.cells #[.bool false, .bool false, .int .i64 0, .int .i64 0, .slice none 0 0, .slice none 0 0, .slice none 0 0, .int .i64 0, .bool false, .bool false, .bool false] 58)).heap[w.heap.size]? = some (Obj.cells #[.bool m.rd, .bool m.wr, .bool m.ap, .bool m.cr, .bool m.tr, .bool m.ex, .bool m.bi, .bool m.ma] 186)) := hide (((recv_below (w.alloc (Obj.cells #[.bool m.rd, .bool m.wr, .bool m.ap, .bool m.cr, .bool m.tr, .bool m.ex, .bool m.bi, .bool m.ma] 186)) (Obj.cells #[.bool false, .bool false, .int .i64 0, .int .i64 0, .slice none 0 0, .slice none 0 0, .slice none 0 0, .int .i64 0, .bool false, .bool false, .bool false] 58)).block w.heap.size (by simp)).trans (heap_alloc_new w (Obj.cells #[.bool m.rd, .bool m.wr, .bool m.ap, .bool m.cr, .bool m.tr, .bool m.ex, .bool m.bi, .bool m.ma] 186)))
        have HZ0 : Hid (((w.alloc (Obj.cells #[.bool m.rd, .bool m.wr, .bool m.ap, .bool m.cr, .bool m.tr, .bool m.ex, .bool m.bi, .bool m.ma] 186)).alloc (Obj.cells #[.bool false, .bool false, .int .i64 0, .int .i64 0, .slice none 0 0, .slice none 0 0, .slice none 0 0, .int .i64 0, .bool false, .bool false, .bool false] 58)).heap[w.heap.size + 1]? = some (Obj.cells #[.bool false, .bool false, .int .i64 0, .int .i64 0, .slice none 0 0, .slice none 0 0, .slice none 0 0, .int .i64 0, .bool false, .bool false, .bool false] 58)) := hide (by have := heap_alloc_new (w.alloc (Obj.cells #[.bool m.rd, .bool m.wr, .bool m.ap, .bool m.cr, .bool m.tr, .bool m.ex, .bool m.bi, .bool m.ma] 186)) (Obj.cells #[.bool false, .bool false, .int .i64 0, .int .i64 0, .slice none 0 0, .slice none 0 0, .slice none 0 0, .int .i64 0, .bool false, .bool false, .bool false] 58); rw [show (w.alloc (Obj.cells #[.bool m.rd, .bool m.wr, .bool m.ap, .bool m.cr, .bool m.tr, .bool m.ex, .bool m.bi, .bool m.ma] 186)).heap.size = w.heap.size + 1 from Array.size_push ..] at this; exact this)
        generalize (w.alloc (Obj.cells #[.bool m.rd, .bool m.wr, .bool m.ap, .bool m.cr, .bool m.tr, .bool m.ex, .bool m.bi, .bool m.ma] 186)).alloc (Obj.cells #[.bool false, .bool false, .int .i64 0, .int .i64 0, .slice none 0 0, .slice none 0 0, .slice none 0 0, .int .i64 0, .bool false, .bool false, .bool false] 58) = w0 at *
        have hz0 : w.heap.size + 1 < w0.heap.size := (Array.getElem?_eq_some_iff.1 HZ0.out).1
        refine (HC.out w0).mono ?_
        rintro _ w1 ⟨rfl, hB1⟩
        have HZ1 := hide ((hB1.block (w.heap.size + 1) hz0).trans HZ0.out)
        have HM1 := hide ((hB1.block w.heap.size (by omega)).trans HM0.out)
        have p0 := cell_of_row w1 w.heap.size 0 _ _ _ HM1.out
        have p1 := cell_of_row w1 w.heap.size 1 _ _ _ HM1.out
        have z0 := cell_of_row w1 (w.heap.size + 1) 0 _ _ _ HZ1.out
        have z1 := cell_of_row w1 (w.heap.size + 1) 1 _ _ _ HZ1.out
        have z2 := cell_of_row w1 (w.heap.size + 1) 2 _ _ _ HZ1.out
        have z3 := cell_of_row w1 (w.heap.size + 1) 3 _ _ _ HZ1.out
        have z4 := cell_of_row w1 (w.heap.size + 1) 4 _ _ _ HZ1.out
        have z5 := cell_of_row w1 (w.heap.size + 1) 5 _ _ _ HZ1.out
        have z6 := cell_of_row w1 (w.heap.size + 1) 6 _ _ _ HZ1.out
        have z7 := cell_of_row w1 (w.heap.size + 1) 7 _ _ _ HZ1.out
        have z8 := cell_of_row w1 (w.heap.size + 1) 8 _ _ _ HZ1.out
        have z9 := cell_of_row w1 (w.heap.size + 1) 9 _ _ _ HZ1.out
        have z10 := cell_of_row w1 (w.heap.size + 1) 10 _ _ _ HZ1.out
        have u0 := frozen_of_row w1 (w.heap.size + 1) 0 _ _ HZ1.out
        have u1 := frozen_of_row w1 (w.heap.size + 1) 1 _ _ HZ1.out
        have u2 := frozen_of_row w1 (w.heap.size + 1) 2 _ _ HZ1.out
        have u3 := frozen_of_row w1 (w.heap.size + 1) 3 _ _ HZ1.out
        have u4 := frozen_of_row w1 (w.heap.size + 1) 4 _ _ HZ1.out
        have u5 := frozen_of_row w1 (w.heap.size + 1) 5 _ _ HZ1.out
        have u6 := frozen_of_row w1 (w.heap.size + 1) 6 _ _ HZ1.out
        have u7 := frozen_of_row w1 (w.heap.size + 1) 7 _ _ HZ1.out
        have u8 := frozen_of_row w1 (w.heap.size + 1) 8 _ _ HZ1.out
        have u9 := frozen_of_row w1 (w.heap.size + 1) 9 _ _ HZ1.out
        have u10 := frozen_of_row w1 (w.heap.size + 1) 10 _ _ HZ1.out
        simp at p0 p1 z0 z1 z2 z3 z4 z5 z6 z7 z8 z9 z10
        have HB1 := hide (HB0.out.trans (hB1.mono HB0.out.size))
        clear hB1
        go_wp2_with (first | (go_at_call 188; refine (isMode_any _ _).mono ?_; rintro _ _ ⟨rfl, rfl⟩; rw [HI.out]) | (go_at_call 189; refine (isSize_any _ _).mono ?_; rintro _ _ ⟨rfl, rfl⟩; rw [HJ.out]) | fail)
        obtain ⟨e1, e2⟩ := st_fill w1 (w.heap.size + 1) ss0 (.slice none 0 0) (.slice none 0 0) (.slice none 0 0) HZ1.out
        refine bodyPost_ret (res_two rfl _ (w.heap.size + 1) rfl ss0 _ _ _ e1) rfl ?_
        exact ⟨rfl, HB1.out.trans (e2.below (fun k e => by omega) HB1.out.size)⟩
    · rw [if_neg h1] at hq
      have HI : Hid ((decide (1 ≤ mode) && decide (mode ≤ 3)) = false) := hide (by
        by_cases h3 : 1 ≤ mode
        · rw [decide_eq_false (p := mode ≤ 3) (fun e => h1 ⟨h3, e⟩), Bool.and_false]
        · rw [decide_eq_false h3]; rfl)
      obtain ⟨rfl, rfl⟩ : ss0 = qx ∧ 1 = qe := by simpa using hq
      clear hq h1
      go_enter Tryz.func102, Tryz.ntmps102
      go_wp2_with fail
      have HB0 := hide ((recv_below w (Obj.cells #[.bool m.rd, .bool m.wr, .bool m.ap, .bool m.cr, .bool m.tr, .bool m.ex, .bool m.bi, .bool m.ma] 186)).trans ((recv_below (w.alloc (Obj.cells #[.bool m.rd, .bool m.wr, .bool m.ap, .bool m.cr, .bool m.tr, .bool m.ex, .bool m.bi, .bool m.ma] 186)) (Obj.cells #[.bool false, .bool false, .int .i64 0, .int .i64 0, .slice none 0 0, .slice none 0 0, .slice none 0 0, .int .i64 0, .bool false, .bool false, .bool false] 58)).mono (recv_below w (Obj.cells #[.bool m.rd, .bool m.wr, .bool m.ap, .bool m.cr, .bool m.tr, .bool m.ex, .bool m.bi, .bool m.ma] 186)).size))
      have HM0 : Hid (((w.alloc (Obj.cells #[.bool m.rd, .bool m.wr, .bool m.ap, .bool m.cr, .bool m.tr, .bool m.ex, .bool m.bi, .bool m.ma] 186)).alloc (Obj.cells #[.bool false, .bool false, .int .i64 0, .int .i64 0, .slice none 0 0, .slice none 0 0, .slice none 0 0, .int .i64 0, .bool false, .bool false, .bool false] 58)).heap[w.heap.size]? = some (Obj.cells #[.bool m.rd, .bool m.wr, .bool m.ap, .bool m.cr, .bool m.tr, .bool m.ex, .bool m.bi, .bool m.ma] 186)) := hide (((recv_below (w.alloc (Obj.cells #[.bool m.rd, .bool m.wr, .bool m.ap, .bool m.cr, .bool m.tr, .bool m.ex, .bool m.bi, .bool m.ma] 186)) (Obj.cells #[.bool false, .bool false, .int .i64 0, .int .i64 0, .slice none 0 0, .slice none 0 0, .slice none 0 0, .int .i64 0, .bool false, .bool false, .bool false] 58)).block w.heap.size (by simp)).trans (heap_alloc_new w (Obj.cells #[.bool m.rd, .bool m.wr, .bool m.ap, .bool m.cr, .bool m.tr, .bool m.ex, .bool m.bi, .bool m.ma] 186)))
      have HZ0 : Hid (((w.alloc (Obj.cells #[.bool m.rd, .bool m.wr, .bool m.ap, .bool m.cr, .bool m.tr, .bool m.ex, .bool m.bi, .bool m.ma] 186)).alloc (Obj.cells #[.bool false, .bool false, .int .i64 0, .int .i64 0, .slice none 0 0, .slice none 0 0, .slice none 0 0, .int .i64 0, .bool false, .bool false, .bool false] 58)).heap[w.heap.size + 1]? = some (Obj.cells #[.bool false, .bool false, .int .i64 0, .int .i64 0, .slice none 0 0, .slice none 0 0, .slice none 0 0, .int .i64 0, .bool false, .bool false, .bool false] 58)) := hide (by have := heap_alloc_new (w.alloc (Obj.cells #[.bool m.rd, .bool m.wr, .bool m.ap, .bool m.cr, .bool m.tr, .bool m.ex, .bool m.bi, .bool m.ma] 186)) (Obj.cells #[.bool false, .bool false, .int .i64 0, .int .i64 0, .slice none 0 0, .slice none 0 0, .slice none 0 0, .int .i64 0, .bool false, .bool false, .bool false] 58); rw [show (w.alloc (Obj.cells #[.bool m.rd, .bool m.wr, .bool m.ap, .bool m.cr, .bool m.tr, .bool m.ex, .bool m.bi, .bool m.ma] 186)).heap.size = w.heap.size + 1 from Array.size_push ..] at this; exact this)
      generalize (w.alloc (Obj.cells #[.bool m.rd, .bool m.wr, .bool m.ap, .bool m.cr, .bool m.tr, .bool m.ex, .bool m.bi, .bool m.ma] 186)).alloc (Obj.cells #[.bool false, .bool false, .int .i64 0, .int .i64 0, .slice none 0 0, .slice none 0 0, .slice none 0 0, .int .i64 0, .bool false, .bool false, .bool false] 58) = w0 at *
      have hz0 : w.heap.size + 1 < w0.heap.size := (Array.getElem?_eq_some_iff.1 HZ0.out).1
      refine (HC.out w0).mono ?_
      rintro _ w1 ⟨rfl, hB1⟩
      have HZ1 := hide ((hB1.block (w.heap.size + 1) hz0).trans HZ0.out)
      have HM1 := hide ((hB1.block w.heap.size (by omega)).trans HM0.out)
      have p0 := cell_of_row w1 w.heap.size 0 _ _ _ HM1.out
      have p1 := cell_of_row w1 w.heap.size 1 _ _ _ HM1.out
      have z0 := cell_of_row w1 (w.heap.size + 1) 0 _ _ _ HZ1.out
      have z1 := cell_of_row w1 (w.heap.size + 1) 1 _ _ _ HZ1.out
      have z2 := cell_of_row w1 (w.heap.size + 1) 2 _ _ _ HZ1.out
      have z3 := cell_of_row w1 (w.heap.size + 1) 3 _ _ _ HZ1.out
      have z4 := cell_of_row w1 (w.heap.size + 1) 4 _ _ _ HZ1.out
      have z5 := cell_of_row w1 (w.heap.size + 1) 5 _ _ _ HZ1.out
      have z6 := cell_of_row w1 (w.heap.size + 1) 6 _ _ _ HZ1.out
      have z7 := cell_of_row w1 (w.heap.size + 1) 7 _ _ _ HZ1.out
      have z8 := cell_of_row w1 (w.heap.size + 1) 8 _ _ _ HZ1.out
      have z9 := cell_of_row w1 (w.heap.size + 1) 9 _ _ _ HZ1.out
      have z10 := cell_of_row w1 (w.heap.size + 1) 10 _ _ _ HZ1.out
      have u0 := frozen_of_row w1 (w.heap.size + 1) 0 _ _ HZ1.out
      have u1 := frozen_of_row w1 (w.heap.size + 1) 1 _ _ HZ1.out
      have u2 := frozen_of_row w1 (w.heap.size + 1) 2 _ _ HZ1.out
      have u3 := frozen_of_row w1 (w.heap.size + 1) 3 _ _ HZ1.out
      have u4 := frozen_of_row w1 (w.heap.size + 1) 4 _ _ HZ1.out
      have u5 := frozen_of_row w1 (w.heap.size + 1) 5 _ _ HZ1.out
      have u6 := frozen_of_row w1 (w.heap.size + 1) 6 _ _ HZ1.out
      have u7 := frozen_of_row w1 (w.heap.size + 1) 7 _ _ HZ1.out
      have u8 := frozen_of_row w1 (w.heap.size + 1) 8 _ _ HZ1.out
      have u9 := frozen_of_row w1 (w.heap.size + 1) 9 _ _ HZ1.out
      have u10 := frozen_of_row w1 (w.heap.size + 1) 10 _ _ HZ1.out
      simp at p0 p1 z0 z1 z2 z3 z4 z5 z6 z7 z8 z9 z10
      have HB1 := hide (HB0.out.trans (hB1.mono HB0.out.size))
      clear hB1
      go_wp2_with (first | (go_at_call 188; refine (isMode_any _ _).mono ?_; rintro _ _ ⟨rfl, rfl⟩; rw [HI.out]) | fail)
      obtain ⟨e1, e2⟩ := st_fill w1 (w.heap.size + 1) ss0 (.slice none 0 0) (.slice none 0 0) (.slice none 0 0) HZ1.out
      refine bodyPost_ret (res_two rfl _ (w.heap.size + 1) rfl ss0 _ _ _ e1) rfl ?_
      exact ⟨rfl, HB1.out.trans (e2.below (fun k e => by omega) HB1.out.size)⟩
  · rw [if_neg h0] at hq
    obtain ⟨rfl, rfl⟩ : ss0 = qx ∧ ck = qe := by simpa using hq
    have h1 : (ck != 0) = true := by simp [h0]
    clear hq
    go_enter Tryz.func102, Tryz.ntmps102
    go_wp2_with fail
    have HB0 := hide ((recv_below w (Obj.cells #[.bool m.rd, .bool m.wr, .bool m.ap, .bool m.cr, .bool m.tr, .bool m.ex, .bool m.bi, .bool m.ma] 186)).trans ((recv_below (w.alloc (Obj.cells #[.bool m.rd, .bool m.wr, .bool m.ap, .bool m.cr, .bool m.tr, .bool m.ex, .bool m.bi, .bool m.ma] 186)) (Obj.cells #[.bool false, .bool false, .int .i64 0, .int .i64 0, .slice none 0 0, .slice none 0 0, .slice none 0 0, .int .i64 0, .bool false, .bool false, .bool false] 58)).mono (recv_below w (Obj.cells #[.bool m.rd, .bool m.wr, .bool m.ap, .bool m.cr, .bool m.tr, .bool m.ex, .bool m.bi, .bool m.ma] 186)).size))
    have HM0 : Hid (((w.alloc (Obj.cells #[.bool m.rd, .bool m.wr, .bool m.ap, .bool m.cr, .bool m.tr, .bool m.ex, .bool m.bi, .bool m.ma] 186)).alloc (Obj.cells #[.bool false, .bool false, .int .i64 0, .int .i64 0, .slice none 0 0, .slice none 0 0, .slice none 0 0, .int .i64 0, .bool false, .bool false, .bool false] 58)).heap[w.heap.size]? = some (Obj.cells #[.bool m.rd, .bool m.wr, .bool m.ap, .bool m.cr, .bool m.tr, .bool m.ex, .bool m.bi, .bool m.ma] 186)) := hide (((recv_below (w.alloc (Obj.cells #[.bool m.rd, .bool m.wr, .bool m.ap, .bool m.cr, .bool m.tr, .bool m.ex, .bool m.bi, .bool m.ma] 186)) (Obj.cells #[.bool false, .bool false, .int .i64 0, .int .i64 0, .slice none 0 0, .slice none 0 0, .slice none 0 0, .int .i64 0, .bool false, .bool false, .bool false] 58)).block w.heap.size (by simp)).trans (heap_alloc_new w (Obj.cells #[.bool m.rd, .bool m.wr, .bool m.ap, .bool m.cr, .bool m.tr, .bool m.ex, .bool m.bi, .bool m.ma] 186)))
    have HZ0 : Hid (((w.alloc (Obj.cells #[.bool m.rd, .bool m.wr, .bool m.ap, .bool m.cr, .bool m.tr, .bool m.ex, .bool m.bi, .bool m.ma] 186)).alloc (Obj.cells #[.bool false, .bool false, .int .i64 0, .int .i64 0, .slice none 0 0, .slice none 0 0, .slice none 0 0, .int .i64 0, .bool false, .bool false, .bool false] 58)).heap[w.heap.size + 1]? = some (Obj.cells #[.bool false, .bool false, .int .i64 0, .int .i64 0, .slice none 0 0, .slice none 0 0, .slice none 0 0, .int .i64 0, .bool false, .bool false, .bool false] 58)) := hide (by have := heap_alloc_new (w.alloc (Obj.cells #[.bool m.rd, .bool m.wr, .bool m.ap, .bool m.cr, .bool m.tr, .bool m.ex, .bool m.bi, .bool m.ma] 186)) (Obj.cells #[.bool false, .bool false, .int .i64 0, .int .i64 0, .slice none 0 0, .slice none 0 0, .slice none 0 0, .int .i64 0, .bool false, .bool false, .bool false] 58); rw [show (w.alloc (Obj.cells #[.bool m.rd, .bool m.wr, .bool m.ap, .bool m.cr, .bool m.tr, .bool m.ex, .bool m.bi, .bool m.ma] 186)).heap.size = w.heap.size + 1 from Array.size_push ..] at this; exact this)
    generalize (w.alloc (Obj.cells #[.bool m.rd, .bool m.wr, .bool m.ap, .bool m.cr, .bool m.tr, .bool m.ex, .bool m.bi, .bool m.ma] 186)).alloc (Obj.cells #[.bool false, .bool false, .int .i64 0, .int .i64 0, .slice none 0 0, .slice none 0 0, .slice none 0 0, .int .i64 0, .bool false, .bool false, .bool false] 58) = w0 at *
    have hz0 : w.heap.size + 1 < w0.heap.size := (Array.getElem?_eq_some_iff.1 HZ0.out).1
    refine (HC.out w0).mono ?_
    rintro _ w1 ⟨rfl, hB1⟩
    have HZ1 := hide ((hB1.block (w.heap.size + 1) hz0).trans HZ0.out)
    have HM1 := hide ((hB1.block w.heap.size (by omega)).trans HM0.out)
    have p0 := cell_of_row w1 w.heap.size 0 _ _ _ HM1.out
    have p1 := cell_of_row w1 w.heap.size 1 _ _ _ HM1.out
    have z0 := cell_of_row w1 (w.heap.size + 1) 0 _ _ _ HZ1.out
    have z1 := cell_of_row w1 (w.heap.size + 1) 1 _ _ _ HZ1.out
    have z2 := cell_of_row w1 (w.heap.size + 1) 2 _ _ _ HZ1.out
    have z3 := cell_of_row w1 (w.heap.size + 1) 3 _ _ _ HZ1.out
    have z4 := cell_of_row w1 (w.heap.size + 1) 4 _ _ _ HZ1.out
    have z5 := cell_of_row w1 (w.heap.size + 1) 5 _ _ _ HZ1.out
    have z6 := cell_of_row w1 (w.heap.size + 1) 6 _ _ _ HZ1.out
    have z7 := cell_of_row w1 (w.heap.size + 1) 7 _ _ _ HZ1.out
    have z8 := cell_of_row w1 (w.heap.size + 1) 8 _ _ _ HZ1.out
    have z9 := cell_of_row w1 (w.heap.size + 1) 9 _ _ _ HZ1.out
    have z10 := cell_of_row w1 (w.heap.size + 1) 10 _ _ _ HZ1.out
    have u0 := frozen_of_row w1 (w.heap.size + 1) 0 _ _ HZ1.out
    have u1 := frozen_of_row w1 (w.heap.size + 1) 1 _ _ HZ1.out
    have u2 := frozen_of_row w1 (w.heap.size + 1) 2 _ _ HZ1.out
    have u3 := frozen_of_row w1 (w.heap.size + 1) 3 _ _ HZ1.out
    have u4 := frozen_of_row w1 (w.heap.size + 1) 4 _ _ HZ1.out
    have u5 := frozen_of_row w1 (w.heap.size + 1) 5 _ _ HZ1.out
    have u6 := frozen_of_row w1 (w.heap.size + 1) 6 _ _ HZ1.out
    have u7 := frozen_of_row w1 (w.heap.size + 1) 7 _ _ HZ1.out
    have u8 := frozen_of_row w1 (w.heap.size + 1) 8 _ _ HZ1.out
    have u9 := frozen_of_row w1 (w.heap.size + 1) 9 _ _ HZ1.out
    have u10 := frozen_of_row w1 (w.heap.size + 1) 10 _ _ HZ1.out
    simp at p0 p1 z0 z1 z2 z3 z4 z5 z6 z7 z8 z9 z10
    have HB1 := hide (HB0.out.trans (hB1.mono HB0.out.size))
    clear hB1
    go_wp2
    obtain ⟨e1, e2⟩ := st_fill w1 (w.heap.size + 1) ss0 (.slice none 0 0) (.slice none 0 0) (.slice none 0 0) HZ1.out
    refine bodyPost_ret (res_two rfl _ (w.heap.size + 1) rfl ss0 _ _ _ e1) rfl ?_
    exact ⟨rfl, HB1.out.trans (e2.below (fun k e => by omega) HB1.out.size)⟩
end Go.Proofs.YtdmkjbdlidadiaaGreat

/- Position over memory that grows: values. -/
namespace Go.Proofs.YtdmkjbdlidadiaaGreat
open Go.RowKit

theorem bearsS_true {S : Type} (K : SkV S) : BearsS K (fun _ => True) (fun _ _ => True) := fun _ _ _ _ _ => ⟨trivial, trivial⟩
theorem gro_seek (g : Nat) : RawS MS.seek 75 (.pointer (some ⟨g, 0, none⟩)) 311 (fun _ => True) (fun w O S => MemAt w O g S) where
  mseek w := by kernel_rfl
  cseek a w := by kernel_rfl
  seek o wh h _ _ := gmseek_any _ g _ o wh _ h
  told {w O s} o wh h := by
    have hk := h.ok
    unfold MS.seek
    split
    · exact ⟨Int.le_refl _, by simp only; omega⟩
    split
    · exact ⟨Int.le_refl _, by simp only; omega⟩
    · simp only
      omega
def moRW : Mo := ⟨true, true, false, false, false, false, false, false⟩
theorem chk_moRW : chkM moRW = 0 := by decide
def xRW (mode size : Int) : SS := ⟨true, true, mode, size, [], [], [], 0, false, false, false⟩
theorem new_RW (mode size : Int) : SS.new moRW mode size = if 1 ≤ mode ∧ mode ≤ 3 then (if 1 ≤ size ∧ size ≤ 65536 then (xRW mode size, 0) else (ss0, 4)) else (ss0, 1) := by
  unfold SS.new
  rw [if_pos chk_moRW]
  rfl
structure RdS (x : SS) (S : MS) (l : List UInt8) (k : Nat) : Prop where
  rd : x.rd = true
  m1 : 1 ≤ x.mode
  m3 : x.mode ≤ 3
  s1 : 1 ≤ x.size
  s2 : x.size ≤ 65536
  out : x.out = []
  back : x.back = []
  closed : x.closed = false
  dir : x.dir = 1 ∨ (x.dir = 0 ∧ x.inn = [])
  il : x.inn.length ≤ 65536
  lq : S.l = l
  room : S.room = 1048576
  ll : l.length ≤ 1048576
  kl : k ≤ l.length
  pl : S.pl = k + x.inn.length
  ple : S.pl ≤ l.length
  inn : x.inn = (l.drop k).take x.inn.length
  fin : x.fin = true → k = l.length
theorem RdS.may {x : SS} {S : MS} {l : List UInt8} {k : Nat} (h : RdS x S l k) : x.may = true := by
  refine (may_iff x).2 ⟨h.m1, h.m3, h.s1, h.s2, by rw [h.out]; have := h.s1; simp; omega, fun _ => by rw [h.out]; rfl, h.il, by rw [h.back]; simp, ?_⟩
  rcases h.dir with e | ⟨e, e2⟩
  · exact .inr (.inl ⟨e, h.rd, by rw [h.out]; rfl, h.closed⟩)
  · exact .inl ⟨e, by rw [h.out]; rfl, by rw [e2, h.back]; rfl⟩
theorem RdS.refuse {x : SS} {S : MS} {l : List UInt8} {k : Nat} (h : RdS x S l k) : x.refuse true = 0 := by
  unfold SS.refuse
  rw [if_neg (by simp [h.may]), if_neg (by simp), if_neg (by simp [h.closed])]
theorem RdS.deliver {x : SS} {S : MS} {l : List UInt8} {k : Nat} (h : RdS x S l k) : x.deliver msR S = (x, 0, S) := by
  unfold SS.deliver
  have h1 : putV msR x.out (putF x.out) S 0 0 = (0, 0, S) := putV_done _ _ _ _ _ _ (by rw [h.out]; simp)
  rw [h1]
  unfold SS.mark
  simp
set_option linter.unusedSimpArgs false in
end Go.Proofs.YtdmkjbdlidadiaaGreat

/- Position: the law's num, alive. -/
namespace Go.Proofs.YtdmkjbdlidadiaaGreat
open Go.RowKit

theorem num14 (e : Int) (w : World) : Calls Tryz.prog 40 #[.int .i64 e] w fun r w' => r = .returned (.int .i64 e) ∧ w = w' := by
  go_enter Tryz.func40, Tryz.ntmps40
  go_wp2
  go_ret
  exact ⟨rfl, rfl⟩
theorem lit_bys14 (w : World) (l : List UInt8) (cs : Array Value) (n : Nat) (fr : Nat × Nat) (hn : n = l.length) (hcs : cs.toList = l.map bv) : Bys (w.alloc (Obj.cells cs 5 fr)) (.slice (some ⟨w.heap.size, 0, none⟩) n n) l := by
  subst hn
  by_cases h0 : l.length = 0
  · exact .inr (.inl ⟨_, _, by rw [h0], List.length_eq_zero_iff.1 h0⟩)
  · refine .inr (.inr ⟨w.heap.size, 0, l.length, rfl, by omega, fun j hj => ?_⟩)
    rw [cell_of_row _ w.heap.size _ cs _ fr (heap_alloc_new w _)]
    have h1 : cs.toList[0 + j]? = (l.map bv)[j]? := by rw [hcs, Nat.zero_add]
    rw [Array.getElem?_toList] at h1
    rw [h1]
    simp [List.getD_eq_getElem?_getD, List.getElem?_eq_getElem hj, bv]
theorem conv_lit14 (w : World) (C : Array Value) (n m : Nat) (hm : C.size = m) : (convert 40 40 (.slice (some ⟨w.heap.size, 0, none⟩) n n)).run Tryz.prog (w.alloc (.cells C 5)) = .ok (.slice (some ⟨w.heap.size, 0, none⟩) n n) (w.alloc (.cells C 5 (m, m + 1))) := by
  subst hm
  exact Lib.run_convert_bytes_const w 40 5 C n n Tryz.underlying40 Tryz.underlying5
def hel : List UInt8 := [104, 101, 108, 108, 111]
def qA : SS := ⟨true, true, 3, 4, [], [101, 108, 108], [], 1, false, false, false⟩
def qB : SS := ⟨true, true, 3, 4, [], [], [], 0, false, false, false⟩
def qC : SS := ⟨true, true, 3, 4, [], [108, 111], [], 1, false, false, false⟩
theorem q_a : (xRW 3 4).get msR ⟨hel, 1048576, 0⟩ = (qA, 104, 0, ⟨hel, 1048576, 4⟩) := by kernel_rfl
theorem q_b : qA.tell msR MS.seek ⟨hel, 1048576, 4⟩ = (qA, 1, 0, ⟨hel, 1048576, 4⟩) := by kernel_rfl
theorem q_c : qA.seek msR MS.seek ⟨hel, 1048576, 4⟩ 1 1 = (qB, 2, 0, ⟨hel, 1048576, 2⟩) := by kernel_rfl
theorem q_d : qB.get msR ⟨hel, 1048576, 2⟩ = (qC, 108, 0, ⟨hel, 1048576, 5⟩) := by kernel_rfl
set_option maxRecDepth 100000 in
set_option maxHeartbeats 8000000 in
theorem alive14 (w : World) : Calls Tryz.prog 37 #[] w fun e w' => e = .returned (.bool true) ∧ Below w.heap.size w w' := by
  have cl := conv_lit14 w #[.int .u8 104, .int .u8 101, .int .u8 108, .int .u8 108, .int .u8 111] 5 5 rfl
  have hb3 := lit_bys14 w hel #[.int .u8 104, .int .u8 101, .int .u8 108, .int .u8 108, .int .u8 111] 5 (5, 6) rfl rfl
  have hBl := (Below.refl _ w).alloc (Nat.le_refl _) (Obj.cells #[.int .u8 104, .int .u8 101, .int .u8 108, .int .u8 108, .int .u8 111] 5 (5, 6))
  have HN1 := hide (newGrowing_good _ hel _ hb3 (by decide))
  have HBl := hide hBl
  have hN := fun W => sNew_any moRW 3 4 W
  rw [new_RW, if_pos (by decide), if_pos (by decide)] at hN
  simp only at hN
  unfold mv at hN
  have HN := hide hN
  clear hN hb3 hBl
  go_enter Tryz.func37, Tryz.ntmps37
  go_wp2_with fail
  generalize w.alloc (Obj.cells #[.int .u8 104, .int .u8 101, .int .u8 108, .int .u8 108, .int .u8 111] 5 (5, 6)) = w0 at *
  refine HN1.out.mono ?_
  rintro _ w1 ⟨g, rfl, hM, hB⟩
  have HM := hide hM
  have HB := hide (HBl.out.trans (hB.mono HBl.out.size))
  have hz0 := HBl.out.size
  clear hM hB HN1 cl
  go_wp2_with fail
  refine (HN.out _).mono ?_
  rintro _ w2 ⟨rfl, hB2⟩
  have HM2 := hide (HM.out.below hB2)
  have HB2 := hide (HB.out.trans (hB2.mono HB.out.size))
  clear hB2 HM HB
  have HS2 := hide (StAt.new w2 (xRW 3 4) (.slice none 0 0) (.slice none 0 0) (.slice none 0 0))
  have HB3 := hide (recv_below w2 (Obj.cells #[.bool (xRW 3 4).rd, .bool (xRW 3 4).wt, .int .i64 (xRW 3 4).mode, .int .i64 (xRW 3 4).size, .slice none 0 0, .slice none 0 0, .slice none 0 0, .int .i64 (xRW 3 4).dir, .bool (xRW 3 4).fin, .bool (xRW 3 4).bad, .bool (xRW 3 4).closed] 58))
  have HLV : Hid (LV (fun w O S => MemAt w O g S) (w2.alloc (Obj.cells #[.bool (xRW 3 4).rd, .bool (xRW 3 4).wt, .int .i64 (xRW 3 4).mode, .int .i64 (xRW 3 4).size, .slice none 0 0, .slice none 0 0, .slice none 0 0, .int .i64 (xRW 3 4).dir, .bool (xRW 3 4).fin, .bool (xRW 3 4).bad, .bool (xRW 3 4).closed] 58)) w.heap.size w2.heap.size (fun k => w0.heap.size ≤ k ∧ k < w2.heap.size) (xRW 3 4) ⟨hel, 1048576, 0⟩ (.slice none 0 0) (.slice none 0 0) (.slice none 0 0)) := hide
    ⟨HS2.out, SIn.nils0 rfl rfl rfl, HM2.out.trim.below HB3.out, fun j e => Nat.lt_of_lt_of_le e.2 HB3.out.size, fun j e => by have := e.1; omega, fun e => by omega, HB2.out.size⟩
  have HTT : Hid (Turned (fun k => w.heap.size ≤ k) w (w2.alloc (Obj.cells #[.bool (xRW 3 4).rd, .bool (xRW 3 4).wt, .int .i64 (xRW 3 4).mode, .int .i64 (xRW 3 4).size, .slice none 0 0, .slice none 0 0, .slice none 0 0, .int .i64 (xRW 3 4).dir, .bool (xRW 3 4).fin, .bool (xRW 3 4).bad, .bool (xRW 3 4).closed] 58))) := hide ((Turned.of_below HB2.out).trans (Turned.of_below (S := fun k => w.heap.size ≤ k) HB3.out) (fun _ _ e => e))
  have hp := sGet_any (gro_raw g) (fun s => gmem_o g s) (bears_true msR) HLV.out.ls HLV.out.raw HLV.out.ol trivial (by decide) (by decide) (by decide)
  rw [q_a] at hp
  simp only at hp
  have HP := hide hp
  clear hp
  go_wp2_with (first | (go_at_call 40; refine (num14 _ _).mono ?_; rintro _ _ ⟨rfl, rfl⟩) | fail)
  generalize w2.alloc (Obj.cells #[.bool (xRW 3 4).rd, .bool (xRW 3 4).wt, .int .i64 (xRW 3 4).mode, .int .i64 (xRW 3 4).size, .slice none 0 0, .slice none 0 0, .slice none 0 0, .int .i64 (xRW 3 4).dir, .bool (xRW 3 4).fin, .bool (xRW 3 4).bad, .bool (xRW 3 4).closed] 58) = w3 at *
  have HSZ := hide HTT.out.size
  clear HS2 HB3 HM2 HN
  generalize w2.heap.size = gv at *
  refine HP.out.mono ?_
  rintro _ w4 ⟨o', i', b', rfl, hS⟩
  obtain ⟨a1, a4, rfl, -⟩ := hS.choose_spec.1.so
  obtain ⟨a2, a5, rfl, -⟩ := hS.choose_spec.1.si
  obtain ⟨a3, a6, rfl, -⟩ := hS.choose_spec.1.sb
  obtain ⟨hst, ⟨O4, hl⟩, ht⟩ := LV.next (fun s => gmem_o g s) HLV.out HSZ.out hS
  have HLn := hide hl
  have HTn := hide (HTT.out.trans ht (fun _ _ e => e))
  obtain ⟨c0, c1, c2, c3, c4, c5, c6, c7, c8, c9, c10⟩ := hst.cs
  have f0 := hst.soft 0
  have f1 := hst.soft 1
  have f2 := hst.soft 2
  have f3 := hst.soft 3
  have f4 := hst.soft 4
  have f5 := hst.soft 5
  have f6 := hst.soft 6
  have f7 := hst.soft 7
  have f8 := hst.soft 8
  have f9 := hst.soft 9
  have f10 := hst.soft 10
  clear hS hst hl ht HP
  unfold filled at HLn HTn
  have hp := ptell_any (gro_raw g) (fun s => gmem_o g s) (bears_true msR) (gro_seek g) (bearsS_true _) HLn.out.ls HLn.out.raw HLn.out.ol trivial (by decide) (by decide) (by decide)
  rw [q_b] at hp
  simp only at hp
  have HP := hide hp
  clear hp
  go_wp2_with (first | (go_at_call 40; refine (num14 _ _).mono ?_; rintro _ _ ⟨rfl, rfl⟩) | fail)
  generalize (((((((((((w4.setCell ⟨gv, 0, none⟩ (.bool qA.rd)).setCell ⟨gv, 1, none⟩ (.bool qA.wt)).setCell ⟨gv, 2, none⟩ (.int .i64 qA.mode)).setCell ⟨gv, 3, none⟩ (.int .i64 qA.size)).setCell ⟨gv, 4, none⟩ (.slice a1 qA.out.length a4)).setCell ⟨gv, 5, none⟩ (.slice a2 qA.inn.length a5)).setCell ⟨gv, 6, none⟩ (.slice a3 qA.back.length a6)).setCell ⟨gv, 7, none⟩ (.int .i64 qA.dir)).setCell ⟨gv, 8, none⟩ (.bool qA.fin)).setCell ⟨gv, 9, none⟩ (.bool qA.bad)).setCell ⟨gv, 10, none⟩ (.bool qA.closed)) = w5 at *
  clear c0 c1 c2 c3 c4 c5 c6 c7 c8 c9 c10 f0 f1 f2 f3 f4 f5 f6 f7 f8 f9 f10 HLV HTT HSZ
  have HLV := HLn
  have HTT := HTn
  have HSZ := hide HTT.out.size
  clear HLn HTn
  refine HP.out.mono ?_
  rintro _ w6 ⟨o', i', b', rfl, hS⟩
  obtain ⟨b1, b4, rfl, -⟩ := hS.choose_spec.1.so
  obtain ⟨b2, b5, rfl, -⟩ := hS.choose_spec.1.si
  obtain ⟨b3, b6, rfl, -⟩ := hS.choose_spec.1.sb
  obtain ⟨hst, ⟨O6, hl⟩, ht⟩ := LV.next (fun s => gmem_o g s) HLV.out HSZ.out hS
  have HLn := hide hl
  have HTn := hide (HTT.out.trans ht (fun _ _ e => e))
  obtain ⟨c0, c1, c2, c3, c4, c5, c6, c7, c8, c9, c10⟩ := hst.cs
  have f0 := hst.soft 0
  have f1 := hst.soft 1
  have f2 := hst.soft 2
  have f3 := hst.soft 3
  have f4 := hst.soft 4
  have f5 := hst.soft 5
  have f6 := hst.soft 6
  have f7 := hst.soft 7
  have f8 := hst.soft 8
  have f9 := hst.soft 9
  have f10 := hst.soft 10
  clear hS hst hl ht HP
  unfold filled at HLn HTn
  have hp := pseek_any (gro_raw g) (fun s => gmem_o g s) (bears_true msR) (gro_seek g) (bearsS_true _) 1 1 HLn.out.ls HLn.out.raw HLn.out.ol trivial (by decide) (by decide) (by decide) (by decide)
  rw [q_c] at hp
  simp only at hp
  have HP := hide hp
  clear hp
  go_wp2_with (first | (go_at_call 40; refine (num14 _ _).mono ?_; rintro _ _ ⟨rfl, rfl⟩) | fail)
  generalize (((((((((((w6.setCell ⟨gv, 0, none⟩ (.bool qA.rd)).setCell ⟨gv, 1, none⟩ (.bool qA.wt)).setCell ⟨gv, 2, none⟩ (.int .i64 qA.mode)).setCell ⟨gv, 3, none⟩ (.int .i64 qA.size)).setCell ⟨gv, 4, none⟩ (.slice b1 qA.out.length b4)).setCell ⟨gv, 5, none⟩ (.slice b2 qA.inn.length b5)).setCell ⟨gv, 6, none⟩ (.slice b3 qA.back.length b6)).setCell ⟨gv, 7, none⟩ (.int .i64 qA.dir)).setCell ⟨gv, 8, none⟩ (.bool qA.fin)).setCell ⟨gv, 9, none⟩ (.bool qA.bad)).setCell ⟨gv, 10, none⟩ (.bool qA.closed)) = w7 at *
  clear c0 c1 c2 c3 c4 c5 c6 c7 c8 c9 c10 f0 f1 f2 f3 f4 f5 f6 f7 f8 f9 f10 HLV HTT HSZ
  have HLV := HLn
  have HTT := HTn
  have HSZ := hide HTT.out.size
  clear HLn HTn
  refine HP.out.mono ?_
  rintro _ w8 ⟨o', i', b', rfl, hS⟩
  obtain ⟨d1, d4, rfl, -⟩ := hS.choose_spec.1.so
  obtain ⟨d2, d5, rfl, -⟩ := hS.choose_spec.1.si
  obtain ⟨d3, d6, rfl, -⟩ := hS.choose_spec.1.sb
  obtain ⟨hst, ⟨O8, hl⟩, ht⟩ := LV.next (fun s => gmem_o g s) HLV.out HSZ.out hS
  have HLn := hide hl
  have HTn := hide (HTT.out.trans ht (fun _ _ e => e))
  obtain ⟨c0, c1, c2, c3, c4, c5, c6, c7, c8, c9, c10⟩ := hst.cs
  have f0 := hst.soft 0
  have f1 := hst.soft 1
  have f2 := hst.soft 2
  have f3 := hst.soft 3
  have f4 := hst.soft 4
  have f5 := hst.soft 5
  have f6 := hst.soft 6
  have f7 := hst.soft 7
  have f8 := hst.soft 8
  have f9 := hst.soft 9
  have f10 := hst.soft 10
  clear hS hst hl ht HP
  unfold filled at HLn HTn
  have hp := sGet_any (gro_raw g) (fun s => gmem_o g s) (bears_true msR) HLn.out.ls HLn.out.raw HLn.out.ol trivial (by decide) (by decide) (by decide)
  rw [q_d] at hp
  simp only at hp
  have HP := hide hp
  clear hp
  go_wp2_with (first | (go_at_call 40; refine (num14 _ _).mono ?_; rintro _ _ ⟨rfl, rfl⟩) | fail)
  generalize (((((((((((w8.setCell ⟨gv, 0, none⟩ (.bool qB.rd)).setCell ⟨gv, 1, none⟩ (.bool qB.wt)).setCell ⟨gv, 2, none⟩ (.int .i64 qB.mode)).setCell ⟨gv, 3, none⟩ (.int .i64 qB.size)).setCell ⟨gv, 4, none⟩ (.slice d1 qB.out.length d4)).setCell ⟨gv, 5, none⟩ (.slice d2 qB.inn.length d5)).setCell ⟨gv, 6, none⟩ (.slice d3 qB.back.length d6)).setCell ⟨gv, 7, none⟩ (.int .i64 qB.dir)).setCell ⟨gv, 8, none⟩ (.bool qB.fin)).setCell ⟨gv, 9, none⟩ (.bool qB.bad)).setCell ⟨gv, 10, none⟩ (.bool qB.closed)) = w9 at *
  clear c0 c1 c2 c3 c4 c5 c6 c7 c8 c9 c10 f0 f1 f2 f3 f4 f5 f6 f7 f8 f9 f10 HLV HTT HSZ
  have HLV := HLn
  have HTT := HTn
  have HSZ := hide HTT.out.size
  clear HLn HTn
  refine HP.out.mono ?_
  rintro _ w10 ⟨o', i', b', rfl, hS⟩
  obtain ⟨e1, e4, rfl, -⟩ := hS.choose_spec.1.so
  obtain ⟨e2, e5, rfl, -⟩ := hS.choose_spec.1.si
  obtain ⟨e3, e6, rfl, -⟩ := hS.choose_spec.1.sb
  have HT10 : Hid (Turned (fun k => w.heap.size ≤ k) w w10) := hide (by
    obtain ⟨_, _, _, _, _, t⟩ := hS
    exact HTT.out.trans (t.mono fun k e => HLV.out.ob k e) (fun _ _ e => e))
  clear hS
  go_wp2_with (first | (go_at_call 40; refine (num14 _ _).mono ?_; rintro _ _ ⟨rfl, rfl⟩) | fail)
  go_ret
  exact ⟨rfl, (HT10.out.below (B := w.heap.size) (fun _ e => e) (Nat.le_refl _)).trans ((recv_below w10 _).mono HT10.out.size)⟩
end Go.Proofs.YtdmkjbdlidadiaaGreat

/- Streams: the law's Given and Same. -/
namespace Go.Proofs.YtdmkjbdlidadiaaGreat
open Go.RowKit

set_option maxRecDepth 100000 in
set_option maxHeartbeats 4000000 in
theorem given_any (x : SS) (o i b : Value) (P : Nat → Prop) (w : World) (h : SIn w P x o i b) (ho : x.out.length ≤ 140737488351232) (hi : x.inn.length ≤ 140737488351232) (hb : x.back.length ≤ 140737488351232) :
    Calls Tryz.prog 21 #[.agg #[.bool x.rd, .bool x.wt, .int .i64 x.mode, .int .i64 x.size, o, i, b, .int .i64 x.dir, .bool x.fin, .bool x.bad, .bool x.closed]] w fun e w' => ∃ o' i' b', e = .returned (.agg #[.bool x.rd, .bool x.wt, .int .i64 x.mode, .int .i64 x.size, o', i', b', .int .i64 x.dir, .bool x.fin, .bool x.bad, .bool x.closed]) ∧ w'.ownsRow w.heap.size 5 1 o' x.out.length (x.out.map bv) ∧ w'.ownsRow w.heap.size 5 1 i' x.inn.length (x.inn.map bv) ∧ w'.ownsRow w.heap.size 5 1 b' x.back.length (x.back.map bv) ∧ Below w.heap.size w w' ∧ Ap3 o' i' b' := by
  have HOw := hide (fun (W : World) (hW : Below w.heap.size w W) => rown_any x o i b P W (h.below hW) ho hi hb)
  obtain ⟨oa, oc, rfl, -⟩ := h.so
  obtain ⟨ia, ic, rfl, -⟩ := h.si
  obtain ⟨ba, bc, rfl, -⟩ := h.sb
  clear h
  go_enter Tryz.func21, Tryz.ntmps21
  go_wp2_with fail
  have HB0 := hide ((recv_below w (Obj.cells #[.bool x.rd, .bool x.wt, .int .i64 x.mode, .int .i64 x.size, .slice oa x.out.length oc, .slice ia x.inn.length ic, .slice ba x.back.length bc, .int .i64 x.dir, .bool x.fin, .bool x.bad, .bool x.closed] 52)).trans ((recv_below (w.alloc (Obj.cells #[.bool x.rd, .bool x.wt, .int .i64 x.mode, .int .i64 x.size, .slice oa x.out.length oc, .slice ia x.inn.length ic, .slice ba x.back.length bc, .int .i64 x.dir, .bool x.fin, .bool x.bad, .bool x.closed] 52)) (Obj.cells #[.bool false, .bool false, .int .i64 0, .int .i64 0, .slice none 0 0, .slice none 0 0, .slice none 0 0, .int .i64 0, .bool false, .bool false, .bool false] 58)).mono (recv_below w (Obj.cells #[.bool x.rd, .bool x.wt, .int .i64 x.mode, .int .i64 x.size, .slice oa x.out.length oc, .slice ia x.inn.length ic, .slice ba x.back.length bc, .int .i64 x.dir, .bool x.fin, .bool x.bad, .bool x.closed] 52)).size))
  have HZ0 : Hid (((w.alloc (Obj.cells #[.bool x.rd, .bool x.wt, .int .i64 x.mode, .int .i64 x.size, .slice oa x.out.length oc, .slice ia x.inn.length ic, .slice ba x.back.length bc, .int .i64 x.dir, .bool x.fin, .bool x.bad, .bool x.closed] 52)).alloc (Obj.cells #[.bool false, .bool false, .int .i64 0, .int .i64 0, .slice none 0 0, .slice none 0 0, .slice none 0 0, .int .i64 0, .bool false, .bool false, .bool false] 58)).heap[w.heap.size + 1]? = some (Obj.cells #[.bool false, .bool false, .int .i64 0, .int .i64 0, .slice none 0 0, .slice none 0 0, .slice none 0 0, .int .i64 0, .bool false, .bool false, .bool false] 58)) := hide (by have := heap_alloc_new (w.alloc (Obj.cells #[.bool x.rd, .bool x.wt, .int .i64 x.mode, .int .i64 x.size, .slice oa x.out.length oc, .slice ia x.inn.length ic, .slice ba x.back.length bc, .int .i64 x.dir, .bool x.fin, .bool x.bad, .bool x.closed] 52)) (Obj.cells #[.bool false, .bool false, .int .i64 0, .int .i64 0, .slice none 0 0, .slice none 0 0, .slice none 0 0, .int .i64 0, .bool false, .bool false, .bool false] 58); rw [show (w.alloc (Obj.cells #[.bool x.rd, .bool x.wt, .int .i64 x.mode, .int .i64 x.size, .slice oa x.out.length oc, .slice ia x.inn.length ic, .slice ba x.back.length bc, .int .i64 x.dir, .bool x.fin, .bool x.bad, .bool x.closed] 52)).heap.size = w.heap.size + 1 from Array.size_push ..] at this; exact this)
  generalize (w.alloc (Obj.cells #[.bool x.rd, .bool x.wt, .int .i64 x.mode, .int .i64 x.size, .slice oa x.out.length oc, .slice ia x.inn.length ic, .slice ba x.back.length bc, .int .i64 x.dir, .bool x.fin, .bool x.bad, .bool x.closed] 52)).alloc (Obj.cells #[.bool false, .bool false, .int .i64 0, .int .i64 0, .slice none 0 0, .slice none 0 0, .slice none 0 0, .int .i64 0, .bool false, .bool false, .bool false] 58) = w0 at *
  have hz0 : w.heap.size + 1 < w0.heap.size := (Array.getElem?_eq_some_iff.1 HZ0.out).1
  refine (HOw.out _ HB0.out).mono ?_
  rintro _ w1 ⟨o1, i1, b1, rfl, y3, y4, y5, hB1, hAp⟩
  obtain ⟨a1, k1, rfl⟩ := owns_slice y3
  obtain ⟨a2, k2, rfl⟩ := owns_slice y4
  obtain ⟨a3, k3, rfl⟩ := owns_slice y5
  have HZ1 := hide ((hB1.block (w.heap.size + 1) hz0).trans HZ0.out)
  have HB1 := hide (HB0.out.trans (hB1.mono HB0.out.size))
  have HY := hide (And.intro y3 (And.intro y4 y5))
  have HAp := hide hAp
  clear hAp y3 y4 y5 hB1 HZ0 HB0 HOw
  have z0 := cell_of_row w1 (w.heap.size + 1) 0 _ _ _ HZ1.out
  have z1 := cell_of_row w1 (w.heap.size + 1) 1 _ _ _ HZ1.out
  have z2 := cell_of_row w1 (w.heap.size + 1) 2 _ _ _ HZ1.out
  have z3 := cell_of_row w1 (w.heap.size + 1) 3 _ _ _ HZ1.out
  have z4 := cell_of_row w1 (w.heap.size + 1) 4 _ _ _ HZ1.out
  have z5 := cell_of_row w1 (w.heap.size + 1) 5 _ _ _ HZ1.out
  have z6 := cell_of_row w1 (w.heap.size + 1) 6 _ _ _ HZ1.out
  have z7 := cell_of_row w1 (w.heap.size + 1) 7 _ _ _ HZ1.out
  have z8 := cell_of_row w1 (w.heap.size + 1) 8 _ _ _ HZ1.out
  have z9 := cell_of_row w1 (w.heap.size + 1) 9 _ _ _ HZ1.out
  have z10 := cell_of_row w1 (w.heap.size + 1) 10 _ _ _ HZ1.out
  have u0 := frozen_of_row w1 (w.heap.size + 1) 0 _ _ HZ1.out
  have u1 := frozen_of_row w1 (w.heap.size + 1) 1 _ _ HZ1.out
  have u2 := frozen_of_row w1 (w.heap.size + 1) 2 _ _ HZ1.out
  have u3 := frozen_of_row w1 (w.heap.size + 1) 3 _ _ HZ1.out
  have u4 := frozen_of_row w1 (w.heap.size + 1) 4 _ _ HZ1.out
  have u5 := frozen_of_row w1 (w.heap.size + 1) 5 _ _ HZ1.out
  have u6 := frozen_of_row w1 (w.heap.size + 1) 6 _ _ HZ1.out
  have u7 := frozen_of_row w1 (w.heap.size + 1) 7 _ _ HZ1.out
  have u8 := frozen_of_row w1 (w.heap.size + 1) 8 _ _ HZ1.out
  have u9 := frozen_of_row w1 (w.heap.size + 1) 9 _ _ HZ1.out
  have u10 := frozen_of_row w1 (w.heap.size + 1) 10 _ _ HZ1.out
  simp at z0 z1 z2 z3 z4 z5 z6 z7 z8 z9 z10
  go_wp2
  obtain ⟨e1, e2⟩ := st_fill w1 (w.heap.size + 1) x (.slice a1 x.out.length k1) (.slice a2 x.inn.length k2) (.slice a3 x.back.length k3) HZ1.out
  refine bodyPost_ret (results_cell_row rfl _ _ (w.heap.size + 1) _ _ _ _ rfl e1 Tryz.underlying58 rfl (by kernel_rfl)) rfl ?_
  obtain ⟨hr1, hr2, hr3⟩ := HY.out
  exact ⟨_, _, _, rfl, owns_mono (owns_turned hr1 e2 (fun k e => by have := (hr1.lt k e).1; omega)) (by omega), owns_mono (owns_turned hr2 e2 (fun k e => by have := (hr2.lt k e).1; omega)) (by omega), owns_mono (owns_turned hr3 e2 (fun k e => by have := (hr3.lt k e).1; omega)) (by omega), HB1.out.trans (e2.below (fun k e => by omega) HB1.out.size), HAp.out⟩
set_option maxRecDepth 100000 in
set_option maxHeartbeats 4000000 in
theorem ssame_any (x : SS) (o i b p q r : Value) (P Q : Nat → Prop) (w : World) (h : SIn w P x o i b) (h' : SIn w Q x p q r) (ho : x.out.length ≤ 140737488351232) (hi : x.inn.length ≤ 140737488351232) (hb : x.back.length ≤ 140737488351232) :
    Calls Tryz.prog 26 #[.agg #[.bool x.rd, .bool x.wt, .int .i64 x.mode, .int .i64 x.size, o, i, b, .int .i64 x.dir, .bool x.fin, .bool x.bad, .bool x.closed], .agg #[.bool x.rd, .bool x.wt, .int .i64 x.mode, .int .i64 x.size, p, q, r, .int .i64 x.dir, .bool x.fin, .bool x.bad, .bool x.closed]] w fun e w' => e = .returned (.bool true) ∧ Below w.heap.size w w' := by
  obtain ⟨oa, oc, rfl, hb1, -⟩ := h.so
  obtain ⟨ia, ic, rfl, hb2, -⟩ := h.si
  obtain ⟨ba, bc, rfl, hb3, -⟩ := h.sb
  obtain ⟨pa, pc, rfl, hb4, -⟩ := h'.so
  obtain ⟨qa, qc, rfl, hb5, -⟩ := h'.si
  obtain ⟨ra, rc, rfl, hb6, -⟩ := h'.sb
  have HS1 := hide (fun (W : World) (hW : Below w.heap.size w W) => same_any (.slice oa x.out.length oc) (.slice pa x.out.length pc) x.out W (hb1.below hW) (hb4.below hW) (by unfold maxLen; omega))
  have HS2 := hide (fun (W : World) (hW : Below w.heap.size w W) => same_any (.slice ia x.inn.length ic) (.slice qa x.inn.length qc) x.inn W (hb2.below hW) (hb5.below hW) (by unfold maxLen; omega))
  have HS3 := hide (fun (W : World) (hW : Below w.heap.size w W) => same_any (.slice ba x.back.length bc) (.slice ra x.back.length rc) x.back W (hb3.below hW) (hb6.below hW) (by unfold maxLen; omega))
  clear h h' hb1 hb2 hb3 hb4 hb5 hb6
  go_enter Tryz.func26, Tryz.ntmps26
  go_upto_region 1 with fail
  have HB0 := hide ((recv_below w (Obj.cells #[.bool x.rd, .bool x.wt, .int .i64 x.mode, .int .i64 x.size, .slice oa x.out.length oc, .slice ia x.inn.length ic, .slice ba x.back.length bc, .int .i64 x.dir, .bool x.fin, .bool x.bad, .bool x.closed] 58)).trans ((recv_below (w.alloc (Obj.cells #[.bool x.rd, .bool x.wt, .int .i64 x.mode, .int .i64 x.size, .slice oa x.out.length oc, .slice ia x.inn.length ic, .slice ba x.back.length bc, .int .i64 x.dir, .bool x.fin, .bool x.bad, .bool x.closed] 58)) (Obj.cells #[.bool x.rd, .bool x.wt, .int .i64 x.mode, .int .i64 x.size, .slice pa x.out.length pc, .slice qa x.inn.length qc, .slice ra x.back.length rc, .int .i64 x.dir, .bool x.fin, .bool x.bad, .bool x.closed] 52)).mono (recv_below w (Obj.cells #[.bool x.rd, .bool x.wt, .int .i64 x.mode, .int .i64 x.size, .slice oa x.out.length oc, .slice ia x.inn.length ic, .slice ba x.back.length bc, .int .i64 x.dir, .bool x.fin, .bool x.bad, .bool x.closed] 58)).size))
  have HA0 := hide ((StAt.new w x (.slice oa x.out.length oc) (.slice ia x.inn.length ic) (.slice ba x.back.length bc)).below (recv_below _ (Obj.cells #[.bool x.rd, .bool x.wt, .int .i64 x.mode, .int .i64 x.size, .slice pa x.out.length pc, .slice qa x.inn.length qc, .slice ra x.back.length rc, .int .i64 x.dir, .bool x.fin, .bool x.bad, .bool x.closed] 52)))
  have HR0 : Hid (RSt ((w.alloc (Obj.cells #[.bool x.rd, .bool x.wt, .int .i64 x.mode, .int .i64 x.size, .slice oa x.out.length oc, .slice ia x.inn.length ic, .slice ba x.back.length bc, .int .i64 x.dir, .bool x.fin, .bool x.bad, .bool x.closed] 58)).alloc (Obj.cells #[.bool x.rd, .bool x.wt, .int .i64 x.mode, .int .i64 x.size, .slice pa x.out.length pc, .slice qa x.inn.length qc, .slice ra x.back.length rc, .int .i64 x.dir, .bool x.fin, .bool x.bad, .bool x.closed] 52)) (w.heap.size + 1) x (.slice pa x.out.length pc) (.slice qa x.inn.length qc) (.slice ra x.back.length rc)) := hide (by have := RSt.new (w.alloc (Obj.cells #[.bool x.rd, .bool x.wt, .int .i64 x.mode, .int .i64 x.size, .slice oa x.out.length oc, .slice ia x.inn.length ic, .slice ba x.back.length bc, .int .i64 x.dir, .bool x.fin, .bool x.bad, .bool x.closed] 58)) x (.slice pa x.out.length pc) (.slice qa x.inn.length qc) (.slice ra x.back.length rc); rw [show (w.alloc (Obj.cells #[.bool x.rd, .bool x.wt, .int .i64 x.mode, .int .i64 x.size, .slice oa x.out.length oc, .slice ia x.inn.length ic, .slice ba x.back.length bc, .int .i64 x.dir, .bool x.fin, .bool x.bad, .bool x.closed] 58)).heap.size = w.heap.size + 1 from Array.size_push ..] at this; exact this)
  generalize (w.alloc (Obj.cells #[.bool x.rd, .bool x.wt, .int .i64 x.mode, .int .i64 x.size, .slice oa x.out.length oc, .slice ia x.inn.length ic, .slice ba x.back.length bc, .int .i64 x.dir, .bool x.fin, .bool x.bad, .bool x.closed] 58)).alloc (Obj.cells #[.bool x.rd, .bool x.wt, .int .i64 x.mode, .int .i64 x.size, .slice pa x.out.length pc, .slice qa x.inn.length qc, .slice ra x.back.length rc, .int .i64 x.dir, .bool x.fin, .bool x.bad, .bool x.closed] 52) = w0 at *
  have HK := hide (fun (W : World) (hW : Below w0.heap.size w0 W) => (show (fun W => W.cell? ⟨w.heap.size, 0, none⟩ = some (.bool x.rd) ∧ W.cell? ⟨w.heap.size, 1, none⟩ = some (.bool x.wt) ∧ W.cell? ⟨w.heap.size, 2, none⟩ = some (.int .i64 x.mode) ∧ W.cell? ⟨w.heap.size, 3, none⟩ = some (.int .i64 x.size) ∧ W.cell? ⟨w.heap.size, 4, none⟩ = some (.slice oa x.out.length oc) ∧ W.cell? ⟨w.heap.size, 5, none⟩ = some (.slice ia x.inn.length ic) ∧ W.cell? ⟨w.heap.size, 6, none⟩ = some (.slice ba x.back.length bc) ∧ W.cell? ⟨w.heap.size, 7, none⟩ = some (.int .i64 x.dir) ∧ W.cell? ⟨w.heap.size, 8, none⟩ = some (.bool x.fin) ∧ W.cell? ⟨w.heap.size, 9, none⟩ = some (.bool x.bad) ∧ W.cell? ⟨w.heap.size, 10, none⟩ = some (.bool x.closed) ∧ W.cell? ⟨w.heap.size + 1, 0, none⟩ = some (.bool x.rd) ∧ W.cell? ⟨w.heap.size + 1, 1, none⟩ = some (.bool x.wt) ∧ W.cell? ⟨w.heap.size + 1, 2, none⟩ = some (.int .i64 x.mode) ∧ W.cell? ⟨w.heap.size + 1, 3, none⟩ = some (.int .i64 x.size) ∧ W.cell? ⟨w.heap.size + 1, 4, none⟩ = some (.slice pa x.out.length pc) ∧ W.cell? ⟨w.heap.size + 1, 5, none⟩ = some (.slice qa x.inn.length qc) ∧ W.cell? ⟨w.heap.size + 1, 6, none⟩ = some (.slice ra x.back.length rc) ∧ W.cell? ⟨w.heap.size + 1, 7, none⟩ = some (.int .i64 x.dir) ∧ W.cell? ⟨w.heap.size + 1, 8, none⟩ = some (.bool x.fin) ∧ W.cell? ⟨w.heap.size + 1, 9, none⟩ = some (.bool x.bad) ∧ W.cell? ⟨w.heap.size + 1, 10, none⟩ = some (.bool x.closed)) W from by
    obtain ⟨c0, c1, c2, c3, c4, c5, c6, c7, c8, c9, c10⟩ := (HA0.out.below hW).cs
    obtain ⟨d0, d1, d2, d3, d4, d5, d6, d7, d8, d9, d10⟩ := (HR0.out.below hW).cs
    exact ⟨c0, c1, c2, c3, c4, c5, c6, c7, c8, c9, c10, d0, d1, d2, d3, d4, d5, d6, d7, d8, d9, d10⟩))
  clear HA0 HR0
  obtain ⟨c0, c1, c2, c3, c4, c5, c6, c7, c8, c9, c10, d0, d1, d2, d3, d4, d5, d6, d7, d8, d9, d10⟩ := HK.out w0 (Below.refl _ _)
  go_wp2_with fail
  refine (HS1.out _ HB0.out).mono ?_
  rintro _ w1 ⟨rfl, hB1⟩
  have HB1 : Hid (Below w0.heap.size w0 w1) := hide hB1
  clear hB1
  clear c0 c1 c2 c3 c4 c5 c6 c7 c8 c9 c10 d0 d1 d2 d3 d4 d5 d6 d7 d8 d9 d10
  obtain ⟨c0, c1, c2, c3, c4, c5, c6, c7, c8, c9, c10, d0, d1, d2, d3, d4, d5, d6, d7, d8, d9, d10⟩ := HK.out w1 HB1.out
  go_wp2_with fail
  refine (HS2.out _ (HB0.out.trans (HB1.out.mono HB0.out.size))).mono ?_
  rintro _ w2 ⟨rfl, hB2⟩
  have HB2 : Hid (Below w0.heap.size w0 w2) := hide (HB1.out.trans (hB2.mono HB1.out.size))
  clear hB2
  clear c0 c1 c2 c3 c4 c5 c6 c7 c8 c9 c10 d0 d1 d2 d3 d4 d5 d6 d7 d8 d9 d10
  obtain ⟨c0, c1, c2, c3, c4, c5, c6, c7, c8, c9, c10, d0, d1, d2, d3, d4, d5, d6, d7, d8, d9, d10⟩ := HK.out w2 HB2.out
  go_wp2_with fail
  refine (HS3.out _ (HB0.out.trans (HB2.out.mono HB0.out.size))).mono ?_
  rintro _ w3 ⟨rfl, hB3⟩
  have HB3 : Hid (Below w0.heap.size w0 w3) := hide (HB2.out.trans (hB3.mono HB2.out.size))
  clear hB3
  clear c0 c1 c2 c3 c4 c5 c6 c7 c8 c9 c10 d0 d1 d2 d3 d4 d5 d6 d7 d8 d9 d10
  obtain ⟨c0, c1, c2, c3, c4, c5, c6, c7, c8, c9, c10, d0, d1, d2, d3, d4, d5, d6, d7, d8, d9, d10⟩ := HK.out w3 HB3.out
  go_wp2
  go_ret
  exact ⟨rfl, HB0.out.trans (HB3.out.mono HB0.out.size)⟩
end Go.Proofs.YtdmkjbdlidadiaaGreat

/- A pipe with both ends, the page's example, and a pipe that no call made. -/
namespace Go.Proofs.YtdmkjbdlidadiaaGreat
open Go.RowKit

theorem made_cells (n : Nat) : (madeCells (Value.int .u8 0).cells (n * 1)).toList = List.replicate n (.int .u8 0) := by
  apply List.ext_getElem?
  intro j
  by_cases hj : j < n
  · simp [madeCells, Value.cells, hj, Nat.mod_one]
  · simp [madeCells, Value.cells, hj]
theorem Turned.up {B g : Nat} {w0 w w' : World} (hB : Below B w0 w) (hT : Turned (fun k => k = g) w w') (hg : B ≤ g) (hs : B ≤ w.heap.size) : Below B w0 w' := hB.trans (hT.below (fun k e => by omega) hs)


end Go.Proofs.YtdmkjbdlidadiaaGreat

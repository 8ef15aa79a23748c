/- The statements' own example holds: alive answers true, and nothing that lay has turned. -/
import Derived.Test.YtnabnnckhdileaaFPrint
namespace Go.Proofs.Ytnabnnckhdileaa
open Go.RowKit

set_option maxHeartbeats 1000000 in
theorem num_any (x : Int) (w : World) :
    Calls Try.prog 15 #[.int .i64 x] w fun e w' => e = .returned (.int .i64 x) ∧ w' = w := by
  go_enter Try.func15, Try.ntmps15
  go_wp2
  go_ret
  exact ⟨rfl, rfl⟩

theorem ex_chk : chk [(1, 3), (2, 0)] = (0, 2) := by decide +kernel
theorem ex_prt : prt [(1, 3), (2, 0)] = [115, 51, 32, 105] := by decide +kernel
theorem ex_flts (w : World) : Flts (w.alloc (Obj.cells #[.int .i64 1, .int .i64 3, .int .i64 2, .int .i64 0] 60)) (.slice (some ⟨w.heap.size, 0, none⟩) 2 2) [(1, 3), (2, 0)] := by
  refine .inr (.inr ⟨w.heap.size, 0, 2, rfl, by decide, by decide, fun j hj => ?_⟩)
  simp only [World.cell?, heap_alloc_new]
  have : j = 0 ∨ j = 1 := by simp only [List.length_cons, List.length_nil] at hj; omega
  rcases this with rfl | rfl <;> exact ⟨rfl, rfl⟩

set_option maxRecDepth 100000 in
set_option maxHeartbeats 2000000 in
theorem alive_any (w : World) : Calls Try.prog 17 #[] w fun e w' => e = .returned (.bool true) ∧ Below w.heap.size w w' := by
  have HF := hide (ex_flts w)
  go_enter Try.func17, Try.ntmps17
  go_wp2_with fail
  refine (print_good _ _ _ HF.out (by rw [ex_chk])).mono ?_
  rintro e w1 ⟨rfl, hB1⟩
  rw [ex_prt]
  have HF1 := hide (HF.out.below hB1)
  have hB01 := ((Below.refl w.heap.size w).alloc (Nat.le_refl _) (Obj.cells #[.int .i64 1, .int .i64 3, .int .i64 2, .int .i64 0] 60)).trans (hB1.mono (Nat.le_of_lt (size_new _ _)))
  go_wp2_with fail
  refine (new_good _ _ _ HF1.out (by decide) (by rw [ex_chk])).mono ?_
  rintro e w2 ⟨g, v', rfl, hP, hg1, hg2, hob, hB2⟩
  have hB02 := hB01.trans (hB2.mono hB01.size)
  have hg0 : w.heap.size ≤ g := Nat.le_trans hB01.size hg1
  have HP := hide hP
  clear hP HF HF1 hob hB1 hB2 hg1 hB01
  go_wp2_with fail
  refine (num_any 0 _).mono ?_
  rintro e w3 ⟨rfl, rfl⟩
  go_wp2_with fail
  refine (num_any 0 _).mono ?_
  rintro e w4 ⟨rfl, rfl⟩
  go_wp2_with fail
  refine (next_some g v' _ _ 10 _ HP.out (by omega) (by omega) (by decide)).mono ?_
  rintro e w5 ⟨rfl, v5, hP5, hob5, hG5⟩
  rw [show nxt [(1, 3), (2, 0)] 10 = (3, 0) from by decide]
  have hB5 := hB02.grown hG5 hB02.size (fun k e => by cases e; exact hg0)
  have HP5 := hide hP5
  clear hP5 HP hG5 hob5
  go_wp2_with fail
  refine (next_some g v5 _ _ 10 _ HP5.out (by omega) (by omega) (by decide)).mono ?_
  rintro e w6 ⟨rfl, v6, hP6, hob6, hG6⟩
  rw [show nxt [(2, 0)] 10 = (0, 22) from by decide]
  have hB6 := hB5.grown hG6 hB5.size (fun k e => by cases e; exact hg0)
  have HP6 := hide hP6
  clear hP6 HP5 hG6 hob6
  go_wp2_with fail
  refine (next_end g v6 10 _ HP6.out (by omega) (by omega)).mono ?_
  rintro e w7 ⟨rfl, rfl⟩
  go_wp2_with fail
  refine (num_any 0 _).mono ?_
  rintro e w3 ⟨rfl, rfl⟩
  go_wp2_with fail
  refine (num_any 0 _).mono ?_
  rintro e w4 ⟨rfl, rfl⟩
  go_wp2_with fail
  refine (num_any 22 _).mono ?_
  rintro e w4 ⟨rfl, rfl⟩
  go_wp2
  go_ret
  exact ⟨rfl, hB6⟩
end Go.Proofs.Ytnabnnckhdileaa

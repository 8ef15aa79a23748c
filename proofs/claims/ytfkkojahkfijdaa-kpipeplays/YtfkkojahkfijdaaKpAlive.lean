/- A pipe with both ends, the page's example, and a pipe that no call made. -/
import Derived.Test.YtfkkojahkfijdaaKpRW
namespace Go.Proofs.Ytfkkojahkfijdaa
open Go.RowKit

theorem made_cells (n : Nat) : (madeCells (Value.int .u8 0).cells (n * 1)).toList = List.replicate n (.int .u8 0) := by
  apply List.ext_getElem?
  intro j
  by_cases hj : j < n
  · simp [madeCells, Value.cells, hj, Nat.mod_one]
  · simp [madeCells, Value.cells, hj]
theorem made_zeros {w w1 : World} {n : Nat} (h : w1.ownsRow w.heap.size 5 1 (.slice (some ⟨w.heap.size, 0, none⟩) n n) n (madeCells (Value.int .u8 0).cells (n * 1)).toList) (hg : w.grownBy w1 none) :
    ∃ Z : List UInt8, Z.length = n ∧ Hid (Bys w1 (.slice (some ⟨w.heap.size, 0, none⟩) n n) Z) ∧ Below w.heap.size w w1 := by
  refine ⟨List.replicate n 0, by simp, ?_, (Below.refl _ w).grown hg (Nat.le_refl _) (fun k e => by cases e)⟩
  rw [made_cells] at h
  refine Bys.of_owns (base := w.heap.size) ?_
  simpa [bv] using h

set_option maxRecDepth 100000 in
set_option maxHeartbeats 1000000 in
theorem both_any (w : World) :
    Calls Try.prog 28 #[] w fun e w' => e = .returned (.pointer (some ⟨w.heap.size, 0, none⟩)) ∧ PipeAt w' w.heap.size [] 1 1 ∧ Below w.heap.size w w' := by
  go_enter Try.func28, Try.ntmps28
  go_wp2_with fail
  refine (new_any w).mono ?_
  rintro e w1 ⟨rfl, hP, hB⟩
  have HP := hide hP
  clear hP
  go_wp2_with fail
  refine (join_any false _ [] 0 0 _ HP.out).mono ?_
  rintro e w2 ⟨rfl, hP, hT2⟩
  have HP := hide hP
  clear hP
  go_wp2_with fail
  refine (num_any _ _).mono ?_
  rintro e w3 ⟨rfl, rfl⟩
  go_wp2_with fail
  refine (join_any true _ [] 1 0 _ HP.out).mono ?_
  rintro e w4 ⟨rfl, hP, hT4⟩
  have HP := hide hP
  clear hP
  go_wp2_with fail
  refine (num_any _ _).mono ?_
  rintro e w5 ⟨rfl, rfl⟩
  simp only [joinE]
  go_wp2
  go_ret
  exact ⟨rfl, HP.out, (hB.trans (hT2.below (fun k e => by omega) (by have := hB.size; omega))).trans (hT4.below (fun k e => by omega) (by have := hB.size; have := hT2.size; omega))⟩

/-- What stays when a pipe that lies above turns. -/
theorem Turned.up {B g : Nat} {w0 w w' : World} (hB : Below B w0 w) (hT : Turned (fun k => k = g) w w') (hg : B ≤ g) (hs : B ≤ w.heap.size) : Below B w0 w' := hB.trans (hT.below (fun k e => by omega) hs)

set_option maxRecDepth 100000 in
set_option maxHeartbeats 2000000 in
theorem alive_any (w : World) :
    Calls Try.prog 27 #[] w fun e w' => e = .returned (.bool true) ∧ Below w.heap.size w w' := by
  obtain ⟨i0, hi, hz0, hz1, hz2⟩ := info_parts Try.infoB
  go_enter Try.func27, Try.ntmps27
  go_wp2_with fail
  refine (both_any w).mono ?_
  rintro e w1 ⟨rfl, hP, hB1⟩
  have hg1 := hP.lt
  have HP := hide hP
  clear hP
  generalize hg : w.heap.size = g at *
  have hgB : g ≤ w1.heap.size := by omega
  go_wp2_with fail
  refine (read_any 1 g [] 1 1 _ HP.out).mono ?_
  rintro e w2 ⟨v, rfl, -, hP, hT2⟩
  rw [show rdE 1 ([] : List UInt8).length 1 1 = 52 by decide]
  rw [show rdQ 1 [] 1 1 = [] by decide] at hP
  have HP := hide hP
  have hB2 := hT2.up hB1 (Nat.le_refl _) hgB
  have hs2 := hT2.size
  clear hP hT2
  go_wp2_with (at_make; refine wpList_make_full _ rfl _ _ 26 rfl w2.heap.size 5 i0 (.int .u8 0) 1 Try.underlying26 hi hz0 hz1 _ _ _ _ 4000 rfl rfl rfl rfl (by rw [hz2]; omega) (by unfold maxLen; omega) (Nat.le_refl _) ?_; intro w3 hown3 hgrow3; obtain ⟨Z, hZ, HZ, hB3⟩ := made_zeros hown3 hgrow3; clear hown3 hgrow3)
  refine (write_any 5000 g [] Z _ _ _ 1 1 _ (HP.out.below hB3) HZ.out (by omega) (by omega) (fun _ => by simp [Value.ownBlock]; omega)).mono ?_
  rintro e w4 ⟨rfl, hP, hT4⟩
  rw [show wrN Z.length 5000 ([] : List UInt8).length 1 1 = 4000 by rw [hZ]; decide] at hP ⊢
  rw [show wrE Z.length 5000 ([] : List UInt8).length 1 1 = 0 by rw [hZ]; decide]
  have hs3 := hB3.size
  have hs4 := hT4.size
  have hB4 := hT4.up (hB2.trans (hB3.mono (by omega))) (Nat.le_refl _) (by omega)
  obtain ⟨q, hq, hqe⟩ : ∃ q : List UInt8, q.length = 4000 ∧ q = [] ++ Z.take 4000 := ⟨_, by simp [hZ], rfl⟩
  rw [← hqe] at hP
  have HP := hide hP
  clear hP hT4 hqe hB3 HZ
  go_wp2_with (at_make; refine wpList_make_full _ rfl _ _ 26 rfl w4.heap.size 5 i0 (.int .u8 0) 1 Try.underlying26 hi hz0 hz1 _ _ _ _ 100 rfl rfl rfl rfl (by rw [hz2]; omega) (by unfold maxLen; omega) (Nat.le_refl _) ?_; intro w5 hown5 hgrow5; obtain ⟨Z5, hZ5, HZ5, hB5⟩ := made_zeros hown5 hgrow5; clear hown5 hgrow5)
  refine (write_any 100 g q Z5 _ _ _ 1 1 _ (HP.out.below hB5) HZ5.out (by omega) (by omega) (fun _ => by simp [Value.ownBlock]; omega)).mono ?_
  rintro e w6 ⟨rfl, hP, hT6⟩
  rw [show wrN Z5.length 100 q.length 1 1 = 0 by rw [hZ5, hq]; decide, List.take_zero, List.append_nil] at hP
  rw [show wrN Z5.length 100 q.length 1 1 = 0 by rw [hZ5, hq]; decide, show wrE Z5.length 100 q.length 1 1 = 52 by rw [hZ5, hq]; decide]
  have hs5 := hB5.size
  have hs6 := hT6.size
  have hB6 := hT6.up (hB4.trans (hB5.mono (by omega))) (Nat.le_refl _) (by omega)
  have HP := hide hP
  clear hP hT6 hB5 HZ5
  go_wp2_with (at_make; refine wpList_make_full _ rfl _ _ 26 rfl w6.heap.size 5 i0 (.int .u8 0) 1 Try.underlying26 hi hz0 hz1 _ _ _ _ 600 rfl rfl rfl rfl (by rw [hz2]; omega) (by unfold maxLen; omega) (Nat.le_refl _) ?_; intro w7 hown7 hgrow7; obtain ⟨Z7, hZ7, HZ7, hB7⟩ := made_zeros hown7 hgrow7; clear hown7 hgrow7)
  refine (write_any 600 g q Z7 _ _ _ 1 1 _ (HP.out.below hB7) HZ7.out (by omega) (by omega) (fun _ => by simp [Value.ownBlock]; omega)).mono ?_
  rintro e w8 ⟨rfl, -, hT8⟩
  rw [show wrN Z7.length 600 q.length 1 1 = 96 by rw [hZ7, hq]; decide, show wrE Z7.length 600 q.length 1 1 = 0 by rw [hZ7, hq]; decide]
  have hs7 := hB7.size
  have hB8 := hT8.up (hB6.trans (hB7.mono (by omega))) (Nat.le_refl _) (by omega)
  clear hT8 hB7 HZ7
  go_wp2_with fail
  refine (num_any _ _).mono ?_
  rintro e w9 ⟨rfl, rfl⟩
  go_wp2_with fail
  refine (num_any _ _).mono ?_
  rintro e w9 ⟨rfl, rfl⟩
  go_wp2_with fail
  refine (num_any _ _).mono ?_
  rintro e w9 ⟨rfl, rfl⟩
  go_wp2_with fail
  refine (num_any _ _).mono ?_
  rintro e w9 ⟨rfl, rfl⟩
  go_wp2
  go_ret
  exact ⟨rfl, hB8.mono (Nat.le_of_eq hg)⟩
end Go.Proofs.Ytfkkojahkfijdaa

/- FilePlays: the walk where the bytes are too many for a file. -/
import Derived.Test.YtdhdbakkhmmpjaaFiPair
namespace Go.Proofs.Ytdhdbakkhmmpjaa
open Go.RowKit

set_option maxRecDepth 100000 in
set_option maxHeartbeats 8000000 in
theorem plays_bad (v vs : Value) (l : List UInt8) (ss : List Stp) (w : World) (h : Bys w v l) (hss : Stps w vs ss) (hs : l.length ≤ 140737488351232) (hl : 1048576 < l.length) :
    Calls Try.prog 3 #[v, vs] w fun e w' => e = .returned (.bool true) ∧ Below w.heap.size w w' := by
  have H0 := hide h
  obtain ⟨a1, c1, rfl, -⟩ := bys_form h
  obtain ⟨sa, sc, rfl, -⟩ := hss
  clear h
  go_enter Try.func3, Try.ntmps3
  go_wp2_with fail
  refine (copy_any _ l _ H0.out hs).mono ?_
  rintro e w1 ⟨vo, rfl, hown, hB1⟩
  obtain ⟨ao, co, rfl⟩ := owns_slice hown
  have HO := hide hown
  clear hown
  go_wp2_with fail
  refine (new_bad _ l _ (Bys.of_owns HO.out) (by omega)).mono ?_
  rintro e w2 ⟨rfl, rfl⟩
  go_wp2_with fail
  refine (rnew_bad _ l _ (H0.out.below hB1) (by omega)).mono ?_
  rintro e w3 ⟨rfl, rfl⟩
  go_wp2_with fail
  refine (num_any _ _).mono ?_
  rintro e w4 ⟨rfl, rfl⟩
  clear HO
  go_wp2
  go_loopw [5, 9, 10, 11, 12, 13, 14, 15] (fun fp i _ _ _ _ _ _ wr => fp = .pointer none ∧ i = .int .i64 0 ∧ Below w.heap.size w wr) (fun _ _ _ _ _ _ _ _ _ => 0)
  case atStart => exact ⟨rfl, rfl, hB1⟩
  case round =>
    obtain ⟨rfl, rfl, hB⟩ := hrel
    go_wp2_with fail
    first | go_region_with (first | (go_at_call 21; refine (alive_any _).mono ?_; rintro e w7 ⟨rfl, hB7⟩)) | fail
    all_goals
      go_wp2
      go_ret
      exact ⟨rfl, hB.drew.trans (hB7.mono hB.size)⟩
end Go.Proofs.Ytdhdbakkhmmpjaa

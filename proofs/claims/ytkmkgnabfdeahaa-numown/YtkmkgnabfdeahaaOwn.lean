/- Answers are the caller's: what the statement NumOwn asks. -/
import Derived.Test.YtkmkgnabfdeahaaAlive
import Derived.Test.YtkmkgnabfdeahaaUnhex
import Derived.Test.YtkmkgnabfdeahaaPlain
namespace Go.Proofs.Ytkmkgnabfdeahaa
open Go.RowKit

theorem prs_le (l : List UInt8) : (uh l).1.length ≤ l.length := by
  unfold uh
  split
  · simp
  · split
    · simp
    · rw [prs_length]; omega

set_option maxHeartbeats 1000000 in
theorem own_walk (s : ByteArray) (w : World) (hs : s.size ≤ 140737488351232) :
    Calls Try.prog 7 #[.string s] w fun e w' => e = .returned (.bool true) ∧ Below w.heap.size w w' := by
  have hl : (uh s.data.toList).1.length ≤ 140737488351232 := Nat.le_trans (prs_le _) (by simpa using hs)
  go_enter Try.func7, Try.ntmps7
  go_wp2_with fail
  refine (alive_any _).mono ?_
  rintro e w1 ⟨rfl, hB1⟩
  go_wp2_with fail
  refine (unhex_any s _ (by omega)).mono ?_
  rintro e w2 ⟨x, rfl, hown2, hB2⟩
  generalize hr : uh s.data.toList = r at *
  obtain ⟨l, er, at'⟩ := r
  have HR := hide hr
  clear hr
  go_wp2_with fail
  refine (copy_any x l _ (Bys.of_owns hown2) hl).mono ?_
  rintro e w3 ⟨y, rfl, hown3, hB3⟩
  go_wp2_with fail
  refine (unhex_any s _ (by omega)).mono ?_
  rintro e w4 ⟨z, rfl, hown4, hB4⟩
  rw [HR.out] at hown4 ⊢
  go_wp2_with fail
  refine (spoil_any w3.heap.size z l.length _ _ hown4 (fun u hu => ?_) (by unfold maxLen; omega)).mono ?_
  · obtain ⟨c, _, rfl⟩ := List.mem_map.1 hu
    exact ⟨_, rfl⟩
  rintro e w5 ⟨rfl, hB5⟩
  have hX3 : Bys w3 x l := (Bys.of_owns hown2).below hB3
  have hY3 : Bys w3 y l := Bys.of_owns hown3
  have hB35 : Below w3.heap.size w3 w5 := hB4.trans hB5
  go_wp2_with fail
  refine (same_any x y l _ (hX3.below hB35) (hY3.below hB35) (by unfold maxLen; omega)).mono ?_
  rintro e w6 ⟨rfl, hB6⟩
  go_wp2
  go_ret
  have hB13 := hB1.trans ((hB2.trans (hB3.mono hB2.size)).mono hB1.size)
  exact ⟨rfl, (hB13.trans ((hB35.trans (hB6.mono hB35.size)).mono hB13.size))⟩
end Go.Proofs.Ytkmkgnabfdeahaa

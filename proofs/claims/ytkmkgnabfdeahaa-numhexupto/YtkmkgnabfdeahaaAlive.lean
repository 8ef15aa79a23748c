/- The statements' own example holds: alive answers true, and nothing that lay has turned. -/
import Derived.Test.YtkmkgnabfdeahaaNum
namespace Go.Proofs.Ytkmkgnabfdeahaa
open Go.RowKit

theorem digs_ff : digs 16 255 = [102, 102] := by decide +kernel
theorem parse_0FF : parseB 16 [48, 70, 70] = (255, 0, 3) := by decide +kernel
theorem parse_12 : parseB 2 [49, 50] = (0, 11, 1) := by decide +kernel
def minText : List UInt8 := [45, 57, 50, 50, 51, 51, 55, 50, 48, 51, 54, 56, 53, 52, 55, 55, 53, 56, 48, 56]
theorem dec_min : dec (-9223372036854775808) = minText := by decide +kernel
theorem pi_min {v x : Int} (h : PI minText v x) : v = -9223372036854775808 ∧ x = 0 := by
  rcases h with ⟨n, h0, h1, hd, rfl, rfl⟩ | ⟨hn, _, _⟩
  · refine ⟨?_, rfl⟩
    obtain ⟨_, q1⟩ := parse_neg (l := minText.tail) h0 h1 hd
    obtain ⟨_, q2⟩ := parse_neg (l := minText.tail) (by omega) (by omega) dec_min
    have := congrArg Prod.fst (q1.symm.trans q2)
    simp only at this
    omega
  · exact absurd dec_min (hn _ (by omega) (by omega))

set_option maxHeartbeats 1000000 in
theorem alive_any (w : World) : Calls Try.prog 16 #[] w fun e w' => e = .returned (.bool true) ∧ Below w.heap.size w w' := by
  go_enter Try.func16, Try.ntmps16
  go_wp2_with fail
  refine (base_yes 255 16 (by omega) (by omega) (by omega) (by omega) _).mono ?_
  rintro e w1 ⟨rfl, hB1⟩
  rw [show digs (16 : Int).toNat (255 : Int).toNat = [102, 102] from digs_ff]
  go_wp2_with fail
  refine (parseBase_any _ 16 _ (by decide)).mono ?_
  rintro e w2 ⟨rfl, rfl⟩
  rw [show parseB 16 (⟨#[48, 70, 70]⟩ : ByteArray).data.toList = (255, 0, 3) from parse_0FF]
  go_wp2_with fail
  refine (parseBase_any _ 2 _ (by decide)).mono ?_
  rintro e w3 ⟨rfl, rfl⟩
  rw [show parseB 2 (⟨#[49, 50]⟩ : ByteArray).data.toList = (0, 11, 1) from parse_12]
  go_wp2_with fail
  refine (parseInt_any _ _ (by decide)).mono ?_
  rintro e w4 ⟨⟨v, x, hP, rfl⟩, hB4⟩
  obtain ⟨rfl, rfl⟩ := pi_min hP
  go_wp2
  go_ret
  exact ⟨rfl, hB1.trans (hB4.mono hB1.size)⟩
end Go.Proofs.Ytkmkgnabfdeahaa

/- What the small functions of num and of its reference answer, for every input: value, isBase. -/
import Derived.Test.YtibnpeipndkciaaRows
import Derived.WalkKit
import Derived.WalkSpells
import Derived.WalkLawsBesides
namespace Go.Proofs.Ytibnpeipndkciaa
open Go.RowKit

/-- The value of a digit's byte; 16: it is none. -/
def valI (c : Int) : Int := if 48 ≤ c ∧ c ≤ 57 then c - 48 else if 97 ≤ c ∧ c ≤ 102 then c - 87 else if 65 ≤ c ∧ c ≤ 70 then c - 55 else 16

theorem valI_bd (c : Int) : 0 ≤ valI c ∧ valI c ≤ 16 := by unfold valI; split <;> (try split) <;> (try split) <;> omega

theorem hide {p : Prop} (h : p) : Hid p := h
theorem ret_int {k : IntKind} {a b : Int} (h : a = b) : Ending.returned (.int k a) = .returned (.int k b) := by rw [h]
theorem ret2 {a b : Value} {a' b' : Value} (h1 : a = a') (h2 : b = b') : Ending.returned (.tuple #[a, b]) = .returned (.tuple #[a', b']) := by rw [h1, h2]
theorem ret_bool {a b : Bool} (h : a = b) : Ending.returned (.bool a) = .returned (.bool b) := by rw [h]

/-- May b be a base? -/
def baseB (b : Int) : Bool := decide (2 ≤ b ∧ b ≤ 16)
theorem baseB_yes {b : Int} (h1 : 2 ≤ b) (h2 : b ≤ 16) : baseB b = true := by simp [baseB, h1, h2]
theorem baseB_no {b : Int} (h : ¬ (2 ≤ b ∧ b ≤ 16)) : baseB b = false := by simp only [baseB, decide_eq_false_iff_not]; exact h


end Go.Proofs.Ytibnpeipndkciaa

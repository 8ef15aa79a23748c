/- What the small functions of num and of its reference answer, for every input: value, isBase. -/
import Derived.Test.YtnabnnckhdileaaRows
import Derived.WalkKit
import Derived.WalkSpells
import Derived.WalkLawsBesides
namespace Go.Proofs.Ytnabnnckhdileaa
open Go.RowKit

/-- The value of a digit's byte; 16: it is none. -/
def valI (c : Int) : Int := if 48 ≤ c ∧ c ≤ 57 then c - 48 else if 97 ≤ c ∧ c ≤ 102 then c - 87 else if 65 ≤ c ∧ c ≤ 70 then c - 55 else 16

theorem valI_bd (c : Int) : 0 ≤ valI c ∧ valI c ≤ 16 := by unfold valI; split <;> (try split) <;> (try split) <;> omega

theorem hide {p : Prop} (h : p) : Hid p := h
theorem ret_int {k : IntKind} {a b : Int} (h : a = b) : Ending.returned (.int k a) = .returned (.int k b) := by rw [h]
theorem ret2 {a b : Value} {a' b' : Value} (h1 : a = a') (h2 : b = b') : Ending.returned (.tuple #[a, b]) = .returned (.tuple #[a', b']) := by rw [h1, h2]
theorem ret_bool {a b : Bool} (h : a = b) : Ending.returned (.bool a) = .returned (.bool b) := by rw [h]

set_option maxHeartbeats 400000 in
theorem value_any (c : Int) (h0 : 0 ≤ c) (h1 : c ≤ 255) (w : World) :
    Calls Try.prog 60 #[.int .u8 c] w fun e w' => e = .returned (.int .u64 (valI c)) ∧ w' = w := by
  rcases (show (48 ≤ c ∧ c ≤ 57) ∨ (97 ≤ c ∧ c ≤ 102) ∨ (65 ≤ c ∧ c ≤ 70) ∨ c < 48 ∨ (57 < c ∧ c < 65) ∨ (70 < c ∧ c < 97) ∨ 102 < c by omega) with a | a | a | a | a | a | a
  · obtain ⟨a1, a2⟩ := a
    go_enter Try.func60, Try.ntmps60
    go_wp2
    go_ret
    exact ⟨ret_int (by unfold valI; rw [if_pos (by omega)]), rfl⟩
  · obtain ⟨a1, a2⟩ := a
    go_enter Try.func60, Try.ntmps60
    go_wp2
    go_ret
    exact ⟨ret_int (by unfold valI; rw [if_neg (by omega), if_pos (by omega)]; omega), rfl⟩
  · obtain ⟨a1, a2⟩ := a
    go_enter Try.func60, Try.ntmps60
    go_wp2
    go_ret
    exact ⟨ret_int (by unfold valI; rw [if_neg (by omega), if_neg (by omega), if_pos (by omega)]; omega), rfl⟩
  all_goals
    (try obtain ⟨a1, a2⟩ := a)
    go_enter Try.func60, Try.ntmps60
    go_wp2
    go_ret
    exact ⟨ret_int (by unfold valI; rw [if_neg (by omega), if_neg (by omega), if_neg (by omega)]), rfl⟩

set_option maxHeartbeats 400000 in
theorem rvalue_any (c : Int) (h0 : 0 ≤ c) (h1 : c ≤ 255) (w : World) :
    Calls Try.prog 62 #[.int .u8 c] w fun e w' => e = .returned (.int .i64 (valI c)) ∧ w' = w := by
  rcases (show (48 ≤ c ∧ c ≤ 57) ∨ (97 ≤ c ∧ c ≤ 102) ∨ (65 ≤ c ∧ c ≤ 70) ∨ c < 48 ∨ (57 < c ∧ c < 65) ∨ (70 < c ∧ c < 97) ∨ 102 < c by omega) with a | a | a | a | a | a | a
  · obtain ⟨a1, a2⟩ := a
    go_enter Try.func62, Try.ntmps62
    go_wp2
    go_ret
    exact ⟨ret_int (by unfold valI; rw [if_pos (by omega)]), rfl⟩
  · obtain ⟨a1, a2⟩ := a
    go_enter Try.func62, Try.ntmps62
    go_wp2
    go_ret
    exact ⟨ret_int (by unfold valI; rw [if_neg (by omega), if_pos (by omega)]; omega), rfl⟩
  · obtain ⟨a1, a2⟩ := a
    go_enter Try.func62, Try.ntmps62
    go_wp2
    go_ret
    exact ⟨ret_int (by unfold valI; rw [if_neg (by omega), if_neg (by omega), if_pos (by omega)]; omega), rfl⟩
  all_goals
    (try obtain ⟨a1, a2⟩ := a)
    go_enter Try.func62, Try.ntmps62
    go_wp2
    go_ret
    exact ⟨ret_int (by unfold valI; rw [if_neg (by omega), if_neg (by omega), if_neg (by omega)]), rfl⟩

/-- May b be a base? -/
def baseB (b : Int) : Bool := decide (2 ≤ b ∧ b ≤ 16)
theorem baseB_yes {b : Int} (h1 : 2 ≤ b) (h2 : b ≤ 16) : baseB b = true := by simp [baseB, h1, h2]
theorem baseB_no {b : Int} (h : ¬ (2 ≤ b ∧ b ≤ 16)) : baseB b = false := by simp only [baseB, decide_eq_false_iff_not]; exact h

set_option maxHeartbeats 400000 in
theorem isBase_yes (b : Int) (h1 : 2 ≤ b) (h2 : b ≤ 16) (w : World) :
    Calls Try.prog 59 #[.int .i64 b] w fun e w' => e = .returned (.bool true) ∧ w' = w := by
  go_enter Try.func59, Try.ntmps59
  go_wp2
  go_ret
  exact ⟨rfl, rfl⟩

set_option maxHeartbeats 400000 in
theorem isBase_no (b : Int) (h : b < 2 ∨ 16 < b) (w : World) :
    Calls Try.prog 59 #[.int .i64 b] w fun e w' => e = .returned (.bool false) ∧ w' = w := by
  rcases h with h | h
  · go_enter Try.func59, Try.ntmps59
    go_wp2
    go_ret
    exact ⟨rfl, rfl⟩
  · have hd : decide (b ≤ 16) = false := by simpa using h
    go_enter Try.func59, Try.ntmps59
    go_wp2
    go_ret
    exact ⟨rfl, rfl⟩
end Go.Proofs.Ytnabnnckhdileaa

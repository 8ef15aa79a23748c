/- Faults: what a fault that may be is, and what mayBe, may answer. -/
import Derived.Test.YtnabnnckhdileaaLeaf
namespace Go.Proofs.Ytnabnnckhdileaa
open Go.RowKit

/-- A fault as a value. -/
def fv (x : Int × Int) : Value := .agg #[.int .i64 x.1, .int .i64 x.2]
/-- A fault may be. -/
def may (x : Int × Int) : Bool := if x.1 = 1 then decide (1 ≤ x.2 ∧ x.2 ≤ 1048576) else decide (0 ≤ x.1 ∧ x.1 ≤ 3 ∧ x.2 = 0)

theorem may_one (n : Int) : may (1, n) = decide (1 ≤ n ∧ n ≤ 1048576) := by simp [may]
theorem may_else {k n : Int} (h : k ≠ 1) : may (k, n) = decide (0 ≤ k ∧ k ≤ 3 ∧ n = 0) := by simp [may, h]

set_option maxHeartbeats 1000000 in
theorem mayBe_any (k n : Int) (w : World) :
    Calls Try.prog 26 #[.agg #[.int .i64 k, .int .i64 n]] w fun e w' => e = .returned (.bool (may (k, n))) ∧ Below w.heap.size w w' := by
  by_cases h1 : k = 1
  · subst h1
    rw [may_one]
    go_enter Try.func26, Try.ntmps26
    go_wp2
    all_goals
      go_ret
      exact ⟨ret_bool (by first | (simp; done) | (simp; omega) | (simp_all; done)), (Below.refl _ _).alloc (Nat.le_refl _) _⟩
  · rw [may_else h1]
    by_cases h2 : 0 ≤ k
    · by_cases h3 : k ≤ 3
      · go_enter Try.func26, Try.ntmps26
        go_wp2
        all_goals
          go_ret
          exact ⟨ret_bool (by simp [h2, h3]; by_cases hn : n = 0 <;> simp [hn]), (Below.refl _ _).alloc (Nat.le_refl _) _⟩
      · go_enter Try.func26, Try.ntmps26
        go_wp2
        all_goals
          go_ret
          exact ⟨ret_bool (by simp; omega), (Below.refl _ _).alloc (Nat.le_refl _) _⟩
    · go_enter Try.func26, Try.ntmps26
      go_wp2
      all_goals
        go_ret
        exact ⟨ret_bool (by simp; omega), (Below.refl _ _).alloc (Nat.le_refl _) _⟩
set_option maxHeartbeats 1000000 in
theorem may_any (k n : Int) (w : World) :
    Calls Try.prog 27 #[.agg #[.int .i64 k, .int .i64 n]] w fun e w' => e = .returned (.bool (may (k, n))) ∧ Below w.heap.size w w' := by
  by_cases h1 : k = 1
  · subst h1
    rw [may_one]
    go_enter Try.func27, Try.ntmps27
    go_wp2
    all_goals
      go_ret
      exact ⟨ret_bool (by first | (simp; done) | (simp; omega) | (simp_all; done)), (Below.refl _ _).alloc (Nat.le_refl _) _⟩
  · rw [may_else h1]
    by_cases h2 : 0 ≤ k
    · by_cases h3 : k ≤ 3
      · go_enter Try.func27, Try.ntmps27
        go_wp2
        all_goals
          go_ret
          exact ⟨ret_bool (by simp [h2, h3]; by_cases hn : n = 0 <;> simp [hn]), (Below.refl _ _).alloc (Nat.le_refl _) _⟩
      · go_enter Try.func27, Try.ntmps27
        go_wp2
        all_goals
          go_ret
          exact ⟨ret_bool (by simp; omega), (Below.refl _ _).alloc (Nat.le_refl _) _⟩
    · go_enter Try.func27, Try.ntmps27
      go_wp2
      all_goals
        go_ret
        exact ⟨ret_bool (by simp; omega), (Below.refl _ _).alloc (Nat.le_refl _) _⟩
end Go.Proofs.Ytnabnnckhdileaa

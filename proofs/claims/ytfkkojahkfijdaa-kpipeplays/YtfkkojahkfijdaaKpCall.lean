/- What the calls of a pipe answer, and what they leave: New, Join, Leave, Held, Ends, CanRead, CanWrite. -/
import Derived.Test.YtfkkojahkfijdaaKpPut
namespace Go.Proofs.Ytfkkojahkfijdaa
open Go.RowKit

/-- The cells of a pipe as they are made. -/
def newCells (x : Bool) : List Value := .bool x :: (List.replicate 4096 (.int .u8 0) ++ [.int .i64 0, .int .i64 0, .int .i64 0, .int .i64 0])
/-- All but the first of them. -/
def newTail : List Value := List.replicate 4096 (.int .u8 0) ++ [.int .i64 0, .int .i64 0, .int .i64 0, .int .i64 0]
theorem zero_pipe (w : World) : (zeroValue 58).run Try.prog w = .ok (.agg (.bool false :: newTail).toArray) w := by kernel_rfl
theorem newCells_pipe : newCells true = pcells (List.replicate 4096 (.int .u8 0)) 0 0 0 0 := rfl

set_option maxRecDepth 100000 in
set_option maxHeartbeats 1000000 in
theorem new_any (w : World) :
    Calls Try.prog 8 #[] w fun e w' => e = .returned (.pointer (some ⟨w.heap.size, 0, none⟩)) ∧ PipeAt w' w.heap.size [] 0 0 ∧ Below w.heap.size w w' := by
  obtain ⟨T, hT⟩ : ∃ T, T = newTail := ⟨_, rfl⟩
  have hz : ∀ w, (zeroValue 58).run Try.prog w = .ok (.agg (.bool false :: T).toArray) w := fun w => by rw [hT]; exact zero_pipe w
  have HT := hide hT
  clear hT
  go_enter Try.func8, Try.ntmps8
  go_wp2
  go_ret
  exact ⟨rfl, ⟨_, 0, ⟨by rw [heap_alloc_new w _, HT.out]; rfl, List.length_replicate, by omega, by simp, by omega, by omega⟩, by simp [RHeld]⟩, (Below.refl _ w).alloc (Nat.le_refl _) _⟩
end Go.Proofs.Ytfkkojahkfijdaa

/- A string of one byte. -/
import Derived.Test.YtnabnnckhdileaaNum
namespace Go.Proofs.Ytnabnnckhdileaa
open Go.RowKit

theorem cell_new_at (W : World) (c : Int) (t : TypeId) : ∀ i, i < 1 → (W.alloc (.cells #[.int .u8 c] t)).cell? ⟨W.heap.size, 0 + i, none⟩ = some (.int .u8 ([c].getD i 0)) := by
  intro i hi
  obtain rfl : i = 0 := by omega
  exact (Boxed.new W t (.int .u8 c)).cell
/-- 'string([]byte{c})'. -/
theorem one_str (W : World) (c : Int) : (convert 75 9 (.slice (some ⟨W.heap.size, 0, none⟩) 1 1)).run Try.prog (W.alloc (.cells #[.int .u8 c] 5)) = .ok (.string (strOfNums [c])) (W.alloc (.cells #[.int .u8 c] 5)) :=
  run_convert_bytes_arg _ 75 5 Try.underlying75 Try.underlying5 W.heap.size 0 1 1 [c] rfl (cell_new_at W c _) _ Try.underlying9
end Go.Proofs.Ytnabnnckhdileaa

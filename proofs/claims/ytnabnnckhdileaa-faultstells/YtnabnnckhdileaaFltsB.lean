/- SameFaults and the reference's Check, for any faults. -/
import Derived.Test.YtnabnnckhdileaaFlts
import Derived.Laws.StructEq
namespace Go.Proofs.Ytnabnnckhdileaa
open Go.RowKit

theorem neq_same (a b : Int) (W : World) : (binOp .neq 60 (.agg #[.int .i64 a, .int .i64 b]) (.agg #[.int .i64 a, .int .i64 b])).run Try.prog W = .ok (.bool false) W := by
  have u3 := Try.underlying3
  have a3 := Try.isAgg3
  have z3 := Try.sizeOf3
  have hS : Try.prog.underlying 60 = some (.struct (Try.prog.fieldsOf 60)) := by kernel_rfl
  have hp : Try.prog.stoodInHeld 60 = false := by kernel_rfl
  rw [run_neq_struct, show (10000 : Nat) = 9999 + 1 from rfl, run_equalIn_agg W _ 60 _ _ hS hp]
  simp only [Program.fieldsOf, Try.underlying60]
  go_simp

theorem guard_fault (op : BinOp) (x y : Operand) (xs ys : Array Value) (w : World) : (eqGuard op 60 x y (.agg xs) (.agg ys)).run Try.prog w = .ok () w :=
  run_eqGuard_agg w op 60 x y xs ys (by kernel_rfl)

set_option maxRecDepth 100000 in
set_option maxHeartbeats 1000000 in
theorem samef_any (v1 v2 : Value) (l : List Fault) (w : World) (h1 : Flts w v1 l) (h2 : Flts w v2 l) (hs : l.length ≤ maxLen) :
    Calls Try.prog 16 #[v1, v2] w fun e w' => e = .returned (.bool true) ∧ Below w.heap.size w w' := by
  unfold maxLen at hs
  obtain ⟨a1, c1, rfl, hc1⟩ := flts_form h1
  obtain ⟨a2, c2, rfl, hc2⟩ := flts_form h2
  have HC1 := hide hc1
  have HC2 := hide hc2
  clear hc1 hc2 h1 h2
  go_enter Try.func16, Try.ntmps16
  go_wp2
  go_loopw [5] (fun i wr => ∃ (k : Nat), k ≤ l.length ∧ i = .int .i64 k ∧ ∃ q, wr = w.drewN q) (fun i _ => l.length - (intOf i).toNat)
  case atStart => exact ⟨0, Nat.zero_le _, rfl, 0, rfl⟩
  case round =>
    obtain ⟨k, hk, rfl, q, rfl⟩ := hrel
    by_cases hlt : k < l.length
    · obtain ⟨b1, o1, rfl, hc1⟩ := HC1.out (by omega)
      obtain ⟨b2, o2, rfl, hc2⟩ := HC2.out (by omega)
      obtain ⟨g1, g1'⟩ := hc1 k hlt
      obtain ⟨g2, g2'⟩ := hc2 k hlt
      clear hc1 hc2 HC1 HC2
      have hk1 : (0 : Int) ≤ (k : Int) := by omega
      have hk2 : (k : Int) < (l.length : Int) := by omega
      generalize (l.getD k (0, 0)).1 = x at g1 g2
      generalize (l.getD k (0, 0)).2 = y at g1' g2'
      have hq := neq_same x y
      have hg := guard_fault .neq
      go_wp2
      go_quiet (fail)
      go_wp2
      go_roundw
      case rel => exact ⟨k + 1, by omega, by go_num, _, rfl⟩
      case measure => simp [intOf]; omega
    · go_wp2
      go_ret
      exact ⟨rfl, below_drewN (Below.refl _ _) _⟩
end Go.Proofs.Ytnabnnckhdileaa

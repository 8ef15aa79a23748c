/- Openmode: the page's examples. -/
import Derived.Test.YtlkohgnapaoegaaOmPrint
namespace Go.Proofs.Ytlkohgnapaoegaa
open Go.RowKit

theorem num_om (e : Int) (w : World) : Calls Try.prog 8 #[.int .i64 e] w fun r w' => r = .returned (.int .i64 e) ∧ w' = w := by
  go_enter Try.func8, Try.ntmps8
  go_wp2
  go_ret
  exact ⟨rfl, rfl⟩
def mo1 : Mo := ⟨true, true, false, false, false, false, true, false⟩
theorem ex1 : prs mo0 0 [114, 98, 43] = (mo1, 0, 3) := by decide +kernel
theorem ex2 : chkM mo1 = 0 ∧ prt mo1 = [114, 43, 98] := by decide +kernel
theorem ex3 : prs mo0 0 [114, 120] = (mo0, 91, 1) := by decide +kernel
set_option maxRecDepth 100000 in
set_option maxHeartbeats 1000000 in
theorem oalive_any (w : World) : Calls Try.prog 9 #[] w fun e w' => e = .returned (.bool true) ∧ Below w.heap.size w w' := by
  have h1 := hide (fun w => parse_any ⟨#[114, 98, 43]⟩ w (by unfold maxLen; decide))
  have h2 := hide (print_any mo1)
  have h3 := hide (fun w => parse_any ⟨#[114, 120]⟩ w (by unfold maxLen; decide))
  simp only [ex1] at h1
  simp only [ex3] at h3
  rw [ex2.1, ex2.2] at h2
  have hn := hide num_om
  simp only [mv, mo1, mo0] at h1 h2 h3
  go_enter Try.func9, Try.ntmps9
  go_wp2_with fail
  refine (h1.out _).mono ?_
  rintro e1 w1 ⟨rfl, hB1⟩
  go_wp2_with fail
  refine (h2.out _).mono ?_
  rintro e2 w2 ⟨rfl, hB2⟩
  go_wp2_with fail
  refine (h3.out _).mono ?_
  rintro e3 w3 ⟨rfl, hB3⟩
  have hM : ∀ o, MoAt (w3.alloc o) w1.heap.size mo1 := fun o => (((show MoAt (w1.alloc (Obj.cells (mc mo1) 23)) w1.heap.size mo1 from heap_alloc_new _ _).below hB2).below hB3).below ((Below.refl _ _).alloc (Nat.le_refl _) o)
  have c0 : ∀ o, (w3.alloc o).cell? ⟨w1.heap.size, 0, none⟩ = some (.bool true) := fun o => (hM o).cell 0
  have c1 : ∀ o, (w3.alloc o).cell? ⟨w1.heap.size, 1, none⟩ = some (.bool true) := fun o => (hM o).cell 1
  have c6 : ∀ o, (w3.alloc o).cell? ⟨w1.heap.size, 6, none⟩ = some (.bool true) := fun o => (hM o).cell 6
  have hBB : ∀ o, Below w.heap.size w (w3.alloc o) := fun o => by
    have q2 := (hB1.alloc hB1.size (Obj.cells (mc mo1) 23)).trans (hB2.mono (Nat.le_trans hB1.size (Nat.le_of_lt (size_new _ _))))
    have q3 := q2.trans (hB3.mono q2.size)
    exact q3.alloc q3.size o
  have HBB := hide hBB
  clear hM hBB hB1 hB2 hB3 h1 h2 h3
  go_wp2_with (go_at_call 8; refine (hn.out _ _).mono ?_; rintro e w' ⟨rfl, rfl⟩)
  go_ret
  exact ⟨rfl, HBB.out _⟩
end Go.Proofs.Ytlkohgnapaoegaa

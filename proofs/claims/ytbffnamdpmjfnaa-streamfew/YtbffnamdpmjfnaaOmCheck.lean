/- Openmode: Check, Print, Flags of both. -/
import Derived.Test.YtbffnamdpmjfnaaOmRef2
namespace Go.Proofs.Ytbffnamdpmjfnaa
open Go.RowKit

theorem spl_len (m : Mo) : (spl m).length ≤ 7 := splK_len m 7
/-- What Check answers. -/
def chkM (m : Mo) : Int := if (prs mo0 0 (spl m)).2.1 = 0 ∧ (prs mo0 0 (spl m)).1 = m then 0 else 91
set_option maxRecDepth 100000 in
set_option maxHeartbeats 1000000 in
theorem ocheck_any (m : Mo) (w : World) : Calls Try.prog 17 #[mv m] w fun e w' => e = .returned (.int .i64 (chkM m)) ∧ Below w.heap.size w w' := by
  generalize hR : chkM m = R
  have HR := hide hR
  clear hR
  have hsp := hide (ospell_any m)
  have hpr := hide (fun w => oparse_any ⟨(spl m).toArray⟩ w (by have := spl_len m; unfold maxLen; simp [ByteArray.size]; omega))
  simp only at hpr
  unfold chkM at HR
  generalize hq : prs mo0 0 (spl m) = q at *
  have HQ := hide hq
  clear hq
  obtain ⟨x, e, n⟩ := q
  simp only [mv] at hsp hpr ⊢
  go_enter Try.func17, Try.ntmps17
  go_wp2_with fail
  refine (hsp.out _).mono ?_
  rintro e1 w1 ⟨rfl, hB1⟩
  go_wp2_with fail
  refine (hpr.out _).mono ?_
  rintro e2 w2 ⟨rfl, hB2⟩
  have hA : MoAt (w.alloc (Obj.cells (mc m) 34)) w.heap.size m := heap_alloc_new _ _
  have hB12 := hB1.trans (hB2.mono hB1.size)
  have hM2 : ∀ o, MoAt (w2.alloc o) w.heap.size m := fun o => (hA.below hB12).below ((Below.refl _ _).alloc (Nat.le_refl _) o)
  have hBB : Below w.heap.size w w2 := ((Below.refl w.heap.size w).alloc (Nat.le_refl _) _).trans (hB12.mono (Nat.le_of_lt (size_new _ _)))
  have c0 := fun o => (hM2 o).mc.1
  have c1 := fun o => (hM2 o).mc.2.1
  have c2 := fun o => (hM2 o).mc.2.2.1
  have c3 := fun o => (hM2 o).mc.2.2.2.1
  have c4 := fun o => (hM2 o).mc.2.2.2.2.1
  have c5 := fun o => (hM2 o).mc.2.2.2.2.2.1
  have c6 := fun o => (hM2 o).mc.2.2.2.2.2.2.1
  have c7 := fun o => (hM2 o).mc.2.2.2.2.2.2.2
  have HBB := hide hBB
  clear hB1 hB2 hB12 hM2 hA hBB hsp hpr
  by_cases he : e = 0
  · subst he
    have hr : R = if x = m then 0 else 91 := by rw [← HR.out]; simp
    have HRR := hide hr
    clear hr
    go_wp2
    all_goals go_ret
    all_goals refine ⟨ret_int ?_, HBB.out.alloc HBB.out.size _⟩
    all_goals rw [HRR.out]
    all_goals
      by_cases hxm : x = m
      · first | (rw [if_pos hxm]; done) | (exfalso; subst hxm; simp_all; done)
      · first | (rw [if_neg hxm]; done) | (exfalso; refine hxm ?_; cases x; cases m; simp_all; done)
  · have hr : R = 91 := by rw [← HR.out]; simp [he]
    subst hr
    go_wp2
    all_goals go_ret
    all_goals exact ⟨rfl, HBB.out.alloc HBB.out.size _⟩
theorem rspl_len (m : Mo) : (rspl m).length ≤ 7 := by
  simp only [rspl, List.length_append]
  repeat' split
  all_goals simp
/-- What the reference's Check answers. -/
def chkR (m : Mo) : Int := if (prs mo0 0 (rspl m)).2.1 = 0 ∧ (prs mo0 0 (rspl m)).1 = m then 0 else 91
theorem chk_same (m : Mo) : chkR m = chkM m := by
  obtain ⟨a, b, c, d, e, f, g, h⟩ := m
  revert a b c d e f g h
  decide +kernel
theorem chk_two (m : Mo) : chkM m = 0 ∨ chkM m = 91 := by unfold chkM; split <;> simp
theorem spl_same (m : Mo) (hm : chkM m = 0) : rspl m = spl m := by
  obtain ⟨a, b, c, d, e, f, g, h⟩ := m
  revert hm
  revert a b c d e f g h
  decide +kernel
end Go.Proofs.Ytbffnamdpmjfnaa

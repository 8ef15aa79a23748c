/- Openmode: Check, Print, Flags of both. -/
import Derived.Test.YtlkohgnapaoegaaOmRef2
namespace Go.Proofs.Ytlkohgnapaoegaa
open Go.RowKit

set_option maxRecDepth 100000 in
set_option maxHeartbeats 4000000 in
theorem rparse_any (s : ByteArray) (w : World) (hs : s.size ≤ maxLen) : Calls Try.prog 7 #[.string s] w fun e w' => e = .returned (.tuple #[mv (prs mo0 0 s.data.toList).1, .int .i64 (prs mo0 0 s.data.toList).2.1, .int .i64 (prs mo0 0 s.data.toList).2.2]) ∧ Below w.heap.size w w' := by
  have hlen : s.data.toList.length = s.size := by simp
  by_cases h0 : s.size = 0
  · have hn : s.data.toList = [] := List.eq_nil_of_length_eq_zero (by omega)
    have he : s.toList.isEmpty = true := by rw [ByteArray.toList_eq, hn]; rfl
    rw [hn]
    have HN := hide hn
    clear hn
    go_enter Try.func7, Try.ntmps7
    go_wp2
    refine bodyPost_ret (res_mode rfl _ w.heap.size rfl mo0 (heap_alloc_new _ _)) rfl ?_
    exact ⟨rfl, (Below.refl _ _).alloc (Nat.le_refl _) _⟩
  · have h1 : 0 < s.size := by omega
    by_cases b1 : s.data.toList.getD 0 0 = 114
    · exact rparse_good 0 (by decide) s w hs h1 b1
    by_cases b2 : s.data.toList.getD 0 0 = 119
    · exact rparse_good 1 (by decide) s w hs h1 b2
    by_cases b3 : s.data.toList.getD 0 0 = 97
    · exact rparse_good 2 (by decide) s w hs h1 b3
    have he : s.toList.isEmpty = false := by
      rw [ByteArray.toList_eq]
      cases hq : s.data.toList with
      | nil => rw [hq] at hlen; simp at hlen; omega
      | cons _ _ => rfl
    have hp : prs mo0 0 s.data.toList = (mo0, 91, 0) := by
      have := prs_stop (m := mo0) (i := 0) (l := s.data.toList) (by omega) (by rw [step_first]; simp only [b1, b2, b3, if_false])
      simpa using this
    rw [hp]
    have g1 : ((s[0]'h1).toNat : Int) ≠ 114 := by rw [at_getD]; exact fun e => b1 (UInt8.toNat_inj.1 (show _ = 114 by omega))
    have g2 : ((s[0]'h1).toNat : Int) ≠ 119 := by rw [at_getD]; exact fun e => b2 (UInt8.toNat_inj.1 (show _ = 119 by omega))
    have g3 : ((s[0]'h1).toNat : Int) ≠ 97 := by rw [at_getD]; exact fun e => b3 (UInt8.toNat_inj.1 (show _ = 97 by omega))
    have h0i : (0 : Int) < (s.size : Int) := by omega
    clear b1 b2 b3 hp
    go_enter Try.func7, Try.ntmps7
    go_wp2
    refine bodyPost_ret (res_mode rfl _ w.heap.size rfl mo0 (MoAt.below (W := w.alloc (Obj.cells (mc mo0) 23)) (heap_alloc_new _ _) ((Below.refl _ _).alloc (Nat.le_refl _) _))) rfl ?_
    exact ⟨rfl, ((Below.refl w.heap.size w).alloc (Nat.le_refl _) _).alloc (by simp) _⟩
theorem spl_len (m : Mo) : (spl m).length ≤ 7 := splK_len m 7
/-- What Check answers. -/
def chkM (m : Mo) : Int := if (prs mo0 0 (spl m)).2.1 = 0 ∧ (prs mo0 0 (spl m)).1 = m then 0 else 91
set_option maxRecDepth 100000 in
set_option maxHeartbeats 1000000 in
theorem check_any (m : Mo) (w : World) : Calls Try.prog 14 #[mv m] w fun e w' => e = .returned (.int .i64 (chkM m)) ∧ Below w.heap.size w w' := by
  generalize hR : chkM m = R
  have HR := hide hR
  clear hR
  have hsp := hide (spell_any m)
  have hpr := hide (fun w => parse_any ⟨(spl m).toArray⟩ w (by have := spl_len m; unfold maxLen; simp [ByteArray.size]; omega))
  simp only at hpr
  unfold chkM at HR
  generalize hq : prs mo0 0 (spl m) = q at *
  have HQ := hide hq
  clear hq
  obtain ⟨x, e, n⟩ := q
  simp only [mv] at hsp hpr ⊢
  go_enter Try.func14, Try.ntmps14
  go_wp2_with fail
  refine (hsp.out _).mono ?_
  rintro e1 w1 ⟨rfl, hB1⟩
  go_wp2_with fail
  refine (hpr.out _).mono ?_
  rintro e2 w2 ⟨rfl, hB2⟩
  have hA : MoAt (w.alloc (Obj.cells (mc m) 23)) w.heap.size m := heap_alloc_new _ _
  have hB12 := hB1.trans (hB2.mono hB1.size)
  have hM2 : ∀ o, MoAt (w2.alloc o) w.heap.size m := fun o => (hA.below hB12).below ((Below.refl _ _).alloc (Nat.le_refl _) o)
  have hBB : Below w.heap.size w w2 := ((Below.refl w.heap.size w).alloc (Nat.le_refl _) _).trans (hB12.mono (Nat.le_of_lt (size_new _ _)))
  have c0 := fun o => (hM2 o).mc.1
  have c1 := fun o => (hM2 o).mc.2.1
  have c2 := fun o => (hM2 o).mc.2.2.1
  have c3 := fun o => (hM2 o).mc.2.2.2.1
  have c4 := fun o => (hM2 o).mc.2.2.2.2.1
  have c5 := fun o => (hM2 o).mc.2.2.2.2.2.1
  have c6 := fun o => (hM2 o).mc.2.2.2.2.2.2.1
  have c7 := fun o => (hM2 o).mc.2.2.2.2.2.2.2
  have HBB := hide hBB
  clear hB1 hB2 hB12 hM2 hA hBB hsp hpr
  by_cases he : e = 0
  · subst he
    have hr : R = if x = m then 0 else 91 := by rw [← HR.out]; simp
    have HRR := hide hr
    clear hr
    go_wp2
    all_goals go_ret
    all_goals refine ⟨ret_int ?_, HBB.out.alloc HBB.out.size _⟩
    all_goals rw [HRR.out]
    all_goals
      by_cases hxm : x = m
      · first | (rw [if_pos hxm]; done) | (exfalso; subst hxm; simp_all; done)
      · first | (rw [if_neg hxm]; done) | (exfalso; refine hxm ?_; cases x; cases m; simp_all; done)
  · have hr : R = 91 := by rw [← HR.out]; simp [he]
    subst hr
    go_wp2
    all_goals go_ret
    all_goals exact ⟨rfl, HBB.out.alloc HBB.out.size _⟩
theorem rspl_len (m : Mo) : (rspl m).length ≤ 7 := by
  simp only [rspl, List.length_append]
  repeat' split
  all_goals simp
/-- What the reference's Check answers. -/
def chkR (m : Mo) : Int := if (prs mo0 0 (rspl m)).2.1 = 0 ∧ (prs mo0 0 (rspl m)).1 = m then 0 else 91
set_option maxRecDepth 100000 in
set_option maxHeartbeats 1000000 in
theorem rcheck_any (m : Mo) (w : World) : Calls Try.prog 15 #[mv m] w fun e w' => e = .returned (.int .i64 (chkR m)) ∧ Below w.heap.size w w' := by
  generalize hR : chkR m = R
  have HR := hide hR
  clear hR
  have hsp := hide (rletters_any m)
  have hpr := hide (fun w => rparse_any ⟨(rspl m).toArray⟩ w (by have := rspl_len m; unfold maxLen; simp [ByteArray.size]; omega))
  simp only at hpr
  unfold chkR at HR
  generalize hq : prs mo0 0 (rspl m) = q at *
  have HQ := hide hq
  clear hq
  obtain ⟨x, e, n⟩ := q
  simp only [mv] at hsp hpr ⊢
  go_enter Try.func15, Try.ntmps15
  go_wp2_with fail
  refine (hsp.out _).mono ?_
  rintro e1 w1 ⟨rfl, hB1⟩
  go_wp2_with fail
  refine (hpr.out _).mono ?_
  rintro e2 w2 ⟨rfl, hB2⟩
  have hA : MoAt (w.alloc (Obj.cells (mc m) 23)) w.heap.size m := heap_alloc_new _ _
  have hB12 := hB1.trans (hB2.mono hB1.size)
  have hM2 : ∀ o, MoAt (w2.alloc o) w.heap.size m := fun o => (hA.below hB12).below ((Below.refl _ _).alloc (Nat.le_refl _) o)
  have hBB : Below w.heap.size w w2 := ((Below.refl w.heap.size w).alloc (Nat.le_refl _) _).trans (hB12.mono (Nat.le_of_lt (size_new _ _)))
  have c0 := fun o => (hM2 o).mc.1
  have c1 := fun o => (hM2 o).mc.2.1
  have c2 := fun o => (hM2 o).mc.2.2.1
  have c3 := fun o => (hM2 o).mc.2.2.2.1
  have c4 := fun o => (hM2 o).mc.2.2.2.2.1
  have c5 := fun o => (hM2 o).mc.2.2.2.2.2.1
  have c6 := fun o => (hM2 o).mc.2.2.2.2.2.2.1
  have c7 := fun o => (hM2 o).mc.2.2.2.2.2.2.2
  have HBB := hide hBB
  clear hB1 hB2 hB12 hM2 hA hBB hsp hpr
  by_cases he : e = 0
  · subst he
    have hr : R = if x = m then 0 else 91 := by rw [← HR.out]; simp
    have HRR := hide hr
    clear hr
    go_wp2
    all_goals go_ret
    all_goals refine ⟨ret_int ?_, HBB.out.alloc HBB.out.size _⟩
    all_goals rw [HRR.out]
    all_goals
      by_cases hxm : x = m
      · first | (rw [if_pos hxm]; done) | (exfalso; subst hxm; simp_all; done)
      · first | (rw [if_neg hxm]; done) | (exfalso; refine hxm ?_; cases x; cases m; simp_all; done)
  · have hr : R = 91 := by rw [← HR.out]; simp [he]
    subst hr
    go_wp2
    all_goals go_ret
    all_goals exact ⟨rfl, HBB.out.alloc HBB.out.size _⟩
theorem chk_same (m : Mo) : chkR m = chkM m := by
  obtain ⟨a, b, c, d, e, f, g, h⟩ := m
  revert a b c d e f g h
  decide +kernel
theorem chk_two (m : Mo) : chkM m = 0 ∨ chkM m = 91 := by unfold chkM; split <;> simp
theorem spl_same (m : Mo) (hm : chkM m = 0) : rspl m = spl m := by
  obtain ⟨a, b, c, d, e, f, g, h⟩ := m
  revert hm
  revert a b c d e f g h
  decide +kernel
end Go.Proofs.Ytlkohgnapaoegaa

/- The law KpipeSays: the walk. -/
import Derived.Test.YtfkkojahkfijdaaKpWhole
import Derived.Test.YtfkkojahkfijdaaKpFrame
namespace Go.Proofs.Ytfkkojahkfijdaa
open Go.RowKit

theorem inN_of {m : Nat} (h1 : 1 ≤ m) (h2 : m ≤ 1048576) : inN (m : Int) = true := by
  simp only [inN, Bool.and_eq_true, decide_eq_true_eq]
  omega
theorem refE_of {n : Nat} {most : Int} {rd wr : Nat} (hn : n ≤ 1048576) (hm : inN most = true) (hw : 0 < wr) : refE n most rd wr = if rd = 0 then 53 else 0 := by
  unfold refE
  rw [if_neg (by omega), if_neg (by rw [hm]; decide), if_neg (by omega)]

set_option maxRecDepth 100000 in
set_option maxHeartbeats 4000000 in
theorem says_walk (a0 : Option Addr) (n0 c0 : Nat) (n : Int) (l : List Stp) (w : World) (h : Stps w (.slice a0 n0 c0) l) (hs1 : l.length * 48 ≤ 140737488351232) (hs2 : ∀ i (hi : i < l.length), l[i].2.2.2.length ≤ 140737488351232) :
    Calls Try.prog 6 #[.slice a0 n0 c0, .int .i64 n] w fun e w' => e = .returned (.bool true) ∧ Below w.heap.size w w' := by
  obtain ⟨i0, hi, hz0, hz1, hz2⟩ := info_parts Try.infoB
  obtain ⟨a1, c1, he1⟩ := stps_form h
  obtain ⟨rfl, rfl, rfl⟩ : a0 = a1 ∧ n0 = l.length ∧ c0 = c1 := by simpa using he1
  have HS := hide h
  have HS2 := hide hs2
  clear h he1 hs2
  obtain ⟨r, hr, hr5⟩ := rem_twice n 5000 (by decide) (by decide)
  have hr5 : r ≤ 4999 := by omega
  go_enter Try.func6, Try.ntmps6
  go_wp2_with fail
  refine (alive_any w).mono ?_
  rintro e w1 ⟨rfl, hB1⟩
  go_wp2_with fail
  refine (both_any w1).mono ?_
  rintro e w4 ⟨rfl, hP, hB4⟩
  have hsa := hB1.size
  generalize hg : w1.heap.size = g at *
  have HP := hide hP
  have hB4 := hB1.trans (hB4.mono (by omega))
  clear hP hB1
  go_wp2
  go_loopw [6] (fun i W => ∃ (k : Nat) (q : List UInt8) (rd wr : Nat), k ≤ l.length ∧ i = .int .i64 k ∧ Hid (PipeAt W g q rd wr) ∧ Below w.heap.size w W) (fun i _ => l.length - (intOf i).toNat)
  case atStart => exact ⟨0, [], 1, 1, Nat.zero_le _, rfl, HP, hB4⟩
  case round =>
    clear HP hB4
    obtain ⟨k, q, rd, wt, hk, rfl, HP, hB⟩ := hrel
    have hsz := hB.size
    have hgl := HP.out.lt
    by_cases hlt : k < l.length
    · obtain ⟨b, off, va, vc, rfl, hbl, q0, q1, q2, q3, hby, hvc⟩ := stps_at HS.out hB k hlt
      have hxs := HS2.out k hlt
      generalize l[k] = s at q0 q1 q2 q3 hby hvc hxs
      obtain ⟨what, xn, side, X⟩ := s
      simp only at q0 q1 q2 q3 hby hvc hxs
      have HBy := hide hby
      clear hby
      have hk1 : (0 : Int) ≤ (k : Int) := by omega
      have hk2 : (k : Int) < (l.length : Int) := by omega
      rcases (show what = 0 ∨ what = 1 ∨ what = 2 ∨ what = 3 ∨ (what ≠ 0 ∧ what ≠ 1 ∧ what ≠ 2 ∧ what ≠ 3) by omega) with rfl | rfl | rfl | rfl | ⟨n0, n1, n2, n3⟩
      · go_wp2_with fail
        refine (read_any xn g q rd wt _ HP.out).mono ?_
        rintro e w5 ⟨v, rfl, -, hP5, hT5⟩
        have HP5 := hide hP5
        have hB5 := hT5.up hB (by omega) (by omega)
        clear hP5 hT5
        go_wp2
        all_goals
          go_roundw
          case rel => exact ⟨k + 1, _, rd, wt, by omega, by go_num, HP5, hB5⟩
          case measure => simp [intOf]; omega
      · have HA := hide (fun W' h1 h2 => write_any xn g q X va X.length vc rd wt W' h1 h2 hvc hxs (bys_off HBy.out (by omega)))
        go_wp2_with fail
        go_region_held3 (fun w' => w'.cell? ⟨b, off + k * 4 + 1, none⟩ = some (.int .i64 xn) ∧ w'.cell? ⟨b, off + k * 4 + 3, none⟩ = some (.slice va X.length vc))
          (first | exact K5 | go_keep)
          (first
            | (go_at_call 14; refine (HA.out _ (HP.out.keep (W' := wr.drew) rfl) (HBy.out.below hB.drew)).mono ?_; rintro e w5 ⟨rfl, hP5, hT5⟩; have K5 : w5.cell? ⟨b, off + k * 4 + 1, none⟩ = some (.int .i64 xn) ∧ w5.cell? ⟨b, off + k * 4 + 3, none⟩ = some (.slice va X.length vc) := ⟨hT5.cell q1 (by show ¬ b = g; omega), hT5.cell q3 (by show ¬ b = g; omega)⟩)
            | fail)
        have HP5 := hide hP5
        have hB5 := hT5.up hB.drew (by omega) (by show _ ≤ wr.heap.size; omega)
        clear hP5 hT5 K5
        go_wp2
        all_goals
          go_roundw
          case rel => exact ⟨k + 1, _, rd, wt, by omega, by go_num, HP5, hB5⟩
          case measure => simp [intOf]; omega
      · go_wp2_with fail
        refine (join_any side g q rd wt _ HP.out).mono ?_
        rintro e w5 ⟨rfl, hP5, hT5⟩
        have HP5 := hide hP5
        have hB5 := hT5.up hB (by omega) (by omega)
        clear hP5 hT5
        go_wp2
        all_goals
          go_roundw
          case rel => exact ⟨k + 1, _, _, _, by omega, by go_num, HP5, hB5⟩
          case measure => simp [intOf]; omega
      · go_wp2_with fail
        refine (leave_any side g q rd wt _ HP.out).mono ?_
        rintro e w5 ⟨rfl, hP5, hT5⟩
        have HP5 := hide hP5
        have hB5 := hT5.up hB (by omega) (by omega)
        clear hP5 hT5
        go_wp2
        all_goals
          go_roundw
          case rel => exact ⟨k + 1, _, _, _, by omega, by go_num, HP5, hB5⟩
          case measure => simp [intOf]; omega
      · have m0 : (what == 0) = false := by simpa using n0
        have m1 : (what == 1) = false := by simpa using n1
        have m2 : (what == 2) = false := by simpa using n2
        have m3 : (what == 3) = false := by simpa using n3
        go_wp2
        all_goals
          go_roundw
          case rel => exact ⟨k + 1, q, rd, wt, by omega, by go_num, HP, hB⟩
          case measure => simp [intOf]; omega
    · have hMi := inN_of (m := 1 + r) (by omega) (by omega)
      obtain ⟨M, hM⟩ : ∃ M, M = 1 + r := ⟨_, rfl⟩
      have hMv : (1 : Int) + (r : Int) = (M : Int) := by omega
      rw [← hM] at hMi
      have HI := hide hMi
      have hM5 : M ≤ 5000 := by omega
      have hM1 : 1 ≤ M := by omega
      clear hM hMi hr5
      rcases (show (wt = 0 ∧ rd = 0) ∨ (wt = 0 ∧ 0 < rd) ∨ (0 < wt ∧ rd = 0) ∨ (0 < wt ∧ 0 < rd ∧ fitN M M q.length = 0) ∨ (0 < wt ∧ 0 < rd ∧ 0 < fitN M M q.length) by omega) with ⟨rfl, rfl⟩ | ⟨rfl, hrd⟩ | ⟨hwr, rfl⟩ | ⟨hwr, hrd, hy⟩ | ⟨hwr, hrd, hy⟩
      · have HC : Hid (canR q.length 0 0 = false) := hide (by simp [canR])
        have HD : Hid (canW (M : Int) q.length 0 0 = false) := hide (by simp [canW])
        go_wp2_with fail
        refine (ends_any g q _ _ _ HP.out).mono ?_
        rintro e w5 ⟨rfl, hB5⟩
        have HP := hide (HP.out.below hB5)
        have hs5 := hB5.size
        have hB5 := hB.trans (hB5.mono hsz)
        go_wp2_with fail
        refine (canRead_any g q _ _ _ HP.out).mono ?_
        rintro e w6 ⟨rfl, rfl⟩
        rw [HC.out]
        go_wp2_with fail
        refine (canWrite_any _ g q _ _ _ HP.out).mono ?_
        rintro e w7 ⟨rfl, rfl⟩
        rw [HD.out]
        go_wp2
        go_ret
        exact ⟨rfl, hB5⟩
      · have HC : Hid (canR q.length rd 0 = true) := hide (by simp [canR]; omega)
        have HD : Hid (canW (M : Int) q.length rd 0 = false) := hide (by simp [canW])
        have HE : Hid (rdE 1 q.length rd 0 = 0) := hide (by unfold rdE; rw [if_neg (by decide), if_neg (by omega), if_neg (by simp)])
        have k1 : (0 : Int) < (rd : Int) := by omega
        have k2 : ((rd : Int) == 0) = false := by simp; omega
        go_wp2_with fail
        refine (ends_any g q _ _ _ HP.out).mono ?_
        rintro e w5 ⟨rfl, hB5⟩
        have HP := hide (HP.out.below hB5)
        have hs5 := hB5.size
        have hB5 := hB.trans (hB5.mono hsz)
        go_wp2_with fail
        refine (canRead_any g q _ _ _ HP.out).mono ?_
        rintro e w6 ⟨rfl, rfl⟩
        rw [HC.out]
        go_wp2_with fail
        refine (canWrite_any _ g q _ _ _ HP.out).mono ?_
        rintro e w7 ⟨rfl, rfl⟩
        rw [HD.out]
        go_wp2_with fail
        refine (read_any 1 g q _ _ _ HP.out).mono ?_
        rintro e w8 ⟨v, rfl, -, -, hT8⟩
        have hB8 := hT8.up hB5 (by omega) (by omega)
        rw [HE.out]
        go_wp2_with fail
        refine (num_any _ _).mono ?_
        rintro e w10 ⟨rfl, rfl⟩
        go_wp2
        go_ret
        exact ⟨rfl, hB8⟩
      · have HC : Hid (canR q.length 0 wt = false) := hide (by simp [canR])
        have HD : Hid (canW (M : Int) q.length 0 wt = true) := hide (by rw [canW, HI.out]; simp; omega)
        have HE : Hid (wrE M M q.length 0 wt = 53) := hide (by
          have h1 := refE_of (rd := 0) (n := M) (by omega) HI.out hwr
          rw [if_pos rfl] at h1
          unfold wrE
          rw [h1, if_neg (by decide)])
        have k1 : (0 : Int) < (wt : Int) := by omega
        have k2 : ((wt : Int) == 0) = false := by simp; omega
        go_wp2_with fail
        refine (ends_any g q _ _ _ HP.out).mono ?_
        rintro e w5 ⟨rfl, hB5⟩
        have HP := hide (HP.out.below hB5)
        have hs5 := hB5.size
        have hB5 := hB.trans (hB5.mono hsz)
        go_wp2_with fail
        refine (canRead_any g q _ _ _ HP.out).mono ?_
        rintro e w6 ⟨rfl, rfl⟩
        rw [HC.out]
        go_wp2_with fail
        refine (canWrite_any _ g q _ _ _ HP.out).mono ?_
        rintro e w7 ⟨rfl, rfl⟩
        rw [HD.out]
        go_wp2_with (at_make; refine wpList_make_full _ rfl _ _ 26 rfl w7.heap.size 5 i0 (.int .u8 0) 1 Try.underlying26 hi hz0 hz1 _ _ _ _ M rfl rfl rfl rfl (by rw [hz2]; omega) (by unfold maxLen; omega) (Nat.le_refl _) ?_; intro w8 hown8 hgrow8; obtain ⟨Z, hZ, HZ, hB8⟩ := made_zeros hown8 hgrow8; clear hown8 hgrow8)
        refine (write_any M g q Z _ _ _ _ _ _ (HP.out.below hB8) HZ.out (by omega) (by omega) (fun _ => by simp [Value.ownBlock]; omega)).mono ?_
        rintro e w9 ⟨rfl, hP9, hT9⟩
        rw [hZ] at hP9 ⊢
        have hs8 := hB8.size
        have hs9 := hT9.size
        have hB9 := hT9.up (hB5.trans (hB8.mono (by omega))) (by omega) (by omega)
        have HP9 := hide hP9
        clear hP9 hT9 hB8 HZ
        rw [HE.out]
        go_wp2_with fail
        refine (num_any _ _).mono ?_
        rintro e w10 ⟨rfl, rfl⟩
        go_wp2_with fail
        refine (num_any _ _).mono ?_
        rintro e w10 ⟨rfl, rfl⟩
        go_wp2
        go_ret
        exact ⟨rfl, hB9⟩
      · have h1 := refE_of (rd := rd) (n := M) (by omega) HI.out hwr
        rw [if_neg (by omega)] at h1
        have HD : Hid (canW (M : Int) q.length rd wt = false) := hide (by
          rw [canW, HI.out, Int.toNat_natCast, hy]; simp; omega)
        have HE : Hid (wrE M M q.length rd wt = 52) := hide (by
          unfold wrE
          rw [if_pos h1, if_neg (by omega), Int.toNat_natCast, if_pos hy])
        have HF : Hid (wrN M M q.length rd wt = 0) := hide (by
          unfold wrN
          rw [if_pos h1, Int.toNat_natCast, hy])
        have hq0 : 0 < q.length := by
          unfold fitN at hy
          split at hy
          · omega
          · split at hy <;> omega
        have HC : Hid (canR q.length rd wt = true) := hide (by unfold canR; rw [show decide (0 < rd) = true by simp; omega, show decide (q.length = 0 ∧ 0 < wt) = false by rw [decide_eq_false_iff_not]; omega]; rfl)
        have HG : Hid (rdE 1 q.length rd wt = 0) := hide (by unfold rdE; rw [if_neg (by decide), if_neg (by omega), if_neg (by rw [decide_eq_true_iff]; omega)])
        have k1 : (0 : Int) < (wt : Int) := by omega
        have k2 : ((wt : Int) == 0) = false := by simp; omega
        have k3 : (0 : Int) < (rd : Int) := by omega
        have k4 : ((rd : Int) == 0) = false := by simp; omega
        clear h1 hy
        go_wp2_with fail
        refine (ends_any g q _ _ _ HP.out).mono ?_
        rintro e w5 ⟨rfl, hB5⟩
        have HP := hide (HP.out.below hB5)
        have hs5 := hB5.size
        have hB5 := hB.trans (hB5.mono hsz)
        go_wp2_with fail
        refine (canRead_any g q _ _ _ HP.out).mono ?_
        rintro e w6 ⟨rfl, rfl⟩
        rw [HC.out]
        go_wp2_with fail
        refine (canWrite_any _ g q _ _ _ HP.out).mono ?_
        rintro e w7 ⟨rfl, rfl⟩
        rw [HD.out]
        go_wp2_with (at_make; refine wpList_make_full _ rfl _ _ 26 rfl w7.heap.size 5 i0 (.int .u8 0) 1 Try.underlying26 hi hz0 hz1 _ _ _ _ M rfl rfl rfl rfl (by rw [hz2]; omega) (by unfold maxLen; omega) (Nat.le_refl _) ?_; intro w8 hown8 hgrow8; obtain ⟨Z, hZ, HZ, hB8⟩ := made_zeros hown8 hgrow8; clear hown8 hgrow8)
        refine (write_any M g q Z _ _ _ _ _ _ (HP.out.below hB8) HZ.out (by omega) (by omega) (fun _ => by simp [Value.ownBlock]; omega)).mono ?_
        rintro e w9 ⟨rfl, hP9, hT9⟩
        rw [hZ] at hP9 ⊢
        have hs8 := hB8.size
        have hs9 := hT9.size
        have hB9 := hT9.up (hB5.trans (hB8.mono (by omega))) (by omega) (by omega)
        have HP9 := hide hP9
        rw [HF.out, List.take_zero, List.append_nil] at HP9
        clear hP9 hT9 hB8 HZ
        rw [HE.out]
        go_wp2_with fail
        refine (num_any _ _).mono ?_
        rintro e w10 ⟨rfl, rfl⟩
        go_wp2_with fail
        refine (num_any _ _).mono ?_
        rintro e w10 ⟨rfl, rfl⟩
        go_wp2_with fail
        refine (read_any 1 g q _ _ _ HP9.out).mono ?_
        rintro e w11 ⟨v, rfl, -, -, hT11⟩
        have hB11 := hT11.up hB9 (by omega) (by omega)
        rw [HG.out]
        go_wp2_with fail
        refine (num_any _ _).mono ?_
        rintro e w12 ⟨rfl, rfl⟩
        go_wp2
        go_ret
        exact ⟨rfl, hB11⟩
      · have h1 := refE_of (rd := rd) (n := M) (by omega) HI.out hwr
        rw [if_neg (by omega)] at h1
        have HD : Hid (canW (M : Int) q.length rd wt = true) := hide (by
          rw [canW, HI.out, Int.toNat_natCast]; simp; omega)
        have HE : Hid (wrE M M q.length rd wt = 0) := hide (by
          unfold wrE
          rw [if_pos h1, if_neg (by omega), Int.toNat_natCast, if_neg (by omega)])
        obtain ⟨cr, hcr⟩ : ∃ cr, cr = canR q.length rd wt := ⟨_, rfl⟩
        have HC := hide hcr.symm
        have k1 : (0 : Int) < (wt : Int) := by omega
        have k2 : ((wt : Int) == 0) = false := by simp; omega
        have k3 : (0 : Int) < (rd : Int) := by omega
        have k4 : ((rd : Int) == 0) = false := by simp; omega
        clear h1 hy hcr
        go_wp2_with fail
        refine (ends_any g q _ _ _ HP.out).mono ?_
        rintro e w5 ⟨rfl, hB5⟩
        have HP := hide (HP.out.below hB5)
        have hs5 := hB5.size
        have hB5 := hB.trans (hB5.mono hsz)
        go_wp2_with fail
        refine (canRead_any g q _ _ _ HP.out).mono ?_
        rintro e w6 ⟨rfl, rfl⟩
        rw [HC.out]
        go_wp2_with fail
        refine (canWrite_any _ g q _ _ _ HP.out).mono ?_
        rintro e w7 ⟨rfl, rfl⟩
        rw [HD.out]
        go_wp2_with (at_make; refine wpList_make_full _ rfl _ _ 26 rfl w7.heap.size 5 i0 (.int .u8 0) 1 Try.underlying26 hi hz0 hz1 _ _ _ _ M rfl rfl rfl rfl (by rw [hz2]; omega) (by unfold maxLen; omega) (Nat.le_refl _) ?_; intro w8 hown8 hgrow8; obtain ⟨Z, hZ, HZ, hB8⟩ := made_zeros hown8 hgrow8; clear hown8 hgrow8)
        refine (write_any M g q Z _ _ _ _ _ _ (HP.out.below hB8) HZ.out (by omega) (by omega) (fun _ => by simp [Value.ownBlock]; omega)).mono ?_
        rintro e w9 ⟨rfl, hP9, hT9⟩
        rw [hZ] at hP9 ⊢
        have hs8 := hB8.size
        have hs9 := hT9.size
        have hB9 := hT9.up (hB5.trans (hB8.mono (by omega))) (by omega) (by omega)
        have HP9 := hide hP9
        clear hP9 hT9 hB8 HZ
        rw [HE.out]
        go_wp2_with fail
        refine (num_any _ _).mono ?_
        rintro e w10 ⟨rfl, rfl⟩
        go_wp2_with fail
        refine (num_any _ _).mono ?_
        rintro e w10 ⟨rfl, rfl⟩
        go_wp2
        go_ret
        exact ⟨rfl, hB9⟩
end Go.Proofs.Ytfkkojahkfijdaa

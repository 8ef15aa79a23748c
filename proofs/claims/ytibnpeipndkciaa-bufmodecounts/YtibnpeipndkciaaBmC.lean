/- BufmodeCounts, BufmodeSums: the walks. -/
import Derived.Test.YtibnpeipndkciaaBmL
namespace Go.Proofs.Ytibnpeipndkciaa
open Go.RowKit

theorem bys_len12 {W : World} {a : Option Addr} {n c : Nat} {l : List UInt8} (h : Bys W (.slice a n c) l) : n = l.length := by
  obtain ⟨a1, c1, e, -⟩ := bys_form h
  cases e
  rfl
set_option maxRecDepth 100000 in
set_option maxHeartbeats 4000000 in
theorem bcounts_any (mode size : Int) (ta : Option Addr) (tn tc : Nat) (t : List UInt8) (n hv : Int) (w : World) (hb : Bys w (.slice ta tn tc) t) (htc : t.length ≤ tc) (htl : t.length ≤ 140737488351232) :
    Calls Try.prog 3 #[.int .i64 mode, .int .i64 size, .slice ta tn tc, .int .i64 n, .int .i64 hv] w fun e w' => e = .returned (.bool true) ∧ Below w.heap.size w w' := by
  obtain rfl := bys_len12 hb
  have HBy := hide hb
  have hwl := bwL_len (mode := mode) (size := size) (t := t)
  have HWl := hide hwl
  have HP := hide (fun (W : World) (hW : Below w.heap.size w W) => bwrites_any mode size ta tc t htc W (HBy.out.below hW))
  have HQ := hide (fun (W : World) (hW : Below w.heap.size w W) => rbwrites_any mode size ta tc t W (HBy.out.below hW) htl)
  have HR := hide (fun W => breads_any mode size n hv W)
  have HS := hide (fun W => rbreads_any mode size n hv W)
  clear hb hwl
  generalize bwL mode size t = L at *
  generalize bwE mode size t = E at *
  generalize brN mode size n hv = N at *
  generalize brE mode size n hv = F at *
  go_enter Try.func3, Try.ntmps3
  go_wp2_with fail
  refine (HP.out _ (Below.refl _ _)).mono ?_
  rintro _ w1 ⟨u, rfl, hO1, hB1⟩
  obtain ⟨ua, uc, rfl⟩ := owns_slice hO1
  have HN1 := hide (Nus.of_owns hO1)
  have HB1 := hide hB1
  clear hO1 hB1
  go_wp2_with fail
  refine (HQ.out _ HB1.out).mono ?_
  rintro _ w2 ⟨u, rfl, hO2, hB2⟩
  obtain ⟨va, vc, rfl⟩ := owns_slice hO2
  have HN2 := hide (Nus.of_owns hO2)
  have HN12 := hide (HN1.out.below hB2)
  have HB2 := hide (HB1.out.trans (hB2.mono HB1.out.size))
  clear hO2 hB2
  go_wp2_with (first | (go_at_call 10; refine (HR.out _).mono ?_; rintro _ _ ⟨rfl, rfl⟩) | fail)
  refine (HS.out _).mono ?_
  rintro _ w3 ⟨rfl, hB3⟩
  have HN3 := hide (HN2.out.below hB3)
  have HN13 := hide (HN12.out.below hB3)
  have HB3 := hide (HB2.out.trans (hB3.mono HB2.out.size))
  clear hB3
  go_wp2_with fail
  refine (sameNus_any _ _ L _ HN13.out HN3.out (by have := HWl.out; omega)).mono ?_
  rintro _ w4 ⟨rfl, hB4⟩
  have HB4 := hide (HB3.out.trans (hB4.mono HB3.out.size))
  clear hB4
  go_wp2_with (first | (go_at_call 13; refine (bnum_is _ _).mono ?_; rintro _ _ ⟨rfl, rfl⟩) | fail)
  refine (balive_any _).mono ?_
  rintro _ w5 ⟨rfl, hB5⟩
  go_wp2
  go_ret
  exact ⟨rfl, HB4.out.trans (hB5.mono HB4.out.size)⟩
theorem bfull_le (t sz : Nat) (h1 : 1 ≤ sz) : (t + (sz - 1)) / sz ≤ t / sz + 1 := by
  have : (t + (sz - 1)) / sz ≤ (t + sz) / sz := Nat.div_le_div_right (by omega)
  rw [Nat.add_div_right _ (by omega)] at this
  exact this
theorem bfew_le (b sz r : Nat) (hb : b ≤ 1048576) (h : r ≤ b / sz + 1) : decide ((r : Int) ≤ wrap64 (wrap64 ((b : Int) / (sz : Int)) + 1)) = true := by
  have h1 : b / sz ≤ 1048576 := Nat.le_trans (Nat.div_le_self _ _) hb
  rw [show (b : Int) / (sz : Int) = ((b / sz : Nat) : Int) from (Int.natCast_ediv _ _).symm]
  generalize b / sz = q at *
  have e3 : wrap64 (q : Int) = (q : Int) := by unfold wrap64; omega
  have e4 : wrap64 ((q : Int) + 1) = (q : Int) + 1 := by unfold wrap64; omega
  rw [e3, e4]
  exact decide_eq_true (by omega)
theorem sum_take_le (L : List Nat) (k : Nat) : (L.take k).sum ≤ L.sum := by
  conv => rhs; rw [← List.take_append_drop k L]
  rw [List.sum_append]
  omega
set_option maxRecDepth 100000 in
set_option maxHeartbeats 4000000 in
theorem bsums_any (mode size : Int) (ta : Option Addr) (tn tc : Nat) (t : List UInt8) (w : World) (hb : Bys w (.slice ta tn tc) t) (htc : t.length ≤ tc) :
    Calls Try.prog 4 #[.int .i64 mode, .int .i64 size, .slice ta tn tc] w fun e w' => e = .returned (.bool true) ∧ Below w.heap.size w w' := by
  obtain rfl := bys_len12 hb
  have HBy := hide hb
  have HP := hide (fun (W : World) (hW : Below w.heap.size w W) => bwrites_any mode size ta tc t htc W (HBy.out.below hW))
  clear hb
  by_cases hE : bwE mode size t = 0
  case neg =>
    have hL : bwL mode size t = [] := by unfold bwL; rw [if_neg hE]
    rw [hL] at HP
    generalize bwE mode size t = E at *
    have hE2 : (E == 0) = false := by simpa using hE
    have hE3 : (E != 0) = true := by simpa using hE
    clear hL
    go_enter Try.func4, Try.ntmps4
    go_wp2_with fail
    refine (balive_any _).mono ?_
    rintro _ w1 ⟨rfl, hB1⟩
    have HB1 := hide hB1
    clear hB1
    go_wp2_with fail
    refine (HP.out _ HB1.out).mono ?_
    rintro _ w2 ⟨u, rfl, hO2, hB2⟩
    obtain ⟨ua, uc, rfl⟩ := owns_slice hO2
    have HB2 := hide (HB1.out.trans (hB2.mono HB1.out.size))
    clear hO2 hB2
    go_wp2_with (first | (go_at_call 13; refine (bnum_is _ _).mono ?_; rintro _ _ ⟨rfl, rfl⟩) | fail)
    go_ret
    exact ⟨rfl, HB2.out⟩
  obtain ⟨L, hL⟩ : ∃ L, L = bwL mode size t := ⟨_, rfl⟩
  have hLr : L = rwr (decide (mode = 2)) (brm mode size).toNat 0 t := by rw [hL]; unfold bwL; rw [if_pos hE]
  rw [← hL, hE] at HP
  obtain ⟨hr, htm⟩ := bwE_ok hE
  obtain ⟨m, hm, hmt, hm1, hm2⟩ := brm_nat hr
  obtain ⟨q1, q2, q3, q4⟩ := bref_ok hr
  rw [hmt] at hLr
  have hsum : L.sum = t.length := by rw [hLr, rwr_sum _ m t 0 (by omega)]; omega
  have heach : ∀ k (h : k < L.length), 1 ≤ L[k] ∧ L[k] ≤ m := fun k h => rwr_each (decide (mode = 2)) m t 0 (by omega) _ (by rw [← hLr]; exact List.getElem_mem h)
  have hmu : (m : Int) ≤ size ∧ (mode = 1 → m = 1) ∧ (mode = 3 → size = (m : Int)) := by
    unfold brm at hm
    refine ⟨by split at hm <;> omega, fun e => by rw [if_pos e] at hm; omega, fun e => by rw [if_neg (by omega)] at hm; exact hm⟩
  have hfull : mode = 3 → L.length ≤ t.length / m + 1 := fun e => by
    have h3 : decide (mode = 2) = false := by rw [decide_eq_false_iff_not]; omega
    rw [hLr, h3, rwr_full m t 0 (by omega), Nat.zero_add]
    exact bfull_le _ _ hm1
  have hLl : L.length ≤ 1048576 := by rw [hL]; exact bwL_len
  have HEa := hide heach
  have HSu := hide hsum
  have HFu := hide hfull
  obtain ⟨hm3, hm4, hm5⟩ := hmu
  have HM4 := hide hm4
  have HM5 := hide hm5
  clear heach hsum hfull hL hLr hE hr hm hmt hm4 hm5
  go_enter Try.func4, Try.ntmps4
  go_wp2_with fail
  refine (balive_any _).mono ?_
  rintro _ w1 ⟨rfl, hB1⟩
  have HB1 := hide hB1
  clear hB1
  go_wp2_with fail
  refine (HP.out _ HB1.out).mono ?_
  rintro _ w2 ⟨u, rfl, hO2, hB2⟩
  have HN2 := hide (Nus.of_owns hO2)
  obtain ⟨ua, uc, rfl⟩ := owns_slice hO2
  have HB2 := hide (HB1.out.trans (hB2.mono HB1.out.size))
  clear hO2 hB2
  go_wp2_with (first | (go_at_call 13; refine (bnum_is _ _).mono ?_; rintro _ _ ⟨rfl, rfl⟩) | fail)
  go_loopw [9, 10] (fun s i wr => ∃ (k : Nat), k ≤ L.length ∧ i = .int .i64 k ∧ s = .int .i64 ((L.take k).sum : Nat) ∧ ∃ q, wr = w2.drewN q) (fun _ i _ => L.length - (intOf i).toNat)
  case atStart => exact ⟨0, Nat.zero_le _, rfl, rfl, 0, rfl⟩
  case round =>
    obtain ⟨k, hk, rfl, rfl, q, rfl⟩ := hrel
    have hsl := sum_take_le L k
    rw [HSu.out] at hsl
    by_cases hlt : k < L.length
    case neg =>
      obtain rfl : k = L.length := by omega
      rw [List.take_length, HSu.out]
      clear hsl
      by_cases h3 : mode = 3
      · have hsm := HM5.out h3
        subst hsm
        have h4 : (mode != 3) = false := by simpa using h3
        have h5 : (mode == 3) = true := by simpa using h3
        have HF := hide (bfew_le t.length m L.length htm (HFu.out h3))
        have hzN : ¬ m = 0 := by omega
        have hzM : (m == 0) = false := by simp only [beq_eq_false_iff_ne]; exact hzN
        have hz0 : ¬ (m : Int) = 0 := by omega
        have hz9 : ((m : Int) == 0) = false := by simp only [beq_eq_false_iff_ne]; exact hz0
        clear h3
        go_wp2
        go_ret
        exact ⟨ret_bool HF.out, below_drewN HB2.out _⟩
      · have h4 : (mode != 3) = true := by simpa using h3
        have h5 : (mode == 3) = false := by simpa using h3
        go_wp2
        go_ret
        exact ⟨rfl, below_drewN HB2.out _⟩
    obtain ⟨xa, xc, e, hx⟩ := HN2.out
    cases e
    obtain ⟨b, o, rfl, hc⟩ := hx (by omega)
    have g1 := hc k hlt
    obtain ⟨x1, x2⟩ := HEa.out k hlt
    have hst : (L.take (k + 1)).sum = (L.take k).sum + L[k] := by rw [List.take_succ_eq_append_getElem hlt, List.sum_append]; simp
    have hgd : L.getD k 0 = L[k] := by rw [List.getD_eq_getElem?_getD, List.getElem?_eq_getElem hlt]; rfl
    rw [hgd] at g1
    have hk1 : (0 : Int) ≤ (k : Int) := by omega
    have hk2 : (k : Int) < (L.length : Int) := by omega
    have hsl2 := sum_take_le L (k + 1)
    rw [HSu.out, hst] at hsl2
    have HSt := hide hst
    generalize (L.take k).sum = S at *
    generalize L[k] = x at *
    clear hst hgd hx hc
    have hx1 : ¬ (x : Int) < 1 := by omega
    have hx2 : ¬ size < (x : Int) := by omega
    by_cases h1 : mode = 1
    · have h2 : (mode == 1) = true := by simpa using h1
      have h3 : x = 1 := by have := HM4.out h1; omega
      subst h3
      clear h1
      go_wp2
      go_roundw
      case rel => exact ⟨k + 1, by omega, by go_num, by rw [HSt.out]; go_num, q, rfl⟩
      case measure => simp [intOf]; omega
    · have h2 : (mode == 1) = false := by simpa using h1
      go_wp2
      go_roundw
      case rel => exact ⟨k + 1, by omega, by go_num, by rw [HSt.out]; go_num, q, rfl⟩
      case measure => simp [intOf]; omega
end Go.Proofs.Ytibnpeipndkciaa

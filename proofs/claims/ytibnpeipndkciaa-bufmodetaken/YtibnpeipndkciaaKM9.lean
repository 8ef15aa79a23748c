/- What the proof stands on, part 9: the contracts of the program's calls that it reaches. -/
import Derived.Test.YtibnpeipndkciaaKM8
import Derived.Deep.QuietTactic
import Derived.BigQuiet
import Derived.Lib.SlBytesConst
import Derived.Deep.RegionHeld3
import Derived.Deep.RegionLaw
/- What bufmode's Reads and the reference's answer; slices of numbers that are the same. -/
namespace Go.Proofs.Ytibnpeipndkciaa
open Go.RowKit

def brE (mode size n hv : Int) : Int := if bref mode size ≠ 0 then bref mode size else if cntB n = true ∧ cntB hv = true then 0 else 4
def brN (mode size n hv : Int) : Int := if brE mode size n hv = 0 then (rds (brm mode size).toNat n.toNat hv.toNat : Int) else 0
set_option maxRecDepth 100000 in
set_option maxHeartbeats 2000000 in
theorem breads_any (mode size n hv : Int) (w : World) :
    Calls Try.prog 10 #[.int .i64 mode, .int .i64 size, .int .i64 n, .int .i64 hv] w fun e w' => e = .returned (.tuple #[.int .i64 (brN mode size n hv), .int .i64 (brE mode size n hv)]) ∧ w = w' := by
  have HB := hide (fun W => bref_any mode size W)
  by_cases h1 : bref mode size = 0
  · rw [h1] at HB
    by_cases h2 : cntB n = true
    · by_cases h3 : cntB hv = true
      · have h4 : brE mode size n hv = 0 := by unfold brE; rw [if_neg (by simpa using h1), if_pos ⟨h2, h3⟩]
        obtain ⟨m, hm, hmt, hm1, hm2⟩ := brm_nat h1
        have h5 : brN mode size n hv = (rds m n.toNat hv.toNat : Int) := by unfold brN; rw [h4, if_pos rfl, hmt]
        rw [h4, h5]
        have HM := hide (fun W => broom_any mode size W)
        rw [hm] at HM
        have g2 := h2
        have g3 := h3
        unfold cntB at h2 h3
        rw [decide_eq_true_eq] at h2 h3
        obtain ⟨n', rfl⟩ : ∃ n' : Nat, n = (n' : Int) := ⟨n.toNat, by omega⟩
        obtain ⟨hv', rfl⟩ : ∃ n' : Nat, hv = (n' : Int) := ⟨hv.toNat, by omega⟩
        simp only [Int.toNat_natCast]
        unfold rds
        have hn6 : n' ≤ 1048576 := by omega
        have hh6 : hv' ≤ 1048576 := by omega
        have HP1 := hide (fun W => bpieces_any n' m W hn6 hm1 hm2)
        have HP2 := hide (fun W => bpieces_any hv' m W hh6 hm1 hm2)
        have hl1 := pcs_le (n := hv') hm1
        clear h1 h2 h3 h4 h5 hm hmt
        by_cases h7 : hv' < n'
        · rw [if_pos h7]
          have h8 : (hv' : Int) < (n' : Int) := by omega
          generalize pcs hv' m = P at *
          go_enter Try.func10, Try.ntmps10
          go_wp2_with (first | (go_at_call 25; refine (HB.out _).mono ?_; rintro _ _ ⟨rfl, rfl⟩) | (go_at_call 28; refine (bcount_any _ _).mono ?_; rintro _ _ ⟨rfl, rfl⟩) | (go_at_call 29; refine (HM.out _).mono ?_; rintro _ _ ⟨rfl, rfl⟩) | (go_at_call 30; refine (HP2.out _).mono ?_; rintro _ _ ⟨rfl, rfl⟩) | fail)
          go_ret2
          exact ⟨rfl, rfl⟩
        · rw [if_neg h7]
          have h8 : ¬ (hv' : Int) < (n' : Int) := by omega
          generalize pcs n' m = P at *
          go_enter Try.func10, Try.ntmps10
          go_wp2_with (first | (go_at_call 25; refine (HB.out _).mono ?_; rintro _ _ ⟨rfl, rfl⟩) | (go_at_call 28; refine (bcount_any _ _).mono ?_; rintro _ _ ⟨rfl, rfl⟩) | (go_at_call 29; refine (HM.out _).mono ?_; rintro _ _ ⟨rfl, rfl⟩) | (go_at_call 30; refine (HP1.out _).mono ?_; rintro _ _ ⟨rfl, rfl⟩) | fail)
          go_ret2
          exact ⟨rfl, rfl⟩
      · have h4 : brE mode size n hv = 4 := by unfold brE; rw [if_neg (by simpa using h1), if_neg (fun e => h3 e.2)]
        have h5 : brN mode size n hv = 0 := by unfold brN; rw [h4, if_neg (by decide)]
        rw [h4, h5]
        have h3' : cntB hv = false := by simpa using h3
        clear h1 h3 h4 h5
        go_enter Try.func10, Try.ntmps10
        go_wp2_with (first | (go_at_call 25; refine (HB.out _).mono ?_; rintro _ _ ⟨rfl, rfl⟩) | (go_at_call 28; refine (bcount_any _ _).mono ?_; rintro _ _ ⟨rfl, rfl⟩) | fail)
        go_ret2
        exact ⟨rfl, rfl⟩
    · have h4 : brE mode size n hv = 4 := by unfold brE; rw [if_neg (by simpa using h1), if_neg (fun e => h2 e.1)]
      have h5 : brN mode size n hv = 0 := by unfold brN; rw [h4, if_neg (by decide)]
      rw [h4, h5]
      have h3' : cntB n = false := by simpa using h2
      clear h1 h2 h4 h5
      go_enter Try.func10, Try.ntmps10
      go_wp2_with (first | (go_at_call 25; refine (HB.out _).mono ?_; rintro _ _ ⟨rfl, rfl⟩) | (go_at_call 28; refine (bcount_any _ _).mono ?_; rintro _ _ ⟨rfl, rfl⟩) | fail)
      go_ret2
      exact ⟨rfl, rfl⟩
  · have h4 : brE mode size n hv = bref mode size := by unfold brE; rw [if_pos h1]
    have h5 : brN mode size n hv = 0 := by unfold brN; rw [h4, if_neg h1]
    rw [h4, h5]
    generalize bref mode size = q at *
    have h6 : (q == 0) = false := by simpa using h1
    have h7 : (q != 0) = true := by simpa using h1
    clear h4 h5
    go_enter Try.func10, Try.ntmps10
    go_wp2_with (first | (go_at_call 25; refine (HB.out _).mono ?_; rintro _ _ ⟨rfl, rfl⟩) | fail)
    go_ret2
    exact ⟨rfl, rfl⟩
/-- The reference's loop: c reads were made, i bytes were got of v; h are held, r are left. -/
structure RdI (m v c i h r : Nat) (fin : Bool) : Prop where
  live : fin = false → r + h + i = v ∧ ((c = 0 ∧ i = 0 ∧ h = 0) ∨ (1 ≤ c ∧ (c - 1) * m < i ∧ i + h = min (c * m) v))
  dead : fin = true → i = v + 1 ∧ c = pcs v m + 1
theorem RdI.start (m v : Nat) : RdI m v 0 0 0 v false := ⟨fun _ => ⟨by omega, .inl ⟨rfl, rfl, rfl⟩⟩, fun e => by cases e⟩
theorem RdI.calls {m v c i r : Nat} (hm : 1 ≤ m) (h : RdI m v c i 0 r false) : pcs i m = c := by
  obtain ⟨-, h1⟩ := h.live rfl
  refine pcs_of hm ?_
  rcases h1 with ⟨h1, h2, -⟩ | ⟨h1, h2, h3⟩
  · exact .inl ⟨h1, h2⟩
  · exact .inr ⟨h1, h2, by omega⟩
theorem RdI.pcs {m v c i h r : Nat} (hm : 1 ≤ m) (hI : RdI m v c i h r false) : pcs i m = c := by
  obtain ⟨-, h1⟩ := hI.live rfl
  refine pcs_of hm ?_
  rcases h1 with ⟨h1, h2, -⟩ | ⟨h1, h2, h3⟩
  · exact .inl ⟨h1, h2⟩
  · exact .inr ⟨h1, h2, by omega⟩
/-- One is held. -/
theorem RdI.held {m v c i h r : Nat} (hI : RdI m v c i h r false) (hh : 1 ≤ h) : RdI m v c (i + 1) (h - 1) r false := by
  obtain ⟨h0, h1⟩ := hI.live rfl
  refine ⟨fun _ => ⟨by omega, ?_⟩, fun e => by cases e⟩
  rcases h1 with ⟨-, -, h2⟩ | ⟨h1, h2, h3⟩
  · omega
  · exact .inr ⟨h1, by omega, by omega⟩
/-- None is held: a read. -/
theorem RdI.read {m v c i r : Nat} (hm : 1 ≤ m) (hI : RdI m v c i 0 r false) (hr : 0 < r) : RdI m v (c + 1) (i + 1) (min m r - 1) (r - min m r) false := by
  obtain ⟨h0, h1⟩ := hI.live rfl
  have key : i = c * m := by
    rcases h1 with ⟨h1, h2, -⟩ | ⟨h1, h2, h3⟩
    · rw [h1, h2, Nat.zero_mul]
    · omega
  refine ⟨fun _ => ⟨by omega, .inr ⟨by omega, ?_, ?_⟩⟩, fun e => by cases e⟩
  · rw [Nat.add_sub_cancel]; omega
  · rw [Nat.add_mul]; omega
theorem RdI.end {m v c i : Nat} (hm : 1 ≤ m) (hI : RdI m v c i 0 0 false) : RdI m v (c + 1) (i + 1) 0 0 true := by
  have hc := hI.calls hm
  obtain ⟨h0, -⟩ := hI.live rfl
  refine ⟨fun e => (by cases e), fun _ => ⟨by omega, ?_⟩⟩
  rw [← hc]
  congr 2
  omega
theorem RdI.le {m v c i h r : Nat} {fin : Bool} (hm : 1 ≤ m) (hI : RdI m v c i h r fin) : c ≤ v + 1 ∧ (fin = false → i ≤ v ∧ r ≤ v ∧ h ≤ v) := by
  cases fin with
  | false =>
    have hc := hI.pcs hm
    obtain ⟨h0, -⟩ := hI.live rfl
    have := pcs_le (n := i) hm
    exact ⟨by omega, fun _ => by omega⟩
  | true =>
    obtain ⟨h0, h1⟩ := hI.dead rfl
    have := pcs_le (n := v) hm
    exact ⟨by omega, fun e => by cases e⟩
set_option maxRecDepth 100000 in
set_option maxHeartbeats 2000000 in
theorem rbreads_any (mode size n hv : Int) (w : World) :
    Calls Try.prog 11 #[.int .i64 mode, .int .i64 size, .int .i64 n, .int .i64 hv] w fun e w' => e = .returned (.tuple #[.int .i64 (brN mode size n hv), .int .i64 (brE mode size n hv)]) ∧ Below w.heap.size w w' := by
  have HB := hide (fun W => rbref_any mode size W)
  by_cases h1 : bref mode size = 0
  · rw [h1] at HB
    by_cases h2 : cntB n = true ∧ cntB hv = true
    · have h4 : brE mode size n hv = 0 := by unfold brE; rw [if_neg (by simpa using h1), if_pos h2]
      obtain ⟨m, hm, hmt, hm1, hm2⟩ := brm_nat h1
      have h5 : brN mode size n hv = (rds m n.toNat hv.toNat : Int) := by unfold brN; rw [h4, if_pos rfl, hmt]
      rw [h4, h5]
      obtain ⟨h2, h3⟩ := h2
      unfold cntB at h2 h3
      rw [decide_eq_true_eq] at h2 h3
      obtain ⟨n', rfl⟩ : ∃ n' : Nat, n = (n' : Int) := ⟨n.toNat, by omega⟩
      obtain ⟨v, rfl⟩ : ∃ n' : Nat, hv = (n' : Int) := ⟨hv.toNat, by omega⟩
      simp only [Int.toNat_natCast]
      have g1 : ¬ (n' : Int) < 0 := by omega
      have g2 : ¬ (1048576 : Int) < (n' : Int) := by omega
      have g3 : ¬ (v : Int) < 0 := by omega
      have g4 : ¬ (1048576 : Int) < (v : Int) := by omega
      have hn6 : n' ≤ 1048576 := by omega
      have hh6 : v ≤ 1048576 := by omega
      have hM := hm
      unfold brm at hM
      have HRd : Hid (∀ (c i h r : Nat) (fin : Bool), RdI m v c i h r fin → (fin = true ∧ i ≤ n') ∨ (fin = false ∧ i = n') → c = rds m n' v) := hide (by
        intro c i h r fin hI hc
        unfold rds
        rcases hc with ⟨rfl, hi⟩ | ⟨rfl, rfl⟩
        · obtain ⟨a1, a2⟩ := hI.dead rfl
          rw [if_pos (by omega), a2]
        · have a1 := hI.pcs hm1
          obtain ⟨a2, -⟩ := hI.live rfl
          rw [if_neg (by omega), a1])
      clear h1 h2 h3 h4 h5 hm hmt
      by_cases hmode : mode = 1
      · have hb1 : (mode == 1) = true := by simpa using hmode
        rw [if_pos hmode] at hM
        have hmm : m = 1 := by omega
        subst hmm
        clear hM hmode
        go_enter Try.func11, Try.ntmps11
        go_wp2_with (first | (go_at_call 27; refine (HB.out _).mono ?_; rintro _ _ ⟨rfl, rfl⟩) | fail)
        go_loop [3, 11, 12, 13, 14] (fun a3 a11 a12 a13 a14 => ∃ (c i h r : Nat) (q : Int) (fin : Bool), i ≤ n' ∧ Hid (RdI 1 v c i h r fin) ∧ a3 = .int .i64 r ∧ a11 = .int .i64 c ∧ a12 = .int .i64 q ∧ a13 = .bool fin ∧ a14 = .int .i64 i ∧ (fin = false → q = (h : Int))) (fun _ _ _ _ a14 => n' - (intOf a14).toNat)
        case atStart => exact ⟨0, 0, 0, v, 0, false, Nat.zero_le _, hide (RdI.start _ v), rfl, rfl, rfl, rfl, rfl, fun _ => rfl⟩
        case round =>
          obtain ⟨c, i, h, r, q, fin, hi, HI, rfl, rfl, rfl, rfl, rfl, hq⟩ := hrel
          obtain ⟨hc1, hc2⟩ := HI.out.le hm1
          cases fin with
          | true =>
            have hcr := HRd.out c i h r true HI.out (.inl ⟨rfl, hi⟩)
            have HCr := hide hcr
            clear hcr hc2 hq
            by_cases hlt : (i : Int) < (n' : Int)
            · go_wp2
              go_ret2
              exact ⟨by rw [HCr.out]; rfl, Below.refl _ _⟩
            · go_wp2
              go_ret2
              exact ⟨by rw [HCr.out]; rfl, Below.refl _ _⟩
          | false =>
            obtain ⟨d1, d2, d3⟩ := hc2 rfl
            obtain rfl := hq rfl
            clear hc2 hq
            by_cases hlt : i < n'
            · have hlt2 : (i : Int) < (n' : Int) := by omega
              have hi1 : (i : Int) ≤ 1048576 := by omega
              have hc3 : (c : Int) ≤ 1048577 := by omega
              by_cases hh : h = 0
              · subst hh
                by_cases hr : r = 0
                · subst hr
                  have HE := hide (HI.out.end hm1)
                  have hmn : min (1 : Int) 0 = 0 := by omega
                  clear hc1 d1 d2 d3
                  go_wp2
                  go_round
                  case rel => exact ⟨c + 1, i + 1, 0, 0, -1, true, by omega, HE, rfl, by go_num, rfl, rfl, by go_num, fun e => by cases e⟩
                  case measure => simp [intOf]; omega
                · have HE := hide (HI.out.read hm1 (by omega))
                  obtain ⟨k, hk⟩ : ∃ k, k = min 1 r := ⟨_, rfl⟩
                  rw [← hk] at HE
                  have hmn : min (1 : Int) (r : Int) = (k : Int) := by omega
                  have hk1 : (1 : Int) ≤ (k : Int) := by omega
                  have hk2 : (k : Int) ≤ (r : Int) := by omega
                  have hr1 : (r : Int) ≤ 1048576 := by omega
                  have hk3 : ((k : Int) == 0) = false := by simp only [beq_eq_false_iff_ne]; omega
                  have hkn : ¬ k = 0 := by omega
                  clear hk hc1 d1 d2 d3 hr
                  go_wp2
                  go_round
                  case rel => exact ⟨c + 1, i + 1, k - 1, r - k, (k : Int) - 1, false, by omega, HE, by congr 1; omega, by go_num, by go_num, by first | rfl | (congr 1), by go_num, fun _ => by omega⟩
                  case measure => simp [intOf]; omega
              · have HE := hide (HI.out.held (by omega))
                have hb0 : ((h : Int) == 0) = false := by simp only [beq_eq_false_iff_ne]; omega
                have hh2 : (h : Int) ≤ 1048576 := by omega
                have hh3 : (1 : Int) ≤ (h : Int) := by omega
                clear hc1 d1 d2 d3
                go_wp2
                go_round
                case rel => exact ⟨c, i + 1, h - 1, r, (h : Int) - 1, false, by omega, HE, rfl, rfl, by first | rfl | go_num, rfl, by go_num, fun _ => by omega⟩
                case measure => simp [intOf]; omega
            · obtain rfl : i = n' := by omega
              have hlt2 : ¬ (i : Int) < (i : Int) := by omega
              have hcr := HRd.out c i h r false HI.out (.inr ⟨rfl, rfl⟩)
              have HCr := hide hcr
              clear hcr
              go_wp2
              go_ret2
              exact ⟨by rw [HCr.out]; rfl, Below.refl _ _⟩
      · have hb1 : (mode == 1) = false := by simpa using hmode
        rw [if_neg hmode] at hM
        subst hM
        clear hmode
        go_enter Try.func11, Try.ntmps11
        go_wp2_with (first | (go_at_call 27; refine (HB.out _).mono ?_; rintro _ _ ⟨rfl, rfl⟩) | fail)
        go_loop [3, 11, 12, 13, 14] (fun a3 a11 a12 a13 a14 => ∃ (c i h r : Nat) (q : Int) (fin : Bool), i ≤ n' ∧ Hid (RdI m v c i h r fin) ∧ a3 = .int .i64 r ∧ a11 = .int .i64 c ∧ a12 = .int .i64 q ∧ a13 = .bool fin ∧ a14 = .int .i64 i ∧ (fin = false → q = (h : Int))) (fun _ _ _ _ a14 => n' - (intOf a14).toNat)
        case atStart => exact ⟨0, 0, 0, v, 0, false, Nat.zero_le _, hide (RdI.start _ v), rfl, rfl, rfl, rfl, rfl, fun _ => rfl⟩
        case round =>
          obtain ⟨c, i, h, r, q, fin, hi, HI, rfl, rfl, rfl, rfl, rfl, hq⟩ := hrel
          obtain ⟨hc1, hc2⟩ := HI.out.le hm1
          cases fin with
          | true =>
            have hcr := HRd.out c i h r true HI.out (.inl ⟨rfl, hi⟩)
            have HCr := hide hcr
            clear hcr hc2 hq
            by_cases hlt : (i : Int) < (n' : Int)
            · go_wp2
              go_ret2
              exact ⟨by rw [HCr.out]; rfl, Below.refl _ _⟩
            · go_wp2
              go_ret2
              exact ⟨by rw [HCr.out]; rfl, Below.refl _ _⟩
          | false =>
            obtain ⟨d1, d2, d3⟩ := hc2 rfl
            obtain rfl := hq rfl
            clear hc2 hq
            by_cases hlt : i < n'
            · have hlt2 : (i : Int) < (n' : Int) := by omega
              have hi1 : (i : Int) ≤ 1048576 := by omega
              have hc3 : (c : Int) ≤ 1048577 := by omega
              by_cases hh : h = 0
              · subst hh
                by_cases hr : r = 0
                · subst hr
                  have HE := hide (HI.out.end hm1)
                  have hmn : min ((m : Int) : Int) 0 = 0 := by omega
                  clear hc1 d1 d2 d3
                  go_wp2
                  go_round
                  case rel => exact ⟨c + 1, i + 1, 0, 0, -1, true, by omega, HE, rfl, by go_num, rfl, rfl, by go_num, fun e => by cases e⟩
                  case measure => simp [intOf]; omega
                · have HE := hide (HI.out.read hm1 (by omega))
                  obtain ⟨k, hk⟩ : ∃ k, k = min m r := ⟨_, rfl⟩
                  rw [← hk] at HE
                  have hmn : min ((m : Int) : Int) (r : Int) = (k : Int) := by omega
                  have hk1 : (1 : Int) ≤ (k : Int) := by omega
                  have hk2 : (k : Int) ≤ (r : Int) := by omega
                  have hr1 : (r : Int) ≤ 1048576 := by omega
                  have hk3 : ((k : Int) == 0) = false := by simp only [beq_eq_false_iff_ne]; omega
                  have hkn : ¬ k = 0 := by omega
                  clear hk hc1 d1 d2 d3 hr
                  go_wp2
                  go_round
                  case rel => exact ⟨c + 1, i + 1, k - 1, r - k, (k : Int) - 1, false, by omega, HE, by congr 1; omega, by go_num, by go_num, by first | rfl | (congr 1), by go_num, fun _ => by omega⟩
                  case measure => simp [intOf]; omega
              · have HE := hide (HI.out.held (by omega))
                have hb0 : ((h : Int) == 0) = false := by simp only [beq_eq_false_iff_ne]; omega
                have hh2 : (h : Int) ≤ 1048576 := by omega
                have hh3 : (1 : Int) ≤ (h : Int) := by omega
                clear hc1 d1 d2 d3
                go_wp2
                go_round
                case rel => exact ⟨c, i + 1, h - 1, r, (h : Int) - 1, false, by omega, HE, rfl, rfl, by first | rfl | go_num, rfl, by go_num, fun _ => by omega⟩
                case measure => simp [intOf]; omega
            · obtain rfl : i = n' := by omega
              have hlt2 : ¬ (i : Int) < (i : Int) := by omega
              have hcr := HRd.out c i h r false HI.out (.inr ⟨rfl, rfl⟩)
              have HCr := hide hcr
              clear hcr
              go_wp2
              go_ret2
              exact ⟨by rw [HCr.out]; rfl, Below.refl _ _⟩
    · have h4 : brE mode size n hv = 4 := by unfold brE; rw [if_neg (by simpa using h1), if_neg h2]
      have h5 : brN mode size n hv = 0 := by unfold brN; rw [h4, if_neg (by decide)]
      rw [h4, h5]
      have h6 : n < 0 ∨ (0 ≤ n ∧ 1048576 < n) ∨ (0 ≤ n ∧ n ≤ 1048576 ∧ hv < 0) ∨ (0 ≤ n ∧ n ≤ 1048576 ∧ 0 ≤ hv ∧ 1048576 < hv) := by
        unfold cntB at h2
        rw [decide_eq_true_eq, decide_eq_true_eq] at h2
        omega
      clear h1 h2 h4 h5
      rcases h6 with h | ⟨h, h'⟩ | ⟨h, h', h''⟩ | ⟨h, h', h'', h3⟩
      all_goals
        go_enter Try.func11, Try.ntmps11
        go_wp2_with (first | (go_at_call 27; refine (HB.out _).mono ?_; rintro _ _ ⟨rfl, rfl⟩) | fail)
        go_ret2
        exact ⟨rfl, Below.refl _ _⟩
  · have h4 : brE mode size n hv = bref mode size := by unfold brE; rw [if_pos h1]
    have h5 : brN mode size n hv = 0 := by unfold brN; rw [h4, if_neg h1]
    rw [h4, h5]
    generalize bref mode size = q at *
    have h6 : (q == 0) = false := by simpa using h1
    have h7 : (q != 0) = true := by simpa using h1
    clear h4 h5
    go_enter Try.func11, Try.ntmps11
    go_wp2_with (first | (go_at_call 27; refine (HB.out _).mono ?_; rintro _ _ ⟨rfl, rfl⟩) | fail)
    go_ret2
    exact ⟨rfl, Below.refl _ _⟩
end Go.Proofs.Ytibnpeipndkciaa

/- The page's examples of buffers' modes; numbers that are the same. -/
namespace Go.Proofs.Ytibnpeipndkciaa
open Go.RowKit

theorem bnum_is (x : Int) (w : World) : Calls Try.prog 13 #[.int .i64 x] w fun e w' => e = .returned (.int .i64 x) ∧ w = w' := by
  go_enter Try.func13, Try.ntmps13
  go_wp2
  go_ret
  exact ⟨rfl, rfl⟩
/-- A slice value that holds numbers. -/
def Nus (W : World) (v : Value) (l : List Nat) : Prop := ∃ a c, v = .slice a l.length c ∧ (0 < l.length → ∃ b off, a = some ⟨b, off, none⟩ ∧ ∀ j, j < l.length → W.cell? ⟨b, off + j, none⟩ = some (.int .i64 ((l.getD j 0 : Nat) : Int)))
theorem Nus.below {W W' : World} {v : Value} {l : List Nat} (h : Nus W v l) (hB : Below W.heap.size W W') : Nus W' v l := by
  obtain ⟨a, c, rfl, h⟩ := h
  refine ⟨a, c, rfl, fun h0 => ?_⟩
  obtain ⟨b, off, rfl, hc⟩ := h h0
  exact ⟨b, off, rfl, fun j hj => (hB.cell (p := ⟨b, off + j, none⟩) (World.block_lt_of_cell? W _ (hc j hj))).trans (hc j hj)⟩
theorem nvs_at (l : List Nat) (k : Nat) (h : k < l.length) : (nvs l)[k]? = some (.int .i64 ((l[k] : Nat) : Int)) := by simp [nvs, h]
theorem nvs_cell {W : World} {B : Nat} {va : Option Addr} {vc N k : Nat} {xs : List Value} {u : Value} (h : W.ownsRow B 3 1 (.slice va N vc) N xs) (hk : k < N) (hs : xs[k]? = some u) : ∃ vb, va = some ⟨vb, 0, none⟩ ∧ W.cell? ⟨vb, k, none⟩ = some u := by
  have hx := h
  rcases h.2 with ⟨e, _⟩ | ⟨g, cap, cur, e, _⟩
  · simp only [Value.slice.injEq] at e; omega
  · simp only [Value.slice.injEq] at e
    obtain ⟨rfl, _, rfl⟩ := e
    refine ⟨g, rfl, ?_⟩
    rw [hx.cellAt k (by omega), hs]
theorem Nus.of_owns {W : World} {B : Nat} {v : Value} {l : List Nat} (h : W.ownsRow B 3 1 v l.length (nvs l)) : Nus W v l := by
  obtain ⟨a, c, rfl⟩ := owns_slice h
  refine ⟨a, c, rfl, fun h0 => ?_⟩
  obtain ⟨b, rfl, _⟩ := nvs_cell h h0 (nvs_at l 0 h0)
  refine ⟨b, 0, rfl, fun j hj => ?_⟩
  obtain ⟨b', e, hc⟩ := nvs_cell h hj (nvs_at l j hj)
  cases e
  rw [Nat.zero_add, hc]
  simp [hj]
set_option maxRecDepth 100000 in
set_option maxHeartbeats 2000000 in
theorem sameNus_any (x y : Value) (l : List Nat) (w : World) (hx : Nus w x l) (hy : Nus w y l) (hl : l.length ≤ 9223372036854775807) :
    Calls Try.prog 12 #[x, y] w fun e w' => e = .returned (.bool true) ∧ Below w.heap.size w w' := by
  obtain ⟨xa, xc, rfl, hx⟩ := hx
  obtain ⟨ya, yc, rfl, hy⟩ := hy
  have HX := hide hx
  have HY := hide hy
  clear hx hy
  go_enter Try.func12, Try.ntmps12
  go_wp2
  go_loopw [5] (fun i wr => ∃ (k : Nat), k ≤ l.length ∧ i = .int .i64 k ∧ ∃ q, wr = w.drewN q) (fun i _ => l.length - (intOf i).toNat)
  case atStart => exact ⟨0, Nat.zero_le _, rfl, 0, rfl⟩
  case round =>
    obtain ⟨k, hk, rfl, q, rfl⟩ := hrel
    by_cases hlt : k < l.length
    · obtain ⟨b1, o1, rfl, hc1⟩ := HX.out (by omega)
      obtain ⟨b2, o2, rfl, hc2⟩ := HY.out (by omega)
      have g1 := hc1 k hlt
      have g2 := hc2 k hlt
      clear hc1 hc2 HX HY
      have hk1 : (0 : Int) ≤ (k : Int) := by omega
      have hk2 : (k : Int) < (l.length : Int) := by omega
      generalize ((l.getD k 0 : Nat) : Int) = x at g1 g2
      go_wp2
      go_quiet (fail)
      go_wp2
      go_roundw
      case rel => exact ⟨k + 1, by omega, by go_num, _, rfl⟩
      case measure => simp [intOf]; omega
    · go_wp2
      go_ret
      exact ⟨rfl, below_drewN (Below.refl _ _) _⟩
theorem nus_lit (w : World) (l : List Nat) (cs : Array Value) (n : Nat) (hn : n = l.length) (hcs : cs.toList = nvs l) : Nus (w.alloc (Obj.cells cs 3)) (.slice (some ⟨w.heap.size, 0, none⟩) n n) l := by
  subst hn
  refine ⟨_, _, rfl, fun _ => ⟨w.heap.size, 0, rfl, fun j hj => ?_⟩⟩
  rw [cell_of_row _ w.heap.size _ cs _ _ (heap_alloc_new w _)]
  have h1 : cs.toList[0 + j]? = (nvs l)[j]? := by rw [hcs, Nat.zero_add]
  rw [Array.getElem?_toList] at h1
  rw [h1, nvs_at l j hj]
  simp [hj]
theorem blit_bys (w : World) (l : List UInt8) (cs : Array Value) (n : Nat) (fr : Nat × Nat) (hn : n = l.length) (hcs : cs.toList = l.map bv) : Bys (w.alloc (Obj.cells cs 5 fr)) (.slice (some ⟨w.heap.size, 0, none⟩) n n) l := by
  subst hn
  by_cases h0 : l.length = 0
  · exact .inr (.inl ⟨_, _, by rw [h0], List.length_eq_zero_iff.1 h0⟩)
  · refine .inr (.inr ⟨w.heap.size, 0, l.length, rfl, by omega, fun j hj => ?_⟩)
    rw [cell_of_row _ w.heap.size _ cs _ fr (heap_alloc_new w _)]
    have h1 : cs.toList[0 + j]? = (l.map bv)[j]? := by rw [hcs, Nat.zero_add]
    rw [Array.getElem?_toList] at h1
    rw [h1]
    simp [List.getD_eq_getElem?_getD, List.getElem?_eq_getElem hj, bv]
theorem bconv_lit (w : World) (C : Array Value) (n m : Nat) (hm : C.size = m) : (convert 22 22 (.slice (some ⟨w.heap.size, 0, none⟩) n n)).run Try.prog (w.alloc (.cells C 5)) = .ok (.slice (some ⟨w.heap.size, 0, none⟩) n n) (w.alloc (.cells C 5 (m, m + 1))) := by
  subst hm
  exact Lib.run_convert_bytes_const w 22 5 C n n Try.underlying22 Try.underlying5
set_option maxRecDepth 100000 in
set_option maxHeartbeats 4000000 in
theorem balive_any (w : World) : Calls Try.prog 14 #[] w fun e w' => e = .returned (.bool true) ∧ Below w.heap.size w w' := by
  have v1 : bwL 3 4 [0, 0, 0, 0, 0, 0, 0, 0, 0, 0] = [4, 4, 2] := by decide
  have v2 : bwL 2 4 [97, 98, 10, 99, 100, 101, 102, 103, 104] = [3, 4, 2] := by decide
  have v3 : bwE 3 4 [0, 0, 0, 0, 0, 0, 0, 0, 0, 0] = 0 := by decide
  have v4 : bwE 2 4 [97, 98, 10, 99, 100, 101, 102, 103, 104] = 0 := by decide
  have v5 : brN 3 4 10 6 = 3 := by decide
  have v6 : brE 3 4 10 6 = 0 := by decide
  obtain ⟨i0, hi, hz0, hz1, hz2⟩ := info_parts Try.infoB
  have HV := hide (And.intro v1 (And.intro v2 (And.intro v3 (And.intro v4 (And.intro v5 v6)))))
  clear v1 v2 v3 v4 v5 v6
  go_enter Try.func14, Try.ntmps14
  go_wp2_with (first | (at_make; refine wpList_make_full _ rfl _ _ 22 rfl w.heap.size 5 i0 (.int .u8 0) 1 Try.underlying22 hi hz0 hz1 _ _ _ _ 10 rfl rfl rfl rfl (by rw [hz2]; decide) (by decide) (Nat.le_refl _) ?_; intro w1 hown hgrow) | fail)
  have hby : Bys w1 (.slice (some ⟨w.heap.size, 0, none⟩) 10 10) [0, 0, 0, 0, 0, 0, 0, 0, 0, 0] := Bys.of_owns (base := w.heap.size) (by
    have e : (madeCells (Value.int .u8 0).cells (10 * 1)).toList = ([0, 0, 0, 0, 0, 0, 0, 0, 0, 0] : List UInt8).map bv := by kernel_rfl
    rw [e] at hown
    exact hown)
  have HB1 := hide ((Below.refl _ w).grown hgrow (Nat.le_refl _) (fun k e => by cases e))
  have HW1 := hide (bwrites_any 3 4 _ 10 [0, 0, 0, 0, 0, 0, 0, 0, 0, 0] (Nat.le_refl _) w1 hby)
  rw [HV.out.1, HV.out.2.2.1] at HW1
  clear hown hgrow hby
  refine HW1.out.mono ?_
  rintro _ w2 ⟨u, rfl, hO2, hB2⟩
  obtain ⟨ua, uc, rfl⟩ := owns_slice hO2
  have HN2 := hide (Nus.of_owns hO2)
  have HB2 := hide (HB1.out.trans (hB2.mono HB1.out.size))
  clear hO2 hB2 HW1
  have cl := bconv_lit w2 #[.int .u8 97, .int .u8 98, .int .u8 10, .int .u8 99, .int .u8 100, .int .u8 101, .int .u8 102, .int .u8 103, .int .u8 104] 9 9 rfl
  have hb3 := blit_bys w2 [97, 98, 10, 99, 100, 101, 102, 103, 104] #[.int .u8 97, .int .u8 98, .int .u8 10, .int .u8 99, .int .u8 100, .int .u8 101, .int .u8 102, .int .u8 103, .int .u8 104] 9 (9, 10) rfl rfl
  have HB3 := hide ((Below.refl _ w2).alloc (Nat.le_refl _) (Obj.cells #[.int .u8 97, .int .u8 98, .int .u8 10, .int .u8 99, .int .u8 100, .int .u8 101, .int .u8 102, .int .u8 103, .int .u8 104] 5 (9, 10)))
  have HW3 := hide (bwrites_any 2 4 _ 9 [97, 98, 10, 99, 100, 101, 102, 103, 104] (Nat.le_refl _) _ hb3)
  rw [HV.out.2.1, HV.out.2.2.2.1] at HW3
  clear hb3
  go_wp2_with fail
  refine HW3.out.mono ?_
  rintro _ w4 ⟨u, rfl, hO4, hB4⟩
  obtain ⟨va, vc, rfl⟩ := owns_slice hO4
  have HN4 := hide (Nus.of_owns hO4)
  have hB24 := HB3.out.trans (hB4.mono HB3.out.size)
  have HN24 := hide (HN2.out.below hB24)
  have HB4 := hide (HB2.out.trans (hB24.mono HB2.out.size))
  clear hO4 hB4 HW3 cl HB3 hB24
  have HR := hide (fun W => breads_any 3 4 10 6 W)
  rw [HV.out.2.2.2.2.1, HV.out.2.2.2.2.2] at HR
  go_wp2_with (first | (go_at_call 10; refine (HR.out _).mono ?_; rintro _ _ ⟨rfl, rfl⟩) | (go_at_call 13; refine (bnum_is _ _).mono ?_; rintro _ _ ⟨rfl, rfl⟩) | fail)
  have hBa : Below w4.heap.size w4 (w4.alloc (Obj.cells #[.int .i64 4, .int .i64 4, .int .i64 2] 3)) := (Below.refl _ w4).alloc (Nat.le_refl _) _
  refine (sameNus_any _ _ [4, 4, 2] _ (HN24.out.below hBa) (nus_lit w4 [4, 4, 2] #[.int .i64 4, .int .i64 4, .int .i64 2] 3 rfl rfl) (by decide)).mono ?_
  rintro _ w5 ⟨rfl, hB5⟩
  have hB45 := hBa.trans (hB5.mono hBa.size)
  have HN5 := hide (HN4.out.below hB45)
  have HB5 := hide (HB4.out.trans (hB45.mono HB4.out.size))
  clear hBa hB5 hB45
  go_wp2_with fail
  have hBb : Below w5.heap.size w5 (w5.alloc (Obj.cells #[.int .i64 3, .int .i64 4, .int .i64 2] 3)) := (Below.refl _ w5).alloc (Nat.le_refl _) _
  refine (sameNus_any _ _ [3, 4, 2] _ (HN5.out.below hBb) (nus_lit w5 [3, 4, 2] #[.int .i64 3, .int .i64 4, .int .i64 2] 3 rfl rfl) (by decide)).mono ?_
  rintro _ w6 ⟨rfl, hB6⟩
  go_wp2
  go_ret
  exact ⟨rfl, HB5.out.trans ((hBb.trans (hB6.mono hBb.size)).mono HB5.out.size)⟩
end Go.Proofs.Ytibnpeipndkciaa

/- BufmodeCounts, BufmodeSums: the walks. -/
namespace Go.Proofs.Ytibnpeipndkciaa
open Go.RowKit

theorem bys_len12 {W : World} {a : Option Addr} {n c : Nat} {l : List UInt8} (h : Bys W (.slice a n c) l) : n = l.length := by
  obtain ⟨a1, c1, e, -⟩ := bys_form h
  cases e
  rfl
set_option maxRecDepth 100000 in
set_option maxHeartbeats 4000000 in
theorem bcounts_any (mode size : Int) (ta : Option Addr) (tn tc : Nat) (t : List UInt8) (n hv : Int) (w : World) (hb : Bys w (.slice ta tn tc) t) (htc : t.length ≤ tc) (htl : t.length ≤ 140737488351232) :
    Calls Try.prog 3 #[.int .i64 mode, .int .i64 size, .slice ta tn tc, .int .i64 n, .int .i64 hv] w fun e w' => e = .returned (.bool true) ∧ Below w.heap.size w w' := by
  obtain rfl := bys_len12 hb
  have HBy := hide hb
  have hwl := bwL_len (mode := mode) (size := size) (t := t)
  have HWl := hide hwl
  have HP := hide (fun (W : World) (hW : Below w.heap.size w W) => bwrites_any mode size ta tc t htc W (HBy.out.below hW))
  have HQ := hide (fun (W : World) (hW : Below w.heap.size w W) => rbwrites_any mode size ta tc t W (HBy.out.below hW) htl)
  have HR := hide (fun W => breads_any mode size n hv W)
  have HS := hide (fun W => rbreads_any mode size n hv W)
  clear hb hwl
  generalize bwL mode size t = L at *
  generalize bwE mode size t = E at *
  generalize brN mode size n hv = N at *
  generalize brE mode size n hv = F at *
  go_enter Try.func3, Try.ntmps3
  go_wp2_with fail
  refine (HP.out _ (Below.refl _ _)).mono ?_
  rintro _ w1 ⟨u, rfl, hO1, hB1⟩
  obtain ⟨ua, uc, rfl⟩ := owns_slice hO1
  have HN1 := hide (Nus.of_owns hO1)
  have HB1 := hide hB1
  clear hO1 hB1
  go_wp2_with fail
  refine (HQ.out _ HB1.out).mono ?_
  rintro _ w2 ⟨u, rfl, hO2, hB2⟩
  obtain ⟨va, vc, rfl⟩ := owns_slice hO2
  have HN2 := hide (Nus.of_owns hO2)
  have HN12 := hide (HN1.out.below hB2)
  have HB2 := hide (HB1.out.trans (hB2.mono HB1.out.size))
  clear hO2 hB2
  go_wp2_with (first | (go_at_call 10; refine (HR.out _).mono ?_; rintro _ _ ⟨rfl, rfl⟩) | fail)
  refine (HS.out _).mono ?_
  rintro _ w3 ⟨rfl, hB3⟩
  have HN3 := hide (HN2.out.below hB3)
  have HN13 := hide (HN12.out.below hB3)
  have HB3 := hide (HB2.out.trans (hB3.mono HB2.out.size))
  clear hB3
  go_wp2_with fail
  refine (sameNus_any _ _ L _ HN13.out HN3.out (by have := HWl.out; omega)).mono ?_
  rintro _ w4 ⟨rfl, hB4⟩
  have HB4 := hide (HB3.out.trans (hB4.mono HB3.out.size))
  clear hB4
  go_wp2_with (first | (go_at_call 13; refine (bnum_is _ _).mono ?_; rintro _ _ ⟨rfl, rfl⟩) | fail)
  refine (balive_any _).mono ?_
  rintro _ w5 ⟨rfl, hB5⟩
  go_wp2
  go_ret
  exact ⟨rfl, HB4.out.trans (hB5.mono HB4.out.size)⟩
theorem bfull_le (t sz : Nat) (h1 : 1 ≤ sz) : (t + (sz - 1)) / sz ≤ t / sz + 1 := by
  have : (t + (sz - 1)) / sz ≤ (t + sz) / sz := Nat.div_le_div_right (by omega)
  rw [Nat.add_div_right _ (by omega)] at this
  exact this
theorem bfew_le (b sz r : Nat) (hb : b ≤ 1048576) (h : r ≤ b / sz + 1) : decide ((r : Int) ≤ wrap64 (wrap64 ((b : Int) / (sz : Int)) + 1)) = true := by
  have h1 : b / sz ≤ 1048576 := Nat.le_trans (Nat.div_le_self _ _) hb
  rw [show (b : Int) / (sz : Int) = ((b / sz : Nat) : Int) from (Int.natCast_ediv _ _).symm]
  generalize b / sz = q at *
  have e3 : wrap64 (q : Int) = (q : Int) := by unfold wrap64; omega
  have e4 : wrap64 ((q : Int) + 1) = (q : Int) + 1 := by unfold wrap64; omega
  rw [e3, e4]
  exact decide_eq_true (by omega)
theorem sum_take_le (L : List Nat) (k : Nat) : (L.take k).sum ≤ L.sum := by
  conv => rhs; rw [← List.take_append_drop k L]
  rw [List.sum_append]
  omega
set_option maxRecDepth 100000 in
set_option maxHeartbeats 4000000 in
theorem bsums_any (mode size : Int) (ta : Option Addr) (tn tc : Nat) (t : List UInt8) (w : World) (hb : Bys w (.slice ta tn tc) t) (htc : t.length ≤ tc) :
    Calls Try.prog 4 #[.int .i64 mode, .int .i64 size, .slice ta tn tc] w fun e w' => e = .returned (.bool true) ∧ Below w.heap.size w w' := by
  obtain rfl := bys_len12 hb
  have HBy := hide hb
  have HP := hide (fun (W : World) (hW : Below w.heap.size w W) => bwrites_any mode size ta tc t htc W (HBy.out.below hW))
  clear hb
  by_cases hE : bwE mode size t = 0
  case neg =>
    have hL : bwL mode size t = [] := by unfold bwL; rw [if_neg hE]
    rw [hL] at HP
    generalize bwE mode size t = E at *
    have hE2 : (E == 0) = false := by simpa using hE
    have hE3 : (E != 0) = true := by simpa using hE
    clear hL
    go_enter Try.func4, Try.ntmps4
    go_wp2_with fail
    refine (balive_any _).mono ?_
    rintro _ w1 ⟨rfl, hB1⟩
    have HB1 := hide hB1
    clear hB1
    go_wp2_with fail
    refine (HP.out _ HB1.out).mono ?_
    rintro _ w2 ⟨u, rfl, hO2, hB2⟩
    obtain ⟨ua, uc, rfl⟩ := owns_slice hO2
    have HB2 := hide (HB1.out.trans (hB2.mono HB1.out.size))
    clear hO2 hB2
    go_wp2_with (first | (go_at_call 13; refine (bnum_is _ _).mono ?_; rintro _ _ ⟨rfl, rfl⟩) | fail)
    go_ret
    exact ⟨rfl, HB2.out⟩
  obtain ⟨L, hL⟩ : ∃ L, L = bwL mode size t := ⟨_, rfl⟩
  have hLr : L = rwr (decide (mode = 2)) (brm mode size).toNat 0 t := by rw [hL]; unfold bwL; rw [if_pos hE]
  rw [← hL, hE] at HP
  obtain ⟨hr, htm⟩ := bwE_ok hE
  obtain ⟨m, hm, hmt, hm1, hm2⟩ := brm_nat hr
  obtain ⟨q1, q2, q3, q4⟩ := bref_ok hr
  rw [hmt] at hLr
  have hsum : L.sum = t.length := by rw [hLr, rwr_sum _ m t 0 (by omega)]; omega
  have heach : ∀ k (h : k < L.length), 1 ≤ L[k] ∧ L[k] ≤ m := fun k h => rwr_each (decide (mode = 2)) m t 0 (by omega) _ (by rw [← hLr]; exact List.getElem_mem h)
  have hmu : (m : Int) ≤ size ∧ (mode = 1 → m = 1) ∧ (mode = 3 → size = (m : Int)) := by
    unfold brm at hm
    refine ⟨by split at hm <;> omega, fun e => by rw [if_pos e] at hm; omega, fun e => by rw [if_neg (by omega)] at hm; exact hm⟩
  have hfull : mode = 3 → L.length ≤ t.length / m + 1 := fun e => by
    have h3 : decide (mode = 2) = false := by rw [decide_eq_false_iff_not]; omega
    rw [hLr, h3, rwr_full m t 0 (by omega), Nat.zero_add]
    exact bfull_le _ _ hm1
  have hLl : L.length ≤ 1048576 := by rw [hL]; exact bwL_len
  have HEa := hide heach
  have HSu := hide hsum
  have HFu := hide hfull
  obtain ⟨hm3, hm4, hm5⟩ := hmu
  have HM4 := hide hm4
  have HM5 := hide hm5
  clear heach hsum hfull hL hLr hE hr hm hmt hm4 hm5
  go_enter Try.func4, Try.ntmps4
  go_wp2_with fail
  refine (balive_any _).mono ?_
  rintro _ w1 ⟨rfl, hB1⟩
  have HB1 := hide hB1
  clear hB1
  go_wp2_with fail
  refine (HP.out _ HB1.out).mono ?_
  rintro _ w2 ⟨u, rfl, hO2, hB2⟩
  have HN2 := hide (Nus.of_owns hO2)
  obtain ⟨ua, uc, rfl⟩ := owns_slice hO2
  have HB2 := hide (HB1.out.trans (hB2.mono HB1.out.size))
  clear hO2 hB2
  go_wp2_with (first | (go_at_call 13; refine (bnum_is _ _).mono ?_; rintro _ _ ⟨rfl, rfl⟩) | fail)
  go_loopw [9, 10] (fun s i wr => ∃ (k : Nat), k ≤ L.length ∧ i = .int .i64 k ∧ s = .int .i64 ((L.take k).sum : Nat) ∧ ∃ q, wr = w2.drewN q) (fun _ i _ => L.length - (intOf i).toNat)
  case atStart => exact ⟨0, Nat.zero_le _, rfl, rfl, 0, rfl⟩
  case round =>
    obtain ⟨k, hk, rfl, rfl, q, rfl⟩ := hrel
    have hsl := sum_take_le L k
    rw [HSu.out] at hsl
    by_cases hlt : k < L.length
    case neg =>
      obtain rfl : k = L.length := by omega
      rw [List.take_length, HSu.out]
      clear hsl
      by_cases h3 : mode = 3
      · have hsm := HM5.out h3
        subst hsm
        have h4 : (mode != 3) = false := by simpa using h3
        have h5 : (mode == 3) = true := by simpa using h3
        have HF := hide (bfew_le t.length m L.length htm (HFu.out h3))
        have hzN : ¬ m = 0 := by omega
        have hzM : (m == 0) = false := by simp only [beq_eq_false_iff_ne]; exact hzN
        have hz0 : ¬ (m : Int) = 0 := by omega
        have hz9 : ((m : Int) == 0) = false := by simp only [beq_eq_false_iff_ne]; exact hz0
        clear h3
        go_wp2
        go_ret
        exact ⟨ret_bool HF.out, below_drewN HB2.out _⟩
      · have h4 : (mode != 3) = true := by simpa using h3
        have h5 : (mode == 3) = false := by simpa using h3
        go_wp2
        go_ret
        exact ⟨rfl, below_drewN HB2.out _⟩
    obtain ⟨xa, xc, e, hx⟩ := HN2.out
    cases e
    obtain ⟨b, o, rfl, hc⟩ := hx (by omega)
    have g1 := hc k hlt
    obtain ⟨x1, x2⟩ := HEa.out k hlt
    have hst : (L.take (k + 1)).sum = (L.take k).sum + L[k] := by rw [List.take_succ_eq_append_getElem hlt, List.sum_append]; simp
    have hgd : L.getD k 0 = L[k] := by rw [List.getD_eq_getElem?_getD, List.getElem?_eq_getElem hlt]; rfl
    rw [hgd] at g1
    have hk1 : (0 : Int) ≤ (k : Int) := by omega
    have hk2 : (k : Int) < (L.length : Int) := by omega
    have hsl2 := sum_take_le L (k + 1)
    rw [HSu.out, hst] at hsl2
    have HSt := hide hst
    generalize (L.take k).sum = S at *
    generalize L[k] = x at *
    clear hst hgd hx hc
    have hx1 : ¬ (x : Int) < 1 := by omega
    have hx2 : ¬ size < (x : Int) := by omega
    by_cases h1 : mode = 1
    · have h2 : (mode == 1) = true := by simpa using h1
      have h3 : x = 1 := by have := HM4.out h1; omega
      subst h3
      clear h1
      go_wp2
      go_roundw
      case rel => exact ⟨k + 1, by omega, by go_num, by rw [HSt.out]; go_num, q, rfl⟩
      case measure => simp [intOf]; omega
    · have h2 : (mode == 1) = false := by simpa using h1
      go_wp2
      go_roundw
      case rel => exact ⟨k + 1, by omega, by go_num, by rw [HSt.out]; go_num, q, rfl⟩
      case measure => simp [intOf]; omega
end Go.Proofs.Ytibnpeipndkciaa

/- BufmodeTrue, BufmodeTaken, as values: what a stream's Counter counts. -/
namespace Go.Proofs.Ytibnpeipndkciaa
open Go.RowKit

/-- A stream that is written alone, of any mode: it holds fewer bytes than it may. -/
structure GwB (x : SS) (m : Nat) : Prop where
  wt : x.wt = true
  m1 : 1 ≤ x.mode
  m2 : x.mode ≤ 3
  s1 : 1 ≤ x.size
  s2 : x.size ≤ 65536
  hm : brm x.mode x.size = (m : Int)
  ol : x.out.length < m
  inn : x.inn = []
  back : x.back = []
  closed : x.closed = false
  dir : x.dir = 2 ∨ (x.dir = 0 ∧ x.out = [])
theorem GwB.one {x : SS} {m : Nat} (h : GwB x m) (e : x.mode = 1) : m = 1 ∧ x.out = [] := by
  have h1 := h.hm
  unfold brm at h1
  rw [if_pos e] at h1
  have h2 := h.ol
  exact ⟨by omega, List.length_eq_zero_iff.1 (by omega)⟩
theorem GwB.more {x : SS} {m : Nat} (h : GwB x m) (e : ¬ x.mode = 1) : x.size = (m : Int) := by
  have h1 := h.hm
  unfold brm at h1
  rwa [if_neg e] at h1
theorem GwB.may {x : SS} {m : Nat} (h : GwB x m) : x.may = true := by
  have h1 := h.m1
  have h2 := h.m2
  have h3 := h.s1
  have h4 := h.s2
  have h5 := h.ol
  have hb : x.buf = true := by
    unfold SS.buf
    rw [h.inn, h.back]
    have e : (x.out.length : Int) ≤ if x.mode = 1 then 0 else x.size := by
      split
      · rename_i e; rw [(h.one e).2]; simp
      · rename_i e; have := h.more e; omega
    rw [decide_eq_true h1, decide_eq_true h2, decide_eq_true h3, decide_eq_true h4, decide_eq_true e]
    simp
  have hw : x.way = true := by
    unfold SS.way SS.toR SS.toW
    rw [h.inn, h.back, h.closed, h.wt]
    rcases h.dir with e | ⟨e, e4⟩
    · simp [e]
    · simp [e, e4]
  unfold SS.may
  rw [hb, hw]
  rfl
theorem GwB.refuse {x : SS} {m : Nat} (h : GwB x m) : x.refuse true = 0 := by
  unfold SS.refuse
  rw [if_neg (by simp [h.may]), if_neg (by simp), if_neg (by simp [h.closed])]
theorem GwB.noWrite {x : SS} {m : Nat} (h : GwB x m) : x.noWrite = 0 := by
  unfold SS.noWrite
  rw [if_neg (by simp [h.refuse]), if_neg (by simp [h.wt]), if_neg (fun e => by rcases h.dir with d | d <;> omega)]
theorem GwB.small2 {x : SS} {m : Nat} (h : GwB x m) : x.out.length ≤ 65536 := by
  have h1 := h.ol
  have h2 := h.hm
  have h3 := h.s2
  unfold brm at h2
  split at h2 <;> omega
/-- A byte is put: what is held, taken and counted. -/
theorem gw_put {x : SS} {S : CtS} {m : Nat} (h : GwB x m) (c : UInt8) : (x.put ctD S c).2.1 = 0 ∧ GwB (x.put ctD S c).1 m ∧ (x.put ctD S c).1.mode = x.mode ∧ (x.put ctD S c).1.size = x.size ∧ (x.put ctD S c).2.2.rd = S.rd ∧
    (if x.out.length + 1 = m ∨ (decide (x.mode = 2) = true ∧ c = 10) then (x.put ctD S c).1.out = [] ∧ (x.put ctD S c).2.2.b = S.b ++ x.out ++ [c] ∧ (x.put ctD S c).2.2.wr = S.wr + 1 else (x.put ctD S c).1.out = x.out ++ [c] ∧ (x.put ctD S c).2.2.b = S.b ∧ (x.put ctD S c).2.2.wr = S.wr) := by
  have ho := h.ol
  unfold SS.put
  rw [if_pos h.noWrite]
  unfold SS.put1
  by_cases h1 : x.mode = 1
  · obtain ⟨rfl, e2⟩ := h.one h1
    have hc : x.out.length + 1 = 1 ∨ (decide (x.mode = 2) = true ∧ c = 10) := .inl (by rw [e2]; rfl)
    rw [if_pos h1, if_pos hc, ct_put S [c] (by simp)]
    refine ⟨rfl, ⟨h.wt, h.m1, h.m2, h.s1, h.s2, h.hm, ?_, h.inn, h.back, h.closed, .inl rfl⟩, rfl, rfl, rfl, ?_, ?_, ?_⟩
    · show x.out.length < 1; omega
    · show x.out = []; exact e2
    · show S.b ++ [c] = S.b ++ x.out ++ [c]; rw [e2, List.append_nil]
    · show S.wr + (if [c] = [] then 0 else 1) = S.wr + 1; simp
  · have hs := h.more h1
    rw [if_neg h1, if_neg (by simp only; omega)]
    unfold SS.lay
    simp only
    by_cases hc : x.out.length + 1 = m ∨ (decide (x.mode = 2) = true ∧ c = 10)
    · rw [if_pos hc, if_pos (by
        rcases hc with e | e
        · left; omega
        · right; simpa using e), ct_deliver _ S (by simp; have := h.s2; omega)]
      refine ⟨rfl, ⟨h.wt, h.m1, h.m2, h.s1, h.s2, h.hm, by show 0 < m; omega, h.inn, h.back, h.closed, .inl rfl⟩, rfl, rfl, rfl, rfl, ?_, ?_⟩
      · simp
      · simp
    · rw [if_neg hc, if_neg (fun e => hc (by
        rcases e with e | e
        · left; omega
        · right; simpa using e))]
      have : ¬ x.out.length + 1 = m := fun e => hc (.inl e)
      exact ⟨rfl, ⟨h.wt, h.m1, h.m2, h.s1, h.s2, h.hm, by show (x.out ++ [c]).length < m; simp; omega, h.inn, h.back, h.closed, .inl rfl⟩, rfl, rfl, rfl, rfl, rfl, rfl⟩
theorem gw_close {x : SS} {S : CtS} {m : Nat} (h : GwB x m) : (x.close ctD S).2.1 = 0 ∧ (x.close ctD S).2.2 = ⟨S.b ++ x.out, S.pl, S.rd, S.wr + if x.out = [] then 0 else 1⟩ := by
  have h1 := h.ol
  have h2 : m ≤ 65536 := by
    have := h.hm
    have := h.s2
    unfold brm at *
    split at * <;> omega
  unfold SS.close
  rw [if_neg (by simp [h.refuse]), ct_deliver x S (by omega)]
  exact ⟨rfl, rfl⟩
/-- k bytes of t were put; N writes in the end. -/
structure GwW (x : SS) (S : CtS) (t : List UInt8) (k m N : Nat) (md : Int) : Prop where
  b : GwB x m
  mode : x.mode = md
  all : S.b ++ x.out = t.take k
  few : S.wr + (rwr (decide (md = 2)) m x.out.length (t.drop k)).length = N
  rz : S.rd = 0
theorem GwW.put {x : SS} {S : CtS} {t : List UInt8} {k m N : Nat} {md : Int} (h : GwW x S t k m N md) (hk : k < t.length) : (x.put ctD S (t.getD k 0)).2.1 = 0 ∧ GwW (x.put ctD S (t.getD k 0)).1 (x.put ctD S (t.getD k 0)).2.2 t (k + 1) m N md := by
  have hf := h.few
  have hg : t.getD k 0 = t[k] := by rw [List.getD_eq_getElem?_getD, List.getElem?_eq_getElem hk]; rfl
  rw [List.drop_eq_getElem_cons hk] at hf
  rw [show rwr (decide (md = 2)) m x.out.length (t[k] :: t.drop (k + 1)) = if x.out.length + 1 = m ∨ (decide (md = 2) = true ∧ t[k] = 10) then (x.out.length + 1) :: rwr (decide (md = 2)) m 0 (t.drop (k + 1)) else rwr (decide (md = 2)) m (x.out.length + 1) (t.drop (k + 1)) from rfl] at hf
  obtain ⟨p1, p2, p3, p4, p5, p6⟩ := gw_put (S := S) h.b (t.getD k 0)
  have ht : t.take (k + 1) = t.take k ++ [t.getD k 0] := take_more t k hk
  rw [h.mode, hg] at p6
  rw [hg] at p1 p2 p3 p5 ht ⊢
  split at hf
  · rename_i hc
    rw [if_pos hc] at p6
    obtain ⟨q1, q2, q3⟩ := p6
    refine ⟨p1, p2, p3.trans h.mode, ?_, ?_, p5.trans h.rz⟩
    · rw [q1, q2, List.append_nil, h.all, ht]
    · rw [q1, q3, ← hf]; simp only [List.length_cons, List.length_nil]; omega
  · rename_i hc
    rw [if_neg hc] at p6
    obtain ⟨q1, q2, q3⟩ := p6
    refine ⟨p1, p2, p3.trans h.mode, ?_, ?_, p5.trans h.rz⟩
    · rw [q1, q2, ← List.append_assoc, h.all, ht]
    · rw [q1, q3, ← hf, List.length_append]; rfl
theorem GwW.end {x : SS} {S : CtS} {t : List UInt8} {m N : Nat} {md : Int} (h : GwW x S t t.length m N md) : (x.close ctD S).2.1 = 0 ∧ (x.close ctD S).2.2.b = t ∧ (x.close ctD S).2.2.wr = N := by
  obtain ⟨p1, p2⟩ := gw_close (S := S) h.b
  have hf := h.few
  have ha := h.all
  rw [List.drop_length] at hf
  rw [List.take_length] at ha
  refine ⟨p1, by rw [p2]; exact ha, ?_⟩
  rw [p2]
  show S.wr + _ = N
  rw [← hf]
  unfold rwr
  by_cases e : x.out = []
  · rw [if_pos e, e]; rfl
  · rw [if_neg e, if_pos (List.length_pos_iff.2 e)]; rfl
/-- A stream that is read alone, of any mode: i times a byte was asked for. -/
structure GwR (x : SS) (S : CtS) (t : List UInt8) (i m : Nat) : Prop where
  rd : x.rd = true
  m1 : 1 ≤ x.mode
  m2 : x.mode ≤ 3
  s1 : 1 ≤ x.size
  s2 : x.size ≤ 65536
  hm : brm x.mode x.size = (m : Int)
  out : x.out = []
  back : x.back = []
  closed : x.closed = false
  dir : x.dir = 1 ∨ (x.dir = 0 ∧ x.inn = [])
  all : S.b = t
  wz : S.wr = 0
  pl : S.pl ≤ t.length
  live : ∃ j, RdI m t.length S.rd j x.inn.length (t.length - S.pl) x.fin ∧ (x.fin = false → j = i) ∧ (x.fin = true → j ≤ i)
  dead : x.fin = true → x.inn = []
theorem GwR.hm1 {x : SS} {S : CtS} {t : List UInt8} {i m : Nat} (h : GwR x S t i m) : 1 ≤ m ∧ m ≤ 65536 := by
  have h1 := h.hm
  have h2 := h.s1
  have h3 := h.s2
  unfold brm at h1
  split at h1 <;> omega
theorem GwR.short {x : SS} {S : CtS} {t : List UInt8} {i m : Nat} (h : GwR x S t i m) : x.inn.length ≤ t.length := by
  rcases Bool.eq_false_or_eq_true x.fin with e | e
  · rw [h.dead e]; simp
  · obtain ⟨j, h1, -⟩ := h.live
    rw [e] at h1
    exact ((h1.le h.hm1.1).2 rfl).2.2
theorem GwR.may {x : SS} {S : CtS} {t : List UInt8} {i m : Nat} (h : GwR x S t i m) (ht : t.length ≤ 5000) : x.may = true := by
  have h1 := h.m1
  have h2 := h.m2
  have h3 := h.s1
  have h4 := h.s2
  have h5 := h.short
  have hb : x.buf = true := by
    unfold SS.buf
    rw [h.out, h.back]
    have e : (([] : List UInt8).length : Int) ≤ if x.mode = 1 then 0 else x.size := by
      split <;> simp; omega
    rw [decide_eq_true h1, decide_eq_true h2, decide_eq_true h3, decide_eq_true h4, decide_eq_true e, decide_eq_true (show (x.inn.length : Int) ≤ 65536 by omega)]
    simp
  have hw : x.way = true := by
    unfold SS.way SS.toR SS.toW
    rw [h.out, h.back, h.closed, h.rd]
    rcases h.dir with e | ⟨e, e4⟩
    · simp [e]
    · simp [e, e4]
  unfold SS.may
  rw [hb, hw]
  rfl
theorem GwR.noRead {x : SS} {S : CtS} {t : List UInt8} {i m : Nat} (h : GwR x S t i m) (ht : t.length ≤ 5000) : x.noRead = 0 := by
  have hr : x.refuse true = 0 := by
    unfold SS.refuse
    rw [if_neg (by simp [h.may ht]), if_neg (by simp), if_neg (by simp [h.closed])]
  unfold SS.noRead
  rw [if_neg (by simp [hr]), if_neg (by simp [h.rd]), if_neg (fun e => by rcases h.dir with d | d <;> omega)]
theorem GwR.get {x : SS} {S : CtS} {t : List UInt8} {i m : Nat} (h : GwR x S t i m) (ht : t.length ≤ 5000) : GwR (x.get ctD S).1 (x.get ctD S).2.2.2 t (i + 1) m := by
  obtain ⟨hm1, hm2⟩ := h.hm1
  obtain ⟨j, hj1, hj2, hj3⟩ := h.live
  have hpl := h.pl
  have hSl : S.b.length = t.length := by rw [h.all]
  unfold SS.get
  rw [if_pos (h.noRead ht)]
  unfold SS.get1
  rw [if_neg (by simp only; rw [h.back]; simp)]
  by_cases hp : 0 < x.inn.length
  · have hf : x.fin = false := by
      rcases Bool.eq_false_or_eq_true x.fin with e | e
      · rw [h.dead e] at hp; simp at hp
      · exact e
    rw [if_pos hp]
    rw [hf] at hj1
    refine ⟨h.rd, h.m1, h.m2, h.s1, h.s2, h.hm, h.out, h.back, h.closed, .inl rfl, h.all, h.wz, hpl, ⟨j + 1, ?_, fun _ => by rw [hj2 hf], fun e => ?_⟩, fun e => ?_⟩
    · show RdI m t.length S.rd (j + 1) (x.inn.drop 1).length (t.length - S.pl) x.fin
      rw [List.length_drop, hf]
      exact hj1.held (by omega)
    · have e2 : x.fin = true := e
      rw [hf] at e2; cases e2
    · have e2 : x.fin = true := e
      rw [hf] at e2; cases e2
  · have h0 : x.inn = [] := List.length_eq_zero_iff.1 (by omega)
    rw [if_neg hp]
    rcases Bool.eq_false_or_eq_true x.fin with hf | hf
    · rw [if_pos hf]
      exact ⟨h.rd, h.m1, h.m2, h.s1, h.s2, h.hm, h.out, h.back, h.closed, .inl rfl, h.all, h.wz, hpl, ⟨j, hj1, fun e => (by have e2 : x.fin = false := e; rw [hf] at e2; cases e2), fun _ => by have := hj3 hf; omega⟩, h.dead⟩
    · rw [if_neg (by simp only; rw [hf]; simp)]
      have hmo : ({ x with dir := 1 } : SS).most = m := by
        have h1 := h.hm
        unfold SS.most brm at *
        simp only
        split
        · rename_i e; rw [if_pos e] at h1; omega
        · rename_i e; rw [if_neg e] at h1; omega
      rw [hmo, ct_some S m]
      simp only
      rw [hf, h0] at hj1
      have hji := hj2 hf
      have hlen : ((S.b.drop S.pl).take (min m (S.b.length - S.pl))).length = min m (t.length - S.pl) := by rw [List.length_take, List.length_drop]; omega
      rw [if_neg (by simp)]
      by_cases hr : t.length - S.pl = 0
      · rw [if_pos (by omega)]
        have hz : min m (S.b.length - S.pl) = 0 := by omega
        refine ⟨h.rd, h.m1, h.m2, h.s1, h.s2, h.hm, h.out, h.back, h.closed, .inl rfl, h.all, h.wz, by show S.pl + min m (S.b.length - S.pl) ≤ _; omega, ⟨j + 1, ?_, fun e => (by cases e), fun _ => by omega⟩, fun _ => h0⟩
        show RdI m t.length (S.rd + 1) (j + 1) x.inn.length (t.length - (S.pl + min m (S.b.length - S.pl))) true
        rw [h0, hz, show t.length - (S.pl + 0) = 0 by omega]
        rw [hr] at hj1
        exact hj1.end hm1
      · rw [if_neg (by omega)]
        refine ⟨h.rd, h.m1, h.m2, h.s1, h.s2, h.hm, h.out, h.back, h.closed, .inl rfl, h.all, h.wz, by show S.pl + min m (S.b.length - S.pl) ≤ _; omega, ⟨j + 1, ?_, fun _ => by omega, fun e => ?_⟩, fun e => ?_⟩
        · show RdI m t.length (S.rd + 1) (j + 1) (((S.b.drop S.pl).take (min m (S.b.length - S.pl))).drop 1).length (t.length - (S.pl + min m (S.b.length - S.pl))) x.fin
          rw [List.length_drop, hlen, hf, hSl, show t.length - (S.pl + min m (t.length - S.pl)) = (t.length - S.pl) - min m (t.length - S.pl) by omega]
          exact hj1.read hm1 (by omega)
        · have e2 : x.fin = true := e
          rw [hf] at e2; cases e2
        · have e2 : x.fin = true := e
          rw [hf] at e2; cases e2
theorem GwR.reads {x : SS} {S : CtS} {t : List UInt8} {n m : Nat} (h : GwR x S t n m) : S.rd = rds m n t.length := by
  obtain ⟨j, h1, h2, h3⟩ := h.live
  have hm1 := h.hm1.1
  unfold rds
  rcases Bool.eq_false_or_eq_true x.fin with hf | hf
  · rw [hf] at h1
    obtain ⟨a1, a2⟩ := h1.dead rfl
    have := h3 hf
    rw [if_pos (by omega), a2]
  · rw [hf] at h1
    have a1 := h1.pcs hm1
    obtain ⟨a2, -⟩ := h1.live rfl
    have := h2 hf
    rw [if_neg (by omega), ← a1, this]
theorem GwR.rdle {x : SS} {S : CtS} {t : List UInt8} {n m : Nat} (h : GwR x S t n m) : S.rd ≤ t.length + 1 := by
  obtain ⟨j, h1, -⟩ := h.live
  exact (h1.le h.hm1.1).1
end Go.Proofs.Ytibnpeipndkciaa

/- Buffers' modes: a copy of a state. -/
namespace Go.Proofs.Ytibnpeipndkciaa
open Go.RowKit

set_option maxRecDepth 100000 in
set_option maxHeartbeats 40000000 in
theorem bcopied_any (x : SS) (o i b : Value) (P : Nat → Prop) (w : World) (h : SIn w P x o i b) (ho : x.out.length ≤ 140737488351232) (hi : x.inn.length ≤ 140737488351232) (hb : x.back.length ≤ 140737488351232) :
    Calls Try.prog 42 #[.agg #[.bool x.rd, .bool x.wt, .int .i64 x.mode, .int .i64 x.size, o, i, b, .int .i64 x.dir, .bool x.fin, .bool x.bad, .bool x.closed]] w fun e w' => ∃ o' i' b', e = .returned (.agg #[.bool x.rd, .bool x.wt, .int .i64 x.mode, .int .i64 x.size, o', i', b', .int .i64 x.dir, .bool x.fin, .bool x.bad, .bool x.closed]) ∧ w'.ownsRow w.heap.size 5 1 o' x.out.length (x.out.map bv) ∧ w'.ownsRow w.heap.size 5 1 i' x.inn.length (x.inn.map bv) ∧ w'.ownsRow w.heap.size 5 1 b' x.back.length (x.back.map bv) ∧ Below w.heap.size w w' := by
  have HC1 := hide (fun W (hB : Below w.heap.size w W) => bclone_any o x.out W ((h.so.turned (Turned.of_below (S := fun _ => False) hB) (fun _ _ _ => id)).choose_spec.choose_spec.2.1) ho)
  have HC2 := hide (fun W (hB : Below w.heap.size w W) => bclone_any i x.inn W ((h.si.turned (Turned.of_below (S := fun _ => False) hB) (fun _ _ _ => id)).choose_spec.choose_spec.2.1) hi)
  have HC3 := hide (fun W (hB : Below w.heap.size w W) => bclone_any b x.back W ((h.sb.turned (Turned.of_below (S := fun _ => False) hB) (fun _ _ _ => id)).choose_spec.choose_spec.2.1) hb)
  obtain ⟨oa, oc, rfl, -⟩ := h.so
  obtain ⟨ia, ic, rfl, -⟩ := h.si
  obtain ⟨ba, bc, rfl, -⟩ := h.sb
  clear h
  go_enter Try.func42, Try.ntmps42
  go_wp2_with fail
  have HB0 := hide ((recv_below w (Obj.cells #[.bool x.rd, .bool x.wt, .int .i64 x.mode, .int .i64 x.size, .slice oa x.out.length oc, .slice ia x.inn.length ic, .slice ba x.back.length bc, .int .i64 x.dir, .bool x.fin, .bool x.bad, .bool x.closed] 39)).trans ((recv_below (w.alloc (Obj.cells #[.bool x.rd, .bool x.wt, .int .i64 x.mode, .int .i64 x.size, .slice oa x.out.length oc, .slice ia x.inn.length ic, .slice ba x.back.length bc, .int .i64 x.dir, .bool x.fin, .bool x.bad, .bool x.closed] 39)) (Obj.cells #[.bool false, .bool false, .int .i64 0, .int .i64 0, .slice none 0 0, .slice none 0 0, .slice none 0 0, .int .i64 0, .bool false, .bool false, .bool false] 39)).mono (recv_below w (Obj.cells #[.bool x.rd, .bool x.wt, .int .i64 x.mode, .int .i64 x.size, .slice oa x.out.length oc, .slice ia x.inn.length ic, .slice ba x.back.length bc, .int .i64 x.dir, .bool x.fin, .bool x.bad, .bool x.closed] 39)).size))
  have HS0 := hide ((StAt.new w x (.slice oa x.out.length oc) (.slice ia x.inn.length ic) (.slice ba x.back.length bc)).below (recv_below _ (Obj.cells #[.bool false, .bool false, .int .i64 0, .int .i64 0, .slice none 0 0, .slice none 0 0, .slice none 0 0, .int .i64 0, .bool false, .bool false, .bool false] 39)))
  have HZ0 : Hid (((w.alloc (Obj.cells #[.bool x.rd, .bool x.wt, .int .i64 x.mode, .int .i64 x.size, .slice oa x.out.length oc, .slice ia x.inn.length ic, .slice ba x.back.length bc, .int .i64 x.dir, .bool x.fin, .bool x.bad, .bool x.closed] 39)).alloc (Obj.cells #[.bool false, .bool false, .int .i64 0, .int .i64 0, .slice none 0 0, .slice none 0 0, .slice none 0 0, .int .i64 0, .bool false, .bool false, .bool false] 39)).heap[w.heap.size + 1]? = some (Obj.cells #[.bool false, .bool false, .int .i64 0, .int .i64 0, .slice none 0 0, .slice none 0 0, .slice none 0 0, .int .i64 0, .bool false, .bool false, .bool false] 39)) := hide (by have := heap_alloc_new (w.alloc (Obj.cells #[.bool x.rd, .bool x.wt, .int .i64 x.mode, .int .i64 x.size, .slice oa x.out.length oc, .slice ia x.inn.length ic, .slice ba x.back.length bc, .int .i64 x.dir, .bool x.fin, .bool x.bad, .bool x.closed] 39)) (Obj.cells #[.bool false, .bool false, .int .i64 0, .int .i64 0, .slice none 0 0, .slice none 0 0, .slice none 0 0, .int .i64 0, .bool false, .bool false, .bool false] 39); rw [show (w.alloc (Obj.cells #[.bool x.rd, .bool x.wt, .int .i64 x.mode, .int .i64 x.size, .slice oa x.out.length oc, .slice ia x.inn.length ic, .slice ba x.back.length bc, .int .i64 x.dir, .bool x.fin, .bool x.bad, .bool x.closed] 39)).heap.size = w.heap.size + 1 from Array.size_push ..] at this; exact this)
  generalize (w.alloc (Obj.cells #[.bool x.rd, .bool x.wt, .int .i64 x.mode, .int .i64 x.size, .slice oa x.out.length oc, .slice ia x.inn.length ic, .slice ba x.back.length bc, .int .i64 x.dir, .bool x.fin, .bool x.bad, .bool x.closed] 39)).alloc (Obj.cells #[.bool false, .bool false, .int .i64 0, .int .i64 0, .slice none 0 0, .slice none 0 0, .slice none 0 0, .int .i64 0, .bool false, .bool false, .bool false] 39) = w0 at *
  have hz0 : w.heap.size + 1 < w0.heap.size := (Array.getElem?_eq_some_iff.1 HZ0.out).1
  obtain ⟨-, -, -, -, c4, c5, c6, -⟩ := HS0.out.cs
  go_region_law (first
    | (go_simp; go_at_call 59; have := HB2; refine (HC3.out _ HB2.out).mono ?_; rintro _ w3 ⟨u3, rfl, hO3, hB3⟩; obtain ⟨a3, k3, rfl⟩ := owns_slice hO3; have HS3 := hide (HS2.out.below hB3); have HZ3 := hide ((hB3.block (w.heap.size + 1) (Array.getElem?_eq_some_iff.1 HZ2.out).1).trans HZ2.out); have HB3 := hide (HB2.out.trans (hB3.mono HB2.out.size)); have HO3 := hide (And.intro (And.intro (owns_below HO2.out.1 hB3) (owns_below HO2.out.2 hB3)) hO3); clear hO3 hB3; obtain ⟨f0, f1, f2, f3, f4, f5, f6, f7, f8, f9, f10⟩ := HS3.out.cs; have g4 := frozen_of_row w3 w.heap.size 4 _ _ HS3.out; have g5 := frozen_of_row w3 w.heap.size 5 _ _ HS3.out; have g6 := frozen_of_row w3 w.heap.size 6 _ _ HS3.out)
    | (go_simp; go_at_call 59; have := HB1; refine (HC2.out _ HB1.out).mono ?_; rintro _ w2 ⟨u2, rfl, hO2, hB2⟩; obtain ⟨a2, k2, rfl⟩ := owns_slice hO2; have HS2 := hide (HS1.out.below hB2); have HZ2 := hide ((hB2.block (w.heap.size + 1) (Array.getElem?_eq_some_iff.1 HZ1.out).1).trans HZ1.out); have HB2 := hide (HB1.out.trans (hB2.mono HB1.out.size)); have hs2 := hB2.size; have HO2 := hide (And.intro (owns_below HO1.out hB2) hO2); clear hO2 hB2; obtain ⟨-, -, -, -, e4, e5, e6, -⟩ := HS2.out.cs)
    | (go_simp; go_at_call 59; refine (HC1.out _ (by exact HB0.out.drew)).mono ?_; rintro _ w1 ⟨u1, rfl, hO1, hB1⟩; obtain ⟨a1, k1, rfl⟩ := owns_slice hO1; have HS1 := hide (HS0.out.below ((Below.refl _ _).drew.trans hB1)); have HZ1 := hide ((hB1.block (w.heap.size + 1) (Array.getElem?_eq_some_iff.1 HZ0.out).1).trans HZ0.out); have HB1 := hide (HB0.out.trans (((Below.refl _ _).drew.trans hB1).mono HB0.out.size)); have hs1 : w0.heap.size ≤ w1.heap.size := hB1.size; have HO1 := hide hO1; clear hO1 hB1; obtain ⟨-, -, -, -, d4, d5, d6, -⟩ := HS1.out.cs)
    | fail)
  all_goals
    have e4 := Go.heap_setCell_same w3 w.heap.size 4 _ _ (.slice a1 x.out.length k1) HS3.out
    have e5 := Go.heap_setCell_same _ w.heap.size 5 _ _ (.slice a2 x.inn.length k2) e4
    have e6 := Go.heap_setCell_same _ w.heap.size 6 _ _ (.slice a3 x.back.length k3) e5
    have HS4 : Hid (StAt (((w3.setCell ⟨w.heap.size, 4, none⟩ (.slice a1 x.out.length k1)).setCell ⟨w.heap.size, 5, none⟩ (.slice a2 x.inn.length k2)).setCell ⟨w.heap.size, 6, none⟩ (.slice a3 x.back.length k3)) w.heap.size x (.slice a1 x.out.length k1) (.slice a2 x.inn.length k2) (.slice a3 x.back.length k3)) := hide e6
    have HT4 : Hid (Turned (fun k => k = w.heap.size) w3 (((w3.setCell ⟨w.heap.size, 4, none⟩ (.slice a1 x.out.length k1)).setCell ⟨w.heap.size, 5, none⟩ (.slice a2 x.inn.length k2)).setCell ⟨w.heap.size, 6, none⟩ (.slice a3 x.back.length k3))) := hide ((((Turned.refl (fun k => k = w.heap.size) w3).set (.inl rfl)).set (.inl rfl)).set (.inl rfl))
    clear e4 e5 e6 f0 f1 f2 f3 f4 f5 f6 f7 f8 f9 f10 g4 g5 g6 c4 c5 c6 d4 d5 d6 HS0 HS1 HS2 HS3 HZ0 HZ1 HZ2 HC1 HC2 HC3
    generalize ((w3.setCell ⟨w.heap.size, 4, none⟩ (.slice a1 x.out.length k1)).setCell ⟨w.heap.size, 5, none⟩ (.slice a2 x.inn.length k2)).setCell ⟨w.heap.size, 6, none⟩ (.slice a3 x.back.length k3) = w4 at *
    have HZ4 := hide ((HT4.out.block (w.heap.size + 1) (Array.getElem?_eq_some_iff.1 HZ3.out).1 (by omega)).trans HZ3.out)
    obtain ⟨f0, f1, f2, f3, f4, f5, f6, f7, f8, f9, f10⟩ := HS4.out.cs
    have z0 := cell_of_row w4 (w.heap.size + 1) 0 _ _ _ HZ4.out
    have z1 := cell_of_row w4 (w.heap.size + 1) 1 _ _ _ HZ4.out
    have z2 := cell_of_row w4 (w.heap.size + 1) 2 _ _ _ HZ4.out
    have z3 := cell_of_row w4 (w.heap.size + 1) 3 _ _ _ HZ4.out
    have z4 := cell_of_row w4 (w.heap.size + 1) 4 _ _ _ HZ4.out
    have z5 := cell_of_row w4 (w.heap.size + 1) 5 _ _ _ HZ4.out
    have z6 := cell_of_row w4 (w.heap.size + 1) 6 _ _ _ HZ4.out
    have z7 := cell_of_row w4 (w.heap.size + 1) 7 _ _ _ HZ4.out
    have z8 := cell_of_row w4 (w.heap.size + 1) 8 _ _ _ HZ4.out
    have z9 := cell_of_row w4 (w.heap.size + 1) 9 _ _ _ HZ4.out
    have z10 := cell_of_row w4 (w.heap.size + 1) 10 _ _ _ HZ4.out
    have y0 := frozen_of_row w4 (w.heap.size + 1) 0 _ _ HZ4.out
    have y1 := frozen_of_row w4 (w.heap.size + 1) 1 _ _ HZ4.out
    have y2 := frozen_of_row w4 (w.heap.size + 1) 2 _ _ HZ4.out
    have y3 := frozen_of_row w4 (w.heap.size + 1) 3 _ _ HZ4.out
    have y4 := frozen_of_row w4 (w.heap.size + 1) 4 _ _ HZ4.out
    have y5 := frozen_of_row w4 (w.heap.size + 1) 5 _ _ HZ4.out
    have y6 := frozen_of_row w4 (w.heap.size + 1) 6 _ _ HZ4.out
    have y7 := frozen_of_row w4 (w.heap.size + 1) 7 _ _ HZ4.out
    have y8 := frozen_of_row w4 (w.heap.size + 1) 8 _ _ HZ4.out
    have y9 := frozen_of_row w4 (w.heap.size + 1) 9 _ _ HZ4.out
    have y10 := frozen_of_row w4 (w.heap.size + 1) 10 _ _ HZ4.out
    simp at z0 z1 z2 z3 z4 z5 z6 z7 z8 z9 z10
    go_wp2
    obtain ⟨e1, e2⟩ := st_fill w4 (w.heap.size + 1) x (.slice a1 x.out.length k1) (.slice a2 x.inn.length k2) (.slice a3 x.back.length k3) HZ4.out
    have HTw := hide ((HT4.out.mono fun k e => (.inl e : k = w.heap.size ∨ k = w.heap.size + 1)).trans (e2.mono fun k e => (.inr e : k = w.heap.size ∨ k = w.heap.size + 1)) (fun _ _ e => e))
    refine bodyPost_ret (results_cell_row rfl _ _ (w.heap.size + 1) _ _ _ _ rfl e1 Try.underlying39 rfl (by kernel_rfl)) rfl ?_
    have far : ∀ k, w.heap.size + 1 < k → ¬ (k = w.heap.size ∨ k = w.heap.size + 1) := fun k h e => by omega
    have hr1 := HO3.out.1.1
    have hr2 := HO3.out.1.2
    have hr3 := HO3.out.2
    have hs0 : w.heap.size + 1 < w0.drew.heap.size := hz0
    exact ⟨_, _, _, rfl, owns_mono (owns_turned hr1 HTw.out (fun k e => far k (by have := (hr1.lt k e).1; omega))) (by omega), owns_mono (owns_turned hr2 HTw.out (fun k e => far k (by have := (hr2.lt k e).1; omega))) (by omega), owns_mono (owns_turned hr3 HTw.out (fun k e => far k (by have := (hr3.lt k e).1; omega))) (by omega), (HTw.out.below (B := w.heap.size) (fun k e => by omega) HB3.out.size) |> HB3.out.trans⟩
end Go.Proofs.Ytibnpeipndkciaa

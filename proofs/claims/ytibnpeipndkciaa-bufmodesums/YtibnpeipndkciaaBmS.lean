/- What bufmode's Reads and the reference's answer; slices of numbers that are the same. -/
import Derived.Test.YtibnpeipndkciaaBmR
import Derived.Deep.QuietTactic
import Derived.BigQuiet
namespace Go.Proofs.Ytibnpeipndkciaa
open Go.RowKit

def brE (mode size n hv : Int) : Int := if bref mode size ≠ 0 then bref mode size else if cntB n = true ∧ cntB hv = true then 0 else 4
def brN (mode size n hv : Int) : Int := if brE mode size n hv = 0 then (rds (brm mode size).toNat n.toNat hv.toNat : Int) else 0
set_option maxRecDepth 100000 in
set_option maxHeartbeats 2000000 in
theorem breads_any (mode size n hv : Int) (w : World) :
    Calls Try.prog 10 #[.int .i64 mode, .int .i64 size, .int .i64 n, .int .i64 hv] w fun e w' => e = .returned (.tuple #[.int .i64 (brN mode size n hv), .int .i64 (brE mode size n hv)]) ∧ w = w' := by
  have HB := hide (fun W => bref_any mode size W)
  by_cases h1 : bref mode size = 0
  · rw [h1] at HB
    by_cases h2 : cntB n = true
    · by_cases h3 : cntB hv = true
      · have h4 : brE mode size n hv = 0 := by unfold brE; rw [if_neg (by simpa using h1), if_pos ⟨h2, h3⟩]
        obtain ⟨m, hm, hmt, hm1, hm2⟩ := brm_nat h1
        have h5 : brN mode size n hv = (rds m n.toNat hv.toNat : Int) := by unfold brN; rw [h4, if_pos rfl, hmt]
        rw [h4, h5]
        have HM := hide (fun W => broom_any mode size W)
        rw [hm] at HM
        have g2 := h2
        have g3 := h3
        unfold cntB at h2 h3
        rw [decide_eq_true_eq] at h2 h3
        obtain ⟨n', rfl⟩ : ∃ n' : Nat, n = (n' : Int) := ⟨n.toNat, by omega⟩
        obtain ⟨hv', rfl⟩ : ∃ n' : Nat, hv = (n' : Int) := ⟨hv.toNat, by omega⟩
        simp only [Int.toNat_natCast]
        unfold rds
        have hn6 : n' ≤ 1048576 := by omega
        have hh6 : hv' ≤ 1048576 := by omega
        have HP1 := hide (fun W => bpieces_any n' m W hn6 hm1 hm2)
        have HP2 := hide (fun W => bpieces_any hv' m W hh6 hm1 hm2)
        have hl1 := pcs_le (n := hv') hm1
        clear h1 h2 h3 h4 h5 hm hmt
        by_cases h7 : hv' < n'
        · rw [if_pos h7]
          have h8 : (hv' : Int) < (n' : Int) := by omega
          generalize pcs hv' m = P at *
          go_enter Try.func10, Try.ntmps10
          go_wp2_with (first | (go_at_call 25; refine (HB.out _).mono ?_; rintro _ _ ⟨rfl, rfl⟩) | (go_at_call 28; refine (bcount_any _ _).mono ?_; rintro _ _ ⟨rfl, rfl⟩) | (go_at_call 29; refine (HM.out _).mono ?_; rintro _ _ ⟨rfl, rfl⟩) | (go_at_call 30; refine (HP2.out _).mono ?_; rintro _ _ ⟨rfl, rfl⟩) | fail)
          go_ret2
          exact ⟨rfl, rfl⟩
        · rw [if_neg h7]
          have h8 : ¬ (hv' : Int) < (n' : Int) := by omega
          generalize pcs n' m = P at *
          go_enter Try.func10, Try.ntmps10
          go_wp2_with (first | (go_at_call 25; refine (HB.out _).mono ?_; rintro _ _ ⟨rfl, rfl⟩) | (go_at_call 28; refine (bcount_any _ _).mono ?_; rintro _ _ ⟨rfl, rfl⟩) | (go_at_call 29; refine (HM.out _).mono ?_; rintro _ _ ⟨rfl, rfl⟩) | (go_at_call 30; refine (HP1.out _).mono ?_; rintro _ _ ⟨rfl, rfl⟩) | fail)
          go_ret2
          exact ⟨rfl, rfl⟩
      · have h4 : brE mode size n hv = 4 := by unfold brE; rw [if_neg (by simpa using h1), if_neg (fun e => h3 e.2)]
        have h5 : brN mode size n hv = 0 := by unfold brN; rw [h4, if_neg (by decide)]
        rw [h4, h5]
        have h3' : cntB hv = false := by simpa using h3
        clear h1 h3 h4 h5
        go_enter Try.func10, Try.ntmps10
        go_wp2_with (first | (go_at_call 25; refine (HB.out _).mono ?_; rintro _ _ ⟨rfl, rfl⟩) | (go_at_call 28; refine (bcount_any _ _).mono ?_; rintro _ _ ⟨rfl, rfl⟩) | fail)
        go_ret2
        exact ⟨rfl, rfl⟩
    · have h4 : brE mode size n hv = 4 := by unfold brE; rw [if_neg (by simpa using h1), if_neg (fun e => h2 e.1)]
      have h5 : brN mode size n hv = 0 := by unfold brN; rw [h4, if_neg (by decide)]
      rw [h4, h5]
      have h3' : cntB n = false := by simpa using h2
      clear h1 h2 h4 h5
      go_enter Try.func10, Try.ntmps10
      go_wp2_with (first | (go_at_call 25; refine (HB.out _).mono ?_; rintro _ _ ⟨rfl, rfl⟩) | (go_at_call 28; refine (bcount_any _ _).mono ?_; rintro _ _ ⟨rfl, rfl⟩) | fail)
      go_ret2
      exact ⟨rfl, rfl⟩
  · have h4 : brE mode size n hv = bref mode size := by unfold brE; rw [if_pos h1]
    have h5 : brN mode size n hv = 0 := by unfold brN; rw [h4, if_neg h1]
    rw [h4, h5]
    generalize bref mode size = q at *
    have h6 : (q == 0) = false := by simpa using h1
    have h7 : (q != 0) = true := by simpa using h1
    clear h4 h5
    go_enter Try.func10, Try.ntmps10
    go_wp2_with (first | (go_at_call 25; refine (HB.out _).mono ?_; rintro _ _ ⟨rfl, rfl⟩) | fail)
    go_ret2
    exact ⟨rfl, rfl⟩
/-- The reference's loop: c reads were made, i bytes were got of v; h are held, r are left. -/
structure RdI (m v c i h r : Nat) (fin : Bool) : Prop where
  live : fin = false → r + h + i = v ∧ ((c = 0 ∧ i = 0 ∧ h = 0) ∨ (1 ≤ c ∧ (c - 1) * m < i ∧ i + h = min (c * m) v))
  dead : fin = true → i = v + 1 ∧ c = pcs v m + 1
theorem RdI.start (m v : Nat) : RdI m v 0 0 0 v false := ⟨fun _ => ⟨by omega, .inl ⟨rfl, rfl, rfl⟩⟩, fun e => by cases e⟩
theorem RdI.calls {m v c i r : Nat} (hm : 1 ≤ m) (h : RdI m v c i 0 r false) : pcs i m = c := by
  obtain ⟨-, h1⟩ := h.live rfl
  refine pcs_of hm ?_
  rcases h1 with ⟨h1, h2, -⟩ | ⟨h1, h2, h3⟩
  · exact .inl ⟨h1, h2⟩
  · exact .inr ⟨h1, h2, by omega⟩
theorem RdI.pcs {m v c i h r : Nat} (hm : 1 ≤ m) (hI : RdI m v c i h r false) : pcs i m = c := by
  obtain ⟨-, h1⟩ := hI.live rfl
  refine pcs_of hm ?_
  rcases h1 with ⟨h1, h2, -⟩ | ⟨h1, h2, h3⟩
  · exact .inl ⟨h1, h2⟩
  · exact .inr ⟨h1, h2, by omega⟩
/-- One is held. -/
theorem RdI.held {m v c i h r : Nat} (hI : RdI m v c i h r false) (hh : 1 ≤ h) : RdI m v c (i + 1) (h - 1) r false := by
  obtain ⟨h0, h1⟩ := hI.live rfl
  refine ⟨fun _ => ⟨by omega, ?_⟩, fun e => by cases e⟩
  rcases h1 with ⟨-, -, h2⟩ | ⟨h1, h2, h3⟩
  · omega
  · exact .inr ⟨h1, by omega, by omega⟩
/-- None is held: a read. -/
theorem RdI.read {m v c i r : Nat} (hm : 1 ≤ m) (hI : RdI m v c i 0 r false) (hr : 0 < r) : RdI m v (c + 1) (i + 1) (min m r - 1) (r - min m r) false := by
  obtain ⟨h0, h1⟩ := hI.live rfl
  have key : i = c * m := by
    rcases h1 with ⟨h1, h2, -⟩ | ⟨h1, h2, h3⟩
    · rw [h1, h2, Nat.zero_mul]
    · omega
  refine ⟨fun _ => ⟨by omega, .inr ⟨by omega, ?_, ?_⟩⟩, fun e => by cases e⟩
  · rw [Nat.add_sub_cancel]; omega
  · rw [Nat.add_mul]; omega
theorem RdI.end {m v c i : Nat} (hm : 1 ≤ m) (hI : RdI m v c i 0 0 false) : RdI m v (c + 1) (i + 1) 0 0 true := by
  have hc := hI.calls hm
  obtain ⟨h0, -⟩ := hI.live rfl
  refine ⟨fun e => (by cases e), fun _ => ⟨by omega, ?_⟩⟩
  rw [← hc]
  congr 2
  omega
theorem RdI.le {m v c i h r : Nat} {fin : Bool} (hm : 1 ≤ m) (hI : RdI m v c i h r fin) : c ≤ v + 1 ∧ (fin = false → i ≤ v ∧ r ≤ v ∧ h ≤ v) := by
  cases fin with
  | false =>
    have hc := hI.pcs hm
    obtain ⟨h0, -⟩ := hI.live rfl
    have := pcs_le (n := i) hm
    exact ⟨by omega, fun _ => by omega⟩
  | true =>
    obtain ⟨h0, h1⟩ := hI.dead rfl
    have := pcs_le (n := v) hm
    exact ⟨by omega, fun e => by cases e⟩
set_option maxRecDepth 100000 in
set_option maxHeartbeats 2000000 in
theorem rbreads_any (mode size n hv : Int) (w : World) :
    Calls Try.prog 11 #[.int .i64 mode, .int .i64 size, .int .i64 n, .int .i64 hv] w fun e w' => e = .returned (.tuple #[.int .i64 (brN mode size n hv), .int .i64 (brE mode size n hv)]) ∧ Below w.heap.size w w' := by
  have HB := hide (fun W => rbref_any mode size W)
  by_cases h1 : bref mode size = 0
  · rw [h1] at HB
    by_cases h2 : cntB n = true ∧ cntB hv = true
    · have h4 : brE mode size n hv = 0 := by unfold brE; rw [if_neg (by simpa using h1), if_pos h2]
      obtain ⟨m, hm, hmt, hm1, hm2⟩ := brm_nat h1
      have h5 : brN mode size n hv = (rds m n.toNat hv.toNat : Int) := by unfold brN; rw [h4, if_pos rfl, hmt]
      rw [h4, h5]
      obtain ⟨h2, h3⟩ := h2
      unfold cntB at h2 h3
      rw [decide_eq_true_eq] at h2 h3
      obtain ⟨n', rfl⟩ : ∃ n' : Nat, n = (n' : Int) := ⟨n.toNat, by omega⟩
      obtain ⟨v, rfl⟩ : ∃ n' : Nat, hv = (n' : Int) := ⟨hv.toNat, by omega⟩
      simp only [Int.toNat_natCast]
      have g1 : ¬ (n' : Int) < 0 := by omega
      have g2 : ¬ (1048576 : Int) < (n' : Int) := by omega
      have g3 : ¬ (v : Int) < 0 := by omega
      have g4 : ¬ (1048576 : Int) < (v : Int) := by omega
      have hn6 : n' ≤ 1048576 := by omega
      have hh6 : v ≤ 1048576 := by omega
      have hM := hm
      unfold brm at hM
      have HRd : Hid (∀ (c i h r : Nat) (fin : Bool), RdI m v c i h r fin → (fin = true ∧ i ≤ n') ∨ (fin = false ∧ i = n') → c = rds m n' v) := hide (by
        intro c i h r fin hI hc
        unfold rds
        rcases hc with ⟨rfl, hi⟩ | ⟨rfl, rfl⟩
        · obtain ⟨a1, a2⟩ := hI.dead rfl
          rw [if_pos (by omega), a2]
        · have a1 := hI.pcs hm1
          obtain ⟨a2, -⟩ := hI.live rfl
          rw [if_neg (by omega), a1])
      clear h1 h2 h3 h4 h5 hm hmt
      by_cases hmode : mode = 1
      · have hb1 : (mode == 1) = true := by simpa using hmode
        rw [if_pos hmode] at hM
        have hmm : m = 1 := by omega
        subst hmm
        clear hM hmode
        go_enter Try.func11, Try.ntmps11
        go_wp2_with (first | (go_at_call 27; refine (HB.out _).mono ?_; rintro _ _ ⟨rfl, rfl⟩) | fail)
        go_loop [3, 11, 12, 13, 14] (fun a3 a11 a12 a13 a14 => ∃ (c i h r : Nat) (q : Int) (fin : Bool), i ≤ n' ∧ Hid (RdI 1 v c i h r fin) ∧ a3 = .int .i64 r ∧ a11 = .int .i64 c ∧ a12 = .int .i64 q ∧ a13 = .bool fin ∧ a14 = .int .i64 i ∧ (fin = false → q = (h : Int))) (fun _ _ _ _ a14 => n' - (intOf a14).toNat)
        case atStart => exact ⟨0, 0, 0, v, 0, false, Nat.zero_le _, hide (RdI.start _ v), rfl, rfl, rfl, rfl, rfl, fun _ => rfl⟩
        case round =>
          obtain ⟨c, i, h, r, q, fin, hi, HI, rfl, rfl, rfl, rfl, rfl, hq⟩ := hrel
          obtain ⟨hc1, hc2⟩ := HI.out.le hm1
          cases fin with
          | true =>
            have hcr := HRd.out c i h r true HI.out (.inl ⟨rfl, hi⟩)
            have HCr := hide hcr
            clear hcr hc2 hq
            by_cases hlt : (i : Int) < (n' : Int)
            · go_wp2
              go_ret2
              exact ⟨by rw [HCr.out]; rfl, Below.refl _ _⟩
            · go_wp2
              go_ret2
              exact ⟨by rw [HCr.out]; rfl, Below.refl _ _⟩
          | false =>
            obtain ⟨d1, d2, d3⟩ := hc2 rfl
            obtain rfl := hq rfl
            clear hc2 hq
            by_cases hlt : i < n'
            · have hlt2 : (i : Int) < (n' : Int) := by omega
              have hi1 : (i : Int) ≤ 1048576 := by omega
              have hc3 : (c : Int) ≤ 1048577 := by omega
              by_cases hh : h = 0
              · subst hh
                by_cases hr : r = 0
                · subst hr
                  have HE := hide (HI.out.end hm1)
                  have hmn : min (1 : Int) 0 = 0 := by omega
                  clear hc1 d1 d2 d3
                  go_wp2
                  go_round
                  case rel => exact ⟨c + 1, i + 1, 0, 0, -1, true, by omega, HE, rfl, by go_num, rfl, rfl, by go_num, fun e => by cases e⟩
                  case measure => simp [intOf]; omega
                · have HE := hide (HI.out.read hm1 (by omega))
                  obtain ⟨k, hk⟩ : ∃ k, k = min 1 r := ⟨_, rfl⟩
                  rw [← hk] at HE
                  have hmn : min (1 : Int) (r : Int) = (k : Int) := by omega
                  have hk1 : (1 : Int) ≤ (k : Int) := by omega
                  have hk2 : (k : Int) ≤ (r : Int) := by omega
                  have hr1 : (r : Int) ≤ 1048576 := by omega
                  have hk3 : ((k : Int) == 0) = false := by simp only [beq_eq_false_iff_ne]; omega
                  have hkn : ¬ k = 0 := by omega
                  clear hk hc1 d1 d2 d3 hr
                  go_wp2
                  go_round
                  case rel => exact ⟨c + 1, i + 1, k - 1, r - k, (k : Int) - 1, false, by omega, HE, by congr 1; omega, by go_num, by go_num, by first | rfl | (congr 1), by go_num, fun _ => by omega⟩
                  case measure => simp [intOf]; omega
              · have HE := hide (HI.out.held (by omega))
                have hb0 : ((h : Int) == 0) = false := by simp only [beq_eq_false_iff_ne]; omega
                have hh2 : (h : Int) ≤ 1048576 := by omega
                have hh3 : (1 : Int) ≤ (h : Int) := by omega
                clear hc1 d1 d2 d3
                go_wp2
                go_round
                case rel => exact ⟨c, i + 1, h - 1, r, (h : Int) - 1, false, by omega, HE, rfl, rfl, by first | rfl | go_num, rfl, by go_num, fun _ => by omega⟩
                case measure => simp [intOf]; omega
            · obtain rfl : i = n' := by omega
              have hlt2 : ¬ (i : Int) < (i : Int) := by omega
              have hcr := HRd.out c i h r false HI.out (.inr ⟨rfl, rfl⟩)
              have HCr := hide hcr
              clear hcr
              go_wp2
              go_ret2
              exact ⟨by rw [HCr.out]; rfl, Below.refl _ _⟩
      · have hb1 : (mode == 1) = false := by simpa using hmode
        rw [if_neg hmode] at hM
        subst hM
        clear hmode
        go_enter Try.func11, Try.ntmps11
        go_wp2_with (first | (go_at_call 27; refine (HB.out _).mono ?_; rintro _ _ ⟨rfl, rfl⟩) | fail)
        go_loop [3, 11, 12, 13, 14] (fun a3 a11 a12 a13 a14 => ∃ (c i h r : Nat) (q : Int) (fin : Bool), i ≤ n' ∧ Hid (RdI m v c i h r fin) ∧ a3 = .int .i64 r ∧ a11 = .int .i64 c ∧ a12 = .int .i64 q ∧ a13 = .bool fin ∧ a14 = .int .i64 i ∧ (fin = false → q = (h : Int))) (fun _ _ _ _ a14 => n' - (intOf a14).toNat)
        case atStart => exact ⟨0, 0, 0, v, 0, false, Nat.zero_le _, hide (RdI.start _ v), rfl, rfl, rfl, rfl, rfl, fun _ => rfl⟩
        case round =>
          obtain ⟨c, i, h, r, q, fin, hi, HI, rfl, rfl, rfl, rfl, rfl, hq⟩ := hrel
          obtain ⟨hc1, hc2⟩ := HI.out.le hm1
          cases fin with
          | true =>
            have hcr := HRd.out c i h r true HI.out (.inl ⟨rfl, hi⟩)
            have HCr := hide hcr
            clear hcr hc2 hq
            by_cases hlt : (i : Int) < (n' : Int)
            · go_wp2
              go_ret2
              exact ⟨by rw [HCr.out]; rfl, Below.refl _ _⟩
            · go_wp2
              go_ret2
              exact ⟨by rw [HCr.out]; rfl, Below.refl _ _⟩
          | false =>
            obtain ⟨d1, d2, d3⟩ := hc2 rfl
            obtain rfl := hq rfl
            clear hc2 hq
            by_cases hlt : i < n'
            · have hlt2 : (i : Int) < (n' : Int) := by omega
              have hi1 : (i : Int) ≤ 1048576 := by omega
              have hc3 : (c : Int) ≤ 1048577 := by omega
              by_cases hh : h = 0
              · subst hh
                by_cases hr : r = 0
                · subst hr
                  have HE := hide (HI.out.end hm1)
                  have hmn : min ((m : Int) : Int) 0 = 0 := by omega
                  clear hc1 d1 d2 d3
                  go_wp2
                  go_round
                  case rel => exact ⟨c + 1, i + 1, 0, 0, -1, true, by omega, HE, rfl, by go_num, rfl, rfl, by go_num, fun e => by cases e⟩
                  case measure => simp [intOf]; omega
                · have HE := hide (HI.out.read hm1 (by omega))
                  obtain ⟨k, hk⟩ : ∃ k, k = min m r := ⟨_, rfl⟩
                  rw [← hk] at HE
                  have hmn : min ((m : Int) : Int) (r : Int) = (k : Int) := by omega
                  have hk1 : (1 : Int) ≤ (k : Int) := by omega
                  have hk2 : (k : Int) ≤ (r : Int) := by omega
                  have hr1 : (r : Int) ≤ 1048576 := by omega
                  have hk3 : ((k : Int) == 0) = false := by simp only [beq_eq_false_iff_ne]; omega
                  have hkn : ¬ k = 0 := by omega
                  clear hk hc1 d1 d2 d3 hr
                  go_wp2
                  go_round
                  case rel => exact ⟨c + 1, i + 1, k - 1, r - k, (k : Int) - 1, false, by omega, HE, by congr 1; omega, by go_num, by go_num, by first | rfl | (congr 1), by go_num, fun _ => by omega⟩
                  case measure => simp [intOf]; omega
              · have HE := hide (HI.out.held (by omega))
                have hb0 : ((h : Int) == 0) = false := by simp only [beq_eq_false_iff_ne]; omega
                have hh2 : (h : Int) ≤ 1048576 := by omega
                have hh3 : (1 : Int) ≤ (h : Int) := by omega
                clear hc1 d1 d2 d3
                go_wp2
                go_round
                case rel => exact ⟨c, i + 1, h - 1, r, (h : Int) - 1, false, by omega, HE, rfl, rfl, by first | rfl | go_num, rfl, by go_num, fun _ => by omega⟩
                case measure => simp [intOf]; omega
            · obtain rfl : i = n' := by omega
              have hlt2 : ¬ (i : Int) < (i : Int) := by omega
              have hcr := HRd.out c i h r false HI.out (.inr ⟨rfl, rfl⟩)
              have HCr := hide hcr
              clear hcr
              go_wp2
              go_ret2
              exact ⟨by rw [HCr.out]; rfl, Below.refl _ _⟩
    · have h4 : brE mode size n hv = 4 := by unfold brE; rw [if_neg (by simpa using h1), if_neg h2]
      have h5 : brN mode size n hv = 0 := by unfold brN; rw [h4, if_neg (by decide)]
      rw [h4, h5]
      have h6 : n < 0 ∨ (0 ≤ n ∧ 1048576 < n) ∨ (0 ≤ n ∧ n ≤ 1048576 ∧ hv < 0) ∨ (0 ≤ n ∧ n ≤ 1048576 ∧ 0 ≤ hv ∧ 1048576 < hv) := by
        unfold cntB at h2
        rw [decide_eq_true_eq, decide_eq_true_eq] at h2
        omega
      clear h1 h2 h4 h5
      rcases h6 with h | ⟨h, h'⟩ | ⟨h, h', h''⟩ | ⟨h, h', h'', h3⟩
      all_goals
        go_enter Try.func11, Try.ntmps11
        go_wp2_with (first | (go_at_call 27; refine (HB.out _).mono ?_; rintro _ _ ⟨rfl, rfl⟩) | fail)
        go_ret2
        exact ⟨rfl, Below.refl _ _⟩
  · have h4 : brE mode size n hv = bref mode size := by unfold brE; rw [if_pos h1]
    have h5 : brN mode size n hv = 0 := by unfold brN; rw [h4, if_neg h1]
    rw [h4, h5]
    generalize bref mode size = q at *
    have h6 : (q == 0) = false := by simpa using h1
    have h7 : (q != 0) = true := by simpa using h1
    clear h4 h5
    go_enter Try.func11, Try.ntmps11
    go_wp2_with (first | (go_at_call 27; refine (HB.out _).mono ?_; rintro _ _ ⟨rfl, rfl⟩) | fail)
    go_ret2
    exact ⟨rfl, Below.refl _ _⟩
end Go.Proofs.Ytibnpeipndkciaa

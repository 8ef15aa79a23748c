/- What the proof stands on, part 5: the contracts of the program's calls that it reaches. -/
import Derived.Test.YtpcchaciomeckaaDoorKT4
/- Format by the page: digit, verb, kind, Number. -/
namespace Go.Proofs.YtpcchaciomeckaaDoor
open Go.RowKit

set_option maxHeartbeats 400000 in
theorem rdigit (c : Int) (w : World) : Calls Tryd.prog 47 #[.int .u8 c] w fun e w' => e = .returned (.bool (decide (48 ≤ c ∧ c ≤ 57))) ∧ w = w' := by
  by_cases h1 : 48 ≤ c
  · by_cases h2 : c ≤ 57
    · have h3 : decide (48 ≤ c ∧ c ≤ 57) = true := decide_eq_true ⟨h1, h2⟩
      rw [h3]
      clear h3
      go_enter Tryd.func47, Tryd.ntmps47
      go_wp2
      go_ret
      exact ⟨rfl, rfl⟩
    · have h3 : decide (48 ≤ c ∧ c ≤ 57) = false := decide_eq_false (fun h => h2 h.2)
      rw [h3]
      clear h3
      go_enter Tryd.func47, Tryd.ntmps47
      go_wp2
      go_ret
      exact ⟨rfl, rfl⟩
  · have h3 : decide (48 ≤ c ∧ c ≤ 57) = false := decide_eq_false (fun h => h1 h.1)
    rw [h3]
    clear h3
    go_enter Tryd.func47, Tryd.ntmps47
    go_wp2
    go_ret
    exact ⟨rfl, rfl⟩
def kR (c : Int) : Int := if c = 100 then 1 else if c = 99 then 3 else if c = 115 then 4 else 2
set_option maxHeartbeats 400000 in
theorem rkind (c : Int) (w : World) : Calls Tryd.prog 26 #[.int .u8 c] w fun e w' => e = .returned (.int .i64 (kR c)) ∧ w = w' := by
  rcases (show c = 100 ∨ c = 99 ∨ c = 115 ∨ ((c == 100) = false ∧ (c == 99) = false ∧ (c == 115) = false) by
    simp only [beq_eq_false_iff_ne, ne_eq]; omega) with rfl | rfl | rfl | ⟨h1, h2, h3⟩
  case _ | _ | _ =>
    go_enter Tryd.func26, Tryd.ntmps26
    go_wp2
    go_ret
    exact ⟨rfl, rfl⟩
  have hv : kR c = 2 := by
    simp only [beq_eq_false_iff_ne, ne_eq] at h1 h2 h3
    unfold kR
    rw [if_neg h1, if_neg h2, if_neg h3]
  rw [hv]
  clear hv
  go_enter Tryd.func26, Tryd.ntmps26
  go_wp2
  go_ret
  exact ⟨rfl, rfl⟩
theorem kR_is {c : Int} (h : kOf c ≠ 0) : kR c = kOf c := by
  unfold kOf at h ⊢
  unfold kR
  split
  · rfl
  · rename_i h1
    rw [if_neg h1] at h
    split
    · rename_i h2; subst h2; rfl
    · rename_i h2
      split
      · rename_i h3; subst h3; rfl
      · rename_i h3
        split
        · rfl
        · rename_i h4
          rw [if_neg h4, if_neg h2, if_neg h3] at h
          exact absurd rfl h
def nV (c : Int) (k : Nat) : Prop := (0 < k → c ≠ 100) ∧ (1 < k → c ≠ 117) ∧ (2 < k → c ≠ 120) ∧ (3 < k → c ≠ 88) ∧ (4 < k → c ≠ 111) ∧ (5 < k → c ≠ 99) ∧ (6 < k → c ≠ 115)
theorem kOf_yes {c : Int} (h : c = 100 ∨ c = 117 ∨ c = 120 ∨ c = 88 ∨ c = 111 ∨ c = 99 ∨ c = 115) : (kOf c != 0) = true := by
  rcases h with rfl | rfl | rfl | rfl | rfl | rfl | rfl <;> rfl
theorem kOf_none {c : Int} (h : nV c 7) : (kOf c != 0) = false := by
  obtain ⟨h1, h2, h3, h4, h5, h6, h7⟩ := h
  have := h1 (by decide); have := h2 (by decide); have := h3 (by decide); have := h4 (by decide); have := h5 (by decide); have := h6 (by decide); have := h7 (by decide)
  unfold kOf
  rw [if_neg (by omega), if_neg (by omega), if_neg (by omega), if_neg (by omega)]
  rfl
set_option maxHeartbeats 1000000 in
theorem rverb (c : Int) (w : World) : Calls Tryd.prog 34 #[.int .u8 c] w fun e w' => e = .returned (.bool (kOf c != 0)) ∧ w = w' := by
  obtain ⟨R, hR⟩ : ∃ R, (kOf c != 0) = R := ⟨_, rfl⟩
  have HR := hide hR
  rw [hR]
  clear hR
  go_enter Tryd.func34, Tryd.ntmps34
  go_wp2
  go_loopw [3] (fun i wr => ∃ k : Nat, k ≤ 7 ∧ i = .int .i64 k ∧ Hid (nV c k) ∧ Hid (wr = w)) (fun i _ => 7 - (intOf i).toNat)
  case atStart => exact ⟨0, by decide, rfl, by show nV c 0; unfold nV; omega, rfl⟩
  case round =>
    obtain ⟨k, hk, rfl, HN, HW⟩ := hrel
    rcases (show k = 0 ∨ k = 1 ∨ k = 2 ∨ k = 3 ∨ k = 4 ∨ k = 5 ∨ k = 6 ∨ k = 7 by omega) with rfl | rfl | rfl | rfl | rfl | rfl | rfl | rfl
    · by_cases e : c = 100
      · subst e
        have er : R = true := by rw [← HR.out]; exact kOf_yes (by omega)
        subst er
        have e2 : ((((⟨#[100, 117, 120, 88, 111, 99, 115]⟩ : ByteArray)[0]).toNat : Int) == 100) = true := rfl
        go_wp2
        go_ret
        exact ⟨rfl, HW.out.symm⟩
      · have e' : ((((⟨#[100, 117, 120, 88, 111, 99, 115]⟩ : ByteArray)[0]).toNat : Int) == c) = false := by
          show ((100 : Int) == c) = false
          simp only [beq_eq_false_iff_ne, ne_eq]; omega
        have e9 : ((100 : Int) == c) = false := by simp only [beq_eq_false_iff_ne, ne_eq]; omega
        have hN2 : nV c 1 := by have := HN.out; unfold nV at this ⊢; omega
        have HN2 := hide hN2
        clear e hN2
        go_wp2
        exact ⟨⟨1, by decide, rfl, HN2, HW⟩, by decide⟩
    · by_cases e : c = 117
      · subst e
        have er : R = true := by rw [← HR.out]; exact kOf_yes (by omega)
        subst er
        have e2 : ((((⟨#[100, 117, 120, 88, 111, 99, 115]⟩ : ByteArray)[1]).toNat : Int) == 117) = true := rfl
        go_wp2
        go_ret
        exact ⟨rfl, HW.out.symm⟩
      · have e' : ((((⟨#[100, 117, 120, 88, 111, 99, 115]⟩ : ByteArray)[1]).toNat : Int) == c) = false := by
          show ((117 : Int) == c) = false
          simp only [beq_eq_false_iff_ne, ne_eq]; omega
        have e9 : ((117 : Int) == c) = false := by simp only [beq_eq_false_iff_ne, ne_eq]; omega
        have hN2 : nV c 2 := by have := HN.out; unfold nV at this ⊢; omega
        have HN2 := hide hN2
        clear e hN2
        go_wp2
        exact ⟨⟨2, by decide, rfl, HN2, HW⟩, by decide⟩
    · by_cases e : c = 120
      · subst e
        have er : R = true := by rw [← HR.out]; exact kOf_yes (by omega)
        subst er
        have e2 : ((((⟨#[100, 117, 120, 88, 111, 99, 115]⟩ : ByteArray)[2]).toNat : Int) == 120) = true := rfl
        go_wp2
        go_ret
        exact ⟨rfl, HW.out.symm⟩
      · have e' : ((((⟨#[100, 117, 120, 88, 111, 99, 115]⟩ : ByteArray)[2]).toNat : Int) == c) = false := by
          show ((120 : Int) == c) = false
          simp only [beq_eq_false_iff_ne, ne_eq]; omega
        have e9 : ((120 : Int) == c) = false := by simp only [beq_eq_false_iff_ne, ne_eq]; omega
        have hN2 : nV c 3 := by have := HN.out; unfold nV at this ⊢; omega
        have HN2 := hide hN2
        clear e hN2
        go_wp2
        exact ⟨⟨3, by decide, rfl, HN2, HW⟩, by decide⟩
    · by_cases e : c = 88
      · subst e
        have er : R = true := by rw [← HR.out]; exact kOf_yes (by omega)
        subst er
        have e2 : ((((⟨#[100, 117, 120, 88, 111, 99, 115]⟩ : ByteArray)[3]).toNat : Int) == 88) = true := rfl
        go_wp2
        go_ret
        exact ⟨rfl, HW.out.symm⟩
      · have e' : ((((⟨#[100, 117, 120, 88, 111, 99, 115]⟩ : ByteArray)[3]).toNat : Int) == c) = false := by
          show ((88 : Int) == c) = false
          simp only [beq_eq_false_iff_ne, ne_eq]; omega
        have e9 : ((88 : Int) == c) = false := by simp only [beq_eq_false_iff_ne, ne_eq]; omega
        have hN2 : nV c 4 := by have := HN.out; unfold nV at this ⊢; omega
        have HN2 := hide hN2
        clear e hN2
        go_wp2
        exact ⟨⟨4, by decide, rfl, HN2, HW⟩, by decide⟩
    · by_cases e : c = 111
      · subst e
        have er : R = true := by rw [← HR.out]; exact kOf_yes (by omega)
        subst er
        have e2 : ((((⟨#[100, 117, 120, 88, 111, 99, 115]⟩ : ByteArray)[4]).toNat : Int) == 111) = true := rfl
        go_wp2
        go_ret
        exact ⟨rfl, HW.out.symm⟩
      · have e' : ((((⟨#[100, 117, 120, 88, 111, 99, 115]⟩ : ByteArray)[4]).toNat : Int) == c) = false := by
          show ((111 : Int) == c) = false
          simp only [beq_eq_false_iff_ne, ne_eq]; omega
        have e9 : ((111 : Int) == c) = false := by simp only [beq_eq_false_iff_ne, ne_eq]; omega
        have hN2 : nV c 5 := by have := HN.out; unfold nV at this ⊢; omega
        have HN2 := hide hN2
        clear e hN2
        go_wp2
        exact ⟨⟨5, by decide, rfl, HN2, HW⟩, by decide⟩
    · by_cases e : c = 99
      · subst e
        have er : R = true := by rw [← HR.out]; exact kOf_yes (by omega)
        subst er
        have e2 : ((((⟨#[100, 117, 120, 88, 111, 99, 115]⟩ : ByteArray)[5]).toNat : Int) == 99) = true := rfl
        go_wp2
        go_ret
        exact ⟨rfl, HW.out.symm⟩
      · have e' : ((((⟨#[100, 117, 120, 88, 111, 99, 115]⟩ : ByteArray)[5]).toNat : Int) == c) = false := by
          show ((99 : Int) == c) = false
          simp only [beq_eq_false_iff_ne, ne_eq]; omega
        have e9 : ((99 : Int) == c) = false := by simp only [beq_eq_false_iff_ne, ne_eq]; omega
        have hN2 : nV c 6 := by have := HN.out; unfold nV at this ⊢; omega
        have HN2 := hide hN2
        clear e hN2
        go_wp2
        exact ⟨⟨6, by decide, rfl, HN2, HW⟩, by decide⟩
    · by_cases e : c = 115
      · subst e
        have er : R = true := by rw [← HR.out]; exact kOf_yes (by omega)
        subst er
        have e2 : ((((⟨#[100, 117, 120, 88, 111, 99, 115]⟩ : ByteArray)[6]).toNat : Int) == 115) = true := rfl
        go_wp2
        go_ret
        exact ⟨rfl, HW.out.symm⟩
      · have e' : ((((⟨#[100, 117, 120, 88, 111, 99, 115]⟩ : ByteArray)[6]).toNat : Int) == c) = false := by
          show ((115 : Int) == c) = false
          simp only [beq_eq_false_iff_ne, ne_eq]; omega
        have e9 : ((115 : Int) == c) = false := by simp only [beq_eq_false_iff_ne, ne_eq]; omega
        have hN2 : nV c 7 := by have := HN.out; unfold nV at this ⊢; omega
        have HN2 := hide hN2
        clear e hN2
        go_wp2
        exact ⟨⟨7, by decide, rfl, HN2, HW⟩, by decide⟩
    · have er : R = false := HR.out.symm.trans (kOf_none HN.out)
      subst er
      go_wp2
      go_ret
      exact ⟨rfl, HW.out.symm⟩
theorem val10_snoc : ∀ (l : List UInt8) (c : UInt8) (n : Nat), val10 (l ++ [c]) n = val10 l n * 10 + (c.toNat - 48)
  | [], _, _ => rfl
  | x :: l, c, n => val10_snoc l c (n * 10 + (x.toNat - 48))
theorem take_run_lt : ∀ (l : List UInt8) (k : Nat), k ≤ run10 l → val10 (l.take k) 0 < 10 ^ k := by
  intro l k hk
  have h := val10_lt (l.take k) 0 (fun c hc => by
    have := run10_all l
    exact this c (List.mem_of_mem_take (by rw [List.take_take, Nat.min_eq_left hk] at *; exact hc : c ∈ (l.take (run10 l)).take k)))
  have hl : (l.take k).length = k := by rw [List.length_take]; have := run10_len l; omega
  rw [hl, Nat.zero_add, Nat.one_mul] at h
  exact h
theorem run_at : ∀ (l : List UInt8) (k : Nat) (c : UInt8) (r : List UInt8), l.drop k = c :: r → k ≤ run10 l → (48 ≤ c.toNat ∧ c.toNat ≤ 57 → k + 1 ≤ run10 l) ∧ (¬ (48 ≤ c.toNat ∧ c.toNat ≤ 57) → run10 l = k)
  | [], k, c, r, h, _ => by rw [List.drop_nil] at h; cases h
  | x :: l, 0, c, r, h, _ => by
    cases h
    rw [run10_at]
    exact ⟨fun e => by rw [if_pos e]; omega, fun e => by rw [if_neg e]⟩
  | x :: l, k + 1, c, r, h, hk => by
    rw [run10_at] at hk ⊢
    split at hk
    · rename_i hx
      rw [if_pos hx]
      have := run_at l k c r (by simpa using h) (by omega)
      exact ⟨fun e => by have := this.1 e; omega, fun e => by have := this.2 e; omega⟩
    · omega
theorem take_at (l : List UInt8) (k : Nat) (c : UInt8) (r : List UInt8) (h : l.drop k = c :: r) : l.take (k + 1) = l.take k ++ [c] := by
  rw [List.take_add, h]
  rfl
def k4 (l : List UInt8) : Nat := min 4 (run10 l)
def n4 (l : List UInt8) : Nat := val10 (l.take (k4 l)) 0
set_option maxHeartbeats 2000000 in
theorem rnumber (s : ByteArray) (a : Nat) (w : World) (hs : s.size ≤ 65536) (ha : a ≤ s.size) :
    Calls Tryd.prog 33 #[.string s, .int .i64 (a : Int)] w fun e w' => e = .returned (.tuple #[.int .i64 (n4 (s.data.toList.drop a) : Int), .int .i64 (k4 (s.data.toList.drop a) : Int)]) ∧ w = w' := by
  obtain ⟨r, hr⟩ : ∃ r, run10 (s.data.toList.drop a) = r := ⟨_, rfl⟩
  obtain ⟨N, hN⟩ : ∃ N, n4 (s.data.toList.drop a) = N := ⟨_, rfl⟩
  obtain ⟨k0, hk0⟩ : ∃ k, k4 (s.data.toList.drop a) = k := ⟨_, rfl⟩
  have hsz : s.data.toList.length = s.size := by rw [Array.length_toList]; rfl
  have hrl := run10_len (s.data.toList.drop a)
  rw [drop_len, hr, hsz] at hrl
  rw [hN, hk0]
  have HR := hide hr
  have HN := hide hN
  have HK : Hid (min 4 r = k0) := by rw [← hr]; exact hk0
  have HRL := hide hrl
  clear hr hN hk0 hsz hrl
  go_enter Tryd.func33, Tryd.ntmps33
  go_wp2
  go_loopw [6, 7] (fun n i wr => ∃ k m : Nat, k ≤ 4 ∧ i = .int .i64 k ∧ n = .int .i64 m ∧ m < 10000 ∧ a + k ≤ s.size ∧ Hid (k ≤ r ∧ m = val10 ((s.data.toList.drop a).take k) 0) ∧ Hid (wr = w)) (fun _ i _ => 4 - (intOf i).toNat)
  case atStart => exact ⟨0, 0, by decide, rfl, rfl, by decide, ha, ⟨Nat.zero_le _, rfl⟩, rfl⟩
  case round =>
    obtain ⟨k, m, hk, rfl, rfl, hm, hak, HM, HW⟩ := hrel
    by_cases h4 : k = 4
    · subst h4
      have er : k0 = 4 := by have := HK.out; have := HM.out.1; omega
      have en : N = m := by have := HN.out; unfold n4 at this; rw [show k4 (s.data.toList.drop a) = 4 by unfold k4; rw [HR.out]; have := HM.out.1; omega] at this; rw [← this, ← HM.out.2]
      subst er
      subst en
      go_wp2
      go_ret2
      exact ⟨rfl, HW.out.symm⟩
    have hk4 : (k : Int) < 4 := by omega
    obtain ⟨P, hP⟩ : ∃ P, a + k = P := ⟨_, rfl⟩
    have hw1 : IntKind.i64.wrap ((a : Int) + (k : Int)) = (P : Int) := by rw [IntKind.wrap_i64]; omega
    have hdr : (s.data.toList.drop a).drop k = s.data.toList.drop P := by rw [List.drop_drop, hP]
    have HDR := hide hdr
    have hm9 : (m : Int) ≤ 9999 := by omega
    by_cases hlt : P < s.size
    · have hlt' : (P : Int) < (s.size : Int) := by omega
      have HRS := hide (fun W => rdigit (s[P].toNat : Int) W)
      by_cases hd : 48 ≤ (s[P].toNat : Int) ∧ (s[P].toNat : Int) ≤ 57
      · have hdd : decide (48 ≤ (s[P].toNat : Int) ∧ (s[P].toNat : Int) ≤ 57) = true := decide_eq_true hd
        rw [hdd] at HRS
        have hrun : k + 1 ≤ r ∧ m * 10 + (s[P].toNat - 48) = val10 ((s.data.toList.drop a).take (k + 1)) 0 := by
          have q1 := HDR.out
          rw [drop_at s P hlt] at q1
          have q2 := run_at (s.data.toList.drop a) k s[P] _ q1 (by rw [HR.out]; exact HM.out.1)
          rw [HR.out] at q2
          refine ⟨q2.1 (by omega), ?_⟩
          rw [take_at (s.data.toList.drop a) k s[P] _ q1, val10_snoc, ← HM.out.2]
        have HRUN := hide hrun
        have hu8 : IntKind.u8.wrap ((s[P].toNat : Int) - 48) = ((s[P].toNat - 48 : Nat) : Int) := by rw [IntKind.wrap_u8]; omega
        obtain ⟨G, hG⟩ : ∃ G, s[P].toNat - 48 = G := ⟨_, rfl⟩
        rw [hG] at hu8 HRUN
        have hG9 : G ≤ 9 := by omega
        have hn1 : m * 10 + G < 10000 := by
          rw [HRUN.out.2]
          refine Nat.lt_of_lt_of_le (take_run_lt _ _ (by rw [HR.out]; exact HRUN.out.1)) ?_
          exact Nat.le_trans (Nat.pow_le_pow_right (by decide) (show k + 1 ≤ 4 by omega)) (by decide)
        have hPs : a + (k + 1) ≤ s.size := by omega
        have HN1 := hide hn1
        have HPS := hide hPs
        clear hrun hdr hdd hd hP hG hn1 hPs
        go_wp2_with (first | (go_at_call 47; refine (HRS.out _).mono ?_; rintro _ _ ⟨rfl, rfl⟩) | fail)
        exact ⟨⟨k + 1, m * 10 + G, by omega, by go_num, by go_num, HN1.out, HPS.out, HRUN, HW⟩, by simp [intOf]; omega⟩
      · have hdd : decide (48 ≤ (s[P].toNat : Int) ∧ (s[P].toNat : Int) ≤ 57) = false := decide_eq_false hd
        rw [hdd] at HRS
        have hrun : r = k := by
          have q1 := HDR.out
          rw [drop_at s P hlt] at q1
          have q2 := (run_at (s.data.toList.drop a) k s[P] _ q1 (by rw [HR.out]; exact HM.out.1)).2 (by omega)
          rw [HR.out] at q2
          exact q2
        have er : k0 = k := by have := HK.out; omega
        have en : N = m := by have := HN.out; unfold n4 at this; rw [show k4 (s.data.toList.drop a) = k by unfold k4; rw [HR.out]; omega] at this; rw [← this, ← HM.out.2]
        subst er
        subst en
        clear hrun hdr hdd hd hP
        go_wp2_with (first | (go_at_call 47; refine (HRS.out _).mono ?_; rintro _ _ ⟨rfl, rfl⟩) | fail)
        go_ret2
        exact ⟨rfl, HW.out.symm⟩
    · have hlt' : ¬ (P : Int) < (s.size : Int) := by omega
      have hrun : r = k := by have := HRL.out; have := HM.out.1; omega
      have er : k0 = k := by have := HK.out; omega
      have en : N = m := by have := HN.out; unfold n4 at this; rw [show k4 (s.data.toList.drop a) = k by unfold k4; rw [HR.out]; omega] at this; rw [← this, ← HM.out.2]
      subst er
      subst en
      clear hrun hdr hP
      go_wp2
      go_ret2
      exact ⟨rfl, HW.out.symm⟩
end Go.Proofs.YtpcchaciomeckaaDoor

/- Format by the page: a directive in memory; flag. -/
namespace Go.Proofs.YtpcchaciomeckaaDoor
open Go.RowKit

structure RD_ where
  m : Bool
  p : Bool
  z : Bool
  b : Bool
  wd : Int
  pr : Int
  c : Int
  en : Int
def RD_.cells (d : RD_) : Array Value := #[.bool d.m, .bool d.p, .bool d.z, .bool d.b, .int .i64 d.wd, .int .i64 d.pr, .int .u8 d.c, .int .i64 d.en]
def DB (W : World) (g : Nat) (d : RD_) : Prop := W.heap[g]? = some (.cells d.cells 55 (0, 0))
theorem DB.lt {W : World} {g : Nat} {d : RD_} (h : DB W g d) : g < W.heap.size := (Array.getElem?_eq_some_iff.1 h).1
theorem DB.below {W W' : World} {g : Nat} {d : RD_} (h : DB W g d) (hB : Below W.heap.size W W') : DB W' g d := (hB.block g h.lt).trans h
theorem DB.cs {W : World} {g : Nat} {d : RD_} (h : DB W g d) : W.cell? ⟨g, 0, none⟩ = some (.bool d.m) ∧ W.cell? ⟨g, 1, none⟩ = some (.bool d.p) ∧ W.cell? ⟨g, 2, none⟩ = some (.bool d.z) ∧ W.cell? ⟨g, 3, none⟩ = some (.bool d.b) ∧ W.cell? ⟨g, 4, none⟩ = some (.int .i64 d.wd) ∧ W.cell? ⟨g, 5, none⟩ = some (.int .i64 d.pr) ∧ W.cell? ⟨g, 6, none⟩ = some (.int .u8 d.c) ∧ W.cell? ⟨g, 7, none⟩ = some (.int .i64 d.en) := by
  refine ⟨?_, ?_, ?_, ?_, ?_, ?_, ?_, ?_⟩ <;> (rw [cell_of_row _ g _ _ _ _ h]; rfl)
theorem DB.fr {W : World} {g : Nat} {d : RD_} (h : DB W g d) (j : Nat) : W.frozen? ⟨g, j, none⟩ = false := frozen_of_row _ g j _ _ h
theorem DB.set {W : World} {g : Nat} {d : RD_} (h : DB W g d) (i : Nat) (v : Value) (d' : RD_) (he : d.cells.setIfInBounds i v = d'.cells) : DB (W.setCell ⟨g, i, none⟩ v) g d' := by
  have q := Go.heap_setCell_same _ g i _ _ v h
  rw [he] at q
  exact q
def fR (d : RD_) (c : Int) : Bool × RD_ :=
  if c = 45 then (!d.m, { d with m := true }) else if c = 43 then (!d.p, { d with p := true }) else if c = 48 then (!d.z, { d with z := true }) else if c = 32 then (!d.b, { d with b := true }) else (false, d)
set_option maxRecDepth 100000 in
set_option maxHeartbeats 4000000 in
theorem rflag (d : RD_) (c : Int) (g : Nat) (w : World) (h : DB w g d) : Calls Tryd.prog 32 #[.pointer (some ⟨g, 0, none⟩), .int .u8 c] w fun e w' => e = .returned (.bool (fR d c).1) ∧ DB w' g (fR d c).2 ∧ Below g w w' := by
  have H := hide h
  obtain ⟨m, p, z, b, wd, pr, c', en⟩ := d
  obtain ⟨c0, c1, c2, c3, c4, c5, c6, c7⟩ := h.cs
  have f0 := h.fr 0
  have f1 := h.fr 1
  have f2 := h.fr 2
  have f3 := h.fr 3
  simp only at c0 c1 c2 c3 c4 c5 c6 c7
  clear h
  rcases (show c = 45 ∨ c = 43 ∨ c = 48 ∨ c = 32 ∨ ((c == 45) = false ∧ (c == 43) = false ∧ (c == 48) = false ∧ (c == 32) = false) by
    simp only [beq_eq_false_iff_ne, ne_eq]; omega) with rfl | rfl | rfl | rfl | ⟨h1, h2, h3, h4⟩
  · cases m with
    | true =>
      go_enter Tryd.func32, Tryd.ntmps32
      go_wp2
      go_ret
      exact ⟨rfl, H.out, Below.refl _ _⟩
    | false =>
      have HS := hide (H.out.set 0 (.bool true) { m := true, p := p, z := z, b := b, wd := wd, pr := pr, c := c', en := en } rfl)
      go_enter Tryd.func32, Tryd.ntmps32
      go_wp2
      go_ret
      exact ⟨rfl, HS.out, (Below.refl _ _).setCell (p := ⟨g, 0, none⟩) (Nat.le_refl _) _⟩
  · cases p with
    | true =>
      go_enter Tryd.func32, Tryd.ntmps32
      go_wp2
      go_ret
      exact ⟨rfl, H.out, Below.refl _ _⟩
    | false =>
      have HS := hide (H.out.set 1 (.bool true) { m := m, p := true, z := z, b := b, wd := wd, pr := pr, c := c', en := en } rfl)
      go_enter Tryd.func32, Tryd.ntmps32
      go_wp2
      go_ret
      exact ⟨rfl, HS.out, (Below.refl _ _).setCell (p := ⟨g, 1, none⟩) (Nat.le_refl _) _⟩
  · cases z with
    | true =>
      go_enter Tryd.func32, Tryd.ntmps32
      go_wp2
      go_ret
      exact ⟨rfl, H.out, Below.refl _ _⟩
    | false =>
      have HS := hide (H.out.set 2 (.bool true) { m := m, p := p, z := true, b := b, wd := wd, pr := pr, c := c', en := en } rfl)
      go_enter Tryd.func32, Tryd.ntmps32
      go_wp2
      go_ret
      exact ⟨rfl, HS.out, (Below.refl _ _).setCell (p := ⟨g, 2, none⟩) (Nat.le_refl _) _⟩
  · cases b with
    | true =>
      go_enter Tryd.func32, Tryd.ntmps32
      go_wp2
      go_ret
      exact ⟨rfl, H.out, Below.refl _ _⟩
    | false =>
      have HS := hide (H.out.set 3 (.bool true) { m := m, p := p, z := z, b := true, wd := wd, pr := pr, c := c', en := en } rfl)
      go_enter Tryd.func32, Tryd.ntmps32
      go_wp2
      go_ret
      exact ⟨rfl, HS.out, (Below.refl _ _).setCell (p := ⟨g, 3, none⟩) (Nat.le_refl _) _⟩
  · have hv : fR ⟨m, p, z, b, wd, pr, c', en⟩ c = (false, ⟨m, p, z, b, wd, pr, c', en⟩) := by
      simp only [beq_eq_false_iff_ne, ne_eq] at h1 h2 h3 h4
      unfold fR
      rw [if_neg h1, if_neg h2, if_neg h3, if_neg h4]
    rw [hv]
    clear hv
    go_enter Tryd.func32, Tryd.ntmps32
    go_wp2
    go_ret
    exact ⟨rfl, H.out, Below.refl _ _⟩
def bitsOf (d : RD_) : Int := (if d.m then 1 else 0) + (if d.p then 2 else 0) + (if d.z then 4 else 0) + (if d.b then 8 else 0)
theorem c_ways (c : Int) : c = 45 ∨ c = 43 ∨ c = 48 ∨ c = 32 ∨ (¬ c = 45 ∧ ¬ c = 43 ∧ ¬ c = 48 ∧ ¬ c = 32) := by omega
theorem fR_new {d : RD_} {c : Int} (h : (fR d c).1 = true) : fOf c ≠ 0 ∧ bits .and .i64 (bitsOf d) (fOf c) = 0 ∧ bits .or .i64 (bitsOf d) (fOf c) = bitsOf (fR d c).2 := by
  obtain ⟨m, p, z, b, wd, pr, c', en⟩ := d
  rcases c_ways c with rfl | rfl | rfl | rfl | ⟨e1, e2, e3, e4⟩
  case inr.inr.inr.inr =>
    unfold fR at h
    rw [if_neg e1, if_neg e2, if_neg e3, if_neg e4] at h
    cases h
  all_goals
    cases m <;> cases p <;> cases z <;> cases b
    all_goals first | (exact absurd (show false = true from h) (by decide)) | exact ⟨by decide, by kernel_rfl, by kernel_rfl⟩
theorem fR_old {d : RD_} {c : Int} (h : (fR d c).1 = false) : (fR d c).2 = d ∧ (fOf c = 0 ∨ (fOf c ≠ 0 ∧ (bits .and .i64 (bitsOf d) (fOf c) == 0) = false)) := by
  obtain ⟨m, p, z, b, wd, pr, c', en⟩ := d
  rcases c_ways c with rfl | rfl | rfl | rfl | ⟨e1, e2, e3, e4⟩
  case inr.inr.inr.inr =>
    unfold fR fOf
    rw [if_neg e1, if_neg e2, if_neg e3, if_neg e4, if_neg e1, if_neg e2, if_neg e3, if_neg e4]
    exact ⟨rfl, .inl rfl⟩
  all_goals
    cases m <;> cases p <;> cases z <;> cases b
    all_goals first | exact absurd (show true = false from h) (by decide) | exact ⟨rfl, .inr ⟨by decide, by kernel_rfl⟩⟩
end Go.Proofs.YtpcchaciomeckaaDoor

/- Format by the page: what read answers, as a value. -/
namespace Go.Proofs.YtpcchaciomeckaaDoor
open Go.RowKit

def rv (L : List UInt8) (k : Nat) : Option (Nat × Option Nat × UInt8 × Nat) :=
  if 0 < k4 (L.drop k) ∧ (L.drop k).head? = some 48 then none else
  if isPt (L.drop (k + k4 (L.drop k))) = true then
    match L.drop (k + k4 (L.drop k) + 1 + k4 (L.drop (k + k4 (L.drop k) + 1))) with
    | [] => none
    | c :: _ => if kOf c.toNat = 0 ∨ 4096 < n4 (L.drop k) ∨ 4096 < n4 (L.drop (k + k4 (L.drop k) + 1)) then none else some (n4 (L.drop k), some (n4 (L.drop (k + k4 (L.drop k) + 1))), c, k + k4 (L.drop k) + 1 + k4 (L.drop (k + k4 (L.drop k) + 1)) + 1)
  else
    match L.drop (k + k4 (L.drop k)) with
    | [] => none
    | c :: _ => if kOf c.toNat = 0 ∨ 4096 < n4 (L.drop k) then none else some (n4 (L.drop k), none, c, k + k4 (L.drop k) + 1)
theorem dg_no {c : UInt8} (h : isDg c) : kOf c.toNat = 0 ∧ c.toNat ≠ 46 := by
  obtain ⟨h1, h2⟩ := h
  refine ⟨?_, by omega⟩
  unfold kOf
  rw [if_neg (by omega), if_neg (by omega), if_neg (by omega), if_neg (by omega)]
theorem run_far {x : List UInt8} (h : 4 < run10 x) : ∃ c r, x.drop 4 = c :: r ∧ isDg c := by
  have hl := run10_len x
  cases hd : x.drop 4 with
  | nil =>
    have := congrArg List.length hd
    rw [List.length_drop] at this
    simp at this
    omega
  | cons c r =>
    refine ⟨c, r, rfl, run10_all x c ?_⟩
    have : (x.take (run10 x)).drop 4 = (x.drop 4).take (run10 x - 4) := by rw [List.drop_take]
    have hm : c ∈ (x.take (run10 x)).drop 4 := by
      rw [this, hd]
      obtain ⟨q, hq⟩ : ∃ q, run10 x - 4 = q + 1 := ⟨run10 x - 5, by omega⟩
      rw [hq, List.take_succ_cons]
      exact List.mem_cons_self ..
    exact List.mem_of_mem_drop hm
theorem num_ways (x : List UInt8) : (numAt x = (n4 x, k4 x, true) ∧ n4 x ≤ 4096) ∨ ((numAt x).2.2 = false ∧ ((4 < run10 x ∧ k4 x = 4) ∨ 4096 < n4 x)) := by
  unfold numAt
  by_cases h0 : run10 x = 0
  · rw [if_pos h0]
    have hk : k4 x = 0 := by unfold k4; omega
    have hn : n4 x = 0 := by unfold n4; rw [hk]; rfl
    exact .inl ⟨by rw [hk, hn], by omega⟩
  · rw [if_neg h0]
    by_cases h4 : 4 < run10 x
    · rw [if_pos (.inl h4)]
      exact .inr ⟨rfl, .inl ⟨h4, by unfold k4; omega⟩⟩
    · have hk : k4 x = run10 x := by unfold k4; omega
      have hn : n4 x = val10 (x.take (run10 x)) 0 := by unfold n4; rw [hk]
      by_cases hv : 4096 < val10 (x.take (run10 x)) 0
      · rw [if_pos (.inr hv)]
        exact .inr ⟨rfl, .inr (by rw [hn]; exact hv)⟩
      · rw [if_neg (by omega), hk, hn]
        exact .inl ⟨rfl, by omega⟩
theorem verb_rv (L : List UInt8) (a p : Nat) (h : ¬ (p = 1 ∧ ∃ r, L.drop (a + 1) = 37 :: r)) : verbAt (L.drop a) p = match L.drop (a + p) with
    | [] => none
    | c :: _ => if kOf c.toNat = 0 then none else some c := by
  unfold verbAt
  rw [List.drop_drop]
  cases hd : L.drop (a + p) with
  | nil => rfl
  | cons c r =>
    simp only
    by_cases hk : kOf c.toNat = 0
    · rw [if_pos hk, if_neg]
      rintro (⟨h1, h2⟩ | h1)
      · exact h ⟨h2, r, by rw [← h2, hd]; rw [show c = 37 from UInt8.toNat_inj.1 h1]⟩
      · exact h1 hk
    · rw [if_neg hk, if_pos (.inr hk)]
theorem rv_free {L : List UInt8} {k : Nat} (h48 : (L.drop k).head? ≠ some 48) : rv L k = if isPt (L.drop (k + k4 (L.drop k))) = true then
    (match L.drop (k + k4 (L.drop k) + 1 + k4 (L.drop (k + k4 (L.drop k) + 1))) with
    | [] => none
    | c :: _ => if kOf c.toNat = 0 ∨ 4096 < n4 (L.drop k) ∨ 4096 < n4 (L.drop (k + k4 (L.drop k) + 1)) then none else some (n4 (L.drop k), some (n4 (L.drop (k + k4 (L.drop k) + 1))), c, k + k4 (L.drop k) + 1 + k4 (L.drop (k + k4 (L.drop k) + 1)) + 1))
  else
    (match L.drop (k + k4 (L.drop k)) with
    | [] => none
    | c :: _ => if kOf c.toNat = 0 ∨ 4096 < n4 (L.drop k) then none else some (n4 (L.drop k), none, c, k + k4 (L.drop k) + 1)) := by
  conv => lhs; unfold rv
  rw [if_neg (fun h => h48 h.2)]
theorem rv_pt {L : List UInt8} {k : Nat} (h48 : (L.drop k).head? ≠ some 48) (hpt : isPt (L.drop (k + k4 (L.drop k))) = true) : rv L k = match L.drop (k + k4 (L.drop k) + 1 + k4 (L.drop (k + k4 (L.drop k) + 1))) with
    | [] => none
    | c :: _ => if kOf c.toNat = 0 ∨ 4096 < n4 (L.drop k) ∨ 4096 < n4 (L.drop (k + k4 (L.drop k) + 1)) then none else some (n4 (L.drop k), some (n4 (L.drop (k + k4 (L.drop k) + 1))), c, k + k4 (L.drop k) + 1 + k4 (L.drop (k + k4 (L.drop k) + 1)) + 1) := by
  rw [rv_free h48, if_pos hpt]
theorem rv_np {L : List UInt8} {k : Nat} (h48 : (L.drop k).head? ≠ some 48) (hpt : ¬ isPt (L.drop (k + k4 (L.drop k))) = true) : rv L k = match L.drop (k + k4 (L.drop k)) with
    | [] => none
    | c :: _ => if kOf c.toNat = 0 ∨ 4096 < n4 (L.drop k) then none else some (n4 (L.drop k), none, c, k + k4 (L.drop k) + 1) := by
  rw [rv_free h48, if_neg hpt]
theorem rv_pdir {L : List UInt8} {a K : Nat} {F : Int} (ha : flg ((L.drop a).drop 1) 0 true = (F, true, K)) (h48 : (L.drop (a + 1 + K)).head? ≠ some 48) (hpp : ¬ ∃ r, L.drop (a + 1) = 37 :: r) :
    pdir (L.drop a) = (rv L (a + 1 + K)).map fun x => (⟨F, x.1, x.2.1.isSome, x.2.1.getD 0, x.2.2.1⟩, x.2.2.2 - a) := by
  obtain ⟨B, hB⟩ : ∃ B, numAt ((L.drop a).drop (1 + K)) = B := ⟨_, rfl⟩
  have hd0 : (L.drop a).drop (1 + K) = L.drop (a + 1 + K) := by rw [List.drop_drop, Nat.add_assoc]
  obtain ⟨B1, B2, B3⟩ := B
  rw [pdir_eq ha hB]
  rw [hd0] at hB
  obtain ⟨k, hk⟩ : ∃ k, a + 1 + K = k := ⟨_, rfl⟩
  rw [hk] at hB h48 ⊢
  rcases num_ways (L.drop k) with ⟨h1, h2⟩ | ⟨h1, h2⟩
  · rw [hB] at h1
    obtain ⟨rfl, rfl, rfl⟩ : B1 = n4 (L.drop k) ∧ B2 = k4 (L.drop k) ∧ B3 = true := by simpa using h1
    have e1 : (L.drop a).drop (1 + K + k4 (L.drop k)) = L.drop (k + k4 (L.drop k)) := by rw [List.drop_drop, ← hk]; congr 1; omega
    have e2 : (L.drop a).drop (1 + K + k4 (L.drop k) + 1) = L.drop (k + k4 (L.drop k) + 1) := by rw [List.drop_drop, ← hk]; congr 1; omega
    rw [if_neg (by simp), e1]
    by_cases hpt : isPt (L.drop (k + k4 (L.drop k))) = true
    · rw [if_pos hpt, e2, rv_pt h48 hpt]
      rcases num_ways (L.drop (k + k4 (L.drop k) + 1)) with ⟨g1, g2⟩ | ⟨g1, g2⟩
      · rw [g1]
        simp only
        rw [if_neg (show ¬ (true = false) by decide), verb_rv L a _ (by rintro ⟨h, _⟩; omega)]
        have e3 : a + (1 + K + k4 (L.drop k) + 1 + k4 (L.drop (k + k4 (L.drop k) + 1))) = k + k4 (L.drop k) + 1 + k4 (L.drop (k + k4 (L.drop k) + 1)) := by omega
        rw [e3]
        cases hd : L.drop (k + k4 (L.drop k) + 1 + k4 (L.drop (k + k4 (L.drop k) + 1))) with
        | nil => rfl
        | cons c r =>
          simp only
          by_cases hc : kOf c.toNat = 0
          · rw [if_pos hc, if_pos (Or.inl hc)]; rfl
          · rw [if_neg hc, if_neg (show ¬ (kOf c.toNat = 0 ∨ 4096 < n4 (L.drop k) ∨ 4096 < n4 (L.drop (k + k4 (L.drop k) + 1))) by rintro (h | h | h); exact hc h; omega; omega)]
            simp only [Option.map_some, Option.isSome_some, Option.getD_some]
            congr 2
            omega
      · rw [if_pos g1]
        rcases g2 with ⟨g2, g3⟩ | g2
        · obtain ⟨c, r, h5, h6⟩ := run_far g2
          rw [List.drop_drop] at h5
          rw [g3, h5]
          simp only
          rw [if_pos (Or.inl (dg_no h6).1)]; rfl
        · cases hd : L.drop (k + k4 (L.drop k) + 1 + k4 (L.drop (k + k4 (L.drop k) + 1))) with
          | nil => rfl
          | cons c r =>
            simp only
            rw [if_pos (Or.inr (Or.inr g2))]; rfl
    · rw [if_neg hpt, rv_np h48 hpt, verb_rv L a _ (by
        rintro ⟨_, r, hr⟩
        exact hpp ⟨r, hr⟩)]
      have e3 : a + (1 + K + k4 (L.drop k)) = k + k4 (L.drop k) := by omega
      rw [e3]
      cases hd : L.drop (k + k4 (L.drop k)) with
      | nil => rfl
      | cons c r =>
        simp only
        by_cases hc : kOf c.toNat = 0
        · rw [if_pos hc, if_pos (Or.inl hc)]; rfl
        · rw [if_neg hc, if_neg (show ¬ (kOf c.toNat = 0 ∨ 4096 < n4 (L.drop k)) by rintro (h | h); exact hc h; omega)]
          simp only [Option.map_some, Option.isSome_none, Option.getD_none]
          congr 2
          omega
  · rw [hB] at h1
    simp only at h1
    subst h1
    rw [if_pos (Or.inr rfl)]
    rcases h2 with ⟨g2, g3⟩ | g2
    · obtain ⟨c, r, h5, h6⟩ := run_far g2
      rw [List.drop_drop] at h5
      have hnp : ¬ isPt (L.drop (k + k4 (L.drop k))) = true := by
        rw [g3, h5]
        show ¬ (c.toNat == 46) = true
        simpa using (dg_no h6).2
      rw [rv_np h48 hnp, g3, h5]
      simp only
      rw [if_pos (Or.inl (dg_no h6).1)]; rfl
    · by_cases hpt : isPt (L.drop (k + k4 (L.drop k))) = true
      · rw [rv_pt h48 hpt]
        cases hd : L.drop (k + k4 (L.drop k) + 1 + k4 (L.drop (k + k4 (L.drop k) + 1))) with
        | nil => rfl
        | cons c r =>
          simp only
          rw [if_pos (Or.inr (Or.inl g2))]; rfl
      · rw [rv_np h48 hpt]
        cases hd : L.drop (k + k4 (L.drop k)) with
        | nil => rfl
        | cons c r =>
          simp only
          rw [if_pos (Or.inr g2)]; rfl
theorem rv_twice {L : List UInt8} {k : Nat} {c : UInt8} {r : List UInt8} (hd : L.drop k = c :: r) (hf : fOf c.toNat ≠ 0) : rv L k = none := by
  unfold rv
  by_cases h48 : c.toNat = 48
  · have hc : c = 48 := UInt8.toNat_inj.1 h48
    rw [hd]
    rw [if_pos ⟨by unfold k4; rw [run10_at, if_pos (by omega)]; omega, by rw [hc]; rfl⟩]
  · have hr : run10 (c :: r) = 0 := by
      rw [run10_at, if_neg]
      intro h
      unfold fOf at hf
      rw [if_neg (by omega), if_neg (by omega), if_neg (by omega), if_neg (by omega)] at hf
      exact hf rfl
    have hk : k4 (c :: r) = 0 := by unfold k4; omega
    rw [hd, hk, if_neg (by omega), Nat.add_zero, hd]
    have hcc : c.toNat = 45 ∨ c.toNat = 43 ∨ c.toNat = 32 := by
      unfold fOf at hf
      split at hf
      · left; omega
      · split at hf
        · right; left; omega
        · split at hf
          · omega
          · split at hf
            · right; right; omega
            · exact absurd rfl hf
    have hnp : ¬ isPt (c :: r) = true := by
      show ¬ (c.toNat == 46) = true
      simp only [beq_iff_eq]
      omega
    rw [if_neg hnp]
    simp only
    rw [if_pos (.inl (by unfold kOf; rw [if_neg (by omega), if_neg (by omega), if_neg (by omega), if_neg (by omega)]))]
end Go.Proofs.YtpcchaciomeckaaDoor

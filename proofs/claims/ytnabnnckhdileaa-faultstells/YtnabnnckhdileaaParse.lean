/- What num.ParseBase and the reference's ParseBase answer, for every text and base. -/
import Derived.Test.YtnabnnckhdileaaMath
namespace Go.Proofs.Ytnabnnckhdileaa
open Go.RowKit

theorem empty_yes (s : ByteArray) (h : s.size = 0) : s.toList.isEmpty = true := by
  rw [ByteArray.toList_eq, List.isEmpty_iff, ← List.length_eq_zero_iff]; simpa using h
theorem empty_no (s : ByteArray) (h : s.size ≠ 0) : s.toList.isEmpty = false := by
  rw [ByteArray.toList_eq, Bool.eq_false_iff, Ne, List.isEmpty_iff, ← List.length_eq_zero_iff]; simpa using h
theorem nil_no (s : ByteArray) (h : s.size ≠ 0) : s.data.toList ≠ [] := by
  rw [Ne, ← List.length_eq_zero_iff]; simpa using h
theorem nil_yes (s : ByteArray) (h : s.size = 0) : s.data.toList = [] := by
  rw [← List.length_eq_zero_iff]; simpa using h
theorem parseB_no (b : Int) (l : List UInt8) (h : ¬ (2 ≤ b ∧ b ≤ 16)) : parseB b l = (0, 4, 0) := by rw [parseB, if_pos h]
theorem parseB_nil (b : Int) (h1 : 2 ≤ b) (h2 : b ≤ 16) : parseB b [] = (0, 8, 0) := by rw [parseB, if_neg (by omega), if_pos rfl]
theorem parseB_yes (b : Int) (l : List UInt8) (h1 : 2 ≤ b) (h2 : b ≤ 16) (h3 : l ≠ []) : parseB b l = pb b l 0 0 := by rw [parseB, if_neg (by omega), if_neg h3]
theorem ret3 {a b c a' b' c' : Int} {k1 k2 k3 : IntKind} (r : Int × Int × Int) (h : r = (a', b', c')) (h1 : a = a') (h2 : b = b') (h3 : c = c') :
    Ending.returned (.tuple #[.int k1 a, .int k2 b, .int k3 c]) = .returned (.tuple #[.int k1 r.1, .int k2 r.2.1, .int k3 r.2.2]) := by rw [h, h1, h2, h3]

theorem step_wrap {n b d : Int} (hn : 0 ≤ n) (hb : 0 < b) (hd : 0 ≤ d) (h : n ≤ (18446744073709551615 - d) / b) : IntKind.u64.wrap (IntKind.u64.wrap (n * b) + d) = n * b + d := by
  have h3 := Int.mul_le_of_le_ediv hb h
  have h4 : 0 ≤ n * b := Int.mul_nonneg hn (by omega)
  rw [IntWalk.u64_in (n * b) ⟨h4, by omega⟩, IntWalk.u64_in _ ⟨by omega, by omega⟩]
theorem step_le {n b d : Int} (hb : 0 < b) (h : n ≤ (18446744073709551615 - d) / b) : n * b + d ≤ 18446744073709551615 := by
  have h3 := Int.mul_le_of_le_ediv hb h
  omega

set_option maxHeartbeats 1000000 in
theorem parseBase_any (s : ByteArray) (b : Int) (w : World) (hs : s.size ≤ maxLen) :
    Calls Try.prog 52 #[.string s, .int .i64 b] w fun e w' =>
      e = .returned (.tuple #[.int .u64 (parseB b s.data.toList).1, .int .i64 (parseB b s.data.toList).2.1, .int .i64 (parseB b s.data.toList).2.2]) ∧ w' = w := by
  unfold maxLen at hs
  by_cases hb : 2 ≤ b ∧ b ≤ 16
  · obtain ⟨hb1, hb2⟩ := hb
    by_cases he : s.size = 0
    · have hE := empty_yes s he
      go_enter Try.func52, Try.ntmps52
      go_wp2_with (go_at_call 59; refine (isBase_yes _ hb1 hb2 _).mono ?_; rintro e w' ⟨rfl, rfl⟩)
      go_ret3
      exact ⟨ret3 _ (by rw [nil_yes s he]; exact parseB_nil b hb1 hb2) rfl rfl rfl, rfl⟩
    · have hE := empty_no s he
      have HP : Hid (parseB b s.data.toList = pb b (s.data.toList.drop 0) 0 0) := parseB_yes b _ hb1 hb2 (nil_no s he)
      go_enter Try.func52, Try.ntmps52
      go_wp2_with (go_at_call 59; refine (isBase_yes _ hb1 hb2 _).mono ?_; rintro e w' ⟨rfl, rfl⟩)
      go_loop [7, 20] (fun n i => ∃ (k : Nat) (m : Int), k ≤ s.size ∧ i = .int .i64 k ∧ n = .int .u64 m ∧ 0 ≤ m ∧ m ≤ 18446744073709551615 ∧ Hid (parseB b s.data.toList = pb b (s.data.toList.drop k) m k)) (fun _ i => s.size - (intOf i).toNat)
      case atStart => exact ⟨0, 0, Nat.zero_le _, rfl, rfl, by omega, by omega, HP⟩
      case round =>
        clear HP
        obtain ⟨k, m, hk, rfl, rfl, hm1, hm2, HP⟩ := hrel
        by_cases hlt : k < s.size
        · have hd := drop_at s k hlt
          have hbv := valI_bd (s[k].toNat : Int)
          have HQ : Hid (parseB b s.data.toList = pb b (s[k] :: s.data.toList.drop (k + 1)) m k) := by rw [← hd]; exact HP.out
          clear hd HP
          have hby : ((s[k].toNat : Nat) : Int) ≤ 255 := by have := s[k].toNat_lt; omega
          generalize hv : valI (s[k].toNat : Int) = v at hbv
          have HV := hide hv
          clear hv
          by_cases h1 : b ≤ v
          · go_wp2_with (go_at_call 60; refine (value_any _ (by omega) hby _).mono ?_; rintro e w' ⟨rfl, rfl⟩; rw [HV.out])
            go_ret3
            exact ⟨ret3 _ (HQ.out.trans (pb_digit _ _ _ _ _ (by rw [HV.out]; exact h1))) rfl rfl rfl, rfl⟩
          · go_wp2_with (go_at_call 60; refine (value_any _ (by omega) hby _).mono ?_; rintro e w' ⟨rfl, rfl⟩; rw [HV.out])
            · have h2 : (18446744073709551615 - v) / b < m := by assumption
              go_ret3
              exact ⟨ret3 _ (HQ.out.trans (pb_range _ _ _ _ _ (by rw [HV.out]; omega) (by rw [HV.out]; exact h2))) rfl rfl rfl, rfl⟩
            · have h2 : m ≤ (18446744073709551615 - v) / b := by assumption
              go_round
              case rel =>
                refine ⟨k + 1, m * b + v, by omega, by go_num, congrArg (Value.int .u64) (step_wrap hm1 (by omega) hbv.1 h2), ?_, step_le (by omega) h2, ?_⟩
                · have := Int.mul_nonneg hm1 (show 0 ≤ b by omega); omega
                · refine HQ.out.trans ?_
                  rw [pb_cons _ _ _ _ _ (by rw [HV.out]; omega) (by rw [HV.out]; omega), HV.out]
                  rfl
              case measure => simp [intOf]; omega
        · go_wp2
          go_ret3
          refine ⟨ret3 _ (HP.out.trans (by rw [drop_end s k (by omega)]; rfl)) rfl rfl ?_, rfl⟩
          omega
  · go_enter Try.func52, Try.ntmps52
    go_wp2_with (go_at_call 59; refine (isBase_no _ (by omega) _).mono ?_; rintro e w' ⟨rfl, rfl⟩)
    go_ret3
    exact ⟨ret3 _ (parseB_no b _ hb) rfl rfl rfl, rfl⟩

set_option maxHeartbeats 1000000 in
theorem rparseBase_any (s : ByteArray) (b : Int) (w : World) (hs : s.size ≤ maxLen) :
    Calls Try.prog 54 #[.string s, .int .i64 b] w fun e w' =>
      e = .returned (.tuple #[.int .u64 (parseB b s.data.toList).1, .int .i64 (parseB b s.data.toList).2.1, .int .i64 (parseB b s.data.toList).2.2]) ∧ w' = w := by
  unfold maxLen at hs
  by_cases hb : 2 ≤ b ∧ b ≤ 16
  · obtain ⟨hb1, hb2⟩ := hb
    by_cases he : s.size = 0
    · have hE := empty_yes s he
      go_enter Try.func54, Try.ntmps54
      go_wp2
      go_ret3
      exact ⟨ret3 _ (by rw [nil_yes s he]; exact parseB_nil b hb1 hb2) rfl rfl rfl, rfl⟩
    · have hE := empty_no s he
      have HP : Hid (parseB b s.data.toList = pb b (s.data.toList.drop 0) 0 0) := parseB_yes b _ hb1 hb2 (nil_no s he)
      go_enter Try.func54, Try.ntmps54
      go_wp2
      go_loop [7, 8] (fun n i => ∃ (k : Nat) (m : Int), k ≤ s.size ∧ i = .int .i64 k ∧ n = .int .u64 m ∧ 0 ≤ m ∧ m ≤ 18446744073709551615 ∧ Hid (parseB b s.data.toList = pb b (s.data.toList.drop k) m k)) (fun _ i => s.size - (intOf i).toNat)
      case atStart => exact ⟨0, 0, Nat.zero_le _, rfl, rfl, by omega, by omega, HP⟩
      case round =>
        clear HP
        obtain ⟨k, m, hk, rfl, rfl, hm1, hm2, HP⟩ := hrel
        by_cases hlt : k < s.size
        · have hd := drop_at s k hlt
          have hbv := valI_bd (s[k].toNat : Int)
          have HQ : Hid (parseB b s.data.toList = pb b (s[k] :: s.data.toList.drop (k + 1)) m k) := by rw [← hd]; exact HP.out
          clear hd HP
          have hby : ((s[k].toNat : Nat) : Int) ≤ 255 := by have := s[k].toNat_lt; omega
          generalize hv : valI (s[k].toNat : Int) = v at hbv
          have HV := hide hv
          clear hv
          by_cases h1 : b ≤ v
          · go_wp2_with (go_at_call 62; refine (rvalue_any _ (by omega) hby _).mono ?_; rintro e w' ⟨rfl, rfl⟩; rw [HV.out])
            go_ret3
            exact ⟨ret3 _ (HQ.out.trans (pb_digit _ _ _ _ _ (by rw [HV.out]; exact h1))) rfl rfl rfl, rfl⟩
          · go_wp2_with (go_at_call 62; refine (rvalue_any _ (by omega) hby _).mono ?_; rintro e w' ⟨rfl, rfl⟩; rw [HV.out])
            · have h2 : (18446744073709551615 - v) / b < m := by assumption
              go_ret3
              exact ⟨ret3 _ (HQ.out.trans (pb_range _ _ _ _ _ (by rw [HV.out]; omega) (by rw [HV.out]; exact h2))) rfl rfl rfl, rfl⟩
            · have h2 : m ≤ (18446744073709551615 - v) / b := by assumption
              go_round
              case rel =>
                refine ⟨k + 1, m * b + v, by omega, by go_num, congrArg (Value.int .u64) (step_wrap hm1 (by omega) hbv.1 h2), ?_, step_le (by omega) h2, ?_⟩
                · have := Int.mul_nonneg hm1 (show 0 ≤ b by omega); omega
                · refine HQ.out.trans ?_
                  rw [pb_cons _ _ _ _ _ (by rw [HV.out]; omega) (by rw [HV.out]; omega), HV.out]
                  rfl
              case measure => simp [intOf]; omega
        · go_wp2
          go_ret3
          refine ⟨ret3 _ (HP.out.trans (by rw [drop_end s k (by omega)]; rfl)) rfl rfl ?_, rfl⟩
          omega
  · have hb' : b < 2 ∨ 16 < b := by omega
    rcases hb' with hb' | hb'
    · go_enter Try.func54, Try.ntmps54
      go_wp2
      go_ret3
      exact ⟨ret3 _ (parseB_no b _ hb) rfl rfl rfl, rfl⟩
    · go_enter Try.func54, Try.ntmps54
      go_wp2
      go_ret3
      exact ⟨ret3 _ (parseB_no b _ hb) rfl rfl rfl, rfl⟩
end Go.Proofs.Ytnabnnckhdileaa

/- What the reference's ParseInt answers, for every text: the int whose text it is, or none. -/
import Derived.Test.YtnabnnckhdileaaPlaces
namespace Go.Proofs.Ytnabnnckhdileaa
open Go.RowKit

theorem top10 (k : Nat) (h : k ≤ 9223372036854775808) : top 10 k < 19 := by
  obtain ⟨_, t2⟩ := top_spec 10 k (by omega) (by omega)
  rcases t2 with t2 | t2
  · omega
  · have : (10 : Nat) ^ top 10 k < 10 ^ 19 := by
      have e : (10 : Nat) ^ 19 = 10000000000000000000 := by decide
      omega
    exact (Nat.pow_lt_pow_iff_right (by omega)).1 this
theorem dec_len_pos {m : Int} {l : List UInt8} (h0 : -9223372036854775808 ≤ m) (h1 : m ≤ 9223372036854775807) (h : dec m = l) (hl : l.head? ≠ some 45) : 1 ≤ l.length ∧ l.length ≤ 19 := by
  by_cases hm : m < 0
  · rw [dec, if_pos hm] at h; rw [← h] at hl; exact absurd rfl hl
  · rw [dec, if_neg hm] at h
    rw [← h, digs_length]
    have := top10 m.natAbs (by omega)
    omega
theorem dec_len_neg {m : Int} {l : List UInt8} (h0 : -9223372036854775808 ≤ m) (h1 : m ≤ 9223372036854775807) (h : dec m = 45 :: l) : 1 ≤ l.length ∧ l.length ≤ 19 := by
  obtain ⟨hm, _⟩ := parse_neg h0 h1 h
  rw [dec, if_pos hm] at h
  rw [← List.tail_eq_of_cons_eq h]
  show 1 ≤ (digs 10 m.natAbs).length ∧ (digs 10 m.natAbs).length ≤ 19
  rw [digs_length]
  have := top10 m.natAbs (by omega)
  omega
theorem extract_len (s : ByteArray) : (s.extract 1 s.size).data.toList.length = s.size - 1 := by
  show (s.extract 1 s.size).data.size = s.size - 1
  rw [ByteArray.data_extract, Array.size_extract]
  show min s.data.size s.data.size - 1 = s.size - 1
  rw [Nat.min_self]
  rfl
/-- What ParseBase answers is no less than 0 and within 2^64 - 1. -/
theorem pb_bd (b : Int) (hb : 0 < b) : ∀ (l : List UInt8) (n i : Int), 0 ≤ n → n ≤ 18446744073709551615 → 0 ≤ (pb b l n i).1 ∧ (pb b l n i).1 ≤ 18446744073709551615
  | [], n, i, h0, h1 => ⟨h0, h1⟩
  | c :: r, n, i, h0, h1 => by
    have hv := valI_bd (c.toNat : Int)
    rw [pb]
    split
    · exact ⟨by simp, by simp⟩
    · split
      · exact ⟨by simp, by simp⟩
      · rename_i h2
        refine pb_bd b hb r _ _ ?_ (step_fits hb h2)
        have := Int.mul_nonneg h0 (show 0 ≤ b by omega)
        omega
theorem parseB_bd (l : List UInt8) : 0 ≤ (parseB 10 l).1 ∧ (parseB 10 l).1 ≤ 18446744073709551615 := by
  unfold parseB
  split
  · exact ⟨by decide, by decide⟩
  · split
    · exact ⟨by decide, by decide⟩
    · exact pb_bd 10 (by omega) l 0 0 (by omega) (by omega)

set_option maxHeartbeats 1000000 in
theorem rparseInt_neg (s : ByteArray) (w : World) (hs : s.size ≤ maxLen) (hp : (0 : Int) < (s.size : Int)) (hp' : 0 < s.size) (h45 : ((s[0].toNat : Int) == 45) = true) :
    Calls Try.prog 47 #[.string s] w fun e w' => (∃ v x, PI s.data.toList v x ∧ e = .returned (.tuple #[.int .i64 v, .int .i64 x])) ∧ Below w.heap.size w w' := by
  unfold maxLen at hs
  have HH := hide (head_tail s hp' h45)
  have hel := extract_len s
  have HE := hide hel
  clear hel
  rcases (show (s.size : Int) - 1 < 1 ∨ (1 ≤ (s.size : Int) - 1 ∧ 19 < (s.size : Int) - 1) ∨ (1 ≤ (s.size : Int) - 1 ∧ (s.size : Int) - 1 ≤ 19) by omega) with hc | ⟨hc, hc2⟩ | ⟨hc, hc2⟩
  · go_enter Try.func47, Try.ntmps47
    go_wp2
    go_ret2
    refine ⟨⟨0, 11, .inr ⟨fun n h0 h1 h => ?_, rfl, rfl⟩, rfl⟩, Below.refl _ _⟩
    have := dec_len_neg h0 h1 (h.trans HH.out)
    rw [HE.out] at this
    omega
  · go_enter Try.func47, Try.ntmps47
    go_wp2
    go_ret2
    refine ⟨⟨0, 11, .inr ⟨fun n h0 h1 h => ?_, rfl, rfl⟩, rfl⟩, Below.refl _ _⟩
    have := dec_len_neg h0 h1 (h.trans HH.out)
    rw [HE.out] at this
    omega
  · have hbd := parseB_bd (s.extract 1 s.size).data.toList
    generalize hr : parseB 10 (s.extract 1 s.size).data.toList = r at hbd
    obtain ⟨z, x, y⟩ := r
    have HR := hide hr
    clear hr
    simp only at hbd
    go_enter Try.func47, Try.ntmps47
    go_wp2_with fail
    refine (rparseBase_any _ 10 _ (by unfold maxLen; rw [ByteArray.size_extract]; omega)).mono ?_
    rintro e w' ⟨rfl, rfl⟩
    rw [HR.out]
    have bad : (x ≠ 0 ∨ 9223372036854775808 < z) → ∀ n, -9223372036854775808 ≤ n → n ≤ 9223372036854775807 → dec n ≠ s.data.toList := by
      intro hx n h0 h1 h
      obtain ⟨hm, hq⟩ := parse_neg h0 h1 (h.trans HH.out)
      have hq2 := HR.out.symm.trans hq
      have e1 : z = -n := by simpa using congrArg Prod.fst hq2
      have e2 : x = 0 := by simpa using congrArg (fun r => r.2.1) hq2
      omega
    have BAD := hide bad
    clear bad
    by_cases hx : x = 0
    · subst hx
      by_cases hz : 9223372036854775808 < z
      · go_wp2
        go_ret2
        exact ⟨⟨0, 11, .inr ⟨BAD.out (.inr hz), rfl, rfl⟩, rfl⟩, Below.refl _ _⟩
      · by_cases hz0 : z = 0
        · subst hz0
          go_wp2_with fail
          refine (rdecimal_any _ (by omega) (by omega) _).mono ?_
          rintro e w1 ⟨rfl, hB⟩
          generalize hD : dec (0) = D
          have HD := hide hD
          clear hD
          go_wp2
          · have hne := same_no (D := D) (s := s) (by assumption)
            go_ret2
            refine ⟨⟨0, 11, .inr ⟨fun n h0 h1 h => ?_, rfl, rfl⟩, rfl⟩, hB⟩
            obtain ⟨hm, hq⟩ := parse_neg h0 h1 (h.trans HH.out)
            have e1 : 0 = -n := by simpa using congrArg Prod.fst (HR.out.symm.trans hq)
            exact hne (by rw [← HD.out, show 0 = n by omega, h])
          · have he := same_yes (D := D) (s := s) (by assumption)
            go_ret2
            exact ⟨⟨0, 0, .inl ⟨0, by omega, by omega, by rw [HD.out, he], rfl, rfl⟩, rfl⟩, hB⟩
        · have hz1 : 0 < z := by omega
          go_wp2_with fail
          refine (rdecimal_any _ (by omega) (by omega) _).mono ?_
          rintro e w1 ⟨rfl, hB⟩
          generalize hD : dec (-(z - 1) - 1) = D
          have HD := hide hD
          clear hD
          go_wp2
          · have hne := same_no (D := D) (s := s) (by assumption)
            go_ret2
            refine ⟨⟨0, 11, .inr ⟨fun n h0 h1 h => ?_, rfl, rfl⟩, rfl⟩, hB⟩
            obtain ⟨hm, hq⟩ := parse_neg h0 h1 (h.trans HH.out)
            have e1 : z = -n := by simpa using congrArg Prod.fst (HR.out.symm.trans hq)
            exact hne (by rw [← HD.out, show -(z - 1) - 1 = n by omega, h])
          · have he := same_yes (D := D) (s := s) (by assumption)
            go_ret2
            exact ⟨⟨-(z - 1) - 1, 0, .inl ⟨-(z - 1) - 1, by omega, by omega, by rw [HD.out, he], rfl, rfl⟩, rfl⟩, hB⟩
    · have hx' : (x != 0) = true := by simpa using hx
      go_wp2
      go_ret2
      exact ⟨⟨0, 11, .inr ⟨BAD.out (.inl hx), rfl, rfl⟩, rfl⟩, Below.refl _ _⟩

set_option maxHeartbeats 1000000 in
theorem rparseInt_pos (s : ByteArray) (w : World) (hs : s.size ≤ maxLen) (hp : (0 : Int) < (s.size : Int)) (hp' : 0 < s.size) (h45 : ((s[0].toNat : Int) == 45) = false) :
    Calls Try.prog 47 #[.string s] w fun e w' => (∃ v x, PI s.data.toList v x ∧ e = .returned (.tuple #[.int .i64 v, .int .i64 x])) ∧ Below w.heap.size w w' := by
  unfold maxLen at hs
  have HH := hide (head_not s hp' h45)
  have HE : Hid (s.data.toList.length = s.size) := by show s.data.toList.length = s.size; simp
  rcases (show (1 ≤ (s.size : Int) ∧ 19 < (s.size : Int)) ∨ (1 ≤ (s.size : Int) ∧ (s.size : Int) ≤ 19) by omega) with ⟨hc, hc2⟩ | ⟨hc, hc2⟩
  · go_enter Try.func47, Try.ntmps47
    go_wp2
    go_ret2
    refine ⟨⟨0, 11, .inr ⟨fun n h0 h1 h => ?_, rfl, rfl⟩, rfl⟩, Below.refl _ _⟩
    have := dec_len_pos h0 h1 h HH.out
    rw [HE.out] at this
    omega
  · have hbd := parseB_bd s.data.toList
    generalize hr : parseB 10 s.data.toList = r at hbd
    obtain ⟨z, x, y⟩ := r
    have HR := hide hr
    clear hr
    simp only at hbd
    go_enter Try.func47, Try.ntmps47
    go_wp2_with fail
    have hex : s.extract 0 s.size = s := by simp
    try rw [hex]
    refine (rparseBase_any s 10 _ (by unfold maxLen; omega)).mono ?_
    rintro e w' ⟨rfl, rfl⟩
    rw [HR.out]
    have bad : (x ≠ 0 ∨ 9223372036854775808 ≤ z) → ∀ n, -9223372036854775808 ≤ n → n ≤ 9223372036854775807 → dec n ≠ s.data.toList := by
      intro hx n h0 h1 h
      obtain ⟨hm, hq⟩ := parse_pos h0 h1 h HH.out
      have hq2 := HR.out.symm.trans hq
      have e1 : z = n := by simpa using congrArg Prod.fst hq2
      have e2 : x = 0 := by simpa using congrArg (fun r => r.2.1) hq2
      omega
    have BAD := hide bad
    clear bad
    by_cases hx : x = 0
    · subst hx
      by_cases hz : 9223372036854775808 < z
      · go_wp2
        go_ret2
        exact ⟨⟨0, 11, .inr ⟨BAD.out (.inr (by omega)), rfl, rfl⟩, rfl⟩, Below.refl _ _⟩
      · by_cases hz0 : z = 9223372036854775808
        · have hz2 : (z == 9223372036854775808) = true := by rw [hz0]; rfl
          clear hz0
          go_wp2
          go_ret2
          exact ⟨⟨0, 11, .inr ⟨BAD.out (.inr (by have := eq_of_beq hz2; omega)), rfl, rfl⟩, rfl⟩, Below.refl _ _⟩
        · have hz1 : z ≤ 9223372036854775807 := by omega
          have hz2 : (z == 9223372036854775808) = false := by rw [beq_eq_false_iff_ne]; omega
          clear hz0
          go_wp2_with fail
          refine (rdecimal_any _ (by omega) (by omega) _).mono ?_
          rintro e w1 ⟨rfl, hB⟩
          generalize hD : dec (z) = D
          have HD := hide hD
          clear hD
          go_wp2
          · have hne := same_no (D := D) (s := s) (by assumption)
            go_ret2
            refine ⟨⟨0, 11, .inr ⟨fun n h0 h1 h => ?_, rfl, rfl⟩, rfl⟩, hB⟩
            obtain ⟨hm, hq⟩ := parse_pos h0 h1 h HH.out
            have e1 : z = n := by simpa using congrArg Prod.fst (HR.out.symm.trans hq)
            exact hne (by rw [← HD.out, show z = n by omega, h])
          · have he := same_yes (D := D) (s := s) (by assumption)
            go_ret2
            exact ⟨⟨z, 0, .inl ⟨z, by omega, by omega, by rw [HD.out, he], rfl, rfl⟩, rfl⟩, hB⟩
    · have hx' : (x != 0) = true := by simpa using hx
      go_wp2
      go_ret2
      exact ⟨⟨0, 11, .inr ⟨BAD.out (.inl hx), rfl, rfl⟩, rfl⟩, Below.refl _ _⟩

set_option maxHeartbeats 1000000 in
theorem rparseInt_any (s : ByteArray) (w : World) (hs : s.size ≤ maxLen) :
    Calls Try.prog 47 #[.string s] w fun e w' => (∃ v x, PI s.data.toList v x ∧ e = .returned (.tuple #[.int .i64 v, .int .i64 x])) ∧ Below w.heap.size w w' := by
  by_cases hz : s.size = 0
  · have hd : decide ((0 : Int) < (s.size : Int)) = false := by simp [hz]
    have hz' : (s.size : Int) < 1 := by omega
    go_enter Try.func47, Try.ntmps47
    go_wp2
    go_ret2
    refine ⟨⟨0, 11, .inr ⟨fun n _ _ h => ?_, rfl, rfl⟩, rfl⟩, Below.refl _ _⟩
    rw [nil_yes s hz] at h
    unfold dec at h
    split at h
    · cases h
    · exact digs_ne _ _ h
  · by_cases h45 : ((s[0]'(by omega)).toNat : Int) == 45
    · exact rparseInt_neg s w hs (by omega) (by omega) h45
    · exact rparseInt_pos s w hs (by omega) (by omega) (by simpa using h45)
/-- There is but one answer. -/
theorem pi_one {l : List UInt8} {v x v' x' : Int} (h : PI l v x) (h' : PI l v' x') : v = v' ∧ x = x' := by
  rcases h with ⟨n, h0, h1, hd, rfl, rfl⟩ | ⟨hn, rfl, rfl⟩ <;> rcases h' with ⟨n', h0', h1', hd', rfl, rfl⟩ | ⟨hn', rfl, rfl⟩
  · refine ⟨?_, rfl⟩
    by_cases hl : l.head? = some 45
    · obtain ⟨t, rfl⟩ : ∃ t, l = 45 :: t := by
        cases l with
        | nil => cases hl
        | cons c t => exact ⟨t, by simp at hl; rw [hl]⟩
      obtain ⟨_, q1⟩ := parse_neg h0 h1 hd
      obtain ⟨_, q2⟩ := parse_neg h0' h1' hd'
      have := congrArg Prod.fst (q1.symm.trans q2)
      simp only at this
      omega
    · obtain ⟨_, q1⟩ := parse_pos h0 h1 hd hl
      obtain ⟨_, q2⟩ := parse_pos h0' h1' hd' hl
      exact congrArg Prod.fst (q1.symm.trans q2)
  · exact absurd hd (hn' _ h0 h1)
  · exact absurd hd' (hn _ h0' h1')
  · exact ⟨rfl, rfl⟩
end Go.Proofs.Ytnabnnckhdileaa

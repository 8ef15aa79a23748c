/- What num.Base, num.Decimal and num.ParseInt answer, for every input. -/
import Derived.Test.YtnabnnckhdileaaWritten
import Derived.Test.YtnabnnckhdileaaParse
namespace Go.Proofs.Ytnabnnckhdileaa
open Go.RowKit


/-- The text of an int. -/
def dec (n : Int) : List UInt8 := if n < 0 then 45 :: digs 10 n.natAbs else digs 10 n.natAbs

theorem bytes_append (l m : List UInt8) : (⟨l.toArray⟩ : ByteArray) ++ ⟨m.toArray⟩ = ⟨(l ++ m).toArray⟩ := by
  apply ByteArray.ext
  simp

theorem neg_wrap {n : Int} (h0 : -9223372036854775808 ≤ n) (hn : n < 0) : IntKind.u64.wrap (-IntKind.u64.wrap n) = -n := by
  rw [IntKind.wrap_u64, IntKind.wrap_u64]; omega
theorem digs_len (b n : Nat) (hb : 2 ≤ b) (hn : n < 18446744073709551616) : (digs b n).length ≤ 64 := by
  rw [digs_length]; have := top_lt b n hb hn; omega

set_option maxHeartbeats 400000 in
theorem decimal_any (n : Int) (h0 : -9223372036854775808 ≤ n) (h1 : n ≤ 9223372036854775807) (w : World) :
    Calls Try.prog 39 #[.int .i64 n] w fun e w' => e = .returned (.string ⟨(dec n).toArray⟩) ∧ Below w.heap.size w w' := by
  by_cases hn : n < 0
  · have HD : Hid (dec n = 45 :: digs 10 n.natAbs) := if_pos hn
    have hA : (-n).toNat = n.natAbs := by omega
    have hl := digs_len 10 n.natAbs (by omega) (by omega)
    go_enter Try.func39, Try.ntmps39
    go_wp2_with fail
    rw [neg_wrap h0 hn]
    refine (written_any (-n) 10 (by omega) (by omega) (by omega) (by omega) _).mono ?_
    rintro e w1 ⟨rfl, hB⟩
    rw [hA]
    generalize hg : digs 10 n.natAbs = l at *
    have hg2 : digs (Int.toNat 10) n.natAbs = l := hg
    rw [hg2]
    clear hg hg2
    go_wp2
    go_ret
    refine ⟨?_, hB⟩
    rw [HD.out]
    exact congrArg (fun x => Ending.returned (Value.string x)) (bytes_append [45] l)
  · have HD : Hid (dec n = digs 10 n.natAbs) := if_neg hn
    have hA : n.toNat = n.natAbs := by omega
    go_enter Try.func39, Try.ntmps39
    go_wp2_with fail
    refine (written_any n 10 (by omega) (by omega) (by omega) (by omega) _).mono ?_
    rintro e w1 ⟨rfl, hB⟩
    go_wp2
    go_ret
    refine ⟨?_, hB⟩
    rw [HD.out, ← hA]
    rfl

/-- The int whose text is l, and no error; or there is none. -/
def PI (l : List UInt8) (v e : Int) : Prop :=
  (∃ n, -9223372036854775808 ≤ n ∧ n ≤ 9223372036854775807 ∧ dec n = l ∧ v = n ∧ e = 0) ∨ ((∀ n, -9223372036854775808 ≤ n → n ≤ 9223372036854775807 → dec n ≠ l) ∧ v = 0 ∧ e = 11)

theorem w64_lo (x : Int) : -9223372036854775808 ≤ wrap64 x := by unfold wrap64; omega
theorem w64_hi (x : Int) : wrap64 x ≤ 9223372036854775807 := by unfold wrap64; omega
theorem sgn_ne (d : Fin 16) : sgn d ≠ 45 := by revert d; decide
theorem digs_cons (b n : Nat) : ∃ d r, digs b n = sgn d :: r := by
  unfold digs
  cases h : dl b n (top b n) with
  | nil => have := dl_length b n (top b n); rw [h] at this; simp at this
  | cons d r => exact ⟨d, r.map sgn, rfl⟩
theorem parse_pos {m : Int} {l : List UInt8} (h0 : -9223372036854775808 ≤ m) (h1 : m ≤ 9223372036854775807) (h : dec m = l) (hl : l.head? ≠ some 45) : 0 ≤ m ∧ parseB 10 l = (m, 0, (l.length : Int)) := by
  by_cases hm : m < 0
  · rw [dec, if_pos hm] at h; rw [← h] at hl; exact absurd rfl hl
  · refine ⟨by omega, ?_⟩
    rw [dec, if_neg hm] at h
    rw [← h]
    have := parseB_digs 10 m.natAbs (by omega) (by omega) (by omega)
    rw [show ((m.natAbs : Nat) : Int) = m by omega] at this
    exact this
theorem parse_neg {m : Int} {l : List UInt8} (h0 : -9223372036854775808 ≤ m) (h1 : m ≤ 9223372036854775807) (h : dec m = 45 :: l) : m < 0 ∧ parseB 10 l = (-m, 0, (l.length : Int)) := by
  by_cases hm : m < 0
  · refine ⟨hm, ?_⟩
    rw [dec, if_pos hm] at h
    rw [← List.tail_eq_of_cons_eq h]
    have := parseB_digs 10 m.natAbs (by omega) (by omega) (by omega)
    rw [show ((m.natAbs : Nat) : Int) = -m by omega] at this
    exact this
  · rw [dec, if_neg hm] at h
    obtain ⟨d, r, hd⟩ := digs_cons 10 m.natAbs
    rw [hd] at h
    exact absurd (List.head_eq_of_cons_eq h) (sgn_ne d)

theorem head_tail (s : ByteArray) (hp : 0 < s.size) (h : ((s[0].toNat : Int) == 45) = true) : s.data.toList = 45 :: (s.extract 1 s.size).data.toList := by
  have h1 : s.data.toList = s[0] :: s.data.toList.drop 1 := by
    have := drop_at s 0 hp
    rwa [List.drop_zero] at this
  have h2 : s[0] = 45 := by
    have h3 : ((s[0].toNat : Nat) : Int) = 45 := by simpa using h
    exact UInt8.toNat_inj.1 (show s[0].toNat = 45 by omega)
  have h4 : (s.extract 1 s.size).data.toList = s.data.toList.drop 1 := by
    rw [ByteArray.data_extract, Array.toList_extract, List.extract_eq_take_drop]
    exact List.take_of_length_le (by rw [List.length_drop]; simp)
  rw [h4, h1, h2]
  simp
theorem head_not (s : ByteArray) (hp : 0 < s.size) (h : ((s[0].toNat : Int) == 45) = false) : s.data.toList.head? ≠ some 45 := by
  have h1 : s.data.toList = s[0] :: s.data.toList.drop 1 := by
    have := drop_at s 0 hp
    rwa [List.drop_zero] at this
  rw [h1]
  intro h2
  have h3 : s[0] = 45 := by simpa using h2
  rw [h3] at h
  cases h
theorem same_no {D : List UInt8} {s : ByteArray} (h : (!D == s.toList) = true) : D ≠ s.data.toList := by
  rw [ByteArray.toList_eq] at h
  simpa using h
theorem same_yes {D : List UInt8} {s : ByteArray} (h : (!D == s.toList) = false) : D = s.data.toList := by
  rw [ByteArray.toList_eq] at h
  simpa using h

set_option maxHeartbeats 400000 in
theorem parseInt_any (s : ByteArray) (w : World) (hs : s.size ≤ maxLen) :
    Calls Try.prog 45 #[.string s] w fun e w' => (∃ v x, PI s.data.toList v x ∧ e = .returned (.tuple #[.int .i64 v, .int .i64 x])) ∧ Below w.heap.size w w' := by
  unfold maxLen at hs
  by_cases hz : s.size = 0
  · have hd : decide ((0 : Int) < (s.size : Int)) = false := by simp [hz]
    go_enter Try.func45, Try.ntmps45
    go_wp2_with fail
    refine (parseBase_any s 10 _ (by unfold maxLen; omega)).mono ?_
    rintro e w' ⟨rfl, rfl⟩
    rw [nil_yes s hz, parseB_nil 10 (by omega) (by omega)]
    go_wp2
    go_ret2
    refine ⟨⟨0, 11, .inr ⟨fun n _ _ h => ?_, rfl, rfl⟩, rfl⟩, Below.refl _ _⟩
    rw [nil_yes s hz] at h
    unfold dec at h
    split at h
    · cases h
    · exact digs_ne _ _ h
  · have hp : (0 : Int) < (s.size : Int) := by omega
    by_cases h45 : ((s[0].toNat : Int) == 45) = true
    · go_enter Try.func45, Try.ntmps45
      go_wp2_with fail
      refine (parseBase_any _ 10 _ (by unfold maxLen; rw [ByteArray.size_extract]; omega)).mono ?_
      rintro e w' ⟨rfl, rfl⟩
      generalize hr : parseB 10 (s.extract 1 s.size).data.toList = r
      obtain ⟨z, x, y⟩ := r
      have HR := hide hr
      clear hr
      by_cases hx : x = 0
      · subst hx
        go_wp2_with fail
        refine (decimal_any _ (w64_lo _) (w64_hi _) _).mono ?_
        rintro e w1 ⟨rfl, hB⟩
        have hlo := w64_lo (-wrap64 z)
        have hhi := w64_hi (-wrap64 z)
        generalize hN : wrap64 (-wrap64 z) = N at *
        generalize hD : dec N = D
        have HN := hide hN
        have HD := hide hD
        clear hN hD
        go_wp2
        · have hne := same_no (D := D) (s := s) (by assumption)
          go_ret2
          refine ⟨⟨0, 11, .inr ⟨fun n h0 h1 h => ?_, rfl, rfl⟩, rfl⟩, hB⟩
          obtain ⟨hm, hq⟩ := parse_neg h0 h1 (h.trans (head_tail s (by omega) h45))
          have hz2 : z = -n := by have := HR.out.symm.trans hq; simpa using congrArg Prod.fst this
          have hNn : N = n := by rw [← HN.out, hz2]; unfold wrap64; omega
          exact hne (by rw [← HD.out, hNn, h])
        · have he := same_yes (D := D) (s := s) (by assumption)
          go_ret2
          exact ⟨⟨N, 0, .inl ⟨N, hlo, hhi, by rw [HD.out, he], rfl, rfl⟩, rfl⟩, hB⟩
      · have hx' : (x != 0) = true := by simpa using hx
        go_wp2
        go_ret2
        refine ⟨⟨0, 11, .inr ⟨fun n h0 h1 h => ?_, rfl, rfl⟩, rfl⟩, Below.refl _ _⟩
        obtain ⟨hm, hq⟩ := parse_neg h0 h1 (h.trans (head_tail s (by omega) h45))
        exact hx (by have := HR.out.symm.trans hq; simpa using congrArg (fun r => r.2.1) this)
    · have h45' : ((s[0].toNat : Int) == 45) = false := by simpa using h45
      go_enter Try.func45, Try.ntmps45
      go_wp2_with fail
      refine (parseBase_any s 10 _ (by unfold maxLen; omega)).mono ?_
      rintro e w' ⟨rfl, rfl⟩
      generalize hr : parseB 10 s.data.toList = r
      obtain ⟨z, x, y⟩ := r
      have HR := hide hr
      clear hr
      by_cases hx : x = 0
      · subst hx
        go_wp2_with fail
        refine (decimal_any _ (w64_lo _) (w64_hi _) _).mono ?_
        rintro e w1 ⟨rfl, hB⟩
        have hlo := w64_lo z
        have hhi := w64_hi z
        generalize hN : wrap64 z = N at *
        generalize hD : dec N = D
        have HN := hide hN
        have HD := hide hD
        clear hN hD
        go_wp2
        · have hne := same_no (D := D) (s := s) (by assumption)
          go_ret2
          refine ⟨⟨0, 11, .inr ⟨fun n h0 h1 h => ?_, rfl, rfl⟩, rfl⟩, hB⟩
          obtain ⟨hm, hq⟩ := parse_pos h0 h1 h (head_not s (by omega) h45')
          have hz2 : z = n := by have := HR.out.symm.trans hq; simpa using congrArg Prod.fst this
          have hNn : N = n := by rw [← HN.out, hz2]; unfold wrap64; omega
          exact hne (by rw [← HD.out, hNn, h])
        · have he := same_yes (D := D) (s := s) (by assumption)
          go_ret2
          exact ⟨⟨N, 0, .inl ⟨N, hlo, hhi, by rw [HD.out, he], rfl, rfl⟩, rfl⟩, hB⟩
      · have hx' : (x != 0) = true := by simpa using hx
        go_wp2
        go_ret2
        refine ⟨⟨0, 11, .inr ⟨fun n h0 h1 h => ?_, rfl, rfl⟩, rfl⟩, Below.refl _ _⟩
        obtain ⟨hm, hq⟩ := parse_pos h0 h1 h (head_not s (by omega) h45')
        exact hx (by have := HR.out.symm.trans hq; simpa using congrArg (fun r => r.2.1) this)
end Go.Proofs.Ytnabnnckhdileaa

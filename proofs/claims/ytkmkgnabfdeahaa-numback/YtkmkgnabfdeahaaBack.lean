/- Numbers and octets are read back from their digits: what the statement NumBack asks. -/
import Derived.Test.YtkmkgnabfdeahaaAlive
import Derived.Test.YtkmkgnabfdeahaaUnhex
import Derived.Test.YtkmkgnabfdeahaaHex
namespace Go.Proofs.Ytkmkgnabfdeahaa
open Go.RowKit

theorem oct_back (c : UInt8) : oct (sgn (hiD c)) (sgn (loD c)) = c := by
  have h : ∀ x : Fin 256, oct (sgn (Fin.ofNat 16 (x.val / 16))) (sgn (Fin.ofNat 16 (x.val % 16))) = UInt8.ofNat x.val := by decide +kernel
  have := h ⟨c.toNat, c.toNat_lt⟩
  simpa [hiD, loD] using this
theorem prs_cons (c d : UInt8) (r : List UInt8) (m : Nat) : prs (c :: d :: r) (m + 1) = oct c d :: prs r m := by
  unfold prs
  rw [List.range_succ_eq_map, List.map_cons, List.map_map]
  refine List.cons_eq_cons.2 ⟨rfl, ?_⟩
  apply List.map_congr_left
  intro i _
  show oct ((c :: d :: r).getD (2 * (i + 1)) 0) ((c :: d :: r).getD (2 * (i + 1) + 1) 0) = _
  rw [show 2 * (i + 1) = 2 * i + 1 + 1 by omega, show 2 * i + 1 + 1 + 1 = 2 * i + 1 + 1 + 1 from rfl]
  rfl
theorem prs_hexF : ∀ l : List UInt8, prs (hexF l) l.length = l
  | [] => rfl
  | c :: r => by rw [hexF, List.length_cons, prs_cons, oct_back, prs_hexF r]
theorem hexF_digit : ∀ (l : List UInt8) (c : UInt8), c ∈ hexF l → ∃ d, c = sgn d
  | [], c, h => by cases h
  | x :: r, c, h => by
    rw [hexF] at h
    rcases List.mem_cons.1 h with rfl | h
    · exact ⟨_, rfl⟩
    · rcases List.mem_cons.1 h with rfl | h
      · exact ⟨_, rfl⟩
      · exact hexF_digit r c h
/-- Octets are read back from their digits. -/
theorem uh_hexF (l : List UInt8) : uh (hexF l) = (l, 0, ((2 * l.length : Nat) : Int)) := by
  rw [uh_good _ (fun j hj => ?_), hexF_length, if_neg (by omega), show 2 * l.length / 2 = l.length by omega, prs_hexF]
  obtain ⟨d, hd⟩ := hexF_digit l _ (List.getElem_mem hj)
  rw [hd, valI_sgn]
  have := d.isLt
  omega
theorem sgn_zero (d : Fin 16) : sgn d = 48 → d.val = 0 := by revert d; decide
/-- No 0 ahead. -/
theorem digs_lead (b n : Nat) (hb : 2 ≤ b) (hb2 : b ≤ 16) (hn : n < 18446744073709551616) : digs b n = [48] ∨ ∃ c r, digs b n = c :: r ∧ c ≠ 48 := by
  obtain ⟨t1, t2⟩ := top_spec b n hb hn
  unfold digs
  cases ht : top b n with
  | zero =>
    rw [ht] at t1
    have hd := dg_val b n 0 hb hb2
    rw [Nat.pow_zero, Nat.div_one, Nat.mod_eq_of_lt (by simpa using t1)] at hd
    by_cases h0 : n = 0
    · left
      have : dg b n 0 = 0 := Fin.ext (by rw [hd, h0]; rfl)
      show [sgn (dg b n 0)] = [48]
      rw [this]; rfl
    · right
      exact ⟨_, [], rfl, fun h => h0 (hd.symm.trans (sgn_zero _ h))⟩
  | succ k =>
    right
    rw [ht] at t1 t2
    have hge : b ^ (k + 1) ≤ n := by rcases t2 with h | h <;> omega
    have hpos : 0 < b ^ (k + 1) := Nat.pow_pos (by omega)
    have hd := dg_val b n (k + 1) hb hb2
    have h1 := Nat.div_pos hge hpos
    have h2 : n / b ^ (k + 1) < b := by rw [Nat.div_lt_iff_lt_mul hpos, ← Nat.pow_succ']; exact t1
    rw [Nat.mod_eq_of_lt h2] at hd
    exact ⟨sgn (dg b n (k + 1)), (dl b n k).map sgn, rfl, fun h => by have := sgn_zero _ h; omega⟩
theorem pi_dec {n v x : Int} (h0 : -9223372036854775808 ≤ n) (h1 : n ≤ 9223372036854775807) (h : PI (dec n) v x) : v = n ∧ x = 0 := by
  rcases h with ⟨n', h0', h1', hd, rfl, rfl⟩ | ⟨hn, _, _⟩
  · refine ⟨?_, rfl⟩
    by_cases hl : (dec n).head? = some 45
    · obtain ⟨t, ht⟩ : ∃ t, dec n = 45 :: t := by
        cases hc : dec n with
        | nil => rw [hc] at hl; cases hl
        | cons c t => rw [hc] at hl; exact ⟨t, by simp at hl; rw [hl]⟩
      obtain ⟨_, q1⟩ := parse_neg h0' h1' (hd.trans ht)
      obtain ⟨_, q2⟩ := parse_neg h0 h1 ht
      have := congrArg Prod.fst (q1.symm.trans q2)
      simp only at this
      omega
    · obtain ⟨_, q1⟩ := parse_pos h0' h1' hd hl
      obtain ⟨_, q2⟩ := parse_pos h0 h1 rfl hl
      exact congrArg Prod.fst (q1.symm.trans q2)
  · exact absurd rfl (hn _ h0 h1)
theorem dec_len (n : Int) (h0 : -9223372036854775808 ≤ n) (h1 : n ≤ 9223372036854775807) : (dec n).length ≤ 65 := by
  have := digs_len 10 n.natAbs (by omega) (by omega)
  unfold dec
  split
  · rw [List.length_cons]; omega
  · omega
theorem size_mk (l : List UInt8) : (⟨l.toArray⟩ : ByteArray).size = l.length := by show l.toArray.size = _; simp

set_option maxRecDepth 100000 in
set_option maxHeartbeats 1000000 in
theorem back_walk (n m b : Int) (v : Value) (l : List UInt8) (hn0 : -9223372036854775808 ≤ n) (hn1 : n ≤ 9223372036854775807) (h0 : 0 ≤ m) (h1 : m ≤ 18446744073709551615) (w : World) (hy : Bys w v l) (hl : l.length ≤ 140737488351232) :
    Calls Try.prog 5 #[.int .i64 n, .int .u64 m, .int .i64 b, v] w fun e w' => e = .returned (.bool true) ∧ Below w.heap.size w w' := by
  have HY := hide hy
  clear hy
  go_enter Try.func5, Try.ntmps5
  go_wp2_with fail
  refine (alive_any _).mono ?_
  rintro e w1 ⟨rfl, hB1⟩
  go_wp2_with fail
  refine (decimal_any n hn0 hn1 _).mono ?_
  rintro e w2 ⟨rfl, hB2⟩
  go_wp2_with fail
  refine (parseInt_any _ _ (by rw [size_mk]; have := dec_len n hn0 hn1; unfold maxLen; omega)).mono ?_
  rintro e w3 ⟨⟨v1, x1, hP, rfl⟩, hB3⟩
  obtain ⟨rfl, rfl⟩ := pi_dec hn0 hn1 hP
  clear hP
  have q2 := hB1.trans (hB2.mono hB1.size)
  have q3 := q2.trans (hB3.mono q2.size)
  have hY3 := HY.out.below q3
  have Q3 := hide q3
  clear hB1 hB2 hB3 q2 q3
  go_wp2_with fail
  refine (hex_any v l _ hY3 hl).mono ?_
  rintro e w4 ⟨rfl, hB4⟩
  go_wp2_with fail
  refine (unhex_any _ _ (by rw [size_mk, hexF_length]; omega)).mono ?_
  rintro e w5 ⟨x, rfl, hown5, hB5⟩
  rw [show uh (⟨(hexF l).toArray⟩ : ByteArray).data.toList = (l, 0, ((2 * l.length : Nat) : Int)) from uh_hexF l] at hown5 ⊢
  have hY5 := (hY3.below hB4).below hB5
  have q5 := hB4.trans (hB5.mono hB4.size)
  go_wp2_with fail
  refine (same_any x v l _ (Bys.of_owns hown5) hY5 (by unfold maxLen; omega)).mono ?_
  rintro e w6 ⟨rfl, hB6⟩
  have q6 := q5.trans (hB6.mono q5.size)
  have Q6 : Hid (Below w.heap.size w w6) := Q3.out.trans (q6.mono Q3.out.size)
  clear q5 q6 hB4 hB5 hB6 hY5 hY3 hown5 Q3
  by_cases hb : 2 ≤ b ∧ b ≤ 16
  · obtain ⟨hb1, hb2⟩ := hb
    go_wp2_with fail
    refine (base_yes m b h0 h1 hb1 hb2 _).mono ?_
    rintro e w7 ⟨rfl, hB7⟩
    have HB := hide (parseB_digs b.toNat m.toNat (by omega) (by omega) (by omega))
    have HL := hide (digs_lead b.toNat m.toNat (by omega) (by omega) (by omega))
    have hlen := digs_len b.toNat m.toNat (by omega) (by omega)
    have hne := digs_ne b.toNat m.toNat
    rw [Int.toNat_of_nonneg (by omega), Int.toNat_of_nonneg h0] at HB
    generalize digs b.toNat m.toNat = D at *
    go_wp2_with fail
    refine (parseBase_any _ b _ (by rw [size_mk]; unfold maxLen; omega)).mono ?_
    rintro e w8 ⟨rfl, rfl⟩
    rw [show parseB b (⟨D.toArray⟩ : ByteArray).data.toList = (m, 0, (D.length : Int)) from HB.out]
    have fin := Q6.out.trans (hB7.mono Q6.out.size)
    have FIN := hide fin
    clear fin hB7 Q6 HB
    rcases HL.out with rfl | ⟨c, r, rfl, hc⟩
    · go_wp2
      go_ret
      exact ⟨rfl, FIN.out⟩
    · have hc' : ((c.toNat : Int) != 48) = true := by
        rw [bne_iff_ne]
        intro h
        exact hc (UInt8.toNat_inj.1 (show c.toNat = 48 by omega))
      go_wp2
      go_ret
      refine ⟨ret_bool (a := (c == 48 && r.isEmpty || ((⟨(c :: r).toArray⟩ : ByteArray)[0]'(by rw [size_mk]; simp)).toNat != (48 : Int))) ?_, FIN.out⟩
      rw [Bool.or_eq_true]
      exact .inr hc'
  · go_wp2_with fail
    refine (base_no m b (by omega) _).mono ?_
    rintro e w7 ⟨rfl, rfl⟩
    go_wp2
    go_ret
    exact ⟨rfl, Q6.out⟩
end Go.Proofs.Ytkmkgnabfdeahaa

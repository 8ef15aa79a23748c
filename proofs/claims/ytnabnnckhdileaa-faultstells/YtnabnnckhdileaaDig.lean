/- Plain facts on a number's digits to a base: which they are, how many, and that they are read back. -/
import Derived.Test.YtnabnnckhdileaaMath
namespace Go.Proofs.Ytnabnnckhdileaa

/-- The digit of n at b^j. -/
def dg (b n j : Nat) : Fin 16 := Fin.ofNat 16 (n / b ^ j % b)
/-- The digits of n from b^k down. -/
def dl (b n : Nat) : Nat → List (Fin 16)
  | 0 => [dg b n 0]
  | k + 1 => dg b n (k + 1) :: dl b n k
def topF (b n : Nat) : Nat → Nat → Nat
  | 0, k => k
  | f + 1, k => if n < b ^ (k + 1) then k else topF b n f (k + 1)
/-- The exponent of the highest digit. -/
def top (b n : Nat) : Nat := topF b n 64 0
def sgn (d : Fin 16) : UInt8 := #[48, 49, 50, 51, 52, 53, 54, 55, 56, 57, 97, 98, 99, 100, 101, 102][d.val]
/-- The text of n to the base b. -/
def digs (b n : Nat) : List UInt8 := (dl b n (top b n)).map sgn

theorem topF_spec (b n : Nat) (hb : 2 ≤ b) : ∀ (f k : Nat), n < b ^ (k + f) → (k = 0 ∨ b ^ k ≤ n) → n < b ^ (topF b n f k + 1) ∧ (topF b n f k = 0 ∨ b ^ topF b n f k ≤ n)
  | 0, k, h1, h2 => by
    refine ⟨?_, h2⟩
    show n < b ^ (k + 1)
    rw [Nat.add_zero] at h1
    exact Nat.lt_of_lt_of_le h1 (Nat.pow_le_pow_right (by omega) (by omega))
  | f + 1, k, h1, h2 => by
    unfold topF
    by_cases h : n < b ^ (k + 1)
    · rw [if_pos h]; exact ⟨h, h2⟩
    · rw [if_neg h]
      exact topF_spec b n hb f (k + 1) (by rw [show k + 1 + f = k + (f + 1) by omega]; exact h1) (.inr (by omega))
theorem pow64 (b : Nat) (hb : 2 ≤ b) : 18446744073709551616 ≤ b ^ 64 := by
  have := Nat.pow_le_pow_left hb 64
  exact this
theorem top_spec (b n : Nat) (hb : 2 ≤ b) (hn : n < 18446744073709551616) : n < b ^ (top b n + 1) ∧ (top b n = 0 ∨ b ^ top b n ≤ n) := by
  refine topF_spec b n hb 64 0 ?_ (.inl rfl)
  have := pow64 b hb
  rw [Nat.zero_add]
  omega
theorem top_unique (b n k : Nat) (hb : 2 ≤ b) (hn : n < 18446744073709551616) (h1 : n < b ^ (k + 1)) (h2 : k = 0 ∨ b ^ k ≤ n) : top b n = k := by
  obtain ⟨t1, t2⟩ := top_spec b n hb hn
  rcases Nat.lt_trichotomy (top b n) k with h | h | h
  · exfalso
    have := Nat.pow_le_pow_right (n := b) (by omega) (show top b n + 1 ≤ k by omega)
    rcases h2 with h2 | h2 <;> omega
  · exact h
  · exfalso
    have := Nat.pow_le_pow_right (n := b) (by omega) (show k + 1 ≤ top b n by omega)
    rcases t2 with t2 | t2 <;> omega
theorem top_lt (b n : Nat) (hb : 2 ≤ b) (hn : n < 18446744073709551616) : top b n < 64 := by
  obtain ⟨_, t2⟩ := top_spec b n hb hn
  rcases t2 with t2 | t2
  · omega
  · have h2 := pow64 b hb
    have : b ^ top b n < b ^ 64 := by omega
    exact (Nat.pow_lt_pow_iff_right (by omega)).1 this
theorem dl_length (b n : Nat) : ∀ k, (dl b n k).length = k + 1
  | 0 => rfl
  | k + 1 => by rw [dl, List.length_cons, dl_length b n k]
theorem dg_val (b n j : Nat) (hb : 2 ≤ b) (hb2 : b ≤ 16) : (dg b n j).val = n / b ^ j % b := by
  show n / b ^ j % b % 16 = _
  have := Nat.mod_lt (n / b ^ j) (show 0 < b by omega)
  exact Nat.mod_eq_of_lt (by omega)
theorem digs_length (b n : Nat) : (digs b n).length = top b n + 1 := by rw [digs, List.length_map, dl_length]
theorem mod_div (b n j : Nat) : n % b ^ (j + 1) / b ^ j = n / b ^ j % b := by
  rw [Nat.pow_succ, Nat.mod_mul_right_div_self]
theorem mod_mod_pow (b n j : Nat) : n % b ^ (j + 1) % b ^ j = n % b ^ j := by
  rw [Nat.pow_succ]; exact Nat.mod_mul_right_mod _ _ _

theorem valI_sgn (d : Fin 16) : valI ((sgn d).toNat : Int) = (d.val : Int) := by
  revert d; decide
/-- The digits from b^k down, read behind the number m: m * b^(k+1) and what they are. -/
theorem pb_dl (b n : Nat) (hb : 2 ≤ b) (hb2 : b ≤ 16) : ∀ (k m : Nat) (i : Int), m * b ^ (k + 1) + n % b ^ (k + 1) ≤ 18446744073709551615 →
    pb b ((dl b n k).map sgn) m i = (((m * b ^ (k + 1) + n % b ^ (k + 1) : Nat) : Int), 0, i + (k + 1 : Nat))
  | 0, m, i, h => by
    have hd := dg_val b n 0 hb hb2
    rw [Nat.pow_zero, Nat.div_one] at hd
    have hlt := Nat.mod_lt n (show 0 < b by omega)
    rw [Nat.zero_add, Nat.pow_one] at h ⊢
    show pb b [sgn (dg b n 0)] m i = _
    have hq : (m : Int) ≤ (18446744073709551615 - ((n % b : Nat) : Int)) / (b : Int) := by
      rw [Int.le_ediv_iff_mul_le (by omega)]
      have : ((m * b + n % b : Nat) : Int) ≤ 18446744073709551615 := by omega
      rw [Int.natCast_add, Int.natCast_mul] at this
      omega
    rw [pb_cons _ _ _ _ _ (by rw [valI_sgn, hd]; omega) (by rw [valI_sgn, hd]; omega), pb, valI_sgn, hd]
    simp
  | k + 1, m, i, h => by
    have hd := dg_val b n (k + 1) hb hb2
    have hlt := Nat.mod_lt (n / b ^ (k + 1)) (show 0 < b by omega)
    have hpos : 0 < b ^ (k + 1) := Nat.pow_pos (by omega)
    have e1 : n % b ^ (k + 1 + 1) = n / b ^ (k + 1) % b * b ^ (k + 1) + n % b ^ (k + 1) := by
      rw [Nat.pow_succ b (k + 1), Nat.mod_mul, Nat.add_comm, Nat.mul_comm]
    have e2 : m * b ^ (k + 1 + 1) = m * b * b ^ (k + 1) := by rw [Nat.pow_succ b (k + 1), Nat.mul_assoc, Nat.mul_comm b]
    have e3 : (m * b + n / b ^ (k + 1) % b) * b ^ (k + 1) + n % b ^ (k + 1) = m * b ^ (k + 1 + 1) + n % b ^ (k + 1 + 1) := by
      rw [e1, e2, Nat.add_mul, Nat.add_assoc]
    have h' : (m * b + n / b ^ (k + 1) % b) * b ^ (k + 1) + n % b ^ (k + 1) ≤ 18446744073709551615 := by rw [e3]; exact h
    have h4 : m * b + n / b ^ (k + 1) % b ≤ 18446744073709551615 := by
      exact Nat.le_trans (Nat.le_mul_of_pos_right (m * b + n / b ^ (k + 1) % b) hpos) (Nat.le_trans (Nat.le_add_right _ _) h')
    have hq : (m : Int) ≤ (18446744073709551615 - ((n / b ^ (k + 1) % b : Nat) : Int)) / (b : Int) := by
      rw [Int.le_ediv_iff_mul_le (by omega)]
      have : ((m * b + n / b ^ (k + 1) % b : Nat) : Int) ≤ 18446744073709551615 := by omega
      rw [Int.natCast_add, Int.natCast_mul] at this
      omega
    show pb b (sgn (dg b n (k + 1)) :: (dl b n k).map sgn) m i = _
    rw [pb_cons _ _ _ _ _ (by rw [valI_sgn, hd]; omega) (by rw [valI_sgn, hd]; omega), valI_sgn, hd]
    have := pb_dl b n hb hb2 k (m * b + n / b ^ (k + 1) % b) (i + 1) h'
    rw [Int.natCast_add, Int.natCast_mul] at this
    rw [this, e3]
    refine Prod.ext rfl (Prod.ext rfl ?_)
    show i + 1 + ((k + 1 : Nat) : Int) = i + ((k + 1 + 1 : Nat) : Int)
    omega
theorem digs_ne (b n : Nat) : digs b n ≠ [] := by
  intro h
  have := digs_length b n
  rw [h] at this
  simp at this
/-- A number's digits are read back. -/
theorem parseB_digs (b n : Nat) (hb : 2 ≤ b) (hb2 : b ≤ 16) (hn : n < 18446744073709551616) : parseB b (digs b n) = ((n : Int), 0, ((digs b n).length : Int)) := by
  obtain ⟨t1, _⟩ := top_spec b n hb hn
  rw [parseB, if_neg (by omega), if_neg (digs_ne b n)]
  have := pb_dl b n hb hb2 (top b n) 0 0 (by rw [Nat.mod_eq_of_lt t1]; omega)
  rw [Nat.mod_eq_of_lt t1, Nat.zero_mul, Nat.zero_add] at this
  rw [digs_length]
  simpa [digs] using this
end Go.Proofs.Ytnabnnckhdileaa

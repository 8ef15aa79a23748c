/- Buffers' modes, as values: which writes a text makes, how many reads there are. -/
import Derived.Test.YtibnpeipndkciaaLeaf
namespace Go.Proofs.Ytibnpeipndkciaa

/-- Why there is no buffer of that mode and size. -/
def bref (mode size : Int) : Int := if mode < 1 ∨ 3 < mode then 1 else if size < 1 ∨ 65536 < size then 4 else 0
/-- How many bytes one raw call moves at most. -/
def brm (mode size : Int) : Int := if mode = 1 then 1 else size
/-- Up to the first newline, with it, or all. -/
def lnw : List UInt8 → Nat
  | [] => 0
  | c :: l => if c = 10 then 1 else 1 + lnw l
/-- How long the writes are; n bytes are held. -/
def rwr (ln : Bool) (m : Nat) : Nat → List UInt8 → List Nat
  | n, [] => if 0 < n then [n] else []
  | n, c :: l => if n + 1 = m ∨ (ln = true ∧ c = 10) then (n + 1) :: rwr ln m 0 l else rwr ln m (n + 1) l
/-- The first piece of at most r bytes. -/
def chk (ln : Bool) (r : Nat) (l : List UInt8) : Nat := if ln = true then lnw (l.take r) else min r l.length
theorem lnw_le (l : List UInt8) : lnw l ≤ l.length := by
  induction l with
  | nil => exact Nat.le_refl _
  | cons c l ih =>
    unfold lnw
    split
    · simp
    · simp; omega
theorem lnw_pos (l : List UInt8) (h : l ≠ []) : 1 ≤ lnw l := by
  cases l with
  | nil => contradiction
  | cons c l =>
    unfold lnw
    split <;> omega
theorem chk_pos (ln : Bool) (r : Nat) (l : List UInt8) (hr : 1 ≤ r) (h : l ≠ []) : 1 ≤ chk ln r l ∧ chk ln r l ≤ r ∧ chk ln r l ≤ l.length := by
  have hl : 0 < l.length := List.length_pos_iff.2 h
  unfold chk
  split
  · have h1 := lnw_le (l.take r)
    rw [List.length_take] at h1
    refine ⟨lnw_pos _ ?_, by omega, by omega⟩
    intro e
    have := congrArg List.length e
    rw [List.length_take, List.length_nil] at this
    omega
  · omega
theorem chk_one (ln : Bool) (c : UInt8) (l : List UInt8) : chk ln 1 (c :: l) = 1 := by
  unfold chk
  split
  · simp [lnw]
  · rw [List.length_cons]; omega
theorem chk_nl (r : Nat) (l : List UInt8) (hr : 1 ≤ r) : chk true r (10 :: l) = 1 := by
  obtain ⟨k, rfl⟩ : ∃ k, r = k + 1 := ⟨r - 1, by omega⟩
  simp [chk, lnw]
theorem chk_cons (ln : Bool) (r : Nat) (c : UInt8) (l : List UInt8) (h : ¬ (ln = true ∧ c = 10)) : chk ln (r + 1) (c :: l) = 1 + chk ln r l := by
  unfold chk
  split
  · rename_i e
    rw [List.take_succ_cons]
    have : ¬ c = 10 := fun e' => h ⟨e, e'⟩
    simp only [lnw, if_neg this]
  · simp; omega
/-- A text's writes: the first piece, and the writes of what is behind it. -/
theorem rwr_step (ln : Bool) (m : Nat) : ∀ (l : List UInt8) (n : Nat), n < m → l ≠ [] → rwr ln m n l = (n + chk ln (m - n) l) :: rwr ln m 0 (l.drop (chk ln (m - n) l)) := by
  intro l
  induction l with
  | nil => intro n _ h; contradiction
  | cons c l ih =>
    intro n hn _
    rw [show rwr ln m n (c :: l) = if n + 1 = m ∨ (ln = true ∧ c = 10) then (n + 1) :: rwr ln m 0 l else rwr ln m (n + 1) l from rfl]
    by_cases hc : n + 1 = m ∨ (ln = true ∧ c = 10)
    · rw [if_pos hc]
      have e : chk ln (m - n) (c :: l) = 1 := by
        rcases hc with e | ⟨e1, e2⟩
        · rw [show m - n = 1 by omega]; exact chk_one ln c l
        · subst e1 e2; exact chk_nl _ l (by omega)
      rw [e]; rfl
    · rw [if_neg hc]
      have hc2 : ¬ (ln = true ∧ c = 10) := fun e => hc (.inr e)
      obtain ⟨r, hr⟩ : ∃ r, m - n = r + 1 := ⟨m - n - 1, by omega⟩
      rw [hr, chk_cons ln r c l hc2]
      by_cases hl : l = []
      · subst hl
        have e0 : chk ln r [] = 0 := by unfold chk; split <;> simp [lnw]
        rw [e0]
        simp [rwr]
      · rw [ih (n + 1) (by omega) hl, show m - (n + 1) = r by omega, Nat.add_comm 1 (chk ln r l), List.drop_succ_cons]
        congr 1
        omega
theorem rwr_nil (ln : Bool) (m : Nat) : rwr ln m 0 [] = [] := rfl
/-- One byte more. -/
theorem rwr_snoc (ln : Bool) (m : Nat) : ∀ (l : List UInt8) (n : Nat), n < m → ∃ k p, k < m ∧ (∀ r, rwr ln m n (l ++ r) = p ++ rwr ln m k r) ∧ n + l.length = p.sum + k := by
  intro l
  induction l with
  | nil => intro n hn; exact ⟨n, [], hn, fun r => rfl, by simp⟩
  | cons c l ih =>
    intro n hn
    by_cases hc : n + 1 = m ∨ (ln = true ∧ c = 10)
    · obtain ⟨k, p, h1, h2, h3⟩ := ih 0 (by omega)
      refine ⟨k, (n + 1) :: p, h1, fun r => ?_, ?_⟩
      · show rwr ln m n (c :: (l ++ r)) = _
        rw [rwr, if_pos hc, h2 r]; rfl
      · simp only [List.length_cons, List.sum_cons]; omega
    · obtain ⟨k, p, h1, h2, h3⟩ := ih (n + 1) (by omega)
      refine ⟨k, p, h1, fun r => ?_, ?_⟩
      · show rwr ln m n (c :: (l ++ r)) = _
        rw [rwr, if_neg hc, h2 r]
      · simp only [List.length_cons]; omega
theorem rwr_sum (ln : Bool) (m : Nat) (l : List UInt8) (n : Nat) (hn : n < m) : (rwr ln m n l).sum = n + l.length := by
  obtain ⟨k, p, h1, h2, h3⟩ := rwr_snoc ln m l n hn
  have := h2 []
  rw [List.append_nil] at this
  rw [this, h3, List.sum_append]
  congr 1
  unfold rwr
  split
  · simp
  · simp; omega
theorem rwr_each (ln : Bool) (m : Nat) : ∀ (l : List UInt8) (n : Nat), n < m → ∀ x ∈ rwr ln m n l, 1 ≤ x ∧ x ≤ m := by
  intro l
  induction l with
  | nil =>
    intro n hn x hx
    unfold rwr at hx
    split at hx
    · simp at hx; omega
    · simp at hx
  | cons c l ih =>
    intro n hn x hx
    unfold rwr at hx
    split at hx
    · rcases List.mem_cons.1 hx with e | e
      · omega
      · exact ih 0 (by omega) x e
    · rename_i h
      exact ih (n + 1) (by have : ¬ n + 1 = m := fun e => h (.inl e); omega) x hx
theorem rwr_len_le (ln : Bool) (m : Nat) (l : List UInt8) (n : Nat) (hn : n < m) : (rwr ln m n l).length ≤ n + l.length := by
  rw [← rwr_sum ln m l n hn]
  have := rwr_each ln m l n hn
  generalize rwr ln m n l = q at *
  induction q with
  | nil => simp
  | cons a q ih =>
    have h1 := this a (by simp)
    have h2 := ih fun x hx => this x (by simp [hx])
    simp only [List.length_cons, List.sum_cons]
    omega
/-- Full: all but the last are whole. -/
theorem rwr_full (m : Nat) : ∀ (l : List UInt8) (n : Nat), n < m → (rwr false m n l).length = (n + l.length + (m - 1)) / m := by
  intro l
  induction l with
  | nil =>
    intro n hn
    unfold rwr
    simp only [List.length_nil, Nat.add_zero]
    split
    · symm; rw [List.length_singleton]; exact Nat.div_eq_of_lt_le (by omega) (by omega)
    · symm; rw [List.length_nil]; exact Nat.div_eq_of_lt (by omega)
  | cons c l ih =>
    intro n hn
    unfold rwr
    by_cases h : n + 1 = m
    · rw [if_pos (.inl h), List.length_cons, ih 0 (by omega), List.length_cons]
      rw [show n + (l.length + 1) + (m - 1) = (0 + l.length + (m - 1)) + m by omega, Nat.add_div_right _ (by omega)]
    · rw [if_neg (by simp [h]), ih (n + 1) (by omega), List.length_cons]
      congr 1
      omega
/-- How many pieces there are. -/
def pcs (n m : Nat) : Nat := (n + m - 1) / m
theorem pcs_of {n m c : Nat} (hm : 1 ≤ m) (h : (c = 0 ∧ n = 0) ∨ (1 ≤ c ∧ (c - 1) * m < n ∧ n ≤ c * m)) : pcs n m = c := by
  unfold pcs
  rcases h with ⟨rfl, rfl⟩ | ⟨h1, h2, h3⟩
  · exact Nat.div_eq_of_lt (by omega)
  · obtain ⟨k, rfl⟩ : ∃ k, c = k + 1 := ⟨c - 1, by omega⟩
    rw [Nat.add_sub_cancel] at h2
    refine Nat.div_eq_of_lt_le ?_ ?_
    · rw [Nat.add_mul]; omega
    · rw [Nat.add_mul, Nat.add_mul] at *; omega
theorem pcs_ge {n m : Nat} (hm : 1 ≤ m) : n ≤ pcs n m * m := by
  unfold pcs
  have := Nat.div_add_mod (n + m - 1) m
  have h2 := Nat.mod_lt (n + m - 1) (show m > 0 by omega)
  rw [Nat.mul_comm] at this
  omega
theorem pcs_le {n m : Nat} (hm : 1 ≤ m) : pcs n m ≤ n := by
  unfold pcs
  refine (Nat.div_le_iff_le_mul_add_pred (by omega)).2 ?_
  have : n ≤ m * n := Nat.le_mul_of_pos_left _ (by omega)
  omega
/-- How many reads there are. -/
def rds (m n have_ : Nat) : Nat := if have_ < n then pcs have_ m + 1 else pcs n m
end Go.Proofs.Ytibnpeipndkciaa

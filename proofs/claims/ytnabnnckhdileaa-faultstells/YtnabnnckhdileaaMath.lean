/- Plain facts on digits: a number's digits to a base, and digits read as a number. -/
import Derived.Test.YtnabnnckhdileaaLeaf
namespace Go.Proofs.Ytnabnnckhdileaa

/-- Digits read as a number, from the left: the number, the error's number, the place. -/
def pb (b : Int) : List UInt8 → Int → Int → Int × Int × Int
  | [], n, i => (n, 0, i)
  | c :: r, n, i => if b ≤ valI c.toNat then (0, 11, i) else if (18446744073709551615 - valI c.toNat) / b < n then (0, 4, i) else pb b r (n * b + valI c.toNat) (i + 1)

/-- ParseBase, as the page says it. -/
def parseB (b : Int) (l : List UInt8) : Int × Int × Int :=
  if ¬ (2 ≤ b ∧ b ≤ 16) then (0, 4, 0) else if l = [] then (0, 8, 0) else pb b l 0 0

theorem pb_cons (b : Int) (c : UInt8) (r : List UInt8) (n i : Int) (h1 : ¬ b ≤ valI c.toNat) (h2 : ¬ (18446744073709551615 - valI c.toNat) / b < n) :
    pb b (c :: r) n i = pb b r (n * b + valI c.toNat) (i + 1) := by
  rw [pb, if_neg h1, if_neg h2]
theorem pb_digit (b : Int) (c : UInt8) (r : List UInt8) (n i : Int) (h1 : b ≤ valI c.toNat) : pb b (c :: r) n i = (0, 11, i) := by
  rw [pb, if_pos h1]
theorem pb_range (b : Int) (c : UInt8) (r : List UInt8) (n i : Int) (h1 : ¬ b ≤ valI c.toNat) (h2 : (18446744073709551615 - valI c.toNat) / b < n) :
    pb b (c :: r) n i = (0, 4, i) := by
  rw [pb, if_neg h1, if_pos h2]
theorem drop_at (s : ByteArray) (k : Nat) (h : k < s.size) : s.data.toList.drop k = s[k] :: s.data.toList.drop (k + 1) := by
  rw [List.drop_eq_getElem_cons (by simpa using h)]; rfl
theorem drop_end (s : ByteArray) (k : Nat) (h : s.size ≤ k) : s.data.toList.drop k = [] := by
  rw [List.drop_eq_nil_iff]; simpa using h
/-- A step's number stays within 2^64 - 1. -/
theorem step_fits {n b d : Int} (hb : 0 < b) (h : ¬ (18446744073709551615 - d) / b < n) : n * b + d ≤ 18446744073709551615 := by
  have h2 : n ≤ (18446744073709551615 - d) / b := by omega
  have h3 := Int.mul_le_of_le_ediv hb h2
  omega
end Go.Proofs.Ytnabnnckhdileaa

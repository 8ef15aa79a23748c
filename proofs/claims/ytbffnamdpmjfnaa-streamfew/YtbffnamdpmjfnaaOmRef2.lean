/- Openmode: the reference's Parse. -/
import Derived.Test.YtbffnamdpmjfnaaOmRef
namespace Go.Proofs.Ytbffnamdpmjfnaa
open Go.RowKit

/-- Does c stand behind the first byte, ahead of the place k? -/
def sn (l : List UInt8) (c : UInt8) (k : Nat) : Bool := (List.range k).any fun j => decide (1 ≤ j) && decide (l.getD j 0 = c)
theorem sn_succ (l : List UInt8) (c : UInt8) (k : Nat) (h : 1 ≤ k) : sn l c (k + 1) = (sn l c k || decide (l.getD k 0 = c)) := by
  simp [sn, List.range_succ, h]
theorem sn_one (l : List UInt8) (c : UInt8) : sn l c 1 = false := by simp [sn]
/-- The mode that the first i bytes say, where the first one is number f. -/
def moI (f : Nat) (l : List UInt8) (i : Nat) : Mo := mo f (sn l 43 i) (sn l 98 i) (sn l 101 i) (sn l 120 i)
def lead : Nat → UInt8
  | 0 => 114
  | 1 => 119
  | _ => 97
theorem moI_one (f : Nat) (l : List UInt8) : moI f l 1 = mo f false false false false := by simp only [moI, sn_one]
theorem moI_step {f : Nat} (hf : f < 3) {l : List UInt8} {i : Nat} : stepM (moI f l i) (l.getD i 0) = nextM f (sn l 43 i) (sn l 98 i) (sn l 101 i) (sn l 120 i) (l.getD i 0) := step_next f hf _ _ _ _ _
theorem moI_twice {f : Nat} (hf : f < 3) {l : List UInt8} {i : Nat} (h : sn l (l.getD i 0) i = true) : stepM (moI f l i) (l.getD i 0) = none := by
  rw [moI_step hf]
  generalize l.getD i 0 = c at *
  unfold nextM
  by_cases h1 : c = 43
  · subst h1; simp [h]
  by_cases h2 : c = 98
  · subst h2; simp [h]
  by_cases h3 : c = 101
  · subst h3; simp [h]
  by_cases h4 : c = 120
  · subst h4; simp [h]
  simp [h1, h2, h3, h4]
theorem moI_plus {f : Nat} (hf : f < 3) {l : List UInt8} {i : Nat} (hi : 1 ≤ i) (h : sn l (l.getD i 0) i = false) (hc : l.getD i 0 = 43) : stepM (moI f l i) (l.getD i 0) = some (moI f l (i + 1)) := by
  rw [moI_step hf]
  rw [hc] at h ⊢
  simp only [moI, sn_succ _ _ _ hi, hc, nextM, h]
  simp
theorem moI_b {f : Nat} (hf : f < 3) {l : List UInt8} {i : Nat} (hi : 1 ≤ i) (h : sn l (l.getD i 0) i = false) (hc : l.getD i 0 = 98) : stepM (moI f l i) (l.getD i 0) = some (moI f l (i + 1)) := by
  rw [moI_step hf]
  rw [hc] at h ⊢
  simp only [moI, sn_succ _ _ _ hi, hc, nextM, h]
  simp
theorem moI_e {f : Nat} (hf : f < 3) {l : List UInt8} {i : Nat} (hi : 1 ≤ i) (h : sn l (l.getD i 0) i = false) (hc : l.getD i 0 = 101) : stepM (moI f l i) (l.getD i 0) = some (moI f l (i + 1)) := by
  rw [moI_step hf]
  rw [hc] at h ⊢
  simp only [moI, sn_succ _ _ _ hi, hc, nextM, h]
  simp
theorem moI_x {l : List UInt8} {i : Nat} (hi : 1 ≤ i) (h : sn l (l.getD i 0) i = false) (hc : l.getD i 0 = 120) : stepM (moI 1 l i) (l.getD i 0) = some (moI 1 l (i + 1)) := by
  rw [moI_step (by decide)]
  rw [hc] at h ⊢
  simp only [moI, sn_succ _ _ _ hi, hc, nextM, h]
  simp
theorem moI_nox {f : Nat} (hf : f < 3) (h1 : f ≠ 1) {l : List UInt8} {i : Nat} (hc : l.getD i 0 = 120) : stepM (moI f l i) (l.getD i 0) = none := by
  rw [moI_step hf]
  rw [hc]
  simp [nextM, h1]
theorem moI_other {f : Nat} (hf : f < 3) {l : List UInt8} {i : Nat} (h1 : l.getD i 0 ≠ 43) (h2 : l.getD i 0 ≠ 98) (h3 : l.getD i 0 ≠ 101) (h4 : l.getD i 0 ≠ 120) : stepM (moI f l i) (l.getD i 0) = none := by
  rw [moI_step hf]
  simp only [nextM, h1, h2, h3, h4, if_false]
theorem moI_begun {f : Nat} (hf : f < 3) (l : List UInt8) (i : Nat) : isNone (moI f l i) = false := by
  match f, hf with
  | 0, _ => simp [moI, mo, isNone]
  | 1, _ => simp [moI, mo, isNone]
  | 2, _ => simp [moI, mo, isNone]
theorem prs_next {m : Mo} {i : Nat} {l : List UInt8} (hi : i < l.length) {m' : Mo} (h : stepM m (l.getD i 0) = some m') : prs m i (l.drop i) = prs m' (i + 1) (l.drop (i + 1)) := by
  rw [drop_getD hi]; simp only [prs, h]
theorem prs_stop {m : Mo} {i : Nat} {l : List UInt8} (hi : i < l.length) (h : stepM m (l.getD i 0) = none) : prs m i (l.drop i) = (mo0, 91, i) := by
  rw [drop_getD hi]; simp only [prs, h]
theorem at_getD {s : ByteArray} {k : Nat} (h : k < s.size) : s[k]'h = s.data.toList.getD k 0 := by
  rw [List.getD_eq_getElem?_getD, List.getElem?_eq_getElem (by simpa using h)]
  simp [ByteArray.getElem_eq_getElem_data]
theorem u8_eq (a b : UInt8) : decide (a = b) = ((a.toNat : Int) == (b.toNat : Int)) := by
  by_cases h : a = b
  · subst h; simp
  · rw [decide_eq_false h]
    symm
    simp only [beq_eq_false_iff_ne, ne_eq]
    intro e
    exact h (UInt8.toNat_inj.1 (by omega))
theorem u8_ne {a b : UInt8} (h : a ≠ b) : ((a.toNat : Int) == (b.toNat : Int)) = false := by
  simp only [beq_eq_false_iff_ne, ne_eq]
  intro e
  exact h (UInt8.toNat_inj.1 (by omega))

theorem turned_set (W : World) (b j : Nat) (x : Bool) : Turned (fun k => k = b) W (W.setCell ⟨b, j, none⟩ (.bool x)) := Turned.set (S := fun k => k = b) (Turned.refl _ _) (.inl rfl)
theorem moI_pl {f : Nat} (hf : f < 3) {l : List UInt8} {i : Nat} (hi : 1 ≤ i) (hc : l.getD i 0 = 43) : moI f l (i + 1) = { moI f l i with rd := true, wr := true } := by
  simp only [moI, sn_succ _ _ _ hi, hc]
  match f, hf with
  | 0, _ => simp [mo]
  | 1, _ => simp [mo]
  | 2, _ => simp [mo]
theorem moI_bi {f : Nat} (hf : f < 3) {l : List UInt8} {i : Nat} (hi : 1 ≤ i) (hc : l.getD i 0 = 98) : moI f l (i + 1) = { moI f l i with bi := true } := by
  simp only [moI, sn_succ _ _ _ hi, hc]
  match f, hf with
  | 0, _ => simp [mo]
  | 1, _ => simp [mo]
  | 2, _ => simp [mo]
theorem moI_ma {f : Nat} (hf : f < 3) {l : List UInt8} {i : Nat} (hi : 1 ≤ i) (hc : l.getD i 0 = 101) : moI f l (i + 1) = { moI f l i with ma := true } := by
  simp only [moI, sn_succ _ _ _ hi, hc]
  match f, hf with
  | 0, _ => simp [mo]
  | 1, _ => simp [mo]
  | 2, _ => simp [mo]
theorem moI_ex {f : Nat} (hf : f < 3) {l : List UInt8} {i : Nat} (hi : 1 ≤ i) (hc : l.getD i 0 = 120) : moI f l (i + 1) = { moI f l i with ex := true } := by
  simp only [moI, sn_succ _ _ _ hi, hc]
  match f, hf with
  | 0, _ => simp [mo]
  | 1, _ => simp [mo]
  | 2, _ => simp [mo]

end Go.Proofs.Ytbffnamdpmjfnaa

/- A word of a text: Cut at a blank, wordAt. -/
import Derived.Test.YtnabnnckhdileaaFPrint
import Derived.Lib.IndexLaws
namespace Go.Proofs.Ytnabnnckhdileaa
open Go.RowKit

/-- The first word of a text that begins with one. -/
def wd (l : List UInt8) : List UInt8 := l.takeWhile (· != 32)
theorem wd_all {l : List UInt8} (h : Lib.indexByte l 32 = -1) : wd l = l := by
  have h1 := Lib.indexByte_none h
  unfold wd
  have : ∀ x ∈ l, (x != 32) = true := fun x hx => by
    obtain ⟨k, hk, rfl⟩ := List.getElem_of_mem hx
    have := h1 k
    rw [List.getElem?_eq_getElem hk] at this
    simpa using this
  clear h h1
  induction l with
  | nil => rfl
  | cons x r ih => rw [List.takeWhile_cons, if_pos (this x (by simp)), ih fun y hy => this y (by simp [hy])]
theorem wd_take : ∀ (l : List UInt8) (o : Nat), o ≤ l.length → (∀ k, k < o → l[k]? ≠ some 32) → (o = l.length ∨ l[o]? = some 32) → wd l = l.take o := by
  intro l
  induction l with
  | nil => intro o _ _ _; simp [wd]
  | cons x r ih =>
    intro o ho h1 h2
    cases o with
    | zero =>
      have : x = 32 := by
        rcases h2 with h | h
        · simp at h
        · simpa using h
      simp [wd, this]
    | succ o =>
      have hx : x ≠ 32 := by have := h1 0 (by omega); simpa using this
      have := ih o (by simpa using ho) (fun k hk => by have := h1 (k + 1) (by omega); simpa using this) (by simpa using h2)
      simp only [wd] at this ⊢
      rw [List.takeWhile_cons, if_pos (by simpa using hx), this, List.take_succ_cons]

theorem str_take (s : ByteArray) (o : Nat) : s.extract 0 o = ⟨(s.data.toList.take o).toArray⟩ := by
  have : (s.extract 0 o).data.toList = s.data.toList.take o := by
    rw [ByteArray.data_extract, Array.toList_extract]
    simp [List.extract]
  rw [← this]

set_option maxRecDepth 100000 in
set_option maxHeartbeats 1000000 in
theorem cut2_any (s : ByteArray) (hs : s.size ≤ 65536) (w : World) :
    Calls Try.prog 53 #[.string s, .string ⟨#[32]⟩] w fun e w' => ∃ t f, e = .returned (.tuple #[.string ⟨(wd s.data.toList).toArray⟩, .string t, .bool f]) ∧ Below w.heap.size w w' := by
  have HI := hide (Try.stringslite_Index_one s 32 w)
  have hge := Lib.indexByte_ge s.data.toList 32
  by_cases hneg : Lib.indexByte s.data.toList 32 = -1
  · rw [wd_all hneg]
    rw [hneg] at HI
    clear hge hneg
    go_enter Try.func53, Try.ntmps53
    go_wp2_with fail
    refine HI.out.mono ?_
    rintro e w1 ⟨rfl, rfl⟩
    go_wp2
    go_ret3
    exact ⟨_, _, rfl, Below.refl _ _⟩
  · obtain ⟨o, ho⟩ : ∃ o : Nat, Lib.indexByte s.data.toList 32 = o := ⟨(Lib.indexByte s.data.toList 32).toNat, by omega⟩
    obtain ⟨h1, h2⟩ := Lib.indexByte_some ho
    have hol : o < s.size := by have := (List.getElem?_eq_some_iff.1 h1).1; simpa using this
    have hw : wd s.data.toList = s.data.toList.take o := wd_take _ o (by rw [Array.length_toList]; exact Nat.le_of_lt hol) h2 (.inr h1)
    rw [hw]
    rw [ho] at HI
    have HT := hide (str_take s o)
    have hb1 : (0 : Int) ≤ (o : Int) := by omega
    have hb2 : (o : Int) ≤ (s.size : Int) := by omega
    have hb3 : (o : Int) + 1 ≤ (s.size : Int) := by omega
    generalize (⟨(s.data.toList.take o).toArray⟩ : ByteArray) = T at *
    clear hw h1 h2 ho hneg hge
    go_enter Try.func53, Try.ntmps53
    go_wp2_with fail
    refine HI.out.mono ?_
    rintro e w1 ⟨rfl, rfl⟩
    go_wp2
    go_quiet (fail)
    go_wp2
    go_ret3
    exact ⟨_, _, by rw [← HT.out]; rfl, below_drewN (Below.refl _ _) _⟩

set_option maxRecDepth 100000 in
set_option maxHeartbeats 1000000 in
theorem cut_any (s : ByteArray) (hs : s.size ≤ 65536) (w : World) :
    Calls Try.prog 46 #[.string s, .string ⟨#[32]⟩] w fun e w' => ∃ t f, e = .returned (.tuple #[.string ⟨(wd s.data.toList).toArray⟩, .string t, .bool f]) ∧ Below w.heap.size w w' := by
  have HC := hide (cut2_any s hs w)
  generalize (⟨(wd s.data.toList).toArray⟩ : ByteArray) = T at *
  go_enter Try.func46, Try.ntmps46
  go_wp2_with fail
  refine HC.out.mono ?_
  rintro e w1 ⟨t, f, rfl, hB⟩
  go_wp2
  go_ret3
  exact ⟨_, _, rfl, hB⟩

theorem str_drop (s : ByteArray) (a : Nat) : (s.extract a s.size).data.toList = s.data.toList.drop a := by
  rw [ByteArray.data_extract, Array.toList_extract]
  simp only [List.extract]
  rw [List.take_of_length_le]
  rw [List.length_drop, Array.length_toList]
  exact Nat.le_refl _

set_option maxRecDepth 100000 in
set_option maxHeartbeats 1000000 in
theorem wordAt_any (s : ByteArray) (a : Nat) (hs : s.size ≤ 65536) (ha : a ≤ s.size) (w : World) :
    Calls Try.prog 34 #[.string s, .int .i64 a] w fun e w' => e = .returned (.string ⟨(wd (s.data.toList.drop a)).toArray⟩) ∧ Below w.heap.size w w' := by
  have HC := hide fun w => cut_any (s.extract a s.size) (by simp; omega) w
  rw [str_drop] at HC
  generalize (⟨(wd (s.data.toList.drop a)).toArray⟩ : ByteArray) = T at *
  have hb1 : (0 : Int) ≤ (a : Int) := by omega
  have hb2 : (a : Int) ≤ (s.size : Int) := by omega
  go_enter Try.func34, Try.ntmps34
  go_wp2_with fail
  refine (HC.out _).mono ?_
  rintro e w1 ⟨t, f, rfl, hB⟩
  go_wp2
  go_ret
  exact ⟨rfl, hB⟩
end Go.Proofs.Ytnabnnckhdileaa

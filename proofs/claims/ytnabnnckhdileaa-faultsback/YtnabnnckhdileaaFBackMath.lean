/- Faults are read back from their text. -/
import Derived.Test.YtnabnnckhdileaaFParse2
namespace Go.Proofs.Ytnabnnckhdileaa
open Go.RowKit

theorem sgn_32 (d : Fin 16) : sgn d ≠ 32 := by revert d; decide
theorem dec_no32 (n : Int) (h : 0 ≤ n) : ∀ c ∈ dec n, c ≠ 32 := by
  intro c hc
  unfold dec at hc
  rw [if_neg (by omega)] at hc
  unfold digs at hc
  obtain ⟨d, _, rfl⟩ := List.mem_map.1 hc
  exact sgn_32 d
theorem wrd_no32 {x : Fault} (h : may x = true) : ∀ c ∈ wrd x, c ≠ 32 := by
  obtain ⟨k, n⟩ := x
  unfold wrd
  split
  · rename_i h1
    simp only at h1
    subst h1
    rw [may_one] at h
    have h2 := of_decide_eq_true h
    intro c hc
    rcases List.mem_cons.1 hc with rfl | hc
    · decide
    · exact dec_no32 n (by omega) c hc
  · split
    · intro c hc; simp at hc; subst hc; decide
    · split <;> (intro c hc; simp at hc; subst hc; decide)
theorem wrd_ne (x : Fault) : wrd x ≠ [] := by
  unfold wrd
  split
  · simp
  · split
    · simp
    · split <;> simp
theorem fo_wrd {x : Fault} (h : may x = true) : fo (wrd x) = (x, true) := by
  obtain ⟨k, n⟩ := x
  by_cases h1 : k = 1
  · subst h1
    have hm := h
    rw [may_one] at h
    have h2 := of_decide_eq_true h
    have hw : wrd (1, n) = 115 :: dec n := by simp [wrd]
    have hp : PI (dec n) n 0 := .inl ⟨n, by omega, by omega, rfl, rfl, rfl⟩
    have he := hp.eq
    rw [hw, fo_s (by simp), List.tail_cons, ← he.1, ← he.2, hm]
    simp
  · rw [may_else h1] at h
    have h2 := of_decide_eq_true h
    obtain ⟨a, b, rfl⟩ := h2
    rcases (show k = 0 ∨ k = 2 ∨ k = 3 by omega) with rfl | rfl | rfl
    · exact fo_f
    · exact fo_i
    · exact fo_a

theorem wd_no {y : List UInt8} (h : ∀ c ∈ y, c ≠ 32) : wd y = y := by
  unfold wd
  induction y with
  | nil => rfl
  | cons c r ih => rw [List.takeWhile_cons, if_pos (by simpa using h c (by simp)), ih fun d hd => h d (by simp [hd])]
theorem wd_cut (u y : List UInt8) : wd (u ++ 32 :: y) = wd u := by
  unfold wd
  induction u with
  | nil => simp
  | cons c r ih =>
    rw [List.cons_append, List.takeWhile_cons, List.takeWhile_cons]
    split
    · rw [ih]
    · rfl
theorem bl_left (b c : List UInt8) (i : Nat) (h : i < b.length) : bl (b ++ c) i = bl b i := by
  unfold bl
  rw [List.getD_eq_getElem?_getD, List.getD_eq_getElem?_getD, List.getElem?_append_left h]
theorem bl_right (b c : List UInt8) (i : Nat) : bl (b ++ c) (b.length + i) = bl c i := by
  unfold bl
  rw [List.getD_eq_getElem?_getD, List.getD_eq_getElem?_getD, List.getElem?_append_right (by omega), Nat.add_sub_cancel_left]
theorem bl_no {y : List UInt8} (h : ∀ c ∈ y, c ≠ 32) (i : Nat) (hi : i < y.length) : bl y i = false := by
  unfold bl
  rw [List.getD_eq_getElem?_getD, List.getElem?_eq_getElem hi]
  have := h y[i] (List.getElem_mem hi)
  simpa using this
theorem sts_left (b c : List UInt8) : ∀ k, k ≤ b.length → sts (b ++ c) k = sts b k := by
  intro k
  induction k with
  | zero => intro _; rfl
  | succ k ih =>
    intro hk
    have hs : sp (b ++ c) k = sp b k := by
      unfold sp
      rw [bl_left b c k (by omega)]
      rcases Nat.eq_zero_or_pos k with rfl | hp
      · simp
      · rw [bl_left b c (k - 1) (by omega)]
    have hi := ih (by omega)
    by_cases hq : sp b k = true
    · rw [sts_yes hq, sts_yes (hs.trans hq), hi]
    · have hq' : sp b k = false := by simpa using hq
      rw [sts_no hq', sts_no (hs.trans hq'), hi]
/-- A word that stands alone. -/
theorem sts_word {y : List UInt8} (h : ∀ c ∈ y, c ≠ 32) : ∀ k, 0 < k → k ≤ y.length → sts y k = [0] := by
  intro k
  induction k with
  | zero => intro h; omega
  | succ k ih =>
    intro _ hk
    rcases Nat.eq_zero_or_pos k with rfl | hp
    · rw [sts_yes (by simp [sp, bl_no h 0 hk])]
      rfl
    · have hq : sp y k = false := by
        have h1 := bl_no h (k - 1) (by omega)
        simp [sp, h1]
        omega
      rw [sts_no hq, ih hp (by omega)]
/-- A word behind a blank. -/
theorem sts_snoc {b y : List UInt8} (h : ∀ c ∈ y, c ≠ 32) (hne : y ≠ []) : sts (b ++ 32 :: y) (b ++ 32 :: y).length = sts b b.length ++ [b.length + 1] := by
  have hy : 0 < y.length := List.length_pos_iff.2 hne
  have hb0 : bl (b ++ 32 :: y) b.length = true := by
    have := bl_right b (32 :: y) 0
    rw [Nat.add_zero] at this
    rw [this]
    simp [bl]
  have hbs : ∀ i, i < y.length → bl (b ++ 32 :: y) (b.length + 1 + i) = false := fun i hi => by
    rw [show b.length + 1 + i = b.length + (i + 1) by omega, bl_right]
    have := bl_no h i hi
    unfold bl at this ⊢
    rw [List.getD_cons_succ]
    exact this
  have s0 : sts (b ++ 32 :: y) (b.length + 1) = sts b b.length := by
    rw [sts_no (by simp [sp, hb0]), sts_left _ _ _ (Nat.le_refl _)]
  have s1 : ∀ i, i < y.length → sts (b ++ 32 :: y) (b.length + 1 + (i + 1)) = sts b b.length ++ [b.length + 1] := by
    intro i
    induction i with
    | zero =>
      intro hi
      have hq : sp (b ++ 32 :: y) (b.length + 1) = true := by
        have := hbs 0 hi
        rw [Nat.add_zero] at this
        simp [sp, this, hb0]
      rw [show b.length + 1 + (0 + 1) = (b.length + 1) + 1 by omega, sts_yes hq, s0]
    | succ i ih =>
      intro hi
      have hq : sp (b ++ 32 :: y) (b.length + 1 + (i + 1)) = false := by
        have h1 := hbs i (by omega)
        have h2 : b.length + 1 + (i + 1) - 1 = b.length + 1 + i := by omega
        simp only [sp, h2, h1]
        simp
      rw [show b.length + 1 + (i + 1 + 1) = (b.length + 1 + (i + 1)) + 1 by omega, sts_no hq, ih (by omega)]
  have := s1 (y.length - 1) (by omega)
  rw [show b.length + 1 + (y.length - 1 + 1) = (b ++ 32 :: y).length by simp; omega] at this
  exact this

theorem words_prt : ∀ (n : Nat) (l : List Fault), l.length = n → (∀ x ∈ l, may x = true) → (sts (prt l) (prt l).length).map (fun a => wd ((prt l).drop a)) = l.map wrd := by
  intro n
  induction n with
  | zero =>
    intro l hl _
    rw [List.length_eq_zero_iff.1 hl]
    rfl
  | succ n ih =>
    intro l hl hm
    obtain ⟨m, x, rfl⟩ : ∃ m x, l = m ++ [x] := ⟨l.dropLast, l.getLast (by intro e; rw [e] at hl; simp at hl), (List.dropLast_concat_getLast _).symm⟩
    have hx : may x = true := hm x (by simp)
    have hno := wrd_no32 hx
    have hne := wrd_ne x
    by_cases hm0 : m = []
    · subst hm0
      rw [List.nil_append, prt_snoc_one, sts_word hno _ (List.length_pos_iff.2 hne) (Nat.le_refl _)]
      simp [wd_no hno]
    · rw [prt_snoc m x hm0, sts_snoc hno hne, List.map_append, List.map_append]
      have hi := ih m (by simp at hl; omega) (fun y hy => hm y (by simp [hy]))
      congr 1
      · rw [← hi]
        apply List.map_congr_left
        intro a ha
        have hal := (sts_lt ha).1
        rw [List.drop_append_of_le_length (by omega), wd_cut]
      · have : (prt m ++ 32 :: wrd x).drop ((prt m).length + 1) = wrd x := by
          rw [List.drop_append, Nat.add_sub_cancel_left, List.drop_of_length_le (by omega)]
          rfl
        simp [this, wd_no hno]

theorem prs_prt (l : List Fault) (hl : l.length ≤ 4096) (hm : ∀ x ∈ l, may x = true) (hs : (prt l).length ≤ 65536) : prs ⟨(prt l).toArray⟩ = (l, 0, ((prt l).length : Int)) := by
  have hw := words_prt l.length l rfl hm
  have hd : (⟨(prt l).toArray⟩ : ByteArray).data.toList = prt l := rfl
  have hz : (⟨(prt l).toArray⟩ : ByteArray).size = (prt l).length := by simp [ByteArray.size]
  generalize hst : sts (prt l) (prt l).length = st at hw
  have hlen : st.length = l.length := by have := congrArg List.length hw; simpa using this
  have hf : st.map (fun a => fat ⟨(prt l).toArray⟩ a) = l.map fun x => (x, true) := by
    have h1 : st.map (fun a => fat ⟨(prt l).toArray⟩ a) = (st.map (fun a => wd ((prt l).drop a))).map fo := by rw [List.map_map]; rfl
    rw [h1, hw, List.map_map]
    apply List.map_congr_left
    intro x hx
    exact fo_wrd (hm x hx)
  have hall : ∀ j, j < st.length → (fat ⟨(prt l).toArray⟩ (st.getD j 0)).2 = true := by
    intro j hj
    have h1 : (st.map fun a => fat ⟨(prt l).toArray⟩ a)[j]? = (l.map fun x => (x, true))[j]? := by rw [hf]
    rw [List.getElem?_map, List.getElem?_map, List.getElem?_eq_getElem hj, List.getElem?_eq_getElem (by omega)] at h1
    simp only [Option.map_some, Option.some.injEq] at h1
    rw [List.getD_eq_getElem?_getD, List.getElem?_eq_getElem hj, Option.getD_some, h1]
  unfold prs
  rw [hd, hz, hst, if_neg (by omega), if_neg (by omega), if_neg (by rw [wb_all hall]; omega)]
  have h2 : st.map (fun a => (fat ⟨(prt l).toArray⟩ a).1) = l := by
    have h1 : st.map (fun a => (fat ⟨(prt l).toArray⟩ a).1) = (st.map fun a => fat ⟨(prt l).toArray⟩ a).map Prod.fst := by rw [List.map_map]; rfl
    rw [h1, hf, List.map_map]
    simp [Function.comp_def]
  rw [h2]
end Go.Proofs.Ytnabnnckhdileaa

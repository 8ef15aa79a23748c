/- Openmode: what a text that is a mode's has, and its mode's text. -/
import Derived.Test.YtlkohgnapaoegaaOmLaws
namespace Go.Proofs.Ytlkohgnapaoegaa
open Go.RowKit

theorem prs_two (m : Mo) (i : Nat) (l : List UInt8) : (prs m i l).2.1 = 0 ∨ ((prs m i l).2.1 = 91 ∧ (prs m i l).1 = mo0) := by
  induction l generalizing m i with
  | nil => simp only [prs]; split <;> simp
  | cons c r ih =>
    simp only [prs]
    split
    · simp
    · exact ih _ _
theorem prs_len {m : Mo} {i : Nat} {l : List UInt8} (h : (prs m i l).2.1 = 0) : (prs m i l).2.2 = i + l.length := by
  induction l generalizing m i with
  | nil =>
    simp only [prs] at h ⊢
    split at h
    · simp at h
    · rename_i hn; simp [hn]
  | cons c r ih =>
    cases hs : stepM m c with
    | none => simp [prs, hs] at h
    | some m' =>
      simp only [prs, hs] at h ⊢
      rw [ih h, List.length_cons]
      omega
theorem chk_back {m : Mo} (h : chkM m = 0) : prs mo0 0 (spl m) = (m, 0, (spl m).length) ∧ prt m = spl m := by
  have h1 : prt m = spl m := by simp [prt, h]
  unfold chkM at h
  split at h
  · rename_i hc
    refine ⟨?_, h1⟩
    have hl := prs_len hc.1
    obtain ⟨c1, c2⟩ := hc
    generalize prs mo0 0 (spl m) = q at *
    obtain ⟨x, e, n⟩ := q
    simp at c1 c2 hl
    subst c1 c2 hl
    rfl
  · simp at h
/-- How many letters stand behind the first one. -/
def cnt (p b e x : Bool) : Nat := p.toNat + b.toNat + e.toNat + x.toNat
def tl (p b e x : Bool) (c : UInt8) : Bool := (p && decide (c = 43)) || (b && decide (c = 98)) || (e && decide (c = 101)) || (x && decide (c = 120))
theorem tl_p {b e x : Bool} {c : UInt8} : tl false b e x c = true → tl true b e x c = true := by
  unfold tl
  generalize decide (c = 43) = A
  generalize decide (c = 98) = B
  generalize decide (c = 101) = C
  generalize decide (c = 120) = D
  revert b e x A B C D
  decide
theorem tl_b {p e x : Bool} {c : UInt8} : tl p false e x c = true → tl p true e x c = true := by
  unfold tl
  generalize decide (c = 43) = A
  generalize decide (c = 98) = B
  generalize decide (c = 101) = C
  generalize decide (c = 120) = D
  revert p e x A B C D
  decide
theorem tl_e {p b x : Bool} {c : UInt8} : tl p b false x c = true → tl p b true x c = true := by
  unfold tl
  generalize decide (c = 43) = A
  generalize decide (c = 98) = B
  generalize decide (c = 101) = C
  generalize decide (c = 120) = D
  revert p b x A B C D
  decide
theorem tl_x {p b e : Bool} {c : UInt8} : tl p b e false c = true → tl p b e true c = true := by
  unfold tl
  generalize decide (c = 43) = A
  generalize decide (c = 98) = B
  generalize decide (c = 101) = C
  generalize decide (c = 120) = D
  revert p b e A B C D
  decide
theorem prs_back (f : Nat) (hf : f < 3) (l : List UInt8) : ∀ (p b e x : Bool) (i : Nat) (y : Mo) (n : Nat), prs (mo f p b e x) i l = (y, 0, n) → (x = true → f = 1) →
    ∃ p' b' e' x', y = mo f p' b' e' x' ∧ (x' = true → f = 1) ∧ l.length + cnt p b e x = cnt p' b' e' x' ∧ (∀ c, tl p b e x c = true → tl p' b' e' x' c = true) ∧ ∀ c ∈ l, tl p' b' e' x' c = true := by
  induction l with
  | nil =>
    intro p b e x i y n h hx
    simp only [prs] at h
    split at h
    · simp at h
    · simp at h
      exact ⟨p, b, e, x, h.1.symm, hx, by simp, fun _ h => h, by simp⟩
  | cons c r ih =>
    intro p b e x i y n h hx
    simp only [prs] at h
    rw [step_next f hf] at h
    unfold nextM at h
    by_cases h1 : c = 43
    · subst h1
      cases p with
      | true => simp at h
      | false =>
        simp at h
        obtain ⟨p', b', e', x', r1, r2, r3, r4, r5⟩ := ih true b e x _ y n h hx
        refine ⟨p', b', e', x', r1, r2, by simp [cnt] at r3 ⊢; omega, fun c hc => r4 c (tl_p hc), fun c hc => ?_⟩
        rcases List.mem_cons.1 hc with rfl | hc
        · exact r4 _ (by simp [tl])
        · exact r5 c hc
    by_cases h2 : c = 98
    · subst h2
      cases b with
      | true => simp at h
      | false =>
        simp at h
        obtain ⟨p', b', e', x', r1, r2, r3, r4, r5⟩ := ih p true e x _ y n h hx
        refine ⟨p', b', e', x', r1, r2, by simp [cnt] at r3 ⊢; omega, fun c hc => r4 c (tl_b hc), fun c hc => ?_⟩
        rcases List.mem_cons.1 hc with rfl | hc
        · exact r4 _ (by simp [tl])
        · exact r5 c hc
    by_cases h3 : c = 101
    · subst h3
      cases e with
      | true => simp at h
      | false =>
        simp at h
        obtain ⟨p', b', e', x', r1, r2, r3, r4, r5⟩ := ih p b true x _ y n h hx
        refine ⟨p', b', e', x', r1, r2, by simp [cnt] at r3 ⊢; omega, fun c hc => r4 c (tl_e hc), fun c hc => ?_⟩
        rcases List.mem_cons.1 hc with rfl | hc
        · exact r4 _ (by simp [tl])
        · exact r5 c hc
    by_cases h4 : c = 120
    · subst h4
      by_cases hq : f = 1 ∧ x = false
      · obtain ⟨q1, q2⟩ := hq
        subst q2
        simp [q1] at h
        rw [← q1] at h
        obtain ⟨p', b', e', x', r1, r2, r3, r4, r5⟩ := ih p b e true _ y n h (fun _ => q1)
        refine ⟨p', b', e', x', r1, r2, by simp [cnt] at r3 ⊢; omega, fun c hc => r4 c (tl_x hc), fun c hc => ?_⟩
        rcases List.mem_cons.1 hc with rfl | hc
        · exact r4 _ (by simp [tl])
        · exact r5 c hc
      · rw [if_neg h1, if_neg h2, if_neg h3, if_pos rfl, if_neg hq] at h
        simp at h
    simp [h1, h2, h3, h4] at h
/-- Of the text of such a mode. -/
theorem mo_text (f : Nat) (hf : f < 3) (p b e x : Bool) (hx : x = true → f = 1) : chkM (mo f p b e x) = 0 ∧ (spl (mo f p b e x)).length = 1 + cnt p b e x ∧ lead f ∈ spl (mo f p b e x) ∧ (p = true → 43 ∈ spl (mo f p b e x)) ∧ (b = true → 98 ∈ spl (mo f p b e x)) ∧ (e = true → 101 ∈ spl (mo f p b e x)) ∧ (x = true → 120 ∈ spl (mo f p b e x)) := by
  revert p b e x
  match f, hf with
  | 0, _ => decide +kernel
  | 1, _ => decide +kernel
  | 2, _ => decide +kernel
theorem text_back {l : List UInt8} {y : Mo} {n : Nat} (h : prs mo0 0 l = (y, 0, n)) : chkM y = 0 ∧ (spl y).length = l.length ∧ ∀ c ∈ l, c ∈ spl y := by
  cases l with
  | nil => simp [prs, isNone, mo0] at h
  | cons c r =>
    simp only [prs] at h
    rw [step_first] at h
    have key : ∀ f, f < 3 → c = lead f → prs (mo f false false false false) 1 r = (y, 0, n) → chkM y = 0 ∧ (spl y).length = (c :: r).length ∧ ∀ d ∈ c :: r, d ∈ spl y := by
      intro f hf hc hp
      obtain ⟨p', b', e', x', r1, r2, r3, r4, r5⟩ := prs_back f hf r _ _ _ _ _ _ _ hp (by simp)
      obtain ⟨t1, t2, t3, t4, t5, t6, t7⟩ := mo_text f hf p' b' e' x' r2
      subst r1
      refine ⟨t1, by rw [t2, List.length_cons]; simp [cnt] at r3 ⊢; omega, fun d hd => ?_⟩
      rcases List.mem_cons.1 hd with rfl | hd
      · rw [hc]; exact t3
      · have := r5 d hd
        simp only [tl, Bool.or_eq_true, Bool.and_eq_true, decide_eq_true_eq] at this
        rcases this with ((⟨q, rfl⟩ | ⟨q, rfl⟩) | ⟨q, rfl⟩) | ⟨q, rfl⟩
        · exact t4 q
        · exact t5 q
        · exact t6 q
        · exact t7 q
    by_cases h1 : c = 114
    · rw [if_pos h1] at h; exact key 0 (by decide) h1 h
    by_cases h2 : c = 119
    · rw [if_neg h1, if_pos h2] at h; exact key 1 (by decide) h2 h
    by_cases h3 : c = 97
    · rw [if_neg h1, if_neg h2, if_pos h3] at h; exact key 2 (by decide) h3 h
    rw [if_neg h1, if_neg h2, if_neg h3] at h
    simp at h
end Go.Proofs.Ytlkohgnapaoegaa

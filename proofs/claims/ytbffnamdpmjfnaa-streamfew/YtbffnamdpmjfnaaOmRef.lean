/- Openmode: the reference's Parse and letters. -/
import Derived.Test.YtbffnamdpmjfnaaOmParse
namespace Go.Proofs.Ytbffnamdpmjfnaa
open Go.RowKit

/-- The mode whose first letter is number f, and what stands behind it. -/
def mo (f : Nat) (p b e x : Bool) : Mo :=
  match f with
  | 0 => ⟨true, p, false, false, false, x, b, e⟩
  | 1 => ⟨p, true, false, true, true, x, b, e⟩
  | _ => ⟨p, true, true, true, false, x, b, e⟩
/-- A letter behind the first one. -/
def nextM (f : Nat) (p b e x : Bool) (c : UInt8) : Option Mo :=
  if c = 43 then (if p then none else some (mo f true b e x))
  else if c = 98 then (if b then none else some (mo f p true e x))
  else if c = 101 then (if e then none else some (mo f p b true x))
  else if c = 120 then (if f = 1 ∧ x = false then some (mo f p b e true) else none)
  else none
theorem step_next (f : Nat) (hf : f < 3) (p b e x : Bool) (c : UInt8) : stepM (mo f p b e x) c = nextM f p b e x c := by
  by_cases h1 : c = 43
  · subst h1
    revert p b e x
    match f, hf with
    | 0, _ => decide
    | 1, _ => decide
    | 2, _ => decide
  by_cases h2 : c = 98
  · subst h2
    revert p b e x
    match f, hf with
    | 0, _ => decide
    | 1, _ => decide
    | 2, _ => decide
  by_cases h3 : c = 101
  · subst h3
    revert p b e x
    match f, hf with
    | 0, _ => decide
    | 1, _ => decide
    | 2, _ => decide
  by_cases h4 : c = 120
  · subst h4
    revert p b e x
    match f, hf with
    | 0, _ => decide
    | 1, _ => decide
    | 2, _ => decide
  have hn : isNone (mo f p b e x) = false := by
    match f, hf with
    | 0, _ => simp [mo, isNone]
    | 1, _ => simp [mo, isNone]
    | 2, _ => simp [mo, isNone]
  simp only [nextM, h1, h2, h3, h4, if_false]
  refine stepM_none fun j hj => ?_
  unfold fits
  match j, hj with
  | 0, _ => simp [mayI, hn]
  | 1, _ => simp [mayI, hn]
  | 2, _ => simp [mayI, hn]
  | 3, _ => rw [decide_eq_false (show ¬ sg.getD 3 0 = c from fun e => h1 e.symm)]; rfl
  | 4, _ => rw [decide_eq_false (show ¬ sg.getD 4 0 = c from fun e => h2 e.symm)]; rfl
  | 5, _ => rw [decide_eq_false (show ¬ sg.getD 5 0 = c from fun e => h4 e.symm)]; rfl
  | 6, _ => rw [decide_eq_false (show ¬ sg.getD 6 0 = c from fun e => h3 e.symm)]; rfl
/-- A first letter. -/
theorem step_first (c : UInt8) : stepM mo0 c = if c = 114 then some (mo 0 false false false false) else if c = 119 then some (mo 1 false false false false) else if c = 97 then some (mo 2 false false false false) else none := by
  by_cases h1 : c = 114
  · subst h1; decide
  by_cases h2 : c = 119
  · subst h2; decide
  by_cases h3 : c = 97
  · subst h3; decide
  simp only [h1, h2, h3, if_false]
  refine stepM_none fun j hj => ?_
  unfold fits
  match j, hj with
  | 0, _ => rw [decide_eq_false (show ¬ sg.getD 0 0 = c from fun e => h1 e.symm)]; rfl
  | 1, _ => rw [decide_eq_false (show ¬ sg.getD 1 0 = c from fun e => h2 e.symm)]; rfl
  | 2, _ => rw [decide_eq_false (show ¬ sg.getD 2 0 = c from fun e => h3 e.symm)]; rfl
  | 3, _ => simp [mayI, isNone, mo0]
  | 4, _ => simp [mayI, isNone, mo0]
  | 5, _ => simp [mayI, isNone, mo0]
  | 6, _ => simp [mayI, isNone, mo0]
/-- The reference's letters of a mode. -/
def rspl (m : Mo) : List UInt8 := (if m.ap then [97] else if m.cr then [119] else [114]) ++ (if m.rd && m.wr then [43] else []) ++ (if m.bi then [98] else []) ++ (if m.ex then [120] else []) ++ (if m.ma then [101] else [])

end Go.Proofs.Ytbffnamdpmjfnaa

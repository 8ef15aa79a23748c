/- Streams: a variable that holds a state, beside a Raw. -/
import Derived.Test.YtbffnamdpmjfnaaStL
namespace Go.Proofs.Ytbffnamdpmjfnaa
open Go.RowKit

/-- A state's block is filled anew. -/
def filled (w : World) (g : Nat) (x : SS) (o i b : Value) : World := (((((((((((w.setCell ⟨g, 0, none⟩ (.bool x.rd)).setCell ⟨g, 1, none⟩ (.bool x.wt)).setCell ⟨g, 2, none⟩ (.int .i64 x.mode)).setCell ⟨g, 3, none⟩ (.int .i64 x.size)).setCell ⟨g, 4, none⟩ (o)).setCell ⟨g, 5, none⟩ (i)).setCell ⟨g, 6, none⟩ (b)).setCell ⟨g, 7, none⟩ (.int .i64 x.dir)).setCell ⟨g, 8, none⟩ (.bool x.fin)).setCell ⟨g, 9, none⟩ (.bool x.bad)).setCell ⟨g, 10, none⟩ (.bool x.closed))
theorem st_fill2 (w : World) (g : Nat) (y x : SS) (o0 i0 b0 o i b : Value) (h : StAt w g y o0 i0 b0) : StAt (filled w g x o i b) g x o i b ∧ Turned (fun k => k = g) w (filled w g x o i b) := by
  have e0 := Go.heap_setCell_same _ g 0 _ _ (.bool x.rd) h
  simp only [List.setIfInBounds_toArray, List.set_cons_zero] at e0
  have e1 := Go.heap_setCell_same _ g 1 _ _ (.bool x.wt) e0
  simp only [List.setIfInBounds_toArray, List.set_cons_zero, List.set_cons_succ] at e1
  have e2 := Go.heap_setCell_same _ g 2 _ _ (.int .i64 x.mode) e1
  simp only [List.setIfInBounds_toArray, List.set_cons_zero, List.set_cons_succ] at e2
  have e3 := Go.heap_setCell_same _ g 3 _ _ (.int .i64 x.size) e2
  simp only [List.setIfInBounds_toArray, List.set_cons_zero, List.set_cons_succ] at e3
  have e4 := Go.heap_setCell_same _ g 4 _ _ (o) e3
  simp only [List.setIfInBounds_toArray, List.set_cons_zero, List.set_cons_succ] at e4
  have e5 := Go.heap_setCell_same _ g 5 _ _ (i) e4
  simp only [List.setIfInBounds_toArray, List.set_cons_zero, List.set_cons_succ] at e5
  have e6 := Go.heap_setCell_same _ g 6 _ _ (b) e5
  simp only [List.setIfInBounds_toArray, List.set_cons_zero, List.set_cons_succ] at e6
  have e7 := Go.heap_setCell_same _ g 7 _ _ (.int .i64 x.dir) e6
  simp only [List.setIfInBounds_toArray, List.set_cons_zero, List.set_cons_succ] at e7
  have e8 := Go.heap_setCell_same _ g 8 _ _ (.bool x.fin) e7
  simp only [List.setIfInBounds_toArray, List.set_cons_zero, List.set_cons_succ] at e8
  have e9 := Go.heap_setCell_same _ g 9 _ _ (.bool x.bad) e8
  simp only [List.setIfInBounds_toArray, List.set_cons_zero, List.set_cons_succ] at e9
  have e10 := Go.heap_setCell_same _ g 10 _ _ (.bool x.closed) e9
  simp only [List.setIfInBounds_toArray, List.set_cons_zero, List.set_cons_succ] at e10
  exact ⟨e10, ((((((((((((Turned.refl (fun k => k = g) w).set (.inl rfl)).set (.inl rfl)).set (.inl rfl)).set (.inl rfl)).set (.inl rfl)).set (.inl rfl)).set (.inl rfl)).set (.inl rfl)).set (.inl rfl)).set (.inl rfl)).set (.inl rfl))⟩
/-- A variable at g that holds the state x; the Raw s, apart; all of it at B and above. -/
structure LV {S : Type} (At : World → (Nat → Prop) → S → Prop) (W : World) (B g : Nat) (O : Nat → Prop) (x : SS) (s : S) (o i b : Value) : Prop where
  st : StAt W g x o i b
  ls : SIn W (fun k => B ≤ k ∧ ¬ O k ∧ k ≠ g ∧ k < W.heap.size) x o i b
  raw : At W O s
  ol : ∀ j, O j → j < W.heap.size
  ob : ∀ j, O j → B ≤ j
  og : ¬ O g
  gB : B ≤ g
theorem StAt.lt {W : World} {g : Nat} {x : SS} {o i b : Value} (h : StAt W g x o i b) : g < W.heap.size := (Array.getElem?_eq_some_iff.1 h).1
theorem StAt.soft {W : World} {g : Nat} {x : SS} {o i b : Value} (h : StAt W g x o i b) (j : Nat) : W.frozen? ⟨g, j, none⟩ = false := frozen_of_row W g j _ _ h
theorem LV.below {S : Type} {At : World → (Nat → Prop) → S → Prop} (hT : ∀ s, OAt (fun w O => At w O s)) {w w' : World} {B g : Nat} {O : Nat → Prop} {x : SS} {s : S} {o i b : Value} (h : LV At w B g O x s o i b) (hB : Below w.heap.size w w') : LV At w' B g O x s o i b := by
  have hz := hB.size
  exact ⟨h.st.below hB, (h.ls.below hB).mono fun k e => ⟨e.1, e.2.1, e.2.2.1, by have := e.2.2.2; omega⟩, (hT s).keep h.raw (fun j _ hj => hB.block j hj) hz, fun j e => Nat.lt_of_lt_of_le (h.ol j e) hz, h.ob, h.og, h.gB⟩
/-- The state that follows is laid into the variable. -/
theorem LV.next {S : Type} {At : World → (Nat → Prop) → S → Prop} (hT : ∀ s, OAt (fun w O => At w O s)) {w w1 : World} {B g : Nat} {O : Nat → Prop} {x x' : SS} {s s' : S} {o i b o' i' b' : Value} (h : LV At w B g O x s o i b) (hB : B ≤ w.heap.size) (hS : SOut At w O x' s' o' i' b' w1) :
    StAt w1 g x o i b ∧ (∃ O', LV At (filled w1 g x' o' i' b') B g O' x' s' o' i' b') ∧ Turned (fun k => B ≤ k) w (filled w1 g x' o' i' b') := by
  obtain ⟨O', h1, h2, h3, h4, h5⟩ := hS
  have hz := h5.size
  have hg := h.st.lt
  have hst : StAt w1 g x o i b := (h5.block g hg h.og).trans h.st
  obtain ⟨e1, e2⟩ := st_fill2 w1 g x x' o i b o' i' b' hst
  have hz2 := e2.size
  have hog : ¬ O' g := fun e => by
    rcases h4 g e with e | e
    · exact h.og e
    · omega
  refine ⟨hst, ⟨O', e1, (h1.turned e2 fun k e _ e' => by have := e.1; omega).mono fun k e => ⟨by have := e.1; omega, e.2.1, by have := e.1; omega, by have := e.2.2; omega⟩, (hT s').keep h2 (fun j e hj => e2.block j hj (fun e' => hog (e' ▸ e))) hz2, fun j e => Nat.lt_of_lt_of_le (h3 j e) hz2, fun j e => ?_, hog, h.gB⟩, (h5.mono fun k e => h.ob k e).trans (e2.mono fun k e => (by have := h.gB; omega : B ≤ k)) (fun _ _ e => e)⟩
  rcases h4 j e with e | e
  · exact h.ob j e
  · omega
theorem LV.next1 {S : Type} {At : World → (Nat → Prop) → S → Prop} (hT : ∀ s, OAt (fun w O => At w O s)) {w w1 : World} {B g : Nat} {O : Nat → Prop} {x x' : SS} {s s' : S} {o i b o' i' b' : Value} (h : LV At w B g O x s o i b) (hB : B ≤ w.heap.size) (O' : Nat → Prop) (h1 : SIn w1 (fun k => w.heap.size ≤ k ∧ ¬ O' k ∧ k < w1.heap.size) x' o' i' b') (h2 : At w1 O' s') (h3 : ∀ j, O' j → j < w1.heap.size) (h4 : ∀ k, O' k → O k ∨ w.heap.size ≤ k) (h5 : Turned O w w1) :
    LV At (filled w1 g x' o' i' b') B g O' x' s' o' i' b' := by
  have hz := h5.size
  have hg := h.st.lt
  have hst : StAt w1 g x o i b := (h5.block g hg h.og).trans h.st
  obtain ⟨e1, e2⟩ := st_fill2 w1 g x x' o i b o' i' b' hst
  have hz2 := e2.size
  have hog : ¬ O' g := fun e => by
    rcases h4 g e with e | e
    · exact h.og e
    · omega
  refine ⟨e1, (h1.turned e2 fun k e _ e' => by have := e.1; omega).mono fun k e => ⟨by have := e.1; omega, e.2.1, by have := e.1; omega, by have := e.2.2; omega⟩, (hT s').keep h2 (fun j e hj => e2.block j hj (fun e' => hog (e' ▸ e))) hz2, fun j e => Nat.lt_of_lt_of_le (h3 j e) hz2, fun j e => ?_, hog, h.gB⟩
  rcases h4 j e with e | e
  · exact h.ob j e
  · omega
end Go.Proofs.Ytbffnamdpmjfnaa

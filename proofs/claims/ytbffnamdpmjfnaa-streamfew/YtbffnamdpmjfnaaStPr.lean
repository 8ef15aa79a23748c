/- Two variables that hold states, each beside a Raw of its own; all of it apart. -/
import Derived.Test.YtbffnamdpmjfnaaStW
namespace Go.Proofs.Ytbffnamdpmjfnaa
open Go.RowKit

/-- The blocks of a variable, its lists and its Raw. -/
def Us (g : Nat) (O : Nat → Prop) (o i b : Value) (k : Nat) : Prop := k = g ∨ O k ∨ o.ownBlock = some k ∨ i.ownBlock = some k ∨ b.ownBlock = some k
theorem LV.us_lt {S : Type} {At : World → (Nat → Prop) → S → Prop} {w : World} {B g : Nat} {O : Nat → Prop} {x : SS} {s : S} {o i b : Value} (h : LV At w B g O x s o i b) {k : Nat} (e : Us g O o i b k) : k < w.heap.size := by
  rcases e with e | e | e | e | e
  · rw [e]; exact h.st.lt
  · exact h.ol k e
  · exact (h.ls.po k e).2.2.2
  · exact (h.ls.pi k e).2.2.2
  · exact (h.ls.pb k e).2.2.2
theorem LV.turned {S : Type} {At : World → (Nat → Prop) → S → Prop} (hT : ∀ s, OAt (fun w O => At w O s)) {w w' : World} {B g : Nat} {O Q : Nat → Prop} {x : SS} {s : S} {o i b : Value} (h : LV At w B g O x s o i b) (ht : Turned Q w w') (hq : ∀ k, Us g O o i b k → ¬ Q k) : LV At w' B g O x s o i b := by
  have hz := ht.size
  exact ⟨(ht.block g h.st.lt (hq g (.inl rfl))).trans h.st, ⟨h.ls.so.turned ht (fun k e _ => hq k (.inr (.inr (.inl e)))), h.ls.si.turned ht (fun k e _ => hq k (.inr (.inr (.inr (.inl e))))), h.ls.sb.turned ht (fun k e _ => hq k (.inr (.inr (.inr (.inr e))))), fun k e => by have := h.ls.po k e; exact ⟨this.1, this.2.1, this.2.2.1, by omega⟩, fun k e => by have := h.ls.pi k e; exact ⟨this.1, this.2.1, this.2.2.1, by omega⟩, fun k e => by have := h.ls.pb k e; exact ⟨this.1, this.2.1, this.2.2.1, by omega⟩⟩,
    (hT s).keep h.raw (fun j e hj => ht.block j hj (hq j (.inr (.inl e)))) hz, fun j e => Nat.lt_of_lt_of_le (h.ol j e) hz, h.ob, h.og, h.gB⟩
/-- Both. -/
structure V2 {S1 S2 : Type} (A1 : World → (Nat → Prop) → S1 → Prop) (A2 : World → (Nat → Prop) → S2 → Prop) (W : World) (B g1 : Nat) (O1 : Nat → Prop) (x1 : SS) (s1 : S1) (o1 i1 b1 : Value) (g2 : Nat) (O2 : Nat → Prop) (x2 : SS) (s2 : S2) (o2 i2 b2 : Value) : Prop where
  l1 : LV A1 W B g1 O1 x1 s1 o1 i1 b1
  l2 : LV A2 W B g2 O2 x2 s2 o2 i2 b2
  dj : ∀ k, Us g1 O1 o1 i1 b1 k → ¬ Us g2 O2 o2 i2 b2 k
theorem V2.swap {S1 S2 : Type} {A1 : World → (Nat → Prop) → S1 → Prop} {A2 : World → (Nat → Prop) → S2 → Prop} {W : World} {B g1 : Nat} {O1 : Nat → Prop} {x1 : SS} {s1 : S1} {o1 i1 b1 : Value} {g2 : Nat} {O2 : Nat → Prop} {x2 : SS} {s2 : S2} {o2 i2 b2 : Value} (h : V2 A1 A2 W B g1 O1 x1 s1 o1 i1 b1 g2 O2 x2 s2 o2 i2 b2) : V2 A2 A1 W B g2 O2 x2 s2 o2 i2 b2 g1 O1 x1 s1 o1 i1 b1 := ⟨h.l2, h.l1, fun k e e' => h.dj k e' e⟩
theorem V2.below {S1 S2 : Type} {A1 : World → (Nat → Prop) → S1 → Prop} {A2 : World → (Nat → Prop) → S2 → Prop} (hT1 : ∀ s, OAt (fun w O => A1 w O s)) (hT2 : ∀ s, OAt (fun w O => A2 w O s)) {W W' : World} {B g1 : Nat} {O1 : Nat → Prop} {x1 : SS} {s1 : S1} {o1 i1 b1 : Value} {g2 : Nat} {O2 : Nat → Prop} {x2 : SS} {s2 : S2} {o2 i2 b2 : Value} (h : V2 A1 A2 W B g1 O1 x1 s1 o1 i1 b1 g2 O2 x2 s2 o2 i2 b2) (hB : Below W.heap.size W W') : V2 A1 A2 W' B g1 O1 x1 s1 o1 i1 b1 g2 O2 x2 s2 o2 i2 b2 := ⟨h.l1.below hT1 hB, h.l2.below hT2 hB, h.dj⟩
/-- A call on the first, and what follows laid into its variable. -/
theorem V2.step {S1 S2 : Type} {A1 : World → (Nat → Prop) → S1 → Prop} {A2 : World → (Nat → Prop) → S2 → Prop} (hT1 : ∀ s, OAt (fun w O => A1 w O s)) (hT2 : ∀ s, OAt (fun w O => A2 w O s)) {w w1 : World} {B g1 : Nat} {O1 : Nat → Prop} {x1 x1' : SS} {s1 s1' : S1} {o1 i1 b1 o' i' b' : Value} {g2 : Nat} {O2 : Nat → Prop} {x2 : SS} {s2 : S2} {o2 i2 b2 : Value} (h : V2 A1 A2 w B g1 O1 x1 s1 o1 i1 b1 g2 O2 x2 s2 o2 i2 b2) (hB : B ≤ w.heap.size) (hS : SOut A1 w O1 x1' s1' o' i' b' w1) :
    StAt w1 g1 x1 o1 i1 b1 ∧ LV A2 w1 B g2 O2 x2 s2 o2 i2 b2 ∧ (∃ O', V2 A1 A2 (filled w1 g1 x1' o' i' b') B g1 O' x1' s1' o' i' b' g2 O2 x2 s2 o2 i2 b2) ∧ Turned (fun k => B ≤ k) w (filled w1 g1 x1' o' i' b') := by
  obtain ⟨hst, -, ht⟩ := LV.next hT1 h.l1 hB hS
  obtain ⟨O', q1, q2, q3, q4, q5⟩ := hS
  have hl1 := LV.next1 hT1 h.l1 hB O' q1 q2 q3 q4 q5
  have hl2 := h.l2.turned hT2 q5 (fun k e e' => h.dj k (.inr (.inl e')) e)
  obtain ⟨-, e2⟩ := st_fill2 w1 g1 x1 x1' o1 i1 b1 o' i' b' hst
  refine ⟨hst, hl2, ⟨O', hl1, hl2.turned hT2 e2 (fun k e e' => h.dj k (.inl e') e), fun k e e' => ?_⟩, ht⟩
  have hlt := h.l2.us_lt e'
  rcases e with e | e | e | e | e
  · exact h.dj k (.inl e) e'
  · rcases q4 k e with e | e
    · exact h.dj k (.inr (.inl e)) e'
    · omega
  · have := (q1.po k e).1; omega
  · have := (q1.pi k e).1; omega
  · have := (q1.pb k e).1; omega
end Go.Proofs.Ytbffnamdpmjfnaa

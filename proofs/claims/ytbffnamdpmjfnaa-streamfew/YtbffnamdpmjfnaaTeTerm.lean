/- A terminal in memory: its lines, its screen, the blocks that are its own. -/
import Derived.Test.YtbffnamdpmjfnaaTeRow
namespace Go.Proofs.Ytbffnamdpmjfnaa
open Go.RowKit

/-- Block t is a terminal: its lines lie at cell c, its screen at the next one; the blocks O are its own. -/
structure Term (W : World) (B t c : Nat) (O : Nat → Prop) (la : Option Addr) (lc : Nat) (s : Value) (ls : List (List UInt8)) (scr : List UInt8) : Prop where
  lines : W.cell? ⟨t, c, none⟩ = some (.slice la ls.length lc)
  screen : W.cell? ⟨t, c + 1, none⟩ = some s
  soft1 : W.frozen? ⟨t, c, none⟩ = false
  soft2 : W.frozen? ⟨t, c + 1, none⟩ = false
  cap : ls.length ≤ lc
  lo : ∀ k, (Value.slice la ls.length lc).ownBlock = some k → O k ∧ k ≠ t ∧ s.ownBlock ≠ some k
  row : 0 < ls.length → ∃ r off, la = some ⟨r, off, none⟩ ∧ ∀ j (hj : j < ls.length), W.frozen? ⟨r, off + j, none⟩ = false ∧ ∃ va vc, W.cell? ⟨r, off + j, none⟩ = some (.slice va ls[j].length vc) ∧ ls[j].length ≤ vc ∧ Bys W (.slice va ls[j].length vc) ls[j] ∧ ∀ k, (Value.slice va ls[j].length vc).ownBlock = some k → O k ∧ k ≠ t ∧ k ≠ r ∧ s.ownBlock ≠ some k
  scr : W.ownsRow B 5 1 s scr.length (scr.map bv)
  st : ∀ k, s.ownBlock = some k → O k ∧ k ≠ t
  ot : O t
  lt : ∀ k, O k → B ≤ k ∧ k < W.heap.size

theorem Term.keep {W W' : World} {B t c : Nat} {O : Nat → Prop} {la : Option Addr} {lc : Nat} {s : Value} {ls : List (List UInt8)} {scr : List UInt8} (h : Term W B t c O la lc s ls scr) (hk : ∀ k, O k → W'.heap[k]? = W.heap[k]?) (hs : W.heap.size ≤ W'.heap.size) : Term W' B t c O la lc s ls scr := by
  have ht := hk t h.ot
  refine ⟨(World.cell?_of_block (w := W) ht).trans h.lines, (World.cell?_of_block (w := W) ht).trans h.screen, (World.frozen?_of_block (w := W) ht).trans h.soft1, (World.frozen?_of_block (w := W) ht).trans h.soft2, h.cap, h.lo, fun h0 => ?_, owns_keep h.scr fun k e => hk k (h.st k e).1, h.st, h.ot, fun k e => ⟨(h.lt k e).1, Nat.lt_of_lt_of_le (h.lt k e).2 hs⟩⟩
  obtain ⟨r, off, rfl, hr⟩ := h.row h0
  have hro := hk r (h.lo r rfl).1
  refine ⟨r, off, rfl, fun j hj => ?_⟩
  obtain ⟨h1, va, vc, h2, h3, h4, h5⟩ := hr j hj
  exact ⟨(World.frozen?_of_block (w := W) hro).trans h1, va, vc, (World.cell?_of_block (w := W) hro).trans h2, h3, h4.keep fun k e _ => hk k (h5 k e).1, h5⟩
theorem Term.below {W W' : World} {B t c : Nat} {O : Nat → Prop} {la : Option Addr} {lc : Nat} {s : Value} {ls : List (List UInt8)} {scr : List UInt8} (h : Term W B t c O la lc s ls scr) (hB : Below W.heap.size W W') : Term W' B t c O la lc s ls scr :=
  h.keep (fun k e => hB.block k (h.lt k e).2) hB.size
theorem Term.turned {S : Nat → Prop} {W W' : World} {B t c : Nat} {O : Nat → Prop} {la : Option Addr} {lc : Nat} {s : Value} {ls : List (List UInt8)} {scr : List UInt8} (h : Term W B t c O la lc s ls scr) (hT : Turned S W W') (hS : ∀ k, O k → ¬ S k) : Term W' B t c O la lc s ls scr :=
  h.keep (fun k e => hT.block k (h.lt k e).2 (hS k e)) hT.size
theorem Term.lns {W : World} {B t c : Nat} {O : Nat → Prop} {la : Option Addr} {lc : Nat} {s : Value} {ls : List (List UInt8)} {scr : List UInt8} (h : Term W B t c O la lc s ls scr) : Lns W (.slice la ls.length lc) ls := by
  refine ⟨la, lc, rfl, fun h0 => ?_⟩
  obtain ⟨r, off, rfl, hr⟩ := h.row h0
  refine ⟨r, off, rfl, fun j hj => ?_⟩
  obtain ⟨h1, va, vc, h2, h3, h4, h5⟩ := hr j hj
  exact ⟨va, vc, h2, h4⟩

/-- Behind 't.screen = append(t.screen, ..)'. -/
theorem Term.written {w w1 : World} {B t c : Nat} {O : Nat → Prop} {la : Option Addr} {lc : Nat} {s s' : Value} {ls : List (List UInt8)} {scr scr' : List UInt8} (h : Term w B t c O la lc s ls scr)
    (hown : w1.ownsRow B 5 1 s' scr'.length (scr'.map bv)) (hg : w.grownBy w1 s.ownBlock) (hb : s'.ownBlock = s.ownBlock ∨ s'.ownBlock = some w.heap.size) :
    Term (w1.setCell ⟨t, c + 1, none⟩ s') B t c (fun k => O k ∨ s'.ownBlock = some k) la lc s' ls scr' ∧ Turned O w (w1.setCell ⟨t, c + 1, none⟩ s') := by
  have hO : ∀ k, O k → s.ownBlock ≠ some k → k ≠ t → (w1.setCell ⟨t, c + 1, none⟩ s').heap[k]? = w.heap[k]? := fun k hk hs ht =>
    (Below.heap_setCell _ _ _ _ ht).trans (hg.block k (h.lt k hk).2 (fun e => hs e.symm))
  have htt : w1.heap[t]? = w.heap[t]? := hg.block t (h.lt t h.ot).2 (fun e => (h.st t e.symm).2 rfl)
  have hc1 : w1.cell? ⟨t, c, none⟩ = some (.slice la ls.length lc) := (World.cell?_of_block (w := w) htt).trans h.lines
  have hc2 : w1.cell? ⟨t, c + 1, none⟩ = some s := (World.cell?_of_block (w := w) htt).trans h.screen
  have hne : ∀ k, O k → s.ownBlock ≠ some k → s'.ownBlock ≠ some k := fun k hk hs => by
    rcases hb with e | e
    · rw [e]; exact hs
    · rw [e]; intro e'; have := (h.lt k hk).2; cases e'; omega
  have hst : ∀ k, s'.ownBlock = some k → k ≠ t := fun k e => by
    rcases hb with e' | e'
    · rw [e'] at e; exact (h.st k e).2
    · rw [e'] at e; cases e; have := (h.lt t h.ot).2; omega
  refine ⟨⟨?_, World.cell?_setCell_same _ _ _ hc2, ?_, ?_, h.cap, fun k e => ?_, fun h0 => ?_, ?_, fun k e => ⟨.inr e, hst k e⟩, .inl h.ot, ?_⟩, ?_⟩
  · rw [World.cell?_setCell_other _ _ _ _ (by simp)]; exact hc1
  · rw [World.frozen?_setCell]; exact (World.frozen?_of_block (w := w) htt).trans h.soft1
  · rw [World.frozen?_setCell]; exact (World.frozen?_of_block (w := w) htt).trans h.soft2
  · obtain ⟨h1, h2, h3⟩ := h.lo k e
    exact ⟨.inl h1, h2, hne k h1 h3⟩
  · obtain ⟨r, off, rfl, hr⟩ := h.row h0
    obtain ⟨r1, r2, r3⟩ := h.lo r rfl
    have hrr := hO r r1 r3 r2
    refine ⟨r, off, rfl, fun j hj => ?_⟩
    obtain ⟨h1, va, vc, h2, h3, h4, h5⟩ := hr j hj
    refine ⟨(World.frozen?_of_block (w := w) hrr).trans h1, va, vc, (World.cell?_of_block (w := w) hrr).trans h2, h3, h4.keep fun k e _ => ?_, fun k e => ?_⟩
    · obtain ⟨q1, q2, q3, q4⟩ := h5 k e
      exact hO k q1 q4 q2
    · obtain ⟨q1, q2, q3, q4⟩ := h5 k e
      exact ⟨.inl q1, q2, q3, hne k q1 q4⟩
  · exact owns_keep hown fun k e => Below.heap_setCell _ _ _ _ (hst k e)
  · intro k e
    have hsz : (w1.setCell ⟨t, c + 1, none⟩ s').heap.size = w1.heap.size := by simp [World.setCell]
    rw [hsz]
    have := hg.size
    rcases e with e | e
    · have := h.lt k e; omega
    · exact hown.lt k e
  · exact ((Turned.refl O w).grown hg (fun k e => .inl (h.st k e).1)).set (.inl h.ot)

/-- Behind 't.lines[0] = line[n:]'. -/
theorem Term.cut {w : World} {B t c : Nat} {O : Nat → Prop} {r off lc b o vc n : Nat} {s : Value} {l : List UInt8} {ls : List (List UInt8)} {scr : List UInt8} (h : Term w B t c O (some ⟨r, off, none⟩) lc s (l :: ls) scr)
    (hc : w.cell? ⟨r, off, none⟩ = some (.slice (some ⟨b, o, none⟩) l.length vc)) (hn : n < l.length) :
    Term (w.setCell ⟨r, off, none⟩ (.slice (some ⟨b, o + n, none⟩) (l.length - n) (vc - n))) B t c O (some ⟨r, off, none⟩) lc s (l.drop n :: ls) scr ∧ Turned O w (w.setCell ⟨r, off, none⟩ (.slice (some ⟨b, o + n, none⟩) (l.length - n) (vc - n))) := by
  obtain ⟨ro, rt, rs⟩ := h.lo r rfl
  have hO : ∀ k, k ≠ r → (w.setCell ⟨r, off, none⟩ (.slice (some ⟨b, o + n, none⟩) (l.length - n) (vc - n))).heap[k]? = w.heap[k]? := fun k hk => Below.heap_setCell _ _ _ _ hk
  have htt := hO t (Ne.symm rt)
  refine ⟨⟨(World.cell?_of_block (w := w) htt).trans h.lines, (World.cell?_of_block (w := w) htt).trans h.screen, (World.frozen?_of_block (w := w) htt).trans h.soft1, (World.frozen?_of_block (w := w) htt).trans h.soft2, h.cap, h.lo, fun _ => ⟨r, off, rfl, fun j hj => ?_⟩, owns_keep h.scr fun k e => hO k (fun e' => by rw [e'] at e; exact rs e), h.st, h.ot, fun k e => by simpa [World.setCell] using h.lt k e⟩, (Turned.refl O w).set (.inl ro)⟩
  obtain ⟨r', off', he, hr⟩ := h.row (by simp)
  cases he
  cases j with
  | zero =>
    obtain ⟨h1, va, vc', h2, h3, h4, h5⟩ := hr 0 (by simp)
    simp only [Nat.add_zero, List.getElem_cons_zero] at h1 h2 h3 h4 h5 ⊢
    rw [hc] at h2
    simp only [Option.some.injEq, Value.slice.injEq, true_and] at h2
    obtain ⟨rfl, rfl⟩ := h2
    have hl : (l.drop n).length = l.length - n := by simp
    refine ⟨by rw [World.frozen?_setCell]; exact h1, _, _, by rw [hl]; exact World.cell?_setCell_same _ _ _ hc, by omega, ?_, fun k e => h5 k e⟩
    have hb := bys_cut h4 n (l.length - n) (vc - n) (by omega)
    rw [List.take_of_length_le (by simp)] at hb
    rw [hl]
    exact hb.keep fun k e _ => hO k (h5 k e).2.2.1
  | succ j =>
    have hj' : j + 1 < (l :: ls).length := by simpa using hj
    obtain ⟨h1, va, vc', h2, h3, h4, h5⟩ := hr (j + 1) hj'
    simp only [List.getElem_cons_succ] at h1 h2 h3 h4 h5 ⊢
    refine ⟨by rw [World.frozen?_setCell]; exact h1, va, vc', ?_, h3, h4.keep fun k e _ => hO k (h5 k e).2.2.1, h5⟩
    rw [World.cell?_setCell_other _ _ _ _ (by simp)]
    exact h2

/-- Behind 't.lines = t.lines[1:]', where the first line's place may have turned. -/
theorem Term.dropped {w w1 : World} {B t c : Nat} {O : Nat → Prop} {r off lc : Nat} {s : Value} {l : List UInt8} {ls : List (List UInt8)} {scr : List UInt8} (h : Term w B t c O (some ⟨r, off, none⟩) lc s (l :: ls) scr)
    (hsz : w1.heap.size = w.heap.size) (hos : w1.os = w.os) (hta : w1.tape = w.tape) (hou : w1.output = w.output) (hO : ∀ k, k ≠ r → w1.heap[k]? = w.heap[k]?) (hr : ∀ j, w1.frozen? ⟨r, off + (j + 1), none⟩ = w.frozen? ⟨r, off + (j + 1), none⟩ ∧ w1.cell? ⟨r, off + (j + 1), none⟩ = w.cell? ⟨r, off + (j + 1), none⟩)
    (la : Option Addr) (n' : Nat) (hla : la = some ⟨r, off + 1, none⟩ ∨ ls = [] ∧ la = some ⟨r, off, none⟩) (hn' : n' = ls.length) :
    Term (w1.setCell ⟨t, c, none⟩ (.slice la n' (lc - 1))) B t c O la (lc - 1) s ls scr ∧ Turned (fun k => k = t ∨ k = r) w (w1.setCell ⟨t, c, none⟩ (.slice la n' (lc - 1))) := by
  subst hn'
  obtain ⟨ro, rt, rs⟩ := h.lo r rfl
  have hT1 : Turned (fun k => k = t ∨ k = r) w w1 := ⟨hos, hta, hou, by omega, fun k hk hn => hO k (fun e => hn (.inr e))⟩
  have htt : w1.heap[t]? = w.heap[t]? := hO t (Ne.symm rt)
  have hc1 : w1.cell? ⟨t, c, none⟩ = some (.slice (some ⟨r, off, none⟩) (ls.length + 1) lc) := (World.cell?_of_block (w := w) htt).trans h.lines
  have hK : ∀ k, k ≠ r → k ≠ t → (w1.setCell ⟨t, c, none⟩ (.slice la ls.length (lc - 1))).heap[k]? = w.heap[k]? := fun k h1 h2 => (Below.heap_setCell _ _ _ _ h2).trans (hO k h1)
  have hblk : ∀ k, (Value.slice la ls.length (lc - 1)).ownBlock = some k → k = r := fun k e => by
    rcases hla with rfl | ⟨_, rfl⟩ <;> (simp only [Value.ownBlock, Option.some.injEq] at e; exact e.symm)
  have hcap := h.cap
  simp only [List.length_cons] at hcap
  refine ⟨⟨World.cell?_setCell_same _ _ _ hc1, ?_, ?_, ?_, by omega, fun k e => ?_, fun h0 => ?_, ?_, h.st, h.ot, fun k e => ?_⟩, hT1.set (.inl (.inl rfl))⟩
  · rw [World.cell?_setCell_other _ _ _ _ (by simp)]; exact (World.cell?_of_block (w := w) htt).trans h.screen
  · rw [World.frozen?_setCell]; exact (World.frozen?_of_block (w := w) htt).trans h.soft1
  · rw [World.frozen?_setCell]; exact (World.frozen?_of_block (w := w) htt).trans h.soft2
  · rw [hblk k e]; exact ⟨ro, rt, rs⟩
  · rcases hla with rfl | ⟨rfl, _⟩
    · obtain ⟨r', off', he, hrow⟩ := h.row (by simp)
      cases he
      refine ⟨r, off + 1, rfl, fun j hj => ?_⟩
      obtain ⟨h1, va, vc', h2, h3, h4, h5⟩ := hrow (j + 1) (by simpa using hj)
      simp only [List.getElem_cons_succ] at h1 h2 h3 h4 h5
      have e1 : off + 1 + j = off + (j + 1) := by omega
      rw [e1]
      refine ⟨by rw [World.frozen?_setCell, (hr j).1]; exact h1, va, vc', ?_, h3, h4.keep fun k e _ => hK k (h5 k e).2.2.1 (h5 k e).2.1, h5⟩
      rw [World.cell?_setCell_other _ _ _ _ (by simp), (hr j).2]
      exact h2
    · simp at h0
  · exact owns_keep h.scr fun k e => hK k (fun e' => by rw [e'] at e; exact rs e) (h.st k e).2
  · have := h.lt k e
    simpa [World.setCell, hsz] using this
end Go.Proofs.Ytbffnamdpmjfnaa

/- The small functions of terminal: isMade, copied, copiedLines, New, Left, Screen, Copy. -/
import Derived.Test.YtbffnamdpmjfnaaTeTerm
namespace Go.Proofs.Ytbffnamdpmjfnaa
open Go.RowKit

theorem Te_made_row {w w1 : World} {T n : Nat} {xs : List Value} (h : w1.ownsRow w.heap.size T 1 (.slice (some ⟨w.heap.size, 0, none⟩) n n) n xs) (hg : w.grownBy w1 none) :
    ∃ cur : List Value, cur.length = n ∧ Hid (w1.heap[w.heap.size]? = some (.cells cur.toArray T (0, 0))) ∧ Below w.heap.size w w1 := by
  refine (?_ : ∃ cur : List Value, cur.length = n ∧ w1.heap[w.heap.size]? = some (.cells cur.toArray T (0, 0)) ∧ Below w.heap.size w w1)
  rcases h.2 with ⟨h0, _⟩ | ⟨g, c, cur, h1, h2, h3, h4, h5, h6, h7⟩
  · cases h0
  · cases h1
    exact ⟨cur.toList, by rw [Array.length_toList]; omega, by rw [Array.toArray_toList]; exact h3, (Below.refl _ w).grown hg (Nat.le_refl _) (fun k e => by cases e)⟩
/-- The bytes of a slice, as cells to be copied. -/
theorem Te_bys_src {w : World} {a1 : Option Addr} {n c1 : Nat} {l : List UInt8} {X : List Value} (h : Bys w (.slice a1 n c1) l) (hX : X = l.map bv) :
    0 < X.length → ∃ ad, a1 = some ad ∧ ∀ j v, X[j]? = some v → w.cell? (ad.add j) = some v := by
  intro h0
  obtain ⟨a, c, he, hc⟩ := bys_form h
  cases he
  obtain ⟨b, off, rfl, hd⟩ := hc (by rw [hX] at h0; simpa using h0)
  exact ⟨_, rfl, fun j v hj => bys_news hd j v (by rw [← hX]; exact hj)⟩

/-- Row r has, from place off on, the lines ls, whose bytes lie in blocks from B on, none of them r. -/
def LRow (W : World) (B r off : Nat) (ls : List (List UInt8)) : Prop :=
  ∀ j (hj : j < ls.length), W.frozen? ⟨r, off + j, none⟩ = false ∧ ∃ va vc, W.cell? ⟨r, off + j, none⟩ = some (.slice va ls[j].length vc) ∧ ls[j].length ≤ vc ∧ Bys W (.slice va ls[j].length vc) ls[j] ∧ ∀ k, (Value.slice va ls[j].length vc).ownBlock = some k → B ≤ k ∧ k ≠ r ∧ k < W.heap.size
theorem LRow.below {W W' : World} {B r off : Nat} {ls : List (List UInt8)} (h : LRow W B r off ls) (hB : Below W.heap.size W W') : LRow W' B r off ls := fun j hj => by
  obtain ⟨h1, va, vc, h2, h3, h4, h5⟩ := h j hj
  have hr := World.block_lt_of_cell? W _ h2
  exact ⟨(hB.frozen (p := ⟨r, off + j, none⟩) hr).trans h1, va, vc, (hB.cell (p := ⟨r, off + j, none⟩) hr).trans h2, h3, h4.below hB, fun k e => by have := h5 k e; have := hB.size; omega⟩
/-- One more line is laid into its place. -/
theorem LRow.stored {w1 : World} {B B' r k n : Nat} {ls : List (List UInt8)} {xs : List Value} (hcur : w1.ownsRow B' 28 1 (.slice (some ⟨r, 0, none⟩) n n) n xs) (hk : k < ls.length) (hn : ls.length = n) (h : LRow w1 B r 0 (ls.take k))
    (va : Option Addr) (vc : Nat) (hb : Bys w1 (.slice va ls[k].length vc) ls[k]) (hvc : ls[k].length ≤ vc) (hv : ∀ j, (Value.slice va ls[k].length vc).ownBlock = some j → B ≤ j ∧ j ≠ r ∧ j < w1.heap.size) :
    LRow (w1.setCell ⟨r, k, none⟩ (.slice va ls[k].length vc)) B r 0 (ls.take (k + 1)) ∧ ∃ xs' : List Value, (w1.setCell ⟨r, k, none⟩ (.slice va ls[k].length vc)).ownsRow B' 28 1 (.slice (some ⟨r, 0, none⟩) n n) n xs' := by
  have hxl : xs.length = n := by have := hcur.1; omega
  have hcell : w1.cell? ⟨r, k, none⟩ = some (xs[k]'(by omega)) := by
    rw [hcur.cellAt k (by omega), List.getElem?_eq_getElem]
  have hO : ∀ j, j ≠ r → (w1.setCell ⟨r, k, none⟩ (.slice va ls[k].length vc)).heap[j]? = w1.heap[j]? := fun j hj => Below.heap_setCell _ _ _ _ hj
  refine ⟨fun j hj => ?_, _, (hcur.stored k (.slice va ls[k].length vc)).1⟩
  have hj' : j < k + 1 := by simp at hj; omega
  by_cases hjk : j = k
  · subst hjk
    simp only [List.getElem_take, Nat.zero_add]
    refine ⟨by rw [World.frozen?_setCell]; exact hcur.frozenAt j, va, vc, World.cell?_setCell_same _ _ _ hcell, hvc, hb.keep fun i e _ => hO i (hv i e).2.1, fun i e => ?_⟩
    simpa [World.setCell] using hv i e
  · obtain ⟨h1, va', vc', h2, h3, h4, h5⟩ := h j (by simp; omega)
    simp only [List.getElem_take] at h1 h2 h3 h4 h5 ⊢
    refine ⟨by rw [World.frozen?_setCell]; exact h1, va', vc', by rw [World.cell?_setCell_other _ _ _ _ (by simp)]; exact h2, h3, h4.keep fun i e _ => hO i (h5 i e).2.1, fun i e => ?_⟩
    simpa [World.setCell] using h5 i e


end Go.Proofs.Ytbffnamdpmjfnaa

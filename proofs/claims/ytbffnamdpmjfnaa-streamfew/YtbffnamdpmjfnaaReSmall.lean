/- What retry's texts take of kern's, for a seat that has no kern. -/
import Derived.Test.YtbffnamdpmjfnaaMeTypes
import Derived.Test.YtbffnamdpmjfnaaTeLeaf
import Derived.Lib.BufferMore
namespace Go.Proofs.Ytbffnamdpmjfnaa
open Go.RowKit

theorem recv_below (w : World) (o : Obj) : Below w.heap.size w (w.alloc o) := (Below.refl _ _).alloc (Nat.le_refl _) _
theorem splice_get (L cs : List Value) (off i : Nat) (h : off + cs.length ≤ L.length) : (splice L off cs)[i]? = if i < off then L[i]? else if i < off + cs.length then cs[i - off]? else L[i]? := by
  unfold splice
  split
  · rename_i h1
    rw [List.getElem?_append_left (by simp; omega), List.getElem?_take, if_pos h1]
  · rename_i h1
    rw [List.getElem?_append_right (by simp; omega), List.length_take, Nat.min_eq_left (by omega)]
    split
    · rename_i h2
      rw [List.getElem?_append_left (by omega)]
    · rename_i h2
      rw [List.getElem?_append_right (by omega), List.getElem?_drop]
      congr 1
      omega
end Go.Proofs.Ytbffnamdpmjfnaa

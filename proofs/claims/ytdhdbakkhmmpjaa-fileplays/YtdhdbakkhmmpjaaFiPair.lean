/- A file and the reference's file, side by side. -/
import Derived.Test.YtdhdbakkhmmpjaaFiSteps
namespace Go.Proofs.Ytdhdbakkhmmpjaa
open Go.RowKit

/-- The program's file at g and the reference's at r have the same bytes L, and share nothing. -/
structure Pair (w W : World) (B r g b cap : Nat) (u : Value) (L : List UInt8) : Prop where
  file : FileAt W g b cap L
  ref : RFileAt W B r u L
  gr : g ≠ r
  br : b ≠ r
  ug : u.ownBlock ≠ some g
  ub : u.ownBlock ≠ some b
  hg : w.heap.size ≤ g
  hb : w.heap.size ≤ b
  hr : w.heap.size ≤ r
  hB : w.heap.size ≤ B
  hBW : B ≤ W.heap.size
  len : L.length ≤ 1048576
  below : Below w.heap.size w W

theorem Pair.on {w W W' : World} {B r g b cap : Nat} {u : Value} {L : List UInt8} (h : Pair w W B r g b cap u L) (hb : Below W.heap.size W W') : Pair w W' B r g b cap u L :=
  ⟨h.file.below hb, h.ref.below hb, h.gr, h.br, h.ug, h.ub, h.hg, h.hb, h.hr, h.hB, Nat.le_trans h.hBW hb.size, h.len, h.below.trans (hb.mono h.below.size)⟩
/-- Behind a call that turned the program's file alone the reference's is as it was. -/
theorem Pair.mid {w W W5 : World} {B r g b cap : Nat} {u : Value} {L : List UInt8} (h : Pair w W B r g b cap u L) (hT : Turned (fun k => k = g ∨ k = b) W W5) : RFileAt W5 B r u L :=
  h.ref.keep fun k hk hor => hT.block k hk (by
    rcases hor with rfl | hu
    · intro e
      rcases e with e | e
      · exact h.gr e.symm
      · exact h.br e.symm
    · intro e
      rcases e with rfl | rfl
      · exact h.ug hu
      · exact h.ub hu)
theorem Pair.step {w W W5 W6 : World} {B r g b cap b' cap' : Nat} {u u' : Value} {L L' : List UInt8} (h : Pair w W B r g b cap u L) (hF5 : FileAt W5 g b' cap' L') (hb5 : b' = b ∨ W.heap.size ≤ b') (hT5 : Turned (fun k => k = g ∨ k = b) W W5)
    (hR6 : RFileAt W6 B r u' L') (hu6 : ∀ k, u'.ownBlock = some k → u.ownBlock = some k ∨ W5.heap.size ≤ k) (hT6 : Turned (fun k => k = r ∨ u.ownBlock = some k) W5 W6) (hL : L'.length ≤ 1048576) : Pair w W6 B r g b' cap' u' L' := by
  have hgl := hF5.lt
  have hbl := hF5.row.lt
  have hgW := h.file.lt
  have hbW := h.file.row.lt
  have hrW := h.ref.lt
  have hz := h.below.size
  have hs5 := hT5.size
  have hs6 := hT6.size
  have hu : ∀ k, u.ownBlock = some k → k < W.heap.size := fun k e => (h.ref.row.lt k e).2
  have hub' : u.ownBlock ≠ some b' := by
    rcases hb5 with rfl | hb5
    · exact h.ub
    · intro e; have := hu _ e; omega
  have hbr' : b' ≠ r := by
    rcases hb5 with rfl | hb5
    · exact h.br
    · omega
  have hgr := h.gr
  have h1 := h.hg
  have h2 := h.hb
  have h3 := h.hr
  have hBW := h.hBW
  have hbb : w.heap.size ≤ b' := by omega
  refine ⟨hF5.turned hT6 (fun e => ?_) (fun e => ?_), hR6, hgr, hbr', fun e => ?_, fun e => ?_, h1, hbb, h3, h.hB, by omega, hL, ?_⟩
  · rcases e with e | e
    · exact hgr e
    · exact h.ug e
  · rcases e with e | e
    · exact hbr' e
    · exact hub' e
  · rcases hu6 _ e with e | e
    · exact h.ug e
    · omega
  · rcases hu6 _ e with e | e
    · exact hub' e
    · omega
  · refine (h.below.trans (hT5.below (fun k e => by omega) hz)).trans (hT6.below (fun k e => ?_) (by omega))
    rcases e with rfl | e
    · exact h3
    · exact Nat.le_trans h.hB (h.ref.row.lt k e).1
/-- A copy goes on, the first one is cut. -/
theorem Pair.copied {w W W5 W6 : World} {B r g b cap g' b' cap' : Nat} {u : Value} {L : List UInt8} (h : Pair w W B r g b cap u L) (hF5 : FileAt W5 g' b' cap' L) (hg' : W.heap.size ≤ g') (hb' : W.heap.size ≤ b') (hB5 : Below W.heap.size W W5)
    (hT6 : Turned (fun k => k = g ∨ k = b) W5 W6) : Pair w W6 B r g' b' cap' u L := by
  have h5 := h.on hB5
  have hgW := h.file.lt
  have hbW := h.file.row.lt
  have hrW := h.ref.lt
  have hz := h.below.size
  have hz5 := h5.below.size
  have hu : ∀ k, u.ownBlock = some k → k < W.heap.size := fun k e => (h.ref.row.lt k e).2
  have h1 := h.hg
  have h2 := h.hb
  have hs6 := hT6.size
  have hs5 := hB5.size
  have hBW := h.hBW
  refine ⟨hF5.turned hT6 (by omega) (by omega), h5.mid hT6, by omega, by omega, fun e => by have := hu _ e; omega, fun e => by have := hu _ e; omega, by omega, by omega, h.hr, h.hB, by omega, h.len, ?_⟩
  exact h5.below.trans (hT6.below (fun k e => by omega) hz5)
end Go.Proofs.Ytdhdbakkhmmpjaa

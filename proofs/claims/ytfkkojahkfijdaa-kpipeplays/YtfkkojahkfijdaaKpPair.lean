/- The program's pipe and the reference's, side by side. -/
import Derived.Test.YtfkkojahkfijdaaKpRef3
import Derived.Test.YtfkkojahkfijdaaKpAlive
import Derived.Test.YtfkkojahkfijdaaKpTurn
import Derived.Test.YtfkkojahkfijdaaKpFrame
namespace Go.Proofs.Ytfkkojahkfijdaa
open Go.RowKit

structure Pr (w0 W : World) (B g t : Nat) (a : Option Addr) (c : Nat) (q : List UInt8) (rd wt : Nat) : Prop where
  prog : PipeAt W g q rd wt
  ref : RP W B t a c q rd wt
  gt : g ≠ t
  gB : g < B
  tB : t < B
  wg : w0.heap.size ≤ g
  wt : w0.heap.size ≤ t
  sz : B ≤ W.heap.size
  below : Below w0.heap.size w0 W
theorem Pr.on {w0 W W' : World} {B g t : Nat} {a : Option Addr} {c : Nat} {q : List UInt8} {rd wt : Nat} (h : Pr w0 W B g t a c q rd wt) (hB : Below W.heap.size W W') : Pr w0 W' B g t a c q rd wt :=
  ⟨h.prog.below hB, h.ref.below hB, h.gt, h.gB, h.tB, h.wg, h.wt, Nat.le_trans h.sz hB.size, h.below.trans (hB.mono h.below.size)⟩
theorem Pr.mid {w0 W W1 : World} {B g t : Nat} {a : Option Addr} {c : Nat} {q : List UInt8} {rd wt : Nat} (h : Pr w0 W B g t a c q rd wt) (hT : Turned (fun k => k = g) W W1) : RP W1 B t a c q rd wt :=
  h.ref.keep hT (fun e => h.gt e.symm) (fun b hb _ _ _ e => by have := h.gB; omega)
theorem Pr.midBelow {w0 W W1 : World} {B g t : Nat} {a : Option Addr} {c : Nat} {q : List UInt8} {rd wt : Nat} (h : Pr w0 W B g t a c q rd wt) (hT : Turned (fun k => k = g) W W1) : Below w0.heap.size w0 W1 :=
  h.below.trans (hT.below (fun k e => by have := h.wg; omega) h.below.size)
theorem Pr.step {w0 W W1 W2 : World} {B g t : Nat} {a a' : Option Addr} {c c' : Nat} {q q' : List UInt8} {rd wt rd' wt' : Nat} (h : Pr w0 W B g t a c q rd wt) (hP : PipeAt W1 g q' rd' wt') (hT1 : Turned (fun k => k = g) W W1) (hR : RP W2 B t a' c' q' rd' wt') (hT2 : Turned (fun k => k = t) W1 W2) : Pr w0 W2 B g t a' c' q' rd' wt' :=
  ⟨hP.keep (hT2.block g hP.lt h.gt), hR, h.gt, h.gB, h.tB, h.wg, h.wt, Nat.le_trans h.sz (Nat.le_trans hT1.size hT2.size), (h.midBelow hT1).trans (hT2.below (fun k e => by have := h.wt; omega) (h.midBelow hT1).size)⟩
/-- A block that is neither's turns. -/
theorem Pr.other {w0 W W' : World} {B g t : Nat} {a : Option Addr} {c : Nat} {q : List UInt8} {rd wt : Nat} (h : Pr w0 W B g t a c q rd wt) {S : Nat → Prop} (hT : Turned S W W') (hg : ¬ S g) (ht : ¬ S t) (ha : ∀ b, (Value.slice a q.length c).ownBlock = some b → ¬ S b) (hl : ∀ k, S k → w0.heap.size ≤ k) : Pr w0 W' B g t a c q rd wt :=
  ⟨h.prog.keep (hT.block g h.prog.lt hg), h.ref.keep hT ht (fun b _ _ _ e => ha b e), h.gt, h.gB, h.tB, h.wg, h.wt, Nat.le_trans h.sz hT.size, h.below.trans (hT.below hl h.below.size)⟩
end Go.Proofs.Ytfkkojahkfijdaa

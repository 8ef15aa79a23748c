/- A terminal and the reference's terminal, side by side; lists of steps, read in a walk. -/
import Derived.Test.YtoihblhhifcpnaaTeRef2
import Derived.Test.YtoihblhhifcpnaaTeFrame
namespace Go.Proofs.Ytoihblhhifcpnaa
open Go.RowKit

/-- The program's terminal at t and the reference's at r have the same lines and the same screen, and share nothing. -/
structure Pr (w W : World) (t r B1 B2 : Nat) (O1 O2 : Nat → Prop) (la : Option Addr) (lc : Nat) (s : Value) (ls : List (List UInt8)) (scr : List UInt8) : Prop where
  prog : PTerm W B1 t O1 ls scr
  ref : Term W B2 r 0 O2 la lc s ls scr
  apart : ∀ k, O1 k → ¬ O2 k
  b1 : w.heap.size ≤ B1
  b2 : w.heap.size ≤ B2
  below : Below w.heap.size w W

theorem Pr.on {w W W' : World} {t r B1 B2 : Nat} {O1 O2 : Nat → Prop} {la : Option Addr} {lc : Nat} {s : Value} {ls : List (List UInt8)} {scr : List UInt8} (h : Pr w W t r B1 B2 O1 O2 la lc s ls scr) (hb : Below W.heap.size W W') : Pr w W' t r B1 B2 O1 O2 la lc s ls scr :=
  ⟨h.prog.below hb, h.ref.below hb, h.apart, h.b1, h.b2, h.below.trans (hb.mono h.below.size)⟩
/-- Behind a call that turned the program's terminal alone the reference's is as it was. -/
theorem Pr.mid {w W W5 : World} {t r B1 B2 : Nat} {O1 O2 : Nat → Prop} {la : Option Addr} {lc : Nat} {s : Value} {ls : List (List UInt8)} {scr : List UInt8} (h : Pr w W t r B1 B2 O1 O2 la lc s ls scr) (hT : Turned O1 W W5) : Term W5 B2 r 0 O2 la lc s ls scr :=
  h.ref.turned hT fun k h2 h1 => h.apart k h1 h2
theorem Pr.midBelow {w W W5 : World} {t r B1 B2 : Nat} {O1 O2 : Nat → Prop} {la : Option Addr} {lc : Nat} {s : Value} {ls : List (List UInt8)} {scr : List UInt8} (h : Pr w W t r B1 B2 O1 O2 la lc s ls scr) (hT : Turned O1 W W5) : Below w.heap.size w W5 :=
  h.below.trans (hT.below (fun k e => Nat.le_trans h.b1 (h.prog.lt k e).1) h.below.size)
theorem Pr.step {w W W5 W6 : World} {t r B1 B2 : Nat} {O1 O2 O1' O2' : Nat → Prop} {la la' : Option Addr} {lc lc' : Nat} {s s' : Value} {ls ls' : List (List UInt8)} {scr scr' : List UInt8} (h : Pr w W t r B1 B2 O1 O2 la lc s ls scr)
    (hP5 : PTerm W5 B1 t O1' ls' scr') (hO5 : ∀ k, O1' k → O1 k ∨ W.heap.size ≤ k) (hT5 : Turned O1 W W5) (hR6 : Term W6 B2 r 0 O2' la' lc' s' ls' scr') (hO6 : ∀ k, O2' k → O2 k ∨ W5.heap.size ≤ k) (hT6 : Turned O2 W5 W6) : Pr w W6 t r B1 B2 O1' O2' la' lc' s' ls' scr' := by
  have hs5 := hT5.size
  have hm := h.midBelow hT5
  refine ⟨hP5.turned hT6 fun k h1 h2 => ?_, hR6, fun k h1 h2 => ?_, h.b1, h.b2, hm.trans (hT6.below (fun k e => Nat.le_trans h.b2 (h.ref.lt k e).1) hm.size)⟩
  · rcases hO5 k h1 with h3 | h3
    · exact h.apart k h3 h2
    · have := (h.ref.lt k h2).2; omega
  · have := (hP5.lt k h1).2
    rcases hO6 k h2 with h4 | h4
    · rcases hO5 k h1 with h3 | h3
      · exact h.apart k h3 h4
      · have := (h.ref.lt k h4).2; omega
    · omega
/-- A copy goes on, the first one turns. -/
theorem Pr.copied {w W W5 W6 : World} {t t' r B1 B2 : Nat} {O1 O2 O' : Nat → Prop} {la : Option Addr} {lc : Nat} {s : Value} {ls : List (List UInt8)} {scr : List UInt8} (h : Pr w W t r B1 B2 O1 O2 la lc s ls scr)
    (hP5 : PTerm W5 W.heap.size t' O' ls scr) (hB5 : Below W.heap.size W W5) (hT6 : Turned O1 W5 W6) : Pr w W6 t' r W.heap.size B2 O' O2 la lc s ls scr := by
  have h5 := h.on hB5
  refine ⟨hP5.turned hT6 fun k h1 h2 => ?_, h5.mid hT6, fun k h1 h2 => ?_, h.below.size, h.b2, h5.midBelow hT6⟩
  · have := (hP5.lt k h1).1; have := (h.prog.lt k h2).2; omega
  · have := (hP5.lt k h1).1; have := (h.ref.lt k h2).2; omega

/-- Step j of the steps l, in whatever later world. -/
theorem stps_at {W W' : World} {v : Value} {l : List Stp} (h : Stps W v l) (hB : Below W.heap.size W W') (j : Nat) (hj : j < l.length) :
    ∃ b off c va vc, v = .slice (some ⟨b, off, none⟩) l.length c ∧ b < W.heap.size ∧ W'.cell? ⟨b, off + j * 3, none⟩ = some (.int .i64 l[j].1) ∧ W'.cell? ⟨b, off + j * 3 + 1, none⟩ = some (.int .i64 l[j].2.1) ∧
      W'.cell? ⟨b, off + j * 3 + 2, none⟩ = some (.slice va l[j].2.2.length vc) ∧ Bys W (.slice va l[j].2.2.length vc) l[j].2.2 := by
  obtain ⟨a, c, rfl, hc⟩ := h
  obtain ⟨b, off, rfl, hd⟩ := hc (by omega)
  obtain ⟨va, vc, q0, q1, q2, hb⟩ := hd j hj
  have hlt : b < W.heap.size := World.block_lt_of_cell? W _ q0
  exact ⟨b, off, c, va, vc, rfl, hlt, (hB.cell (p := ⟨b, off + j * 3, none⟩) hlt).trans q0, (hB.cell (p := ⟨b, off + j * 3 + 1, none⟩) hlt).trans q1, (hB.cell (p := ⟨b, off + j * 3 + 2, none⟩) hlt).trans q2, hb⟩
end Go.Proofs.Ytoihblhhifcpnaa

/- Steps of a stream that came in as an argument. -/
import Derived.Test.YtbffnamdpmjfnaaMeRows
import Derived.OpenShut
namespace Go.Proofs.Ytbffnamdpmjfnaa
open Go.ChangeShapes Go.WideShapes Go.ChangeAt Go.RowKit Go.Deep

structure SSt where
  what : Int
  c : UInt8
def SCells (cs : List Value) (x : SSt) : Prop := cs = [.int .i64 x.what, .int .u8 (x.c.toNat : Int)]
def SDat {H : Type} (d : DataW H) (_ : SSt) : Prop := ∃ x0 x1, d = .agg [x0, x1]
def SSts (W : World) (v : Value) (l : List SSt) : Prop := RowsR W 2 SCells v l
theorem sst_cells {H : Type} {enc : TypeId × Value → H} {P : Program} {W : World} {base : Nat} {fuel e : Nat} {f0 f1 : Field} {cs : List Value} {d : DataW H} {p : List MemPlace}
    (he : P.underlying e = some (.struct #[f0, f1])) (ce : P.cellsOf e = 2) (o0 : f0.offset = 0) (o1 : f1.offset = 1)
    (c0 : P.cellsOf f0.type = 1) (c1 : P.cellsOf f1.type = 1) (t0 : P.underlying f0.type = some (.int .i64)) (t1 : P.underlying f1.type = some (.int .u8))
    (h : DataW.trod enc P W base (fun _ => true) true fuel e cs = some (d, p)) : ∃ x : SSt, SCells cs x ∧ SDat d x := by
  obtain ⟨xs, k, hk, hxy, hcl, hxl, hf⟩ := DataW.trod_struct he h
  rw [ce] at hcl
  match xs, hxl, cs, hcl with
  | [y0, y1], _, [v0, v1], _ =>
    have g0 := hf 0 f0 rfl
    have g1 := hf 1 f1 rfl
    simp [o0, c0] at g0
    simp [o1, c1] at g1
    obtain ⟨a, ha, _⟩ := DataW.trod_int t0 g0
    obtain ⟨b, hb, hbw⟩ := DataW.trod_int t1 g1
    obtain rfl : v0 = .int .i64 a := by simpa using ha
    obtain rfl : v1 = .int .u8 b := by simpa using hb
    have hw : 0 ≤ b ∧ b < 256 := by have := bounds_u8 hbw.2; omega
    simp only [Prod.mk.injEq] at hxy
    exact ⟨⟨a, UInt8.ofNat b.toNat⟩, by show [_, _] = [_, _]; rw [show ((UInt8.ofNat b.toNat).toNat : Int) = b by simp; omega], ⟨_, _, by simpa using hxy.1⟩⟩
theorem SSts.at {W W' : World} {a : Option Addr} {n c : Nat} {l : List SSt} (h : SSts W (.slice a n c) l) (hB : Below W.heap.size W W') (j : Nat) (hj : j < l.length) :
    ∃ b off, a = some ⟨b, off, none⟩ ∧ b < W.heap.size ∧ W'.cell? ⟨b, off + j * 2, none⟩ = some (.int .i64 l[j].what) ∧ W'.cell? ⟨b, off + j * 2 + 1, none⟩ = some (.int .u8 (l[j].c.toNat : Int)) := by
  obtain ⟨b, off, cs, rfl, rfl, _, h3⟩ := RowsR.at h j hj
  have hl : b < W.heap.size := World.block_lt_of_cell? W _ (h3 0 _ rfl)
  have key : ∀ i v, W.cell? ⟨b, off + j * 2 + i, none⟩ = some v → W'.cell? ⟨b, off + j * 2 + i, none⟩ = some v := fun i v hv => (hB.cell (p := ⟨b, off + j * 2 + i, none⟩) hl).trans hv
  exact ⟨b, off, rfl, hl, key 0 _ (h3 0 _ rfl), key 1 _ (h3 1 _ rfl)⟩
end Go.Proofs.Ytbffnamdpmjfnaa

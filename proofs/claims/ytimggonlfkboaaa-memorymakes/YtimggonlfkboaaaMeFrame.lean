/- Lines, steps, answers and numbers that came in as an argument: what a walk is told of them, and their sizes. -/
import Derived.Test.YtimggonlfkboaaaMeRows
import Derived.Test.YtimggonlfkboaaaMeNew2
namespace Go.Proofs.Ytimggonlfkboaaa
open Go.ChangeShapes Go.WideShapes Go.ChangeAt Go.RowKit Go.Deep

/-- Lines. -/
def MLns (W : World) (v : Value) (ls : List (List UInt8)) : Prop := RowsR W 1 (fun cs x => ∃ u, cs = [u] ∧ ByC W u x) v ls
theorem mlns_arg {H : Type} {enc : TypeId × Value → H} {P : Program} {W : World} {base : Nat} {a : Option Addr} {len cap fuel t e u : Nat} {d : DataW H} {p : List MemPlace}
    (ht : P.underlying t = some (.slice e)) (he : P.underlying e = some (.slice u)) (ce : P.cellsOf e = 1) (hu : P.underlying u = some (.int .u8)) (cu : P.cellsOf u = 1)
    (hf : DataW.trod enc P W base (fun _ => true) true fuel t (Value.slice a len cap).cells.toList = some (d, p)) : ∃ l, MLns W (.slice a len cap) l ∧ DatL Kp_DataOf d l :=
  rows_arg 1 _ Kp_DataOf ht ce (by decide) (fun fuel cs d p h hl => by
    match cs, hl with
    | [v0], _ =>
      obtain ⟨x, h1, h2⟩ := byc_arg he hu cu h
      exact ⟨x, ⟨v0, rfl, h1⟩, h2⟩) hf
theorem MLns.at {W W' : World} {a : Option Addr} {n c : Nat} {ls : List (List UInt8)} (h : MLns W (.slice a n c) ls) (hB : Below W.heap.size W W') (j : Nat) (hj : j < ls.length) :
    ∃ b off va vc, a = some ⟨b, off, none⟩ ∧ W'.cell? ⟨b, off + j, none⟩ = some (.slice va ls[j].length vc) ∧ Bys W (.slice va ls[j].length vc) ls[j] ∧ ls[j].length ≤ vc ∧ b < W.heap.size := by
  obtain ⟨b, off, cs, rfl, ⟨u, rfl, va, vc, rfl, hb, hc⟩, _, h3⟩ := RowsR.at h j hj
  have h4 := h3 0 _ rfl
  rw [Nat.mul_one, Nat.add_zero] at h4
  have hl := World.block_lt_of_cell? W _ h4
  exact ⟨b, off, va, vc, rfl, (hB.cell (p := ⟨b, off + j, none⟩) hl).trans h4, hb, hc, hl⟩
/-- A step: what, two numbers, bytes. -/
structure MSt where
  what : Int
  n : Int
  m : Int
  data : List UInt8
def MCells (W : World) (cs : List Value) (x : MSt) : Prop := ∃ va vc, cs = [.int .i64 x.what, .int .i64 x.n, .int .i64 x.m, .slice va x.data.length vc] ∧ Bys W (.slice va x.data.length vc) x.data ∧ x.data.length ≤ vc
def MDat {H : Type} (d : DataW H) (x : MSt) : Prop := ∃ x0 x1 x2 d3, d = .agg [x0, x1, x2, d3] ∧ Kp_DataOf d3 x.data
def MSts (W : World) (v : Value) (l : List MSt) : Prop := RowsR W 4 (MCells W) v l
theorem mst_cells {H : Type} {enc : TypeId × Value → H} {P : Program} {W : World} {base : Nat} {fuel e u : Nat} {f0 f1 f2 f3 : Field} {cs : List Value} {d : DataW H} {p : List MemPlace}
    (he : P.underlying e = some (.struct #[f0, f1, f2, f3])) (ce : P.cellsOf e = 4) (o0 : f0.offset = 0) (o1 : f1.offset = 1) (o2 : f2.offset = 2) (o3 : f3.offset = 3)
    (c0 : P.cellsOf f0.type = 1) (c1 : P.cellsOf f1.type = 1) (c2 : P.cellsOf f2.type = 1) (c3 : P.cellsOf f3.type = 1)
    (t0 : P.underlying f0.type = some (.int .i64)) (t1 : P.underlying f1.type = some (.int .i64)) (t2 : P.underlying f2.type = some (.int .i64)) (t3 : P.underlying f3.type = some (.slice u)) (tu : P.underlying u = some (.int .u8)) (cu : P.cellsOf u = 1)
    (h : DataW.trod enc P W base (fun _ => true) true fuel e cs = some (d, p)) : ∃ x : MSt, MCells W cs x ∧ MDat d x := by
  obtain ⟨xs, k, hk, hxy, hcl, hxl, hf⟩ := DataW.trod_struct he h
  rw [ce] at hcl
  match xs, hxl, cs, hcl with
  | [y0, y1, y2, y3], _, [v0, v1, v2, v3], _ =>
    have g0 := hf 0 f0 rfl
    have g1 := hf 1 f1 rfl
    have g2 := hf 2 f2 rfl
    have g3 := hf 3 f3 rfl
    simp [o0, c0] at g0
    simp [o1, c1] at g1
    simp [o2, c2] at g2
    simp [o3, c3] at g3
    obtain ⟨a, ha, _⟩ := DataW.trod_int t0 g0
    obtain ⟨b, hb, _⟩ := DataW.trod_int t1 g1
    obtain ⟨c, hc, _⟩ := DataW.trod_int t2 g2
    obtain rfl : v0 = .int .i64 a := by simpa using ha
    obtain rfl : v1 = .int .i64 b := by simpa using hb
    obtain rfl : v2 = .int .i64 c := by simpa using hc
    obtain ⟨y3a, y3b⟩ := y3
    obtain ⟨x, ⟨va, vc, rfl, h1, h2⟩, hD⟩ := byc_arg t3 tu cu g3
    simp only [Prod.mk.injEq] at hxy
    exact ⟨⟨a, b, c, x⟩, ⟨va, vc, rfl, h1, h2⟩, ⟨_, _, _, y3a, by simpa using hxy.1, hD⟩⟩
theorem MSts.at {W W' : World} {a : Option Addr} {n c : Nat} {l : List MSt} (h : MSts W (.slice a n c) l) (hB : Below W.heap.size W W') (j : Nat) (hj : j < l.length) :
    ∃ b off va vc, a = some ⟨b, off, none⟩ ∧ b < W.heap.size ∧ (W'.cell? ⟨b, off + j * 4, none⟩ = some (.int .i64 l[j].what) ∧ W'.cell? ⟨b, off + j * 4 + 1, none⟩ = some (.int .i64 l[j].n) ∧ W'.cell? ⟨b, off + j * 4 + 2, none⟩ = some (.int .i64 l[j].m) ∧ W'.cell? ⟨b, off + j * 4 + 3, none⟩ = some (.slice va l[j].data.length vc)) ∧
      Bys W (.slice va l[j].data.length vc) l[j].data ∧ l[j].data.length ≤ vc := by
  obtain ⟨b, off, cs, rfl, ⟨va, vc, rfl, r1, r2⟩, _, h3⟩ := RowsR.at h j hj
  have hl : b < W.heap.size := World.block_lt_of_cell? W _ (h3 0 _ rfl)
  have key : ∀ i v, W.cell? ⟨b, off + j * 4 + i, none⟩ = some v → W'.cell? ⟨b, off + j * 4 + i, none⟩ = some v := fun i v hv => (hB.cell (p := ⟨b, off + j * 4 + i, none⟩) hl).trans hv
  exact ⟨b, off, va, vc, rfl, hl, ⟨key 0 _ (h3 0 _ rfl), key 1 _ (h3 1 _ rfl), key 2 _ (h3 2 _ rfl), key 3 _ (h3 3 _ rfl)⟩, r1, r2⟩
end Go.Proofs.Ytimggonlfkboaaa

/- A plant that came in as an argument: what a walk is told of it, and its size. -/
import Derived.Test.YtimggonlfkboaaaMeFrame
import Derived.Test.YtimggonlfkboaaaMeAns
namespace Go.Proofs.Ytimggonlfkboaaa
open Go.ChangeShapes Go.WideShapes Go.ChangeAt Go.RowKit Go.Deep

/-- Answers, as rows. -/
def ACells (W : World) (cs : List Value) (x : List UInt8 × Int) : Prop := ∃ va vc, cs = [.slice va x.1.length vc, .int .i64 x.2] ∧ Bys W (.slice va x.1.length vc) x.1 ∧ x.1.length ≤ vc
def ADat {H : Type} (d : DataW H) (x : List UInt8 × Int) : Prop := ∃ d0 d1, d = .agg [d0, d1] ∧ Kp_DataOf d0 x.1
theorem ans_cells {H : Type} {enc : TypeId × Value → H} {P : Program} {W : World} {base : Nat} {fuel e u : Nat} {f0 f1 : Field} {cs : List Value} {d : DataW H} {p : List MemPlace}
    (he : P.underlying e = some (.struct #[f0, f1])) (ce : P.cellsOf e = 2) (o0 : f0.offset = 0) (o1 : f1.offset = 1) (c0 : P.cellsOf f0.type = 1) (c1 : P.cellsOf f1.type = 1)
    (t0 : P.underlying f0.type = some (.slice u)) (tu : P.underlying u = some (.int .u8)) (cu : P.cellsOf u = 1) (t1 : P.underlying f1.type = some (.int .i64))
    (h : DataW.trod enc P W base (fun _ => true) true fuel e cs = some (d, p)) : ∃ x, ACells W cs x ∧ ADat d x := by
  obtain ⟨xs, k, hk, hxy, hcl, hxl, hf⟩ := DataW.trod_struct he h
  rw [ce] at hcl
  match xs, hxl, cs, hcl with
  | [y0, y1], _, [v0, v1], _ =>
    have g0 := hf 0 f0 rfl
    have g1 := hf 1 f1 rfl
    simp [o0, c0] at g0
    simp [o1, c1] at g1
    obtain ⟨b, hb, _⟩ := DataW.trod_int t1 g1
    obtain rfl : v1 = .int .i64 b := by simpa using hb
    obtain ⟨y0a, y0b⟩ := y0
    obtain ⟨x, ⟨va, vc, rfl, h1, h2⟩, hD⟩ := byc_arg t0 tu cu g0
    simp only [Prod.mk.injEq] at hxy
    exact ⟨(x, b), ⟨va, vc, rfl, h1, h2⟩, ⟨y0a, _, by simpa using hxy.1, hD⟩⟩
theorem rows_ans {W : World} {v : Value} {l : List (List UInt8 × Int)} (h : RowsR W 2 (ACells W) v l) : AnsR W v l := by
  rcases h with ⟨rfl, rfl⟩ | ⟨q, cap, rfl, h1, h2⟩
  · exact ⟨_, _, rfl, fun h => absurd h (by simp)⟩
  · refine ⟨some q, cap, rfl, fun h0 => ?_⟩
    obtain ⟨b, off, rfl, hd⟩ := h2 h0
    refine ⟨b, off, rfl, fun j hj => ?_⟩
    obtain ⟨cs, ⟨va, vc, rfl, r1, r2⟩, _, h3⟩ := hd j hj
    exact ⟨va, vc, h3 0 _ rfl, h3 1 _ rfl, r1, r2⟩
theorem rows_ints {W : World} {v : Value} {l : List Int} (h : RowsR W 1 (fun cs x => cs = [.int .i64 x]) v l) : IntsR W v l := by
  rcases h with ⟨rfl, rfl⟩ | ⟨q, cap, rfl, h1, h2⟩
  · exact .inl ⟨rfl, rfl⟩
  · refine .inr ⟨q, cap, rfl, fun h0 => ?_⟩
    obtain ⟨b, off, rfl, hd⟩ := h2 h0
    refine ⟨b, off, rfl, fun j hj => ?_⟩
    obtain ⟨cs, rfl, _, h3⟩ := hd j hj
    have := h3 0 _ rfl
    rwa [Nat.mul_one, Nat.add_zero] at this
/-- Faults, as rows. -/
def FCells (cs : List Value) (x : Int × Int) : Prop := cs = [.int .i64 x.1, .int .i64 x.2]
theorem flt_cells {H : Type} {enc : TypeId × Value → H} {P : Program} {W : World} {base : Nat} {fuel e : Nat} {f0 f1 : Field} {cs : List Value} {d : DataW H} {p : List MemPlace}
    (he : P.underlying e = some (.struct #[f0, f1])) (ce : P.cellsOf e = 2) (o0 : f0.offset = 0) (o1 : f1.offset = 1) (c0 : P.cellsOf f0.type = 1) (c1 : P.cellsOf f1.type = 1)
    (t0 : P.underlying f0.type = some (.int .i64)) (t1 : P.underlying f1.type = some (.int .i64))
    (h : DataW.trod enc P W base (fun _ => true) true fuel e cs = some (d, p)) : ∃ x, FCells cs x ∧ True := by
  obtain ⟨xs, k, hk, hxy, hcl, hxl, hf⟩ := DataW.trod_struct he h
  rw [ce] at hcl
  match xs, hxl, cs, hcl with
  | [y0, y1], _, [v0, v1], _ =>
    have g0 := hf 0 f0 rfl
    have g1 := hf 1 f1 rfl
    simp [o0, c0] at g0
    simp [o1, c1] at g1
    obtain ⟨a, ha, _⟩ := DataW.trod_int t0 g0
    obtain ⟨b, hb, _⟩ := DataW.trod_int t1 g1
    obtain rfl : v0 = .int .i64 a := by simpa using ha
    obtain rfl : v1 = .int .i64 b := by simpa using hb
    exact ⟨(a, b), rfl, trivial⟩
/-- A slice of anything, in one cell. -/
theorem rowc_arg {H : Type} {enc : TypeId × Value → H} {P : Program} {W : World} {base fuel t e : Nat} {v : Value} {d : DataW H} {p : List MemPlace} {α : Type} (k : Nat) (Rd : List Value → α → Prop) (Dt : DataW H → α → Prop)
    (ht : P.underlying t = some (.slice e)) (ce : P.cellsOf e = k) (hk : 0 < k)
    (each : ∀ fuel cs d p, DataW.trod enc P W base (fun _ => true) true fuel e cs = some (d, p) → cs.length = k → ∃ x, Rd cs x ∧ Dt d x)
    (h : DataW.trod enc P W base (fun _ => true) true fuel t [v] = some (d, p)) : ∃ l : List α, RowsR W k Rd v l ∧ DatL Dt d l := by
  obtain ⟨va, vl, vc, rfl⟩ : ∃ va vl vc, v = .slice va vl vc := by
    rcases DataW.trod_slice ht h with ⟨h0, _⟩ | ⟨x, len, cap, _, _, _, _, h0, _⟩
    · exact ⟨_, _, _, by simpa using h0⟩
    · exact ⟨_, _, _, by simpa using h0⟩
  exact rows_arg k Rd Dt ht ce hk each (by simpa [Value.cells] using h)
/-- A plant. -/
structure Plt where
  kind : Int
  size : Int
  data : List UInt8
  reads : List (List UInt8 × Int)
  writes : List Int
  fs : List (Int × Int)
  lines : List (List UInt8)
  place : Int
  app : Bool
structure PltIn (W : World) (x : Plt) (dv rv wv fv lv : Value) : Prop where
  d : ByC W dv x.data
  r : AnsR W rv x.reads
  w : IntsR W wv x.writes
  f : RowsR W 2 FCells fv x.fs
  l : MLns W lv x.lines
def PltDat {H : Type} (d : DataW H) (x : Plt) : Prop := ∃ d0 d1 d2 d3 d4 d5 d6 d7 d8, d = .agg [d0, d1, d2, d3, d4, d5, d6, d7, d8] ∧ Kp_DataOf d2 x.data ∧ DatL ADat d3 x.reads ∧ DatL (fun _ _ => True) d4 x.writes ∧ DatL (fun _ _ => True) d5 x.fs ∧ DatL Kp_DataOf d6 x.lines
set_option maxRecDepth 100000 in
set_option maxHeartbeats 1000000 in
theorem plant_cells {H : Type} {enc : TypeId × Value → H} {W : World} {base : Nat} {fuel : Nat} {cs : List Value} {d : DataW H} {p : List MemPlace}
    (h : DataW.trod enc Try.prog W base (fun _ => true) true fuel 28 cs = some (d, p)) : ∃ x dv rv wv fv lv, cs = [.int .i64 x.kind, .int .i64 x.size, dv, rv, wv, fv, lv, .int .i64 x.place, .bool x.app] ∧ PltIn W x dv rv wv fv lv ∧ PltDat d x := by
  obtain ⟨xs, k, hk, hxy, hcl, hxl, hf⟩ := DataW.trod_struct Try.underlying28 h
  rw [show Try.prog.cellsOf 28 = 9 by kernel_rfl] at hcl
  match xs, hxl, cs, hcl with
  | [y0, y1, y2, y3, y4, y5, y6, y7, y8], _, [v0, v1, v2, v3, v4, v5, v6, v7, v8], _ =>
    have ci : Try.prog.cellsOf 3 = 1 := by kernel_rfl
    have cb : Try.prog.cellsOf 22 = 1 := by kernel_rfl
    have ca : Try.prog.cellsOf 23 = 1 := by kernel_rfl
    have cn : Try.prog.cellsOf 24 = 1 := by kernel_rfl
    have cf : Try.prog.cellsOf 25 = 1 := by kernel_rfl
    have cl : Try.prog.cellsOf 26 = 1 := by kernel_rfl
    have co : Try.prog.cellsOf 4 = 1 := by kernel_rfl
    have cu : Try.prog.cellsOf 5 = 1 := by kernel_rfl
    have g0 := hf 0 _ rfl
    have g1 := hf 1 _ rfl
    have g2 := hf 2 _ rfl
    have g3 := hf 3 _ rfl
    have g4 := hf 4 _ rfl
    have g5 := hf 5 _ rfl
    have g6 := hf 6 _ rfl
    have g7 := hf 7 _ rfl
    have g8 := hf 8 _ rfl
    simp [ci] at g0 g1 g7
    simp [cb] at g2
    simp [ca] at g3
    simp [cn] at g4
    simp [cf] at g5
    simp [cl] at g6
    simp [co] at g8
    obtain ⟨a0, h0, _⟩ := DataW.trod_int Try.underlying3 g0
    obtain ⟨a1, h1, _⟩ := DataW.trod_int Try.underlying3 g1
    obtain ⟨a7, h7, _⟩ := DataW.trod_int Try.underlying3 g7
    obtain ⟨a8, h8, _⟩ := DataW.trod_bool Try.underlying4 g8
    obtain rfl : v0 = .int .i64 a0 := by simpa using h0
    obtain rfl : v1 = .int .i64 a1 := by simpa using h1
    obtain rfl : v7 = .int .i64 a7 := by simpa using h7
    obtain rfl : v8 = .bool a8 := by simpa using h8
    obtain ⟨y2a, y2b⟩ := y2
    obtain ⟨y3a, y3b⟩ := y3
    obtain ⟨y4a, y4b⟩ := y4
    obtain ⟨y5a, y5b⟩ := y5
    obtain ⟨y6a, y6b⟩ := y6
    obtain ⟨x2, k2, D2⟩ := byc_arg Try.underlying22 Try.underlying5 cu g2
    obtain ⟨x3, k3, D3⟩ := rowc_arg 2 (ACells W) ADat Try.underlying23 (by kernel_rfl) (by decide) (fun fuel cs d p h _ => ans_cells Try.underlying86 (by kernel_rfl) rfl rfl (by kernel_rfl) (by kernel_rfl) Try.underlying22 Try.underlying5 cu (by kernel_rfl) h) g3
    obtain ⟨x4, k4, D4⟩ := rowc_arg (α := Int) 1 (fun cs x => cs = [.int .i64 x]) (fun _ _ => True) Try.underlying24 ci (by decide) (fun fuel cs d p h hl => by
      obtain ⟨a, ha, _⟩ := DataW.trod_int Try.underlying3 h
      exact ⟨a, ha, trivial⟩) g4
    obtain ⟨x5, k5, D5⟩ := rowc_arg 2 FCells (fun _ _ => True) Try.underlying25 (by kernel_rfl) (by decide) (fun fuel cs d p h _ => flt_cells Try.underlying114 (by kernel_rfl) rfl rfl (by kernel_rfl) (by kernel_rfl) Try.underlying3 (by kernel_rfl) h) g5
    obtain ⟨x6, k6, D6⟩ := rowc_arg 1 (fun cs x => ∃ u, cs = [u] ∧ ByC W u x) Kp_DataOf Try.underlying26 cb (by decide) (fun fuel cs d p h hl => by
      match cs, hl with
      | [v0], _ =>
        obtain ⟨x, h1, h2⟩ := byc_arg Try.underlying22 Try.underlying5 cu h
        exact ⟨x, ⟨v0, rfl, h1⟩, h2⟩) g6
    simp only [Prod.mk.injEq] at hxy
    exact ⟨⟨a0, a1, x2, x3, x4, x5, x6, a7, a8⟩, _, _, _, _, _, rfl, ⟨k2, rows_ans k3, rows_ints k4, k5, k6⟩, ⟨_, _, y2a, y3a, y4a, y5a, y6a, _, _, by simpa using hxy.1, D2, D3, D4, D5, D6⟩⟩
end Go.Proofs.Ytimggonlfkboaaa

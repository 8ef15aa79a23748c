/- What the proof stands on, part 20: the contracts of the program's calls that it reaches. -/
import Derived.Test.YtanbiinomagdbaaGreatKM19
import Derived.Deep.LoopGhost
/- Slices of anything that came in as an argument: what a walk is told of them, and their sizes. -/
namespace Go.Proofs.YtanbiinomagdbaaGreat
open Go.ChangeShapes Go.WideShapes Go.ChangeAt Go.RowKit Go.Deep

def DatL {H : Type} {α : Type} (Dt : DataW H → α → Prop) (d : DataW H) (l : List α) : Prop := (d = .nil ∧ l = []) ∨ ∃ elems spare : List (DataW H), d = .slice elems spare ∧ l.length = elems.length ∧ ∀ i (hi : i < l.length), ∃ di, di ∈ elems ∧ Dt di l[i]
def RowsR {α : Type} (W : World) (k : Nat) (Rd : List Value → α → Prop) (v : Value) (l : List α) : Prop :=
  (v = .slice none 0 0 ∧ l = []) ∨ ∃ q cap, v = .slice (some q) l.length cap ∧ l.length ≤ cap ∧ (0 < l.length → ∃ b off, q = ⟨b, off, none⟩ ∧ ∀ j (hj : j < l.length), ∃ cs, Rd cs l[j] ∧ cs.length = k ∧ ∀ i v, cs[i]? = some v → W.cell? ⟨b, off + j * k + i, none⟩ = some v)
theorem rows_arg {H : Type} {enc : TypeId × Value → H} {P : Program} {W : World} {base : Nat} {a : Option Addr} {len cap fuel t e : Nat} {d : DataW H} {p : List MemPlace} {α : Type} (k : Nat) (Rd : List Value → α → Prop) (Dt : DataW H → α → Prop)
    (ht : P.underlying t = some (.slice e)) (ce : P.cellsOf e = k) (hk : 0 < k)
    (each : ∀ fuel cs d p, DataW.trod enc P W base (fun _ => true) true fuel e cs = some (d, p) → cs.length = k → ∃ x, Rd cs x ∧ Dt d x)
    (hf : DataW.trod enc P W base (fun _ => true) true fuel t (Value.slice a len cap).cells.toList = some (d, p)) :
    ∃ l : List α, RowsR W k Rd (.slice a len cap) l ∧ DatL Dt d l := by
  rcases open_slice ht hf with ⟨hcs, hd⟩ | ⟨x, n, c, m, kk, D, Pl, hcs, _, hl, hm, hmm, hx, hel⟩
  · simp [Value.cells] at hcs
    obtain ⟨rfl, rfl, rfl⟩ := hcs
    exact ⟨[], .inl ⟨rfl, rfl⟩, .inl ⟨(Prod.mk.inj hd).1, rfl⟩⟩
  · simp [Value.cells] at hcs
    obtain ⟨rfl, rfl, rfl⟩ := hcs
    simp only [if_true] at hmm
    subst hmm
    have ea : ∀ i, i < len → ∃ s : α, Dt (D i) s ∧ ∃ cs, Rd cs s ∧ cs.length = k ∧ ∀ j v, cs[j]? = some v → W.cell? ((x.add (i * k)).add j) = some v := by
      intro i hi
      obtain ⟨cs', h1, h2⟩ := hel i (by omega)
      rw [ce] at h1
      obtain ⟨_, hlen, hcell⟩ := World.cells?_some h1
      obtain ⟨s, hs, hD⟩ := each _ _ _ _ h2 hlen
      refine ⟨s, hD, cs', hs, hlen, fun j v hj => ?_⟩
      have hjl := (List.getElem?_eq_some_iff.1 hj).1
      rw [hcell j (by omega)]
      exact hj
    by_cases hα : 0 < len
    case neg =>
      obtain rfl : len = 0 := by omega
      exact ⟨[], .inr ⟨x, _, rfl, Nat.zero_le _, fun h => absurd h (by simp)⟩, .inr ⟨_, _, (Prod.mk.inj hx).1, by simp, fun i hi => absurd hi (by simp)⟩⟩
    obtain ⟨s, hs⟩ : ∃ s : Nat → α, ∀ i, i < len → Dt (D i) (s i) ∧ ∃ cs, Rd cs (s i) ∧ cs.length = k ∧ ∀ j v, cs[j]? = some v → W.cell? ((x.add (i * k)).add j) = some v := by
      exact ⟨fun i => if h : i < len then (ea i h).choose else (ea 0 hα).choose, fun i hi => by simp only [dif_pos hi]; exact (ea i hi).choose_spec⟩
    refine ⟨(List.range len).map s, .inr ⟨x, m, by simp, by simpa using hl, fun h0 => ?_⟩, .inr ⟨_, _, (Prod.mk.inj hx).1, by simp, fun i hi => ?_⟩⟩
    · obtain ⟨b, off, spot⟩ := x
      obtain ⟨_, cs0, _, hc0, q0⟩ := hs 0 hα
      have hspot : spot = none := by
        have h1 := q0 0 (cs0[0]'(by omega)) (List.getElem?_eq_getElem (by omega))
        simpa [Addr.add] using World.cell?_spot h1
      subst hspot
      refine ⟨b, off, rfl, fun j hj => ?_⟩
      have hj' : j < len := by simpa using hj
      obtain ⟨_, cs, h1, h2, h3⟩ := hs j hj'
      have hadd : ∀ o k, (⟨b, o, none⟩ : Addr).add k = ⟨b, o + k, none⟩ := fun o k => by unfold Addr.add; split <;> simp_all
      simp only [List.getElem_map, List.getElem_range]
      exact ⟨cs, h1, h2, fun i v hv => by have := h3 i v hv; rwa [hadd, hadd] at this⟩
    · have hi' : i < len := by simpa using hi
      exact ⟨D i, List.mem_map.2 ⟨i, by simpa using hi', rfl⟩, by simpa using (hs i hi').1⟩
theorem RowsR.form {α : Type} {W : World} {k : Nat} {Rd : List Value → α → Prop} {v : Value} {l : List α} (h : RowsR W k Rd v l) : ∃ a c, v = .slice a l.length c ∧ l.length ≤ c := by
  rcases h with ⟨rfl, rfl⟩ | ⟨q, cap, rfl, h1, _⟩
  · exact ⟨_, _, rfl, Nat.le_refl _⟩
  · exact ⟨_, _, rfl, h1⟩
theorem RowsR.at {α : Type} {W : World} {k : Nat} {Rd : List Value → α → Prop} {a : Option Addr} {n c : Nat} {l : List α} (h : RowsR W k Rd (.slice a n c) l) (j : Nat) (hj : j < l.length) :
    ∃ b off cs, a = some ⟨b, off, none⟩ ∧ Rd cs l[j] ∧ cs.length = k ∧ ∀ i v, cs[i]? = some v → W.cell? ⟨b, off + j * k + i, none⟩ = some v := by
  rcases h with ⟨_, rfl⟩ | ⟨q, cap, he, h1, h2⟩
  · simp at hj
  · cases he
    obtain ⟨b, off, rfl, hd⟩ := h2 (by omega)
    obtain ⟨cs, h3, h4, h5⟩ := hd j hj
    exact ⟨b, off, cs, rfl, h3, h4, h5⟩
theorem mbulk_mem {H : Type} : ∀ {l : List (DataW H)} {d : DataW H}, d ∈ l → Rows.uptoBulk d ≤ Rows.uptoBulkAll l
  | d' :: r, d, hd => by
    simp only [Rows.uptoBulkAll]
    rcases List.mem_cons.1 hd with rfl | h
    · omega
    · have := mbulk_mem h; omega
theorem mbulk_rows {H : Type} {d : DataW H} {α : Type} {Dt : DataW H → α → Prop} {l : List α} {n : Nat} (h : Rows.uptoBulk d ≤ n) (hO : DatL Dt d l) : l.length ≤ n ∧ ∀ i (hi : i < l.length), ∃ di, Rows.uptoBulk di ≤ n ∧ Dt di l[i] := by
  rcases hO with ⟨_, rfl⟩ | ⟨es, sp, rfl, hl, hel⟩
  · exact ⟨by simp, fun i hi => absurd hi (by simp)⟩
  · have h1 := bulk_slice es sp
    refine ⟨by omega, fun i hi => ?_⟩
    obtain ⟨di, hm, hO⟩ := hel i hi
    refine ⟨di, ?_, hO⟩
    have := mbulk_mem hm
    simp only [Rows.uptoBulk] at h
    omega
theorem mbulk_bytes {H : Type} {d : DataW H} {x : List UInt8} {n : Nat} (h : Rows.uptoBulk d ≤ n) (hO : Kp_DataOf d x) : x.length ≤ n := by
  rcases hO with ⟨_, rfl⟩ | ⟨es, sp, rfl, hl⟩
  · simp
  · have := bulk_slice es sp; omega
theorem mbulk_field {H : Type} {ds : List (DataW H)} {d : DataW H} {n : Nat} (h : Rows.uptoBulk (.agg ds) ≤ n) (hd : d ∈ ds) : Rows.uptoBulk d ≤ n := by
  have := mbulk_mem hd
  simp only [Rows.uptoBulk] at h
  omega

def ByC (W : World) (v : Value) (x : List UInt8) : Prop := ∃ va vc, v = .slice va x.length vc ∧ Bys W (.slice va x.length vc) x ∧ x.length ≤ vc
theorem byc_arg {H : Type} {enc : TypeId × Value → H} {P : Program} {W : World} {base fuel e u : Nat} {v : Value} {d : DataW H} {p : List MemPlace} (he : P.underlying e = some (.slice u)) (hu : P.underlying u = some (.int .u8)) (cu : P.cellsOf u = 1)
    (h : DataW.trod enc P W base (fun _ => true) true fuel e [v] = some (d, p)) : ∃ x, ByC W v x ∧ Kp_DataOf d x := by
  obtain ⟨va, vl, vc, rfl⟩ : ∃ va vl vc, v = .slice va vl vc := by
    rcases DataW.trod_slice he h with ⟨h0, _⟩ | ⟨x, len, cap, _, _, _, _, h0, _⟩
    · exact ⟨_, _, _, by simpa using h0⟩
    · exact ⟨_, _, _, by simpa using h0⟩
  obtain ⟨s, hs, hc, hO⟩ := bytes_arg2 he hu cu (by simpa [Value.cells] using h)
  obtain rfl := Kp_bys_len hs
  exact ⟨s, ⟨va, vc, rfl, hs, hc⟩, hO⟩
end Go.Proofs.YtanbiinomagdbaaGreat

/- Lines, steps, answers and numbers that came in as an argument: what a walk is told of them, and their sizes. -/
namespace Go.Proofs.YtanbiinomagdbaaGreat
open Go.ChangeShapes Go.WideShapes Go.ChangeAt Go.RowKit Go.Deep

def MLns (W : World) (v : Value) (ls : List (List UInt8)) : Prop := RowsR W 1 (fun cs x => ∃ u, cs = [u] ∧ ByC W u x) v ls
structure MSt where
  what : Int
  n : Int
  m : Int
  data : List UInt8
def MCells (W : World) (cs : List Value) (x : MSt) : Prop := ∃ va vc, cs = [.int .i64 x.what, .int .i64 x.n, .int .i64 x.m, .slice va x.data.length vc] ∧ Bys W (.slice va x.data.length vc) x.data ∧ x.data.length ≤ vc
def MDat {H : Type} (d : DataW H) (x : MSt) : Prop := ∃ x0 x1 x2 d3, d = .agg [x0, x1, x2, d3] ∧ Kp_DataOf d3 x.data
def MSts (W : World) (v : Value) (l : List MSt) : Prop := RowsR W 4 (MCells W) v l
theorem mst_cells {H : Type} {enc : TypeId × Value → H} {P : Program} {W : World} {base : Nat} {fuel e u : Nat} {f0 f1 f2 f3 : Field} {cs : List Value} {d : DataW H} {p : List MemPlace}
    (he : P.underlying e = some (.struct #[f0, f1, f2, f3])) (ce : P.cellsOf e = 4) (o0 : f0.offset = 0) (o1 : f1.offset = 1) (o2 : f2.offset = 2) (o3 : f3.offset = 3)
    (c0 : P.cellsOf f0.type = 1) (c1 : P.cellsOf f1.type = 1) (c2 : P.cellsOf f2.type = 1) (c3 : P.cellsOf f3.type = 1)
    (t0 : P.underlying f0.type = some (.int .i64)) (t1 : P.underlying f1.type = some (.int .i64)) (t2 : P.underlying f2.type = some (.int .i64)) (t3 : P.underlying f3.type = some (.slice u)) (tu : P.underlying u = some (.int .u8)) (cu : P.cellsOf u = 1)
    (h : DataW.trod enc P W base (fun _ => true) true fuel e cs = some (d, p)) : ∃ x : MSt, MCells W cs x ∧ MDat d x := by
  obtain ⟨xs, k, hk, hxy, hcl, hxl, hf⟩ := DataW.trod_struct he h
  rw [ce] at hcl
  match xs, hxl, cs, hcl with
  | [y0, y1, y2, y3], _, [v0, v1, v2, v3], _ =>
    have g0 := hf 0 f0 rfl
    have g1 := hf 1 f1 rfl
    have g2 := hf 2 f2 rfl
    have g3 := hf 3 f3 rfl
    simp [o0, c0] at g0
    simp [o1, c1] at g1
    simp [o2, c2] at g2
    simp [o3, c3] at g3
    obtain ⟨a, ha, _⟩ := DataW.trod_int t0 g0
    obtain ⟨b, hb, _⟩ := DataW.trod_int t1 g1
    obtain ⟨c, hc, _⟩ := DataW.trod_int t2 g2
    obtain rfl : v0 = .int .i64 a := by simpa using ha
    obtain rfl : v1 = .int .i64 b := by simpa using hb
    obtain rfl : v2 = .int .i64 c := by simpa using hc
    obtain ⟨y3a, y3b⟩ := y3
    obtain ⟨x, ⟨va, vc, rfl, h1, h2⟩, hD⟩ := byc_arg t3 tu cu g3
    simp only [Prod.mk.injEq] at hxy
    exact ⟨⟨a, b, c, x⟩, ⟨va, vc, rfl, h1, h2⟩, ⟨_, _, _, y3a, by simpa using hxy.1, hD⟩⟩
theorem MSts.at {W W' : World} {a : Option Addr} {n c : Nat} {l : List MSt} (h : MSts W (.slice a n c) l) (hB : Below W.heap.size W W') (j : Nat) (hj : j < l.length) :
    ∃ b off va vc, a = some ⟨b, off, none⟩ ∧ b < W.heap.size ∧ (W'.cell? ⟨b, off + j * 4, none⟩ = some (.int .i64 l[j].what) ∧ W'.cell? ⟨b, off + j * 4 + 1, none⟩ = some (.int .i64 l[j].n) ∧ W'.cell? ⟨b, off + j * 4 + 2, none⟩ = some (.int .i64 l[j].m) ∧ W'.cell? ⟨b, off + j * 4 + 3, none⟩ = some (.slice va l[j].data.length vc)) ∧
      Bys W (.slice va l[j].data.length vc) l[j].data ∧ l[j].data.length ≤ vc := by
  obtain ⟨b, off, cs, rfl, ⟨va, vc, rfl, r1, r2⟩, _, h3⟩ := RowsR.at h j hj
  have hl : b < W.heap.size := World.block_lt_of_cell? W _ (h3 0 _ rfl)
  have key : ∀ i v, W.cell? ⟨b, off + j * 4 + i, none⟩ = some v → W'.cell? ⟨b, off + j * 4 + i, none⟩ = some v := fun i v hv => (hB.cell (p := ⟨b, off + j * 4 + i, none⟩) hl).trans hv
  exact ⟨b, off, va, vc, rfl, hl, ⟨key 0 _ (h3 0 _ rfl), key 1 _ (h3 1 _ rfl), key 2 _ (h3 2 _ rfl), key 3 _ (h3 3 _ rfl)⟩, r1, r2⟩
end Go.Proofs.YtanbiinomagdbaaGreat

/- A plant that came in as an argument: what a walk is told of it, and its size. -/
namespace Go.Proofs.YtanbiinomagdbaaGreat
open Go.ChangeShapes Go.WideShapes Go.ChangeAt Go.RowKit Go.Deep

def ACells (W : World) (cs : List Value) (x : List UInt8 × Int) : Prop := ∃ va vc, cs = [.slice va x.1.length vc, .int .i64 x.2] ∧ Bys W (.slice va x.1.length vc) x.1 ∧ x.1.length ≤ vc
def ADat {H : Type} (d : DataW H) (x : List UInt8 × Int) : Prop := ∃ d0 d1, d = .agg [d0, d1] ∧ Kp_DataOf d0 x.1
theorem ans_cells {H : Type} {enc : TypeId × Value → H} {P : Program} {W : World} {base : Nat} {fuel e u : Nat} {f0 f1 : Field} {cs : List Value} {d : DataW H} {p : List MemPlace}
    (he : P.underlying e = some (.struct #[f0, f1])) (ce : P.cellsOf e = 2) (o0 : f0.offset = 0) (o1 : f1.offset = 1) (c0 : P.cellsOf f0.type = 1) (c1 : P.cellsOf f1.type = 1)
    (t0 : P.underlying f0.type = some (.slice u)) (tu : P.underlying u = some (.int .u8)) (cu : P.cellsOf u = 1) (t1 : P.underlying f1.type = some (.int .i64))
    (h : DataW.trod enc P W base (fun _ => true) true fuel e cs = some (d, p)) : ∃ x, ACells W cs x ∧ ADat d x := by
  obtain ⟨xs, k, hk, hxy, hcl, hxl, hf⟩ := DataW.trod_struct he h
  rw [ce] at hcl
  match xs, hxl, cs, hcl with
  | [y0, y1], _, [v0, v1], _ =>
    have g0 := hf 0 f0 rfl
    have g1 := hf 1 f1 rfl
    simp [o0, c0] at g0
    simp [o1, c1] at g1
    obtain ⟨b, hb, _⟩ := DataW.trod_int t1 g1
    obtain rfl : v1 = .int .i64 b := by simpa using hb
    obtain ⟨y0a, y0b⟩ := y0
    obtain ⟨x, ⟨va, vc, rfl, h1, h2⟩, hD⟩ := byc_arg t0 tu cu g0
    simp only [Prod.mk.injEq] at hxy
    exact ⟨(x, b), ⟨va, vc, rfl, h1, h2⟩, ⟨y0a, _, by simpa using hxy.1, hD⟩⟩
theorem rows_ans {W : World} {v : Value} {l : List (List UInt8 × Int)} (h : RowsR W 2 (ACells W) v l) : AnsR W v l := by
  rcases h with ⟨rfl, rfl⟩ | ⟨q, cap, rfl, h1, h2⟩
  · exact ⟨_, _, rfl, fun h => absurd h (by simp)⟩
  · refine ⟨some q, cap, rfl, fun h0 => ?_⟩
    obtain ⟨b, off, rfl, hd⟩ := h2 h0
    refine ⟨b, off, rfl, fun j hj => ?_⟩
    obtain ⟨cs, ⟨va, vc, rfl, r1, r2⟩, _, h3⟩ := hd j hj
    exact ⟨va, vc, h3 0 _ rfl, h3 1 _ rfl, r1, r2⟩
theorem rows_ints {W : World} {v : Value} {l : List Int} (h : RowsR W 1 (fun cs x => cs = [.int .i64 x]) v l) : IntsR W v l := by
  rcases h with ⟨rfl, rfl⟩ | ⟨q, cap, rfl, h1, h2⟩
  · exact .inl ⟨rfl, rfl⟩
  · refine .inr ⟨q, cap, rfl, fun h0 => ?_⟩
    obtain ⟨b, off, rfl, hd⟩ := h2 h0
    refine ⟨b, off, rfl, fun j hj => ?_⟩
    obtain ⟨cs, rfl, _, h3⟩ := hd j hj
    have := h3 0 _ rfl
    rwa [Nat.mul_one, Nat.add_zero] at this
def FCells (cs : List Value) (x : Int × Int) : Prop := cs = [.int .i64 x.1, .int .i64 x.2]
theorem flt_cells {H : Type} {enc : TypeId × Value → H} {P : Program} {W : World} {base : Nat} {fuel e : Nat} {f0 f1 : Field} {cs : List Value} {d : DataW H} {p : List MemPlace}
    (he : P.underlying e = some (.struct #[f0, f1])) (ce : P.cellsOf e = 2) (o0 : f0.offset = 0) (o1 : f1.offset = 1) (c0 : P.cellsOf f0.type = 1) (c1 : P.cellsOf f1.type = 1)
    (t0 : P.underlying f0.type = some (.int .i64)) (t1 : P.underlying f1.type = some (.int .i64))
    (h : DataW.trod enc P W base (fun _ => true) true fuel e cs = some (d, p)) : ∃ x, FCells cs x ∧ True := by
  obtain ⟨xs, k, hk, hxy, hcl, hxl, hf⟩ := DataW.trod_struct he h
  rw [ce] at hcl
  match xs, hxl, cs, hcl with
  | [y0, y1], _, [v0, v1], _ =>
    have g0 := hf 0 f0 rfl
    have g1 := hf 1 f1 rfl
    simp [o0, c0] at g0
    simp [o1, c1] at g1
    obtain ⟨a, ha, _⟩ := DataW.trod_int t0 g0
    obtain ⟨b, hb, _⟩ := DataW.trod_int t1 g1
    obtain rfl : v0 = .int .i64 a := by simpa using ha
    obtain rfl : v1 = .int .i64 b := by simpa using hb
    exact ⟨(a, b), rfl, trivial⟩
theorem rowc_arg {H : Type} {enc : TypeId × Value → H} {P : Program} {W : World} {base fuel t e : Nat} {v : Value} {d : DataW H} {p : List MemPlace} {α : Type} (k : Nat) (Rd : List Value → α → Prop) (Dt : DataW H → α → Prop)
    (ht : P.underlying t = some (.slice e)) (ce : P.cellsOf e = k) (hk : 0 < k)
    (each : ∀ fuel cs d p, DataW.trod enc P W base (fun _ => true) true fuel e cs = some (d, p) → cs.length = k → ∃ x, Rd cs x ∧ Dt d x)
    (h : DataW.trod enc P W base (fun _ => true) true fuel t [v] = some (d, p)) : ∃ l : List α, RowsR W k Rd v l ∧ DatL Dt d l := by
  obtain ⟨va, vl, vc, rfl⟩ : ∃ va vl vc, v = .slice va vl vc := by
    rcases DataW.trod_slice ht h with ⟨h0, _⟩ | ⟨x, len, cap, _, _, _, _, h0, _⟩
    · exact ⟨_, _, _, by simpa using h0⟩
    · exact ⟨_, _, _, by simpa using h0⟩
  exact rows_arg k Rd Dt ht ce hk each (by simpa [Value.cells] using h)
structure Plt where
  kind : Int
  size : Int
  data : List UInt8
  reads : List (List UInt8 × Int)
  writes : List Int
  fs : List (Int × Int)
  lines : List (List UInt8)
  place : Int
  app : Bool
structure PltIn (W : World) (x : Plt) (dv rv wv fv lv : Value) : Prop where
  d : ByC W dv x.data
  r : AnsR W rv x.reads
  w : IntsR W wv x.writes
  f : RowsR W 2 FCells fv x.fs
  l : MLns W lv x.lines
def PltDat {H : Type} (d : DataW H) (x : Plt) : Prop := ∃ d0 d1 d2 d3 d4 d5 d6 d7 d8, d = .agg [d0, d1, d2, d3, d4, d5, d6, d7, d8] ∧ Kp_DataOf d2 x.data ∧ DatL ADat d3 x.reads ∧ DatL (fun _ _ => True) d4 x.writes ∧ DatL (fun _ _ => True) d5 x.fs ∧ DatL Kp_DataOf d6 x.lines
set_option maxRecDepth 100000 in
set_option maxHeartbeats 1000000 in
theorem plant_cells {H : Type} {enc : TypeId × Value → H} {W : World} {base : Nat} {fuel : Nat} {cs : List Value} {d : DataW H} {p : List MemPlace}
    (h : DataW.trod enc Tryz.prog W base (fun _ => true) true fuel 50 cs = some (d, p)) : ∃ x dv rv wv fv lv, cs = [.int .i64 x.kind, .int .i64 x.size, dv, rv, wv, fv, lv, .int .i64 x.place, .bool x.app] ∧ PltIn W x dv rv wv fv lv ∧ PltDat d x := by
  obtain ⟨xs, k, hk, hxy, hcl, hxl, hf⟩ := DataW.trod_struct Tryz.underlying50 h
  rw [show Tryz.prog.cellsOf 50 = 9 by kernel_rfl] at hcl
  match xs, hxl, cs, hcl with
  | [y0, y1, y2, y3, y4, y5, y6, y7, y8], _, [v0, v1, v2, v3, v4, v5, v6, v7, v8], _ =>
    have ci : Tryz.prog.cellsOf 3 = 1 := by kernel_rfl
    have cb : Tryz.prog.cellsOf 40 = 1 := by kernel_rfl
    have ca : Tryz.prog.cellsOf 46 = 1 := by kernel_rfl
    have cn : Tryz.prog.cellsOf 47 = 1 := by kernel_rfl
    have cf : Tryz.prog.cellsOf 24 = 1 := by kernel_rfl
    have cl : Tryz.prog.cellsOf 48 = 1 := by kernel_rfl
    have co : Tryz.prog.cellsOf 4 = 1 := by kernel_rfl
    have cu : Tryz.prog.cellsOf 5 = 1 := by kernel_rfl
    have g0 := hf 0 _ rfl
    have g1 := hf 1 _ rfl
    have g2 := hf 2 _ rfl
    have g3 := hf 3 _ rfl
    have g4 := hf 4 _ rfl
    have g5 := hf 5 _ rfl
    have g6 := hf 6 _ rfl
    have g7 := hf 7 _ rfl
    have g8 := hf 8 _ rfl
    simp [ci] at g0 g1 g7
    simp [cb] at g2
    simp [ca] at g3
    simp [cn] at g4
    simp [cf] at g5
    simp [cl] at g6
    simp [co] at g8
    obtain ⟨a0, h0, _⟩ := DataW.trod_int Tryz.underlying3 g0
    obtain ⟨a1, h1, _⟩ := DataW.trod_int Tryz.underlying3 g1
    obtain ⟨a7, h7, _⟩ := DataW.trod_int Tryz.underlying3 g7
    obtain ⟨a8, h8, _⟩ := DataW.trod_bool Tryz.underlying4 g8
    obtain rfl : v0 = .int .i64 a0 := by simpa using h0
    obtain rfl : v1 = .int .i64 a1 := by simpa using h1
    obtain rfl : v7 = .int .i64 a7 := by simpa using h7
    obtain rfl : v8 = .bool a8 := by simpa using h8
    obtain ⟨y2a, y2b⟩ := y2
    obtain ⟨y3a, y3b⟩ := y3
    obtain ⟨y4a, y4b⟩ := y4
    obtain ⟨y5a, y5b⟩ := y5
    obtain ⟨y6a, y6b⟩ := y6
    obtain ⟨x2, k2, D2⟩ := byc_arg Tryz.underlying40 Tryz.underlying5 cu g2
    obtain ⟨x3, k3, D3⟩ := rowc_arg 2 (ACells W) ADat Tryz.underlying46 (by kernel_rfl) (by decide) (fun fuel cs d p h _ => ans_cells Tryz.underlying295 (by kernel_rfl) rfl rfl (by kernel_rfl) (by kernel_rfl) Tryz.underlying40 Tryz.underlying5 cu (by kernel_rfl) h) g3
    obtain ⟨x4, k4, D4⟩ := rowc_arg (α := Int) 1 (fun cs x => cs = [.int .i64 x]) (fun _ _ => True) Tryz.underlying47 ci (by decide) (fun fuel cs d p h hl => by
      obtain ⟨a, ha, _⟩ := DataW.trod_int Tryz.underlying3 h
      exact ⟨a, ha, trivial⟩) g4
    obtain ⟨x5, k5, D5⟩ := rowc_arg 2 FCells (fun _ _ => True) Tryz.underlying24 (by kernel_rfl) (by decide) (fun fuel cs d p h _ => flt_cells Tryz.underlying220 (by kernel_rfl) rfl rfl (by kernel_rfl) (by kernel_rfl) Tryz.underlying3 (by kernel_rfl) h) g5
    obtain ⟨x6, k6, D6⟩ := rowc_arg 1 (fun cs x => ∃ u, cs = [u] ∧ ByC W u x) Kp_DataOf Tryz.underlying48 cb (by decide) (fun fuel cs d p h hl => by
      match cs, hl with
      | [v0], _ =>
        obtain ⟨x, h1, h2⟩ := byc_arg Tryz.underlying40 Tryz.underlying5 cu h
        exact ⟨x, ⟨v0, rfl, h1⟩, h2⟩) g6
    simp only [Prod.mk.injEq] at hxy
    exact ⟨⟨a0, a1, x2, x3, x4, x5, x6, a7, a8⟩, _, _, _, _, _, rfl, ⟨k2, rows_ans k3, rows_ints k4, k5, k6⟩, ⟨_, _, y2a, y3a, y4a, y5a, y6a, _, _, by simpa using hxy.1, D2, D3, D4, D5, D6⟩⟩
end Go.Proofs.YtanbiinomagdbaaGreat

/- Plant.Panics. -/
namespace Go.Proofs.YtanbiinomagdbaaGreat
open Go.RowKit

def Plt.k6 (x : Plt) : Int := (wrap64 (x.kind.tmod 6 + 6)).tmod 6
def Plt.pan (x : Plt) : Bool := decide (∃ k ∈ x.writes, k < -1) && (x.k6 == 3)
theorem k6_six (x : Plt) : x.k6 = 0 ∨ x.k6 = 1 ∨ x.k6 = 2 ∨ x.k6 = 3 ∨ x.k6 = 4 ∨ x.k6 = 5 := by
  have h1 := Int.tmod_lt_of_pos x.kind (show (0 : Int) < 6 by decide)
  have h2 : -6 < x.kind.tmod 6 := by
    have := Int.tmod_lt_of_pos (-x.kind) (show (0 : Int) < 6 by decide)
    rw [Int.neg_tmod] at this
    omega
  unfold Plt.k6
  have h3 : wrap64 (x.kind.tmod 6 + 6) = x.kind.tmod 6 + 6 := by unfold wrap64; omega
  rw [h3]
  have h4 : 0 ≤ x.kind.tmod 6 + 6 := by omega
  generalize x.kind.tmod 6 + 6 = q at *
  have h5 := Int.tmod_lt_of_pos q (show (0 : Int) < 6 by decide)
  have h6 := Int.tmod_nonneg 6 h4
  omega
set_option maxRecDepth 100000 in
set_option maxHeartbeats 2000000 in
theorem panics_any (x : Plt) (dv rv wv fv lv : Value) (w : World) (h : PltIn w x dv rv wv fv lv) (hz : x.writes.length * 8 ≤ 140737488351232) :
    Calls Tryz.prog 19 #[.agg #[.int .i64 x.kind, .int .i64 x.size, dv, rv, wv, fv, lv, .int .i64 x.place, .bool x.app]] w fun e w' => e = .returned (.bool x.pan) ∧ Below w.heap.size w w' := by
  have HW := hide h.w
  obtain ⟨da, dc, rfl, -⟩ := h.d
  obtain ⟨ra, rc, rfl, -⟩ := h.r
  obtain ⟨wa, wc, rfl⟩ := h.w.form
  obtain ⟨fa, fc, rfl, -⟩ := h.f.form
  obtain ⟨la, lc, rfl, -⟩ := RowsR.form h.l
  clear h
  go_enter Tryz.func19, Tryz.ntmps19
  go_wp2
  obtain ⟨k0, k4⟩ : (w.alloc (Obj.cells #[.int .i64 x.kind, .int .i64 x.size, .slice da x.data.length dc, .slice ra x.reads.length rc, .slice wa x.writes.length wc, .slice fa x.fs.length fc, .slice la x.lines.length lc, .int .i64 x.place, .bool x.app] 50)).cell? ⟨w.heap.size, 0, none⟩ = some (.int .i64 x.kind) ∧ (w.alloc (Obj.cells #[.int .i64 x.kind, .int .i64 x.size, .slice da x.data.length dc, .slice ra x.reads.length rc, .slice wa x.writes.length wc, .slice fa x.fs.length fc, .slice la x.lines.length lc, .int .i64 x.place, .bool x.app] 50)).cell? ⟨w.heap.size, 4, none⟩ = some (.slice wa x.writes.length wc) := by
    constructor <;> (simp only [World.cell?, heap_alloc_new]; rfl)
  have HB := hide (recv4 w (Obj.cells #[.int .i64 x.kind, .int .i64 x.size, .slice da x.data.length dc, .slice ra x.reads.length rc, .slice wa x.writes.length wc, .slice fa x.fs.length fc, .slice la x.lines.length lc, .int .i64 x.place, .bool x.app] 50))
  generalize w.alloc (Obj.cells #[.int .i64 x.kind, .int .i64 x.size, .slice da x.data.length dc, .slice ra x.reads.length rc, .slice wa x.writes.length wc, .slice fa x.fs.length fc, .slice la x.lines.length lc, .int .i64 x.place, .bool x.app] 50) = w0 at *
  have HW0 := hide (HW.out.below HB.out)
  go_loopg [3] x.writes.length (fun gq s3 wx => ∃ k : Nat, k + gq = x.writes.length ∧ s3 = .int .i64 k ∧ wx = w0 ∧ Hid (∀ j (_ : j < k) (hj : j < x.writes.length), -1 ≤ x.writes[j]))
  case atStart => exact ⟨0, by omega, rfl, rfl, hide fun j h => absurd h (Nat.not_lt_zero _)⟩
  case round =>
    obtain ⟨k, hkg, rfl, rfl, HI⟩ := hrel
    by_cases hlt : k < x.writes.length
    · obtain ⟨gq, rfl⟩ : ∃ gq, gk = gq + 1 := ⟨gk - 1, by omega⟩
      obtain ⟨b, off, rfl, c0⟩ : ∃ b off, wa = some ⟨b, off, none⟩ ∧ wr.cell? ⟨b, off + k, none⟩ = some (.int .i64 x.writes[k]) := by
        rcases HW0.out with ⟨_, e⟩ | ⟨q, cap, e, hc⟩
        · rw [e] at hlt; simp at hlt
        · cases e
          obtain ⟨b, off, rfl, hd⟩ := hc (by omega)
          exact ⟨b, off, rfl, hd k hlt⟩
      have hk1 : (0 : Int) ≤ (k : Int) := by omega
      have hk2 : (k : Int) < (x.writes.length : Int) := by omega
      by_cases hn : x.writes[k] < -1
      · have HE : Hid (decide (∃ k ∈ x.writes, k < -1) = true) := hide (decide_eq_true ⟨_, List.getElem_mem hlt, hn⟩)
        go_wp2
        go_ret
        refine ⟨?_, HB.out⟩
        unfold Plt.pan
        rw [HE.out, Bool.true_and]
        rfl
      · have HN : Hid (-1 ≤ x.writes[k]) := hide (by omega)
        go_wp2
        go_roundg gq
        case measure => omega
        case rel =>
          refine ⟨k + 1, by omega, by go_num, rfl, hide fun j h1 h2 => ?_⟩
          by_cases hjk : j = k
          · subst hjk; exact HN.out
          · exact HI.out j (by omega) h2
    · obtain rfl : k = x.writes.length := by omega
      go_wp2
      go_ret
      refine ⟨?_, HB.out⟩
      unfold Plt.pan
      rw [decide_eq_false (fun ⟨k, h1, h2⟩ => by obtain ⟨j, hj, rfl⟩ := List.mem_iff_getElem.1 h1; have := HI.out j hj hj; omega), Bool.false_and]
      rfl
end Go.Proofs.YtanbiinomagdbaaGreat

/- MemoryPlays: the walk, given what Make makes. -/
namespace Go.Proofs.YtanbiinomagdbaaGreat
open Go.RowKit

def MadeOut (x : Plt) (mb : Nat) (w : World) : Prop := ∃ (σ : Type) (D : RD σ) (T : TypeId) (v : Value) (g : Nat) (fr fw fs : FuncId) (A B : σ → World → (Nat → Prop) → Prop) (ok : Nat → σ → Prop) (Md : World → Prop) (s : σ),
  PlK D T v g mb fr fw fs A B ok Md ∧ PP A B s (mb + 1) w ∧ Md w ∧ (∀ W W', Md W → W'.heap[mb]? = W.heap[mb]? → Md W') ∧ (∀ W, Md W → W.cell? ⟨mb, 0, none⟩ = some (.iface T v) ∧ W.cell? ⟨mb, 1, none⟩ = some (.pointer (some ⟨g, 0, none⟩))) ∧ (x.pan = false → ok 1048577 s)
def MakeOut (x : Plt) (w : World) (e : Ending) (w' : World) : Prop := Below w.heap.size w w' ∧ ((∃ p, e = .returned (.tuple #[.pointer p, .bool false])) ∨ ∃ mb, w.heap.size ≤ mb ∧ e = .returned (.tuple #[.pointer (some ⟨mb, 0, none⟩), .bool true]) ∧ MadeOut x mb w')
theorem pl_new (w : World) (x : Plt) (dv rv wv fv lv : Value) (h : PltIn w x dv rv wv fv lv) (W : World) (hB : Below w.heap.size w W) : PltIn W x dv rv wv fv lv := by
  refine ⟨?_, h.r.below hB, h.w.below hB, ?_, ?_⟩
  · obtain ⟨va, vc, rfl, hb, hc⟩ := h.d
    exact ⟨va, vc, rfl, hb.below hB, hc⟩
  · rcases h.f with h | ⟨q, cap, rfl, h1, h2⟩
    · exact .inl h
    · refine .inr ⟨q, cap, rfl, h1, fun h0 => ?_⟩
      obtain ⟨b, off, rfl, hd⟩ := h2 h0
      refine ⟨b, off, rfl, fun j hj => ?_⟩
      obtain ⟨cs, c1, c2, c3⟩ := hd j hj
      exact ⟨cs, c1, c2, fun i v hv => (hB.cell (p := ⟨b, off + j * 2 + i, none⟩) (World.block_lt_of_cell? w _ (c3 i v hv))).trans (c3 i v hv)⟩
  · rcases h.l with h | ⟨q, cap, rfl, h1, h2⟩
    · exact .inl h
    · refine .inr ⟨q, cap, rfl, h1, fun h0 => ?_⟩
      obtain ⟨b, off, rfl, hd⟩ := h2 h0
      refine ⟨b, off, rfl, fun j hj => ?_⟩
      obtain ⟨cs, ⟨u, e, va, vc, e2, hb, hc⟩, c2, c3⟩ := hd j hj
      exact ⟨cs, ⟨u, e, va, vc, e2, hb.below hB, hc⟩, c2, fun i v hv => (hB.cell (p := ⟨b, off + j * 1 + i, none⟩) (World.block_lt_of_cell? w _ (c3 i v hv))).trans (c3 i v hv)⟩
theorem Both.turned {A B : World → (Nat → Prop) → Prop} {w w' : World} {Q S : Nat → Prop} (h : Both A B w Q) (hA : OAt A) (hB : OAt B) (hT : Turned S w w') (hS : ∀ j, Q j → ¬ S j) : Both A B w' Q := by
  obtain ⟨O, P, h1, h2, h3, h4⟩ := h
  exact ⟨O, P, hA.keep h1 (fun j e hl => hT.block j hl (hS j (h3 j e).1)) hT.size, hB.keep h2 (fun j e hl => hT.block j hl (hS j (h4 j e).1)) hT.size, fun j e => ⟨(h3 j e).1, Nat.lt_of_lt_of_le (h3 j e).2.1 hT.size, (h3 j e).2.2⟩, fun j e => ⟨(h4 j e).1, Nat.lt_of_lt_of_le (h4 j e).2 hT.size⟩⟩
theorem ok_down {σ : Type} {ok : Nat → σ → Prop} (hl : ∀ n s, ok (n + 1) s → ok n s) (s : σ) (m : Nat) : ∀ n, m ≤ n → ok n s → ok m s
  | 0, h, ho => by rwa [Nat.le_zero.1 h]
  | n + 1, h, ho => by
    by_cases e : m = n + 1
    · rwa [e]
    · exact ok_down hl s m n (by omega) (hl n s ho)
theorem pk_num2 {σ : Type} {A B : σ → World → (Nat → Prop) → Prop} (oA : ∀ s, OAt (A s)) (oB : ∀ s, OAt (B s)) {s s' : σ} {lo : Nat} {w : World} {F G : FuncId} {X Y : Array Value} {N E : Int} (h : PP A B s lo w) (hlo : lo ≤ w.heap.size) (wb : World) (hb : Below w.heap.size w wb)
    (hF : ∀ O, A s wb O → (∀ j, O j → lo ≤ j ∧ (j < w.heap.size ∨ wb.heap.size ≤ j)) → Calls Tryz.prog F X wb fun e w' => e = .returned (.tuple #[.int .i64 N, .int .i64 E]) ∧ OStep (A s') wb O w')
    (hG : ∀ O wb2, B s wb2 O → (∀ j, O j → lo ≤ j) → Turned (fun j => lo ≤ j) w wb2 → Calls Tryz.prog G Y wb2 fun e w' => e = .returned (.tuple #[.int .i64 N, .int .i64 E]) ∧ OStep (B s') wb2 O w') :
    Calls Tryz.prog F X wb fun e w1 => e = .returned (.tuple #[.int .i64 N, .int .i64 E]) ∧ Turned (fun j => lo ≤ j ∧ (j < w.heap.size ∨ wb.heap.size ≤ j)) wb w1 ∧ Turned (fun j => lo ≤ j) w w1 ∧
      ∀ w2, Below w1.heap.size w1 w2 → Calls Tryz.prog G Y w2 fun e w3 => e = .returned (.tuple #[.int .i64 N, .int .i64 E]) ∧ Hid (Both (A s') (B s') w3 (fun j => lo ≤ j ∧ (j < w.heap.size ∨ wb.heap.size ≤ j))) ∧ Turned (fun j => lo ≤ j ∧ (j < w.heap.size ∨ wb.heap.size ≤ j)) wb w3 ∧ Turned (fun j => lo ≤ j) w w3 := by
  have hbb := Both.below h (oA _) (oB _) hb
  have hzb := hb.size
  obtain ⟨O, h1, h2, h3, -⟩ := hbb.one (oB _)
  refine (hF O h1 (fun j e => (h2 j e).1)).mono ?_
  rintro e w1 ⟨rfl, hS⟩
  obtain ⟨q1, q2⟩ := h3 (A s') wb w1 (Below.refl _ _) (oA _) hS
  have hT1 : Turned (fun j => lo ≤ j) w w1 := (Turned.of_below (S := fun j => lo ≤ j) hb).trans (q2.mono fun _ e => e.1) (fun _ _ e => e)
  refine ⟨rfl, q2, hT1, fun w2 hb2 => ?_⟩
  have hz1 := q2.size
  have hz2 := hb2.size
  have q3 := q1.below (oA _) (oB _) hb2
  obtain ⟨P, p1, p2, p3, -⟩ := q3.two (oA _)
  have hT2 := hT1.trans (Turned.of_below (S := fun j => lo ≤ j) hb2) (fun _ _ e => e)
  refine (hG P w2 p1 (fun j e => by rcases (p2 j e).1.1 with e | e; exact e.1; exact Nat.le_trans (Nat.le_trans hlo hzb) e) hT2).mono ?_
  rintro e w3 ⟨rfl, hS3⟩
  obtain ⟨r1, r2⟩ := p3 (B s') w2 w3 (Below.refl _ _) (oB _) hS3
  have hin : ∀ j, ((fun j => ((lo ≤ j ∧ (j < w.heap.size ∨ wb.heap.size ≤ j)) ∨ wb.heap.size ≤ j) ∧ (j < w1.heap.size ∨ w2.heap.size ≤ j)) j) → lo ≤ j ∧ (j < w.heap.size ∨ wb.heap.size ≤ j) := fun j e => by
    rcases e.1 with e1 | e1
    · exact e1
    · exact ⟨by omega, .inr e1⟩
  refine ⟨rfl, hide (r1.mono fun j e => ?_), (q2.trans (Turned.of_below (S := fun j => lo ≤ j ∧ (j < w.heap.size ∨ wb.heap.size ≤ j)) hb2) (fun _ _ e => e)).trans (r2.mono hin) (fun _ _ e => e), hT2.trans (r2.mono fun j e => (hin j e).1) (fun _ _ e => e)⟩
  rcases e with e | e
  · exact hin j e
  · exact ⟨by omega, .inr (by omega)⟩
set_option maxRecDepth 100000 in
set_option maxHeartbeats 8000000 in
theorem mplays_walk (x : Plt) (dv rv wv fv lv : Value) (a : Option Addr) (c : Nat) (l : List MSt) (w : World) (h : PltIn w x dv rv wv fv lv) (h2 : MSts w (.slice a l.length c) l) (hw : x.writes.length * 8 ≤ 140737488351232) (hl : l.length ≤ 1048576) (hd : ∀ i (hi : i < l.length), l[i].data.length ≤ 1048576 ∧ I64 l[i].n)
    (hMake : ∀ W, Below w.heap.size w W → Calls Tryz.prog 18 #[.agg #[.int .i64 x.kind, .int .i64 x.size, dv, rv, wv, fv, lv, .int .i64 x.place, .bool x.app]] W (MakeOut x W)) :
    Calls Tryz.prog 4 #[.agg #[.int .i64 x.kind, .int .i64 x.size, dv, rv, wv, fv, lv, .int .i64 x.place, .bool x.app], .slice a l.length c] w fun e w' => e = .returned (.bool true) ∧ Below w.heap.size w w' := by
  have HP := hide (pl_new w x dv rv wv fv lv h)
  have HL := hide h2
  have HK := hide hMake
  have HD := hide hd
  obtain ⟨da, dc, rfl, -⟩ := h.d
  obtain ⟨ra, rc, rfl, -⟩ := h.r
  obtain ⟨wa, wc, rfl⟩ := h.w.form
  obtain ⟨fa, fc, rfl, -⟩ := h.f.form
  obtain ⟨la, lc, rfl, -⟩ := RowsR.form h.l
  clear h h2 hMake hd
  go_enter Tryz.func4, Tryz.ntmps4
  go_wp2_with fail
  have HB0 := hide (recv4 w (Obj.cells #[.int .i64 x.kind, .int .i64 x.size, .slice da x.data.length dc, .slice ra x.reads.length rc, .slice wa x.writes.length wc, .slice fa x.fs.length fc, .slice la x.lines.length lc, .int .i64 x.place, .bool x.app] 50))
  have HW0 := hide (heap_alloc_new w (Obj.cells #[.int .i64 x.kind, .int .i64 x.size, .slice da x.data.length dc, .slice ra x.reads.length rc, .slice wa x.writes.length wc, .slice fa x.fs.length fc, .slice la x.lines.length lc, .int .i64 x.place, .bool x.app] 50))
  generalize w.alloc (Obj.cells #[.int .i64 x.kind, .int .i64 x.size, .slice da x.data.length dc, .slice ra x.reads.length rc, .slice wa x.writes.length wc, .slice fa x.fs.length fc, .slice la x.lines.length lc, .int .i64 x.place, .bool x.app] 50) = w0 at *
  refine (HK.out _ HB0.out).mono ?_
  rintro _ w1 ⟨hB1, ⟨p, rfl⟩ | ⟨mb, hmb, rfl, hO⟩⟩
  · have HB1 := hide (HB0.out.trans (hB1.mono HB0.out.size))
    clear hB1
    go_wp2_with fail
    refine (malive_any _).mono ?_
    rintro _ w2 ⟨rfl, hB2⟩
    have HB2 := hide (HB1.out.trans (hB2.mono HB1.out.size))
    clear hB2
    go_wp2
    go_ret
    exact ⟨rfl, HB2.out⟩
  have hpl : w.heap.size < w0.heap.size := (Array.getElem?_eq_some_iff.1 HW0.out).1
  have hrow := (hB1.block w.heap.size hpl).trans HW0.out
  have p0 := cell_of_row w1 w.heap.size 0 _ _ _ hrow
  have p1 := cell_of_row w1 w.heap.size 1 _ _ _ hrow
  have p2 := cell_of_row w1 w.heap.size 2 _ _ _ hrow
  have p3 := cell_of_row w1 w.heap.size 3 _ _ _ hrow
  have p4 := cell_of_row w1 w.heap.size 4 _ _ _ hrow
  have p5 := cell_of_row w1 w.heap.size 5 _ _ _ hrow
  have p6 := cell_of_row w1 w.heap.size 6 _ _ _ hrow
  have p7 := cell_of_row w1 w.heap.size 7 _ _ _ hrow
  have p8 := cell_of_row w1 w.heap.size 8 _ _ _ hrow
  simp at p0 p1 p2 p3 p4 p5 p6 p7 p8
  have HB1 := hide (HB0.out.trans (hB1.mono HB0.out.size))
  have HB0z := HB0.out.size
  have HO := hide hO
  clear hB1 hO hrow
  go_wp2_with fail
  refine (panics_any x _ _ _ _ _ _ (HP.out _ HB1.out) hw).mono ?_
  rintro _ w2 ⟨rfl, hB2⟩
  have HB2 := hide hB2
  clear hB2 p0 p1 p2 p3 p4 p5 p6 p7 p8 HW0 HB0
  by_cases hpan : x.pan = true
  · rw [hpan]
    go_wp2_with fail
    refine (malive_any _).mono ?_
    rintro _ w3 ⟨rfl, hB3⟩
    have HB3 := hide ((HB1.out.trans (HB2.out.mono HB1.out.size)).trans (hB3.mono (HB1.out.trans (HB2.out.mono HB1.out.size)).size))
    clear hB3
    go_wp2
    go_ret
    exact ⟨rfl, HB3.out⟩
  have hpan' : x.pan = false := by simpa using hpan
  rw [hpan']
  clear hpan
  obtain ⟨σ, D, T, v, g, fr, fw, fs, A, B, ok, Md, s0, K, hPP, hMd, hMk, hMc, hok⟩ := HO.out
  have HPP := hide (PP.below hPP K.oA K.oB HB2.out)
  have HMd := hide (hMk w1 w2 hMd (HB2.out.block mb (World.block_lt_of_cell? w1 _ (hMc w1 hMd).1)))
  have HMc := hide hMc
  have HMk := hide hMk
  have HOk := hide (hok hpan')
  have HKK := hide K
  have hm1 := K.mread
  have hm2 := K.mwrite
  have hm3 := K.mseek
  have hc1 := K.cread
  have hc2 := K.cwrite
  have hc3 := K.cseek
  have hmb2 : mb < w2.heap.size := Nat.lt_of_lt_of_le (World.block_lt_of_cell? w1 _ (hMc w1 hMd).1) HB2.out.size
  have hmbw : w.heap.size ≤ mb := by have := HB0z; omega
  have HBw2 := hide (HB1.out.trans (HB2.out.mono HB1.out.size))
  clear hPP hMd hMk hMc hok HO HP K HB1 HB2
  go_wp2_with fail
  have HOk2 := hide (ok_down HKK.out.less s0 (l.length + 1) _ (by omega) HOk.out)
  clear HOk
  go_loopg [7] l.length (fun gq s7 wx => ∃ (k : Nat) (s : σ), k + gq = l.length ∧ s7 = .int .i64 k ∧ Hid (PP A B s (mb + 1) wx ∧ Md wx ∧ ok (gq + 1) s) ∧ Hid (Below w.heap.size w wx) ∧ mb < wx.heap.size)
  case atStart => exact ⟨0, s0, by omega, rfl, hide ⟨HPP.out, HMd.out, HOk2.out⟩, HBw2, hmb2⟩
  case round =>
    clear HPP HMd HOk2 HBw2 hmb2
    obtain ⟨k, s, hkg, rfl, HI, HB, hmbr⟩ := hrel
    by_cases hlt : k < l.length
    case neg =>
      obtain rfl : k = l.length := by omega
      have HS := hide (HKK.out.same HI.out.1 HI.out.2.1 (ok_down HKK.out.less s 0 _ (Nat.zero_le _) HI.out.2.2))
      go_wp2_with fail
      refine HS.out.mono ?_
      rintro _ w4 ⟨rfl, hB4⟩
      have HB4 := hide (HB.out.trans (hB4.mono HB.out.size))
      clear hB4
      go_wp2_with fail
      refine (malive_any _).mono ?_
      rintro _ w5 ⟨rfl, hB5⟩
      have HB5 := hide (HB4.out.trans (hB5.mono HB4.out.size))
      clear hB5
      go_wp2
      go_ret
      exact ⟨rfl, HB5.out⟩
    obtain ⟨gq, rfl⟩ : ∃ gq, gk = gq + 1 := ⟨gk - 1, by omega⟩
    obtain ⟨b, off, va, vc, rfl, hbl, ⟨c0, c1, c2, c3⟩, hby, hcap⟩ := HL.out.at HB.out k hlt
    have hk1 : (0 : Int) ≤ (k : Int) := by omega
    have hk2 : (k : Int) < (l.length : Int) := by omega
    obtain ⟨hdl, hyn⟩ := HD.out k hlt
    have HYn := hide hyn
    clear hyn
    generalize l[k] = y at *
    obtain ⟨yw, yn, ym, yd⟩ := y
    simp only at *
    obtain ⟨m0, m1⟩ := HMc.out wr HI.out.2.1
    have HS := hide (fun (W' : World) (hT : Turned (fun j => mb + 1 ≤ j) wr W') => (show (W'.cell? ⟨mb, 0, none⟩ = some (.iface T v) ∧ W'.cell? ⟨mb, 1, none⟩ = some (.pointer (some ⟨g, 0, none⟩)) ∧ W'.cell? ⟨b, off + k * 4, none⟩ = some (.int .i64 yw) ∧ W'.cell? ⟨b, off + k * 4 + 1, none⟩ = some (.int .i64 yn) ∧ W'.cell? ⟨b, off + k * 4 + 2, none⟩ = some (.int .i64 ym) ∧ W'.cell? ⟨b, off + k * 4 + 3, none⟩ = some (.slice va yd.length vc)) ∧ Md W' from
      ⟨⟨hT.cell m0 (by show ¬ mb + 1 ≤ mb; omega), hT.cell m1 (by show ¬ mb + 1 ≤ mb; omega), hT.cell c0 (by show ¬ mb + 1 ≤ b; omega), hT.cell c1 (by show ¬ mb + 1 ≤ b; omega), hT.cell c2 (by show ¬ mb + 1 ≤ b; omega), hT.cell c3 (by show ¬ mb + 1 ≤ b; omega)⟩, HMk.out wr W' HI.out.2.1 (hT.block mb hmbr (by show ¬ mb + 1 ≤ mb; omega))⟩))
    by_cases h0 : yw = 0
    · subst h0
      have HC := hide (pk_read HKK.out yn HI.out.1 (by omega) (ok_down HKK.out.less s 1 _ (by omega) HI.out.2.2))
      have HOk := hide (HKK.out.nr _ s yn HI.out.2.2)
      have hfew : (D.read s yn).1.length ≤ 1048576 := by obtain ⟨O, P, hA, -⟩ := HI.out.1; exact HKK.out.few yn hA
      generalize D.read s yn = X at *
      obtain ⟨Y, E, s2⟩ := X
      simp only at *
      go_wp2_with fail
      go_region_held3 (fun w' => w'.cell? ⟨mb, 0, none⟩ = some (.iface T v) ∧ w'.cell? ⟨b, off + k * 4 + 1, none⟩ = some (.int .i64 yn))
        (first | exact K4 | exact ⟨m0, c1⟩ | go_keep)
        (first
          | (refine (HC.out _ (Below.refl _ _).drew).mono ?_; rintro _ w4 ⟨ra4, rc4, rfl, hT4, hC4⟩; have K4 : w4.cell? ⟨mb, 0, none⟩ = some (.iface T v) ∧ w4.cell? ⟨b, off + k * 4 + 1, none⟩ = some (.int .i64 yn) := ⟨(HS.out w4 hT4).1.1, (HS.out w4 hT4).1.2.2.2.1⟩; have HT4 := hide hT4; have HC4 := hide hC4; clear hT4 hC4)
          | fail)
      have n1 := (HS.out w4 HT4.out).1.2.1
      have n2 := K4.2
      clear K4 HC
      go_wp2_with fail
      go_region_held3 (fun w' => w'.cell? ⟨mb, 1, none⟩ = some (.pointer (some ⟨g, 0, none⟩)) ∧ w'.cell? ⟨b, off + k * 4 + 1, none⟩ = some (.int .i64 yn))
        (first | exact K6 | exact ⟨n1, n2⟩ | go_keep)
        (first
          | (go_at_call 21; refine (HC4.out _ (Below.refl _ _).drew).mono ?_; rintro _ w6 ⟨ra6, rc6, rfl, hy6, HN6, hT6⟩; have K6 : w6.cell? ⟨mb, 1, none⟩ = some (.pointer (some ⟨g, 0, none⟩)) ∧ w6.cell? ⟨b, off + k * 4 + 1, none⟩ = some (.int .i64 yn) := ⟨(HS.out w6 hT6).1.2.1, (HS.out w6 hT6).1.2.2.2.1⟩; have HT6 := hide hT6; have HY6 := hide hy6; clear hT6 hy6)
          | fail)
      clear K6 n1 n2 HC4
      have hmx : Y.length ≤ maxLen := by unfold maxLen; omega
      go_wp2_with (first | (go_at_call 22; refine (same_any _ _ Y w6 (Bys.of_owns HN6.out.1) HY6.out hmx).mono ?_; rintro _ w7 ⟨rfl, hB7⟩) | (go_at_call 23; refine (num_me _ _).mono ?_; rintro _ _ ⟨rfl, rfl⟩) | fail)
      have HO7 := hide (owns_below HN6.out.1 hB7)
      have HP7 := hide ((Both.below HN6.out.2 (HKK.out.oA _) (HKK.out.oB _) hB7).mono (fun j e => e.1))
      have HT7 := hide (HT6.out.trans (Turned.of_below (S := fun j => mb + 1 ≤ j) hB7) (fun _ _ e => e))
      refine (Kp_spoil_turn _ _ _ _ w7 HO7.out (fun u hu => by obtain ⟨c, _, rfl⟩ := List.mem_map.1 hu; exact ⟨_, rfl⟩) hmx).mono ?_
      rintro _ w8 ⟨rfl, hT8⟩
      have hTr8 : Turned (fun j => mb + 1 ≤ j) wr w8 := HT7.out.trans (hT8.mono (fun j e => by have := (HO7.out.lt j e).1; have h9 : wr.heap.size ≤ j := this; omega)) (fun _ _ e => e)
      have HN : Hid (PP A B s2 (mb + 1) w8 ∧ Md w8 ∧ ok (gq + 1) s2) := hide ⟨(Both.turned HP7.out (HKK.out.oA _) (HKK.out.oB _) hT8 (fun j e he => e.2 he)).mono (fun j e => e.1), (HS.out w8 hTr8).2, HOk.out⟩
      have HBn : Hid (Below w.heap.size w w8) := hide (HB.out.trans (hTr8.below (fun j e => by omega) HB.out.size))
      have hmn : mb < w8.heap.size := Nat.lt_of_lt_of_le hmbr hTr8.size
      clear hT8 hTr8 HO7 HP7 HT7 HN6 HY6 HT6 HT4 HS hB7 HOk
      by_cases h4 : (k : Int).tmod 4 = 3
      · have h4' : ((k : Int).tmod 4 == 3) = true := by simp [h4]
        go_wp2_with fail
        refine (HKK.out.same HN.out.1 HN.out.2.1 (ok_down HKK.out.less _ 0 _ (Nat.zero_le _) HN.out.2.2)).mono ?_
        rintro _ w9 ⟨rfl, hB9⟩
        have HN9 := hide (And.intro (PP.below HN.out.1 HKK.out.oA HKK.out.oB hB9) (And.intro (HMk.out _ w9 HN.out.2.1 (hB9.block mb hmn)) HN.out.2.2))
        have HB9 := hide (HBn.out.trans (hB9.mono HBn.out.size))
        have hm9 := Nat.lt_of_lt_of_le hmn hB9.size
        clear hB9
        go_wp2
        go_roundg gq
        case measure => omega
        case rel => exact ⟨k + 1, s2, by omega, by go_num, HN9, HB9, hm9⟩
      · have h4' : ((k : Int).tmod 4 == 3) = false := by simpa using h4
        go_wp2
        go_roundg gq
        case measure => omega
        case rel => exact ⟨k + 1, s2, by omega, by go_num, HN, HBn, hmn⟩
    by_cases h1 : yw = 1
    · subst h1
      have HYT : Hid (∀ W', Turned (fun j => mb + 1 ≤ j) wr W' → Bys W' (.slice va yd.length vc) yd) := hide fun W' hT => by
        by_cases hz : 0 < yd.length
        · obtain ⟨_, xb, xo, rfl, hxl, _⟩ := bys_block hby hz
          refine (hby.below HB.out).turned hT (fun j hj _ e => ?_)
          obtain rfl : xb = j := by simpa [Value.ownBlock] using hj
          have e2 : mb + 1 ≤ xb := e
          omega
        · exact bys_void2 hby hz
      have HYB : Hid (0 < yd.length → ∀ j, (Value.slice va yd.length vc).ownBlock = some j → j < w.heap.size) := hide fun hz j hj => by
        obtain ⟨_, xb, xo, rfl, hxl, _⟩ := bys_block hby hz
        obtain rfl : xb = j := by simpa [Value.ownBlock] using hj
        exact hxl
      have HOk := hide (HKK.out.nw _ s yd HI.out.2.2 hdl)
      clear hby
      go_wp2_with fail
      refine (copy_any _ yd _ (HYT.out _ (Turned.refl _ _)) (by omega)).mono ?_
      rintro _ w4 ⟨u4, rfl, hO4, hB4⟩
      obtain ⟨ua, uc, rfl⟩ := owns_slice hO4
      have HC := hide (pk_num2 HKK.out.oA HKK.out.oB HI.out.1 (by omega) (s' := (D.write s yd).2.2) w4 hB4 (fun O hA hO => HKK.out.pw yd ua uc hA (ok_down HKK.out.less s 1 _ (by omega) HI.out.2.2) (Bys.of_owns hO4) (owns_cap hO4) hdl (fun _ j hj hOj => by
          have h5 := hO4.lt j hj
          have h6 := hO j hOj
          omega)) (fun O wb2 hA hO hT => HKK.out.qw yd va vc hA (ok_down HKK.out.less s 1 _ (by omega) HI.out.2.2) (HYT.out _ hT) hcap hdl (fun hz j hj hOj => by
          have h5 := HYB.out hz j hj
          have h6 := hO j hOj
          omega)))
      generalize D.write s yd = X at *
      obtain ⟨Y, E, s2⟩ := X
      simp only at *
      obtain ⟨t0, t1, -, -, -, t3⟩ := (HS.out w4 (Turned.of_below hB4)).1
      have HO4 := hide hO4
      have HL4 := hide (fun j hj => hO4.lt j hj)
      have hz4 := hB4.size
      clear hO4 hB4
      go_wp2_with fail
      refine HC.out.mono ?_
      rintro _ w5 ⟨rfl, -, hT5, hC5⟩
      obtain ⟨-, n1, -, -, -, n3⟩ := (HS.out w5 hT5).1
      have HT5 := hide hT5
      have HC5 := hide hC5
      clear hT5 hC5 HC t0 t1 t3
      go_wp2_with fail
      go_region_held3 (fun w' => w'.cell? ⟨mb, 1, none⟩ = some (.pointer (some ⟨g, 0, none⟩)) ∧ w'.cell? ⟨b, off + k * 4 + 3, none⟩ = some (.slice va yd.length vc))
        (first | exact K6 | exact ⟨n1, n3⟩ | go_keep)
        (first
          | (go_at_call 26; refine (HC5.out _ (Below.refl _ _).drew).mono ?_; rintro _ w6 ⟨rfl, HN6, hTb6, hT6⟩; have K6 : w6.cell? ⟨mb, 1, none⟩ = some (.pointer (some ⟨g, 0, none⟩)) ∧ w6.cell? ⟨b, off + k * 4 + 3, none⟩ = some (.slice va yd.length vc) := ⟨(HS.out w6 hT6).1.2.1, (HS.out w6 hT6).1.2.2.2.2.2⟩; have HT6 := hide hT6; have HTb6 := hide hTb6; clear hT6 hTb6)
          | fail)
      have k63 := K6.2
      have HO6 := hide (owns_turned HO4.out HTb6.out (fun j hj e => by have h5 := HO4.out.lt j hj; omega))
      have hmx : yd.length ≤ maxLen := by unfold maxLen; omega
      clear K6 n1 n3 HC5 HT5 HO4 HTb6
      go_wp2_with (first | (go_at_call 23; refine (num_me _ _).mono ?_; rintro _ _ ⟨rfl, rfl⟩) | (go_at_call 22; refine (same_any _ _ yd w6 (Bys.of_owns HO6.out) (HYT.out _ HT6.out) hmx).mono ?_; rintro _ w7 ⟨rfl, hB7⟩) | fail)
      have HO7 := hide (owns_below HO6.out hB7)
      have HP7 := hide ((Both.below HN6.out (HKK.out.oA _) (HKK.out.oB _) hB7).mono (fun j e => e.1))
      have HT7 := hide (HT6.out.trans (Turned.of_below (S := fun j => mb + 1 ≤ j) hB7) (fun _ _ e => e))
      refine (Kp_spoil_turn _ _ _ _ w7 HO7.out (fun u hu => by obtain ⟨c, _, rfl⟩ := List.mem_map.1 hu; exact ⟨_, rfl⟩) hmx).mono ?_
      rintro _ w8 ⟨rfl, hT8⟩
      have hTr8 : Turned (fun j => mb + 1 ≤ j) wr w8 := HT7.out.trans (hT8.mono (fun j e => by have := (HL4.out j e).1; omega)) (fun _ _ e => e)
      have HN : Hid (PP A B s2 (mb + 1) w8 ∧ Md w8 ∧ ok (gq + 1) s2) := hide ⟨(Both.turned HP7.out (HKK.out.oA _) (HKK.out.oB _) hT8 (fun j e he => by have h5 := HL4.out j he; omega)).mono (fun j e => e.1), (HS.out w8 hTr8).2, HOk.out⟩
      have HBn : Hid (Below w.heap.size w w8) := hide (HB.out.trans (hTr8.below (fun j e => by omega) HB.out.size))
      have hmn : mb < w8.heap.size := Nat.lt_of_lt_of_le hmbr hTr8.size
      clear hT8 hTr8 HO7 HP7 HT7 HN6 HT6 HS hB7 HOk HO6 HL4 HYT HYB
      by_cases h4 : (k : Int).tmod 4 = 3
      · have h4' : ((k : Int).tmod 4 == 3) = true := by simp [h4]
        go_wp2_with (first | (go_at_call 23; refine (num_me _ _).mono ?_; rintro _ _ ⟨rfl, rfl⟩) | fail)
        refine (HKK.out.same HN.out.1 HN.out.2.1 (ok_down HKK.out.less _ 0 _ (Nat.zero_le _) HN.out.2.2)).mono ?_
        rintro _ w9 ⟨rfl, hB9⟩
        have HN9 := hide (And.intro (PP.below HN.out.1 HKK.out.oA HKK.out.oB hB9) (And.intro (HMk.out _ w9 HN.out.2.1 (hB9.block mb hmn)) HN.out.2.2))
        have HB9 := hide (HBn.out.trans (hB9.mono HBn.out.size))
        have hm9 := Nat.lt_of_lt_of_le hmn hB9.size
        clear hB9
        go_wp2
        go_roundg gq
        case measure => omega
        case rel => exact ⟨k + 1, s2, by omega, by go_num, HN9, HB9, hm9⟩
      · have h4' : ((k : Int).tmod 4 == 3) = false := by simpa using h4
        go_wp2_with (first | (go_at_call 23; refine (num_me _ _).mono ?_; rintro _ _ ⟨rfl, rfl⟩) | fail)
        go_roundg gq
        case measure => omega
        case rel => exact ⟨k + 1, s2, by omega, by go_num, HN, HBn, hmn⟩
    by_cases h2 : yw = 2
    · subst h2
      have HOk := hide (HKK.out.ns _ s yn ym HI.out.2.2)
      have HC := hide (pk_num HKK.out.oA HKK.out.oB HI.out.1 (by omega) (s' := (D.seek s yn ym).2.2) (fun O wb hA _ _ => HKK.out.ps yn ym hA (ok_down HKK.out.less s 1 _ (by omega) HI.out.2.2) HYn.out) (fun O wb hA _ _ => HKK.out.qs yn ym hA (ok_down HKK.out.less s 1 _ (by omega) HI.out.2.2) HYn.out))
      generalize D.seek s yn ym = X at *
      obtain ⟨Y, E, s2⟩ := X
      simp only at *
      go_wp2_with fail
      go_region_held3 (fun w' => w'.cell? ⟨mb, 0, none⟩ = some (.iface T v) ∧ w'.cell? ⟨b, off + k * 4 + 1, none⟩ = some (.int .i64 yn) ∧ w'.cell? ⟨b, off + k * 4 + 2, none⟩ = some (.int .i64 ym))
        (first | exact K4 | exact ⟨m0, c1, c2⟩ | go_keep)
        (first
          | (refine (HC.out _ (Below.refl _ _).drew).mono ?_; rintro _ w4 ⟨rfl, -, hT4, hC4⟩; have K4 : w4.cell? ⟨mb, 0, none⟩ = some (.iface T v) ∧ w4.cell? ⟨b, off + k * 4 + 1, none⟩ = some (.int .i64 yn) ∧ w4.cell? ⟨b, off + k * 4 + 2, none⟩ = some (.int .i64 ym) := ⟨(HS.out w4 hT4).1.1, (HS.out w4 hT4).1.2.2.2.1, (HS.out w4 hT4).1.2.2.2.2.1⟩; have HT4 := hide hT4; have HC4 := hide hC4; clear hT4 hC4)
          | fail)
      have n1 := (HS.out w4 HT4.out).1.2.1
      have n2 := K4.2.1
      have n3 := K4.2.2
      clear K4 HC
      go_wp2_with fail
      go_region_held3 (fun w' => w'.cell? ⟨mb, 1, none⟩ = some (.pointer (some ⟨g, 0, none⟩)) ∧ w'.cell? ⟨b, off + k * 4 + 1, none⟩ = some (.int .i64 yn) ∧ w'.cell? ⟨b, off + k * 4 + 2, none⟩ = some (.int .i64 ym))
        (first | exact K6 | exact ⟨n1, n2, n3⟩ | go_keep)
        (first
          | (go_at_call 27; refine (HC4.out _ (Below.refl _ _).drew).mono ?_; rintro _ w6 ⟨rfl, HN6, -, hT6⟩; have K6 : w6.cell? ⟨mb, 1, none⟩ = some (.pointer (some ⟨g, 0, none⟩)) ∧ w6.cell? ⟨b, off + k * 4 + 1, none⟩ = some (.int .i64 yn) ∧ w6.cell? ⟨b, off + k * 4 + 2, none⟩ = some (.int .i64 ym) := ⟨(HS.out w6 hT6).1.2.1, (HS.out w6 hT6).1.2.2.2.1, (HS.out w6 hT6).1.2.2.2.2.1⟩; have HT6 := hide hT6; clear hT6)
          | fail)
      clear K6 n1 n2 n3 HC4
      have HN : Hid (PP A B s2 (mb + 1) w6 ∧ Md w6 ∧ ok (gq + 1) s2) := hide ⟨HN6.out, (HS.out w6 HT6.out).2, HOk.out⟩
      have HBn : Hid (Below w.heap.size w w6) := hide (HB.out.trans (HT6.out.below (fun j e => by omega) HB.out.size))
      have hmn : mb < w6.heap.size := Nat.lt_of_lt_of_le hmbr HT6.out.size
      clear HN6 HT6 HT4 HS HOk
      by_cases h4 : (k : Int).tmod 4 = 3
      · have h4' : ((k : Int).tmod 4 == 3) = true := by simp [h4]
        go_wp2_with (first | (go_at_call 23; refine (num_me _ _).mono ?_; rintro _ _ ⟨rfl, rfl⟩) | fail)
        refine (HKK.out.same HN.out.1 HN.out.2.1 (ok_down HKK.out.less _ 0 _ (Nat.zero_le _) HN.out.2.2)).mono ?_
        rintro _ w9 ⟨rfl, hB9⟩
        have HN9 := hide (And.intro (PP.below HN.out.1 HKK.out.oA HKK.out.oB hB9) (And.intro (HMk.out _ w9 HN.out.2.1 (hB9.block mb hmn)) HN.out.2.2))
        have HB9 := hide (HBn.out.trans (hB9.mono HBn.out.size))
        have hm9 := Nat.lt_of_lt_of_le hmn hB9.size
        clear hB9
        go_wp2
        go_roundg gq
        case measure => omega
        case rel => exact ⟨k + 1, s2, by omega, by go_num, HN9, HB9, hm9⟩
      · have h4' : ((k : Int).tmod 4 == 3) = false := by simpa using h4
        go_wp2_with (first | (go_at_call 23; refine (num_me _ _).mono ?_; rintro _ _ ⟨rfl, rfl⟩) | fail)
        go_roundg gq
        case measure => omega
        case rel => exact ⟨k + 1, s2, by omega, by go_num, HN, HBn, hmn⟩
    have e0 : (yw == 0) = false := by simpa using h0
    have e1 : (yw == 1) = false := by simpa using h1
    have e2 : (yw == 2) = false := by simpa using h2
    have HN : Hid (PP A B s (mb + 1) wr ∧ Md wr ∧ ok (gq + 1) s) := hide ⟨HI.out.1, HI.out.2.1, HKK.out.less _ s HI.out.2.2⟩
    have HBn := HB
    have hmn := hmbr
    clear HS
    by_cases h4 : (k : Int).tmod 4 = 3
    · have h4' : ((k : Int).tmod 4 == 3) = true := by simp [h4]
      go_wp2_with (first | (go_at_call 23; refine (num_me _ _).mono ?_; rintro _ _ ⟨rfl, rfl⟩) | fail)
      refine (HKK.out.same HN.out.1 HN.out.2.1 (ok_down HKK.out.less _ 0 _ (Nat.zero_le _) HN.out.2.2)).mono ?_
      rintro _ w9 ⟨rfl, hB9⟩
      have HN9 := hide (And.intro (PP.below HN.out.1 HKK.out.oA HKK.out.oB hB9) (And.intro (HMk.out _ w9 HN.out.2.1 (hB9.block mb hmn)) HN.out.2.2))
      have HB9 := hide (HBn.out.trans (hB9.mono HBn.out.size))
      have hm9 := Nat.lt_of_lt_of_le hmn hB9.size
      clear hB9
      go_wp2
      go_roundg gq
      case measure => omega
      case rel => exact ⟨k + 1, s, by omega, by go_num, HN9, HB9, hm9⟩
    · have h4' : ((k : Int).tmod 4 == 3) = false := by simpa using h4
      go_wp2_with (first | (go_at_call 23; refine (num_me _ _).mono ?_; rintro _ _ ⟨rfl, rfl⟩) | fail)
      go_roundg gq
      case measure => omega
      case rel => exact ⟨k + 1, s, by omega, by go_num, HN, HBn, hmn⟩
end Go.Proofs.YtanbiinomagdbaaGreat

/- What the proof stands on, part 9: the contracts of the program's calls that it reaches. -/
import Derived.Test.YtpffhemmjigfaaaKM8
import Derived.ChangeArms
import Derived.ChangeSlices
import Derived.SizedLaws
import Derived.Deep.Slices
import Derived.Defers
import Derived.Lib.BufferMore
/- Bytes, and steps, that came in as an argument: what a walk is told of them. -/
namespace Go.Proofs.Ytpffhemmjigfaaa
open Go.ChangeShapes Go.WideShapes Go.ChangeAt Go.RowKit Go.Deep

/-- A step: what, n, which side, data. -/
abbrev Kp_Stp := Int × Int × Bool × List UInt8
theorem Kp_bys_len {W : World} {a : Option Addr} {n c : Nat} {l : List UInt8} (h : Bys W (.slice a n c) l) : n = l.length := by
  obtain ⟨a', c', he, _⟩ := bys_form h
  cases he
  rfl
theorem bytes_arg2 {H : Type} {enc : TypeId × Value → H} {P : Program} {W : World} {base : Nat} {a : Option Addr} {len cap fuel t e : Nat} {d : DataW H} {p : List MemPlace}
    (ht : P.underlying t = some (.slice e)) (he : P.underlying e = some (.int .u8)) (hc : P.cellsOf e = 1)
    (hf : DataW.trod enc P W base (fun _ => true) true fuel t (Value.slice a len cap).cells.toList = some (d, p)) :
    ∃ l : List UInt8, Bys W (.slice a len cap) l ∧ l.length ≤ cap ∧ ((d = .nil ∧ l = []) ∨ ∃ elems spare : List (DataW H), d = .slice elems spare ∧ l.length = elems.length) := by
  rcases open_ints ht he hc hf with ⟨hcs, hd⟩ | ⟨x, n, c, zs, hcs, _, hl, hm, hz, hx, hcell, hwz⟩
  · simp [Value.cells] at hcs
    obtain ⟨rfl, rfl, rfl⟩ := hcs
    exact ⟨[], .inl ⟨rfl, rfl⟩, by simp, .inl ⟨(Prod.mk.inj hd).1, rfl⟩⟩
  · simp [Value.cells] at hcs
    obtain ⟨rfl, rfl, rfl⟩ := hcs
    simp only [if_true] at hz
    have hlen : ((zs.take len).map fun n => UInt8.ofNat n.toNat).length = len := by rw [List.length_map, List.length_take]; omega
    refine ⟨(zs.take len).map fun n => UInt8.ofNat n.toNat, ?_, by rw [hlen]; exact hl, .inr ⟨_, _, (Prod.mk.inj hx).1, by simp [lits]⟩⟩
    by_cases h0 : len = 0
    · subst h0
      exact .inr (.inl ⟨x, cap, rfl, by simp⟩)
    · obtain ⟨b, off, spot⟩ := x
      have hspot : spot = none := by simpa [Addr.add] using World.cell?_spot (hcell 0 (by omega))
      subst hspot
      refine .inr (.inr ⟨b, off, cap, by rw [hlen], by rw [hlen]; omega, fun j hj => ?_⟩)
      rw [hlen] at hj
      have h1 := hcell j (by omega)
      have hadd : (⟨b, off, none⟩ : Addr).add j = ⟨b, off + j, none⟩ := by unfold Addr.add; split <;> simp_all
      rw [hadd] at h1
      rw [h1]
      have hjz : j < zs.length := by omega
      have hb := bounds_u8 (hwz zs[j] (List.getElem_mem hjz))
      simp only [List.getD_eq_getElem?_getD, List.getElem?_map, List.getElem?_take, if_pos hj, List.getElem?_eq_getElem hjz, Option.map_some, Option.getD_some]
      rw [UInt8.toNat_ofNat_of_lt' (by show _ < 256; omega), Int.toNat_of_nonneg hb.1]



/-- How a slice of bytes inside a datum is told. -/
def Kp_DataOf {H : Type} (d : DataW H) (x : List UInt8) : Prop := (d = .nil ∧ x = []) ∨ ∃ elems spare : List (DataW H), d = .slice elems spare ∧ x.length = elems.length

theorem Kp_step_cells {H : Type} {enc : TypeId × Value → H} {P : Program} {W : World} {base : Nat} {fuel e u : Nat} {f0 f1 f2 f3 : Field} {cs : List Value} {d : DataW H} {p : List MemPlace}
    (he : P.underlying e = some (.struct #[f0, f1, f2, f3])) (ce : P.cellsOf e = 4) (o0 : f0.offset = 0) (o1 : f1.offset = 1) (o2 : f2.offset = 2) (o3 : f3.offset = 3)
    (c0 : P.cellsOf f0.type = 1) (c1 : P.cellsOf f1.type = 1) (c2 : P.cellsOf f2.type = 1) (c3 : P.cellsOf f3.type = 1)
    (t0 : P.underlying f0.type = some (.int .i64)) (t1 : P.underlying f1.type = some (.int .i64)) (t2 : P.underlying f2.type = some .bool) (t3 : P.underlying f3.type = some (.slice u)) (tu : P.underlying u = some (.int .u8)) (cu : P.cellsOf u = 1)
    (h : DataW.trod enc P W base (fun _ => true) true fuel e cs = some (d, p)) :
    ∃ (x : Kp_Stp) (va : Option Addr) (vc : Nat) (d3 : DataW H), cs = [.int .i64 x.1, .int .i64 x.2.1, .bool x.2.2.1, .slice va x.2.2.2.length vc] ∧ (Bys W (.slice va x.2.2.2.length vc) x.2.2.2 ∧ x.2.2.2.length ≤ vc) ∧ (∃ x0 x1 x2, d = .agg [x0, x1, x2, d3]) ∧ Kp_DataOf d3 x.2.2.2 := by
  obtain ⟨xs, k, hk, hxy, hcl, hxl, hf⟩ := DataW.trod_struct he h
  rw [ce] at hcl
  match xs, hxl, cs, hcl with
  | [y0, y1, y2, y3], _, [v0, v1, v2, v3], _ =>
    have g0 := hf 0 f0 rfl
    have g1 := hf 1 f1 rfl
    have g2 := hf 2 f2 rfl
    have g3 := hf 3 f3 rfl
    simp [o0, c0] at g0
    simp [o1, c1] at g1
    simp [o2, c2] at g2
    simp [o3, c3] at g3
    obtain ⟨a, ha, _⟩ := DataW.trod_int t0 g0
    obtain ⟨b, hb, _⟩ := DataW.trod_int t1 g1
    obtain ⟨c, hc, _⟩ := DataW.trod_bool t2 g2
    obtain rfl : v0 = .int .i64 a := by simpa using ha
    obtain rfl : v1 = .int .i64 b := by simpa using hb
    obtain rfl : v2 = .bool c := by simpa using hc
    obtain ⟨va, vl, vc, rfl⟩ : ∃ va vl vc, v3 = .slice va vl vc := by
      rcases DataW.trod_slice t3 g3 with ⟨h0, _⟩ | ⟨x, len, cap, _, _, _, _, h0, _⟩
      · exact ⟨_, _, _, by simpa using h0⟩
      · exact ⟨_, _, _, by simpa using h0⟩
    obtain ⟨y3a, y3b⟩ := y3
    obtain ⟨l, hl, hlc, hd⟩ := bytes_arg2 t3 tu cu (by simpa [Value.cells] using g3)
    obtain rfl := Kp_bys_len hl
    simp only [Prod.mk.injEq] at hxy
    exact ⟨(a, b, c, l), va, vc, y3a, rfl, ⟨hl, hlc⟩, ⟨_, _, _, by simpa using hxy.1⟩, hd⟩

/-- The slice value v holds the steps l. -/
def Kp_Stps (W : World) (v : Value) (l : List Kp_Stp) : Prop :=
  ∃ a c, v = .slice a l.length c ∧ (0 < l.length → ∃ b off, a = some ⟨b, off, none⟩ ∧ ∀ j (hj : j < l.length), ∃ va vc,
    W.cell? ⟨b, off + j * 4, none⟩ = some (.int .i64 l[j].1) ∧ W.cell? ⟨b, off + j * 4 + 1, none⟩ = some (.int .i64 l[j].2.1) ∧ W.cell? ⟨b, off + j * 4 + 2, none⟩ = some (.bool l[j].2.2.1) ∧ W.cell? ⟨b, off + j * 4 + 3, none⟩ = some (.slice va l[j].2.2.2.length vc) ∧ Bys W (.slice va l[j].2.2.2.length vc) l[j].2.2.2 ∧ l[j].2.2.2.length ≤ vc)

theorem Kp_stps_arg {H : Type} {enc : TypeId × Value → H} {P : Program} {W : World} {base : Nat} {a : Option Addr} {len cap fuel t e u : Nat} {f0 f1 f2 f3 : Field} {d : DataW H} {p : List MemPlace}
    (ht : P.underlying t = some (.slice e)) (he : P.underlying e = some (.struct #[f0, f1, f2, f3])) (ce : P.cellsOf e = 4) (o0 : f0.offset = 0) (o1 : f1.offset = 1) (o2 : f2.offset = 2) (o3 : f3.offset = 3)
    (c0 : P.cellsOf f0.type = 1) (c1 : P.cellsOf f1.type = 1) (c2 : P.cellsOf f2.type = 1) (c3 : P.cellsOf f3.type = 1)
    (t0 : P.underlying f0.type = some (.int .i64)) (t1 : P.underlying f1.type = some (.int .i64)) (t2 : P.underlying f2.type = some .bool) (t3 : P.underlying f3.type = some (.slice u)) (tu : P.underlying u = some (.int .u8)) (cu : P.cellsOf u = 1)
    (hf : DataW.trod enc P W base (fun _ => true) true fuel t (Value.slice a len cap).cells.toList = some (d, p)) :
    ∃ l : List Kp_Stp, Kp_Stps W (.slice a len cap) l ∧ ((d = .nil ∧ l = []) ∨ ∃ elems spare : List (DataW H), d = .slice elems spare ∧ l.length = elems.length ∧ ∀ i (hi : i < l.length), ∃ x0 x1 x2 d3, DataW.agg [x0, x1, x2, d3] ∈ elems ∧ Kp_DataOf d3 l[i].2.2.2) := by
  rcases open_slice ht hf with ⟨hcs, hd⟩ | ⟨x, n, c, m, k, D, Pl, hcs, _, hl, hm, hmm, hx, hel⟩
  · simp [Value.cells] at hcs
    obtain ⟨rfl, rfl, rfl⟩ := hcs
    exact ⟨[], ⟨_, _, rfl, fun h => absurd h (by decide)⟩, .inl ⟨(Prod.mk.inj hd).1, rfl⟩⟩
  · simp [Value.cells] at hcs
    obtain ⟨rfl, rfl, rfl⟩ := hcs
    simp only [if_true] at hmm
    subst hmm
    have each : ∀ i, i < len → ∃ s : Kp_Stp, ∃ va vc, (∃ x0 x1 x2 d3, D i = .agg [x0, x1, x2, d3] ∧ Kp_DataOf d3 s.2.2.2) ∧
        W.cell? ((x.add (i * 4)).add 0) = some (.int .i64 s.1) ∧ W.cell? ((x.add (i * 4)).add 1) = some (.int .i64 s.2.1) ∧ W.cell? ((x.add (i * 4)).add 2) = some (.bool s.2.2.1) ∧ W.cell? ((x.add (i * 4)).add 3) = some (.slice va s.2.2.2.length vc) ∧ Bys W (.slice va s.2.2.2.length vc) s.2.2.2 ∧ s.2.2.2.length ≤ vc := by
      intro i hi
      obtain ⟨cs', h1, h2⟩ := hel i (by omega)
      rw [ce] at h1
      obtain ⟨_, hlen, hcell⟩ := World.cells?_some h1
      obtain ⟨s, va, vc, d3, rfl, hb, ⟨x0, x1, x2, hD⟩, hO⟩ := Kp_step_cells he ce o0 o1 o2 o3 c0 c1 c2 c3 t0 t1 t2 t3 tu cu h2
      exact ⟨s, va, vc, ⟨x0, x1, x2, d3, hD, hO⟩, by simpa using hcell 0 (by omega), by simpa using hcell 1 (by omega), by simpa using hcell 2 (by omega), by simpa using hcell 3 (by omega), hb⟩
    obtain ⟨s, hs⟩ := choose_lt each
    refine ⟨(List.range len).map s, ⟨some x, m, by simp, fun h0 => ?_⟩, .inr ⟨_, _, (Prod.mk.inj hx).1, by simp, fun i hi => ?_⟩⟩
    · have h0' : 0 < len := by simpa using h0
      obtain ⟨b, off, spot⟩ := x
      obtain ⟨_, _, _, q0, _⟩ := hs 0 h0'
      have hspot : spot = none := by simpa [Addr.add] using World.cell?_spot q0
      subst hspot
      refine ⟨b, off, rfl, fun j hj => ?_⟩
      have hj' : j < len := by simpa using hj
      obtain ⟨va, vc, _, q0, q1, q2, q3, hb⟩ := hs j hj'
      have hadd : ∀ o k, (⟨b, o, none⟩ : Addr).add k = ⟨b, o + k, none⟩ := fun o k => by unfold Addr.add; split <;> simp_all
      rw [hadd, hadd] at q0 q1 q2 q3
      simp only [List.getElem_map, List.getElem_range]
      exact ⟨va, vc, by simpa using q0, q1, q2, q3, hb⟩
    · have hi' : i < len := by simpa using hi
      obtain ⟨va, vc, ⟨x0, x1, x2, d3, hD, hO⟩, _⟩ := hs i hi'
      refine ⟨x0, x1, x2, d3, ?_, by simpa using hO⟩
      rw [← hD]
      exact List.mem_map.2 ⟨i, by simpa using hi', rfl⟩

theorem Kp_weightsAll_mem {H : Type} {P : Program} {e : TypeId} : ∀ {l : List (DataW H)} {d : DataW H}, d ∈ l → ∀ n ∈ d.weights P e, n ∈ DataW.weightsAll P e l
  | d' :: r, d, hd, n, hn => by
    simp only [DataW.weightsAll, List.mem_append]
    rcases List.mem_cons.1 hd with rfl | h
    · exact Or.inl hn
    · exact Or.inr (Kp_weightsAll_mem h n hn)
theorem Kp_step_weight {H : Type} {P : Program} {e u : TypeId} {f0 f1 f2 f3 : Field} {x0 x1 x2 d3 : DataW H} {x : List UInt8} (he : P.underlying e = some (.struct #[f0, f1, f2, f3])) (t3 : P.underlying f3.type = some (.slice u)) (bu : P.bytesOf u = 1)
    (hO : Kp_DataOf d3 x) (h : ∀ n ∈ (DataW.agg [x0, x1, x2, d3]).weights P e, n ≤ reachBytes) : x.length ≤ 140737488351232 := by
  rcases hO with ⟨_, rfl⟩ | ⟨elems, spare, rfl, hl⟩
  · simp
  · have := h ((elems.length + spare.length) * P.bytesOf u) (by simp [DataW.weights, DataW.weightsEach, he, t3])
    rw [bu] at this
    simp only [reachBytes] at this
    omega
/-- The reach, of the data of each step. -/
theorem Kp_sized_steps {H : Type} {P : Program} {ts : List TypeId} {ds : List (DataW H)} (h : (DataW.weightsEach P ts ds).all (· ≤ reachBytes) = true) {j : Nat} {t e u : TypeId} {f0 f1 f2 f3 : Field} {x0 x1 x2 d3 : DataW H} {elems spare : List (DataW H)} {x : List UInt8}
    (ht : ts[j]? = some t) (hd : ds[j]? = some (.slice elems spare)) (hu : P.underlying t = some (.slice e)) (hm : DataW.agg [x0, x1, x2, d3] ∈ elems) (he : P.underlying e = some (.struct #[f0, f1, f2, f3])) (t3 : P.underlying f3.type = some (.slice u)) (bu : P.bytesOf u = 1) (hO : Kp_DataOf d3 x) : x.length ≤ 140737488351232 :=
  Kp_step_weight he t3 bu hO fun n hn => of_decide_eq_true (List.all_eq_true.1 h _ (DataW.weights_mem_each ht hd n (by
    simp only [DataW.weights, hu, List.mem_cons, List.mem_append]
    exact Or.inr (Or.inl (Kp_weightsAll_mem hm n hn)))))
theorem bulkAll_mem {H : Type} : ∀ {l : List (DataW H)} {d : DataW H}, d ∈ l → Rows.uptoBulk d ≤ Rows.uptoBulkAll l
  | d' :: r, d, hd => by
    simp only [Rows.uptoBulkAll]
    rcases List.mem_cons.1 hd with rfl | h
    · omega
    · have := bulkAll_mem h; omega
/-- The bulk, of the data of each step. -/
theorem bulk_steps {H : Type} {elems spare : List (DataW H)} {x0 x1 x2 d3 : DataW H} {x : List UInt8} (hm : DataW.agg [x0, x1, x2, d3] ∈ elems) (hO : Kp_DataOf d3 x) : x.length ≤ Rows.uptoBulk (.slice elems spare) := by
  have h1 := bulkAll_mem hm
  simp only [Rows.uptoBulk, Rows.uptoBulkAll] at h1
  have h2 : Rows.uptoBulkAll elems ≤ Rows.uptoBulk (.slice elems spare) := by simp only [Rows.uptoBulk]; omega
  rcases hO with ⟨_, rfl⟩ | ⟨es, sp, rfl, hl⟩
  · simp
  · have := bulk_slice es sp
    omega
theorem stps_form {W : World} {v : Value} {l : List Kp_Stp} (h : Kp_Stps W v l) : ∃ a c, v = .slice a l.length c := by
  obtain ⟨a, c, rfl, _⟩ := h
  exact ⟨a, c, rfl⟩
/-- Step j of the steps l, in any later world. -/
theorem Kp_stps_at {W W' : World} {a : Option Addr} {n c : Nat} {l : List Kp_Stp} (h : Kp_Stps W (.slice a n c) l) (hB : Below W.heap.size W W') (j : Nat) (hj : j < l.length) :
    ∃ b off va vc, a = some ⟨b, off, none⟩ ∧ b < W.heap.size ∧ W'.cell? ⟨b, off + j * 4, none⟩ = some (.int .i64 l[j].1) ∧ W'.cell? ⟨b, off + j * 4 + 1, none⟩ = some (.int .i64 l[j].2.1) ∧ W'.cell? ⟨b, off + j * 4 + 2, none⟩ = some (.bool l[j].2.2.1) ∧
      W'.cell? ⟨b, off + j * 4 + 3, none⟩ = some (.slice va l[j].2.2.2.length vc) ∧ Bys W (.slice va l[j].2.2.2.length vc) l[j].2.2.2 ∧ l[j].2.2.2.length ≤ vc := by
  obtain ⟨a', c', he, hc⟩ := h
  cases he
  obtain ⟨b, off, rfl, hd⟩ := hc (by omega)
  obtain ⟨va, vc, h0, h1, h2, h3, h4, h5⟩ := hd j hj
  have hb := World.block_lt_of_cell? W _ h0
  exact ⟨b, off, va, vc, rfl, hb, (hB.cell (p := ⟨b, off + j * 4, none⟩) hb).trans h0, (hB.cell (p := ⟨b, off + j * 4 + 1, none⟩) hb).trans h1, (hB.cell (p := ⟨b, off + j * 4 + 2, none⟩) hb).trans h2, (hB.cell (p := ⟨b, off + j * 4 + 3, none⟩) hb).trans h3, h4, h5⟩
end Go.Proofs.Ytpffhemmjigfaaa

/- Slices of anything that came in as an argument: what a walk is told of them, and their sizes. -/
namespace Go.Proofs.Ytpffhemmjigfaaa
open Go.ChangeShapes Go.WideShapes Go.ChangeAt Go.RowKit Go.Deep

/-- How a slice inside a datum is told. -/
def DatL {H : Type} {α : Type} (Dt : DataW H → α → Prop) (d : DataW H) (l : List α) : Prop := (d = .nil ∧ l = []) ∨ ∃ elems spare : List (DataW H), d = .slice elems spare ∧ l.length = elems.length ∧ ∀ i (hi : i < l.length), ∃ di, di ∈ elems ∧ Dt di l[i]
/-- Any slice: its elements, each of k cells, as a reader of cells tells them. -/
def RowsR {α : Type} (W : World) (k : Nat) (Rd : List Value → α → Prop) (v : Value) (l : List α) : Prop :=
  (v = .slice none 0 0 ∧ l = []) ∨ ∃ q cap, v = .slice (some q) l.length cap ∧ l.length ≤ cap ∧ (0 < l.length → ∃ b off, q = ⟨b, off, none⟩ ∧ ∀ j (hj : j < l.length), ∃ cs, Rd cs l[j] ∧ cs.length = k ∧ ∀ i v, cs[i]? = some v → W.cell? ⟨b, off + j * k + i, none⟩ = some v)
theorem rows_arg {H : Type} {enc : TypeId × Value → H} {P : Program} {W : World} {base : Nat} {a : Option Addr} {len cap fuel t e : Nat} {d : DataW H} {p : List MemPlace} {α : Type} (k : Nat) (Rd : List Value → α → Prop) (Dt : DataW H → α → Prop)
    (ht : P.underlying t = some (.slice e)) (ce : P.cellsOf e = k) (hk : 0 < k)
    (each : ∀ fuel cs d p, DataW.trod enc P W base (fun _ => true) true fuel e cs = some (d, p) → cs.length = k → ∃ x, Rd cs x ∧ Dt d x)
    (hf : DataW.trod enc P W base (fun _ => true) true fuel t (Value.slice a len cap).cells.toList = some (d, p)) :
    ∃ l : List α, RowsR W k Rd (.slice a len cap) l ∧ DatL Dt d l := by
  rcases open_slice ht hf with ⟨hcs, hd⟩ | ⟨x, n, c, m, kk, D, Pl, hcs, _, hl, hm, hmm, hx, hel⟩
  · simp [Value.cells] at hcs
    obtain ⟨rfl, rfl, rfl⟩ := hcs
    exact ⟨[], .inl ⟨rfl, rfl⟩, .inl ⟨(Prod.mk.inj hd).1, rfl⟩⟩
  · simp [Value.cells] at hcs
    obtain ⟨rfl, rfl, rfl⟩ := hcs
    simp only [if_true] at hmm
    subst hmm
    have ea : ∀ i, i < len → ∃ s : α, Dt (D i) s ∧ ∃ cs, Rd cs s ∧ cs.length = k ∧ ∀ j v, cs[j]? = some v → W.cell? ((x.add (i * k)).add j) = some v := by
      intro i hi
      obtain ⟨cs', h1, h2⟩ := hel i (by omega)
      rw [ce] at h1
      obtain ⟨_, hlen, hcell⟩ := World.cells?_some h1
      obtain ⟨s, hs, hD⟩ := each _ _ _ _ h2 hlen
      refine ⟨s, hD, cs', hs, hlen, fun j v hj => ?_⟩
      have hjl := (List.getElem?_eq_some_iff.1 hj).1
      rw [hcell j (by omega)]
      exact hj
    by_cases hα : 0 < len
    case neg =>
      obtain rfl : len = 0 := by omega
      exact ⟨[], .inr ⟨x, _, rfl, Nat.zero_le _, fun h => absurd h (by simp)⟩, .inr ⟨_, _, (Prod.mk.inj hx).1, by simp, fun i hi => absurd hi (by simp)⟩⟩
    obtain ⟨s, hs⟩ : ∃ s : Nat → α, ∀ i, i < len → Dt (D i) (s i) ∧ ∃ cs, Rd cs (s i) ∧ cs.length = k ∧ ∀ j v, cs[j]? = some v → W.cell? ((x.add (i * k)).add j) = some v := by
      exact ⟨fun i => if h : i < len then (ea i h).choose else (ea 0 hα).choose, fun i hi => by simp only [dif_pos hi]; exact (ea i hi).choose_spec⟩
    refine ⟨(List.range len).map s, .inr ⟨x, m, by simp, by simpa using hl, fun h0 => ?_⟩, .inr ⟨_, _, (Prod.mk.inj hx).1, by simp, fun i hi => ?_⟩⟩
    · obtain ⟨b, off, spot⟩ := x
      obtain ⟨_, cs0, _, hc0, q0⟩ := hs 0 hα
      have hspot : spot = none := by
        have h1 := q0 0 (cs0[0]'(by omega)) (List.getElem?_eq_getElem (by omega))
        simpa [Addr.add] using World.cell?_spot h1
      subst hspot
      refine ⟨b, off, rfl, fun j hj => ?_⟩
      have hj' : j < len := by simpa using hj
      obtain ⟨_, cs, h1, h2, h3⟩ := hs j hj'
      have hadd : ∀ o k, (⟨b, o, none⟩ : Addr).add k = ⟨b, o + k, none⟩ := fun o k => by unfold Addr.add; split <;> simp_all
      simp only [List.getElem_map, List.getElem_range]
      exact ⟨cs, h1, h2, fun i v hv => by have := h3 i v hv; rwa [hadd, hadd] at this⟩
    · have hi' : i < len := by simpa using hi
      exact ⟨D i, List.mem_map.2 ⟨i, by simpa using hi', rfl⟩, by simpa using (hs i hi').1⟩
theorem RowsR.form {α : Type} {W : World} {k : Nat} {Rd : List Value → α → Prop} {v : Value} {l : List α} (h : RowsR W k Rd v l) : ∃ a c, v = .slice a l.length c ∧ l.length ≤ c := by
  rcases h with ⟨rfl, rfl⟩ | ⟨q, cap, rfl, h1, _⟩
  · exact ⟨_, _, rfl, Nat.le_refl _⟩
  · exact ⟨_, _, rfl, h1⟩
theorem RowsR.at {α : Type} {W : World} {k : Nat} {Rd : List Value → α → Prop} {a : Option Addr} {n c : Nat} {l : List α} (h : RowsR W k Rd (.slice a n c) l) (j : Nat) (hj : j < l.length) :
    ∃ b off cs, a = some ⟨b, off, none⟩ ∧ Rd cs l[j] ∧ cs.length = k ∧ ∀ i v, cs[i]? = some v → W.cell? ⟨b, off + j * k + i, none⟩ = some v := by
  rcases h with ⟨_, rfl⟩ | ⟨q, cap, he, h1, h2⟩
  · simp at hj
  · cases he
    obtain ⟨b, off, rfl, hd⟩ := h2 (by omega)
    obtain ⟨cs, h3, h4, h5⟩ := hd j hj
    exact ⟨b, off, cs, rfl, h3, h4, h5⟩
/-- Within the reach of memory, through and through. -/
def MSmall {H : Type} (P : Program) (t : TypeId) (d : DataW H) : Prop := ∀ n ∈ d.weights P t, n ≤ reachBytes
theorem msmall_arg {H : Type} {P : Program} {ts : List TypeId} {ds : List (DataW H)} (h : (DataW.weightsEach P ts ds).all (· ≤ reachBytes) = true) {j : Nat} {t : TypeId} {d : DataW H} (ht : ts[j]? = some t) (hd : ds[j]? = some d) : MSmall P t d :=
  fun n hn => of_decide_eq_true (List.all_eq_true.1 h _ (DataW.weights_mem_each ht hd n hn))
theorem MSmall.slice {H : Type} {P : Program} {t e : TypeId} {es sp : List (DataW H)} (h : MSmall P t (.slice es sp)) (hu : P.underlying t = some (.slice e)) : (es.length + sp.length) * P.bytesOf e ≤ reachBytes ∧ ∀ d ∈ es, MSmall P e d :=
  ⟨h _ (by simp [DataW.weights, hu]), fun d hd n hn => h n (by
    simp only [DataW.weights, hu, List.mem_cons, List.mem_append]
    exact Or.inr (Or.inl (Kp_weightsAll_mem hd n hn)))⟩
theorem MSmall.fields {H : Type} {P : Program} {t : TypeId} {fs : Array Field} {ds : List (DataW H)} (h : MSmall P t (.agg ds)) (hu : P.underlying t = some (.struct fs)) (j : Nat) (f : Field) (d : DataW H) (hf : fs[j]? = some f) (hd : ds[j]? = some d) : MSmall P f.type d := fun n hn => h n (by
    simp only [DataW.weights, hu]
    exact DataW.weights_mem_each (by rw [List.getElem?_map, Array.getElem?_toList, hf]; rfl) hd n hn)
theorem mbytes_small {H : Type} {P : Program} {t e : TypeId} {d : DataW H} {x : List UInt8} (h : MSmall P t d) (hu : P.underlying t = some (.slice e)) (be : P.bytesOf e = 1) (hO : Kp_DataOf d x) : x.length ≤ 140737488351232 := by
  rcases hO with ⟨_, rfl⟩ | ⟨es, sp, rfl, hl⟩
  · simp
  · have := (h.slice hu).1
    rw [be] at this
    simp only [reachBytes] at this
    omega
theorem mrows_small {H : Type} {P : Program} {t e : TypeId} {d : DataW H} {α : Type} {Dt : DataW H → α → Prop} {l : List α} {n : Nat} (h : MSmall P t d) (hu : P.underlying t = some (.slice e)) (be : P.bytesOf e = n) (hO : DatL Dt d l) : l.length * n ≤ 140737488351232 ∧ ∀ i (hi : i < l.length), ∃ di, MSmall P e di ∧ Dt di l[i] := by
  rcases hO with ⟨_, rfl⟩ | ⟨es, sp, rfl, hl, hel⟩
  · exact ⟨by simp, fun i hi => absurd hi (by simp)⟩
  · obtain ⟨h1, h2⟩ := h.slice hu
    rw [be] at h1
    simp only [reachBytes] at h1
    refine ⟨Nat.le_trans (Nat.mul_le_mul_right _ (by omega)) h1, fun i hi => ?_⟩
    obtain ⟨di, hm, hO⟩ := hel i hi
    exact ⟨di, h2 di hm, hO⟩
/-- The bulk of what came in. -/
theorem mbulk_mem {H : Type} : ∀ {l : List (DataW H)} {d : DataW H}, d ∈ l → Rows.uptoBulk d ≤ Rows.uptoBulkAll l
  | d' :: r, d, hd => by
    simp only [Rows.uptoBulkAll]
    rcases List.mem_cons.1 hd with rfl | h
    · omega
    · have := mbulk_mem h; omega
theorem mbulk_rows {H : Type} {d : DataW H} {α : Type} {Dt : DataW H → α → Prop} {l : List α} {n : Nat} (h : Rows.uptoBulk d ≤ n) (hO : DatL Dt d l) : l.length ≤ n ∧ ∀ i (hi : i < l.length), ∃ di, Rows.uptoBulk di ≤ n ∧ Dt di l[i] := by
  rcases hO with ⟨_, rfl⟩ | ⟨es, sp, rfl, hl, hel⟩
  · exact ⟨by simp, fun i hi => absurd hi (by simp)⟩
  · have h1 := bulk_slice es sp
    refine ⟨by omega, fun i hi => ?_⟩
    obtain ⟨di, hm, hO⟩ := hel i hi
    refine ⟨di, ?_, hO⟩
    have := mbulk_mem hm
    simp only [Rows.uptoBulk] at h
    omega
theorem mbulk_bytes {H : Type} {d : DataW H} {x : List UInt8} {n : Nat} (h : Rows.uptoBulk d ≤ n) (hO : Kp_DataOf d x) : x.length ≤ n := by
  rcases hO with ⟨_, rfl⟩ | ⟨es, sp, rfl, hl⟩
  · simp
  · have := bulk_slice es sp; omega
theorem mbulk_field {H : Type} {ds : List (DataW H)} {d : DataW H} {n : Nat} (h : Rows.uptoBulk (.agg ds) ≤ n) (hd : d ∈ ds) : Rows.uptoBulk d ≤ n := by
  have := mbulk_mem hd
  simp only [Rows.uptoBulk] at h
  omega

/-- A slice of bytes in one cell. -/
def ByC (W : World) (v : Value) (x : List UInt8) : Prop := ∃ va vc, v = .slice va x.length vc ∧ Bys W (.slice va x.length vc) x ∧ x.length ≤ vc
theorem byc_arg {H : Type} {enc : TypeId × Value → H} {P : Program} {W : World} {base fuel e u : Nat} {v : Value} {d : DataW H} {p : List MemPlace} (he : P.underlying e = some (.slice u)) (hu : P.underlying u = some (.int .u8)) (cu : P.cellsOf u = 1)
    (h : DataW.trod enc P W base (fun _ => true) true fuel e [v] = some (d, p)) : ∃ x, ByC W v x ∧ Kp_DataOf d x := by
  obtain ⟨va, vl, vc, rfl⟩ : ∃ va vl vc, v = .slice va vl vc := by
    rcases DataW.trod_slice he h with ⟨h0, _⟩ | ⟨x, len, cap, _, _, _, _, h0, _⟩
    · exact ⟨_, _, _, by simpa using h0⟩
    · exact ⟨_, _, _, by simpa using h0⟩
  obtain ⟨s, hs, hc, hO⟩ := bytes_arg2 he hu cu (by simpa [Value.cells] using h)
  obtain rfl := Kp_bys_len hs
  exact ⟨s, ⟨va, vc, rfl, hs, hc⟩, hO⟩
end Go.Proofs.Ytpffhemmjigfaaa

/- A custom stream, as a value and in memory; isMade, Seek, Taken; an answer is used up. -/
namespace Go.Proofs.Ytpffhemmjigfaaa
open Go.RowKit

/-- A custom stream as a value: the answers that are left, the numbers that are left, what was taken. -/
structure CS where
  reads : List (List UInt8 × Int)
  writes : List Int
  taken : List UInt8
/-- An answer with an error has no bytes. -/
def nrm (x : List UInt8 × Int) : List UInt8 × Int := if x.2 = 0 then x else ([], x.2)
def CS.read (C : CS) (n : Int) : List UInt8 × Int × CS :=
  if inR n = false then ([], 4, C) else if n = 0 then ([], 0, C) else match C.reads with
    | [] => ([], 0, C)
    | x :: r => if x.2 ≠ 0 then ([], x.2, ⟨r, C.writes, C.taken⟩)
      else if n.toNat < x.1.length then (x.1.take n.toNat, 0, ⟨(x.1.drop n.toNat, 0) :: r, C.writes, C.taken⟩) else (x.1, 0, ⟨r, C.writes, C.taken⟩)
def CS.write (C : CS) (x : List UInt8) : Int × Int × CS :=
  if 1048576 < x.length then (0, 5, C) else if x = [] then (0, 0, C) else match C.writes with
    | [] => (x.length, 0, ⟨C.reads, [], C.taken ++ x⟩)
    | k :: r => if k < 0 then (0, 101, ⟨C.reads, r, C.taken⟩) else ((min k.toNat x.length : Nat), 0, ⟨C.reads, r, C.taken ++ x.take (min k.toNat x.length)⟩)

/-- An answer at a place of a block. -/
def Ans1 (W : World) (R : Nat → Prop) (b o : Nat) (x : List UInt8 × Int) : Prop :=
  ∃ va vc, W.cell? ⟨b, o, none⟩ = some (.slice va x.1.length vc) ∧ W.cell? ⟨b, o + 1, none⟩ = some (.int .i64 x.2) ∧ W.frozen? ⟨b, o, none⟩ = false ∧ W.frozen? ⟨b, o + 1, none⟩ = false ∧ Bys W (.slice va x.1.length vc) x.1 ∧ x.1.length ≤ vc ∧ (0 < x.1.length → ∀ k, (Value.slice va x.1.length vc).ownBlock = some k → R k)
/-- A slice that holds these answers, all within R. -/
def Ans (W : World) (R : Nat → Prop) (v : Value) (l : List (List UInt8 × Int)) : Prop :=
  ∃ a cap, v = .slice a l.length cap ∧ l.length ≤ cap ∧ (0 < l.length → ∃ b off, a = some ⟨b, off, none⟩ ∧ R b ∧ ∀ j (hj : j < l.length), Ans1 W R b (off + j * 2) l[j])
def NRow (W : World) (R : Nat → Prop) (v : Value) (l : List Int) : Prop :=
  ∃ a cap, v = .slice a l.length cap ∧ l.length ≤ cap ∧ (0 < l.length → ∃ b off, a = some ⟨b, off, none⟩ ∧ R b ∧ ∀ j (hj : j < l.length), W.cell? ⟨b, off + j, none⟩ = some (.int .i64 l[j]))
theorem bys_void2 {W W' : World} {v : Value} {l : List UInt8} (h : Bys W v l) (h0 : ¬ 0 < l.length) : Bys W' v l := by
  rcases h with h | h | ⟨b, off, cap, rfl, h1, -⟩
  · exact .inl h
  · exact .inr (.inl h)
  · exact absurd h1 h0
theorem Ans1.keep {W W' : World} {R : Nat → Prop} {b o : Nat} {x : List UInt8 × Int} (h : Ans1 W R b o x) (hb : R b) (hk : ∀ k, R k → k < W.heap.size → W'.heap[k]? = W.heap[k]?) : Ans1 W' R b o x := by
  obtain ⟨va, vc, h1, h2, h3, h4, h5, h6, h7⟩ := h
  have kb := hk b hb (World.block_lt_of_cell? W _ h1)
  refine ⟨va, vc, (World.cell?_of_block (w := W) kb).trans h1, (World.cell?_of_block (w := W) kb).trans h2, (World.frozen?_of_block (w := W) kb).trans h3, (World.frozen?_of_block (w := W) kb).trans h4, ?_, h6, h7⟩
  by_cases h0 : 0 < x.1.length
  · exact h5.keep fun k e hl => hk k (h7 h0 k e) hl
  · exact bys_void2 h5 h0
theorem Ans.keep {W W' : World} {R : Nat → Prop} {v : Value} {l : List (List UInt8 × Int)} (h : Ans W R v l) (hk : ∀ k, R k → k < W.heap.size → W'.heap[k]? = W.heap[k]?) : Ans W' R v l := by
  obtain ⟨a, cap, rfl, h1, h2⟩ := h
  refine ⟨a, cap, rfl, h1, fun h0 => ?_⟩
  obtain ⟨b, off, rfl, hb, hc⟩ := h2 h0
  exact ⟨b, off, rfl, hb, fun j hj => (hc j hj).keep hb hk⟩
theorem NRow.keep {W W' : World} {R : Nat → Prop} {v : Value} {l : List Int} (h : NRow W R v l) (hk : ∀ k, R k → k < W.heap.size → W'.heap[k]? = W.heap[k]?) : NRow W' R v l := by
  obtain ⟨a, cap, rfl, h1, h2⟩ := h
  refine ⟨a, cap, rfl, h1, fun h0 => ?_⟩
  obtain ⟨b, off, rfl, hb, hc⟩ := h2 h0
  exact ⟨b, off, rfl, hb, fun j hj => (World.cell?_of_block (w := W) (a := ⟨b, off + j, none⟩) (hk b hb (World.block_lt_of_cell? W _ (hc j hj)))).trans (hc j hj)⟩
/-- A store into a cell that holds no byte leaves bytes. -/
theorem Bys.set {W : World} {v : Value} {l : List UInt8} {p : Addr} {c : Value} (h : Bys W v l) (hp : W.cell? p = some c) (hc : ∀ k, c ≠ .int .u8 k) (u : Value) : Bys (W.setCell p u) v l := by
  rcases h with h | h | ⟨b, off, cap, rfl, h0, hd⟩
  · exact .inl h
  · exact .inr (.inl h)
  · refine .inr (.inr ⟨b, off, cap, rfl, h0, fun j hj => ?_⟩)
    rw [World.cell?_setCell_other _ _ _ _ (fun e => ?_)]
    · exact hd j hj
    · have h1 := hd j hj
      rw [← e, hp] at h1
      exact hc _ (Option.some.inj h1)
theorem Ans1.set {W : World} {R : Nat → Prop} {b o : Nat} {x : List UInt8 × Int} {p : Addr} {c : Value} (h : Ans1 W R b o x) (hp : W.cell? p = some c) (hc : ∀ k, c ≠ .int .u8 k) (h0 : p ≠ ⟨b, o, none⟩) (h1 : p ≠ ⟨b, o + 1, none⟩) (u : Value) : Ans1 (W.setCell p u) R b o x := by
  obtain ⟨va, vc, a1, a2, a3, a4, a5, a6, a7⟩ := h
  exact ⟨va, vc, (World.cell?_setCell_other _ _ _ _ h0).trans a1, (World.cell?_setCell_other _ _ _ _ h1).trans a2, (World.frozen?_setCell _ _ _ _).trans a3, (World.frozen?_setCell _ _ _ _).trans a4, a5.set hp hc u, a6, a7⟩
theorem NRow.set {W : World} {R : Nat → Prop} {v : Value} {l : List Int} {p : Addr} {c : Value} (h : NRow W R v l) (hp : W.cell? p = some c) (hc : (∀ k, c ≠ .int .i64 k) ∨ ∀ k, R k → k ≠ p.block) (u : Value) : NRow (W.setCell p u) R v l := by
  obtain ⟨a, cap, rfl, h1, h2⟩ := h
  refine ⟨a, cap, rfl, h1, fun h0 => ?_⟩
  obtain ⟨b, off, rfl, hb, hd⟩ := h2 h0
  refine ⟨b, off, rfl, hb, fun j hj => ?_⟩
  rw [World.cell?_setCell_other _ _ _ _ (fun e => ?_)]
  · exact hd j hj
  · rcases hc with hc | hc
    · have h1 := hd j hj
      rw [← e, hp] at h1
      exact hc _ (Option.some.inj h1)
    · exact hc b hb (by rw [e])

/-- Block g is the custom stream C; all that it has lies within O: the answers and numbers within R, what was taken apart. -/
def CusAt (W : World) (O : Nat → Prop) (g : Nat) (C : CS) : Prop :=
  ∃ rv wv tv, ∃ R N : Nat → Prop, (W.cell? ⟨g, 0, none⟩ = some (.bool true) ∧ W.cell? ⟨g, 1, none⟩ = some rv ∧ W.cell? ⟨g, 2, none⟩ = some wv ∧ W.cell? ⟨g, 3, none⟩ = some tv) ∧
    (W.frozen? ⟨g, 1, none⟩ = false ∧ W.frozen? ⟨g, 2, none⟩ = false ∧ W.frozen? ⟨g, 3, none⟩ = false) ∧
    Ans W R rv (C.reads.map nrm) ∧ NRow W N wv C.writes ∧ W.ownsRow 0 5 1 tv C.taken.length (C.taken.map bv) ∧
    (∀ k, tv.ownBlock = some k → O k ∧ ¬ R k ∧ ¬ N k ∧ k ≠ g) ∧ (∀ k, R k → O k ∧ k ≠ g ∧ ¬ N k) ∧ (∀ k, N k → O k ∧ k ≠ g) ∧ O g ∧ C.reads.length ≤ 4096 ∧ C.writes.length ≤ 4096 ∧ ∀ x ∈ C.reads, x.1.length ≤ 1048576
def CStep (w : World) (O : Nat → Prop) (g : Nat) (C : CS) (w' : World) : Prop := ∃ O', CusAt w' O' g C ∧ (∀ k, O' k → O k ∨ w.heap.size ≤ k) ∧ Turned O w w'
theorem CusAt.keep {W W' : World} {O : Nat → Prop} {g : Nat} {C : CS} (h : CusAt W O g C) (hk : ∀ j, O j → j < W.heap.size → W'.heap[j]? = W.heap[j]?) : CusAt W' O g C := by
  obtain ⟨rv, wv, tv, R, N, ⟨h0, h1, h2, h3⟩, ⟨f1, f2, f3⟩, hA, hN, hT, ht, hR, hN2, og, rest⟩ := h
  have kg := hk g og (World.block_lt_of_cell? W _ h0)
  exact ⟨rv, wv, tv, R, N, ⟨(World.cell?_of_block (w := W) kg).trans h0, (World.cell?_of_block (w := W) kg).trans h1, (World.cell?_of_block (w := W) kg).trans h2, (World.cell?_of_block (w := W) kg).trans h3⟩,
    ⟨(World.frozen?_of_block (w := W) kg).trans f1, (World.frozen?_of_block (w := W) kg).trans f2, (World.frozen?_of_block (w := W) kg).trans f3⟩,
    hA.keep fun k e hl => hk k (hR k e).1 hl, hN.keep fun k e hl => hk k (hN2 k e).1 hl, owns_keep hT fun k e => hk k (ht k e).1 (hT.lt k e).2, ht, hR, hN2, og, rest⟩
theorem CusAt.below {W W' : World} {O : Nat → Prop} {g : Nat} {C : CS} (h : CusAt W O g C) (hB : Below W.heap.size W W') : CusAt W' O g C := h.keep fun j _ hl => hB.block j hl
theorem CusAt.trim {W : World} {O : Nat → Prop} {g : Nat} {C : CS} (h : CusAt W O g C) : CusAt W (fun k => O k ∧ k < W.heap.size) g C := by
  obtain ⟨rv, wv, tv, R, N, ⟨h0, h1, h2, h3⟩, hf, hA, hN, hT, ht, hR, hN2, og, rest⟩ := h
  have hgl := World.block_lt_of_cell? W _ h0
  refine ⟨rv, wv, tv, fun k => R k ∧ k < W.heap.size, fun k => N k ∧ k < W.heap.size, ⟨h0, h1, h2, h3⟩, hf, ?_, ?_, hT, fun k e => ⟨⟨(ht k e).1, (hT.lt k e).2⟩, fun x => (ht k e).2.1 x.1, fun x => (ht k e).2.2.1 x.1, (ht k e).2.2.2⟩, fun k e => ⟨⟨(hR k e.1).1, e.2⟩, (hR k e.1).2.1, fun x => (hR k e.1).2.2 x.1⟩, fun k e => ⟨⟨(hN2 k e.1).1, e.2⟩, (hN2 k e.1).2⟩, ⟨og, hgl⟩, rest⟩
  · obtain ⟨a, cap, rfl, b1, b2⟩ := hA
    refine ⟨a, cap, rfl, b1, fun h0 => ?_⟩
    obtain ⟨b, off, rfl, hb, hc⟩ := b2 h0
    refine ⟨b, off, rfl, ⟨hb, ?_⟩, fun j hj => ?_⟩
    · obtain ⟨va, vc, a1, _⟩ := hc 0 h0
      exact World.block_lt_of_cell? W _ a1
    · obtain ⟨va, vc, a1, a2, a3, a4, a5, a6, a7⟩ := hc j hj
      refine ⟨va, vc, a1, a2, a3, a4, a5, a6, fun h0 k e => ⟨a7 h0 k e, ?_⟩⟩
      obtain ⟨_, yb, yo, rfl, yl, _⟩ := bys_block a5 h0
      obtain rfl : yb = k := by simpa [Value.ownBlock] using e
      exact yl
  · obtain ⟨a, cap, rfl, b1, b2⟩ := hN
    refine ⟨a, cap, rfl, b1, fun h0 => ?_⟩
    obtain ⟨b, off, rfl, hb, hc⟩ := b2 h0
    exact ⟨b, off, rfl, ⟨hb, World.block_lt_of_cell? W _ (hc 0 h0)⟩, hc⟩
/-- Within the blocks that are there. -/
theorem cus_rows {W : World} {R N : Nat → Prop} {rv wv : Value} {l : List (List UInt8 × Int)} {ws : List Int} (hA : Ans W R rv l) (hN : NRow W N wv ws) : Ans W (fun k => R k ∧ k < W.heap.size) rv l ∧ NRow W (fun k => N k ∧ k < W.heap.size) wv ws := by
  constructor
  · obtain ⟨a, cap, rfl, b1, b2⟩ := hA
    refine ⟨a, cap, rfl, b1, fun h0 => ?_⟩
    obtain ⟨b, off, rfl, hb, hc⟩ := b2 h0
    refine ⟨b, off, rfl, ⟨hb, ?_⟩, fun j hj => ?_⟩
    · obtain ⟨va, vc, a1, _⟩ := hc 0 h0
      exact World.block_lt_of_cell? W _ a1
    · obtain ⟨va, vc, a1, a2, a3, a4, a5, a6, a7⟩ := hc j hj
      refine ⟨va, vc, a1, a2, a3, a4, a5, a6, fun h0 k e => ⟨a7 h0 k e, ?_⟩⟩
      obtain ⟨_, yb, yo, rfl, yl, _⟩ := bys_block a5 h0
      obtain rfl : yb = k := by simpa [Value.ownBlock] using e
      exact yl
  · obtain ⟨a, cap, rfl, b1, b2⟩ := hN
    refine ⟨a, cap, rfl, b1, fun h0 => ?_⟩
    obtain ⟨b, off, rfl, hb, hc⟩ := b2 h0
    exact ⟨b, off, rfl, ⟨hb, World.block_lt_of_cell? W _ (hc 0 h0)⟩, hc⟩
theorem CStep.same {w : World} {O : Nat → Prop} {g : Nat} {C : CS} (h : CusAt w O g C) : CStep w O g C w := ⟨O, h, fun _ e => .inl e, Turned.refl _ _⟩
theorem CStep.below {w w' : World} {O : Nat → Prop} {g : Nat} {C : CS} (h : CusAt w O g C) (hB : Below w.heap.size w w') : CStep w O g C w' := ⟨O, h.below hB, fun _ e => .inl e, Turned.of_below hB⟩

theorem Ans.head {W : World} {R : Nat → Prop} {v : Value} {x : List UInt8 × Int} {r : List (List UInt8 × Int)} (h : Ans W R v (x :: r)) :
    ∃ b off cap, v = .slice (some ⟨b, off, none⟩) (r.length + 1) cap ∧ r.length + 1 ≤ cap ∧ R b ∧ Ans1 W R b off x ∧ ∀ j (hj : j < r.length), Ans1 W R b (off + 2 + j * 2) r[j] := by
  obtain ⟨a, cap, rfl, h1, h2⟩ := h
  obtain ⟨b, off, rfl, hb, hc⟩ := h2 (by simp)
  refine ⟨b, off, cap, rfl, h1, hb, by have h := hc 0 (Nat.succ_pos _); rw [Nat.zero_mul, Nat.add_zero] at h; exact h, fun j hj => ?_⟩
  have := hc (j + 1) (by simpa using hj)
  rw [show off + (j + 1) * 2 = off + 2 + j * 2 by omega] at this
  simpa using this
set_option maxRecDepth 100000 in
set_option maxHeartbeats 1000000 in
theorem mclone_any (v : Value) (l : List UInt8) (w : World) (h : Bys w v l) (hs : l.length ≤ 140737488351232) :
    Calls Try.prog 52 #[v] w fun e w' => ∃ u, e = .returned u ∧ w'.ownsRow w.heap.size 5 1 u l.length (l.map bv) ∧ Below w.heap.size w w' := by
  have hmade : (w.alloc (Obj.cells #[] 5)).ownsRow w.heap.size 5 1 (.slice (some ⟨w.heap.size, 0, none⟩) 0 0) ([] : List UInt8).length (([] : List UInt8).map bv) := World.ownsRow_made _ _ _ (Nat.le_refl _) (by decide) rfl
  have hB := recv4 w (Obj.cells #[] 5)
  obtain ⟨s', w1, hrun, HO, hg, hb⟩ := run_append_bytes (w.alloc (Obj.cells #[] 5)) 22 w.heap.size _ v [] l hmade (h.below hB) (by simpa using hs) hB.size
  have HR := hide hrun
  have HB : Hid (Below w.heap.size w w1) := hide (hB.grown hg hB.size (fun j e => by
    have : w.heap.size = j := by simpa [Value.ownBlock] using e
    omega))
  rcases h with ⟨rfl, rfl⟩ | ⟨a, cap, rfl, rfl⟩ | ⟨b, off, cap, rfl, h0, -⟩
  · have hnil : ∀ W, (binOp .eql 22 (.slice none 0 0) (.slice none 0 0)).run Try.prog W = .ok (.bool true) W := fun W => Lib.run_eql_slice_nil_nil W _ _ Try.underlying22
    go_enter Try.func52, Try.ntmps52
    go_wp2
    go_ret
    exact ⟨_, rfl, World.ownsRow_nil _ _ _ _, Below.refl _ _⟩
  · have hnil : ∀ W, (binOp .eql 22 (.slice (some a) 0 cap) (.slice none 0 0)).run Try.prog W = .ok (.bool false) W := fun W => Lib.run_eql_slice_some_nil W _ _ _ Try.underlying22
    clear hrun hg hb hmade hB
    go_enter Try.func52, Try.ntmps52
    go_wp2_with (at_builtin; refine Lib.wpList_append_run _ rfl _ _ _ _ rfl _ _ rfl rfl _ _ HR.out ?_)
    go_ret
    exact ⟨_, rfl, HO.out, HB.out⟩
  · have hnil : ∀ W, (binOp .eql 22 (.slice (some ⟨b, off, none⟩) l.length cap) (.slice none 0 0)).run Try.prog W = .ok (.bool false) W := fun W => Lib.run_eql_slice_some_nil W _ _ _ Try.underlying22
    clear hrun hg hb hmade hB
    go_enter Try.func52, Try.ntmps52
    go_wp2_with (at_builtin; refine Lib.wpList_append_run _ rfl _ _ _ _ rfl _ _ rfl rfl _ _ HR.out ?_)
    go_ret
    exact ⟨_, rfl, HO.out, HB.out⟩
end Go.Proofs.Ytpffhemmjigfaaa

/- A custom stream is made: copiedAnswers. -/
namespace Go.Proofs.Ytpffhemmjigfaaa
open Go.RowKit

/-- Answers that came in. -/
def AnsR (W : World) (v : Value) (l : List (List UInt8 × Int)) : Prop :=
  ∃ a cap, v = .slice a l.length cap ∧ (0 < l.length → ∃ b off, a = some ⟨b, off, none⟩ ∧ ∀ j (hj : j < l.length), ∃ va vc, W.cell? ⟨b, off + j * 2, none⟩ = some (.slice va l[j].1.length vc) ∧ W.cell? ⟨b, off + j * 2 + 1, none⟩ = some (.int .i64 l[j].2) ∧ Bys W (.slice va l[j].1.length vc) l[j].1 ∧ l[j].1.length ≤ vc)
theorem AnsR.below {W W' : World} {v : Value} {l : List (List UInt8 × Int)} (h : AnsR W v l) (hB : Below W.heap.size W W') : AnsR W' v l := by
  obtain ⟨a, cap, rfl, h2⟩ := h
  refine ⟨a, cap, rfl, fun h0 => ?_⟩
  obtain ⟨b, off, rfl, hd⟩ := h2 h0
  refine ⟨b, off, rfl, fun j hj => ?_⟩
  obtain ⟨va, vc, a1, a2, a3, a4⟩ := hd j hj
  have hl := World.block_lt_of_cell? W _ a1
  exact ⟨va, vc, (hB.cell (p := ⟨b, off + j * 2, none⟩) hl).trans a1, (hB.cell (p := ⟨b, off + j * 2 + 1, none⟩) hl).trans a2, a3.below hB, a4⟩
/-- A place that is not filled yet. -/
def Zer (W : World) (b o : Nat) : Prop := W.cell? ⟨b, o, none⟩ = some (.slice none 0 0) ∧ W.cell? ⟨b, o + 1, none⟩ = some (.int .i64 0) ∧ W.frozen? ⟨b, o, none⟩ = false ∧ W.frozen? ⟨b, o + 1, none⟩ = false
/-- The first k answers are laid, the others are not yet. -/
def AInv (W : World) (R : Nat → Prop) (b k : Nat) (l : List (List UInt8 × Int)) : Prop := ∀ j (hj : j < l.length), (j < k → Ans1 W R b (j * 2) (nrm l[j])) ∧ (k ≤ j → Zer W b (j * 2))
theorem Zer.keep {W W' : World} {b o : Nat} (h : Zer W b o) (hk : W'.heap[b]? = W.heap[b]?) : Zer W' b o :=
  ⟨(World.cell?_of_block (w := W) hk).trans h.1, (World.cell?_of_block (w := W) hk).trans h.2.1, (World.frozen?_of_block (w := W) hk).trans h.2.2.1, (World.frozen?_of_block (w := W) hk).trans h.2.2.2⟩
theorem AInv.below {W W' : World} {R : Nat → Prop} {b k : Nat} {l : List (List UInt8 × Int)} (h : AInv W R b k l) (hb : R b) (hB : Below W.heap.size W W') : AInv W' R b k l := fun j hj =>
  ⟨fun e => ((h j hj).1 e).keep hb (fun x _ hl => hB.block x hl), fun e => ((h j hj).2 e).keep (hB.block b (World.block_lt_of_cell? W _ ((h j hj).2 e).1))⟩
/-- All others. -/
def AOth (W : World) (R : Nat → Prop) (b k : Nat) (l : List (List UInt8 × Int)) : Prop := ∀ j (hj : j < l.length), j ≠ k → (j < k → Ans1 W R b (j * 2) (nrm l[j])) ∧ (k ≤ j → Zer W b (j * 2))
theorem AInv.oth {W : World} {R : Nat → Prop} {b k : Nat} {l : List (List UInt8 × Int)} (h : AInv W R b k l) : AOth W R b k l := fun j hj _ => h j hj
theorem AOth.below {W W' : World} {R : Nat → Prop} {b k : Nat} {l : List (List UInt8 × Int)} (h : AOth W R b k l) (hb : R b) (hB : Below W.heap.size W W') : AOth W' R b k l := fun j hj hn =>
  ⟨fun e => ((h j hj hn).1 e).keep hb (fun x _ hl => hB.block x hl), fun e => ((h j hj hn).2 e).keep (hB.block b (World.block_lt_of_cell? W _ ((h j hj hn).2 e).1))⟩
theorem AOth.set {W : World} {R : Nat → Prop} {b k o : Nat} {l : List (List UInt8 × Int)} {c : Value} (h : AOth W R b k l) (hp : W.cell? ⟨b, o, none⟩ = some c) (hc : ∀ x, c ≠ .int .u8 x) (ho : o = k * 2 ∨ o = k * 2 + 1) (u : Value) : AOth (W.setCell ⟨b, o, none⟩ u) R b k l := fun j hj hn => by
  have e1 : (⟨b, o, none⟩ : Addr) ≠ ⟨b, j * 2, none⟩ := by simp <;> omega
  have e2 : (⟨b, o, none⟩ : Addr) ≠ ⟨b, j * 2 + 1, none⟩ := by simp <;> omega
  refine ⟨fun e => ((h j hj hn).1 e).set hp hc e1 e2 u, fun e => ?_⟩
  obtain ⟨a1, a2, a3, a4⟩ := (h j hj hn).2 e
  exact ⟨(World.cell?_setCell_other _ _ _ _ e1).trans a1, (World.cell?_setCell_other _ _ _ _ e2).trans a2, (World.frozen?_setCell _ _ _ _).trans a3, (World.frozen?_setCell _ _ _ _).trans a4⟩
theorem AOth.next {W : World} {R : Nat → Prop} {b k : Nat} {l : List (List UInt8 × Int)} (h : AOth W R b k l) (hk : k < l.length) (h2 : Ans1 W R b (k * 2) (nrm l[k])) : AInv W R b (k + 1) l := fun j hj => by
  by_cases hjk : j = k
  · subst hjk
    exact ⟨fun _ => h2, fun e => absurd e (by omega)⟩
  · exact ⟨fun e => (h j hj hjk).1 (by omega), fun e => (h j hj hjk).2 (by omega)⟩

end Go.Proofs.Ytpffhemmjigfaaa

/- A custom stream is made. -/
namespace Go.Proofs.Ytpffhemmjigfaaa
open Go.RowKit

/-- Numbers that came in. -/
def IntsR (W : World) (v : Value) (l : List Int) : Prop :=
  (v = .slice none 0 0 ∧ l = []) ∨ ∃ q cap, v = .slice (some q) l.length cap ∧ (0 < l.length → ∃ b off, q = ⟨b, off, none⟩ ∧ ∀ j (hj : j < l.length), W.cell? ⟨b, off + j, none⟩ = some (.int .i64 l[j]))
theorem IntsR.below {W W' : World} {v : Value} {l : List Int} (h : IntsR W v l) (hB : Below W.heap.size W W') : IntsR W' v l := by
  rcases h with h | ⟨q, cap, rfl, h2⟩
  · exact .inl h
  · refine .inr ⟨q, cap, rfl, fun h0 => ?_⟩
    obtain ⟨b, off, rfl, hd⟩ := h2 h0
    exact ⟨b, off, rfl, fun j hj => (hB.cell (p := ⟨b, off + j, none⟩) (World.block_lt_of_cell? W _ (hd j hj))).trans (hd j hj)⟩
theorem IntsR.form {W : World} {v : Value} {l : List Int} (h : IntsR W v l) : ∃ a c, v = .slice a l.length c := by
  rcases h with ⟨rfl, rfl⟩ | ⟨q, cap, rfl, _⟩
  · exact ⟨_, _, rfl⟩
  · exact ⟨_, _, rfl⟩
/-- An int as a cell. -/
def iv (x : Int) : Value := .int .i64 x
theorem Try.infoI : (Try.prog.info? 3).map (fun i => (i.zero, i.size, i.bytes)) = some (some (.int .i64 0), 1, 8) := by kernel_rfl
/-- append([]int(nil), x...). -/
theorem run_append_ints (w : World) (ty : TypeId) (x : Value) (l : List Int) (hx : IntsR w x l) (hn : l.length * 8 ≤ 140737488351232) :
    ∃ s' w', (Builtin.append_ #[82, 82] ty #[.slice none 0 0, x]).run Try.prog w = .ok s' w' ∧ Hid (w'.ownsRow w.heap.size 3 1 s' l.length (l.map iv)) ∧ w.grownBy w' none := by
  refine (?_ : ∃ s' w', (Builtin.append_ #[82, 82] ty #[.slice none 0 0, x]).run Try.prog w = .ok s' w' ∧ w'.ownsRow w.heap.size 3 1 s' l.length (l.map iv) ∧ w.grownBy w' none)
  obtain ⟨i0, hi, hz0, hz1, hz2⟩ := info_parts Try.infoI
  have h0 : w.ownsRow w.heap.size 3 1 (.slice none 0 0) 0 [] := World.ownsRow_nil _ _ _ _
  rcases hx with ⟨rfl, rfl⟩ | ⟨q, cap, rfl, hc⟩
  · exact ⟨_, w, run_append_owned_none (P := Try.prog) w w.heap.size _ ty _ i0 1 Try.underlying82 hi _ _ _ h0, by simpa using h0, ⟨rfl, rfl, rfl, Nat.le_refl _, fun _ _ _ => rfl⟩⟩
  · obtain ⟨v', w', h1, h2, h3, _, h5⟩ := run_append_own_at (P := Try.prog) w w.heap.size 82 ty 3 i0 (.int .i64 0) 1 8 Try.underlying82 hi hz0 hz1 hz2 rfl (by decide) (.slice none 0 0) 0 [] h0 q l.length cap (l.map iv) (by simp) (fun j u hj => by
      have hj' : j < l.length := by have := (List.getElem?_eq_some_iff.1 hj).1; simpa using this
      obtain ⟨b, off, rfl, hd⟩ := hc (by omega)
      have hadd : (⟨b, off, none⟩ : Addr).add j = ⟨b, off + j, none⟩ := by unfold Addr.add; split <;> simp_all
      rw [hadd, hd j hj']
      simpa [iv, List.getElem?_eq_getElem hj'] using hj) (fun u hu => by
      obtain ⟨c, _, rfl⟩ := List.mem_map.1 hu
      rfl) (by unfold maxLen; omega) (by omega) (Nat.le_refl _)
    refine ⟨v', w', h1, by simpa using h2, ?_⟩
    simpa [Value.ownBlock] using h3
/-- A row of ints of one's own. -/
theorem owns_nrow {W : World} {base : Nat} {v : Value} {l : List Int} {N : Nat → Prop} (h : W.ownsRow base 3 1 v l.length (l.map iv)) (hN : ∀ k, v.ownBlock = some k → N k) : NRow W N v l := by
  rcases h.2 with ⟨rfl, h0⟩ | ⟨g, cap, cur, rfl, h1, h2, h3, h4, h5, h6⟩
  · have hl : l = [] := by simpa using h0
    subst hl
    exact ⟨_, _, rfl, Nat.le_refl _, fun h => absurd h (by simp)⟩
  · refine ⟨_, cap, rfl, h3, fun _ => ⟨g, 0, rfl, hN g rfl, fun j hj => ?_⟩⟩
    have := h.cellAt j (by omega)
    rw [Nat.zero_add, this]
    simp [iv, List.getElem?_eq_getElem hj]

/-- What NewCustom answers. -/
def cusE (l : List (List UInt8 × Int)) (ws : List Int) : Int := if 4096 < l.length ∨ 4096 < ws.length then 3 else if ∃ x ∈ l, 1048576 < x.1.length then 5 else 0
def CusNew (l : List (List UInt8 × Int)) (ws : List Int) (w : World) (e : Ending) (w' : World) : Prop := ((∃ x ∈ l, 1048576 < x.1.length) ∧ e = .returned (.tuple #[.pointer none, .int .i64 5]) ∧ Below w.heap.size w w') ∨
  ((∀ x ∈ l, x.1.length ≤ 1048576) ∧ ∃ g, e = .returned (.tuple #[.pointer (some ⟨g, 0, none⟩), .int .i64 0]) ∧ CusAt w' (fun k => w.heap.size ≤ k) g ⟨l, ws, []⟩ ∧ Below w.heap.size w w')

end Go.Proofs.Ytpffhemmjigfaaa

/- Lines, steps, answers and numbers that came in as an argument: what a walk is told of them, and their sizes. -/
namespace Go.Proofs.Ytpffhemmjigfaaa
open Go.ChangeShapes Go.WideShapes Go.ChangeAt Go.RowKit Go.Deep

/-- Lines. -/
def MLns (W : World) (v : Value) (ls : List (List UInt8)) : Prop := RowsR W 1 (fun cs x => ∃ u, cs = [u] ∧ ByC W u x) v ls
theorem mlns_arg {H : Type} {enc : TypeId × Value → H} {P : Program} {W : World} {base : Nat} {a : Option Addr} {len cap fuel t e u : Nat} {d : DataW H} {p : List MemPlace}
    (ht : P.underlying t = some (.slice e)) (he : P.underlying e = some (.slice u)) (ce : P.cellsOf e = 1) (hu : P.underlying u = some (.int .u8)) (cu : P.cellsOf u = 1)
    (hf : DataW.trod enc P W base (fun _ => true) true fuel t (Value.slice a len cap).cells.toList = some (d, p)) : ∃ l, MLns W (.slice a len cap) l ∧ DatL Kp_DataOf d l :=
  rows_arg 1 _ Kp_DataOf ht ce (by decide) (fun fuel cs d p h hl => by
    match cs, hl with
    | [v0], _ =>
      obtain ⟨x, h1, h2⟩ := byc_arg he hu cu h
      exact ⟨x, ⟨v0, rfl, h1⟩, h2⟩) hf
theorem MLns.at {W W' : World} {a : Option Addr} {n c : Nat} {ls : List (List UInt8)} (h : MLns W (.slice a n c) ls) (hB : Below W.heap.size W W') (j : Nat) (hj : j < ls.length) :
    ∃ b off va vc, a = some ⟨b, off, none⟩ ∧ W'.cell? ⟨b, off + j, none⟩ = some (.slice va ls[j].length vc) ∧ Bys W (.slice va ls[j].length vc) ls[j] ∧ ls[j].length ≤ vc ∧ b < W.heap.size := by
  obtain ⟨b, off, cs, rfl, ⟨u, rfl, va, vc, rfl, hb, hc⟩, _, h3⟩ := RowsR.at h j hj
  have h4 := h3 0 _ rfl
  rw [Nat.mul_one, Nat.add_zero] at h4
  have hl := World.block_lt_of_cell? W _ h4
  exact ⟨b, off, va, vc, rfl, (hB.cell (p := ⟨b, off + j, none⟩) hl).trans h4, hb, hc, hl⟩
/-- A step: what, two numbers, bytes. -/
structure MSt where
  what : Int
  n : Int
  m : Int
  data : List UInt8
def MCells (W : World) (cs : List Value) (x : MSt) : Prop := ∃ va vc, cs = [.int .i64 x.what, .int .i64 x.n, .int .i64 x.m, .slice va x.data.length vc] ∧ Bys W (.slice va x.data.length vc) x.data ∧ x.data.length ≤ vc
def MDat {H : Type} (d : DataW H) (x : MSt) : Prop := ∃ x0 x1 x2 d3, d = .agg [x0, x1, x2, d3] ∧ Kp_DataOf d3 x.data
def MSts (W : World) (v : Value) (l : List MSt) : Prop := RowsR W 4 (MCells W) v l
theorem mst_cells {H : Type} {enc : TypeId × Value → H} {P : Program} {W : World} {base : Nat} {fuel e u : Nat} {f0 f1 f2 f3 : Field} {cs : List Value} {d : DataW H} {p : List MemPlace}
    (he : P.underlying e = some (.struct #[f0, f1, f2, f3])) (ce : P.cellsOf e = 4) (o0 : f0.offset = 0) (o1 : f1.offset = 1) (o2 : f2.offset = 2) (o3 : f3.offset = 3)
    (c0 : P.cellsOf f0.type = 1) (c1 : P.cellsOf f1.type = 1) (c2 : P.cellsOf f2.type = 1) (c3 : P.cellsOf f3.type = 1)
    (t0 : P.underlying f0.type = some (.int .i64)) (t1 : P.underlying f1.type = some (.int .i64)) (t2 : P.underlying f2.type = some (.int .i64)) (t3 : P.underlying f3.type = some (.slice u)) (tu : P.underlying u = some (.int .u8)) (cu : P.cellsOf u = 1)
    (h : DataW.trod enc P W base (fun _ => true) true fuel e cs = some (d, p)) : ∃ x : MSt, MCells W cs x ∧ MDat d x := by
  obtain ⟨xs, k, hk, hxy, hcl, hxl, hf⟩ := DataW.trod_struct he h
  rw [ce] at hcl
  match xs, hxl, cs, hcl with
  | [y0, y1, y2, y3], _, [v0, v1, v2, v3], _ =>
    have g0 := hf 0 f0 rfl
    have g1 := hf 1 f1 rfl
    have g2 := hf 2 f2 rfl
    have g3 := hf 3 f3 rfl
    simp [o0, c0] at g0
    simp [o1, c1] at g1
    simp [o2, c2] at g2
    simp [o3, c3] at g3
    obtain ⟨a, ha, _⟩ := DataW.trod_int t0 g0
    obtain ⟨b, hb, _⟩ := DataW.trod_int t1 g1
    obtain ⟨c, hc, _⟩ := DataW.trod_int t2 g2
    obtain rfl : v0 = .int .i64 a := by simpa using ha
    obtain rfl : v1 = .int .i64 b := by simpa using hb
    obtain rfl : v2 = .int .i64 c := by simpa using hc
    obtain ⟨y3a, y3b⟩ := y3
    obtain ⟨x, ⟨va, vc, rfl, h1, h2⟩, hD⟩ := byc_arg t3 tu cu g3
    simp only [Prod.mk.injEq] at hxy
    exact ⟨⟨a, b, c, x⟩, ⟨va, vc, rfl, h1, h2⟩, ⟨_, _, _, y3a, by simpa using hxy.1, hD⟩⟩
theorem MSts.at {W W' : World} {a : Option Addr} {n c : Nat} {l : List MSt} (h : MSts W (.slice a n c) l) (hB : Below W.heap.size W W') (j : Nat) (hj : j < l.length) :
    ∃ b off va vc, a = some ⟨b, off, none⟩ ∧ b < W.heap.size ∧ (W'.cell? ⟨b, off + j * 4, none⟩ = some (.int .i64 l[j].what) ∧ W'.cell? ⟨b, off + j * 4 + 1, none⟩ = some (.int .i64 l[j].n) ∧ W'.cell? ⟨b, off + j * 4 + 2, none⟩ = some (.int .i64 l[j].m) ∧ W'.cell? ⟨b, off + j * 4 + 3, none⟩ = some (.slice va l[j].data.length vc)) ∧
      Bys W (.slice va l[j].data.length vc) l[j].data ∧ l[j].data.length ≤ vc := by
  obtain ⟨b, off, cs, rfl, ⟨va, vc, rfl, r1, r2⟩, _, h3⟩ := RowsR.at h j hj
  have hl : b < W.heap.size := World.block_lt_of_cell? W _ (h3 0 _ rfl)
  have key : ∀ i v, W.cell? ⟨b, off + j * 4 + i, none⟩ = some v → W'.cell? ⟨b, off + j * 4 + i, none⟩ = some v := fun i v hv => (hB.cell (p := ⟨b, off + j * 4 + i, none⟩) hl).trans hv
  exact ⟨b, off, va, vc, rfl, hl, ⟨key 0 _ (h3 0 _ rfl), key 1 _ (h3 1 _ rfl), key 2 _ (h3 2 _ rfl), key 3 _ (h3 3 _ rfl)⟩, r1, r2⟩
end Go.Proofs.Ytpffhemmjigfaaa

/- A state that came in as an argument. -/
namespace Go.Proofs.Ytpffhemmjigfaaa
open Go.ChangeShapes Go.WideShapes Go.ChangeAt Go.RowKit Go.Deep

set_option maxRecDepth 100000 in
set_option maxHeartbeats 1000000 in
theorem state_cells {H : Type} {enc : TypeId × Value → H} {W : World} {base : Nat} {fuel : Nat} {cs : List Value} {d : DataW H} {p : List MemPlace}
    (h : DataW.trod enc Try.prog W base (fun _ => true) true fuel 24 cs = some (d, p)) : ∃ (x : SS) (o i b : Value), cs = [.bool x.rd, .bool x.wt, .int .i64 x.mode, .int .i64 x.size, o, i, b, .int .i64 x.dir, .bool x.fin, .bool x.bad, .bool x.closed] ∧ Sl W o x.out ∧ Sl W i x.inn ∧ Sl W b x.back ∧ ∃ d0 d1 d2 d3 d4 d5 d6 d7 d8 d9 d10, d = .agg [d0, d1, d2, d3, d4, d5, d6, d7, d8, d9, d10] ∧ Kp_DataOf d4 x.out ∧ Kp_DataOf d5 x.inn ∧ Kp_DataOf d6 x.back := by
  obtain ⟨xs, k, hk, hxy, hcl, hxl, hf⟩ := DataW.trod_struct Try.underlying24 h
  rw [show Try.prog.cellsOf 24 = 11 by kernel_rfl] at hcl
  match xs, hxl, cs, hcl with
  | [y0, y1, y2, y3, y4, y5, y6, y7, y8, y9, y10], _, [v0, v1, v2, v3, v4, v5, v6, v7, v8, v9, v10], _ =>
    have ci : Try.prog.cellsOf 3 = 1 := by kernel_rfl
    have cb : Try.prog.cellsOf 22 = 1 := by kernel_rfl
    have co : Try.prog.cellsOf 4 = 1 := by kernel_rfl
    have cu : Try.prog.cellsOf 5 = 1 := by kernel_rfl
    have g0 := hf 0 _ rfl
    have g1 := hf 1 _ rfl
    have g2 := hf 2 _ rfl
    have g3 := hf 3 _ rfl
    have g4 := hf 4 _ rfl
    have g5 := hf 5 _ rfl
    have g6 := hf 6 _ rfl
    have g7 := hf 7 _ rfl
    have g8 := hf 8 _ rfl
    have g9 := hf 9 _ rfl
    have g10 := hf 10 _ rfl
    simp [co] at g0 g1 g8 g9 g10
    simp [ci] at g2 g3 g7
    simp [cb] at g4 g5 g6
    obtain ⟨a0, h0, _⟩ := DataW.trod_bool Try.underlying4 g0
    obtain ⟨a1, h1, _⟩ := DataW.trod_bool Try.underlying4 g1
    obtain ⟨a2, h2, _⟩ := DataW.trod_int Try.underlying3 g2
    obtain ⟨a3, h3, _⟩ := DataW.trod_int Try.underlying3 g3
    obtain ⟨a7, h7, _⟩ := DataW.trod_int Try.underlying3 g7
    obtain ⟨a8, h8, _⟩ := DataW.trod_bool Try.underlying4 g8
    obtain ⟨a9, h9, _⟩ := DataW.trod_bool Try.underlying4 g9
    obtain ⟨a10, h10, _⟩ := DataW.trod_bool Try.underlying4 g10
    obtain rfl : v0 = .bool a0 := by simpa using h0
    obtain rfl : v1 = .bool a1 := by simpa using h1
    obtain rfl : v2 = .int .i64 a2 := by simpa using h2
    obtain rfl : v3 = .int .i64 a3 := by simpa using h3
    obtain rfl : v7 = .int .i64 a7 := by simpa using h7
    obtain rfl : v8 = .bool a8 := by simpa using h8
    obtain rfl : v9 = .bool a9 := by simpa using h9
    obtain rfl : v10 = .bool a10 := by simpa using h10
    obtain ⟨y4a, y4b⟩ := y4
    obtain ⟨y5a, y5b⟩ := y5
    obtain ⟨y6a, y6b⟩ := y6
    obtain ⟨x4, k4, D4⟩ := byc_arg Try.underlying22 Try.underlying5 cu g4
    obtain ⟨x5, k5, D5⟩ := byc_arg Try.underlying22 Try.underlying5 cu g5
    obtain ⟨x6, k6, D6⟩ := byc_arg Try.underlying22 Try.underlying5 cu g6
    simp only [Prod.mk.injEq] at hxy
    have sl : ∀ {v : Value} {l : List UInt8}, ByC W v l → Sl W v l := fun h => by
      obtain ⟨va, vc, rfl, h1, h2⟩ := h
      exact ⟨va, vc, rfl, h1, h2⟩
    exact ⟨⟨a0, a1, a2, a3, x4, x5, x6, a7, a8, a9, a10⟩, _, _, _, rfl, sl k4, sl k5, sl k6, ⟨_, _, _, _, y4a, y5a, y6a, _, _, _, _, by simpa using hxy.1, D4, D5, D6⟩⟩
end Go.Proofs.Ytpffhemmjigfaaa

/- Spoil turns the block of its slice, and no other. -/
namespace Go.Proofs.Ytpffhemmjigfaaa
open Go.RowKit

set_option maxRecDepth 100000 in
set_option maxHeartbeats 1000000 in
theorem Kp_spoil_turn (base : Nat) (v : Value) (n : Nat) (xs : List Value) (w : World) (h : w.ownsRow base 5 1 v n xs) (hx : ∀ u ∈ xs, ∃ c, u = .int .u8 c) (hs : n ≤ maxLen) :
    Calls Try.prog 22 #[v] w fun e w' => e = .returned (.tuple #[]) ∧ Turned (fun k => v.ownBlock = some k) w w' := by
  unfold maxLen at hs
  rcases h.2 with ⟨rfl, h0⟩ | ⟨g, cap, cur, rfl, hbg, -⟩
  · go_enter Try.func22, Try.ntmps22
    go_wp2
    go_loopw [2] (fun i wr => i = .int .i64 0 ∧ wr = w) (fun _ _ => 0)
    case atStart => exact ⟨rfl, rfl⟩
    case round =>
      obtain ⟨rfl, rfl⟩ := hrel
      go_wp2
      go_end0
      exact ⟨rfl, Turned.refl _ _⟩
  · have HO := hide h
    have HX := hide hx
    have hlen : xs.length = n := by have := h.1; omega
    clear h hx
    go_enter Try.func22, Try.ntmps22
    go_wp2
    go_loopw [2] (fun i wr => ∃ (k : Nat) (ys : List Value), k ≤ n ∧ i = .int .i64 k ∧ ys.length = n ∧ (∀ u ∈ ys, ∃ c, u = .int .u8 c) ∧ wr.ownsRow base 5 1 (.slice (some ⟨g, 0, none⟩) n cap) n ys ∧ Turned (fun k => (Value.slice (some ⟨g, 0, none⟩) n cap).ownBlock = some k) w wr) (fun i _ => n - (intOf i).toNat)
    case atStart => exact ⟨0, xs, Nat.zero_le _, rfl, hlen, HX.out, HO.out, Turned.refl _ _⟩
    case round =>
      clear HO HX hlen
      obtain ⟨k, ys, hk, rfl, hlen, hys, hown, hT⟩ := hrel
      have HT := hide hT
      clear hT
      by_cases hlt : k < n
      · obtain ⟨c, hc⟩ := hys ys[k] (List.getElem_mem _)
        have hcell := hown.cellAt k (by omega)
        rw [List.getElem?_eq_getElem (by omega), hc] at hcell
        have hfr := hown.frozenAt k
        have HY := hide hys
        have HO := hide hown
        have HL := hide hlen
        clear hys hown hc hlen
        go_wp2
        go_roundw
        case rel =>
          obtain ⟨hst, hgr⟩ := HO.out.stored k (Value.int .u8 (bits .xor .u8 c 85))
          refine ⟨k + 1, _, by omega, by go_num, ?_, ?_, hst, HT.out.set (.inl rfl)⟩
          · rw [List.length_set]; exact HL.out
          · intro u hu
            rcases List.mem_or_eq_of_mem_set hu with h | h
            · exact HY.out u h
            · exact ⟨_, h⟩
        case measure => simp [intOf]; omega
      · go_wp2
        go_end0
        exact ⟨rfl, HT.out⟩
theorem Kp_bv_ints (l : List UInt8) : ∀ u ∈ l.map bv, ∃ c, u = .int .u8 c := by
  intro u hu
  obtain ⟨c, _, rfl⟩ := List.mem_map.1 hu
  exact ⟨_, rfl⟩
end Go.Proofs.Ytpffhemmjigfaaa

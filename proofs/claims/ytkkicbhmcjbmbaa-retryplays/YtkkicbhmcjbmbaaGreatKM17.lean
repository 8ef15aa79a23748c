/- What the proof stands on, part 17: the contracts of the program's calls that it reaches. -/
import Derived.Test.YtkkicbhmcjbmbaaGreatKM16
import Derived.ChangeArms
import Derived.ChangeSlices
import Derived.SizedLaws
import Derived.Deep.Slices
import Derived.ProofKit
import Derived.OpenShut
import Derived.Deep.SlicePairs
/- Lines, and steps, that came in as an argument: what a walk is told of them. -/
namespace Go.Proofs.YtkkicbhmcjbmbaaGreat
open Go.ChangeShapes Go.WideShapes Go.ChangeAt Go.RowKit Go.Deep

/-- How a slice of bytes inside a datum is told. -/
def Te_DataOf {H : Type} (d : DataW H) (x : List UInt8) : Prop := (d = .nil ∧ x = []) ∨ ∃ elems spare : List (DataW H), d = .slice elems spare ∧ x.length = elems.length

theorem Te_bys_len {W : World} {a : Option Addr} {n c : Nat} {l : List UInt8} (h : Bys W (.slice a n c) l) : n = l.length := by
  obtain ⟨a', c', he, _⟩ := bys_form h
  cases he
  rfl

theorem lns_arg {H : Type} {enc : TypeId × Value → H} {P : Program} {W : World} {base : Nat} {a : Option Addr} {len cap fuel t e u : Nat} {d : DataW H} {p : List MemPlace}
    (ht : P.underlying t = some (.slice e)) (he : P.underlying e = some (.slice u)) (ce : P.cellsOf e = 1) (hu : P.underlying u = some (.int .u8)) (cu : P.cellsOf u = 1)
    (hf : DataW.trod enc P W base (fun _ => true) true fuel t (Value.slice a len cap).cells.toList = some (d, p)) :
    ∃ l : List (List UInt8), Lns W (.slice a len cap) l ∧ ((d = .nil ∧ l = []) ∨ ∃ elems spare : List (DataW H), d = .slice elems spare ∧ l.length = elems.length ∧ ∀ i (hi : i < l.length), ∃ di, di ∈ elems ∧ Te_DataOf di l[i]) := by
  rcases open_slice ht hf with ⟨hcs, hd⟩ | ⟨x, n, c, m, k, D, Pl, hcs, _, hl, hm, hmm, hx, hel⟩
  · simp [Value.cells] at hcs
    obtain ⟨rfl, rfl, rfl⟩ := hcs
    exact ⟨[], ⟨_, _, rfl, fun h => absurd h (by decide)⟩, .inl ⟨(Prod.mk.inj hd).1, rfl⟩⟩
  · simp [Value.cells] at hcs
    obtain ⟨rfl, rfl, rfl⟩ := hcs
    simp only [if_true] at hmm
    subst hmm
    have each : ∀ i, i < len → ∃ s : List UInt8, ∃ va vc, Te_DataOf (D i) s ∧ W.cell? ((x.add (i * 1)).add 0) = some (.slice va s.length vc) ∧ Bys W (.slice va s.length vc) s := by
      intro i hi
      obtain ⟨cs', h1, h2⟩ := hel i (by omega)
      rw [ce] at h1
      obtain ⟨_, hlen, hcell⟩ := World.cells?_some h1
      match cs', hlen with
      | [v0], _ =>
        obtain ⟨va, vl, vc, rfl⟩ : ∃ va vl vc, v0 = .slice va vl vc := by
          rcases DataW.trod_slice he h2 with ⟨h0, _⟩ | ⟨x, len, cap, _, _, _, _, h0, _⟩
          · exact ⟨_, _, _, by simpa using h0⟩
          · exact ⟨_, _, _, by simpa using h0⟩
        obtain ⟨s, hs, hO⟩ := bytes_arg he hu cu (by simpa [Value.cells] using h2)
        obtain rfl := Te_bys_len hs
        exact ⟨s, va, vc, hO, by simpa using hcell 0 (by simp), hs⟩
    obtain ⟨s, hs⟩ := choose_lt each
    refine ⟨(List.range len).map s, ⟨some x, m, by simp, fun h0 => ?_⟩, .inr ⟨_, _, (Prod.mk.inj hx).1, by simp, fun i hi => ?_⟩⟩
    · have h0' : 0 < len := by simpa using h0
      obtain ⟨b, off, spot⟩ := x
      obtain ⟨_, _, _, q0, _⟩ := hs 0 h0'
      have hspot : spot = none := by simpa [Addr.add] using World.cell?_spot q0
      subst hspot
      refine ⟨b, off, rfl, fun j hj => ?_⟩
      have hj' : j < len := by simpa using hj
      obtain ⟨va, vc, _, q0, hb⟩ := hs j hj'
      have hadd : ∀ o k, (⟨b, o, none⟩ : Addr).add k = ⟨b, o + k, none⟩ := fun o k => by unfold Addr.add; split <;> simp_all
      rw [hadd, hadd] at q0
      simp only [List.getElem_map, List.getElem_range]
      exact ⟨va, vc, by simpa using q0, hb⟩
    · have hi' : i < len := by simpa using hi
      obtain ⟨va, vc, hO, _⟩ := hs i hi'
      exact ⟨D i, List.mem_map.2 ⟨i, by simpa using hi', rfl⟩, by simpa using hO⟩

theorem Te_weightsAll_mem {H : Type} {P : Program} {e : TypeId} : ∀ {l : List (DataW H)} {d : DataW H}, d ∈ l → ∀ n ∈ d.weights P e, n ∈ DataW.weightsAll P e l
  | d' :: r, d, hd, n, hn => by
    simp only [DataW.weightsAll, List.mem_append]
    rcases List.mem_cons.1 hd with rfl | h
    · exact Or.inl hn
    · exact Or.inr (Te_weightsAll_mem h n hn)
theorem line_weight {H : Type} {P : Program} {e u : TypeId} {d : DataW H} {x : List UInt8} (he : P.underlying e = some (.slice u)) (bu : P.bytesOf u = 1) (hO : Te_DataOf d x) (h : ∀ n ∈ d.weights P e, n ≤ reachBytes) : x.length ≤ 140737488351232 := by
  rcases hO with ⟨_, rfl⟩ | ⟨elems, spare, rfl, hl⟩
  · simp
  · have := h ((elems.length + spare.length) * P.bytesOf u) (by simp [DataW.weights, he])
    rw [bu] at this
    simp only [reachBytes] at this
    omega
/-- The reach, of each line. -/
theorem sized_lines {H : Type} {P : Program} {ts : List TypeId} {ds : List (DataW H)} (h : (DataW.weightsEach P ts ds).all (· ≤ reachBytes) = true) {j : Nat} {t e u : TypeId} {d : DataW H} {elems spare : List (DataW H)} {x : List UInt8}
    (ht : ts[j]? = some t) (hd : ds[j]? = some (.slice elems spare)) (hu : P.underlying t = some (.slice e)) (hm : d ∈ elems) (he : P.underlying e = some (.slice u)) (bu : P.bytesOf u = 1) (hO : Te_DataOf d x) : x.length ≤ 140737488351232 :=
  line_weight he bu hO fun n hn => of_decide_eq_true (List.all_eq_true.1 h _ (DataW.weights_mem_each ht hd n (by
    simp only [DataW.weights, hu, List.mem_cons, List.mem_append]
    exact Or.inr (Or.inl (Te_weightsAll_mem hm n hn)))))

/-- A step: what, n, data. -/
abbrev Te_Stp := Int × Int × List UInt8
theorem Te_step_cells {H : Type} {enc : TypeId × Value → H} {P : Program} {W : World} {base : Nat} {fuel e u : Nat} {f0 f1 f2 : Field} {cs : List Value} {d : DataW H} {p : List MemPlace}
    (he : P.underlying e = some (.struct #[f0, f1, f2])) (ce : P.cellsOf e = 3) (o0 : f0.offset = 0) (o1 : f1.offset = 1) (o2 : f2.offset = 2)
    (c0 : P.cellsOf f0.type = 1) (c1 : P.cellsOf f1.type = 1) (c2 : P.cellsOf f2.type = 1)
    (t0 : P.underlying f0.type = some (.int .i64)) (t1 : P.underlying f1.type = some (.int .i64)) (t2 : P.underlying f2.type = some (.slice u)) (tu : P.underlying u = some (.int .u8)) (cu : P.cellsOf u = 1)
    (h : DataW.trod enc P W base (fun _ => true) true fuel e cs = some (d, p)) :
    ∃ (x : Te_Stp) (va : Option Addr) (vc : Nat) (d2 : DataW H), cs = [.int .i64 x.1, .int .i64 x.2.1, .slice va x.2.2.length vc] ∧ Bys W (.slice va x.2.2.length vc) x.2.2 ∧ (∃ x0 x1, d = .agg [x0, x1, d2]) ∧ Te_DataOf d2 x.2.2 := by
  obtain ⟨xs, k, hk, hxy, hcl, hxl, hf⟩ := DataW.trod_struct he h
  rw [ce] at hcl
  match xs, hxl, cs, hcl with
  | [y0, y1, y2], _, [v0, v1, v2], _ =>
    have g0 := hf 0 f0 rfl
    have g1 := hf 1 f1 rfl
    have g2 := hf 2 f2 rfl
    simp [o0, c0] at g0
    simp [o1, c1] at g1
    simp [o2, c2] at g2
    obtain ⟨a, ha, _⟩ := DataW.trod_int t0 g0
    obtain ⟨b, hb, _⟩ := DataW.trod_int t1 g1
    obtain rfl : v0 = .int .i64 a := by simpa using ha
    obtain rfl : v1 = .int .i64 b := by simpa using hb
    obtain ⟨va, vl, vc, rfl⟩ : ∃ va vl vc, v2 = .slice va vl vc := by
      rcases DataW.trod_slice t2 g2 with ⟨h0, _⟩ | ⟨x, len, cap, _, _, _, _, h0, _⟩
      · exact ⟨_, _, _, by simpa using h0⟩
      · exact ⟨_, _, _, by simpa using h0⟩
    obtain ⟨y2a, y2b⟩ := y2
    obtain ⟨l, hl, hd⟩ := bytes_arg t2 tu cu (by simpa [Value.cells] using g2)
    obtain rfl := Te_bys_len hl
    simp only [Prod.mk.injEq] at hxy
    exact ⟨(a, b, l), va, vc, y2a, rfl, hl, ⟨_, _, by simpa using hxy.1⟩, hd⟩

/-- The slice value v holds the steps l. -/
def Te_Stps (W : World) (v : Value) (l : List Te_Stp) : Prop :=
  ∃ a c, v = .slice a l.length c ∧ (0 < l.length → ∃ b off, a = some ⟨b, off, none⟩ ∧ ∀ j (hj : j < l.length), ∃ va vc,
    W.cell? ⟨b, off + j * 3, none⟩ = some (.int .i64 l[j].1) ∧ W.cell? ⟨b, off + j * 3 + 1, none⟩ = some (.int .i64 l[j].2.1) ∧ W.cell? ⟨b, off + j * 3 + 2, none⟩ = some (.slice va l[j].2.2.length vc) ∧ Bys W (.slice va l[j].2.2.length vc) l[j].2.2)

theorem Te_stps_arg {H : Type} {enc : TypeId × Value → H} {P : Program} {W : World} {base : Nat} {a : Option Addr} {len cap fuel t e u : Nat} {f0 f1 f2 : Field} {d : DataW H} {p : List MemPlace}
    (ht : P.underlying t = some (.slice e)) (he : P.underlying e = some (.struct #[f0, f1, f2])) (ce : P.cellsOf e = 3) (o0 : f0.offset = 0) (o1 : f1.offset = 1) (o2 : f2.offset = 2)
    (c0 : P.cellsOf f0.type = 1) (c1 : P.cellsOf f1.type = 1) (c2 : P.cellsOf f2.type = 1)
    (t0 : P.underlying f0.type = some (.int .i64)) (t1 : P.underlying f1.type = some (.int .i64)) (t2 : P.underlying f2.type = some (.slice u)) (tu : P.underlying u = some (.int .u8)) (cu : P.cellsOf u = 1)
    (hf : DataW.trod enc P W base (fun _ => true) true fuel t (Value.slice a len cap).cells.toList = some (d, p)) :
    ∃ l : List Te_Stp, Te_Stps W (.slice a len cap) l ∧ ((d = .nil ∧ l = []) ∨ ∃ elems spare : List (DataW H), d = .slice elems spare ∧ l.length = elems.length ∧ ∀ i (hi : i < l.length), ∃ x0 x1 d2, DataW.agg [x0, x1, d2] ∈ elems ∧ Te_DataOf d2 l[i].2.2) := by
  rcases open_slice ht hf with ⟨hcs, hd⟩ | ⟨x, n, c, m, k, D, Pl, hcs, _, hl, hm, hmm, hx, hel⟩
  · simp [Value.cells] at hcs
    obtain ⟨rfl, rfl, rfl⟩ := hcs
    exact ⟨[], ⟨_, _, rfl, fun h => absurd h (by decide)⟩, .inl ⟨(Prod.mk.inj hd).1, rfl⟩⟩
  · simp [Value.cells] at hcs
    obtain ⟨rfl, rfl, rfl⟩ := hcs
    simp only [if_true] at hmm
    subst hmm
    have each : ∀ i, i < len → ∃ s : Te_Stp, ∃ va vc, (∃ x0 x1 d2, D i = .agg [x0, x1, d2] ∧ Te_DataOf d2 s.2.2) ∧
        W.cell? ((x.add (i * 3)).add 0) = some (.int .i64 s.1) ∧ W.cell? ((x.add (i * 3)).add 1) = some (.int .i64 s.2.1) ∧ W.cell? ((x.add (i * 3)).add 2) = some (.slice va s.2.2.length vc) ∧ Bys W (.slice va s.2.2.length vc) s.2.2 := by
      intro i hi
      obtain ⟨cs', h1, h2⟩ := hel i (by omega)
      rw [ce] at h1
      obtain ⟨_, hlen, hcell⟩ := World.cells?_some h1
      obtain ⟨s, va, vc, d2, rfl, hb, ⟨x0, x1, hD⟩, hO⟩ := Te_step_cells he ce o0 o1 o2 c0 c1 c2 t0 t1 t2 tu cu h2
      exact ⟨s, va, vc, ⟨x0, x1, d2, hD, hO⟩, by simpa using hcell 0 (by omega), by simpa using hcell 1 (by omega), by simpa using hcell 2 (by omega), hb⟩
    obtain ⟨s, hs⟩ := choose_lt each
    refine ⟨(List.range len).map s, ⟨some x, m, by simp, fun h0 => ?_⟩, .inr ⟨_, _, (Prod.mk.inj hx).1, by simp, fun i hi => ?_⟩⟩
    · have h0' : 0 < len := by simpa using h0
      obtain ⟨b, off, spot⟩ := x
      obtain ⟨_, _, _, q0, _⟩ := hs 0 h0'
      have hspot : spot = none := by simpa [Addr.add] using World.cell?_spot q0
      subst hspot
      refine ⟨b, off, rfl, fun j hj => ?_⟩
      have hj' : j < len := by simpa using hj
      obtain ⟨va, vc, _, q0, q1, q2, hb⟩ := hs j hj'
      have hadd : ∀ o k, (⟨b, o, none⟩ : Addr).add k = ⟨b, o + k, none⟩ := fun o k => by unfold Addr.add; split <;> simp_all
      rw [hadd, hadd] at q0 q1 q2
      simp only [List.getElem_map, List.getElem_range]
      exact ⟨va, vc, by simpa using q0, q1, q2, hb⟩
    · have hi' : i < len := by simpa using hi
      obtain ⟨va, vc, ⟨x0, x1, d2, hD, hO⟩, _⟩ := hs i hi'
      refine ⟨x0, x1, d2, ?_, by simpa using hO⟩
      rw [← hD]
      exact List.mem_map.2 ⟨i, by simpa using hi', rfl⟩
theorem Te_sized_steps {H : Type} {P : Program} {ts : List TypeId} {ds : List (DataW H)} (h : (DataW.weightsEach P ts ds).all (· ≤ reachBytes) = true) {j : Nat} {t e u : TypeId} {f0 f1 f2 : Field} {x0 x1 d2 : DataW H} {elems spare : List (DataW H)} {x : List UInt8}
    (ht : ts[j]? = some t) (hd : ds[j]? = some (.slice elems spare)) (hu : P.underlying t = some (.slice e)) (hm : DataW.agg [x0, x1, d2] ∈ elems) (he : P.underlying e = some (.struct #[f0, f1, f2])) (t2 : P.underlying f2.type = some (.slice u)) (bu : P.bytesOf u = 1) (hO : Te_DataOf d2 x) : x.length ≤ 140737488351232 := by
  rcases hO with ⟨_, rfl⟩ | ⟨es, sp, rfl, hl⟩
  · simp
  · have := of_decide_eq_true (List.all_eq_true.1 h _ (DataW.weights_mem_each ht hd ((es.length + sp.length) * P.bytesOf u) (by
      simp only [DataW.weights, hu, List.mem_cons, List.mem_append]
      exact Or.inr (Or.inl (Te_weightsAll_mem hm _ (by simp [DataW.weights, DataW.weightsEach, he, t2]))))))
    rw [bu] at this
    simp only [reachBytes] at this
    omega
end Go.Proofs.YtkkicbhmcjbmbaaGreat

/- Faults, and ints, that came in as an argument: what a walk is told of them. -/
namespace Go.Proofs.YtkkicbhmcjbmbaaGreat
open Go.ChangeShapes Go.WideShapes Go.ChangeAt Go.RowKit Go.Deep

theorem faults_arg {H : Type} {enc : TypeId × Value → H} {P : Program} {W : World} {base : Nat} {a : Option Addr} {len cap fuel t e : Nat} {f0 f1 : Field} {d : DataW H} {p : List MemPlace}
    (ht : P.underlying t = some (.slice e)) (he : P.underlying e = some (.struct #[f0, f1])) (ce : P.cellsOf e = 2) (o0 : f0.offset = 0) (o1 : f1.offset = 1) (c0 : P.cellsOf f0.type = 1) (c1 : P.cellsOf f1.type = 1)
    (t0 : P.underlying f0.type = some (.int .i64)) (t1 : P.underlying f1.type = some (.int .i64))
    (hf : DataW.trod enc P W base (fun _ => true) true fuel t (Value.slice a len cap).cells.toList = some (d, p)) :
    ∃ l : List Fault, Flts W (.slice a len cap) l ∧ ((d = .nil ∧ l = []) ∨ ∃ elems spare : List (DataW H), d = .slice elems spare ∧ l.length = elems.length) := by
  rcases open_slice_pairs ht he ce o0 o1 c0 c1 hf with ⟨hcs, hd⟩ | ⟨x, n, c, m, q, V0, V1, D0, D1, P0, P1, hcs, _, hl, hm, hmm, hx, hcell⟩
  · simp [Value.cells] at hcs
    obtain ⟨rfl, rfl, rfl⟩ := hcs
    exact ⟨[], .inl ⟨rfl, rfl⟩, .inl ⟨(Prod.mk.inj hd).1, rfl⟩⟩
  · simp [Value.cells] at hcs
    obtain ⟨rfl, rfl, rfl⟩ := hcs
    simp only [if_true] at hmm
    subst hmm
    have hz : ∀ i, i < m → ∃ y z, V0 i = .int .i64 y ∧ V1 i = .int .i64 z := fun i hi => by
      obtain ⟨_, _, h0, h1⟩ := hcell i hi
      obtain ⟨y, hy, _⟩ := DataW.trod_int t0 h0
      obtain ⟨z, hz, _⟩ := DataW.trod_int t1 h1
      exact ⟨y, z, by simpa using hy, by simpa using hz⟩
    let val : Value → Int := fun | .int _ z => z | _ => 0
    refine ⟨(List.range len).map fun i => (val (V0 i), val (V1 i)), ?_, .inr ⟨_, _, (Prod.mk.inj hx).1, by simp⟩⟩
    by_cases h0 : len = 0
    · subst h0
      exact .inr (.inl ⟨x, m, rfl, by simp⟩)
    · obtain ⟨b, off, spot⟩ := x
      have hspot : spot = none := by simpa [Addr.add] using World.cell?_spot (hcell 0 (by omega)).1
      subst hspot
      refine .inr (.inr ⟨b, off, m, by simp, by simp; omega, by simpa using hl, fun j hj => ?_⟩)
      have hj' : j < len := by simpa using hj
      obtain ⟨h1, h2, _⟩ := hcell j (by omega)
      obtain ⟨y, z, hy, hz⟩ := hz j (by omega)
      have hadd : ∀ k, (⟨b, off, none⟩ : Addr).add k = ⟨b, off + k, none⟩ := fun k => by unfold Addr.add; split <;> simp_all
      rw [hadd] at h1 h2
      rw [h1, Nat.add_assoc, h2, hy, hz]
      simp [List.getD_eq_getElem?_getD, hj', hy, hz, val]

/-- The slice value v holds the ints l. -/
def Fa_Ints (W : World) (v : Value) (l : List Int) : Prop :=
  ∃ a c, v = .slice a l.length c ∧ (0 < l.length → ∃ b off, a = some ⟨b, off, none⟩ ∧ ∀ j, j < l.length → W.cell? ⟨b, off + j, none⟩ = some (.int .i64 (l.getD j 0)))
theorem Fa_Ints.below {W W' : World} {v : Value} {l : List Int} (h : Fa_Ints W v l) (hB : Below W.heap.size W W') : Fa_Ints W' v l := by
  obtain ⟨a, c, rfl, h⟩ := h
  refine ⟨a, c, rfl, fun h0 => ?_⟩
  obtain ⟨b, off, rfl, hc⟩ := h h0
  refine ⟨b, off, rfl, fun j hj => ?_⟩
  have := World.block_lt_of_cell? W _ (hc j hj)
  exact (hB.cell (p := ⟨b, off + j, none⟩) this).trans (hc j hj)

theorem ints_arg {H : Type} {enc : TypeId × Value → H} {P : Program} {W : World} {base : Nat} {a : Option Addr} {len cap fuel t e : Nat} {d : DataW H} {p : List MemPlace}
    (ht : P.underlying t = some (.slice e)) (he : P.underlying e = some (.int .i64)) (hc : P.cellsOf e = 1)
    (hf : DataW.trod enc P W base (fun _ => true) true fuel t (Value.slice a len cap).cells.toList = some (d, p)) :
    ∃ l : List Int, Fa_Ints W (.slice a len cap) l ∧ ((d = .nil ∧ l = []) ∨ ∃ elems spare : List (DataW H), d = .slice elems spare ∧ l.length = elems.length) := by
  rcases open_ints ht he hc hf with ⟨hcs, hd⟩ | ⟨x, n, c, zs, hcs, _, hl, hm, hz, hx, hcell, hwz⟩
  · simp [Value.cells] at hcs
    obtain ⟨rfl, rfl, rfl⟩ := hcs
    exact ⟨[], ⟨_, _, rfl, fun h => absurd h (by decide)⟩, .inl ⟨(Prod.mk.inj hd).1, rfl⟩⟩
  · simp [Value.cells] at hcs
    obtain ⟨rfl, rfl, rfl⟩ := hcs
    simp only [if_true] at hz
    have hlen : (zs.take len).length = len := by rw [List.length_take]; omega
    refine ⟨zs.take len, ⟨some x, cap, by rw [hlen], fun h0 => ?_⟩, .inr ⟨_, _, (Prod.mk.inj hx).1, by simp [lits]⟩⟩
    rw [hlen] at h0
    obtain ⟨b, off, spot⟩ := x
    have hspot : spot = none := by simpa [Addr.add] using World.cell?_spot (hcell 0 (by omega))
    subst hspot
    refine ⟨b, off, rfl, fun j hj => ?_⟩
    rw [hlen] at hj
    have h1 := hcell j (by omega)
    have hadd : (⟨b, off, none⟩ : Addr).add j = ⟨b, off + j, none⟩ := by unfold Addr.add; split <;> simp_all
    rw [hadd] at h1
    rw [h1]
    have hjz : j < zs.length := by omega
    simp [List.getD_eq_getElem?_getD, hj, List.getElem?_eq_getElem hjz]
end Go.Proofs.YtkkicbhmcjbmbaaGreat

/- Files, terminals, steps and setups that came in as an argument: what a walk is told of them, and their sizes. -/
namespace Go.Proofs.YtkkicbhmcjbmbaaGreat
open Go.ChangeShapes Go.WideShapes Go.ChangeAt Go.RowKit Go.Deep

/-- Within the reach of memory, through and through. -/
def Small {H : Type} (P : Program) (t : TypeId) (d : DataW H) : Prop := ∀ n ∈ d.weights P t, n ≤ reachBytes
theorem small_arg {H : Type} {P : Program} {ts : List TypeId} {ds : List (DataW H)} (h : (DataW.weightsEach P ts ds).all (· ≤ reachBytes) = true) {j : Nat} {t : TypeId} {d : DataW H} (ht : ts[j]? = some t) (hd : ds[j]? = some d) : Small P t d :=
  fun n hn => of_decide_eq_true (List.all_eq_true.1 h _ (DataW.weights_mem_each ht hd n hn))
theorem Small.slice {H : Type} {P : Program} {t e : TypeId} {es sp : List (DataW H)} (h : Small P t (.slice es sp)) (hu : P.underlying t = some (.slice e)) : (es.length + sp.length) * P.bytesOf e ≤ reachBytes ∧ ∀ d ∈ es, Small P e d :=
  ⟨h _ (by simp [DataW.weights, hu]), fun d hd n hn => h n (by
    simp only [DataW.weights, hu, List.mem_cons, List.mem_append]
    exact Or.inr (Or.inl (Kp_weightsAll_mem hd n hn)))⟩
theorem Small.fields {H : Type} {P : Program} {t : TypeId} {fs : Array Field} {ds : List (DataW H)} (h : Small P t (.agg ds)) (hu : P.underlying t = some (.struct fs)) (j : Nat) (f : Field) (d : DataW H) (hf : fs[j]? = some f) (hd : ds[j]? = some d) : Small P f.type d := fun n hn => h n (by
    simp only [DataW.weights, hu]
    exact DataW.weights_mem_each (by rw [List.getElem?_map, Array.getElem?_toList, hf]; rfl) hd n hn)

/-- How a slice of bytes, of lines, of named, of typed inside a datum is told. -/
def LnD {H : Type} (d : DataW H) (ls : List (List UInt8)) : Prop := (d = .nil ∧ ls = []) ∨ ∃ elems spare : List (DataW H), d = .slice elems spare ∧ ls.length = elems.length ∧ ∀ i (hi : i < ls.length), ∃ di, di ∈ elems ∧ Te_DataOf di ls[i]
def NmD {H : Type} (d : DataW H) (l : List Nm) : Prop := (d = .nil ∧ l = []) ∨ ∃ elems spare : List (DataW H), d = .slice elems spare ∧ l.length = elems.length ∧ ∀ i (hi : i < l.length), ∃ x0 d1, DataW.agg [x0, d1] ∈ elems ∧ Kp_DataOf d1 l[i].2
def TpD {H : Type} (d : DataW H) (l : List Tp) : Prop := (d = .nil ∧ l = []) ∨ ∃ elems spare : List (DataW H), d = .slice elems spare ∧ l.length = elems.length ∧ ∀ i (hi : i < l.length), ∃ x0 d1, DataW.agg [x0, d1] ∈ elems ∧ LnD d1 l[i].2
theorem bytes_small {H : Type} {P : Program} {t e : TypeId} {d : DataW H} {x : List UInt8} (h : Small P t d) (hu : P.underlying t = some (.slice e)) (be : P.bytesOf e = 1) (hO : Kp_DataOf d x) : x.length ≤ 140737488351232 := by
  rcases hO with ⟨_, rfl⟩ | ⟨es, sp, rfl, hl⟩
  · simp
  · have := (h.slice hu).1
    rw [be] at this
    simp only [reachBytes] at this
    omega
theorem lines_small {H : Type} {P : Program} {t e u : TypeId} {d : DataW H} {ls : List (List UInt8)} (h : Small P t d) (hu : P.underlying t = some (.slice e)) (he : P.underlying e = some (.slice u)) (be : P.bytesOf e = 24) (bu : P.bytesOf u = 1) (hO : LnD d ls) : ls.length * 24 ≤ 140737488351232 ∧ ∀ i (hi : i < ls.length), ls[i].length ≤ 140737488351232 := by
  rcases hO with ⟨_, rfl⟩ | ⟨es, sp, rfl, hl, hel⟩
  · exact ⟨by simp, fun i hi => absurd hi (by simp)⟩
  · obtain ⟨h1, h2⟩ := h.slice hu
    rw [be] at h1
    simp only [reachBytes] at h1
    refine ⟨by omega, fun i hi => ?_⟩
    obtain ⟨di, hm, hO⟩ := hel i hi
    exact bytes_small (h2 di hm) he bu hO
theorem named_small {H : Type} {P : Program} {t e u : TypeId} {f0 f1 : Field} {d : DataW H} {l : List Nm} (h : Small P t d) (hu : P.underlying t = some (.slice e)) (be : P.bytesOf e = 40) (he : P.underlying e = some (.struct #[f0, f1])) (t1 : P.underlying f1.type = some (.slice u)) (bu : P.bytesOf u = 1) (hO : NmD d l) : l.length * 40 ≤ 140737488351232 ∧ ∀ i (hi : i < l.length), l[i].2.length ≤ 140737488351232 := by
  rcases hO with ⟨_, rfl⟩ | ⟨es, sp, rfl, hl, hel⟩
  · exact ⟨by simp, fun i hi => absurd hi (by simp)⟩
  · obtain ⟨h1, h2⟩ := h.slice hu
    rw [be] at h1
    simp only [reachBytes] at h1
    refine ⟨by omega, fun i hi => ?_⟩
    obtain ⟨x0, d1, hm, hO⟩ := hel i hi
    exact bytes_small ((h2 _ hm).fields he 1 f1 d1 rfl rfl) t1 bu hO
theorem typed_small {H : Type} {P : Program} {t e u v : TypeId} {f0 f1 : Field} {d : DataW H} {l : List Tp} (h : Small P t d) (hu : P.underlying t = some (.slice e)) (be : P.bytesOf e = 40) (he : P.underlying e = some (.struct #[f0, f1])) (t1 : P.underlying f1.type = some (.slice u)) (tu : P.underlying u = some (.slice v)) (bu : P.bytesOf u = 24) (bv : P.bytesOf v = 1) (hO : TpD d l) :
    l.length * 40 ≤ 140737488351232 ∧ ∀ i (hi : i < l.length), l[i].2.length * 24 ≤ 140737488351232 ∧ ∀ k (hk : k < l[i].2.length), l[i].2[k].length ≤ 140737488351232 := by
  rcases hO with ⟨_, rfl⟩ | ⟨es, sp, rfl, hl, hel⟩
  · exact ⟨by simp, fun i hi => absurd hi (by simp)⟩
  · obtain ⟨h1, h2⟩ := h.slice hu
    rw [be] at h1
    simp only [reachBytes] at h1
    refine ⟨by omega, fun i hi => ?_⟩
    obtain ⟨x0, d1, hm, hO⟩ := hel i hi
    exact lines_small ((h2 _ hm).fields he 1 f1 d1 rfl rfl) t1 tu bu bv hO

theorem named_cells {H : Type} {enc : TypeId × Value → H} {P : Program} {W : World} {base : Nat} {fuel e u : Nat} {f0 f1 : Field} {cs : List Value} {d : DataW H} {p : List MemPlace}
    (he : P.underlying e = some (.struct #[f0, f1])) (ce : P.cellsOf e = 2) (o0 : f0.offset = 0) (o1 : f1.offset = 1) (c0 : P.cellsOf f0.type = 1) (c1 : P.cellsOf f1.type = 1)
    (t0 : P.underlying f0.type = some .string) (t1 : P.underlying f1.type = some (.slice u)) (tu : P.underlying u = some (.int .u8)) (cu : P.cellsOf u = 1)
    (h : DataW.trod enc P W base (fun _ => true) true fuel e cs = some (d, p)) :
    ∃ (x : Nm) (va : Option Addr) (vc : Nat) (d1 : DataW H), cs = [.string x.1, .slice va x.2.length vc] ∧ (Bys W (.slice va x.2.length vc) x.2 ∧ x.2.length ≤ vc ∧ x.1.size ≤ maxLen) ∧ (∃ x0, d = .agg [x0, d1]) ∧ Kp_DataOf d1 x.2 := by
  obtain ⟨xs, k, hk, hxy, hcl, hxl, hf⟩ := DataW.trod_struct he h
  rw [ce] at hcl
  match xs, hxl, cs, hcl with
  | [y0, y1], _, [v0, v1], _ =>
    have g0 := hf 0 f0 rfl
    have g1 := hf 1 f1 rfl
    simp [o0, c0] at g0
    simp [o1, c1] at g1
    obtain ⟨a, ha, _, hsz⟩ := DataW.trod_string t0 g0
    obtain rfl : v0 = .string a := by simpa using ha
    obtain ⟨va, vl, vc, rfl⟩ : ∃ va vl vc, v1 = .slice va vl vc := by
      rcases DataW.trod_slice t1 g1 with ⟨h0, _⟩ | ⟨x, len, cap, _, _, _, _, h0, _⟩
      · exact ⟨_, _, _, by simpa using h0⟩
      · exact ⟨_, _, _, by simpa using h0⟩
    obtain ⟨y1a, y1b⟩ := y1
    obtain ⟨l, hl, hlc, hd⟩ := bytes_arg2 t1 tu cu (by simpa [Value.cells] using g1)
    obtain rfl := Kp_bys_len hl
    simp only [Prod.mk.injEq] at hxy
    exact ⟨(a, l), va, vc, y1a, rfl, ⟨hl, hlc, hsz⟩, ⟨_, by simpa using hxy.1⟩, hd⟩
theorem nms_arg {H : Type} {enc : TypeId × Value → H} {P : Program} {W : World} {base : Nat} {a : Option Addr} {len cap fuel t e u : Nat} {f0 f1 : Field} {d : DataW H} {p : List MemPlace}
    (ht : P.underlying t = some (.slice e)) (he : P.underlying e = some (.struct #[f0, f1])) (ce : P.cellsOf e = 2) (o0 : f0.offset = 0) (o1 : f1.offset = 1) (c0 : P.cellsOf f0.type = 1) (c1 : P.cellsOf f1.type = 1)
    (t0 : P.underlying f0.type = some .string) (t1 : P.underlying f1.type = some (.slice u)) (tu : P.underlying u = some (.int .u8)) (cu : P.cellsOf u = 1)
    (hf : DataW.trod enc P W base (fun _ => true) true fuel t (Value.slice a len cap).cells.toList = some (d, p)) : ∃ l : List Nm, Nms W (.slice a len cap) l ∧ NmD d l := by
  rcases open_slice ht hf with ⟨hcs, hd⟩ | ⟨x, n, c, m, k, D, Pl, hcs, _, hl, hm, hmm, hx, hel⟩
  · simp [Value.cells] at hcs
    obtain ⟨rfl, rfl, rfl⟩ := hcs
    exact ⟨[], ⟨_, _, rfl, Nat.le_refl _, fun h => absurd h (by decide)⟩, .inl ⟨(Prod.mk.inj hd).1, rfl⟩⟩
  · simp [Value.cells] at hcs
    obtain ⟨rfl, rfl, rfl⟩ := hcs
    simp only [if_true] at hmm
    subst hmm
    have each : ∀ i, i < len → ∃ s : Nm, ∃ va vc, (∃ x0 d1, D i = .agg [x0, d1] ∧ Kp_DataOf d1 s.2) ∧
        W.cell? ((x.add (i * 2)).add 0) = some (.string s.1) ∧ W.cell? ((x.add (i * 2)).add 1) = some (.slice va s.2.length vc) ∧ Bys W (.slice va s.2.length vc) s.2 ∧ s.2.length ≤ vc ∧ s.1.size ≤ maxLen := by
      intro i hi
      obtain ⟨cs', h1, h2⟩ := hel i (by omega)
      rw [ce] at h1
      obtain ⟨_, hlen, hcell⟩ := World.cells?_some h1
      obtain ⟨s, va, vc, d1, rfl, hb, ⟨x0, hD⟩, hO⟩ := named_cells he ce o0 o1 c0 c1 t0 t1 tu cu h2
      exact ⟨s, va, vc, ⟨x0, d1, hD, hO⟩, by simpa using hcell 0 (by omega), by simpa using hcell 1 (by omega), hb⟩
    obtain ⟨s, hs⟩ := choose_lt each
    refine ⟨(List.range len).map s, ⟨some x, m, by simp, by simpa using hl, fun h0 => ?_⟩, .inr ⟨_, _, (Prod.mk.inj hx).1, by simp, fun i hi => ?_⟩⟩
    · have h0' : 0 < len := by simpa using h0
      obtain ⟨b, off, spot⟩ := x
      obtain ⟨_, _, _, q0, _⟩ := hs 0 h0'
      have hspot : spot = none := by simpa [Addr.add] using World.cell?_spot q0
      subst hspot
      refine ⟨b, off, rfl, fun j hj => ?_⟩
      have hj' : j < len := by simpa using hj
      obtain ⟨va, vc, _, q0, q1, hb⟩ := hs j hj'
      have hadd : ∀ o k, (⟨b, o, none⟩ : Addr).add k = ⟨b, o + k, none⟩ := fun o k => by unfold Addr.add; split <;> simp_all
      rw [hadd, hadd] at q0 q1
      simp only [List.getElem_map, List.getElem_range]
      exact ⟨va, vc, by simpa using q0, q1, hb⟩
    · have hi' : i < len := by simpa using hi
      obtain ⟨va, vc, ⟨x0, d1, hD, hO⟩, _⟩ := hs i hi'
      refine ⟨x0, d1, ?_, by simpa using hO⟩
      rw [← hD]
      exact List.mem_map.2 ⟨i, by simpa using hi', rfl⟩
theorem typed_cells {H : Type} {enc : TypeId × Value → H} {P : Program} {W : World} {base : Nat} {fuel e u v : Nat} {f0 f1 : Field} {cs : List Value} {d : DataW H} {p : List MemPlace}
    (he : P.underlying e = some (.struct #[f0, f1])) (ce : P.cellsOf e = 2) (o0 : f0.offset = 0) (o1 : f1.offset = 1) (c0 : P.cellsOf f0.type = 1) (c1 : P.cellsOf f1.type = 1)
    (t0 : P.underlying f0.type = some .string) (t1 : P.underlying f1.type = some (.slice u)) (tu : P.underlying u = some (.slice v)) (cu : P.cellsOf u = 1) (tv : P.underlying v = some (.int .u8)) (cv : P.cellsOf v = 1)
    (h : DataW.trod enc P W base (fun _ => true) true fuel e cs = some (d, p)) :
    ∃ (x : Tp) (va : Option Addr) (vc : Nat) (d1 : DataW H), cs = [.string x.1, .slice va x.2.length vc] ∧ (Lns W (.slice va x.2.length vc) x.2 ∧ x.1.size ≤ maxLen) ∧ (∃ x0, d = .agg [x0, d1]) ∧ LnD d1 x.2 := by
  obtain ⟨xs, k, hk, hxy, hcl, hxl, hf⟩ := DataW.trod_struct he h
  rw [ce] at hcl
  match xs, hxl, cs, hcl with
  | [y0, y1], _, [v0, v1], _ =>
    have g0 := hf 0 f0 rfl
    have g1 := hf 1 f1 rfl
    simp [o0, c0] at g0
    simp [o1, c1] at g1
    obtain ⟨a, ha, _, hsz⟩ := DataW.trod_string t0 g0
    obtain rfl : v0 = .string a := by simpa using ha
    obtain ⟨va, vl, vc, rfl⟩ : ∃ va vl vc, v1 = .slice va vl vc := by
      rcases DataW.trod_slice t1 g1 with ⟨h0, _⟩ | ⟨x, len, cap, _, _, _, _, h0, _⟩
      · exact ⟨_, _, _, by simpa using h0⟩
      · exact ⟨_, _, _, by simpa using h0⟩
    obtain ⟨y1a, y1b⟩ := y1
    obtain ⟨l, hl, hd⟩ := lns_arg t1 tu cu tv cv (by simpa [Value.cells] using g1)
    obtain rfl : vl = l.length := by
      obtain ⟨a', c', he, _⟩ := hl
      cases he
      rfl
    simp only [Prod.mk.injEq] at hxy
    exact ⟨(a, l), va, vc, y1a, rfl, ⟨hl, hsz⟩, ⟨_, by simpa using hxy.1⟩, hd⟩
theorem tps_arg {H : Type} {enc : TypeId × Value → H} {P : Program} {W : World} {base : Nat} {a : Option Addr} {len cap fuel t e u v : Nat} {f0 f1 : Field} {d : DataW H} {p : List MemPlace}
    (ht : P.underlying t = some (.slice e)) (he : P.underlying e = some (.struct #[f0, f1])) (ce : P.cellsOf e = 2) (o0 : f0.offset = 0) (o1 : f1.offset = 1) (c0 : P.cellsOf f0.type = 1) (c1 : P.cellsOf f1.type = 1)
    (t0 : P.underlying f0.type = some .string) (t1 : P.underlying f1.type = some (.slice u)) (tu : P.underlying u = some (.slice v)) (cu : P.cellsOf u = 1) (tv : P.underlying v = some (.int .u8)) (cv : P.cellsOf v = 1)
    (hf : DataW.trod enc P W base (fun _ => true) true fuel t (Value.slice a len cap).cells.toList = some (d, p)) : ∃ l : List Tp, Tps W (.slice a len cap) l ∧ TpD d l := by
  rcases open_slice ht hf with ⟨hcs, hd⟩ | ⟨x, n, c, m, k, D, Pl, hcs, _, hl, hm, hmm, hx, hel⟩
  · simp [Value.cells] at hcs
    obtain ⟨rfl, rfl, rfl⟩ := hcs
    exact ⟨[], ⟨_, _, rfl, Nat.le_refl _, fun h => absurd h (by decide)⟩, .inl ⟨(Prod.mk.inj hd).1, rfl⟩⟩
  · simp [Value.cells] at hcs
    obtain ⟨rfl, rfl, rfl⟩ := hcs
    simp only [if_true] at hmm
    subst hmm
    have each : ∀ i, i < len → ∃ s : Tp, ∃ va vc, (∃ x0 d1, D i = .agg [x0, d1] ∧ LnD d1 s.2) ∧
        W.cell? ((x.add (i * 2)).add 0) = some (.string s.1) ∧ W.cell? ((x.add (i * 2)).add 1) = some (.slice va s.2.length vc) ∧ Lns W (.slice va s.2.length vc) s.2 ∧ s.1.size ≤ maxLen := by
      intro i hi
      obtain ⟨cs', h1, h2⟩ := hel i (by omega)
      rw [ce] at h1
      obtain ⟨_, hlen, hcell⟩ := World.cells?_some h1
      obtain ⟨s, va, vc, d1, rfl, hb, ⟨x0, hD⟩, hO⟩ := typed_cells he ce o0 o1 c0 c1 t0 t1 tu cu tv cv h2
      exact ⟨s, va, vc, ⟨x0, d1, hD, hO⟩, by simpa using hcell 0 (by omega), by simpa using hcell 1 (by omega), hb⟩
    obtain ⟨s, hs⟩ := choose_lt each
    refine ⟨(List.range len).map s, ⟨some x, m, by simp, by simpa using hl, fun h0 => ?_⟩, .inr ⟨_, _, (Prod.mk.inj hx).1, by simp, fun i hi => ?_⟩⟩
    · have h0' : 0 < len := by simpa using h0
      obtain ⟨b, off, spot⟩ := x
      obtain ⟨_, _, _, q0, _⟩ := hs 0 h0'
      have hspot : spot = none := by simpa [Addr.add] using World.cell?_spot q0
      subst hspot
      refine ⟨b, off, rfl, fun j hj => ?_⟩
      have hj' : j < len := by simpa using hj
      obtain ⟨va, vc, _, q0, q1, hb⟩ := hs j hj'
      have hadd : ∀ o k, (⟨b, o, none⟩ : Addr).add k = ⟨b, o + k, none⟩ := fun o k => by unfold Addr.add; split <;> simp_all
      rw [hadd, hadd] at q0 q1
      simp only [List.getElem_map, List.getElem_range]
      exact ⟨va, vc, by simpa using q0, q1, hb⟩
    · have hi' : i < len := by simpa using hi
      obtain ⟨va, vc, ⟨x0, d1, hD, hO⟩, _⟩ := hs i hi'
      refine ⟨x0, d1, ?_, by simpa using hO⟩
      rw [← hD]
      exact List.mem_map.2 ⟨i, by simpa using hi', rfl⟩

/-- How faults inside a datum are told. -/
def FlD {H : Type} (d : DataW H) (l : List Fault) : Prop := (d = .nil ∧ l = []) ∨ ∃ elems spare : List (DataW H), d = .slice elems spare ∧ l.length = elems.length
theorem faults_small {H : Type} {P : Program} {t e : TypeId} {d : DataW H} {l : List Fault} (h : Small P t d) (hu : P.underlying t = some (.slice e)) (be : P.bytesOf e = 16) (hO : FlD d l) : l.length * 16 ≤ 140737488351232 := by
  rcases hO with ⟨_, rfl⟩ | ⟨es, sp, rfl, hl⟩
  · simp
  · have := (h.slice hu).1
    rw [be] at this
    simp only [reachBytes] at this
    omega

/-- A setup: files, terminals, faults. -/
theorem setup_cells {H : Type} {enc : TypeId × Value → H} {P : Program} {W : World} {base : Nat} {fuel e : Nat} {f0 f1 f2 : Field} {cs : List Value} {d : DataW H} {p : List MemPlace}
    (he : P.underlying e = some (.struct #[f0, f1, f2])) (ce : P.cellsOf e = 3) (o0 : f0.offset = 0) (o1 : f1.offset = 1) (o2 : f2.offset = 2) (c0 : P.cellsOf f0.type = 1) (c1 : P.cellsOf f1.type = 1) (c2 : P.cellsOf f2.type = 1)
    {n0 n1 n2 : Nat} (t0 : P.underlying f0.type = some (.slice n0)) (t1 : P.underlying f1.type = some (.slice n1)) (t2 : P.underlying f2.type = some (.slice n2))
    (h : DataW.trod enc P W base (fun _ => true) true fuel e cs = some (d, p)) :
    ∃ a0 l0 k0 a1 l1 k1 a2 l2 k2 d0 d1 d2 fl q0 q1 q2, cs = [.slice a0 l0 k0, .slice a1 l1 k1, .slice a2 l2 k2] ∧ d = .agg [d0, d1, d2] ∧
      DataW.trod enc P W base (fun _ => true) true fl f0.type (Value.slice a0 l0 k0).cells.toList = some (d0, q0) ∧ DataW.trod enc P W base (fun _ => true) true fl f1.type (Value.slice a1 l1 k1).cells.toList = some (d1, q1) ∧ DataW.trod enc P W base (fun _ => true) true fl f2.type (Value.slice a2 l2 k2).cells.toList = some (d2, q2) := by
  obtain ⟨xs, k, hk, hxy, hcl, hxl, hf⟩ := DataW.trod_struct he h
  rw [ce] at hcl
  match xs, hxl, cs, hcl with
  | [(d0, q0), (d1, q1), (d2, q2)], _, [v0, v1, v2], _ =>
    have g0 := hf 0 f0 rfl
    have g1 := hf 1 f1 rfl
    have g2 := hf 2 f2 rfl
    simp [o0, c0] at g0
    simp [o1, c1] at g1
    simp [o2, c2] at g2
    have sl : ∀ {t n v x}, P.underlying t = some (.slice n) → DataW.trod enc P W base (fun _ => true) true k t [v] = some x → ∃ va vl vc, v = .slice va vl vc := fun ht hg => by
      rcases DataW.trod_slice ht hg with ⟨h0, _⟩ | ⟨x, len, cap, _, _, _, _, h0, _⟩
      · exact ⟨_, _, _, by simpa using h0⟩
      · exact ⟨_, _, _, by simpa using h0⟩
    obtain ⟨a0, l0, k0, rfl⟩ := sl t0 g0
    obtain ⟨a1, l1, k1, rfl⟩ := sl t1 g1
    obtain ⟨a2, l2, k2, rfl⟩ := sl t2 g2
    simp only [Prod.mk.injEq] at hxy
    exact ⟨a0, l0, k0, a1, l1, k1, a2, l2, k2, d0, d1, d2, k, q0, q1, q2, rfl, by simpa using hxy.1, by simpa [Value.cells] using g0, by simpa [Value.cells] using g1, by simpa [Value.cells] using g2⟩

/-- A step of a kernel: what, name, three numbers, data. -/
structure KSt where
  what : Int
  name : ByteArray
  a : Int
  b : Int
  c : Int
  data : List UInt8
  deriving Inhabited
theorem kstep_cells {H : Type} {enc : TypeId × Value → H} {P : Program} {W : World} {base : Nat} {fuel e u : Nat} {f0 f1 f2 f3 f4 f5 : Field} {cs : List Value} {d : DataW H} {p : List MemPlace}
    (he : P.underlying e = some (.struct #[f0, f1, f2, f3, f4, f5])) (ce : P.cellsOf e = 6) (o0 : f0.offset = 0) (o1 : f1.offset = 1) (o2 : f2.offset = 2) (o3 : f3.offset = 3) (o4 : f4.offset = 4) (o5 : f5.offset = 5)
    (c0 : P.cellsOf f0.type = 1) (c1 : P.cellsOf f1.type = 1) (c2 : P.cellsOf f2.type = 1) (c3 : P.cellsOf f3.type = 1) (c4 : P.cellsOf f4.type = 1) (c5 : P.cellsOf f5.type = 1)
    (t0 : P.underlying f0.type = some (.int .i64)) (t1 : P.underlying f1.type = some .string) (t2 : P.underlying f2.type = some (.int .i64)) (t3 : P.underlying f3.type = some (.int .i64)) (t4 : P.underlying f4.type = some (.int .i64)) (t5 : P.underlying f5.type = some (.slice u)) (tu : P.underlying u = some (.int .u8)) (cu : P.cellsOf u = 1)
    (h : DataW.trod enc P W base (fun _ => true) true fuel e cs = some (d, p)) :
    ∃ (x : KSt) (va : Option Addr) (vc : Nat) (d5 : DataW H), cs = [.int .i64 x.what, .string x.name, .int .i64 x.a, .int .i64 x.b, .int .i64 x.c, .slice va x.data.length vc] ∧ (Bys W (.slice va x.data.length vc) x.data ∧ x.data.length ≤ vc ∧ x.name.size ≤ maxLen ∧ I64 x.a ∧ I64 x.b ∧ I64 x.c) ∧ (∃ x0 x1 x2 x3 x4, d = .agg [x0, x1, x2, x3, x4, d5]) ∧ Kp_DataOf d5 x.data := by
  obtain ⟨xs, k, hk, hxy, hcl, hxl, hf⟩ := DataW.trod_struct he h
  rw [ce] at hcl
  match xs, hxl, cs, hcl with
  | [y0, y1, y2, y3, y4, y5], _, [v0, v1, v2, v3, v4, v5], _ =>
    have g0 := hf 0 f0 rfl
    have g1 := hf 1 f1 rfl
    have g2 := hf 2 f2 rfl
    have g3 := hf 3 f3 rfl
    have g4 := hf 4 f4 rfl
    have g5 := hf 5 f5 rfl
    simp [o0, c0] at g0
    simp [o1, c1] at g1
    simp [o2, c2] at g2
    simp [o3, c3] at g3
    simp [o4, c4] at g4
    simp [o5, c5] at g5
    obtain ⟨a, ha, _⟩ := DataW.trod_int t0 g0
    obtain ⟨nm, hnm, _, hsz⟩ := DataW.trod_string t1 g1
    obtain ⟨b, hb, _, wb⟩ := DataW.trod_int t2 g2
    obtain ⟨c, hc, _, wc⟩ := DataW.trod_int t3 g3
    obtain ⟨cc, hcc, _, wcc⟩ := DataW.trod_int t4 g4
    obtain rfl : v0 = .int .i64 a := by simpa using ha
    obtain rfl : v1 = .string nm := by simpa using hnm
    obtain rfl : v2 = .int .i64 b := by simpa using hb
    obtain rfl : v3 = .int .i64 c := by simpa using hc
    obtain rfl : v4 = .int .i64 cc := by simpa using hcc
    obtain ⟨va, vl, vc, rfl⟩ : ∃ va vl vc, v5 = .slice va vl vc := by
      rcases DataW.trod_slice t5 g5 with ⟨h0, _⟩ | ⟨x, len, cap, _, _, _, _, h0, _⟩
      · exact ⟨_, _, _, by simpa using h0⟩
      · exact ⟨_, _, _, by simpa using h0⟩
    obtain ⟨y5a, y5b⟩ := y5
    obtain ⟨l, hl, hlc, hd⟩ := bytes_arg2 t5 tu cu (by simpa [Value.cells] using g5)
    obtain rfl := Kp_bys_len hl
    simp only [Prod.mk.injEq] at hxy
    exact ⟨⟨a, nm, b, c, cc, l⟩, va, vc, y5a, rfl, ⟨hl, hlc, hsz, I64.of wb, I64.of wc, I64.of wcc⟩, ⟨_, _, _, _, _, by simpa using hxy.1⟩, hd⟩
/-- The slice value v holds the steps l. -/
def KSts (W : World) (v : Value) (l : List KSt) : Prop :=
  ∃ a c, v = .slice a l.length c ∧ (0 < l.length → ∃ b off, a = some ⟨b, off, none⟩ ∧ ∀ j (hj : j < l.length), ∃ va vc,
    W.cell? ⟨b, off + j * 6, none⟩ = some (.int .i64 l[j].what) ∧ W.cell? ⟨b, off + j * 6 + 1, none⟩ = some (.string l[j].name) ∧ W.cell? ⟨b, off + j * 6 + 2, none⟩ = some (.int .i64 l[j].a) ∧ W.cell? ⟨b, off + j * 6 + 3, none⟩ = some (.int .i64 l[j].b) ∧ W.cell? ⟨b, off + j * 6 + 4, none⟩ = some (.int .i64 l[j].c) ∧
    W.cell? ⟨b, off + j * 6 + 5, none⟩ = some (.slice va l[j].data.length vc) ∧ Bys W (.slice va l[j].data.length vc) l[j].data ∧ l[j].data.length ≤ vc ∧ l[j].name.size ≤ maxLen ∧ I64 l[j].a ∧ I64 l[j].b ∧ I64 l[j].c)
def KStD {H : Type} (d : DataW H) (l : List KSt) : Prop := (d = .nil ∧ l = []) ∨ ∃ elems spare : List (DataW H), d = .slice elems spare ∧ l.length = elems.length ∧ ∀ i (hi : i < l.length), ∃ x0 x1 x2 x3 x4 d5, DataW.agg [x0, x1, x2, x3, x4, d5] ∈ elems ∧ Kp_DataOf d5 l[i].data
theorem ksteps_small {H : Type} {P : Program} {t e u : TypeId} {f0 f1 f2 f3 f4 f5 : Field} {d : DataW H} {l : List KSt} (h : Small P t d) (hu : P.underlying t = some (.slice e)) (be : P.bytesOf e = 72) (he : P.underlying e = some (.struct #[f0, f1, f2, f3, f4, f5])) (t5 : P.underlying f5.type = some (.slice u)) (bu : P.bytesOf u = 1) (hO : KStD d l) : l.length * 72 ≤ 140737488351232 ∧ ∀ i (hi : i < l.length), l[i].data.length ≤ 140737488351232 := by
  rcases hO with ⟨_, rfl⟩ | ⟨es, sp, rfl, hl, hel⟩
  · exact ⟨by simp, fun i hi => absurd hi (by simp)⟩
  · obtain ⟨h1, h2⟩ := h.slice hu
    rw [be] at h1
    simp only [reachBytes] at h1
    refine ⟨by omega, fun i hi => ?_⟩
    obtain ⟨x0, x1, x2, x3, x4, d5, hm, hO⟩ := hel i hi
    exact bytes_small ((h2 _ hm).fields he 5 f5 d5 rfl rfl) t5 bu hO
theorem ksts_arg {H : Type} {enc : TypeId × Value → H} {P : Program} {W : World} {base : Nat} {a : Option Addr} {len cap fuel t e u : Nat} {f0 f1 f2 f3 f4 f5 : Field} {d : DataW H} {p : List MemPlace}
    (ht : P.underlying t = some (.slice e)) (he : P.underlying e = some (.struct #[f0, f1, f2, f3, f4, f5])) (ce : P.cellsOf e = 6) (o0 : f0.offset = 0) (o1 : f1.offset = 1) (o2 : f2.offset = 2) (o3 : f3.offset = 3) (o4 : f4.offset = 4) (o5 : f5.offset = 5)
    (c0 : P.cellsOf f0.type = 1) (c1 : P.cellsOf f1.type = 1) (c2 : P.cellsOf f2.type = 1) (c3 : P.cellsOf f3.type = 1) (c4 : P.cellsOf f4.type = 1) (c5 : P.cellsOf f5.type = 1)
    (t0 : P.underlying f0.type = some (.int .i64)) (t1 : P.underlying f1.type = some .string) (t2 : P.underlying f2.type = some (.int .i64)) (t3 : P.underlying f3.type = some (.int .i64)) (t4 : P.underlying f4.type = some (.int .i64)) (t5 : P.underlying f5.type = some (.slice u)) (tu : P.underlying u = some (.int .u8)) (cu : P.cellsOf u = 1)
    (hf : DataW.trod enc P W base (fun _ => true) true fuel t (Value.slice a len cap).cells.toList = some (d, p)) : ∃ l : List KSt, KSts W (.slice a len cap) l ∧ KStD d l := by
  rcases open_slice ht hf with ⟨hcs, hd⟩ | ⟨x, n, c, m, k, D, Pl, hcs, _, hl, hm, hmm, hx, hel⟩
  · simp [Value.cells] at hcs
    obtain ⟨rfl, rfl, rfl⟩ := hcs
    exact ⟨[], ⟨_, _, rfl, fun h => absurd h (by decide)⟩, .inl ⟨(Prod.mk.inj hd).1, rfl⟩⟩
  · simp [Value.cells] at hcs
    obtain ⟨rfl, rfl, rfl⟩ := hcs
    simp only [if_true] at hmm
    subst hmm
    have each : ∀ i, i < len → ∃ s : KSt, ∃ va vc, (∃ x0 x1 x2 x3 x4 d5, D i = .agg [x0, x1, x2, x3, x4, d5] ∧ Kp_DataOf d5 s.data) ∧
        W.cell? ((x.add (i * 6)).add 0) = some (.int .i64 s.what) ∧ W.cell? ((x.add (i * 6)).add 1) = some (.string s.name) ∧ W.cell? ((x.add (i * 6)).add 2) = some (.int .i64 s.a) ∧ W.cell? ((x.add (i * 6)).add 3) = some (.int .i64 s.b) ∧ W.cell? ((x.add (i * 6)).add 4) = some (.int .i64 s.c) ∧ W.cell? ((x.add (i * 6)).add 5) = some (.slice va s.data.length vc) ∧ Bys W (.slice va s.data.length vc) s.data ∧ s.data.length ≤ vc ∧ s.name.size ≤ maxLen ∧ I64 s.a ∧ I64 s.b ∧ I64 s.c := by
      intro i hi
      obtain ⟨cs', h1, h2⟩ := hel i (by omega)
      rw [ce] at h1
      obtain ⟨_, hlen, hcell⟩ := World.cells?_some h1
      obtain ⟨s, va, vc, d5, rfl, hb, ⟨x0, x1, x2, x3, x4, hD⟩, hO⟩ := kstep_cells he ce o0 o1 o2 o3 o4 o5 c0 c1 c2 c3 c4 c5 t0 t1 t2 t3 t4 t5 tu cu h2
      exact ⟨s, va, vc, ⟨x0, x1, x2, x3, x4, d5, hD, hO⟩, by simpa using hcell 0 (by omega), by simpa using hcell 1 (by omega), by simpa using hcell 2 (by omega), by simpa using hcell 3 (by omega), by simpa using hcell 4 (by omega), by simpa using hcell 5 (by omega), hb⟩
    obtain ⟨s, hs⟩ := choose_lt each
    refine ⟨(List.range len).map s, ⟨some x, m, by simp, fun h0 => ?_⟩, .inr ⟨_, _, (Prod.mk.inj hx).1, by simp, fun i hi => ?_⟩⟩
    · have h0' : 0 < len := by simpa using h0
      obtain ⟨b, off, spot⟩ := x
      obtain ⟨_, _, _, q0, _⟩ := hs 0 h0'
      have hspot : spot = none := by simpa [Addr.add] using World.cell?_spot q0
      subst hspot
      refine ⟨b, off, rfl, fun j hj => ?_⟩
      have hj' : j < len := by simpa using hj
      obtain ⟨va, vc, _, q0, q1, q2, q3, q4, q5, hb⟩ := hs j hj'
      have hadd : ∀ o k, (⟨b, o, none⟩ : Addr).add k = ⟨b, o + k, none⟩ := fun o k => by unfold Addr.add; split <;> simp_all
      rw [hadd, hadd] at q0 q1 q2 q3 q4 q5
      simp only [List.getElem_map, List.getElem_range]
      exact ⟨va, vc, by simpa using q0, q1, q2, q3, q4, q5, hb⟩
    · have hi' : i < len := by simpa using hi
      obtain ⟨va, vc, ⟨x0, x1, x2, x3, x4, d5, hD, hO⟩, _⟩ := hs i hi'
      refine ⟨x0, x1, x2, x3, x4, d5, ?_, by simpa using hO⟩
      rw [← hD]
      exact List.mem_map.2 ⟨i, by simpa using hi', rfl⟩
/-- Step j of the steps l, in any later world. -/
theorem ksts_at {W W' : World} {a : Option Addr} {n c : Nat} {l : List KSt} (h : KSts W (.slice a n c) l) (hB : Below W.heap.size W W') (j : Nat) (hj : j < l.length) :
    ∃ b off va vc, a = some ⟨b, off, none⟩ ∧ b < W.heap.size ∧ W'.cell? ⟨b, off + j * 6, none⟩ = some (.int .i64 l[j].what) ∧ W'.cell? ⟨b, off + j * 6 + 1, none⟩ = some (.string l[j].name) ∧ W'.cell? ⟨b, off + j * 6 + 2, none⟩ = some (.int .i64 l[j].a) ∧ W'.cell? ⟨b, off + j * 6 + 3, none⟩ = some (.int .i64 l[j].b) ∧
      W'.cell? ⟨b, off + j * 6 + 4, none⟩ = some (.int .i64 l[j].c) ∧ W'.cell? ⟨b, off + j * 6 + 5, none⟩ = some (.slice va l[j].data.length vc) ∧ Bys W (.slice va l[j].data.length vc) l[j].data ∧ l[j].data.length ≤ vc ∧ l[j].name.size ≤ maxLen ∧ I64 l[j].a ∧ I64 l[j].b ∧ I64 l[j].c := by
  obtain ⟨a', c', he, hc⟩ := h
  cases he
  obtain ⟨b, off, rfl, hd⟩ := hc (by omega)
  obtain ⟨va, vc, h0, h1, h2, h3, h4, h5, h6, h7⟩ := hd j hj
  have hb := World.block_lt_of_cell? W _ h0
  exact ⟨b, off, va, vc, rfl, hb, (hB.cell (p := ⟨b, off + j * 6, none⟩) hb).trans h0, (hB.cell (p := ⟨b, off + j * 6 + 1, none⟩) hb).trans h1, (hB.cell (p := ⟨b, off + j * 6 + 2, none⟩) hb).trans h2, (hB.cell (p := ⟨b, off + j * 6 + 3, none⟩) hb).trans h3, (hB.cell (p := ⟨b, off + j * 6 + 4, none⟩) hb).trans h4, (hB.cell (p := ⟨b, off + j * 6 + 5, none⟩) hb).trans h5, h6, h7⟩
end Go.Proofs.YtkkicbhmcjbmbaaGreat

/- A law's setup, copied for the program; how far a kernel's numbers go up by a call. -/
namespace Go.Proofs.YtkkicbhmcjbmbaaGreat
open Go.RowKit Go.Maps

theorem nms_of_owns {W : World} {B B' : Nat} {v : Value} {l : List Nm} {us : List Value} (h : W.ownsRow B 93 2 v l.length (ncs l us)) (hc : LCells W B' (l.map Prod.snd) us) (hs : ∀ j (hj : j < l.length), l[j].1.size ≤ maxLen) : Nms W v l := by
  have hl : us.length = l.length := by have := hc.1; simpa using this
  rcases h.2 with ⟨rfl, h0⟩ | ⟨g, cap, cur, rfl, _, _, hcap, _⟩
  · rw [List.length_eq_zero_iff.1 h0]
    exact ⟨_, _, rfl, Nat.le_refl _, fun h => absurd h (by decide)⟩
  · refine ⟨_, cap, rfl, hcap, fun _ => ⟨g, 0, rfl, fun j hj => ?_⟩⟩
    obtain ⟨u, h1, h2⟩ := hc.2.1 j (by simpa using hj)
    simp only [List.getElem_map] at h2
    obtain ⟨e1, e2⟩ := ncs_get l us j hj hl
    have hcp := h2.2
    obtain ⟨a, c, rfl⟩ := owns_slice h2
    refine ⟨a, c, by rw [Nat.zero_add, h.cellAt (j * 2) (by omega)]; exact e1, by rw [Nat.zero_add, h.cellAt (j * 2 + 1) (by omega), e2]; exact h1, Bys.of_owns h2, ?_, hs j hj⟩
    rcases hcp with ⟨e, e'⟩ | ⟨_, _, _, e, _, _, e', _⟩
    · simp only [Value.slice.injEq] at e; omega
    · simp only [Value.slice.injEq] at e; omega
theorem tps_of_owns {W : World} {B B' : Nat} {v : Value} {l : List Tp} {us : List Value} (h : W.ownsRow B 98 2 v l.length (ncs l us)) (hl : us.length = l.length) (hc : ∀ j (hj : j < l.length), ∃ u, us[j]? = some u ∧ TC W B' l[j].2 u) (hs : ∀ j (hj : j < l.length), l[j].1.size ≤ maxLen) : Tps W v l := by
  rcases h.2 with ⟨rfl, h0⟩ | ⟨g, cap, cur, rfl, _, _, hcap, _⟩
  · rw [List.length_eq_zero_iff.1 h0]
    exact ⟨_, _, rfl, Nat.le_refl _, fun h => absurd h (by decide)⟩
  · refine ⟨_, cap, rfl, hcap, fun _ => ⟨g, 0, rfl, fun j hj => ?_⟩⟩
    obtain ⟨u, h1, xs, h2, h3⟩ := hc j hj
    obtain ⟨e1, e2⟩ := ncs_get l us j hj hl
    have hL := h3.lns rfl h2
    obtain ⟨a, c, rfl⟩ := owns_slice h2
    exact ⟨a, c, by rw [Nat.zero_add, h.cellAt (j * 2) (by omega)]; exact e1, by rw [Nat.zero_add, h.cellAt (j * 2 + 1) (by omega), e2]; exact h1, hL, hs j hj⟩
theorem nms_sizes {W : World} {v : Value} {l : List Nm} (h : Nms W v l) : ∀ j (hj : j < l.length), l[j].1.size ≤ maxLen := fun j hj => by
  obtain ⟨a, c, rfl, _, hd⟩ := h
  obtain ⟨b, off, _, hd⟩ := hd (by omega)
  obtain ⟨_, _, _, _, _, _, e⟩ := hd j hj
  exact e
theorem tps_sizes {W : World} {v : Value} {l : List Tp} (h : Tps W v l) : ∀ j (hj : j < l.length), l[j].1.size ≤ maxLen := fun j hj => by
  obtain ⟨a, c, rfl, _, hd⟩ := h
  obtain ⟨b, off, _, hd⟩ := hd (by omega)
  obtain ⟨_, _, _, _, _, e⟩ := hd j hj
  exact e

theorem LCells.turned {S : Nat → Prop} {W W' : World} {B : Nat} {ls : List (List UInt8)} {xs : List Value} (h : LCells W B ls xs) (hT : Turned S W W') (hS : ∀ k, B ≤ k → ¬ S k) : LCells W' B ls xs :=
  h.keep fun j hj v k h1 e => by
    obtain ⟨v', h2, h3⟩ := h.2.1 j hj
    rw [h1] at h2
    cases h2
    exact hT.block k (h3.lt k e).2 (hS k (h3.lt k e).1)
theorem TC.turned {S : Nat → Prop} {W W' : World} {B : Nat} {ls : List (List UInt8)} {u : Value} (h : TC W B ls u) (hT : Turned S W W') (hS : ∀ k, B ≤ k → ¬ S k) : TC W' B ls u := by
  obtain ⟨xs, h1, h2⟩ := h
  exact ⟨xs, owns_turned h1 hT (fun k e => hS k (h1.lt k e).1), h2.turned hT hS⟩
/-- A kernel's numbers go up by no more than a call may bring. -/
def KLe (K K' : KS) : Prop := K'.next ≤ K.next + 2 ∧ K'.reads ≤ K.reads + 1 ∧ K'.writes ≤ K.writes + 1
theorem KLe.refl (K : KS) : KLe K K := ⟨by omega, by omega, by omega⟩
theorem cut_same (K : KS) (i : Nat) (f : Int) : (K.cut i f).next = K.next ∧ (K.cut i f).reads = K.reads ∧ (K.cut i f).writes = K.writes := by
  unfold KS.cut
  split
  · split
    · exact ⟨rfl, rfl, rfl⟩
    · exact ⟨rfl, rfl, rfl⟩
  · exact ⟨rfl, rfl, rfl⟩
theorem kle_open (K : KS) (s : ByteArray) (f : Int) : KLe K (K.open s f).2.2 := by
  unfold KS.open
  split
  · exact KLe.refl K
  split
  · exact KLe.refl K
  split
  · exact KLe.refl K
  split
  · rename_i i _
    split
    · obtain ⟨e1, e2, e3⟩ := cut_same K i f
      refine ⟨?_, ?_, ?_⟩
      · show (K.cut i f).next + 1 ≤ _; omega
      · show (K.cut i f).reads ≤ _; omega
      · show (K.cut i f).writes ≤ _; omega
    · exact KLe.refl K
  · split
    · exact KLe.refl K
    split
    · exact KLe.refl K
    · refine ⟨?_, ?_, ?_⟩
      · show K.next + 1 ≤ _; omega
      · show K.reads ≤ _; omega
      · show K.writes ≤ _; omega
theorem kle_pipe (K : KS) : KLe K K.pipe.2.2.2 := by
  unfold KS.pipe
  split
  · exact KLe.refl K
  · refine ⟨?_, ?_, ?_⟩
    · show K.next + 1 + 1 ≤ _; omega
    · show K.reads ≤ _; omega
    · show K.writes ≤ _; omega
theorem kle_read (K : KS) (d n : Int) : KLe K (K.read d n).2.2 := by
  have up : ∀ (K' : KS), K'.next = K.next → K'.reads = K.reads + 1 → K'.writes = K.writes → KLe K K' := fun K' a b c => ⟨by omega, by omega, by omega⟩
  unfold KS.read
  split
  · exact KLe.refl K
  split
  · exact KLe.refl K
  split
  · exact KLe.refl K
  split
  · exact KLe.refl K
  split
  · exact KLe.refl K
  split
  · split
    · exact up _ rfl rfl rfl
    · exact up _ rfl rfl rfl
    · exact up _ rfl rfl rfl
  · exact up _ rfl rfl rfl
theorem kle_write (K : KS) (d : Int) (b : List UInt8) : KLe K (K.write d b).2.2 := by
  have up : ∀ (K' : KS), K'.next = K.next → K'.reads = K.reads → K'.writes = K.writes + 1 → KLe K K' := fun K' a b c => ⟨by omega, by omega, by omega⟩
  unfold KS.write
  split
  · exact KLe.refl K
  split
  · exact KLe.refl K
  split
  · exact KLe.refl K
  split
  · exact KLe.refl K
  split
  · split
    · split
      · exact up _ rfl rfl rfl
      · exact up _ rfl rfl rfl
      · exact up _ rfl rfl rfl
    · exact up _ rfl rfl rfl
  · exact KLe.refl K
theorem kle_keep (K : KS) (d : Int) : KLe K (K.keepK d) := by
  unfold KS.keepK
  split
  · exact KLe.refl K
  split
  · exact KLe.refl K
  · exact KLe.refl K
theorem kle_drop (K : KS) (d : Int) : KLe K (K.dropK d) := by
  unfold KS.dropK
  split
  · exact KLe.refl K
  split
  · exact KLe.refl K
  split
  · exact KLe.refl K
  · exact KLe.refl K
theorem new_nums (fs : List Nm) (ts : List Tp) (l : List Fault) : (KS.new fs ts l).next = 1 ∧ (KS.new fs ts l).reads = 0 ∧ (KS.new fs ts l).writes = 0 := by
  unfold KS.new
  have h1 : ∀ (fs : List Nm) (K : KS), (fs.foldl (fun K f => K.addTh ⟨f.1, .file f.2⟩) K).next = K.next ∧ (fs.foldl (fun K f => K.addTh ⟨f.1, .file f.2⟩) K).reads = K.reads ∧ (fs.foldl (fun K f => K.addTh ⟨f.1, .file f.2⟩) K).writes = K.writes := by
    intro fs
    induction fs with
    | nil => exact fun K => ⟨rfl, rfl, rfl⟩
    | cons f r ih => exact fun K => ih (K.addTh ⟨f.1, .file f.2⟩)
  have h2 : ∀ (ts : List Tp) (K : KS), (ts.foldl (fun K t => K.addTh ⟨t.1, .term t.2 []⟩) K).next = K.next ∧ (ts.foldl (fun K t => K.addTh ⟨t.1, .term t.2 []⟩) K).reads = K.reads ∧ (ts.foldl (fun K t => K.addTh ⟨t.1, .term t.2 []⟩) K).writes = K.writes := by
    intro ts
    induction ts with
    | nil => exact fun K => ⟨rfl, rfl, rfl⟩
    | cons f r ih => exact fun K => ih (K.addTh ⟨f.1, .term f.2 []⟩)
  obtain ⟨a1, a2, a3⟩ := h2 ts (fs.foldl (fun K f => K.addTh ⟨f.1, .file f.2⟩) (KS.nought l))
  obtain ⟨b1, b2, b3⟩ := h1 fs (KS.nought l)
  exact ⟨a1.trans b1, a2.trans b2, a3.trans b3⟩

theorem trip_cells (w : World) (x y z : Value) (t : TypeId) : (w.alloc (Obj.cells #[x, y, z] t)).cell? ⟨w.heap.size, 0, none⟩ = some x ∧ (w.alloc (Obj.cells #[x, y, z] t)).cell? ⟨w.heap.size, 1, none⟩ = some y ∧ (w.alloc (Obj.cells #[x, y, z] t)).cell? ⟨w.heap.size, 2, none⟩ = some z := by
  have h := heap_alloc_new w (Obj.cells ([x, y, z] : List Value).toArray t)
  refine ⟨?_, ?_, ?_⟩ <;> (rw [cell_of_row _ _ _ _ _ _ h]; rfl)
set_option maxRecDepth 100000 in
set_option maxHeartbeats 2000000 in
theorem config_any (a1 a2 a3 : Option Addr) (c1 c2 c3 : Nat) (fs : List Nm) (ts : List Tp) (l : List Fault) (w : World) (h1 : Nms w (.slice a1 fs.length c1) fs) (h2 : Tps w (.slice a2 ts.length c2) ts) (h3 : Flts w (.slice a3 l.length c3) l)
    (z1 : fs.length * 40 ≤ 140737488351232 ∧ ∀ j (hj : j < fs.length), fs[j].2.length ≤ 140737488351232) (z2 : ts.length * 40 ≤ 140737488351232 ∧ ∀ j (hj : j < ts.length), ts[j].2.length * 24 ≤ 140737488351232 ∧ ∀ i (hi : i < ts[j].2.length), ts[j].2[i].length ≤ 140737488351232) (z3 : l.length * 16 ≤ 140737488351232) :
    Calls Tryz.prog 6 #[.agg #[.slice a1 fs.length c1, .slice a2 ts.length c2, .slice a3 l.length c3]] w fun e w' => ∃ b1 d1 b2 d2 b3 d3, e = .returned (.agg #[.slice b1 fs.length d1, .slice b2 ts.length d2, .slice b3 l.length d3]) ∧ Nms w' (.slice b1 fs.length d1) fs ∧ Tps w' (.slice b2 ts.length d2) ts ∧ Flts w' (.slice b3 l.length d3) l ∧ Below w.heap.size w w' := by
  have H1 := hide h1
  have H2 := hide h2
  have H3 := hide h3
  have Z1 := hide z1
  have Z2 := hide z2
  have Z3 := hide z3
  have hB0 := recv_below w (Obj.cells #[.slice a1 fs.length c1, .slice a2 ts.length c2, .slice a3 l.length c3] 26)
  have HB0 := hide hB0
  clear h1 h2 h3 z1 z2 z3 hB0
  obtain ⟨q0, q1, q2⟩ := trio_cells w (.slice a1 fs.length c1) (.slice a2 ts.length c2) (.slice a3 l.length c3) 26
  go_enter Tryz.func6, Tryz.ntmps6
  go_wp2_with fail
  have hBx := HB0.out
  have hsx := hBx.size
  have hwz : (w.alloc (Obj.cells #[Value.slice a1 fs.length c1, Value.slice a2 ts.length c2, Value.slice a3 l.length c3] 26)).heap.size = w.heap.size + 1 := by simp
  generalize hwx : w.alloc (Obj.cells #[Value.slice a1 fs.length c1, Value.slice a2 ts.length c2, Value.slice a3 l.length c3] 26) = wx at *
  have hlt : w.heap.size < wx.heap.size := World.block_lt_of_cell? wx _ q0
  have hBy := recv_below wx (Obj.cells #[Value.slice none 0 0, Value.slice none 0 0, Value.slice none 0 0] 28)
  have k0 := (hBy.cell (p := ⟨w.heap.size, 0, none⟩) hlt).trans q0
  have k1 := (hBy.cell (p := ⟨w.heap.size, 1, none⟩) hlt).trans q1
  have k2 := (hBy.cell (p := ⟨w.heap.size, 2, none⟩) hlt).trans q2
  obtain ⟨r0, r1, r2⟩ := trio_cells wx (.slice none 0 0) (.slice none 0 0) (.slice none 0 0) 28
  generalize hwy : wx.alloc (Obj.cells #[Value.slice none 0 0, Value.slice none 0 0, Value.slice none 0 0] 28) = wy at *
  have hlt2 : w.heap.size < wy.heap.size := World.block_lt_of_cell? wy _ k0
  have hlr : wx.heap.size < wy.heap.size := World.block_lt_of_cell? wy _ r0
  have hBwy : Below w.heap.size w wy := hBx.trans (hBy.mono hsx)
  have HByd := hide ((Below.refl w.heap.size w).trans hBwy).drew
  have HS : Hid (∀ W, Below wy.heap.size wy W → W.cell? ⟨w.heap.size, 0, none⟩ = some (.slice a1 fs.length c1) ∧ W.cell? ⟨w.heap.size, 1, none⟩ = some (.slice a2 ts.length c2) ∧ W.cell? ⟨w.heap.size, 2, none⟩ = some (.slice a3 l.length c3)) := hide (fun W hW =>
    ⟨(hW.cell hlt2).trans k0, (hW.cell hlt2).trans k1, (hW.cell hlt2).trans k2⟩)
  have f0 : wy.frozen? ⟨wx.heap.size, 0, none⟩ = false := by rw [← hwy]; simp only [World.frozen?, heap_alloc_new]; rfl
  have f1 : wy.frozen? ⟨wx.heap.size, 1, none⟩ = false := by rw [← hwy]; simp only [World.frozen?, heap_alloc_new]; rfl
  have f2 : wy.frozen? ⟨wx.heap.size, 2, none⟩ = false := by rw [← hwy]; simp only [World.frozen?, heap_alloc_new]; rfl
  have hnq : wx.heap.size ≠ w.heap.size := by omega
  have HFz : Hid (∀ W, Below wy.heap.size wy W → W.cell? ⟨wx.heap.size, 0, none⟩ = some (.slice none 0 0) ∧ W.cell? ⟨wx.heap.size, 1, none⟩ = some (.slice none 0 0) ∧ W.cell? ⟨wx.heap.size, 2, none⟩ = some (.slice none 0 0) ∧ W.frozen? ⟨wx.heap.size, 0, none⟩ = false ∧ W.frozen? ⟨wx.heap.size, 1, none⟩ = false ∧ W.frozen? ⟨wx.heap.size, 2, none⟩ = false) := hide (fun W hW =>
    ⟨(hW.cell hlr).trans r0, (hW.cell hlr).trans r1, (hW.cell hlr).trans r2, (hW.frozen hlr).trans f0, (hW.frozen hlr).trans f1, (hW.frozen hlr).trans f2⟩)
  rw [hwz] at HFz hnq
  clear k0 k1 k2 r0 r1 r2 f0 f1 f2 q0 q1 q2
  go_region_held3 (fun w' => w'.cell? ⟨w.heap.size, 0, none⟩ = some (.slice a1 fs.length c1) ∧ w'.cell? ⟨w.heap.size, 1, none⟩ = some (.slice a2 ts.length c2) ∧ w'.cell? ⟨w.heap.size, 2, none⟩ = some (.slice a3 l.length c3))
    (first | exact ⟨(World.cell?_setCell_far _ _ _ _ hnq).trans ((World.cell?_setCell_far _ _ _ _ hnq).trans ((World.cell?_setCell_far _ _ _ _ hnq).trans (HS.out _ h4).1)), (World.cell?_setCell_far _ _ _ _ hnq).trans ((World.cell?_setCell_far _ _ _ _ hnq).trans ((World.cell?_setCell_far _ _ _ _ hnq).trans (HS.out _ h4).2.1)), (World.cell?_setCell_far _ _ _ _ hnq).trans ((World.cell?_setCell_far _ _ _ _ hnq).trans ((World.cell?_setCell_far _ _ _ _ hnq).trans (HS.out _ h4).2.2))⟩ | exact HS.out _ h4 | exact HS.out _ h3 | exact HS.out _ (Below.refl _ _).drew | exact HS.out _ h2 | go_keep)
    (first | (go_at_call 39; refine (copyNamed_any _ fs _ (H1.out.below (by exact HByd.out)) Z1.out.1 Z1.out.2).mono ?_; rintro _ w2 ⟨v1, us1, rfl, hO1, hL1, hB2⟩; obtain ⟨b1, d1, rfl⟩ := owns_slice hO1; have h2 : Below wy.heap.size wy w2 := (Below.refl _ _).drew.trans hB2) | (go_at_call 40; refine (copyTyped_any _ ts _ (H2.out.below (HByd.out.trans (hB2.mono HByd.out.size))) Z2.out.1 Z2.out.2).mono ?_; rintro _ w3 ⟨v2, us2, rfl, hO2, hl2, hL2, hB3⟩; obtain ⟨b2, d2, rfl⟩ := owns_slice hO2; have h3 : Below wy.heap.size wy w3 := h2.trans (hB3.mono h2.size)) | (go_at_call 41; refine (copyf_any _ l _ (H3.out.below ((HByd.out.trans (hB2.mono HByd.out.size)).trans (hB3.mono (HByd.out.trans (hB2.mono HByd.out.size)).size))) Z3.out).mono ?_; rintro _ w4 ⟨v3, rfl, hO3, hB4⟩; obtain ⟨b3, d3, rfl⟩ := owns_slice hO3; have h4 : Below wy.heap.size wy w4 := h3.trans (hB4.mono h3.size); obtain ⟨r0, r1, r2, f0, f1, f2⟩ := HFz.out _ h4) | fail)
  have hrow : w4.heap[w.heap.size + 1]? = some (.cells #[.slice none 0 0, .slice none 0 0, .slice none 0 0] 28 (0, 0)) := by
    rw [← hwz, h4.block _ hlr, ← hwy]
    exact heap_alloc_new _ _
  have e0 := Go.heap_setCell_same w4 (w.heap.size + 1) 0 _ _ (.slice b1 fs.length d1) hrow
  have e1 := Go.heap_setCell_same _ (w.heap.size + 1) 1 _ _ (.slice b2 ts.length d2) e0
  have e2 := Go.heap_setCell_same _ (w.heap.size + 1) 2 _ _ (.slice b3 l.length d3) e1
  have hT5 : Turned (fun k => k = w.heap.size + 1) w4 (((w4.setCell ⟨w.heap.size + 1, 0, none⟩ (.slice b1 fs.length d1)).setCell ⟨w.heap.size + 1, 1, none⟩ (.slice b2 ts.length d2)).setCell ⟨w.heap.size + 1, 2, none⟩ (.slice b3 l.length d3)) := (((Turned.refl (fun k => k = w.heap.size + 1) w4).set (.inl rfl)).set (.inl rfl)).set (.inl rfl)
  have hB5 : Below w.heap.size w (((w4.setCell ⟨w.heap.size + 1, 0, none⟩ (.slice b1 fs.length d1)).setCell ⟨w.heap.size + 1, 1, none⟩ (.slice b2 ts.length d2)).setCell ⟨w.heap.size + 1, 2, none⟩ (.slice b3 l.length d3)) := ((((hBwy.trans (h4.mono (Nat.le_of_lt hlt2))).setCell (p := ⟨w.heap.size + 1, 0, none⟩) (Nat.le_succ _) _).setCell (p := ⟨w.heap.size + 1, 1, none⟩) (Nat.le_succ _) _).setCell (p := ⟨w.heap.size + 1, 2, none⟩) (Nat.le_succ _) _)
  generalize ((w4.setCell ⟨w.heap.size + 1, 0, none⟩ (.slice b1 fs.length d1)).setCell ⟨w.heap.size + 1, 1, none⟩ (.slice b2 ts.length d2)).setCell ⟨w.heap.size + 1, 2, none⟩ (.slice b3 l.length d3) = w5 at *
  have hdr : wy.drew.heap.size = wy.heap.size := rfl
  have far : ∀ k, wy.heap.size ≤ k → ¬ k = w.heap.size + 1 := fun k h e => by omega
  have hs2 := h2.size
  have hs3 := h3.size
  have hB24 := hB3.trans (hB4.mono hB3.size)
  have n1 := nms_of_owns (owns_turned (owns_below hO1 hB24) hT5 (fun k hk e => far k (by have := (hO1.lt k hk).1; omega) e)) ((hL1.below hB24).turned hT5 (fun k hk e => far k (by omega) e)) (nms_sizes H1.out)
  have n2 := tps_of_owns (owns_turned (owns_below hO2 hB4) hT5 (fun k hk e => far k (by have := (hO2.lt k hk).1; omega) e)) hl2 (fun j hj => by
    obtain ⟨u, g1, g2⟩ := hL2 j hj
    exact ⟨u, g1, (g2.below hB4).turned hT5 (fun k hk e => far k (by omega) e)⟩) (tps_sizes H2.out)
  have n3 := Flts.of_owns (owns_turned hO3 hT5 (fun k hk e => far k (by have := (hO3.lt k hk).1; omega) e))
  go_wp2
  refine bodyPost_ret (results_cell_row rfl _ _ (w.heap.size + 1) _ _ _ _ rfl e2 Tryz.underlying28 rfl (by kernel_rfl)) rfl ?_
  exact ⟨_, _, _, _, _, _, rfl, n1, n2, n3, hB5⟩
end Go.Proofs.YtkkicbhmcjbmbaaGreat

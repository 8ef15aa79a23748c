/- What the proof stands on, part 11: the contracts of the program's calls that it reaches. -/
import Derived.Test.YtdjddcmpffmehaaGreatKM10
import Derived.ChangeArms
import Derived.ChangeSlices
import Derived.SizedLaws
import Derived.Deep.Slices
import Derived.ProofKit
import Derived.OpenShut
import Derived.Deep.SlicePairs
/- Lines, and steps, that came in as an argument: what a walk is told of them. -/
namespace Go.Proofs.YtdjddcmpffmehaaGreat
open Go.ChangeShapes Go.WideShapes Go.ChangeAt Go.RowKit Go.Deep

/-- How a slice of bytes inside a datum is told. -/
def Te_DataOf {H : Type} (d : DataW H) (x : List UInt8) : Prop := (d = .nil ∧ x = []) ∨ ∃ elems spare : List (DataW H), d = .slice elems spare ∧ x.length = elems.length

theorem Te_bys_len {W : World} {a : Option Addr} {n c : Nat} {l : List UInt8} (h : Bys W (.slice a n c) l) : n = l.length := by
  obtain ⟨a', c', he, _⟩ := bys_form h
  cases he
  rfl

theorem lns_arg {H : Type} {enc : TypeId × Value → H} {P : Program} {W : World} {base : Nat} {a : Option Addr} {len cap fuel t e u : Nat} {d : DataW H} {p : List MemPlace}
    (ht : P.underlying t = some (.slice e)) (he : P.underlying e = some (.slice u)) (ce : P.cellsOf e = 1) (hu : P.underlying u = some (.int .u8)) (cu : P.cellsOf u = 1)
    (hf : DataW.trod enc P W base (fun _ => true) true fuel t (Value.slice a len cap).cells.toList = some (d, p)) :
    ∃ l : List (List UInt8), Lns W (.slice a len cap) l ∧ ((d = .nil ∧ l = []) ∨ ∃ elems spare : List (DataW H), d = .slice elems spare ∧ l.length = elems.length ∧ ∀ i (hi : i < l.length), ∃ di, di ∈ elems ∧ Te_DataOf di l[i]) := by
  rcases open_slice ht hf with ⟨hcs, hd⟩ | ⟨x, n, c, m, k, D, Pl, hcs, _, hl, hm, hmm, hx, hel⟩
  · simp [Value.cells] at hcs
    obtain ⟨rfl, rfl, rfl⟩ := hcs
    exact ⟨[], ⟨_, _, rfl, fun h => absurd h (by decide)⟩, .inl ⟨(Prod.mk.inj hd).1, rfl⟩⟩
  · simp [Value.cells] at hcs
    obtain ⟨rfl, rfl, rfl⟩ := hcs
    simp only [if_true] at hmm
    subst hmm
    have each : ∀ i, i < len → ∃ s : List UInt8, ∃ va vc, Te_DataOf (D i) s ∧ W.cell? ((x.add (i * 1)).add 0) = some (.slice va s.length vc) ∧ Bys W (.slice va s.length vc) s := by
      intro i hi
      obtain ⟨cs', h1, h2⟩ := hel i (by omega)
      rw [ce] at h1
      obtain ⟨_, hlen, hcell⟩ := World.cells?_some h1
      match cs', hlen with
      | [v0], _ =>
        obtain ⟨va, vl, vc, rfl⟩ : ∃ va vl vc, v0 = .slice va vl vc := by
          rcases DataW.trod_slice he h2 with ⟨h0, _⟩ | ⟨x, len, cap, _, _, _, _, h0, _⟩
          · exact ⟨_, _, _, by simpa using h0⟩
          · exact ⟨_, _, _, by simpa using h0⟩
        obtain ⟨s, hs, hO⟩ := bytes_arg he hu cu (by simpa [Value.cells] using h2)
        obtain rfl := Te_bys_len hs
        exact ⟨s, va, vc, hO, by simpa using hcell 0 (by simp), hs⟩
    obtain ⟨s, hs⟩ := choose_lt each
    refine ⟨(List.range len).map s, ⟨some x, m, by simp, fun h0 => ?_⟩, .inr ⟨_, _, (Prod.mk.inj hx).1, by simp, fun i hi => ?_⟩⟩
    · have h0' : 0 < len := by simpa using h0
      obtain ⟨b, off, spot⟩ := x
      obtain ⟨_, _, _, q0, _⟩ := hs 0 h0'
      have hspot : spot = none := by simpa [Addr.add] using World.cell?_spot q0
      subst hspot
      refine ⟨b, off, rfl, fun j hj => ?_⟩
      have hj' : j < len := by simpa using hj
      obtain ⟨va, vc, _, q0, hb⟩ := hs j hj'
      have hadd : ∀ o k, (⟨b, o, none⟩ : Addr).add k = ⟨b, o + k, none⟩ := fun o k => by unfold Addr.add; split <;> simp_all
      rw [hadd, hadd] at q0
      simp only [List.getElem_map, List.getElem_range]
      exact ⟨va, vc, by simpa using q0, hb⟩
    · have hi' : i < len := by simpa using hi
      obtain ⟨va, vc, hO, _⟩ := hs i hi'
      exact ⟨D i, List.mem_map.2 ⟨i, by simpa using hi', rfl⟩, by simpa using hO⟩

theorem Te_weightsAll_mem {H : Type} {P : Program} {e : TypeId} : ∀ {l : List (DataW H)} {d : DataW H}, d ∈ l → ∀ n ∈ d.weights P e, n ∈ DataW.weightsAll P e l
  | d' :: r, d, hd, n, hn => by
    simp only [DataW.weightsAll, List.mem_append]
    rcases List.mem_cons.1 hd with rfl | h
    · exact Or.inl hn
    · exact Or.inr (Te_weightsAll_mem h n hn)
theorem line_weight {H : Type} {P : Program} {e u : TypeId} {d : DataW H} {x : List UInt8} (he : P.underlying e = some (.slice u)) (bu : P.bytesOf u = 1) (hO : Te_DataOf d x) (h : ∀ n ∈ d.weights P e, n ≤ reachBytes) : x.length ≤ 140737488351232 := by
  rcases hO with ⟨_, rfl⟩ | ⟨elems, spare, rfl, hl⟩
  · simp
  · have := h ((elems.length + spare.length) * P.bytesOf u) (by simp [DataW.weights, he])
    rw [bu] at this
    simp only [reachBytes] at this
    omega
/-- The reach, of each line. -/
theorem sized_lines {H : Type} {P : Program} {ts : List TypeId} {ds : List (DataW H)} (h : (DataW.weightsEach P ts ds).all (· ≤ reachBytes) = true) {j : Nat} {t e u : TypeId} {d : DataW H} {elems spare : List (DataW H)} {x : List UInt8}
    (ht : ts[j]? = some t) (hd : ds[j]? = some (.slice elems spare)) (hu : P.underlying t = some (.slice e)) (hm : d ∈ elems) (he : P.underlying e = some (.slice u)) (bu : P.bytesOf u = 1) (hO : Te_DataOf d x) : x.length ≤ 140737488351232 :=
  line_weight he bu hO fun n hn => of_decide_eq_true (List.all_eq_true.1 h _ (DataW.weights_mem_each ht hd n (by
    simp only [DataW.weights, hu, List.mem_cons, List.mem_append]
    exact Or.inr (Or.inl (Te_weightsAll_mem hm n hn)))))

/-- A step: what, n, data. -/
abbrev Te_Stp := Int × Int × List UInt8
theorem Te_step_cells {H : Type} {enc : TypeId × Value → H} {P : Program} {W : World} {base : Nat} {fuel e u : Nat} {f0 f1 f2 : Field} {cs : List Value} {d : DataW H} {p : List MemPlace}
    (he : P.underlying e = some (.struct #[f0, f1, f2])) (ce : P.cellsOf e = 3) (o0 : f0.offset = 0) (o1 : f1.offset = 1) (o2 : f2.offset = 2)
    (c0 : P.cellsOf f0.type = 1) (c1 : P.cellsOf f1.type = 1) (c2 : P.cellsOf f2.type = 1)
    (t0 : P.underlying f0.type = some (.int .i64)) (t1 : P.underlying f1.type = some (.int .i64)) (t2 : P.underlying f2.type = some (.slice u)) (tu : P.underlying u = some (.int .u8)) (cu : P.cellsOf u = 1)
    (h : DataW.trod enc P W base (fun _ => true) true fuel e cs = some (d, p)) :
    ∃ (x : Te_Stp) (va : Option Addr) (vc : Nat) (d2 : DataW H), cs = [.int .i64 x.1, .int .i64 x.2.1, .slice va x.2.2.length vc] ∧ Bys W (.slice va x.2.2.length vc) x.2.2 ∧ (∃ x0 x1, d = .agg [x0, x1, d2]) ∧ Te_DataOf d2 x.2.2 := by
  obtain ⟨xs, k, hk, hxy, hcl, hxl, hf⟩ := DataW.trod_struct he h
  rw [ce] at hcl
  match xs, hxl, cs, hcl with
  | [y0, y1, y2], _, [v0, v1, v2], _ =>
    have g0 := hf 0 f0 rfl
    have g1 := hf 1 f1 rfl
    have g2 := hf 2 f2 rfl
    simp [o0, c0] at g0
    simp [o1, c1] at g1
    simp [o2, c2] at g2
    obtain ⟨a, ha, _⟩ := DataW.trod_int t0 g0
    obtain ⟨b, hb, _⟩ := DataW.trod_int t1 g1
    obtain rfl : v0 = .int .i64 a := by simpa using ha
    obtain rfl : v1 = .int .i64 b := by simpa using hb
    obtain ⟨va, vl, vc, rfl⟩ : ∃ va vl vc, v2 = .slice va vl vc := by
      rcases DataW.trod_slice t2 g2 with ⟨h0, _⟩ | ⟨x, len, cap, _, _, _, _, h0, _⟩
      · exact ⟨_, _, _, by simpa using h0⟩
      · exact ⟨_, _, _, by simpa using h0⟩
    obtain ⟨y2a, y2b⟩ := y2
    obtain ⟨l, hl, hd⟩ := bytes_arg t2 tu cu (by simpa [Value.cells] using g2)
    obtain rfl := Te_bys_len hl
    simp only [Prod.mk.injEq] at hxy
    exact ⟨(a, b, l), va, vc, y2a, rfl, hl, ⟨_, _, by simpa using hxy.1⟩, hd⟩

/-- The slice value v holds the steps l. -/
def Te_Stps (W : World) (v : Value) (l : List Te_Stp) : Prop :=
  ∃ a c, v = .slice a l.length c ∧ (0 < l.length → ∃ b off, a = some ⟨b, off, none⟩ ∧ ∀ j (hj : j < l.length), ∃ va vc,
    W.cell? ⟨b, off + j * 3, none⟩ = some (.int .i64 l[j].1) ∧ W.cell? ⟨b, off + j * 3 + 1, none⟩ = some (.int .i64 l[j].2.1) ∧ W.cell? ⟨b, off + j * 3 + 2, none⟩ = some (.slice va l[j].2.2.length vc) ∧ Bys W (.slice va l[j].2.2.length vc) l[j].2.2)

theorem Te_stps_arg {H : Type} {enc : TypeId × Value → H} {P : Program} {W : World} {base : Nat} {a : Option Addr} {len cap fuel t e u : Nat} {f0 f1 f2 : Field} {d : DataW H} {p : List MemPlace}
    (ht : P.underlying t = some (.slice e)) (he : P.underlying e = some (.struct #[f0, f1, f2])) (ce : P.cellsOf e = 3) (o0 : f0.offset = 0) (o1 : f1.offset = 1) (o2 : f2.offset = 2)
    (c0 : P.cellsOf f0.type = 1) (c1 : P.cellsOf f1.type = 1) (c2 : P.cellsOf f2.type = 1)
    (t0 : P.underlying f0.type = some (.int .i64)) (t1 : P.underlying f1.type = some (.int .i64)) (t2 : P.underlying f2.type = some (.slice u)) (tu : P.underlying u = some (.int .u8)) (cu : P.cellsOf u = 1)
    (hf : DataW.trod enc P W base (fun _ => true) true fuel t (Value.slice a len cap).cells.toList = some (d, p)) :
    ∃ l : List Te_Stp, Te_Stps W (.slice a len cap) l ∧ ((d = .nil ∧ l = []) ∨ ∃ elems spare : List (DataW H), d = .slice elems spare ∧ l.length = elems.length ∧ ∀ i (hi : i < l.length), ∃ x0 x1 d2, DataW.agg [x0, x1, d2] ∈ elems ∧ Te_DataOf d2 l[i].2.2) := by
  rcases open_slice ht hf with ⟨hcs, hd⟩ | ⟨x, n, c, m, k, D, Pl, hcs, _, hl, hm, hmm, hx, hel⟩
  · simp [Value.cells] at hcs
    obtain ⟨rfl, rfl, rfl⟩ := hcs
    exact ⟨[], ⟨_, _, rfl, fun h => absurd h (by decide)⟩, .inl ⟨(Prod.mk.inj hd).1, rfl⟩⟩
  · simp [Value.cells] at hcs
    obtain ⟨rfl, rfl, rfl⟩ := hcs
    simp only [if_true] at hmm
    subst hmm
    have each : ∀ i, i < len → ∃ s : Te_Stp, ∃ va vc, (∃ x0 x1 d2, D i = .agg [x0, x1, d2] ∧ Te_DataOf d2 s.2.2) ∧
        W.cell? ((x.add (i * 3)).add 0) = some (.int .i64 s.1) ∧ W.cell? ((x.add (i * 3)).add 1) = some (.int .i64 s.2.1) ∧ W.cell? ((x.add (i * 3)).add 2) = some (.slice va s.2.2.length vc) ∧ Bys W (.slice va s.2.2.length vc) s.2.2 := by
      intro i hi
      obtain ⟨cs', h1, h2⟩ := hel i (by omega)
      rw [ce] at h1
      obtain ⟨_, hlen, hcell⟩ := World.cells?_some h1
      obtain ⟨s, va, vc, d2, rfl, hb, ⟨x0, x1, hD⟩, hO⟩ := Te_step_cells he ce o0 o1 o2 c0 c1 c2 t0 t1 t2 tu cu h2
      exact ⟨s, va, vc, ⟨x0, x1, d2, hD, hO⟩, by simpa using hcell 0 (by omega), by simpa using hcell 1 (by omega), by simpa using hcell 2 (by omega), hb⟩
    obtain ⟨s, hs⟩ := choose_lt each
    refine ⟨(List.range len).map s, ⟨some x, m, by simp, fun h0 => ?_⟩, .inr ⟨_, _, (Prod.mk.inj hx).1, by simp, fun i hi => ?_⟩⟩
    · have h0' : 0 < len := by simpa using h0
      obtain ⟨b, off, spot⟩ := x
      obtain ⟨_, _, _, q0, _⟩ := hs 0 h0'
      have hspot : spot = none := by simpa [Addr.add] using World.cell?_spot q0
      subst hspot
      refine ⟨b, off, rfl, fun j hj => ?_⟩
      have hj' : j < len := by simpa using hj
      obtain ⟨va, vc, _, q0, q1, q2, hb⟩ := hs j hj'
      have hadd : ∀ o k, (⟨b, o, none⟩ : Addr).add k = ⟨b, o + k, none⟩ := fun o k => by unfold Addr.add; split <;> simp_all
      rw [hadd, hadd] at q0 q1 q2
      simp only [List.getElem_map, List.getElem_range]
      exact ⟨va, vc, by simpa using q0, q1, q2, hb⟩
    · have hi' : i < len := by simpa using hi
      obtain ⟨va, vc, ⟨x0, x1, d2, hD, hO⟩, _⟩ := hs i hi'
      refine ⟨x0, x1, d2, ?_, by simpa using hO⟩
      rw [← hD]
      exact List.mem_map.2 ⟨i, by simpa using hi', rfl⟩
theorem Te_sized_steps {H : Type} {P : Program} {ts : List TypeId} {ds : List (DataW H)} (h : (DataW.weightsEach P ts ds).all (· ≤ reachBytes) = true) {j : Nat} {t e u : TypeId} {f0 f1 f2 : Field} {x0 x1 d2 : DataW H} {elems spare : List (DataW H)} {x : List UInt8}
    (ht : ts[j]? = some t) (hd : ds[j]? = some (.slice elems spare)) (hu : P.underlying t = some (.slice e)) (hm : DataW.agg [x0, x1, d2] ∈ elems) (he : P.underlying e = some (.struct #[f0, f1, f2])) (t2 : P.underlying f2.type = some (.slice u)) (bu : P.bytesOf u = 1) (hO : Te_DataOf d2 x) : x.length ≤ 140737488351232 := by
  rcases hO with ⟨_, rfl⟩ | ⟨es, sp, rfl, hl⟩
  · simp
  · have := of_decide_eq_true (List.all_eq_true.1 h _ (DataW.weights_mem_each ht hd ((es.length + sp.length) * P.bytesOf u) (by
      simp only [DataW.weights, hu, List.mem_cons, List.mem_append]
      exact Or.inr (Or.inl (Te_weightsAll_mem hm _ (by simp [DataW.weights, DataW.weightsEach, he, t2]))))))
    rw [bu] at this
    simp only [reachBytes] at this
    omega
end Go.Proofs.YtdjddcmpffmehaaGreat

/- Faults, and ints, that came in as an argument: what a walk is told of them. -/
namespace Go.Proofs.YtdjddcmpffmehaaGreat
open Go.ChangeShapes Go.WideShapes Go.ChangeAt Go.RowKit Go.Deep

theorem faults_arg {H : Type} {enc : TypeId × Value → H} {P : Program} {W : World} {base : Nat} {a : Option Addr} {len cap fuel t e : Nat} {f0 f1 : Field} {d : DataW H} {p : List MemPlace}
    (ht : P.underlying t = some (.slice e)) (he : P.underlying e = some (.struct #[f0, f1])) (ce : P.cellsOf e = 2) (o0 : f0.offset = 0) (o1 : f1.offset = 1) (c0 : P.cellsOf f0.type = 1) (c1 : P.cellsOf f1.type = 1)
    (t0 : P.underlying f0.type = some (.int .i64)) (t1 : P.underlying f1.type = some (.int .i64))
    (hf : DataW.trod enc P W base (fun _ => true) true fuel t (Value.slice a len cap).cells.toList = some (d, p)) :
    ∃ l : List Fault, Flts W (.slice a len cap) l ∧ ((d = .nil ∧ l = []) ∨ ∃ elems spare : List (DataW H), d = .slice elems spare ∧ l.length = elems.length) := by
  rcases open_slice_pairs ht he ce o0 o1 c0 c1 hf with ⟨hcs, hd⟩ | ⟨x, n, c, m, q, V0, V1, D0, D1, P0, P1, hcs, _, hl, hm, hmm, hx, hcell⟩
  · simp [Value.cells] at hcs
    obtain ⟨rfl, rfl, rfl⟩ := hcs
    exact ⟨[], .inl ⟨rfl, rfl⟩, .inl ⟨(Prod.mk.inj hd).1, rfl⟩⟩
  · simp [Value.cells] at hcs
    obtain ⟨rfl, rfl, rfl⟩ := hcs
    simp only [if_true] at hmm
    subst hmm
    have hz : ∀ i, i < m → ∃ y z, V0 i = .int .i64 y ∧ V1 i = .int .i64 z := fun i hi => by
      obtain ⟨_, _, h0, h1⟩ := hcell i hi
      obtain ⟨y, hy, _⟩ := DataW.trod_int t0 h0
      obtain ⟨z, hz, _⟩ := DataW.trod_int t1 h1
      exact ⟨y, z, by simpa using hy, by simpa using hz⟩
    let val : Value → Int := fun | .int _ z => z | _ => 0
    refine ⟨(List.range len).map fun i => (val (V0 i), val (V1 i)), ?_, .inr ⟨_, _, (Prod.mk.inj hx).1, by simp⟩⟩
    by_cases h0 : len = 0
    · subst h0
      exact .inr (.inl ⟨x, m, rfl, by simp⟩)
    · obtain ⟨b, off, spot⟩ := x
      have hspot : spot = none := by simpa [Addr.add] using World.cell?_spot (hcell 0 (by omega)).1
      subst hspot
      refine .inr (.inr ⟨b, off, m, by simp, by simp; omega, by simpa using hl, fun j hj => ?_⟩)
      have hj' : j < len := by simpa using hj
      obtain ⟨h1, h2, _⟩ := hcell j (by omega)
      obtain ⟨y, z, hy, hz⟩ := hz j (by omega)
      have hadd : ∀ k, (⟨b, off, none⟩ : Addr).add k = ⟨b, off + k, none⟩ := fun k => by unfold Addr.add; split <;> simp_all
      rw [hadd] at h1 h2
      rw [h1, Nat.add_assoc, h2, hy, hz]
      simp [List.getD_eq_getElem?_getD, hj', hy, hz, val]

/-- The slice value v holds the ints l. -/
def Fa_Ints (W : World) (v : Value) (l : List Int) : Prop :=
  ∃ a c, v = .slice a l.length c ∧ (0 < l.length → ∃ b off, a = some ⟨b, off, none⟩ ∧ ∀ j, j < l.length → W.cell? ⟨b, off + j, none⟩ = some (.int .i64 (l.getD j 0)))
theorem Fa_Ints.below {W W' : World} {v : Value} {l : List Int} (h : Fa_Ints W v l) (hB : Below W.heap.size W W') : Fa_Ints W' v l := by
  obtain ⟨a, c, rfl, h⟩ := h
  refine ⟨a, c, rfl, fun h0 => ?_⟩
  obtain ⟨b, off, rfl, hc⟩ := h h0
  refine ⟨b, off, rfl, fun j hj => ?_⟩
  have := World.block_lt_of_cell? W _ (hc j hj)
  exact (hB.cell (p := ⟨b, off + j, none⟩) this).trans (hc j hj)

theorem ints_arg {H : Type} {enc : TypeId × Value → H} {P : Program} {W : World} {base : Nat} {a : Option Addr} {len cap fuel t e : Nat} {d : DataW H} {p : List MemPlace}
    (ht : P.underlying t = some (.slice e)) (he : P.underlying e = some (.int .i64)) (hc : P.cellsOf e = 1)
    (hf : DataW.trod enc P W base (fun _ => true) true fuel t (Value.slice a len cap).cells.toList = some (d, p)) :
    ∃ l : List Int, Fa_Ints W (.slice a len cap) l ∧ ((d = .nil ∧ l = []) ∨ ∃ elems spare : List (DataW H), d = .slice elems spare ∧ l.length = elems.length) := by
  rcases open_ints ht he hc hf with ⟨hcs, hd⟩ | ⟨x, n, c, zs, hcs, _, hl, hm, hz, hx, hcell, hwz⟩
  · simp [Value.cells] at hcs
    obtain ⟨rfl, rfl, rfl⟩ := hcs
    exact ⟨[], ⟨_, _, rfl, fun h => absurd h (by decide)⟩, .inl ⟨(Prod.mk.inj hd).1, rfl⟩⟩
  · simp [Value.cells] at hcs
    obtain ⟨rfl, rfl, rfl⟩ := hcs
    simp only [if_true] at hz
    have hlen : (zs.take len).length = len := by rw [List.length_take]; omega
    refine ⟨zs.take len, ⟨some x, cap, by rw [hlen], fun h0 => ?_⟩, .inr ⟨_, _, (Prod.mk.inj hx).1, by simp [lits]⟩⟩
    rw [hlen] at h0
    obtain ⟨b, off, spot⟩ := x
    have hspot : spot = none := by simpa [Addr.add] using World.cell?_spot (hcell 0 (by omega))
    subst hspot
    refine ⟨b, off, rfl, fun j hj => ?_⟩
    rw [hlen] at hj
    have h1 := hcell j (by omega)
    have hadd : (⟨b, off, none⟩ : Addr).add j = ⟨b, off + j, none⟩ := by unfold Addr.add; split <;> simp_all
    rw [hadd] at h1
    rw [h1]
    have hjz : j < zs.length := by omega
    simp [List.getD_eq_getElem?_getD, hj, List.getElem?_eq_getElem hjz]
end Go.Proofs.YtdjddcmpffmehaaGreat

/- Files, terminals, steps and setups that came in as an argument: what a walk is told of them, and their sizes. -/
namespace Go.Proofs.YtdjddcmpffmehaaGreat
open Go.ChangeShapes Go.WideShapes Go.ChangeAt Go.RowKit Go.Deep

/-- Within the reach of memory, through and through. -/
def Small {H : Type} (P : Program) (t : TypeId) (d : DataW H) : Prop := ∀ n ∈ d.weights P t, n ≤ reachBytes
theorem small_arg {H : Type} {P : Program} {ts : List TypeId} {ds : List (DataW H)} (h : (DataW.weightsEach P ts ds).all (· ≤ reachBytes) = true) {j : Nat} {t : TypeId} {d : DataW H} (ht : ts[j]? = some t) (hd : ds[j]? = some d) : Small P t d :=
  fun n hn => of_decide_eq_true (List.all_eq_true.1 h _ (DataW.weights_mem_each ht hd n hn))
theorem Small.slice {H : Type} {P : Program} {t e : TypeId} {es sp : List (DataW H)} (h : Small P t (.slice es sp)) (hu : P.underlying t = some (.slice e)) : (es.length + sp.length) * P.bytesOf e ≤ reachBytes ∧ ∀ d ∈ es, Small P e d :=
  ⟨h _ (by simp [DataW.weights, hu]), fun d hd n hn => h n (by
    simp only [DataW.weights, hu, List.mem_cons, List.mem_append]
    exact Or.inr (Or.inl (Kp_weightsAll_mem hd n hn)))⟩
theorem Small.fields {H : Type} {P : Program} {t : TypeId} {fs : Array Field} {ds : List (DataW H)} (h : Small P t (.agg ds)) (hu : P.underlying t = some (.struct fs)) (j : Nat) (f : Field) (d : DataW H) (hf : fs[j]? = some f) (hd : ds[j]? = some d) : Small P f.type d := fun n hn => h n (by
    simp only [DataW.weights, hu]
    exact DataW.weights_mem_each (by rw [List.getElem?_map, Array.getElem?_toList, hf]; rfl) hd n hn)

/-- How a slice of bytes, of lines, of named, of typed inside a datum is told. -/
def LnD {H : Type} (d : DataW H) (ls : List (List UInt8)) : Prop := (d = .nil ∧ ls = []) ∨ ∃ elems spare : List (DataW H), d = .slice elems spare ∧ ls.length = elems.length ∧ ∀ i (hi : i < ls.length), ∃ di, di ∈ elems ∧ Te_DataOf di ls[i]
def NmD {H : Type} (d : DataW H) (l : List Nm) : Prop := (d = .nil ∧ l = []) ∨ ∃ elems spare : List (DataW H), d = .slice elems spare ∧ l.length = elems.length ∧ ∀ i (hi : i < l.length), ∃ x0 d1, DataW.agg [x0, d1] ∈ elems ∧ Kp_DataOf d1 l[i].2
def TpD {H : Type} (d : DataW H) (l : List Tp) : Prop := (d = .nil ∧ l = []) ∨ ∃ elems spare : List (DataW H), d = .slice elems spare ∧ l.length = elems.length ∧ ∀ i (hi : i < l.length), ∃ x0 d1, DataW.agg [x0, d1] ∈ elems ∧ LnD d1 l[i].2
theorem bytes_small {H : Type} {P : Program} {t e : TypeId} {d : DataW H} {x : List UInt8} (h : Small P t d) (hu : P.underlying t = some (.slice e)) (be : P.bytesOf e = 1) (hO : Kp_DataOf d x) : x.length ≤ 140737488351232 := by
  rcases hO with ⟨_, rfl⟩ | ⟨es, sp, rfl, hl⟩
  · simp
  · have := (h.slice hu).1
    rw [be] at this
    simp only [reachBytes] at this
    omega
theorem lines_small {H : Type} {P : Program} {t e u : TypeId} {d : DataW H} {ls : List (List UInt8)} (h : Small P t d) (hu : P.underlying t = some (.slice e)) (he : P.underlying e = some (.slice u)) (be : P.bytesOf e = 24) (bu : P.bytesOf u = 1) (hO : LnD d ls) : ls.length * 24 ≤ 140737488351232 ∧ ∀ i (hi : i < ls.length), ls[i].length ≤ 140737488351232 := by
  rcases hO with ⟨_, rfl⟩ | ⟨es, sp, rfl, hl, hel⟩
  · exact ⟨by simp, fun i hi => absurd hi (by simp)⟩
  · obtain ⟨h1, h2⟩ := h.slice hu
    rw [be] at h1
    simp only [reachBytes] at h1
    refine ⟨by omega, fun i hi => ?_⟩
    obtain ⟨di, hm, hO⟩ := hel i hi
    exact bytes_small (h2 di hm) he bu hO
theorem named_small {H : Type} {P : Program} {t e u : TypeId} {f0 f1 : Field} {d : DataW H} {l : List Nm} (h : Small P t d) (hu : P.underlying t = some (.slice e)) (be : P.bytesOf e = 40) (he : P.underlying e = some (.struct #[f0, f1])) (t1 : P.underlying f1.type = some (.slice u)) (bu : P.bytesOf u = 1) (hO : NmD d l) : l.length * 40 ≤ 140737488351232 ∧ ∀ i (hi : i < l.length), l[i].2.length ≤ 140737488351232 := by
  rcases hO with ⟨_, rfl⟩ | ⟨es, sp, rfl, hl, hel⟩
  · exact ⟨by simp, fun i hi => absurd hi (by simp)⟩
  · obtain ⟨h1, h2⟩ := h.slice hu
    rw [be] at h1
    simp only [reachBytes] at h1
    refine ⟨by omega, fun i hi => ?_⟩
    obtain ⟨x0, d1, hm, hO⟩ := hel i hi
    exact bytes_small ((h2 _ hm).fields he 1 f1 d1 rfl rfl) t1 bu hO
theorem typed_small {H : Type} {P : Program} {t e u v : TypeId} {f0 f1 : Field} {d : DataW H} {l : List Tp} (h : Small P t d) (hu : P.underlying t = some (.slice e)) (be : P.bytesOf e = 40) (he : P.underlying e = some (.struct #[f0, f1])) (t1 : P.underlying f1.type = some (.slice u)) (tu : P.underlying u = some (.slice v)) (bu : P.bytesOf u = 24) (bv : P.bytesOf v = 1) (hO : TpD d l) :
    l.length * 40 ≤ 140737488351232 ∧ ∀ i (hi : i < l.length), l[i].2.length * 24 ≤ 140737488351232 ∧ ∀ k (hk : k < l[i].2.length), l[i].2[k].length ≤ 140737488351232 := by
  rcases hO with ⟨_, rfl⟩ | ⟨es, sp, rfl, hl, hel⟩
  · exact ⟨by simp, fun i hi => absurd hi (by simp)⟩
  · obtain ⟨h1, h2⟩ := h.slice hu
    rw [be] at h1
    simp only [reachBytes] at h1
    refine ⟨by omega, fun i hi => ?_⟩
    obtain ⟨x0, d1, hm, hO⟩ := hel i hi
    exact lines_small ((h2 _ hm).fields he 1 f1 d1 rfl rfl) t1 tu bu bv hO

theorem named_cells {H : Type} {enc : TypeId × Value → H} {P : Program} {W : World} {base : Nat} {fuel e u : Nat} {f0 f1 : Field} {cs : List Value} {d : DataW H} {p : List MemPlace}
    (he : P.underlying e = some (.struct #[f0, f1])) (ce : P.cellsOf e = 2) (o0 : f0.offset = 0) (o1 : f1.offset = 1) (c0 : P.cellsOf f0.type = 1) (c1 : P.cellsOf f1.type = 1)
    (t0 : P.underlying f0.type = some .string) (t1 : P.underlying f1.type = some (.slice u)) (tu : P.underlying u = some (.int .u8)) (cu : P.cellsOf u = 1)
    (h : DataW.trod enc P W base (fun _ => true) true fuel e cs = some (d, p)) :
    ∃ (x : Nm) (va : Option Addr) (vc : Nat) (d1 : DataW H), cs = [.string x.1, .slice va x.2.length vc] ∧ (Bys W (.slice va x.2.length vc) x.2 ∧ x.2.length ≤ vc ∧ x.1.size ≤ maxLen) ∧ (∃ x0, d = .agg [x0, d1]) ∧ Kp_DataOf d1 x.2 := by
  obtain ⟨xs, k, hk, hxy, hcl, hxl, hf⟩ := DataW.trod_struct he h
  rw [ce] at hcl
  match xs, hxl, cs, hcl with
  | [y0, y1], _, [v0, v1], _ =>
    have g0 := hf 0 f0 rfl
    have g1 := hf 1 f1 rfl
    simp [o0, c0] at g0
    simp [o1, c1] at g1
    obtain ⟨a, ha, _, hsz⟩ := DataW.trod_string t0 g0
    obtain rfl : v0 = .string a := by simpa using ha
    obtain ⟨va, vl, vc, rfl⟩ : ∃ va vl vc, v1 = .slice va vl vc := by
      rcases DataW.trod_slice t1 g1 with ⟨h0, _⟩ | ⟨x, len, cap, _, _, _, _, h0, _⟩
      · exact ⟨_, _, _, by simpa using h0⟩
      · exact ⟨_, _, _, by simpa using h0⟩
    obtain ⟨y1a, y1b⟩ := y1
    obtain ⟨l, hl, hlc, hd⟩ := bytes_arg2 t1 tu cu (by simpa [Value.cells] using g1)
    obtain rfl := Kp_bys_len hl
    simp only [Prod.mk.injEq] at hxy
    exact ⟨(a, l), va, vc, y1a, rfl, ⟨hl, hlc, hsz⟩, ⟨_, by simpa using hxy.1⟩, hd⟩
theorem nms_arg {H : Type} {enc : TypeId × Value → H} {P : Program} {W : World} {base : Nat} {a : Option Addr} {len cap fuel t e u : Nat} {f0 f1 : Field} {d : DataW H} {p : List MemPlace}
    (ht : P.underlying t = some (.slice e)) (he : P.underlying e = some (.struct #[f0, f1])) (ce : P.cellsOf e = 2) (o0 : f0.offset = 0) (o1 : f1.offset = 1) (c0 : P.cellsOf f0.type = 1) (c1 : P.cellsOf f1.type = 1)
    (t0 : P.underlying f0.type = some .string) (t1 : P.underlying f1.type = some (.slice u)) (tu : P.underlying u = some (.int .u8)) (cu : P.cellsOf u = 1)
    (hf : DataW.trod enc P W base (fun _ => true) true fuel t (Value.slice a len cap).cells.toList = some (d, p)) : ∃ l : List Nm, Nms W (.slice a len cap) l ∧ NmD d l := by
  rcases open_slice ht hf with ⟨hcs, hd⟩ | ⟨x, n, c, m, k, D, Pl, hcs, _, hl, hm, hmm, hx, hel⟩
  · simp [Value.cells] at hcs
    obtain ⟨rfl, rfl, rfl⟩ := hcs
    exact ⟨[], ⟨_, _, rfl, Nat.le_refl _, fun h => absurd h (by decide)⟩, .inl ⟨(Prod.mk.inj hd).1, rfl⟩⟩
  · simp [Value.cells] at hcs
    obtain ⟨rfl, rfl, rfl⟩ := hcs
    simp only [if_true] at hmm
    subst hmm
    have each : ∀ i, i < len → ∃ s : Nm, ∃ va vc, (∃ x0 d1, D i = .agg [x0, d1] ∧ Kp_DataOf d1 s.2) ∧
        W.cell? ((x.add (i * 2)).add 0) = some (.string s.1) ∧ W.cell? ((x.add (i * 2)).add 1) = some (.slice va s.2.length vc) ∧ Bys W (.slice va s.2.length vc) s.2 ∧ s.2.length ≤ vc ∧ s.1.size ≤ maxLen := by
      intro i hi
      obtain ⟨cs', h1, h2⟩ := hel i (by omega)
      rw [ce] at h1
      obtain ⟨_, hlen, hcell⟩ := World.cells?_some h1
      obtain ⟨s, va, vc, d1, rfl, hb, ⟨x0, hD⟩, hO⟩ := named_cells he ce o0 o1 c0 c1 t0 t1 tu cu h2
      exact ⟨s, va, vc, ⟨x0, d1, hD, hO⟩, by simpa using hcell 0 (by omega), by simpa using hcell 1 (by omega), hb⟩
    obtain ⟨s, hs⟩ := choose_lt each
    refine ⟨(List.range len).map s, ⟨some x, m, by simp, by simpa using hl, fun h0 => ?_⟩, .inr ⟨_, _, (Prod.mk.inj hx).1, by simp, fun i hi => ?_⟩⟩
    · have h0' : 0 < len := by simpa using h0
      obtain ⟨b, off, spot⟩ := x
      obtain ⟨_, _, _, q0, _⟩ := hs 0 h0'
      have hspot : spot = none := by simpa [Addr.add] using World.cell?_spot q0
      subst hspot
      refine ⟨b, off, rfl, fun j hj => ?_⟩
      have hj' : j < len := by simpa using hj
      obtain ⟨va, vc, _, q0, q1, hb⟩ := hs j hj'
      have hadd : ∀ o k, (⟨b, o, none⟩ : Addr).add k = ⟨b, o + k, none⟩ := fun o k => by unfold Addr.add; split <;> simp_all
      rw [hadd, hadd] at q0 q1
      simp only [List.getElem_map, List.getElem_range]
      exact ⟨va, vc, by simpa using q0, q1, hb⟩
    · have hi' : i < len := by simpa using hi
      obtain ⟨va, vc, ⟨x0, d1, hD, hO⟩, _⟩ := hs i hi'
      refine ⟨x0, d1, ?_, by simpa using hO⟩
      rw [← hD]
      exact List.mem_map.2 ⟨i, by simpa using hi', rfl⟩
theorem typed_cells {H : Type} {enc : TypeId × Value → H} {P : Program} {W : World} {base : Nat} {fuel e u v : Nat} {f0 f1 : Field} {cs : List Value} {d : DataW H} {p : List MemPlace}
    (he : P.underlying e = some (.struct #[f0, f1])) (ce : P.cellsOf e = 2) (o0 : f0.offset = 0) (o1 : f1.offset = 1) (c0 : P.cellsOf f0.type = 1) (c1 : P.cellsOf f1.type = 1)
    (t0 : P.underlying f0.type = some .string) (t1 : P.underlying f1.type = some (.slice u)) (tu : P.underlying u = some (.slice v)) (cu : P.cellsOf u = 1) (tv : P.underlying v = some (.int .u8)) (cv : P.cellsOf v = 1)
    (h : DataW.trod enc P W base (fun _ => true) true fuel e cs = some (d, p)) :
    ∃ (x : Tp) (va : Option Addr) (vc : Nat) (d1 : DataW H), cs = [.string x.1, .slice va x.2.length vc] ∧ (Lns W (.slice va x.2.length vc) x.2 ∧ x.1.size ≤ maxLen) ∧ (∃ x0, d = .agg [x0, d1]) ∧ LnD d1 x.2 := by
  obtain ⟨xs, k, hk, hxy, hcl, hxl, hf⟩ := DataW.trod_struct he h
  rw [ce] at hcl
  match xs, hxl, cs, hcl with
  | [y0, y1], _, [v0, v1], _ =>
    have g0 := hf 0 f0 rfl
    have g1 := hf 1 f1 rfl
    simp [o0, c0] at g0
    simp [o1, c1] at g1
    obtain ⟨a, ha, _, hsz⟩ := DataW.trod_string t0 g0
    obtain rfl : v0 = .string a := by simpa using ha
    obtain ⟨va, vl, vc, rfl⟩ : ∃ va vl vc, v1 = .slice va vl vc := by
      rcases DataW.trod_slice t1 g1 with ⟨h0, _⟩ | ⟨x, len, cap, _, _, _, _, h0, _⟩
      · exact ⟨_, _, _, by simpa using h0⟩
      · exact ⟨_, _, _, by simpa using h0⟩
    obtain ⟨y1a, y1b⟩ := y1
    obtain ⟨l, hl, hd⟩ := lns_arg t1 tu cu tv cv (by simpa [Value.cells] using g1)
    obtain rfl : vl = l.length := by
      obtain ⟨a', c', he, _⟩ := hl
      cases he
      rfl
    simp only [Prod.mk.injEq] at hxy
    exact ⟨(a, l), va, vc, y1a, rfl, ⟨hl, hsz⟩, ⟨_, by simpa using hxy.1⟩, hd⟩
theorem tps_arg {H : Type} {enc : TypeId × Value → H} {P : Program} {W : World} {base : Nat} {a : Option Addr} {len cap fuel t e u v : Nat} {f0 f1 : Field} {d : DataW H} {p : List MemPlace}
    (ht : P.underlying t = some (.slice e)) (he : P.underlying e = some (.struct #[f0, f1])) (ce : P.cellsOf e = 2) (o0 : f0.offset = 0) (o1 : f1.offset = 1) (c0 : P.cellsOf f0.type = 1) (c1 : P.cellsOf f1.type = 1)
    (t0 : P.underlying f0.type = some .string) (t1 : P.underlying f1.type = some (.slice u)) (tu : P.underlying u = some (.slice v)) (cu : P.cellsOf u = 1) (tv : P.underlying v = some (.int .u8)) (cv : P.cellsOf v = 1)
    (hf : DataW.trod enc P W base (fun _ => true) true fuel t (Value.slice a len cap).cells.toList = some (d, p)) : ∃ l : List Tp, Tps W (.slice a len cap) l ∧ TpD d l := by
  rcases open_slice ht hf with ⟨hcs, hd⟩ | ⟨x, n, c, m, k, D, Pl, hcs, _, hl, hm, hmm, hx, hel⟩
  · simp [Value.cells] at hcs
    obtain ⟨rfl, rfl, rfl⟩ := hcs
    exact ⟨[], ⟨_, _, rfl, Nat.le_refl _, fun h => absurd h (by decide)⟩, .inl ⟨(Prod.mk.inj hd).1, rfl⟩⟩
  · simp [Value.cells] at hcs
    obtain ⟨rfl, rfl, rfl⟩ := hcs
    simp only [if_true] at hmm
    subst hmm
    have each : ∀ i, i < len → ∃ s : Tp, ∃ va vc, (∃ x0 d1, D i = .agg [x0, d1] ∧ LnD d1 s.2) ∧
        W.cell? ((x.add (i * 2)).add 0) = some (.string s.1) ∧ W.cell? ((x.add (i * 2)).add 1) = some (.slice va s.2.length vc) ∧ Lns W (.slice va s.2.length vc) s.2 ∧ s.1.size ≤ maxLen := by
      intro i hi
      obtain ⟨cs', h1, h2⟩ := hel i (by omega)
      rw [ce] at h1
      obtain ⟨_, hlen, hcell⟩ := World.cells?_some h1
      obtain ⟨s, va, vc, d1, rfl, hb, ⟨x0, hD⟩, hO⟩ := typed_cells he ce o0 o1 c0 c1 t0 t1 tu cu tv cv h2
      exact ⟨s, va, vc, ⟨x0, d1, hD, hO⟩, by simpa using hcell 0 (by omega), by simpa using hcell 1 (by omega), hb⟩
    obtain ⟨s, hs⟩ := choose_lt each
    refine ⟨(List.range len).map s, ⟨some x, m, by simp, by simpa using hl, fun h0 => ?_⟩, .inr ⟨_, _, (Prod.mk.inj hx).1, by simp, fun i hi => ?_⟩⟩
    · have h0' : 0 < len := by simpa using h0
      obtain ⟨b, off, spot⟩ := x
      obtain ⟨_, _, _, q0, _⟩ := hs 0 h0'
      have hspot : spot = none := by simpa [Addr.add] using World.cell?_spot q0
      subst hspot
      refine ⟨b, off, rfl, fun j hj => ?_⟩
      have hj' : j < len := by simpa using hj
      obtain ⟨va, vc, _, q0, q1, hb⟩ := hs j hj'
      have hadd : ∀ o k, (⟨b, o, none⟩ : Addr).add k = ⟨b, o + k, none⟩ := fun o k => by unfold Addr.add; split <;> simp_all
      rw [hadd, hadd] at q0 q1
      simp only [List.getElem_map, List.getElem_range]
      exact ⟨va, vc, by simpa using q0, q1, hb⟩
    · have hi' : i < len := by simpa using hi
      obtain ⟨va, vc, ⟨x0, d1, hD, hO⟩, _⟩ := hs i hi'
      refine ⟨x0, d1, ?_, by simpa using hO⟩
      rw [← hD]
      exact List.mem_map.2 ⟨i, by simpa using hi', rfl⟩

/-- How faults inside a datum are told. -/
def FlD {H : Type} (d : DataW H) (l : List Fault) : Prop := (d = .nil ∧ l = []) ∨ ∃ elems spare : List (DataW H), d = .slice elems spare ∧ l.length = elems.length
theorem faults_small {H : Type} {P : Program} {t e : TypeId} {d : DataW H} {l : List Fault} (h : Small P t d) (hu : P.underlying t = some (.slice e)) (be : P.bytesOf e = 16) (hO : FlD d l) : l.length * 16 ≤ 140737488351232 := by
  rcases hO with ⟨_, rfl⟩ | ⟨es, sp, rfl, hl⟩
  · simp
  · have := (h.slice hu).1
    rw [be] at this
    simp only [reachBytes] at this
    omega

/-- A setup: files, terminals, faults. -/
theorem setup_cells {H : Type} {enc : TypeId × Value → H} {P : Program} {W : World} {base : Nat} {fuel e : Nat} {f0 f1 f2 : Field} {cs : List Value} {d : DataW H} {p : List MemPlace}
    (he : P.underlying e = some (.struct #[f0, f1, f2])) (ce : P.cellsOf e = 3) (o0 : f0.offset = 0) (o1 : f1.offset = 1) (o2 : f2.offset = 2) (c0 : P.cellsOf f0.type = 1) (c1 : P.cellsOf f1.type = 1) (c2 : P.cellsOf f2.type = 1)
    {n0 n1 n2 : Nat} (t0 : P.underlying f0.type = some (.slice n0)) (t1 : P.underlying f1.type = some (.slice n1)) (t2 : P.underlying f2.type = some (.slice n2))
    (h : DataW.trod enc P W base (fun _ => true) true fuel e cs = some (d, p)) :
    ∃ a0 l0 k0 a1 l1 k1 a2 l2 k2 d0 d1 d2 fl q0 q1 q2, cs = [.slice a0 l0 k0, .slice a1 l1 k1, .slice a2 l2 k2] ∧ d = .agg [d0, d1, d2] ∧
      DataW.trod enc P W base (fun _ => true) true fl f0.type (Value.slice a0 l0 k0).cells.toList = some (d0, q0) ∧ DataW.trod enc P W base (fun _ => true) true fl f1.type (Value.slice a1 l1 k1).cells.toList = some (d1, q1) ∧ DataW.trod enc P W base (fun _ => true) true fl f2.type (Value.slice a2 l2 k2).cells.toList = some (d2, q2) := by
  obtain ⟨xs, k, hk, hxy, hcl, hxl, hf⟩ := DataW.trod_struct he h
  rw [ce] at hcl
  match xs, hxl, cs, hcl with
  | [(d0, q0), (d1, q1), (d2, q2)], _, [v0, v1, v2], _ =>
    have g0 := hf 0 f0 rfl
    have g1 := hf 1 f1 rfl
    have g2 := hf 2 f2 rfl
    simp [o0, c0] at g0
    simp [o1, c1] at g1
    simp [o2, c2] at g2
    have sl : ∀ {t n v x}, P.underlying t = some (.slice n) → DataW.trod enc P W base (fun _ => true) true k t [v] = some x → ∃ va vl vc, v = .slice va vl vc := fun ht hg => by
      rcases DataW.trod_slice ht hg with ⟨h0, _⟩ | ⟨x, len, cap, _, _, _, _, h0, _⟩
      · exact ⟨_, _, _, by simpa using h0⟩
      · exact ⟨_, _, _, by simpa using h0⟩
    obtain ⟨a0, l0, k0, rfl⟩ := sl t0 g0
    obtain ⟨a1, l1, k1, rfl⟩ := sl t1 g1
    obtain ⟨a2, l2, k2, rfl⟩ := sl t2 g2
    simp only [Prod.mk.injEq] at hxy
    exact ⟨a0, l0, k0, a1, l1, k1, a2, l2, k2, d0, d1, d2, k, q0, q1, q2, rfl, by simpa using hxy.1, by simpa [Value.cells] using g0, by simpa [Value.cells] using g1, by simpa [Value.cells] using g2⟩

/-- A step of a kernel: what, name, three numbers, data. -/
structure KSt where
  what : Int
  name : ByteArray
  a : Int
  b : Int
  c : Int
  data : List UInt8
  deriving Inhabited
theorem kstep_cells {H : Type} {enc : TypeId × Value → H} {P : Program} {W : World} {base : Nat} {fuel e u : Nat} {f0 f1 f2 f3 f4 f5 : Field} {cs : List Value} {d : DataW H} {p : List MemPlace}
    (he : P.underlying e = some (.struct #[f0, f1, f2, f3, f4, f5])) (ce : P.cellsOf e = 6) (o0 : f0.offset = 0) (o1 : f1.offset = 1) (o2 : f2.offset = 2) (o3 : f3.offset = 3) (o4 : f4.offset = 4) (o5 : f5.offset = 5)
    (c0 : P.cellsOf f0.type = 1) (c1 : P.cellsOf f1.type = 1) (c2 : P.cellsOf f2.type = 1) (c3 : P.cellsOf f3.type = 1) (c4 : P.cellsOf f4.type = 1) (c5 : P.cellsOf f5.type = 1)
    (t0 : P.underlying f0.type = some (.int .i64)) (t1 : P.underlying f1.type = some .string) (t2 : P.underlying f2.type = some (.int .i64)) (t3 : P.underlying f3.type = some (.int .i64)) (t4 : P.underlying f4.type = some (.int .i64)) (t5 : P.underlying f5.type = some (.slice u)) (tu : P.underlying u = some (.int .u8)) (cu : P.cellsOf u = 1)
    (h : DataW.trod enc P W base (fun _ => true) true fuel e cs = some (d, p)) :
    ∃ (x : KSt) (va : Option Addr) (vc : Nat) (d5 : DataW H), cs = [.int .i64 x.what, .string x.name, .int .i64 x.a, .int .i64 x.b, .int .i64 x.c, .slice va x.data.length vc] ∧ (Bys W (.slice va x.data.length vc) x.data ∧ x.data.length ≤ vc ∧ x.name.size ≤ maxLen ∧ I64 x.a ∧ I64 x.b ∧ I64 x.c) ∧ (∃ x0 x1 x2 x3 x4, d = .agg [x0, x1, x2, x3, x4, d5]) ∧ Kp_DataOf d5 x.data := by
  obtain ⟨xs, k, hk, hxy, hcl, hxl, hf⟩ := DataW.trod_struct he h
  rw [ce] at hcl
  match xs, hxl, cs, hcl with
  | [y0, y1, y2, y3, y4, y5], _, [v0, v1, v2, v3, v4, v5], _ =>
    have g0 := hf 0 f0 rfl
    have g1 := hf 1 f1 rfl
    have g2 := hf 2 f2 rfl
    have g3 := hf 3 f3 rfl
    have g4 := hf 4 f4 rfl
    have g5 := hf 5 f5 rfl
    simp [o0, c0] at g0
    simp [o1, c1] at g1
    simp [o2, c2] at g2
    simp [o3, c3] at g3
    simp [o4, c4] at g4
    simp [o5, c5] at g5
    obtain ⟨a, ha, _⟩ := DataW.trod_int t0 g0
    obtain ⟨nm, hnm, _, hsz⟩ := DataW.trod_string t1 g1
    obtain ⟨b, hb, _, wb⟩ := DataW.trod_int t2 g2
    obtain ⟨c, hc, _, wc⟩ := DataW.trod_int t3 g3
    obtain ⟨cc, hcc, _, wcc⟩ := DataW.trod_int t4 g4
    obtain rfl : v0 = .int .i64 a := by simpa using ha
    obtain rfl : v1 = .string nm := by simpa using hnm
    obtain rfl : v2 = .int .i64 b := by simpa using hb
    obtain rfl : v3 = .int .i64 c := by simpa using hc
    obtain rfl : v4 = .int .i64 cc := by simpa using hcc
    obtain ⟨va, vl, vc, rfl⟩ : ∃ va vl vc, v5 = .slice va vl vc := by
      rcases DataW.trod_slice t5 g5 with ⟨h0, _⟩ | ⟨x, len, cap, _, _, _, _, h0, _⟩
      · exact ⟨_, _, _, by simpa using h0⟩
      · exact ⟨_, _, _, by simpa using h0⟩
    obtain ⟨y5a, y5b⟩ := y5
    obtain ⟨l, hl, hlc, hd⟩ := bytes_arg2 t5 tu cu (by simpa [Value.cells] using g5)
    obtain rfl := Kp_bys_len hl
    simp only [Prod.mk.injEq] at hxy
    exact ⟨⟨a, nm, b, c, cc, l⟩, va, vc, y5a, rfl, ⟨hl, hlc, hsz, I64.of wb, I64.of wc, I64.of wcc⟩, ⟨_, _, _, _, _, by simpa using hxy.1⟩, hd⟩
/-- The slice value v holds the steps l. -/
def KSts (W : World) (v : Value) (l : List KSt) : Prop :=
  ∃ a c, v = .slice a l.length c ∧ (0 < l.length → ∃ b off, a = some ⟨b, off, none⟩ ∧ ∀ j (hj : j < l.length), ∃ va vc,
    W.cell? ⟨b, off + j * 6, none⟩ = some (.int .i64 l[j].what) ∧ W.cell? ⟨b, off + j * 6 + 1, none⟩ = some (.string l[j].name) ∧ W.cell? ⟨b, off + j * 6 + 2, none⟩ = some (.int .i64 l[j].a) ∧ W.cell? ⟨b, off + j * 6 + 3, none⟩ = some (.int .i64 l[j].b) ∧ W.cell? ⟨b, off + j * 6 + 4, none⟩ = some (.int .i64 l[j].c) ∧
    W.cell? ⟨b, off + j * 6 + 5, none⟩ = some (.slice va l[j].data.length vc) ∧ Bys W (.slice va l[j].data.length vc) l[j].data ∧ l[j].data.length ≤ vc ∧ l[j].name.size ≤ maxLen ∧ I64 l[j].a ∧ I64 l[j].b ∧ I64 l[j].c)
def KStD {H : Type} (d : DataW H) (l : List KSt) : Prop := (d = .nil ∧ l = []) ∨ ∃ elems spare : List (DataW H), d = .slice elems spare ∧ l.length = elems.length ∧ ∀ i (hi : i < l.length), ∃ x0 x1 x2 x3 x4 d5, DataW.agg [x0, x1, x2, x3, x4, d5] ∈ elems ∧ Kp_DataOf d5 l[i].data
theorem ksteps_small {H : Type} {P : Program} {t e u : TypeId} {f0 f1 f2 f3 f4 f5 : Field} {d : DataW H} {l : List KSt} (h : Small P t d) (hu : P.underlying t = some (.slice e)) (be : P.bytesOf e = 72) (he : P.underlying e = some (.struct #[f0, f1, f2, f3, f4, f5])) (t5 : P.underlying f5.type = some (.slice u)) (bu : P.bytesOf u = 1) (hO : KStD d l) : l.length * 72 ≤ 140737488351232 ∧ ∀ i (hi : i < l.length), l[i].data.length ≤ 140737488351232 := by
  rcases hO with ⟨_, rfl⟩ | ⟨es, sp, rfl, hl, hel⟩
  · exact ⟨by simp, fun i hi => absurd hi (by simp)⟩
  · obtain ⟨h1, h2⟩ := h.slice hu
    rw [be] at h1
    simp only [reachBytes] at h1
    refine ⟨by omega, fun i hi => ?_⟩
    obtain ⟨x0, x1, x2, x3, x4, d5, hm, hO⟩ := hel i hi
    exact bytes_small ((h2 _ hm).fields he 5 f5 d5 rfl rfl) t5 bu hO
theorem ksts_arg {H : Type} {enc : TypeId × Value → H} {P : Program} {W : World} {base : Nat} {a : Option Addr} {len cap fuel t e u : Nat} {f0 f1 f2 f3 f4 f5 : Field} {d : DataW H} {p : List MemPlace}
    (ht : P.underlying t = some (.slice e)) (he : P.underlying e = some (.struct #[f0, f1, f2, f3, f4, f5])) (ce : P.cellsOf e = 6) (o0 : f0.offset = 0) (o1 : f1.offset = 1) (o2 : f2.offset = 2) (o3 : f3.offset = 3) (o4 : f4.offset = 4) (o5 : f5.offset = 5)
    (c0 : P.cellsOf f0.type = 1) (c1 : P.cellsOf f1.type = 1) (c2 : P.cellsOf f2.type = 1) (c3 : P.cellsOf f3.type = 1) (c4 : P.cellsOf f4.type = 1) (c5 : P.cellsOf f5.type = 1)
    (t0 : P.underlying f0.type = some (.int .i64)) (t1 : P.underlying f1.type = some .string) (t2 : P.underlying f2.type = some (.int .i64)) (t3 : P.underlying f3.type = some (.int .i64)) (t4 : P.underlying f4.type = some (.int .i64)) (t5 : P.underlying f5.type = some (.slice u)) (tu : P.underlying u = some (.int .u8)) (cu : P.cellsOf u = 1)
    (hf : DataW.trod enc P W base (fun _ => true) true fuel t (Value.slice a len cap).cells.toList = some (d, p)) : ∃ l : List KSt, KSts W (.slice a len cap) l ∧ KStD d l := by
  rcases open_slice ht hf with ⟨hcs, hd⟩ | ⟨x, n, c, m, k, D, Pl, hcs, _, hl, hm, hmm, hx, hel⟩
  · simp [Value.cells] at hcs
    obtain ⟨rfl, rfl, rfl⟩ := hcs
    exact ⟨[], ⟨_, _, rfl, fun h => absurd h (by decide)⟩, .inl ⟨(Prod.mk.inj hd).1, rfl⟩⟩
  · simp [Value.cells] at hcs
    obtain ⟨rfl, rfl, rfl⟩ := hcs
    simp only [if_true] at hmm
    subst hmm
    have each : ∀ i, i < len → ∃ s : KSt, ∃ va vc, (∃ x0 x1 x2 x3 x4 d5, D i = .agg [x0, x1, x2, x3, x4, d5] ∧ Kp_DataOf d5 s.data) ∧
        W.cell? ((x.add (i * 6)).add 0) = some (.int .i64 s.what) ∧ W.cell? ((x.add (i * 6)).add 1) = some (.string s.name) ∧ W.cell? ((x.add (i * 6)).add 2) = some (.int .i64 s.a) ∧ W.cell? ((x.add (i * 6)).add 3) = some (.int .i64 s.b) ∧ W.cell? ((x.add (i * 6)).add 4) = some (.int .i64 s.c) ∧ W.cell? ((x.add (i * 6)).add 5) = some (.slice va s.data.length vc) ∧ Bys W (.slice va s.data.length vc) s.data ∧ s.data.length ≤ vc ∧ s.name.size ≤ maxLen ∧ I64 s.a ∧ I64 s.b ∧ I64 s.c := by
      intro i hi
      obtain ⟨cs', h1, h2⟩ := hel i (by omega)
      rw [ce] at h1
      obtain ⟨_, hlen, hcell⟩ := World.cells?_some h1
      obtain ⟨s, va, vc, d5, rfl, hb, ⟨x0, x1, x2, x3, x4, hD⟩, hO⟩ := kstep_cells he ce o0 o1 o2 o3 o4 o5 c0 c1 c2 c3 c4 c5 t0 t1 t2 t3 t4 t5 tu cu h2
      exact ⟨s, va, vc, ⟨x0, x1, x2, x3, x4, d5, hD, hO⟩, by simpa using hcell 0 (by omega), by simpa using hcell 1 (by omega), by simpa using hcell 2 (by omega), by simpa using hcell 3 (by omega), by simpa using hcell 4 (by omega), by simpa using hcell 5 (by omega), hb⟩
    obtain ⟨s, hs⟩ := choose_lt each
    refine ⟨(List.range len).map s, ⟨some x, m, by simp, fun h0 => ?_⟩, .inr ⟨_, _, (Prod.mk.inj hx).1, by simp, fun i hi => ?_⟩⟩
    · have h0' : 0 < len := by simpa using h0
      obtain ⟨b, off, spot⟩ := x
      obtain ⟨_, _, _, q0, _⟩ := hs 0 h0'
      have hspot : spot = none := by simpa [Addr.add] using World.cell?_spot q0
      subst hspot
      refine ⟨b, off, rfl, fun j hj => ?_⟩
      have hj' : j < len := by simpa using hj
      obtain ⟨va, vc, _, q0, q1, q2, q3, q4, q5, hb⟩ := hs j hj'
      have hadd : ∀ o k, (⟨b, o, none⟩ : Addr).add k = ⟨b, o + k, none⟩ := fun o k => by unfold Addr.add; split <;> simp_all
      rw [hadd, hadd] at q0 q1 q2 q3 q4 q5
      simp only [List.getElem_map, List.getElem_range]
      exact ⟨va, vc, by simpa using q0, q1, q2, q3, q4, q5, hb⟩
    · have hi' : i < len := by simpa using hi
      obtain ⟨va, vc, ⟨x0, x1, x2, x3, x4, d5, hD, hO⟩, _⟩ := hs i hi'
      refine ⟨x0, x1, x2, x3, x4, d5, ?_, by simpa using hO⟩
      rw [← hD]
      exact List.mem_map.2 ⟨i, by simpa using hi', rfl⟩
/-- Step j of the steps l, in any later world. -/
theorem ksts_at {W W' : World} {a : Option Addr} {n c : Nat} {l : List KSt} (h : KSts W (.slice a n c) l) (hB : Below W.heap.size W W') (j : Nat) (hj : j < l.length) :
    ∃ b off va vc, a = some ⟨b, off, none⟩ ∧ b < W.heap.size ∧ W'.cell? ⟨b, off + j * 6, none⟩ = some (.int .i64 l[j].what) ∧ W'.cell? ⟨b, off + j * 6 + 1, none⟩ = some (.string l[j].name) ∧ W'.cell? ⟨b, off + j * 6 + 2, none⟩ = some (.int .i64 l[j].a) ∧ W'.cell? ⟨b, off + j * 6 + 3, none⟩ = some (.int .i64 l[j].b) ∧
      W'.cell? ⟨b, off + j * 6 + 4, none⟩ = some (.int .i64 l[j].c) ∧ W'.cell? ⟨b, off + j * 6 + 5, none⟩ = some (.slice va l[j].data.length vc) ∧ Bys W (.slice va l[j].data.length vc) l[j].data ∧ l[j].data.length ≤ vc ∧ l[j].name.size ≤ maxLen ∧ I64 l[j].a ∧ I64 l[j].b ∧ I64 l[j].c := by
  obtain ⟨a', c', he, hc⟩ := h
  cases he
  obtain ⟨b, off, rfl, hd⟩ := hc (by omega)
  obtain ⟨va, vc, h0, h1, h2, h3, h4, h5, h6, h7⟩ := hd j hj
  have hb := World.block_lt_of_cell? W _ h0
  exact ⟨b, off, va, vc, rfl, hb, (hB.cell (p := ⟨b, off + j * 6, none⟩) hb).trans h0, (hB.cell (p := ⟨b, off + j * 6 + 1, none⟩) hb).trans h1, (hB.cell (p := ⟨b, off + j * 6 + 2, none⟩) hb).trans h2, (hB.cell (p := ⟨b, off + j * 6 + 3, none⟩) hb).trans h3, (hB.cell (p := ⟨b, off + j * 6 + 4, none⟩) hb).trans h4, (hB.cell (p := ⟨b, off + j * 6 + 5, none⟩) hb).trans h5, h6, h7⟩
end Go.Proofs.YtdjddcmpffmehaaGreat

/- CopyNamed, SameNamed. -/
namespace Go.Proofs.YtdjddcmpffmehaaGreat
open Go.RowKit

set_option maxRecDepth 100000 in
set_option maxHeartbeats 2000000 in
theorem copyNamed_any (v : Value) (l : List Nm) (w : World) (h : Nms w v l) (hs : l.length * 40 ≤ 140737488351232) (hs2 : ∀ j (hj : j < l.length), l[j].2.length ≤ 140737488351232) :
    Calls Tryz.prog 9 #[v] w fun e w' => ∃ v' us, e = .returned v' ∧ w'.ownsRow w.heap.size 47 2 v' l.length (ncs l us) ∧ LCells w' w.heap.size (l.map Prod.snd) us ∧ Below w.heap.size w w' := by
  have H0 := hide h
  obtain ⟨a1, c1, rfl⟩ := h.form
  have HS := hide hs2
  clear h hs2
  go_enter Tryz.func9, Tryz.ntmps9
  go_wp2
  go_loopw [3, 4] (fun ov i wr => ∃ (k : Nat) (us : List Value), k ≤ l.length ∧ i = .int .i64 k ∧ Hid (wr.ownsRow w.heap.size 47 2 ov k (ncs (l.take k) us)) ∧ Hid (LCells wr w.heap.size ((l.take k).map Prod.snd) us) ∧ Below w.heap.size w wr) (fun _ i _ => l.length - (intOf i).toNat)
  case atStart => exact ⟨0, [], Nat.zero_le _, rfl, World.ownsRow_nil _ _ _ _, ⟨rfl, (fun j hj => by simp at hj), (fun i j vi vj m _ h1 => by simp at h1)⟩, Below.refl _ _⟩
  case round =>
    obtain ⟨k, us, hk, rfl, HO, HL, hB⟩ := hrel
    obtain ⟨oa, oc, rfl⟩ := owns_slice HO.out
    by_cases hlt : k < l.length
    · obtain ⟨b, off, va, vc, rfl, hbl, q0, q1, hby, -⟩ := H0.out.at k hlt
      have hc0 := (hB.cell (p := ⟨b, off + k * 2, none⟩) hbl).trans q0
      have hc1 := (hB.cell (p := ⟨b, off + k * 2 + 1, none⟩) hbl).trans q1
      have hk1 : (0 : Int) ≤ (k : Int) := by omega
      have hk2 : (k : Int) < (l.length : Int) := by omega
      have HBy := hide hby
      have hl4 := HS.out k hlt
      have hsz := hB.size
      clear q0 q1 hby
      obtain ⟨p, hp⟩ : ∃ p, p = l[k] := ⟨_, rfl⟩
      rw [← hp] at hc0 hc1 HBy hl4
      have HPk := hide hp
      clear hp
      obtain ⟨nm, L⟩ := p
      simp only at hc0 hc1 HBy hl4
      have hul := HL.out.1
      simp only [List.length_map, List.length_take, Nat.min_eq_left hk] at hul
      go_wp2_with fail
      go_region_held3 (fun w' => w'.cell? ⟨b, off + k * 2, none⟩ = some (.string nm) ∧ w'.cell? ⟨b, off + k * 2 + 1, none⟩ = some (.slice va L.length vc))
        (first | exact K7 | exact Ka | exact K2 | go_keep)
        (first
          | (go_at_call 36; refine (copy_any _ L _ (HBy.out.below hB.drew) hl4).mono ?_; rintro e w2 ⟨u, rfl, hownu, hB2⟩; obtain ⟨ua, uc, rfl⟩ := owns_slice hownu; have hsd : wr.drew.heap.size = wr.heap.size := rfl; have hz2 : wr.heap.size ≤ w2.heap.size := hB2.size; have hB02 : Below w.heap.size w w2 := hB.drew.trans (hB2.mono (by omega)); have K2 : w2.cell? ⟨b, off + k * 2, none⟩ = some (.string nm) ∧ w2.cell? ⟨b, off + k * 2 + 1, none⟩ = some (.slice va L.length vc) := ⟨(hB2.cell (p := ⟨b, off + k * 2, none⟩) (by show b < wr.heap.size; omega)).trans hc0, (hB2.cell (p := ⟨b, off + k * 2 + 1, none⟩) (by show b < wr.heap.size; omega)).trans hc1⟩; have hBa : Below w2.heap.size w2 (w2.alloc (Obj.cells #[.string nm, .slice ua L.length uc] 47)) := (Below.refl _ _).alloc (Nat.le_refl _) _; have Ka : (w2.alloc (Obj.cells #[.string nm, .slice ua L.length uc] 47)).cell? ⟨b, off + k * 2, none⟩ = some (.string nm) ∧ (w2.alloc (Obj.cells #[.string nm, .slice ua L.length uc] 47)).cell? ⟨b, off + k * 2 + 1, none⟩ = some (.slice va L.length vc) := ⟨(hBa.cell (p := ⟨b, off + k * 2, none⟩) (by show b < _; omega)).trans K2.1, (hBa.cell (p := ⟨b, off + k * 2 + 1, none⟩) (by show b < _; omega)).trans K2.2⟩; have hB0a := hB02.trans (hBa.mono hB02.size); have hB2a := hB2.trans (hBa.mono hB2.size); have HOa := hide (owns_below (W := wr.drew) HO.out hB2a); have HLa := hide (LCells.below (W := wr.drew) HL.out hB2a); have HUa := hide (owns_below hownu hBa); have hcu0 : (w2.alloc (Obj.cells #[.string nm, .slice ua L.length uc] 47)).cell? ⟨w2.heap.size, 0, none⟩ = some (.string nm) := (by simp only [World.cell?, heap_alloc_new]; rfl); have hcu1 : (w2.alloc (Obj.cells #[.string nm, .slice ua L.length uc] 47)).cell? ⟨w2.heap.size, 1, none⟩ = some (.slice ua L.length uc) := (by simp only [World.cell?, heap_alloc_new]; rfl); have hza := size_new w2 (Obj.cells #[.string nm, .slice ua L.length uc] 47); obtain ⟨s', w7, hrun, HO7, hg7, hb7⟩ := run_append_named (w2.alloc (Obj.cells #[.string nm, .slice ua L.length uc] 47)) 22 w.heap.size _ k _ w2.heap.size 1 nm _ HOa.out hcu0 hcu1 rfl (by omega) (by omega); have HR := hide hrun; have HX := hide hownu; have K7 : w7.cell? ⟨b, off + k * 2, none⟩ = some (.string nm) ∧ w7.cell? ⟨b, off + k * 2 + 1, none⟩ = some (.slice va L.length vc) := ⟨(World.cell?_of_block (w := w2.alloc (Obj.cells #[.string nm, .slice ua L.length uc] 47)) (a := ⟨b, off + k * 2, none⟩) (hg7.block b (by omega) (fun e => by have := (HOa.out.lt b e.symm).1; omega))).trans Ka.1, (World.cell?_of_block (w := w2.alloc (Obj.cells #[.string nm, .slice ua L.length uc] 47)) (a := ⟨b, off + k * 2 + 1, none⟩) (hg7.block b (by omega) (fun e => by have := (HOa.out.lt b e.symm).1; omega))).trans Ka.2⟩; clear hrun hownu hcu0 hcu1)
          | (refine step_append_run _ (by rfl) _ _ _ _ (by rfl) _ _ (by rfl) (by rfl) _ _ HR.out ?_)
          | fail)
      all_goals
        go_wp2
        go_roundw
        case rel =>
          have hLa : LCells w7 w.heap.size ((l.take k).map Prod.snd) us := HLa.out.keep fun j hj v i h1 e => by
            obtain ⟨v', h2, h3⟩ := HLa.out.2.1 j hj
            rw [h1] at h2
            cases h2
            exact hg7.block i (h3.lt i e).2 (fun e' => Te_owns_apart h3 HOa.out (by decide) i e e'.symm)
          have hU7 := owns_keep (W' := w7) HUa.out fun i e => hg7.block i (HUa.out.lt i e).2 (fun e' => Te_owns_apart HUa.out HOa.out (by decide) i e e'.symm)
          refine ⟨k + 1, us ++ [.slice ua L.length uc], by omega, by go_num, ?_, ?_, hB0a.grown hg7 hB0a.size (fun j e => (HOa.out.lt j e).1)⟩
          · have h8 := HO7.out
            rw [← ncs_snoc (l.take k) us (nm, L) _ (by simp; omega)] at h8
            rw [show l.take (k + 1) = l.take k ++ [(nm, L)] by rw [List.take_add_one, List.getElem?_eq_getElem hlt, ← HPk.out]; rfl]
            exact h8
          · have h9 : k < (l.map Prod.snd).length := by simpa using hlt
            rw [List.map_take] at hLa ⊢
            refine LCells.snoc h9 hLa _ ?_ (fun j v i h1 e e' => ?_)
            · rw [List.getElem_map, ← HPk.out]
              exact owns_mono hU7 (by omega)
            · obtain ⟨v', h2, h3⟩ := HL.out.2.1 j (by have := (List.getElem?_eq_some_iff.1 h1).1; have := HL.out.1; omega)
              rw [h1] at h2
              cases h2
              have := (h3.lt i e).2
              have : wr.heap.size ≤ i := (HX.out.lt i e').1
              omega
        case measure => simp [intOf]; omega
    · have hke : k = l.length := by omega
      go_wp2
      go_ret
      have h1 := HL.out
      have h2 := HO.out
      subst hke
      rw [List.take_length] at h1 h2
      exact ⟨_, us, rfl, h2, h1, hB⟩

set_option maxRecDepth 100000 in
set_option maxHeartbeats 2000000 in
theorem sameNamed_any (v1 v2 : Value) (l : List Nm) (w : World) (h1 : Nms w v1 l) (h2 : Nms w v2 l) (hs : l.length ≤ maxLen) (hs2 : ∀ j (hj : j < l.length), l[j].2.length ≤ maxLen) :
    Calls Tryz.prog 13 #[v1, v2] w fun e w' => e = .returned (.bool true) ∧ Below w.heap.size w w' := by
  unfold maxLen at hs
  have H1 := hide h1
  have H2 := hide h2
  have HS := hide hs2
  obtain ⟨a1, c1, rfl⟩ := h1.form
  obtain ⟨a2, c2, rfl⟩ := h2.form
  clear h1 h2 hs2
  go_enter Tryz.func13, Tryz.ntmps13
  go_wp2
  go_loopw [5] (fun i wr => ∃ k : Nat, k ≤ l.length ∧ i = .int .i64 k ∧ Below w.heap.size w wr) (fun i _ => l.length - (intOf i).toNat)
  case atStart => exact ⟨0, Nat.zero_le _, rfl, Below.refl _ _⟩
  case round =>
    obtain ⟨k, hk, rfl, hB⟩ := hrel
    have hsz := hB.size
    by_cases hlt : k < l.length
    · obtain ⟨b1, o1, va1, vc1, rfl, hb1, p0, p1, hy1, -⟩ := (H1.out.below hB).at k hlt
      obtain ⟨b2, o2, va2, vc2, rfl, hb2, q0, q1, hy2, -⟩ := (H2.out.below hB).at k hlt
      have hl4 := HS.out k hlt
      generalize l[k] = p at p0 p1 q0 q1 hy1 hy2 hl4
      obtain ⟨nm, L⟩ := p
      simp only at p0 p1 q0 q1 hy1 hy2 hl4
      have hk1 : (0 : Int) ≤ (k : Int) := by omega
      have hk2 : (k : Int) < (l.length : Int) := by omega
      have HY1 := hide hy1
      have HY2 := hide hy2
      clear hy1 hy2
      go_wp2_with fail
      go_region_held3 (fun w' => w'.cell? ⟨b1, o1 + k * 2, none⟩ = some (.string nm) ∧ w'.cell? ⟨b1, o1 + k * 2 + 1, none⟩ = some (.slice va1 L.length vc1) ∧ w'.cell? ⟨b2, o2 + k * 2, none⟩ = some (.string nm) ∧ w'.cell? ⟨b2, o2 + k * 2 + 1, none⟩ = some (.slice va2 L.length vc2))
        (first | exact K5 | go_keep)
        (first
          | (go_at_call 18; refine (same_any _ _ L _ (HY1.out.below (Below.refl _ wr).drew) (HY2.out.below (Below.refl _ wr).drew) hl4).mono ?_; rintro e w5 ⟨rfl, hB5⟩; have hB05 : Below w.heap.size w w5 := hB.drew.trans (hB5.mono (by show w.heap.size ≤ wr.heap.size; omega)); have K5 : w5.cell? ⟨b1, o1 + k * 2, none⟩ = some (.string nm) ∧ w5.cell? ⟨b1, o1 + k * 2 + 1, none⟩ = some (.slice va1 L.length vc1) ∧ w5.cell? ⟨b2, o2 + k * 2, none⟩ = some (.string nm) ∧ w5.cell? ⟨b2, o2 + k * 2 + 1, none⟩ = some (.slice va2 L.length vc2) := ⟨(hB5.cell (p := ⟨b1, o1 + k * 2, none⟩) hb1).trans p0, (hB5.cell (p := ⟨b1, o1 + k * 2 + 1, none⟩) hb1).trans p1, (hB5.cell (p := ⟨b2, o2 + k * 2, none⟩) hb2).trans q0, (hB5.cell (p := ⟨b2, o2 + k * 2 + 1, none⟩) hb2).trans q1⟩)
          | fail)
      all_goals
        go_wp2
        go_roundw
        case rel => exact ⟨k + 1, by omega, by go_num, hB05⟩
        case measure => simp [intOf]; omega
    · go_wp2
      go_ret
      exact ⟨rfl, hB⟩
end Go.Proofs.YtdjddcmpffmehaaGreat

/- CopyTyped. -/
namespace Go.Proofs.YtdjddcmpffmehaaGreat
open Go.RowKit

set_option maxRecDepth 100000 in
set_option maxHeartbeats 2000000 in
theorem copyTyped_any (v : Value) (l : List Tp) (w : World) (h : Tps w v l) (hs : l.length * 40 ≤ 140737488351232) (hs2 : ∀ j (hj : j < l.length), l[j].2.length * 24 ≤ 140737488351232 ∧ ∀ i (hi : i < l[j].2.length), l[j].2[i].length ≤ 140737488351232) :
    Calls Tryz.prog 30 #[v] w fun e w' => ∃ v' us, e = .returned v' ∧ w'.ownsRow w.heap.size 50 2 v' l.length (ncs l us) ∧ us.length = l.length ∧ (∀ j (hj : j < l.length), ∃ u, us[j]? = some u ∧ TC w' w.heap.size l[j].2 u) ∧ Below w.heap.size w w' := by
  have H0 := hide h
  obtain ⟨a1, c1, rfl⟩ := h.form
  have HS := hide hs2
  clear h hs2
  go_enter Tryz.func30, Tryz.ntmps30
  go_wp2
  go_loopw [3, 4] (fun ov i wr => ∃ (k : Nat) (us : List Value), k ≤ l.length ∧ i = .int .i64 k ∧ Hid (wr.ownsRow w.heap.size 50 2 ov k (ncs (l.take k) us)) ∧ us.length = k ∧ Hid (∀ j (hj : j < l.length), j < k → ∃ u, us[j]? = some u ∧ TC wr w.heap.size l[j].2 u) ∧ Below w.heap.size w wr) (fun _ i _ => l.length - (intOf i).toNat)
  case atStart => exact ⟨0, [], Nat.zero_le _, rfl, World.ownsRow_nil _ _ _ _, rfl, (fun j _ hj => by omega), Below.refl _ _⟩
  case round =>
    obtain ⟨k, us, hk, rfl, HO, hul, HL, hB⟩ := hrel
    obtain ⟨oa, oc, rfl⟩ := owns_slice HO.out
    by_cases hlt : k < l.length
    · obtain ⟨b, off, va, vc, rfl, hbl, q0, q1, hby, -⟩ := H0.out.at k hlt
      have hc0 := (hB.cell (p := ⟨b, off + k * 2, none⟩) hbl).trans q0
      have hc1 := (hB.cell (p := ⟨b, off + k * 2 + 1, none⟩) hbl).trans q1
      have hk1 : (0 : Int) ≤ (k : Int) := by omega
      have hk2 : (k : Int) < (l.length : Int) := by omega
      have HBy := hide hby
      have hl4 := HS.out k hlt
      have hsz := hB.size
      clear q0 q1 hby
      obtain ⟨p, hp⟩ : ∃ p, p = l[k] := ⟨_, rfl⟩
      rw [← hp] at hc0 hc1 HBy hl4
      have HPk := hide hp
      clear hp
      obtain ⟨nm, L⟩ := p
      simp only at hc0 hc1 HBy hl4
      go_wp2_with fail
      go_region_held3 (fun w' => w'.cell? ⟨b, off + k * 2, none⟩ = some (.string nm) ∧ w'.cell? ⟨b, off + k * 2 + 1, none⟩ = some (.slice va L.length vc))
        (first | exact K7 | exact Ka | exact K2 | go_keep)
        (first
          | (go_at_call 55; refine (copyLists_any _ L _ (HBy.out.below hB.drew) hl4.1 hl4.2).mono ?_; rintro e w2 ⟨u, ys, rfl, hownu, hly, hB2⟩; obtain ⟨ua, uc, rfl⟩ := owns_slice hownu; have hsd : wr.drew.heap.size = wr.heap.size := rfl; have hz2 : wr.heap.size ≤ w2.heap.size := hB2.size; have hB02 : Below w.heap.size w w2 := hB.drew.trans (hB2.mono (by omega)); have K2 : w2.cell? ⟨b, off + k * 2, none⟩ = some (.string nm) ∧ w2.cell? ⟨b, off + k * 2 + 1, none⟩ = some (.slice va L.length vc) := ⟨(hB2.cell (p := ⟨b, off + k * 2, none⟩) (by show b < wr.heap.size; omega)).trans hc0, (hB2.cell (p := ⟨b, off + k * 2 + 1, none⟩) (by show b < wr.heap.size; omega)).trans hc1⟩; have hBa : Below w2.heap.size w2 (w2.alloc (Obj.cells #[.string nm, .slice ua L.length uc] 50)) := (Below.refl _ _).alloc (Nat.le_refl _) _; have Ka : (w2.alloc (Obj.cells #[.string nm, .slice ua L.length uc] 50)).cell? ⟨b, off + k * 2, none⟩ = some (.string nm) ∧ (w2.alloc (Obj.cells #[.string nm, .slice ua L.length uc] 50)).cell? ⟨b, off + k * 2 + 1, none⟩ = some (.slice va L.length vc) := ⟨(hBa.cell (p := ⟨b, off + k * 2, none⟩) (by show b < _; omega)).trans K2.1, (hBa.cell (p := ⟨b, off + k * 2 + 1, none⟩) (by show b < _; omega)).trans K2.2⟩; have hB0a := hB02.trans (hBa.mono hB02.size); have hB2a := hB2.trans (hBa.mono hB2.size); have HOa := hide (owns_below (W := wr.drew) HO.out hB2a); have HUa : Hid (TC (w2.alloc (Obj.cells #[.string nm, .slice ua L.length uc] 50)) wr.heap.size L (.slice ua L.length uc)) := hide (TC.below ⟨ys, hownu, hly⟩ hBa); have HLa : Hid (∀ j (hj : j < l.length), j < k → ∃ u, us[j]? = some u ∧ TC (w2.alloc (Obj.cells #[.string nm, .slice ua L.length uc] 50)) w.heap.size l[j].2 u) := hide (fun j hj hjk => by obtain ⟨u, h5, h6⟩ := HL.out j hj hjk; exact ⟨u, h5, TC.below (W := wr.drew) h6 hB2a⟩); have hcu0 : (w2.alloc (Obj.cells #[.string nm, .slice ua L.length uc] 50)).cell? ⟨w2.heap.size, 0, none⟩ = some (.string nm) := (by simp only [World.cell?, heap_alloc_new]; rfl); have hcu1 : (w2.alloc (Obj.cells #[.string nm, .slice ua L.length uc] 50)).cell? ⟨w2.heap.size, 1, none⟩ = some (.slice ua L.length uc) := (by simp only [World.cell?, heap_alloc_new]; rfl); have hza := size_new w2 (Obj.cells #[.string nm, .slice ua L.length uc] 50); obtain ⟨s', w7, hrun, HO7, hg7, hb7⟩ := run_append_typed (w2.alloc (Obj.cells #[.string nm, .slice ua L.length uc] 50)) 23 w.heap.size _ k _ w2.heap.size 1 nm _ HOa.out hcu0 hcu1 rfl (by omega) (by omega); have HR := hide hrun; have K7 : w7.cell? ⟨b, off + k * 2, none⟩ = some (.string nm) ∧ w7.cell? ⟨b, off + k * 2 + 1, none⟩ = some (.slice va L.length vc) := ⟨(World.cell?_of_block (w := w2.alloc (Obj.cells #[.string nm, .slice ua L.length uc] 50)) (a := ⟨b, off + k * 2, none⟩) (hg7.block b (by omega) (fun e => by have := (HOa.out.lt b e.symm).1; omega))).trans Ka.1, (World.cell?_of_block (w := w2.alloc (Obj.cells #[.string nm, .slice ua L.length uc] 50)) (a := ⟨b, off + k * 2 + 1, none⟩) (hg7.block b (by omega) (fun e => by have := (HOa.out.lt b e.symm).1; omega))).trans Ka.2⟩; clear hrun hownu hly hcu0 hcu1)
          | (refine step_append_run _ (by rfl) _ _ _ _ (by rfl) _ _ (by rfl) (by rfl) _ _ HR.out ?_)
          | fail)
      all_goals
        go_wp2
        go_roundw
        case rel =>
          refine ⟨k + 1, us ++ [.slice ua L.length uc], by omega, by go_num, ?_, by simp [hul], fun j hj hjk => ?_, hB0a.grown hg7 hB0a.size (fun j e => (HOa.out.lt j e).1)⟩
          · have h8 := HO7.out
            rw [← ncs_snoc (l.take k) us (nm, L) _ (by simp; omega)] at h8
            rw [show l.take (k + 1) = l.take k ++ [(nm, L)] by rw [List.take_add_one, List.getElem?_eq_getElem hlt, ← HPk.out]; rfl]
            exact h8
          · by_cases hje : j = k
            · subst hje
              refine ⟨_, by rw [List.getElem?_append_right (by omega), hul, Nat.sub_self]; rfl, ?_⟩
              rw [← HPk.out]
              exact (HUa.out.grown HOa.out hg7).mono (by omega)
            · obtain ⟨u, h5, h6⟩ := HLa.out j hj (by omega)
              exact ⟨u, by rw [List.getElem?_append_left (by omega)]; exact h5, h6.grown HOa.out hg7⟩
        case measure => simp [intOf]; omega
    · have hke : k = l.length := by omega
      go_wp2
      go_ret
      have h1 := HL.out
      have h2 := HO.out
      subst hke
      rw [List.take_length] at h2
      exact ⟨_, us, rfl, h2, hul, fun j hj => h1 j hj hj, hB⟩
end Go.Proofs.YtdjddcmpffmehaaGreat

/- A pipe with both ends, the page's example, and a pipe that no call made. -/
namespace Go.Proofs.YtdjddcmpffmehaaGreat
open Go.RowKit

theorem made_cells (n : Nat) : (madeCells (Value.int .u8 0).cells (n * 1)).toList = List.replicate n (.int .u8 0) := by
  apply List.ext_getElem?
  intro j
  by_cases hj : j < n
  · simp [madeCells, Value.cells, hj, Nat.mod_one]
  · simp [madeCells, Value.cells, hj]
theorem made_zeros {w w1 : World} {n : Nat} (h : w1.ownsRow w.heap.size 5 1 (.slice (some ⟨w.heap.size, 0, none⟩) n n) n (madeCells (Value.int .u8 0).cells (n * 1)).toList) (hg : w.grownBy w1 none) :
    ∃ Z : List UInt8, Z.length = n ∧ Hid (Bys w1 (.slice (some ⟨w.heap.size, 0, none⟩) n n) Z) ∧ Below w.heap.size w w1 := by
  refine ⟨List.replicate n 0, by simp, ?_, (Below.refl _ w).grown hg (Nat.le_refl _) (fun k e => by cases e)⟩
  rw [made_cells] at h
  refine Bys.of_owns (base := w.heap.size) ?_
  simpa [bv] using h

/-- What stays when a pipe that lies above turns. -/
theorem Turned.up {B g : Nat} {w0 w w' : World} (hB : Below B w0 w) (hT : Turned (fun k => k = g) w w') (hg : B ≤ g) (hs : B ≤ w.heap.size) : Below B w0 w' := hB.trans (hT.below (fun k e => by omega) hs)


end Go.Proofs.YtdjddcmpffmehaaGreat

/- Held: the bytes within a description's pipe. -/
namespace Go.Proofs.YtdjddcmpffmehaaGreat
open Go.RowKit Go.Maps

theorem pheld_any (O : Nat → Prop) (p : Nat) (q : List UInt8) (rd wt : Nat) (w : World) (h : PObj w O p (.pipe q rd wt)) :
    Calls Tryz.prog 54 #[.pointer (some ⟨p, 0, none⟩)] w fun e w' => ∃ v, e = .returned v ∧ w'.ownsRow w.heap.size 5 1 v q.length (q.map bv) ∧ Below w.heap.size w w' :=
  (held_any p q rd wt w h.1).mono fun _ _ ⟨a, b, c⟩ => ⟨_, a, b, c⟩
set_option maxRecDepth 100000 in
set_option maxHeartbeats 2000000 in
theorem kheld_any (ρ : Nat → Option PTag) (I : PI) (K : KS) (d : Int) (w : World) (h : PK w ρ I K) (hd : I64 d) :
    Calls Tryz.prog 29 #[.pointer (some ⟨I.kb, 0, none⟩), .int .i64 d] w fun e w' => ∃ v, e = .returned v ∧ w'.ownsRow w.heap.size 5 1 v (K.heldOf d).length ((K.heldOf d).map bv) ∧ Below w.heap.size w w' := by
  have HF := hide (described_any ρ I K d w h hd)
  cases hx : K.find d with
  | none =>
    rw [hx] at HF
    rw [KS.heldOf_none hx]
    clear h
    go_enter Tryz.func29, Tryz.ntmps29
    go_wp2_with fail
    refine HF.out.mono ?_
    rintro e w1 ⟨rfl, rfl⟩
    unfold descV
    go_wp2
    go_ret
    exact ⟨_, rfl, World.ownsRow_nil _ _ _ _, Below.refl _ _⟩
  | some x =>
    rw [hx] at HF
    rw [KS.heldOf_some hx]
    have hm := (KS.find_some hx).1
    have c0 := (h.desc hm).thing
    have HO := hide (h.pobj hm)
    unfold descV at HF
    cases ho : K.tho x with
    | file b =>
      rw [show thingV I K x = .iface 119 (.pointer (some ⟨I.xb x.n, 0, none⟩)) by unfold thingV; rw [ho]] at c0
      clear h HO
      go_enter Tryz.func29, Tryz.ntmps29
      go_wp2_with fail
      refine HF.out.mono ?_
      rintro e w1 ⟨rfl, rfl⟩
      go_wp2_with fail
      refine (pipeOf_file _ _).mono ?_
      rintro e w2 ⟨rfl, hB2⟩
      go_wp2
      go_ret
      exact ⟨_, rfl, World.ownsRow_nil _ _ _ _, hB2.alloc hB2.size _⟩
    | term ls scr =>
      rw [show thingV I K x = .iface 84 (.pointer (some ⟨I.cb x.th, 0, none⟩)) by unfold thingV; rw [ho]] at c0
      clear h HO
      go_enter Tryz.func29, Tryz.ntmps29
      go_wp2_with fail
      refine HF.out.mono ?_
      rintro e w1 ⟨rfl, rfl⟩
      go_wp2_with fail
      refine (pipeOf_term _ _).mono ?_
      rintro e w2 ⟨rfl, hB2⟩
      go_wp2
      go_ret
      exact ⟨_, rfl, World.ownsRow_nil _ _ _ _, hB2.alloc hB2.size _⟩
    | pipe q rd wt =>
      rw [show thingV I K x = .iface 112 (.agg #[.pointer (some ⟨I.ob x.th, 0, none⟩)]) by unfold thingV; rw [ho]] at c0
      rw [ho] at HO
      clear h
      go_enter Tryz.func29, Tryz.ntmps29
      go_wp2_with fail
      refine HF.out.mono ?_
      rintro e w1 ⟨rfl, rfl⟩
      go_wp2_with fail
      refine (pipeOf_yes _ _).mono ?_
      rintro e w2 ⟨rfl, hB2⟩
      have hs2 := hB2.size
      have HB2 := hide hB2
      have hB3 := hB2.alloc hB2.size (Obj.cells #[.pointer (some ⟨I.ob x.th, 0, none⟩)] 112)
      have HB3 := hide hB3
      have HO3 := hide (HO.out.keep (fun k _ hlt => hB3.block k hlt) hB3.size)
      clear hB2 hB3
      go_wp2_with fail
      refine (pheld_any _ (I.ob x.th) q rd wt _ HO3.out).mono ?_
      rintro e w4 ⟨v, rfl, hO4, hB4⟩
      have HO4 := hide (owns_mono hO4 HB3.out.size)
      have HB4 := hide (HB3.out.trans (hB4.mono HB3.out.size))
      clear hO4 hB4
      go_wp2
      go_ret
      exact ⟨v, rfl, HO4.out, HB4.out⟩
theorem KAt.held {w : World} {O : Nat → Prop} {kb : Nat} {K : KS} (h : KAt w O kb K) (d : Int) (hd : I64 d) :
    Calls Tryz.prog 29 #[.pointer (some ⟨kb, 0, none⟩), .int .i64 d] w fun e w' => ∃ v, e = .returned v ∧ w'.ownsRow w.heap.size 5 1 v (K.heldOf d).length ((K.heldOf d).map bv) ∧ Below w.heap.size w w' := by
  obtain ⟨ρ, I, h1, rfl, h3⟩ := h
  exact kheld_any ρ I K d w h1 hd
end Go.Proofs.YtdjddcmpffmehaaGreat

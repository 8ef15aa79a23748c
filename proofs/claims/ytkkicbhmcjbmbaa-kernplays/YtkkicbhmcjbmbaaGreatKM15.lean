/- What the proof stands on, part 15: the contracts of the program's calls that it reaches. -/
import Derived.Test.YtkkicbhmcjbmbaaGreatKM14
import Derived.ProofKit
import Derived.OpenShut
import Derived.ChangeSlices
import Derived.ChangeArms
import Derived.Deep.SlicePairs
/- Faults, and ints, that came in as an argument: what a walk is told of them. -/
namespace Go.Proofs.YtkkicbhmcjbmbaaGreat
open Go.ChangeShapes Go.WideShapes Go.ChangeAt Go.RowKit Go.Deep

theorem faults_arg {H : Type} {enc : TypeId × Value → H} {P : Program} {W : World} {base : Nat} {a : Option Addr} {len cap fuel t e : Nat} {f0 f1 : Field} {d : DataW H} {p : List MemPlace}
    (ht : P.underlying t = some (.slice e)) (he : P.underlying e = some (.struct #[f0, f1])) (ce : P.cellsOf e = 2) (o0 : f0.offset = 0) (o1 : f1.offset = 1) (c0 : P.cellsOf f0.type = 1) (c1 : P.cellsOf f1.type = 1)
    (t0 : P.underlying f0.type = some (.int .i64)) (t1 : P.underlying f1.type = some (.int .i64))
    (hf : DataW.trod enc P W base (fun _ => true) true fuel t (Value.slice a len cap).cells.toList = some (d, p)) :
    ∃ l : List Fault, Flts W (.slice a len cap) l ∧ ((d = .nil ∧ l = []) ∨ ∃ elems spare : List (DataW H), d = .slice elems spare ∧ l.length = elems.length) := by
  rcases open_slice_pairs ht he ce o0 o1 c0 c1 hf with ⟨hcs, hd⟩ | ⟨x, n, c, m, q, V0, V1, D0, D1, P0, P1, hcs, _, hl, hm, hmm, hx, hcell⟩
  · simp [Value.cells] at hcs
    obtain ⟨rfl, rfl, rfl⟩ := hcs
    exact ⟨[], .inl ⟨rfl, rfl⟩, .inl ⟨(Prod.mk.inj hd).1, rfl⟩⟩
  · simp [Value.cells] at hcs
    obtain ⟨rfl, rfl, rfl⟩ := hcs
    simp only [if_true] at hmm
    subst hmm
    have hz : ∀ i, i < m → ∃ y z, V0 i = .int .i64 y ∧ V1 i = .int .i64 z := fun i hi => by
      obtain ⟨_, _, h0, h1⟩ := hcell i hi
      obtain ⟨y, hy, _⟩ := DataW.trod_int t0 h0
      obtain ⟨z, hz, _⟩ := DataW.trod_int t1 h1
      exact ⟨y, z, by simpa using hy, by simpa using hz⟩
    let val : Value → Int := fun | .int _ z => z | _ => 0
    refine ⟨(List.range len).map fun i => (val (V0 i), val (V1 i)), ?_, .inr ⟨_, _, (Prod.mk.inj hx).1, by simp⟩⟩
    by_cases h0 : len = 0
    · subst h0
      exact .inr (.inl ⟨x, m, rfl, by simp⟩)
    · obtain ⟨b, off, spot⟩ := x
      have hspot : spot = none := by simpa [Addr.add] using World.cell?_spot (hcell 0 (by omega)).1
      subst hspot
      refine .inr (.inr ⟨b, off, m, by simp, by simp; omega, by simpa using hl, fun j hj => ?_⟩)
      have hj' : j < len := by simpa using hj
      obtain ⟨h1, h2, _⟩ := hcell j (by omega)
      obtain ⟨y, z, hy, hz⟩ := hz j (by omega)
      have hadd : ∀ k, (⟨b, off, none⟩ : Addr).add k = ⟨b, off + k, none⟩ := fun k => by unfold Addr.add; split <;> simp_all
      rw [hadd] at h1 h2
      rw [h1, Nat.add_assoc, h2, hy, hz]
      simp [List.getD_eq_getElem?_getD, hj', hy, hz, val]

/-- The slice value v holds the ints l. -/
def Fa_Ints (W : World) (v : Value) (l : List Int) : Prop :=
  ∃ a c, v = .slice a l.length c ∧ (0 < l.length → ∃ b off, a = some ⟨b, off, none⟩ ∧ ∀ j, j < l.length → W.cell? ⟨b, off + j, none⟩ = some (.int .i64 (l.getD j 0)))
theorem Fa_Ints.below {W W' : World} {v : Value} {l : List Int} (h : Fa_Ints W v l) (hB : Below W.heap.size W W') : Fa_Ints W' v l := by
  obtain ⟨a, c, rfl, h⟩ := h
  refine ⟨a, c, rfl, fun h0 => ?_⟩
  obtain ⟨b, off, rfl, hc⟩ := h h0
  refine ⟨b, off, rfl, fun j hj => ?_⟩
  have := World.block_lt_of_cell? W _ (hc j hj)
  exact (hB.cell (p := ⟨b, off + j, none⟩) this).trans (hc j hj)

theorem ints_arg {H : Type} {enc : TypeId × Value → H} {P : Program} {W : World} {base : Nat} {a : Option Addr} {len cap fuel t e : Nat} {d : DataW H} {p : List MemPlace}
    (ht : P.underlying t = some (.slice e)) (he : P.underlying e = some (.int .i64)) (hc : P.cellsOf e = 1)
    (hf : DataW.trod enc P W base (fun _ => true) true fuel t (Value.slice a len cap).cells.toList = some (d, p)) :
    ∃ l : List Int, Fa_Ints W (.slice a len cap) l ∧ ((d = .nil ∧ l = []) ∨ ∃ elems spare : List (DataW H), d = .slice elems spare ∧ l.length = elems.length) := by
  rcases open_ints ht he hc hf with ⟨hcs, hd⟩ | ⟨x, n, c, zs, hcs, _, hl, hm, hz, hx, hcell, hwz⟩
  · simp [Value.cells] at hcs
    obtain ⟨rfl, rfl, rfl⟩ := hcs
    exact ⟨[], ⟨_, _, rfl, fun h => absurd h (by decide)⟩, .inl ⟨(Prod.mk.inj hd).1, rfl⟩⟩
  · simp [Value.cells] at hcs
    obtain ⟨rfl, rfl, rfl⟩ := hcs
    simp only [if_true] at hz
    have hlen : (zs.take len).length = len := by rw [List.length_take]; omega
    refine ⟨zs.take len, ⟨some x, cap, by rw [hlen], fun h0 => ?_⟩, .inr ⟨_, _, (Prod.mk.inj hx).1, by simp [lits]⟩⟩
    rw [hlen] at h0
    obtain ⟨b, off, spot⟩ := x
    have hspot : spot = none := by simpa [Addr.add] using World.cell?_spot (hcell 0 (by omega))
    subst hspot
    refine ⟨b, off, rfl, fun j hj => ?_⟩
    rw [hlen] at hj
    have h1 := hcell j (by omega)
    have hadd : (⟨b, off, none⟩ : Addr).add j = ⟨b, off + j, none⟩ := by unfold Addr.add; split <;> simp_all
    rw [hadd] at h1
    rw [h1]
    have hjz : j < zs.length := by omega
    simp [List.getD_eq_getElem?_getD, hj, List.getElem?_eq_getElem hjz]
end Go.Proofs.YtkkicbhmcjbmbaaGreat

/- Files, terminals, steps and setups that came in as an argument: what a walk is told of them, and their sizes. -/
namespace Go.Proofs.YtkkicbhmcjbmbaaGreat
open Go.ChangeShapes Go.WideShapes Go.ChangeAt Go.RowKit Go.Deep

/-- Within the reach of memory, through and through. -/
def Small {H : Type} (P : Program) (t : TypeId) (d : DataW H) : Prop := ∀ n ∈ d.weights P t, n ≤ reachBytes
theorem small_arg {H : Type} {P : Program} {ts : List TypeId} {ds : List (DataW H)} (h : (DataW.weightsEach P ts ds).all (· ≤ reachBytes) = true) {j : Nat} {t : TypeId} {d : DataW H} (ht : ts[j]? = some t) (hd : ds[j]? = some d) : Small P t d :=
  fun n hn => of_decide_eq_true (List.all_eq_true.1 h _ (DataW.weights_mem_each ht hd n hn))
theorem Small.slice {H : Type} {P : Program} {t e : TypeId} {es sp : List (DataW H)} (h : Small P t (.slice es sp)) (hu : P.underlying t = some (.slice e)) : (es.length + sp.length) * P.bytesOf e ≤ reachBytes ∧ ∀ d ∈ es, Small P e d :=
  ⟨h _ (by simp [DataW.weights, hu]), fun d hd n hn => h n (by
    simp only [DataW.weights, hu, List.mem_cons, List.mem_append]
    exact Or.inr (Or.inl (Kp_weightsAll_mem hd n hn)))⟩
theorem Small.fields {H : Type} {P : Program} {t : TypeId} {fs : Array Field} {ds : List (DataW H)} (h : Small P t (.agg ds)) (hu : P.underlying t = some (.struct fs)) (j : Nat) (f : Field) (d : DataW H) (hf : fs[j]? = some f) (hd : ds[j]? = some d) : Small P f.type d := fun n hn => h n (by
    simp only [DataW.weights, hu]
    exact DataW.weights_mem_each (by rw [List.getElem?_map, Array.getElem?_toList, hf]; rfl) hd n hn)

/-- How a slice of bytes, of lines, of named, of typed inside a datum is told. -/
def LnD {H : Type} (d : DataW H) (ls : List (List UInt8)) : Prop := (d = .nil ∧ ls = []) ∨ ∃ elems spare : List (DataW H), d = .slice elems spare ∧ ls.length = elems.length ∧ ∀ i (hi : i < ls.length), ∃ di, di ∈ elems ∧ Te_DataOf di ls[i]
def NmD {H : Type} (d : DataW H) (l : List Nm) : Prop := (d = .nil ∧ l = []) ∨ ∃ elems spare : List (DataW H), d = .slice elems spare ∧ l.length = elems.length ∧ ∀ i (hi : i < l.length), ∃ x0 d1, DataW.agg [x0, d1] ∈ elems ∧ Kp_DataOf d1 l[i].2
def TpD {H : Type} (d : DataW H) (l : List Tp) : Prop := (d = .nil ∧ l = []) ∨ ∃ elems spare : List (DataW H), d = .slice elems spare ∧ l.length = elems.length ∧ ∀ i (hi : i < l.length), ∃ x0 d1, DataW.agg [x0, d1] ∈ elems ∧ LnD d1 l[i].2
theorem bytes_small {H : Type} {P : Program} {t e : TypeId} {d : DataW H} {x : List UInt8} (h : Small P t d) (hu : P.underlying t = some (.slice e)) (be : P.bytesOf e = 1) (hO : Kp_DataOf d x) : x.length ≤ 140737488351232 := by
  rcases hO with ⟨_, rfl⟩ | ⟨es, sp, rfl, hl⟩
  · simp
  · have := (h.slice hu).1
    rw [be] at this
    simp only [reachBytes] at this
    omega
theorem lines_small {H : Type} {P : Program} {t e u : TypeId} {d : DataW H} {ls : List (List UInt8)} (h : Small P t d) (hu : P.underlying t = some (.slice e)) (he : P.underlying e = some (.slice u)) (be : P.bytesOf e = 24) (bu : P.bytesOf u = 1) (hO : LnD d ls) : ls.length * 24 ≤ 140737488351232 ∧ ∀ i (hi : i < ls.length), ls[i].length ≤ 140737488351232 := by
  rcases hO with ⟨_, rfl⟩ | ⟨es, sp, rfl, hl, hel⟩
  · exact ⟨by simp, fun i hi => absurd hi (by simp)⟩
  · obtain ⟨h1, h2⟩ := h.slice hu
    rw [be] at h1
    simp only [reachBytes] at h1
    refine ⟨by omega, fun i hi => ?_⟩
    obtain ⟨di, hm, hO⟩ := hel i hi
    exact bytes_small (h2 di hm) he bu hO
theorem named_small {H : Type} {P : Program} {t e u : TypeId} {f0 f1 : Field} {d : DataW H} {l : List Nm} (h : Small P t d) (hu : P.underlying t = some (.slice e)) (be : P.bytesOf e = 40) (he : P.underlying e = some (.struct #[f0, f1])) (t1 : P.underlying f1.type = some (.slice u)) (bu : P.bytesOf u = 1) (hO : NmD d l) : l.length * 40 ≤ 140737488351232 ∧ ∀ i (hi : i < l.length), l[i].2.length ≤ 140737488351232 := by
  rcases hO with ⟨_, rfl⟩ | ⟨es, sp, rfl, hl, hel⟩
  · exact ⟨by simp, fun i hi => absurd hi (by simp)⟩
  · obtain ⟨h1, h2⟩ := h.slice hu
    rw [be] at h1
    simp only [reachBytes] at h1
    refine ⟨by omega, fun i hi => ?_⟩
    obtain ⟨x0, d1, hm, hO⟩ := hel i hi
    exact bytes_small ((h2 _ hm).fields he 1 f1 d1 rfl rfl) t1 bu hO
theorem typed_small {H : Type} {P : Program} {t e u v : TypeId} {f0 f1 : Field} {d : DataW H} {l : List Tp} (h : Small P t d) (hu : P.underlying t = some (.slice e)) (be : P.bytesOf e = 40) (he : P.underlying e = some (.struct #[f0, f1])) (t1 : P.underlying f1.type = some (.slice u)) (tu : P.underlying u = some (.slice v)) (bu : P.bytesOf u = 24) (bv : P.bytesOf v = 1) (hO : TpD d l) :
    l.length * 40 ≤ 140737488351232 ∧ ∀ i (hi : i < l.length), l[i].2.length * 24 ≤ 140737488351232 ∧ ∀ k (hk : k < l[i].2.length), l[i].2[k].length ≤ 140737488351232 := by
  rcases hO with ⟨_, rfl⟩ | ⟨es, sp, rfl, hl, hel⟩
  · exact ⟨by simp, fun i hi => absurd hi (by simp)⟩
  · obtain ⟨h1, h2⟩ := h.slice hu
    rw [be] at h1
    simp only [reachBytes] at h1
    refine ⟨by omega, fun i hi => ?_⟩
    obtain ⟨x0, d1, hm, hO⟩ := hel i hi
    exact lines_small ((h2 _ hm).fields he 1 f1 d1 rfl rfl) t1 tu bu bv hO

theorem named_cells {H : Type} {enc : TypeId × Value → H} {P : Program} {W : World} {base : Nat} {fuel e u : Nat} {f0 f1 : Field} {cs : List Value} {d : DataW H} {p : List MemPlace}
    (he : P.underlying e = some (.struct #[f0, f1])) (ce : P.cellsOf e = 2) (o0 : f0.offset = 0) (o1 : f1.offset = 1) (c0 : P.cellsOf f0.type = 1) (c1 : P.cellsOf f1.type = 1)
    (t0 : P.underlying f0.type = some .string) (t1 : P.underlying f1.type = some (.slice u)) (tu : P.underlying u = some (.int .u8)) (cu : P.cellsOf u = 1)
    (h : DataW.trod enc P W base (fun _ => true) true fuel e cs = some (d, p)) :
    ∃ (x : Nm) (va : Option Addr) (vc : Nat) (d1 : DataW H), cs = [.string x.1, .slice va x.2.length vc] ∧ (Bys W (.slice va x.2.length vc) x.2 ∧ x.2.length ≤ vc ∧ x.1.size ≤ maxLen) ∧ (∃ x0, d = .agg [x0, d1]) ∧ Kp_DataOf d1 x.2 := by
  obtain ⟨xs, k, hk, hxy, hcl, hxl, hf⟩ := DataW.trod_struct he h
  rw [ce] at hcl
  match xs, hxl, cs, hcl with
  | [y0, y1], _, [v0, v1], _ =>
    have g0 := hf 0 f0 rfl
    have g1 := hf 1 f1 rfl
    simp [o0, c0] at g0
    simp [o1, c1] at g1
    obtain ⟨a, ha, _, hsz⟩ := DataW.trod_string t0 g0
    obtain rfl : v0 = .string a := by simpa using ha
    obtain ⟨va, vl, vc, rfl⟩ : ∃ va vl vc, v1 = .slice va vl vc := by
      rcases DataW.trod_slice t1 g1 with ⟨h0, _⟩ | ⟨x, len, cap, _, _, _, _, h0, _⟩
      · exact ⟨_, _, _, by simpa using h0⟩
      · exact ⟨_, _, _, by simpa using h0⟩
    obtain ⟨y1a, y1b⟩ := y1
    obtain ⟨l, hl, hlc, hd⟩ := bytes_arg2 t1 tu cu (by simpa [Value.cells] using g1)
    obtain rfl := Kp_bys_len hl
    simp only [Prod.mk.injEq] at hxy
    exact ⟨(a, l), va, vc, y1a, rfl, ⟨hl, hlc, hsz⟩, ⟨_, by simpa using hxy.1⟩, hd⟩
theorem nms_arg {H : Type} {enc : TypeId × Value → H} {P : Program} {W : World} {base : Nat} {a : Option Addr} {len cap fuel t e u : Nat} {f0 f1 : Field} {d : DataW H} {p : List MemPlace}
    (ht : P.underlying t = some (.slice e)) (he : P.underlying e = some (.struct #[f0, f1])) (ce : P.cellsOf e = 2) (o0 : f0.offset = 0) (o1 : f1.offset = 1) (c0 : P.cellsOf f0.type = 1) (c1 : P.cellsOf f1.type = 1)
    (t0 : P.underlying f0.type = some .string) (t1 : P.underlying f1.type = some (.slice u)) (tu : P.underlying u = some (.int .u8)) (cu : P.cellsOf u = 1)
    (hf : DataW.trod enc P W base (fun _ => true) true fuel t (Value.slice a len cap).cells.toList = some (d, p)) : ∃ l : List Nm, Nms W (.slice a len cap) l ∧ NmD d l := by
  rcases open_slice ht hf with ⟨hcs, hd⟩ | ⟨x, n, c, m, k, D, Pl, hcs, _, hl, hm, hmm, hx, hel⟩
  · simp [Value.cells] at hcs
    obtain ⟨rfl, rfl, rfl⟩ := hcs
    exact ⟨[], ⟨_, _, rfl, Nat.le_refl _, fun h => absurd h (by decide)⟩, .inl ⟨(Prod.mk.inj hd).1, rfl⟩⟩
  · simp [Value.cells] at hcs
    obtain ⟨rfl, rfl, rfl⟩ := hcs
    simp only [if_true] at hmm
    subst hmm
    have each : ∀ i, i < len → ∃ s : Nm, ∃ va vc, (∃ x0 d1, D i = .agg [x0, d1] ∧ Kp_DataOf d1 s.2) ∧
        W.cell? ((x.add (i * 2)).add 0) = some (.string s.1) ∧ W.cell? ((x.add (i * 2)).add 1) = some (.slice va s.2.length vc) ∧ Bys W (.slice va s.2.length vc) s.2 ∧ s.2.length ≤ vc ∧ s.1.size ≤ maxLen := by
      intro i hi
      obtain ⟨cs', h1, h2⟩ := hel i (by omega)
      rw [ce] at h1
      obtain ⟨_, hlen, hcell⟩ := World.cells?_some h1
      obtain ⟨s, va, vc, d1, rfl, hb, ⟨x0, hD⟩, hO⟩ := named_cells he ce o0 o1 c0 c1 t0 t1 tu cu h2
      exact ⟨s, va, vc, ⟨x0, d1, hD, hO⟩, by simpa using hcell 0 (by omega), by simpa using hcell 1 (by omega), hb⟩
    obtain ⟨s, hs⟩ := choose_lt each
    refine ⟨(List.range len).map s, ⟨some x, m, by simp, by simpa using hl, fun h0 => ?_⟩, .inr ⟨_, _, (Prod.mk.inj hx).1, by simp, fun i hi => ?_⟩⟩
    · have h0' : 0 < len := by simpa using h0
      obtain ⟨b, off, spot⟩ := x
      obtain ⟨_, _, _, q0, _⟩ := hs 0 h0'
      have hspot : spot = none := by simpa [Addr.add] using World.cell?_spot q0
      subst hspot
      refine ⟨b, off, rfl, fun j hj => ?_⟩
      have hj' : j < len := by simpa using hj
      obtain ⟨va, vc, _, q0, q1, hb⟩ := hs j hj'
      have hadd : ∀ o k, (⟨b, o, none⟩ : Addr).add k = ⟨b, o + k, none⟩ := fun o k => by unfold Addr.add; split <;> simp_all
      rw [hadd, hadd] at q0 q1
      simp only [List.getElem_map, List.getElem_range]
      exact ⟨va, vc, by simpa using q0, q1, hb⟩
    · have hi' : i < len := by simpa using hi
      obtain ⟨va, vc, ⟨x0, d1, hD, hO⟩, _⟩ := hs i hi'
      refine ⟨x0, d1, ?_, by simpa using hO⟩
      rw [← hD]
      exact List.mem_map.2 ⟨i, by simpa using hi', rfl⟩
theorem typed_cells {H : Type} {enc : TypeId × Value → H} {P : Program} {W : World} {base : Nat} {fuel e u v : Nat} {f0 f1 : Field} {cs : List Value} {d : DataW H} {p : List MemPlace}
    (he : P.underlying e = some (.struct #[f0, f1])) (ce : P.cellsOf e = 2) (o0 : f0.offset = 0) (o1 : f1.offset = 1) (c0 : P.cellsOf f0.type = 1) (c1 : P.cellsOf f1.type = 1)
    (t0 : P.underlying f0.type = some .string) (t1 : P.underlying f1.type = some (.slice u)) (tu : P.underlying u = some (.slice v)) (cu : P.cellsOf u = 1) (tv : P.underlying v = some (.int .u8)) (cv : P.cellsOf v = 1)
    (h : DataW.trod enc P W base (fun _ => true) true fuel e cs = some (d, p)) :
    ∃ (x : Tp) (va : Option Addr) (vc : Nat) (d1 : DataW H), cs = [.string x.1, .slice va x.2.length vc] ∧ (Lns W (.slice va x.2.length vc) x.2 ∧ x.1.size ≤ maxLen) ∧ (∃ x0, d = .agg [x0, d1]) ∧ LnD d1 x.2 := by
  obtain ⟨xs, k, hk, hxy, hcl, hxl, hf⟩ := DataW.trod_struct he h
  rw [ce] at hcl
  match xs, hxl, cs, hcl with
  | [y0, y1], _, [v0, v1], _ =>
    have g0 := hf 0 f0 rfl
    have g1 := hf 1 f1 rfl
    simp [o0, c0] at g0
    simp [o1, c1] at g1
    obtain ⟨a, ha, _, hsz⟩ := DataW.trod_string t0 g0
    obtain rfl : v0 = .string a := by simpa using ha
    obtain ⟨va, vl, vc, rfl⟩ : ∃ va vl vc, v1 = .slice va vl vc := by
      rcases DataW.trod_slice t1 g1 with ⟨h0, _⟩ | ⟨x, len, cap, _, _, _, _, h0, _⟩
      · exact ⟨_, _, _, by simpa using h0⟩
      · exact ⟨_, _, _, by simpa using h0⟩
    obtain ⟨y1a, y1b⟩ := y1
    obtain ⟨l, hl, hd⟩ := lns_arg t1 tu cu tv cv (by simpa [Value.cells] using g1)
    obtain rfl : vl = l.length := by
      obtain ⟨a', c', he, _⟩ := hl
      cases he
      rfl
    simp only [Prod.mk.injEq] at hxy
    exact ⟨(a, l), va, vc, y1a, rfl, ⟨hl, hsz⟩, ⟨_, by simpa using hxy.1⟩, hd⟩
theorem tps_arg {H : Type} {enc : TypeId × Value → H} {P : Program} {W : World} {base : Nat} {a : Option Addr} {len cap fuel t e u v : Nat} {f0 f1 : Field} {d : DataW H} {p : List MemPlace}
    (ht : P.underlying t = some (.slice e)) (he : P.underlying e = some (.struct #[f0, f1])) (ce : P.cellsOf e = 2) (o0 : f0.offset = 0) (o1 : f1.offset = 1) (c0 : P.cellsOf f0.type = 1) (c1 : P.cellsOf f1.type = 1)
    (t0 : P.underlying f0.type = some .string) (t1 : P.underlying f1.type = some (.slice u)) (tu : P.underlying u = some (.slice v)) (cu : P.cellsOf u = 1) (tv : P.underlying v = some (.int .u8)) (cv : P.cellsOf v = 1)
    (hf : DataW.trod enc P W base (fun _ => true) true fuel t (Value.slice a len cap).cells.toList = some (d, p)) : ∃ l : List Tp, Tps W (.slice a len cap) l ∧ TpD d l := by
  rcases open_slice ht hf with ⟨hcs, hd⟩ | ⟨x, n, c, m, k, D, Pl, hcs, _, hl, hm, hmm, hx, hel⟩
  · simp [Value.cells] at hcs
    obtain ⟨rfl, rfl, rfl⟩ := hcs
    exact ⟨[], ⟨_, _, rfl, Nat.le_refl _, fun h => absurd h (by decide)⟩, .inl ⟨(Prod.mk.inj hd).1, rfl⟩⟩
  · simp [Value.cells] at hcs
    obtain ⟨rfl, rfl, rfl⟩ := hcs
    simp only [if_true] at hmm
    subst hmm
    have each : ∀ i, i < len → ∃ s : Tp, ∃ va vc, (∃ x0 d1, D i = .agg [x0, d1] ∧ LnD d1 s.2) ∧
        W.cell? ((x.add (i * 2)).add 0) = some (.string s.1) ∧ W.cell? ((x.add (i * 2)).add 1) = some (.slice va s.2.length vc) ∧ Lns W (.slice va s.2.length vc) s.2 ∧ s.1.size ≤ maxLen := by
      intro i hi
      obtain ⟨cs', h1, h2⟩ := hel i (by omega)
      rw [ce] at h1
      obtain ⟨_, hlen, hcell⟩ := World.cells?_some h1
      obtain ⟨s, va, vc, d1, rfl, hb, ⟨x0, hD⟩, hO⟩ := typed_cells he ce o0 o1 c0 c1 t0 t1 tu cu tv cv h2
      exact ⟨s, va, vc, ⟨x0, d1, hD, hO⟩, by simpa using hcell 0 (by omega), by simpa using hcell 1 (by omega), hb⟩
    obtain ⟨s, hs⟩ := choose_lt each
    refine ⟨(List.range len).map s, ⟨some x, m, by simp, by simpa using hl, fun h0 => ?_⟩, .inr ⟨_, _, (Prod.mk.inj hx).1, by simp, fun i hi => ?_⟩⟩
    · have h0' : 0 < len := by simpa using h0
      obtain ⟨b, off, spot⟩ := x
      obtain ⟨_, _, _, q0, _⟩ := hs 0 h0'
      have hspot : spot = none := by simpa [Addr.add] using World.cell?_spot q0
      subst hspot
      refine ⟨b, off, rfl, fun j hj => ?_⟩
      have hj' : j < len := by simpa using hj
      obtain ⟨va, vc, _, q0, q1, hb⟩ := hs j hj'
      have hadd : ∀ o k, (⟨b, o, none⟩ : Addr).add k = ⟨b, o + k, none⟩ := fun o k => by unfold Addr.add; split <;> simp_all
      rw [hadd, hadd] at q0 q1
      simp only [List.getElem_map, List.getElem_range]
      exact ⟨va, vc, by simpa using q0, q1, hb⟩
    · have hi' : i < len := by simpa using hi
      obtain ⟨va, vc, ⟨x0, d1, hD, hO⟩, _⟩ := hs i hi'
      refine ⟨x0, d1, ?_, by simpa using hO⟩
      rw [← hD]
      exact List.mem_map.2 ⟨i, by simpa using hi', rfl⟩

/-- How faults inside a datum are told. -/
def FlD {H : Type} (d : DataW H) (l : List Fault) : Prop := (d = .nil ∧ l = []) ∨ ∃ elems spare : List (DataW H), d = .slice elems spare ∧ l.length = elems.length
theorem faults_small {H : Type} {P : Program} {t e : TypeId} {d : DataW H} {l : List Fault} (h : Small P t d) (hu : P.underlying t = some (.slice e)) (be : P.bytesOf e = 16) (hO : FlD d l) : l.length * 16 ≤ 140737488351232 := by
  rcases hO with ⟨_, rfl⟩ | ⟨es, sp, rfl, hl⟩
  · simp
  · have := (h.slice hu).1
    rw [be] at this
    simp only [reachBytes] at this
    omega

/-- A setup: files, terminals, faults. -/
theorem setup_cells {H : Type} {enc : TypeId × Value → H} {P : Program} {W : World} {base : Nat} {fuel e : Nat} {f0 f1 f2 : Field} {cs : List Value} {d : DataW H} {p : List MemPlace}
    (he : P.underlying e = some (.struct #[f0, f1, f2])) (ce : P.cellsOf e = 3) (o0 : f0.offset = 0) (o1 : f1.offset = 1) (o2 : f2.offset = 2) (c0 : P.cellsOf f0.type = 1) (c1 : P.cellsOf f1.type = 1) (c2 : P.cellsOf f2.type = 1)
    {n0 n1 n2 : Nat} (t0 : P.underlying f0.type = some (.slice n0)) (t1 : P.underlying f1.type = some (.slice n1)) (t2 : P.underlying f2.type = some (.slice n2))
    (h : DataW.trod enc P W base (fun _ => true) true fuel e cs = some (d, p)) :
    ∃ a0 l0 k0 a1 l1 k1 a2 l2 k2 d0 d1 d2 fl q0 q1 q2, cs = [.slice a0 l0 k0, .slice a1 l1 k1, .slice a2 l2 k2] ∧ d = .agg [d0, d1, d2] ∧
      DataW.trod enc P W base (fun _ => true) true fl f0.type (Value.slice a0 l0 k0).cells.toList = some (d0, q0) ∧ DataW.trod enc P W base (fun _ => true) true fl f1.type (Value.slice a1 l1 k1).cells.toList = some (d1, q1) ∧ DataW.trod enc P W base (fun _ => true) true fl f2.type (Value.slice a2 l2 k2).cells.toList = some (d2, q2) := by
  obtain ⟨xs, k, hk, hxy, hcl, hxl, hf⟩ := DataW.trod_struct he h
  rw [ce] at hcl
  match xs, hxl, cs, hcl with
  | [(d0, q0), (d1, q1), (d2, q2)], _, [v0, v1, v2], _ =>
    have g0 := hf 0 f0 rfl
    have g1 := hf 1 f1 rfl
    have g2 := hf 2 f2 rfl
    simp [o0, c0] at g0
    simp [o1, c1] at g1
    simp [o2, c2] at g2
    have sl : ∀ {t n v x}, P.underlying t = some (.slice n) → DataW.trod enc P W base (fun _ => true) true k t [v] = some x → ∃ va vl vc, v = .slice va vl vc := fun ht hg => by
      rcases DataW.trod_slice ht hg with ⟨h0, _⟩ | ⟨x, len, cap, _, _, _, _, h0, _⟩
      · exact ⟨_, _, _, by simpa using h0⟩
      · exact ⟨_, _, _, by simpa using h0⟩
    obtain ⟨a0, l0, k0, rfl⟩ := sl t0 g0
    obtain ⟨a1, l1, k1, rfl⟩ := sl t1 g1
    obtain ⟨a2, l2, k2, rfl⟩ := sl t2 g2
    simp only [Prod.mk.injEq] at hxy
    exact ⟨a0, l0, k0, a1, l1, k1, a2, l2, k2, d0, d1, d2, k, q0, q1, q2, rfl, by simpa using hxy.1, by simpa [Value.cells] using g0, by simpa [Value.cells] using g1, by simpa [Value.cells] using g2⟩

/-- A step of a kernel: what, name, three numbers, data. -/
structure KSt where
  what : Int
  name : ByteArray
  a : Int
  b : Int
  c : Int
  data : List UInt8
  deriving Inhabited
theorem kstep_cells {H : Type} {enc : TypeId × Value → H} {P : Program} {W : World} {base : Nat} {fuel e u : Nat} {f0 f1 f2 f3 f4 f5 : Field} {cs : List Value} {d : DataW H} {p : List MemPlace}
    (he : P.underlying e = some (.struct #[f0, f1, f2, f3, f4, f5])) (ce : P.cellsOf e = 6) (o0 : f0.offset = 0) (o1 : f1.offset = 1) (o2 : f2.offset = 2) (o3 : f3.offset = 3) (o4 : f4.offset = 4) (o5 : f5.offset = 5)
    (c0 : P.cellsOf f0.type = 1) (c1 : P.cellsOf f1.type = 1) (c2 : P.cellsOf f2.type = 1) (c3 : P.cellsOf f3.type = 1) (c4 : P.cellsOf f4.type = 1) (c5 : P.cellsOf f5.type = 1)
    (t0 : P.underlying f0.type = some (.int .i64)) (t1 : P.underlying f1.type = some .string) (t2 : P.underlying f2.type = some (.int .i64)) (t3 : P.underlying f3.type = some (.int .i64)) (t4 : P.underlying f4.type = some (.int .i64)) (t5 : P.underlying f5.type = some (.slice u)) (tu : P.underlying u = some (.int .u8)) (cu : P.cellsOf u = 1)
    (h : DataW.trod enc P W base (fun _ => true) true fuel e cs = some (d, p)) :
    ∃ (x : KSt) (va : Option Addr) (vc : Nat) (d5 : DataW H), cs = [.int .i64 x.what, .string x.name, .int .i64 x.a, .int .i64 x.b, .int .i64 x.c, .slice va x.data.length vc] ∧ (Bys W (.slice va x.data.length vc) x.data ∧ x.data.length ≤ vc ∧ x.name.size ≤ maxLen ∧ I64 x.a ∧ I64 x.b ∧ I64 x.c) ∧ (∃ x0 x1 x2 x3 x4, d = .agg [x0, x1, x2, x3, x4, d5]) ∧ Kp_DataOf d5 x.data := by
  obtain ⟨xs, k, hk, hxy, hcl, hxl, hf⟩ := DataW.trod_struct he h
  rw [ce] at hcl
  match xs, hxl, cs, hcl with
  | [y0, y1, y2, y3, y4, y5], _, [v0, v1, v2, v3, v4, v5], _ =>
    have g0 := hf 0 f0 rfl
    have g1 := hf 1 f1 rfl
    have g2 := hf 2 f2 rfl
    have g3 := hf 3 f3 rfl
    have g4 := hf 4 f4 rfl
    have g5 := hf 5 f5 rfl
    simp [o0, c0] at g0
    simp [o1, c1] at g1
    simp [o2, c2] at g2
    simp [o3, c3] at g3
    simp [o4, c4] at g4
    simp [o5, c5] at g5
    obtain ⟨a, ha, _⟩ := DataW.trod_int t0 g0
    obtain ⟨nm, hnm, _, hsz⟩ := DataW.trod_string t1 g1
    obtain ⟨b, hb, _, wb⟩ := DataW.trod_int t2 g2
    obtain ⟨c, hc, _, wc⟩ := DataW.trod_int t3 g3
    obtain ⟨cc, hcc, _, wcc⟩ := DataW.trod_int t4 g4
    obtain rfl : v0 = .int .i64 a := by simpa using ha
    obtain rfl : v1 = .string nm := by simpa using hnm
    obtain rfl : v2 = .int .i64 b := by simpa using hb
    obtain rfl : v3 = .int .i64 c := by simpa using hc
    obtain rfl : v4 = .int .i64 cc := by simpa using hcc
    obtain ⟨va, vl, vc, rfl⟩ : ∃ va vl vc, v5 = .slice va vl vc := by
      rcases DataW.trod_slice t5 g5 with ⟨h0, _⟩ | ⟨x, len, cap, _, _, _, _, h0, _⟩
      · exact ⟨_, _, _, by simpa using h0⟩
      · exact ⟨_, _, _, by simpa using h0⟩
    obtain ⟨y5a, y5b⟩ := y5
    obtain ⟨l, hl, hlc, hd⟩ := bytes_arg2 t5 tu cu (by simpa [Value.cells] using g5)
    obtain rfl := Kp_bys_len hl
    simp only [Prod.mk.injEq] at hxy
    exact ⟨⟨a, nm, b, c, cc, l⟩, va, vc, y5a, rfl, ⟨hl, hlc, hsz, I64.of wb, I64.of wc, I64.of wcc⟩, ⟨_, _, _, _, _, by simpa using hxy.1⟩, hd⟩
/-- The slice value v holds the steps l. -/
def KSts (W : World) (v : Value) (l : List KSt) : Prop :=
  ∃ a c, v = .slice a l.length c ∧ (0 < l.length → ∃ b off, a = some ⟨b, off, none⟩ ∧ ∀ j (hj : j < l.length), ∃ va vc,
    W.cell? ⟨b, off + j * 6, none⟩ = some (.int .i64 l[j].what) ∧ W.cell? ⟨b, off + j * 6 + 1, none⟩ = some (.string l[j].name) ∧ W.cell? ⟨b, off + j * 6 + 2, none⟩ = some (.int .i64 l[j].a) ∧ W.cell? ⟨b, off + j * 6 + 3, none⟩ = some (.int .i64 l[j].b) ∧ W.cell? ⟨b, off + j * 6 + 4, none⟩ = some (.int .i64 l[j].c) ∧
    W.cell? ⟨b, off + j * 6 + 5, none⟩ = some (.slice va l[j].data.length vc) ∧ Bys W (.slice va l[j].data.length vc) l[j].data ∧ l[j].data.length ≤ vc ∧ l[j].name.size ≤ maxLen ∧ I64 l[j].a ∧ I64 l[j].b ∧ I64 l[j].c)
def KStD {H : Type} (d : DataW H) (l : List KSt) : Prop := (d = .nil ∧ l = []) ∨ ∃ elems spare : List (DataW H), d = .slice elems spare ∧ l.length = elems.length ∧ ∀ i (hi : i < l.length), ∃ x0 x1 x2 x3 x4 d5, DataW.agg [x0, x1, x2, x3, x4, d5] ∈ elems ∧ Kp_DataOf d5 l[i].data
theorem ksteps_small {H : Type} {P : Program} {t e u : TypeId} {f0 f1 f2 f3 f4 f5 : Field} {d : DataW H} {l : List KSt} (h : Small P t d) (hu : P.underlying t = some (.slice e)) (be : P.bytesOf e = 72) (he : P.underlying e = some (.struct #[f0, f1, f2, f3, f4, f5])) (t5 : P.underlying f5.type = some (.slice u)) (bu : P.bytesOf u = 1) (hO : KStD d l) : l.length * 72 ≤ 140737488351232 ∧ ∀ i (hi : i < l.length), l[i].data.length ≤ 140737488351232 := by
  rcases hO with ⟨_, rfl⟩ | ⟨es, sp, rfl, hl, hel⟩
  · exact ⟨by simp, fun i hi => absurd hi (by simp)⟩
  · obtain ⟨h1, h2⟩ := h.slice hu
    rw [be] at h1
    simp only [reachBytes] at h1
    refine ⟨by omega, fun i hi => ?_⟩
    obtain ⟨x0, x1, x2, x3, x4, d5, hm, hO⟩ := hel i hi
    exact bytes_small ((h2 _ hm).fields he 5 f5 d5 rfl rfl) t5 bu hO
theorem ksts_arg {H : Type} {enc : TypeId × Value → H} {P : Program} {W : World} {base : Nat} {a : Option Addr} {len cap fuel t e u : Nat} {f0 f1 f2 f3 f4 f5 : Field} {d : DataW H} {p : List MemPlace}
    (ht : P.underlying t = some (.slice e)) (he : P.underlying e = some (.struct #[f0, f1, f2, f3, f4, f5])) (ce : P.cellsOf e = 6) (o0 : f0.offset = 0) (o1 : f1.offset = 1) (o2 : f2.offset = 2) (o3 : f3.offset = 3) (o4 : f4.offset = 4) (o5 : f5.offset = 5)
    (c0 : P.cellsOf f0.type = 1) (c1 : P.cellsOf f1.type = 1) (c2 : P.cellsOf f2.type = 1) (c3 : P.cellsOf f3.type = 1) (c4 : P.cellsOf f4.type = 1) (c5 : P.cellsOf f5.type = 1)
    (t0 : P.underlying f0.type = some (.int .i64)) (t1 : P.underlying f1.type = some .string) (t2 : P.underlying f2.type = some (.int .i64)) (t3 : P.underlying f3.type = some (.int .i64)) (t4 : P.underlying f4.type = some (.int .i64)) (t5 : P.underlying f5.type = some (.slice u)) (tu : P.underlying u = some (.int .u8)) (cu : P.cellsOf u = 1)
    (hf : DataW.trod enc P W base (fun _ => true) true fuel t (Value.slice a len cap).cells.toList = some (d, p)) : ∃ l : List KSt, KSts W (.slice a len cap) l ∧ KStD d l := by
  rcases open_slice ht hf with ⟨hcs, hd⟩ | ⟨x, n, c, m, k, D, Pl, hcs, _, hl, hm, hmm, hx, hel⟩
  · simp [Value.cells] at hcs
    obtain ⟨rfl, rfl, rfl⟩ := hcs
    exact ⟨[], ⟨_, _, rfl, fun h => absurd h (by decide)⟩, .inl ⟨(Prod.mk.inj hd).1, rfl⟩⟩
  · simp [Value.cells] at hcs
    obtain ⟨rfl, rfl, rfl⟩ := hcs
    simp only [if_true] at hmm
    subst hmm
    have each : ∀ i, i < len → ∃ s : KSt, ∃ va vc, (∃ x0 x1 x2 x3 x4 d5, D i = .agg [x0, x1, x2, x3, x4, d5] ∧ Kp_DataOf d5 s.data) ∧
        W.cell? ((x.add (i * 6)).add 0) = some (.int .i64 s.what) ∧ W.cell? ((x.add (i * 6)).add 1) = some (.string s.name) ∧ W.cell? ((x.add (i * 6)).add 2) = some (.int .i64 s.a) ∧ W.cell? ((x.add (i * 6)).add 3) = some (.int .i64 s.b) ∧ W.cell? ((x.add (i * 6)).add 4) = some (.int .i64 s.c) ∧ W.cell? ((x.add (i * 6)).add 5) = some (.slice va s.data.length vc) ∧ Bys W (.slice va s.data.length vc) s.data ∧ s.data.length ≤ vc ∧ s.name.size ≤ maxLen ∧ I64 s.a ∧ I64 s.b ∧ I64 s.c := by
      intro i hi
      obtain ⟨cs', h1, h2⟩ := hel i (by omega)
      rw [ce] at h1
      obtain ⟨_, hlen, hcell⟩ := World.cells?_some h1
      obtain ⟨s, va, vc, d5, rfl, hb, ⟨x0, x1, x2, x3, x4, hD⟩, hO⟩ := kstep_cells he ce o0 o1 o2 o3 o4 o5 c0 c1 c2 c3 c4 c5 t0 t1 t2 t3 t4 t5 tu cu h2
      exact ⟨s, va, vc, ⟨x0, x1, x2, x3, x4, d5, hD, hO⟩, by simpa using hcell 0 (by omega), by simpa using hcell 1 (by omega), by simpa using hcell 2 (by omega), by simpa using hcell 3 (by omega), by simpa using hcell 4 (by omega), by simpa using hcell 5 (by omega), hb⟩
    obtain ⟨s, hs⟩ := choose_lt each
    refine ⟨(List.range len).map s, ⟨some x, m, by simp, fun h0 => ?_⟩, .inr ⟨_, _, (Prod.mk.inj hx).1, by simp, fun i hi => ?_⟩⟩
    · have h0' : 0 < len := by simpa using h0
      obtain ⟨b, off, spot⟩ := x
      obtain ⟨_, _, _, q0, _⟩ := hs 0 h0'
      have hspot : spot = none := by simpa [Addr.add] using World.cell?_spot q0
      subst hspot
      refine ⟨b, off, rfl, fun j hj => ?_⟩
      have hj' : j < len := by simpa using hj
      obtain ⟨va, vc, _, q0, q1, q2, q3, q4, q5, hb⟩ := hs j hj'
      have hadd : ∀ o k, (⟨b, o, none⟩ : Addr).add k = ⟨b, o + k, none⟩ := fun o k => by unfold Addr.add; split <;> simp_all
      rw [hadd, hadd] at q0 q1 q2 q3 q4 q5
      simp only [List.getElem_map, List.getElem_range]
      exact ⟨va, vc, by simpa using q0, q1, q2, q3, q4, q5, hb⟩
    · have hi' : i < len := by simpa using hi
      obtain ⟨va, vc, ⟨x0, x1, x2, x3, x4, d5, hD, hO⟩, _⟩ := hs i hi'
      refine ⟨x0, x1, x2, x3, x4, d5, ?_, by simpa using hO⟩
      rw [← hD]
      exact List.mem_map.2 ⟨i, by simpa using hi', rfl⟩
/-- Step j of the steps l, in any later world. -/
theorem ksts_at {W W' : World} {a : Option Addr} {n c : Nat} {l : List KSt} (h : KSts W (.slice a n c) l) (hB : Below W.heap.size W W') (j : Nat) (hj : j < l.length) :
    ∃ b off va vc, a = some ⟨b, off, none⟩ ∧ b < W.heap.size ∧ W'.cell? ⟨b, off + j * 6, none⟩ = some (.int .i64 l[j].what) ∧ W'.cell? ⟨b, off + j * 6 + 1, none⟩ = some (.string l[j].name) ∧ W'.cell? ⟨b, off + j * 6 + 2, none⟩ = some (.int .i64 l[j].a) ∧ W'.cell? ⟨b, off + j * 6 + 3, none⟩ = some (.int .i64 l[j].b) ∧
      W'.cell? ⟨b, off + j * 6 + 4, none⟩ = some (.int .i64 l[j].c) ∧ W'.cell? ⟨b, off + j * 6 + 5, none⟩ = some (.slice va l[j].data.length vc) ∧ Bys W (.slice va l[j].data.length vc) l[j].data ∧ l[j].data.length ≤ vc ∧ l[j].name.size ≤ maxLen ∧ I64 l[j].a ∧ I64 l[j].b ∧ I64 l[j].c := by
  obtain ⟨a', c', he, hc⟩ := h
  cases he
  obtain ⟨b, off, rfl, hd⟩ := hc (by omega)
  obtain ⟨va, vc, h0, h1, h2, h3, h4, h5, h6, h7⟩ := hd j hj
  have hb := World.block_lt_of_cell? W _ h0
  exact ⟨b, off, va, vc, rfl, hb, (hB.cell (p := ⟨b, off + j * 6, none⟩) hb).trans h0, (hB.cell (p := ⟨b, off + j * 6 + 1, none⟩) hb).trans h1, (hB.cell (p := ⟨b, off + j * 6 + 2, none⟩) hb).trans h2, (hB.cell (p := ⟨b, off + j * 6 + 3, none⟩) hb).trans h3, (hB.cell (p := ⟨b, off + j * 6 + 4, none⟩) hb).trans h4, (hB.cell (p := ⟨b, off + j * 6 + 5, none⟩) hb).trans h5, h6, h7⟩
end Go.Proofs.YtkkicbhmcjbmbaaGreat

/- The program's kernel: Read, walked. -/
namespace Go.Proofs.YtkkicbhmcjbmbaaGreat
open Go.RowKit Go.Maps

theorem PRd.done {w w1 w4 : World} {ρ : Nat → Option PTag} {I I1 : PI} {r : List UInt8 × Int × KS} {v : Value} (hT : Turned (Own ρ) w w1) (hk : I1.kb = I.kb) (hrow : w4.ownsRow w1.heap.size 5 1 v r.1.length (r.1.map bv)) (hN : PHold ρ I1 w1 r.2.2 w4) :
    PRd ρ I w r (.returned (.tuple #[v, .int .i64 r.2.1])) w4 := ⟨v, rfl, owns_mono hrow hT.size, hN.after hT hk⟩
theorem waits_file {ob : Ob} {b : List UInt8} (h : ob = .file b) : ob.waits = false := by rw [h]; rfl
theorem waits_term {ob : Ob} {ls : List (List UInt8)} {scr : List UInt8} (h : ob = .term ls scr) : ob.waits = false := by rw [h]; rfl
set_option maxRecDepth 100000 in
theorem of_readWaits (x : Nat) (w : World) : Calls Tryz.prog 239 #[.pointer (some ⟨x, 0, none⟩)] w fun e w' => e = .returned (.bool false) ∧ w' = w := by
  go_enter Tryz.func239, Tryz.ntmps239
  go_wp2
  go_ret
  exact ⟨rfl, rfl⟩
set_option maxRecDepth 100000 in
theorem co_readWaits (x : Nat) (w : World) : Calls Tryz.prog 233 #[.pointer (some ⟨x, 0, none⟩)] w fun e w' => e = .returned (.bool false) ∧ w' = w := by
  go_enter Tryz.func233, Tryz.ntmps233
  go_wp2
  go_ret
  exact ⟨rfl, rfl⟩
set_option maxRecDepth 100000 in
set_option maxHeartbeats 4000000 in
theorem kread_any (ρ : Nat → Option PTag) (I : PI) (K : KS) (d n : Int) (w : World) (h : PK w ρ I K) (hd : I64 d) (hr : K.reads < 9223372036854775807) :
    Calls Tryz.prog 52 #[.pointer (some ⟨I.kb, 0, none⟩), .int .i64 d, .int .i64 n] w (PRd ρ I w (K.read d n)) := by
  have HF := hide (described_any ρ I K d w h hd)
  have HX := hide fun E => PRd.refused h (Below.refl _ w) E
  have HK := hide h
  cases hx : K.find d with
  | none =>
    rw [hx] at HF
    rw [show K.read d n = ([], 64, K) by unfold KS.read; rw [hx]]
    clear h HK
    go_enter Tryz.func52, Tryz.ntmps52
    go_wp2_with fail
    refine HF.out.mono ?_
    rintro e w1 ⟨rfl, rfl⟩
    unfold descV
    go_wp2
    go_ret2
    exact HX.out 64
  | some x =>
    rw [hx] at HF
    have hm := (KS.find_some hx).1
    have hdc := h.desc hm
    have c0 := hdc.thing
    have c1 := hdc.reads
    by_cases hf : fbit x.flags 1 = 0
    · rw [show K.read d n = ([], 65, K) by unfold KS.read; rw [hx]; simp only; rw [if_pos hf]]
      rw [bit_no hf] at c1
      clear h hdc HK
      go_enter Tryz.func52, Tryz.ntmps52
      go_wp2_with fail
      refine HF.out.mono ?_
      rintro e w1 ⟨rfl, rfl⟩
      unfold descV
      go_wp2
      go_ret2
      exact HX.out 65
    · rw [bit_yes hf] at c1
      by_cases hn : n < 0 ∨ 1048576 < n
      · rw [show K.read d n = ([], 4, K) by unfold KS.read; rw [hx]; simp only; rw [if_neg hf, if_pos hn]]
        clear h hdc HK
        rcases hn with hn | hn
        · go_enter Tryz.func52, Tryz.ntmps52
          go_wp2_with fail
          refine HF.out.mono ?_
          rintro e w1 ⟨rfl, rfl⟩
          unfold descV
          go_wp2
          go_ret2
          exact HX.out 4
        · have hn' : ¬ n < 0 := by omega
          go_enter Tryz.func52, Tryz.ntmps52
          go_wp2_with fail
          refine HF.out.mono ?_
          rintro e w1 ⟨rfl, rfl⟩
          unfold descV
          go_wp2
          go_ret2
          exact HX.out 4
      · by_cases hz : n = 0
        · rw [show K.read d n = ([], 0, K) by unfold KS.read; rw [hx]; simp only; rw [if_neg hf, if_neg hn, if_pos hz]]
          subst hz
          clear h hdc HK
          go_enter Tryz.func52, Tryz.ntmps52
          go_wp2_with fail
          refine HF.out.mono ?_
          rintro e w1 ⟨rfl, rfl⟩
          unfold descV
          go_wp2
          go_ret2
          exact HX.out 0
        · have n1 : ¬ n < 0 := by omega
          have n2 : ¬ 1048576 < n := by omega
          have n3 : (n == 0) = false := by simpa using hz
          have n4 : 1 ≤ n := by omega
          have n5 : n ≤ 1048576 := by omega
          have n6 : ¬ n = 0 := hz
          obtain ⟨pr, hpr⟩ : ∃ pr, pr = nxt K.plan n := ⟨_, rfl⟩
          have HG : Hid (pr.2 = 0 → 1 ≤ pr.1 ∧ pr.1 ≤ 1048576) := hide (fun e => by rw [hpr] at e ⊢; have := nxt_good h.ok.plan n4 n5 e; omega)
          have HN := hide fun W I' K' (hW : PK W ρ I' K') (hpl : K'.plan = K.plan) => by
            have := knext_any ρ I' K' n W hW n4 n5
            rw [hpl, ← hpr] at this
            exact this
          have hK := HK
          clear hdc
          cases ho : K.tho x with
          | file b =>
            rw [read_is hx hf n4 n5 (waits_file ho), ← hpr]
            have HP2 := hide h.readUp
            have HT0 := hide ho
            rw [thing_file ho] at c0
            have hmw := mf_readWaits (I.xb x.n)
            have hmr := mf_read (I.xb x.n)
            have c6 := h.cells.reads
            have c6s : w.frozen? ⟨I.kb, 6, none⟩ = false := frozen_of_row w I.kb 6 _ _ (h.comp .kern).1
            have c5 := HP2.out.1.cells.plan
            have d2 := (HP2.out.1.desc (x := x) hm).thing
            clear h HX HK
            clear hpr
            obtain ⟨pr1, pr2⟩ := pr
            simp only at HG HN ⊢
            by_cases he : pr2 = 0
            · subst he
              rw [if_pos rfl]
              go_enter Tryz.func52, Tryz.ntmps52
              go_wp2_with fail
              refine HF.out.mono ?_
              rintro e w1 ⟨rfl, rfl⟩
              unfold descV
              go_wp2_with fail
              refine (of_readWaits (I.xb x.n) _).mono ?_
              rintro e w1' ⟨rfl, rfl⟩
              go_wp2_with fail
              generalize hw2 : w1'.setCell ⟨I.kb, 6, none⟩ (.int .i64 ((K.reads : Int) + 1)) = w2 at *
              refine (HN.out w2 I _ HP2.out.1 rfl).mono ?_
              rintro e w3 ⟨rfl, v', hP3, hT3⟩
              have c7 := (hP3.desc (x := x) hm).thing
              rw [thing_file (K := { K with reads := K.reads + 1, plan := K.plan.tail }) ho] at c7
              simp only at c7
              go_wp2_with fail
              refine (xread_file ρ _ _ x b pr1 w3 hP3 hm ho (HG.out (by first | rfl | trivial)).1 (HG.out (by first | rfl | trivial)).2).mono ?_
              rintro e w4 ⟨v, rfl, hrow, hN⟩
              obtain ⟨va, vc, rfl⟩ := owns_slice hrow
              have HV := hide hrow
              have HS := hide hN
              clear hrow hN
              go_wp2
              go_ret2
              exact PRd.done (HP2.out.2.trans hT3 (fun _ _ e => e)) rfl HV.out HS.out
            · rw [if_neg he]
              have he2 : (pr2 == 0) = false := by simpa using he
              go_enter Tryz.func52, Tryz.ntmps52
              go_wp2_with fail
              refine HF.out.mono ?_
              rintro e w1 ⟨rfl, rfl⟩
              unfold descV
              go_wp2_with fail
              refine (of_readWaits (I.xb x.n) _).mono ?_
              rintro e w1' ⟨rfl, rfl⟩
              go_wp2_with fail
              generalize hw2 : w1'.setCell ⟨I.kb, 6, none⟩ (.int .i64 ((K.reads : Int) + 1)) = w2 at *
              refine (HN.out w2 I _ HP2.out.1 rfl).mono ?_
              rintro e w3 ⟨rfl, v', hP3, hT3⟩
              have HP3 := hide hP3
              clear hP3
              go_wp2
              go_ret2
              exact ⟨_, rfl, World.ownsRow_nil _ _ _ _, PHold.of HP3.out rfl (HP2.out.2.trans hT3 (fun _ _ e => e))⟩
          | term ls scr =>
            rw [read_is hx hf n4 n5 (waits_term ho), ← hpr]
            have HP2 := hide h.readUp
            have HT0 := hide ho
            rw [thing_term ho] at c0
            have hmw := mt_readWaits (I.cb x.th)
            have hmr := mt_read (I.cb x.th)
            have c6 := h.cells.reads
            have c6s : w.frozen? ⟨I.kb, 6, none⟩ = false := frozen_of_row w I.kb 6 _ _ (h.comp .kern).1
            have c5 := HP2.out.1.cells.plan
            have d2 := (HP2.out.1.desc (x := x) hm).thing
            clear h HX HK
            clear hpr
            obtain ⟨pr1, pr2⟩ := pr
            simp only at HG HN ⊢
            by_cases he : pr2 = 0
            · subst he
              rw [if_pos rfl]
              go_enter Tryz.func52, Tryz.ntmps52
              go_wp2_with fail
              refine HF.out.mono ?_
              rintro e w1 ⟨rfl, rfl⟩
              unfold descV
              go_wp2_with fail
              refine (co_readWaits (I.cb x.th) _).mono ?_
              rintro e w1' ⟨rfl, rfl⟩
              go_wp2_with fail
              generalize hw2 : w1'.setCell ⟨I.kb, 6, none⟩ (.int .i64 ((K.reads : Int) + 1)) = w2 at *
              refine (HN.out w2 I _ HP2.out.1 rfl).mono ?_
              rintro e w3 ⟨rfl, v', hP3, hT3⟩
              have c7 := (hP3.desc (x := x) hm).thing
              rw [thing_term (K := { K with reads := K.reads + 1, plan := K.plan.tail }) ho] at c7
              simp only at c7
              go_wp2_with fail
              refine (xread_term ρ _ _ x ls scr pr1 w3 hP3 hm ho).mono ?_
              rintro e w4 ⟨v, rfl, hrow, hN⟩
              obtain ⟨va, vc, rfl⟩ := owns_slice hrow
              have HV := hide hrow
              have HS := hide hN
              clear hrow hN
              go_wp2
              go_ret2
              exact PRd.done (HP2.out.2.trans hT3 (fun _ _ e => e)) rfl HV.out HS.out
            · rw [if_neg he]
              have he2 : (pr2 == 0) = false := by simpa using he
              go_enter Tryz.func52, Tryz.ntmps52
              go_wp2_with fail
              refine HF.out.mono ?_
              rintro e w1 ⟨rfl, rfl⟩
              unfold descV
              go_wp2_with fail
              refine (co_readWaits (I.cb x.th) _).mono ?_
              rintro e w1' ⟨rfl, rfl⟩
              go_wp2_with fail
              generalize hw2 : w1'.setCell ⟨I.kb, 6, none⟩ (.int .i64 ((K.reads : Int) + 1)) = w2 at *
              refine (HN.out w2 I _ HP2.out.1 rfl).mono ?_
              rintro e w3 ⟨rfl, v', hP3, hT3⟩
              have HP3 := hide hP3
              clear hP3
              go_wp2
              go_ret2
              exact ⟨_, rfl, World.ownsRow_nil _ _ _ _, PHold.of HP3.out rfl (HP2.out.2.trans hT3 (fun _ _ e => e))⟩
          | pipe q rd wt =>
            cases hcan : canR q.length rd wt with
            | false =>
              rw [show K.read d n = ([], 52, K) by unfold KS.read; rw [hx]; simp only; rw [if_neg hf, if_neg hn, if_neg hz, if_pos (by rw [ho]; show (!canR q.length rd wt) = true; rw [hcan]; rfl)]]
              have HW := hide (pp_readWaits (I.ob x.th) q rd wt w (by have := h.pobj hm; rw [ho] at this; exact this.1))
              rw [hcan] at HW
              rw [thing_pipe ho] at c0
              have hmw := mp_readWaits (I.ob x.th)
              clear h hK HN HG HX
              go_enter Tryz.func52, Tryz.ntmps52
              go_wp2_with fail
              refine HF.out.mono ?_
              rintro e w1 ⟨rfl, rfl⟩
              unfold descV
              go_wp2_with fail
              refine HW.out.mono ?_
              rintro e w2 ⟨rfl, hB⟩
              go_wp2
              go_ret2
              exact PRd.refused HK.out hB 52
            | true =>
            rw [read_is hx hf n4 n5 (by rw [ho]; show (!canR q.length rd wt) = false; rw [hcan]; rfl), ← hpr]
            have HW := hide (pp_readWaits (I.ob x.th) q rd wt w (by have := h.pobj hm; rw [ho] at this; exact this.1))
            rw [hcan] at HW
            have HP := hide h
            have HT0 := hide ho
            rw [thing_pipe ho] at c0
            have hmw := mp_readWaits (I.ob x.th)
            have hmr := mp_read (I.ob x.th)
            clear h HX HK
            clear hpr
            obtain ⟨pr1, pr2⟩ := pr
            simp only at HG HN ⊢
            by_cases he : pr2 = 0
            · subst he
              rw [if_pos rfl]
              go_enter Tryz.func52, Tryz.ntmps52
              go_wp2_with fail
              refine HF.out.mono ?_
              rintro e w1 ⟨rfl, rfl⟩
              unfold descV
              go_wp2_with fail
              refine HW.out.mono ?_
              rintro e w1' ⟨rfl, hB⟩
              have hP1 := HP.out.under hB
              have HP2 := hide hP1.readUp
              have c6 := hP1.cells.reads
              have c6s : w1'.frozen? ⟨I.kb, 6, none⟩ = false := frozen_of_row w1' I.kb 6 _ _ (hP1.comp .kern).1
              have c5 := HP2.out.1.cells.plan
              have d2 := (HP2.out.1.desc (x := x) hm).thing
              have HT1 := hide (Turned.of_below (S := Own ρ) hB)
              clear hP1 hB
              go_wp2_with fail
              generalize hw2 : w1'.setCell ⟨I.kb, 6, none⟩ (.int .i64 ((K.reads : Int) + 1)) = w2 at *
              refine (HN.out w2 I _ HP2.out.1 rfl).mono ?_
              rintro e w3 ⟨rfl, v', hP3, hT3⟩
              have c7 := (hP3.desc (x := x) hm).thing
              rw [thing_pipe (K := { K with reads := K.reads + 1, plan := K.plan.tail }) ho] at c7
              simp only at c7
              go_wp2_with fail
              refine (xread_pipe ρ _ _ x q rd wt pr1 w3 hP3 hm ho).mono ?_
              rintro e w4 ⟨v, rfl, hrow, hN⟩
              obtain ⟨va, vc, rfl⟩ := owns_slice hrow
              have HV := hide hrow
              have HS := hide hN
              clear hrow hN
              go_wp2
              go_ret2
              exact PRd.done ((HT1.out.trans HP2.out.2 (fun _ _ e => e)).trans hT3 (fun _ _ e => e)) rfl HV.out HS.out
            · rw [if_neg he]
              have he2 : (pr2 == 0) = false := by simpa using he
              go_enter Tryz.func52, Tryz.ntmps52
              go_wp2_with fail
              refine HF.out.mono ?_
              rintro e w1 ⟨rfl, rfl⟩
              unfold descV
              go_wp2_with fail
              refine HW.out.mono ?_
              rintro e w1' ⟨rfl, hB⟩
              have hP1 := HP.out.under hB
              have HP2 := hide hP1.readUp
              have c6 := hP1.cells.reads
              have c6s : w1'.frozen? ⟨I.kb, 6, none⟩ = false := frozen_of_row w1' I.kb 6 _ _ (hP1.comp .kern).1
              have c5 := HP2.out.1.cells.plan
              have d2 := (HP2.out.1.desc (x := x) hm).thing
              have HT1 := hide (Turned.of_below (S := Own ρ) hB)
              clear hP1 hB
              go_wp2_with fail
              generalize hw2 : w1'.setCell ⟨I.kb, 6, none⟩ (.int .i64 ((K.reads : Int) + 1)) = w2 at *
              refine (HN.out w2 I _ HP2.out.1 rfl).mono ?_
              rintro e w3 ⟨rfl, v', hP3, hT3⟩
              have HP3 := hide hP3
              clear hP3
              go_wp2
              go_ret2
              exact ⟨_, rfl, World.ownsRow_nil _ _ _ _, PHold.of HP3.out rfl ((HT1.out.trans HP2.out.2 (fun _ _ e => e)).trans hT3 (fun _ _ e => e))⟩
end Go.Proofs.YtkkicbhmcjbmbaaGreat

/- The program's kernel: Pipe. -/
namespace Go.Proofs.YtkkicbhmcjbmbaaGreat
open Go.RowKit Go.Maps

set_option maxRecDepth 100000 in
set_option maxHeartbeats 2000000 in
theorem newPipe_any (w : World) :
    Calls Tryz.prog 109 #[] w fun e w' => ∃ p, e = .returned (.tuple #[.iface 239 (.agg #[.pointer (some ⟨p, 0, none⟩)]), .iface 239 (.agg #[.pointer (some ⟨p, 0, none⟩)])]) ∧ PObj w' (fun k => w.heap.size ≤ k ∧ k < w'.heap.size) p (.pipe [] 1 1) ∧ Below w.heap.size w w' := by
  have HN := hide (po_new_pipe w)
  go_enter Tryz.func109, Tryz.ntmps109
  go_wp2_with fail
  refine HN.out.mono ?_
  rintro e w1 ⟨p, rfl, hO, hB⟩
  have HJ := hide (po_pjoin _ p [] 0 0 false w1 hO)
  have HB := hide hB
  clear hO hB
  go_wp2_with fail
  refine HJ.out.mono ?_
  rintro e w2 ⟨rfl, O2, h1, h2, h3⟩
  have HJ2 := hide (po_pjoin _ p [] _ _ true w2 h1)
  have HT := hide (And.intro h2 h3)
  clear h1 h2 h3
  go_wp2_with fail
  refine HJ2.out.mono ?_
  rintro e w3 ⟨rfl, O3, h1, h2, h3⟩
  have HL : Hid (PObj w3 (fun k => w.heap.size ≤ k ∧ k < w3.heap.size) p (.pipe [] 1 1) ∧ Below w.heap.size w w3) := hide (by
    obtain ⟨g2, g3⟩ := HT.out
    have hsz := HB.out.size
    have low2 : ∀ k, O2 k → w.heap.size ≤ k := fun k e => by
      rcases g2 k e with e | e
      · exact e.1
      · omega
    have hB2 : Below w.heap.size w w2 := HB.out.trans (g3.below (fun k e => e.1) hsz)
    have hB3 : Below w.heap.size w w3 := hB2.trans (h3.below low2 hB2.size)
    refine ⟨h1.trim.mono fun k ⟨e1, e2⟩ => ⟨?_, e2⟩, hB3⟩
    rcases h2 k e1 with e | e
    · exact low2 k e
    · have := hB2.size; omega)
  clear h1 h2 h3
  go_wp2
  go_ret2
  exact ⟨p, rfl, HL.out⟩
theorem KOk.addP {K : KS} (h : KOk K) (ob : Ob) : KOk (K.addP ob) := by
  have hlen : (K.addP ob).th.length = K.th.length + 1 := by show (K.th ++ [_]).length = _; simp
  exact ⟨h.few, h.named, fun d hd => by have := h.th d hd; omega, fun i hi => by have := h.nm i hi; omega, h.num, h.once, h.flags, h.pos, h.held, h.plan⟩
theorem KNm.addP {K : KS} (h : KNm K) (hok : KOk K) (ob : Ob) (hk : ob.kind = 3) : KNm (K.addP ob) := by
  have hM := more_addP K ob
  refine ⟨?_, fun i hi => ?_, fun i hi e => ?_, fun i hi => ?_⟩
  · refine h.sorted.imp_of_mem fun {a b} ha hb hab => ?_
    rw [hM.nameOf (hok.nm a ha), hM.nameOf (hok.nm b hb)]
    exact hab
  · rw [hM.obOf (hok.nm i hi)]; exact h.kind i hi
  · rw [show (K.addP ob).th.length = K.th.length + 1 by show (K.th ++ [_]).length = _; simp] at hi
    by_cases e' : i = K.th.length
    · subst e'
      rw [hM.obNew] at e
      exact absurd hk e
    · have hlt : i < K.th.length := by omega
      rw [hM.obOf hlt] at e
      exact h.all i hlt e
  · rw [hM.nameOf (hok.nm i hi)]; exact h.ok i hi
theorem fl_addP (K : KS) (hok : KOk K) (I : PI) (ob : Ob) (p c : Nat) : (K.addP ob).fl { I with ob := upd I.ob K.th.length p, cb := upd I.cb K.th.length c } = K.fl I ∧ (K.addP ob).tl { I with ob := upd I.ob K.th.length p, cb := upd I.cb K.th.length c } = K.tl I := by
  have hM := more_addP K ob
  have e : ∀ c : Int, (K.addP ob).nm.filter (fun i => ((K.addP ob).obOf i).kind == c) = K.nm.filter fun i => (K.obOf i).kind == c := fun c => List.filter_congr fun i hi => by rw [hM.obOf (hok.nm i hi)]
  constructor
  · unfold KS.fl KS.fidx
    rw [e 1]
    exact map_old hok hM _ _ _
  · unfold KS.tl KS.tidx
    rw [e 2]
    exact map_old hok hM _ _ _
/-- A pipe is added. -/
theorem PK.addPipe {W W' : World} {ρ : Nat → Option PTag} {I : PI} {K : KS} (h : PK W ρ I K) (p : Nat) {q : List UInt8} {rd wt : Nat} (hO : PObj W' (fun k => W.heap.size ≤ k ∧ k < W'.heap.size) p (.pipe q rd wt)) (hB : Below W.heap.size W W') :
    Added ρ I (K.addP (.pipe q rd wt)) W K.th.length p I.fm W' := by
  have hfl := fl_addP K h.ok I (.pipe q rd wt) p I.fm
  have hfm := h.lt _ _ (h.comp .fmap).2
  have htm := h.lt _ _ (h.comp .tmap).2
  obtain ⟨ρ', a1, a2, a3⟩ := h.more (more_addP K (.pipe q rd wt)) p I.fm hO (fun k e => ⟨e.1, by omega⟩) (fun ls scr e => by cases e) (Turned.of_below hB) (h.ok.addP _) (h.nm.addP h.ok _ rfl) (by rw [hfl.1]; exact (h.comp .fmap).1.keep (hB.block _ hfm)) (by rw [hfl.2]; exact (h.comp .tmap).1.keep (hB.block _ htm))
  exact ⟨ρ', a1, a2, a3, Turned.of_below hB⟩
end Go.Proofs.YtkkicbhmcjbmbaaGreat

/- The program's kernel: Pipe, walked. -/
namespace Go.Proofs.YtkkicbhmcjbmbaaGreat
open Go.RowKit Go.Maps

/-- Two numbers and an error are answered. -/
def PTwo (ρ : Nat → Option PTag) (I : PI) (w : World) (r : Int × Int × Int × KS) (e : Ending) (w' : World) : Prop :=
  e = .returned (.tuple #[.int .i64 r.1, .int .i64 r.2.1, .int .i64 r.2.2.1]) ∧ PNext ρ I w r.2.2.2 w'
theorem results_three {fn : Func} {t u v : Tmp} (h : fn.results = #[.tmp t, .tmp u, .tmp v]) (tmps : Array Value) (P : Program) (w : World) :
    (results fn tmps).run P w = .ok (.tuple #[tmps.getD t undef, tmps.getD u undef, tmps.getD v undef]) w := by
  simp [results, h]
set_option maxRecDepth 100000 in
set_option maxHeartbeats 4000000 in
theorem kpipe_any (ρ : Nat → Option PTag) (I : PI) (K : KS) (w : World) (h : PK w ρ I K) (hl : K.next + 1 < 9223372036854775807) :
    Calls Tryz.prog 27 #[.pointer (some ⟨I.kb, 0, none⟩)] w (PTwo ρ I w K.pipe) := by
  have hm := hide (kmade_any I.kb w h.cells.made)
  have c3 := h.cells.opens
  have sl := (h.comp .omap).1.len Tryz.underlying88
  have HNX := hide (h.comp .kern).2.2
  rw [show (K.dl I).length = K.de.length by unfold KS.dl; simp] at sl
  have hfew := h.ok.few
  by_cases hd : 254 < K.de.length
  · rw [show K.pipe = (0, 0, 3, K) by unfold KS.pipe; rw [if_pos hd]]
    have hd' : (254 : Int) < (K.de.length : Int) := by omega
    have HX := hide (PNext.same h)
    clear h
    go_enter Tryz.func27, Tryz.ntmps27
    go_wp2_with fail
    refine hm.out.mono ?_
    rintro e w1 ⟨rfl, rfl⟩
    go_wp2
    refine bodyPost_ret (results_three rfl _ _ _) rfl ?_
    exact ⟨rfl, HX.out⟩
  · rw [show K.pipe = ((K.next : Int), ((K.next + 1 : Nat) : Int), 0, ((K.addP (.pipe [] 1 1)).newDe K.th.length 1).newDe K.th.length 2) by unfold KS.pipe; rw [if_neg hd]]
    have hd' : ¬ (254 : Int) < (K.de.length : Int) := by omega
    have HNP := hide (newPipe_any w)
    have HK := hide h
    clear h
    go_enter Tryz.func27, Tryz.ntmps27
    go_wp2_with fail
    refine hm.out.mono ?_
    rintro e w1 ⟨rfl, rfl⟩
    go_wp2_with fail
    refine HNP.out.mono ?_
    rintro e w2 ⟨p, rfl, hO, hB⟩
    obtain ⟨ρ1, h1, h2, h3, h4⟩ := HK.out.addPipe p hO hB
    have hlen : K.th.length < (K.addP (.pipe [] 1 1)).th.length := by show _ < (K.th ++ [_]).length; simp
    have hob : (K.addP (.pipe [] 1 1)).obOf K.th.length = .pipe [] 1 1 := (more_addP K (.pipe [] 1 1)).obNew
    have HD1 := hide (describe_any ρ1 _ (K.addP (.pipe [] 1 1)) 239 (.agg #[.pointer (some ⟨p, 0, none⟩)]) 1 w2 h1 (by have := HNX.out; simp only; omega))
    simp only at HD1
    rw [show ((I.last + 1 : Nat) : Int) = (K.next : Int) by rw [HNX.out]] at HD1
    have HP1 := hide (And.intro h1 (And.intro h2 (And.intro h4 (And.intro hlen hob))))
    clear h1 h2 h3 h4 hO hB hlen hob
    go_wp2_with fail
    refine HD1.out.mono ?_
    rintro e w3 ⟨rfl, nb, hD⟩
    have HG1 := hide (HP1.out.1.newDe (i := K.th.length) HP1.out.2.2.2.1 flags_ok1.1 (by show K.de.length < 256; omega) (xb := 0) hD (fun b e => by rw [HP1.out.2.2.2.2] at e; cases e) (fun ls scr e => by rw [HP1.out.2.2.2.2] at e; cases e) (fun q rd wt _ => by simp only [upd_same]))
    have HD0 := hide hD
    clear hD
    obtain ⟨ρ2, g1, g2, g3⟩ := HG1.out
    have HD2 := hide (describe_any ρ2 _ _ 239 (.agg #[.pointer (some ⟨p, 0, none⟩)]) 2 w3 g1 (by have := HNX.out; simp only; omega))
    simp only at HD2
    rw [show ((I.last + 1 + 1 : Nat) : Int) = (K.next : Int) + 1 by rw [HNX.out]; rfl] at HD2
    have HP2 := hide (And.intro g1 g2)
    clear g1 g2 g3 HG1
    go_wp2_with fail
    refine HD2.out.mono ?_
    rintro e w4 ⟨rfl, nb2, hD2⟩
    have HN : Hid (PNext ρ I w1 (((K.addP (.pipe [] 1 1)).newDe K.th.length 1).newDe K.th.length 2) w4) := hide (by
      obtain ⟨h1, h2, h4, hlen, hob⟩ := HP1.out
      obtain ⟨g1, g2⟩ := HP2.out
      have hob2 : ((K.addP (.pipe [] 1 1)).newDe K.th.length 1).obOf K.th.length = .pipe [] 1 1 := hob
      obtain ⟨ρ3, k1, k2, k3⟩ := g1.newDe (i := K.th.length) hlen flags_ok1.2 (by show (K.de ++ [_]).length < 256; simp; omega) (xb := 0) hD2 (fun b e => by rw [hob2] at e; cases e) (fun ls scr e => by rw [hob2] at e; cases e) (fun q rd wt _ => by simp only [upd_same])
      have no : ¬ ∃ b, (K.addP (.pipe [] 1 1)).obOf K.th.length = .file b := fun ⟨b, e⟩ => by rw [hob] at e; cases e
      have T2 : newTags ρ ρ2 w1 := fun k t e => by
        rcases g2 k t e with e | e | e
        · exact h2 k t e
        · exact .inr (by rw [e]; exact Nat.le_trans h4.size HD0.out.new)
        · exact absurd e.1 no
      have T3 : Turned (Own ρ) w1 w3 := h4.trans HD0.out.turned (fun k hk e => by
        have : ∃ t, ρ1 k = some t := by
          rcases e with e | e
          · exact ⟨_, by rw [e]; exact (h1.comp .kern).2.1⟩
          · exact ⟨_, by rw [e]; exact (h1.comp .omap).2⟩
        obtain ⟨t, e'⟩ := this
        rcases h2 k t e' with h' | h'
        · exact h'
        · omega)
      refine ⟨ρ3, _, k1, rfl, fun k t e => ?_, T3.trans hD2.turned (fun k hk e => ?_)⟩
      · rcases k2 k t e with e | e | e
        · exact T2 k t e
        · exact .inr (by rw [e]; exact Nat.le_trans T3.size hD2.new)
        · exact absurd e.1 no
      · have : ∃ t, ρ2 k = some t := by
          rcases e with e | e
          · exact ⟨_, by rw [e]; exact (g1.comp .kern).2.1⟩
          · exact ⟨_, by rw [e]; exact (g1.comp .omap).2⟩
        obtain ⟨t, e'⟩ := this
        rcases T2 k t e' with h' | h'
        · exact h'
        · omega)
    clear hD2
    go_wp2
    refine bodyPost_ret (results_three rfl _ _ _) rfl ?_
    exact ⟨rfl, HN.out⟩
end Go.Proofs.YtkkicbhmcjbmbaaGreat

/- The program's kernel: CanRead, CanWrite. -/
namespace Go.Proofs.YtkkicbhmcjbmbaaGreat
open Go.RowKit Go.Maps

set_option maxRecDepth 100000 in
set_option maxHeartbeats 2000000 in
theorem kcanRead_any (ρ : Nat → Option PTag) (I : PI) (K : KS) (d : Int) (w : World) (h : PK w ρ I K) (hd : I64 d) :
    Calls Tryz.prog 74 #[.pointer (some ⟨I.kb, 0, none⟩), .int .i64 d] w fun e w' => e = .returned (.bool (K.canRead d)) ∧ Below w.heap.size w w' := by
  have HF := hide (described_any ρ I K d w h hd)
  cases hx : K.find d with
  | none =>
    rw [hx] at HF
    rw [KS.canRead_none hx]
    clear h
    go_enter Tryz.func74, Tryz.ntmps74
    go_wp2_with fail
    refine HF.out.mono ?_
    rintro e w1 ⟨rfl, rfl⟩
    unfold descV
    go_wp2
    go_ret
    exact ⟨rfl, Below.refl _ _⟩
  | some x =>
    rw [hx] at HF
    rw [KS.canRead_some hx]
    have hm := (KS.find_some hx).1
    have c0 := (h.desc hm).thing
    have c1 := (h.desc hm).reads
    have HO := hide (h.pobj hm)
    by_cases hf : fbit x.flags 1 = 0
    · rw [bit_no hf] at c1
      rw [show (!(fbit x.flags 1 == 0)) = false by rw [hf]; rfl, Bool.false_and]
      clear h
      go_enter Tryz.func74, Tryz.ntmps74
      go_wp2_with fail
      refine HF.out.mono ?_
      rintro e w1 ⟨rfl, rfl⟩
      unfold descV
      go_wp2
      go_ret
      exact ⟨rfl, Below.refl _ _⟩
    · rw [bit_yes hf] at c1
      rw [show (!(fbit x.flags 1 == 0)) = true by simpa using hf, Bool.true_and]
      clear h
      cases ho : K.tho x with
      | file b =>
        rw [thing_file ho] at c0
        have hmw := mf_readWaits (I.xb x.n)
        go_enter Tryz.func74, Tryz.ntmps74
        go_wp2_with fail
        refine HF.out.mono ?_
        rintro e w1 ⟨rfl, rfl⟩
        unfold descV
        go_wp2
        go_ret
        exact ⟨rfl, Below.refl _ _⟩
      | term ls scr =>
        rw [thing_term ho] at c0
        have hmw := mt_readWaits (I.cb x.th)
        go_enter Tryz.func74, Tryz.ntmps74
        go_wp2_with fail
        refine HF.out.mono ?_
        rintro e w1 ⟨rfl, rfl⟩
        unfold descV
        go_wp2
        go_ret
        exact ⟨rfl, Below.refl _ _⟩
      | pipe q rd wt =>
        rw [thing_pipe ho] at c0
        have hmw := mp_readWaits (I.ob x.th)
        have HW := hide (pp_readWaits (I.ob x.th) q rd wt w (by have := HO.out; rw [ho] at this; exact this.1))
        simp only
        generalize canR q.length rd wt = can at *
        cases can
        · go_enter Tryz.func74, Tryz.ntmps74
          go_wp2_with fail
          refine HF.out.mono ?_
          rintro e w1 ⟨rfl, rfl⟩
          unfold descV
          go_wp2_with fail
          refine HW.out.mono ?_
          rintro e w2 ⟨rfl, hB⟩
          go_wp2
          go_ret
          exact ⟨rfl, hB⟩
        · go_enter Tryz.func74, Tryz.ntmps74
          go_wp2_with fail
          refine HF.out.mono ?_
          rintro e w1 ⟨rfl, rfl⟩
          unfold descV
          go_wp2_with fail
          refine HW.out.mono ?_
          rintro e w2 ⟨rfl, hB⟩
          go_wp2
          go_ret
          exact ⟨rfl, hB⟩
/-- Would a write not wait? -/
def KS.canWriteP (K : KS) (d n : Int) : Bool := match K.find d with
  | none => false
  | some x => bit x.flags 2 && (inN n && !(refusal (K.tho x) x.flags x.pos n == 52))
set_option maxRecDepth 100000 in
set_option maxHeartbeats 2000000 in
theorem kcanWrite_any (ρ : Nat → Option PTag) (I : PI) (K : KS) (d n : Int) (w : World) (h : PK w ρ I K) (hd : I64 d) :
    Calls Tryz.prog 76 #[.pointer (some ⟨I.kb, 0, none⟩), .int .i64 d, .int .i64 n] w fun e w' => e = .returned (.bool (K.canWriteP d n)) ∧ Below w.heap.size w w' := by
  have HF := hide (described_any ρ I K d w h hd)
  cases hx : K.find d with
  | none =>
    rw [hx] at HF
    rw [show K.canWriteP d n = false by unfold KS.canWriteP; rw [hx]]
    clear h
    go_enter Tryz.func76, Tryz.ntmps76
    go_wp2_with fail
    refine HF.out.mono ?_
    rintro e w1 ⟨rfl, rfl⟩
    unfold descV
    go_wp2
    go_ret
    exact ⟨rfl, Below.refl _ _⟩
  | some x =>
    rw [hx] at HF
    rw [show K.canWriteP d n = (bit x.flags 2 && (inN n && !(refusal (K.tho x) x.flags x.pos n == 52))) by unfold KS.canWriteP; rw [hx]]
    have hm := (KS.find_some hx).1
    have c0 := (h.desc hm).thing
    have c1 := (h.desc hm).writes
    have HO := hide (h.pobj hm)
    by_cases hf : fbit x.flags 2 = 0
    · rw [bit_no hf] at c1 ⊢
      rw [Bool.false_and]
      clear h
      go_enter Tryz.func76, Tryz.ntmps76
      go_wp2_with fail
      refine HF.out.mono ?_
      rintro e w1 ⟨rfl, rfl⟩
      unfold descV
      go_wp2
      go_ret
      exact ⟨rfl, Below.refl _ _⟩
    · rw [bit_yes hf] at c1 ⊢
      rw [Bool.true_and]
      rcases (show n < 1 ∨ (¬ n < 1 ∧ 1048576 < n) ∨ (¬ n < 1 ∧ ¬ 1048576 < n) by omega) with e1 | ⟨e1, e2⟩ | ⟨e1, e2⟩
      · rw [show inN n = false by unfold inN; simp; omega, Bool.false_and]
        clear h
        go_enter Tryz.func76, Tryz.ntmps76
        go_wp2_with fail
        refine HF.out.mono ?_
        rintro e w1 ⟨rfl, rfl⟩
        unfold descV
        go_wp2
        go_ret
        exact ⟨rfl, Below.refl _ _⟩
      · rw [show inN n = false by unfold inN; simp; omega, Bool.false_and]
        clear h
        go_enter Tryz.func76, Tryz.ntmps76
        go_wp2_with fail
        refine HF.out.mono ?_
        rintro e w1 ⟨rfl, rfl⟩
        unfold descV
        go_wp2
        go_ret
        exact ⟨rfl, Below.refl _ _⟩
      · rw [show inN n = true by unfold inN; simp; omega, Bool.true_and]
        cases ho : K.tho x with
        | file b =>
          obtain ⟨RF, hRF⟩ : ∃ RF : Int, RF = (if plc b (bit x.flags 4) x.pos = 1048576 then 31 else 0) := ⟨_, rfl⟩
          have HRf := hide (of_refuses (I.xb x.n) (I.ob x.th) b x.pos (bit x.flags 4) n _ w (h.comp (.ofile x.n) x hm rfl b ho).1 (by have := HO.out; rw [ho] at this; exact this))
          rw [← hRF] at HRf
          have hRF2 : refusal (Ob.file b) x.flags x.pos n = RF := by rw [hRF]; rfl
          rw [hRF2]
          clear hRF hRF2
          rw [thing_file ho] at c0
          have hmw := mf_refuses (I.xb x.n)
          clear h
          by_cases h52 : RF = 52
          · subst h52
            go_enter Tryz.func76, Tryz.ntmps76
            go_wp2_with fail
            refine HF.out.mono ?_
            rintro e w1 ⟨rfl, rfl⟩
            unfold descV
            go_wp2_with fail
            refine HRf.out.mono ?_
            rintro e w2 ⟨rfl, rfl⟩
            go_wp2
            go_ret
            exact ⟨rfl, Below.refl _ _⟩
          · have h53 : (RF == 52) = false := by simpa using h52
            have h54 : (RF != 52) = true := by simpa using h52
            go_enter Tryz.func76, Tryz.ntmps76
            go_wp2_with fail
            refine HF.out.mono ?_
            rintro e w1 ⟨rfl, rfl⟩
            unfold descV
            go_wp2_with fail
            refine HRf.out.mono ?_
            rintro e w2 ⟨rfl, rfl⟩
            go_wp2
            go_ret
            exact ⟨by rw [h53]; rfl, Below.refl _ _⟩
        | term ls scr =>
          obtain ⟨RF, hRF⟩ : ∃ RF : Int, RF = (if scr.length = 1048576 then 31 else 0) := ⟨_, rfl⟩
          have HRf := hide (co_refuses (I.cb x.th) (I.ob x.th) scr.length n w (h.comp (.cons x.th) (h.ok.th x hm) ls scr (by rw [← KS.tho_eq (h.ok.th x hm)]; exact ho)).1)
          rw [← hRF] at HRf
          have hRF2 : refusal (Ob.term ls scr) x.flags x.pos n = RF := by rw [hRF]; rfl
          rw [hRF2]
          clear hRF hRF2
          rw [thing_term ho] at c0
          have hmw := mt_refuses (I.cb x.th)
          clear h
          by_cases h52 : RF = 52
          · subst h52
            go_enter Tryz.func76, Tryz.ntmps76
            go_wp2_with fail
            refine HF.out.mono ?_
            rintro e w1 ⟨rfl, rfl⟩
            unfold descV
            go_wp2_with fail
            refine HRf.out.mono ?_
            rintro e w2 ⟨rfl, rfl⟩
            go_wp2
            go_ret
            exact ⟨rfl, Below.refl _ _⟩
          · have h53 : (RF == 52) = false := by simpa using h52
            have h54 : (RF != 52) = true := by simpa using h52
            go_enter Tryz.func76, Tryz.ntmps76
            go_wp2_with fail
            refine HF.out.mono ?_
            rintro e w1 ⟨rfl, rfl⟩
            unfold descV
            go_wp2_with fail
            refine HRf.out.mono ?_
            rintro e w2 ⟨rfl, rfl⟩
            go_wp2
            go_ret
            exact ⟨by rw [h53]; rfl, Below.refl _ _⟩
        | pipe q rd wt =>
          obtain ⟨RF, hRF⟩ : ∃ RF : Int, RF = (if rd = 0 then 53 else if canW n q.length rd wt = false then 52 else 0) := ⟨_, rfl⟩
          have HRf := hide (pp_refuses (I.ob x.th) q rd wt n w (by have := HO.out; rw [ho] at this; exact this.1))
          rw [← hRF] at HRf
          have hRF2 : refusal (Ob.pipe q rd wt) x.flags x.pos n = RF := by rw [hRF]; rfl
          rw [hRF2]
          clear hRF hRF2
          rw [thing_pipe ho] at c0
          have hmw := mp_refuses (I.ob x.th)
          clear h
          by_cases h52 : RF = 52
          · subst h52
            go_enter Tryz.func76, Tryz.ntmps76
            go_wp2_with fail
            refine HF.out.mono ?_
            rintro e w1 ⟨rfl, rfl⟩
            unfold descV
            go_wp2_with fail
            refine HRf.out.mono ?_
            rintro e w2 ⟨rfl, hB⟩
            go_wp2
            go_ret
            exact ⟨rfl, hB⟩
          · have h53 : (RF == 52) = false := by simpa using h52
            have h54 : (RF != 52) = true := by simpa using h52
            go_enter Tryz.func76, Tryz.ntmps76
            go_wp2_with fail
            refine HF.out.mono ?_
            rintro e w1 ⟨rfl, rfl⟩
            unfold descV
            go_wp2_with fail
            refine HRf.out.mono ?_
            rintro e w2 ⟨rfl, hB⟩
            go_wp2
            go_ret
            exact ⟨by rw [h53]; rfl, hB⟩
end Go.Proofs.YtkkicbhmcjbmbaaGreat

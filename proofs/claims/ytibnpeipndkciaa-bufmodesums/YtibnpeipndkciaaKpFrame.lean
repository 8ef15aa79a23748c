/- Bytes, and steps, that came in as an argument: what a walk is told of them. -/
import Derived.Test.YtibnpeipndkciaaTeRow
import Derived.Test.YtibnpeipndkciaaTeRow
import Derived.Test.YtibnpeipndkciaaFrame
import Derived.ChangeArms
import Derived.ChangeSlices
import Derived.SizedLaws
import Derived.Deep.Slices
namespace Go.Proofs.Ytibnpeipndkciaa
open Go.ChangeShapes Go.WideShapes Go.ChangeAt Go.RowKit Go.Deep

/-- A step: what, n, which side, data. -/
abbrev Kp_Stp := Int × Int × Bool × List UInt8
theorem Kp_bys_len {W : World} {a : Option Addr} {n c : Nat} {l : List UInt8} (h : Bys W (.slice a n c) l) : n = l.length := by
  obtain ⟨a', c', he, _⟩ := bys_form h
  cases he
  rfl
theorem bytes_arg2 {H : Type} {enc : TypeId × Value → H} {P : Program} {W : World} {base : Nat} {a : Option Addr} {len cap fuel t e : Nat} {d : DataW H} {p : List MemPlace}
    (ht : P.underlying t = some (.slice e)) (he : P.underlying e = some (.int .u8)) (hc : P.cellsOf e = 1)
    (hf : DataW.trod enc P W base (fun _ => true) true fuel t (Value.slice a len cap).cells.toList = some (d, p)) :
    ∃ l : List UInt8, Bys W (.slice a len cap) l ∧ l.length ≤ cap ∧ ((d = .nil ∧ l = []) ∨ ∃ elems spare : List (DataW H), d = .slice elems spare ∧ l.length = elems.length) := by
  rcases open_ints ht he hc hf with ⟨hcs, hd⟩ | ⟨x, n, c, zs, hcs, _, hl, hm, hz, hx, hcell, hwz⟩
  · simp [Value.cells] at hcs
    obtain ⟨rfl, rfl, rfl⟩ := hcs
    exact ⟨[], .inl ⟨rfl, rfl⟩, by simp, .inl ⟨(Prod.mk.inj hd).1, rfl⟩⟩
  · simp [Value.cells] at hcs
    obtain ⟨rfl, rfl, rfl⟩ := hcs
    simp only [if_true] at hz
    have hlen : ((zs.take len).map fun n => UInt8.ofNat n.toNat).length = len := by rw [List.length_map, List.length_take]; omega
    refine ⟨(zs.take len).map fun n => UInt8.ofNat n.toNat, ?_, by rw [hlen]; exact hl, .inr ⟨_, _, (Prod.mk.inj hx).1, by simp [lits]⟩⟩
    by_cases h0 : len = 0
    · subst h0
      exact .inr (.inl ⟨x, cap, rfl, by simp⟩)
    · obtain ⟨b, off, spot⟩ := x
      have hspot : spot = none := by simpa [Addr.add] using World.cell?_spot (hcell 0 (by omega))
      subst hspot
      refine .inr (.inr ⟨b, off, cap, by rw [hlen], by rw [hlen]; omega, fun j hj => ?_⟩)
      rw [hlen] at hj
      have h1 := hcell j (by omega)
      have hadd : (⟨b, off, none⟩ : Addr).add j = ⟨b, off + j, none⟩ := by unfold Addr.add; split <;> simp_all
      rw [hadd] at h1
      rw [h1]
      have hjz : j < zs.length := by omega
      have hb := bounds_u8 (hwz zs[j] (List.getElem_mem hjz))
      simp only [List.getD_eq_getElem?_getD, List.getElem?_map, List.getElem?_take, if_pos hj, List.getElem?_eq_getElem hjz, Option.map_some, Option.getD_some]
      rw [UInt8.toNat_ofNat_of_lt' (by show _ < 256; omega), Int.toNat_of_nonneg hb.1]



/-- How a slice of bytes inside a datum is told. -/
def Kp_DataOf {H : Type} (d : DataW H) (x : List UInt8) : Prop := (d = .nil ∧ x = []) ∨ ∃ elems spare : List (DataW H), d = .slice elems spare ∧ x.length = elems.length

theorem Kp_step_cells {H : Type} {enc : TypeId × Value → H} {P : Program} {W : World} {base : Nat} {fuel e u : Nat} {f0 f1 f2 f3 : Field} {cs : List Value} {d : DataW H} {p : List MemPlace}
    (he : P.underlying e = some (.struct #[f0, f1, f2, f3])) (ce : P.cellsOf e = 4) (o0 : f0.offset = 0) (o1 : f1.offset = 1) (o2 : f2.offset = 2) (o3 : f3.offset = 3)
    (c0 : P.cellsOf f0.type = 1) (c1 : P.cellsOf f1.type = 1) (c2 : P.cellsOf f2.type = 1) (c3 : P.cellsOf f3.type = 1)
    (t0 : P.underlying f0.type = some (.int .i64)) (t1 : P.underlying f1.type = some (.int .i64)) (t2 : P.underlying f2.type = some .bool) (t3 : P.underlying f3.type = some (.slice u)) (tu : P.underlying u = some (.int .u8)) (cu : P.cellsOf u = 1)
    (h : DataW.trod enc P W base (fun _ => true) true fuel e cs = some (d, p)) :
    ∃ (x : Kp_Stp) (va : Option Addr) (vc : Nat) (d3 : DataW H), cs = [.int .i64 x.1, .int .i64 x.2.1, .bool x.2.2.1, .slice va x.2.2.2.length vc] ∧ (Bys W (.slice va x.2.2.2.length vc) x.2.2.2 ∧ x.2.2.2.length ≤ vc) ∧ (∃ x0 x1 x2, d = .agg [x0, x1, x2, d3]) ∧ Kp_DataOf d3 x.2.2.2 := by
  obtain ⟨xs, k, hk, hxy, hcl, hxl, hf⟩ := DataW.trod_struct he h
  rw [ce] at hcl
  match xs, hxl, cs, hcl with
  | [y0, y1, y2, y3], _, [v0, v1, v2, v3], _ =>
    have g0 := hf 0 f0 rfl
    have g1 := hf 1 f1 rfl
    have g2 := hf 2 f2 rfl
    have g3 := hf 3 f3 rfl
    simp [o0, c0] at g0
    simp [o1, c1] at g1
    simp [o2, c2] at g2
    simp [o3, c3] at g3
    obtain ⟨a, ha, _⟩ := DataW.trod_int t0 g0
    obtain ⟨b, hb, _⟩ := DataW.trod_int t1 g1
    obtain ⟨c, hc, _⟩ := DataW.trod_bool t2 g2
    obtain rfl : v0 = .int .i64 a := by simpa using ha
    obtain rfl : v1 = .int .i64 b := by simpa using hb
    obtain rfl : v2 = .bool c := by simpa using hc
    obtain ⟨va, vl, vc, rfl⟩ : ∃ va vl vc, v3 = .slice va vl vc := by
      rcases DataW.trod_slice t3 g3 with ⟨h0, _⟩ | ⟨x, len, cap, _, _, _, _, h0, _⟩
      · exact ⟨_, _, _, by simpa using h0⟩
      · exact ⟨_, _, _, by simpa using h0⟩
    obtain ⟨y3a, y3b⟩ := y3
    obtain ⟨l, hl, hlc, hd⟩ := bytes_arg2 t3 tu cu (by simpa [Value.cells] using g3)
    obtain rfl := Kp_bys_len hl
    simp only [Prod.mk.injEq] at hxy
    exact ⟨(a, b, c, l), va, vc, y3a, rfl, ⟨hl, hlc⟩, ⟨_, _, _, by simpa using hxy.1⟩, hd⟩

/-- The slice value v holds the steps l. -/
def Kp_Stps (W : World) (v : Value) (l : List Kp_Stp) : Prop :=
  ∃ a c, v = .slice a l.length c ∧ (0 < l.length → ∃ b off, a = some ⟨b, off, none⟩ ∧ ∀ j (hj : j < l.length), ∃ va vc,
    W.cell? ⟨b, off + j * 4, none⟩ = some (.int .i64 l[j].1) ∧ W.cell? ⟨b, off + j * 4 + 1, none⟩ = some (.int .i64 l[j].2.1) ∧ W.cell? ⟨b, off + j * 4 + 2, none⟩ = some (.bool l[j].2.2.1) ∧ W.cell? ⟨b, off + j * 4 + 3, none⟩ = some (.slice va l[j].2.2.2.length vc) ∧ Bys W (.slice va l[j].2.2.2.length vc) l[j].2.2.2 ∧ l[j].2.2.2.length ≤ vc)

theorem Kp_stps_arg {H : Type} {enc : TypeId × Value → H} {P : Program} {W : World} {base : Nat} {a : Option Addr} {len cap fuel t e u : Nat} {f0 f1 f2 f3 : Field} {d : DataW H} {p : List MemPlace}
    (ht : P.underlying t = some (.slice e)) (he : P.underlying e = some (.struct #[f0, f1, f2, f3])) (ce : P.cellsOf e = 4) (o0 : f0.offset = 0) (o1 : f1.offset = 1) (o2 : f2.offset = 2) (o3 : f3.offset = 3)
    (c0 : P.cellsOf f0.type = 1) (c1 : P.cellsOf f1.type = 1) (c2 : P.cellsOf f2.type = 1) (c3 : P.cellsOf f3.type = 1)
    (t0 : P.underlying f0.type = some (.int .i64)) (t1 : P.underlying f1.type = some (.int .i64)) (t2 : P.underlying f2.type = some .bool) (t3 : P.underlying f3.type = some (.slice u)) (tu : P.underlying u = some (.int .u8)) (cu : P.cellsOf u = 1)
    (hf : DataW.trod enc P W base (fun _ => true) true fuel t (Value.slice a len cap).cells.toList = some (d, p)) :
    ∃ l : List Kp_Stp, Kp_Stps W (.slice a len cap) l ∧ ((d = .nil ∧ l = []) ∨ ∃ elems spare : List (DataW H), d = .slice elems spare ∧ l.length = elems.length ∧ ∀ i (hi : i < l.length), ∃ x0 x1 x2 d3, DataW.agg [x0, x1, x2, d3] ∈ elems ∧ Kp_DataOf d3 l[i].2.2.2) := by
  rcases open_slice ht hf with ⟨hcs, hd⟩ | ⟨x, n, c, m, k, D, Pl, hcs, _, hl, hm, hmm, hx, hel⟩
  · simp [Value.cells] at hcs
    obtain ⟨rfl, rfl, rfl⟩ := hcs
    exact ⟨[], ⟨_, _, rfl, fun h => absurd h (by decide)⟩, .inl ⟨(Prod.mk.inj hd).1, rfl⟩⟩
  · simp [Value.cells] at hcs
    obtain ⟨rfl, rfl, rfl⟩ := hcs
    simp only [if_true] at hmm
    subst hmm
    have each : ∀ i, i < len → ∃ s : Kp_Stp, ∃ va vc, (∃ x0 x1 x2 d3, D i = .agg [x0, x1, x2, d3] ∧ Kp_DataOf d3 s.2.2.2) ∧
        W.cell? ((x.add (i * 4)).add 0) = some (.int .i64 s.1) ∧ W.cell? ((x.add (i * 4)).add 1) = some (.int .i64 s.2.1) ∧ W.cell? ((x.add (i * 4)).add 2) = some (.bool s.2.2.1) ∧ W.cell? ((x.add (i * 4)).add 3) = some (.slice va s.2.2.2.length vc) ∧ Bys W (.slice va s.2.2.2.length vc) s.2.2.2 ∧ s.2.2.2.length ≤ vc := by
      intro i hi
      obtain ⟨cs', h1, h2⟩ := hel i (by omega)
      rw [ce] at h1
      obtain ⟨_, hlen, hcell⟩ := World.cells?_some h1
      obtain ⟨s, va, vc, d3, rfl, hb, ⟨x0, x1, x2, hD⟩, hO⟩ := Kp_step_cells he ce o0 o1 o2 o3 c0 c1 c2 c3 t0 t1 t2 t3 tu cu h2
      exact ⟨s, va, vc, ⟨x0, x1, x2, d3, hD, hO⟩, by simpa using hcell 0 (by omega), by simpa using hcell 1 (by omega), by simpa using hcell 2 (by omega), by simpa using hcell 3 (by omega), hb⟩
    obtain ⟨s, hs⟩ := choose_lt each
    refine ⟨(List.range len).map s, ⟨some x, m, by simp, fun h0 => ?_⟩, .inr ⟨_, _, (Prod.mk.inj hx).1, by simp, fun i hi => ?_⟩⟩
    · have h0' : 0 < len := by simpa using h0
      obtain ⟨b, off, spot⟩ := x
      obtain ⟨_, _, _, q0, _⟩ := hs 0 h0'
      have hspot : spot = none := by simpa [Addr.add] using World.cell?_spot q0
      subst hspot
      refine ⟨b, off, rfl, fun j hj => ?_⟩
      have hj' : j < len := by simpa using hj
      obtain ⟨va, vc, _, q0, q1, q2, q3, hb⟩ := hs j hj'
      have hadd : ∀ o k, (⟨b, o, none⟩ : Addr).add k = ⟨b, o + k, none⟩ := fun o k => by unfold Addr.add; split <;> simp_all
      rw [hadd, hadd] at q0 q1 q2 q3
      simp only [List.getElem_map, List.getElem_range]
      exact ⟨va, vc, by simpa using q0, q1, q2, q3, hb⟩
    · have hi' : i < len := by simpa using hi
      obtain ⟨va, vc, ⟨x0, x1, x2, d3, hD, hO⟩, _⟩ := hs i hi'
      refine ⟨x0, x1, x2, d3, ?_, by simpa using hO⟩
      rw [← hD]
      exact List.mem_map.2 ⟨i, by simpa using hi', rfl⟩

theorem Kp_weightsAll_mem {H : Type} {P : Program} {e : TypeId} : ∀ {l : List (DataW H)} {d : DataW H}, d ∈ l → ∀ n ∈ d.weights P e, n ∈ DataW.weightsAll P e l
  | d' :: r, d, hd, n, hn => by
    simp only [DataW.weightsAll, List.mem_append]
    rcases List.mem_cons.1 hd with rfl | h
    · exact Or.inl hn
    · exact Or.inr (Kp_weightsAll_mem h n hn)
theorem Kp_step_weight {H : Type} {P : Program} {e u : TypeId} {f0 f1 f2 f3 : Field} {x0 x1 x2 d3 : DataW H} {x : List UInt8} (he : P.underlying e = some (.struct #[f0, f1, f2, f3])) (t3 : P.underlying f3.type = some (.slice u)) (bu : P.bytesOf u = 1)
    (hO : Kp_DataOf d3 x) (h : ∀ n ∈ (DataW.agg [x0, x1, x2, d3]).weights P e, n ≤ reachBytes) : x.length ≤ 140737488351232 := by
  rcases hO with ⟨_, rfl⟩ | ⟨elems, spare, rfl, hl⟩
  · simp
  · have := h ((elems.length + spare.length) * P.bytesOf u) (by simp [DataW.weights, DataW.weightsEach, he, t3])
    rw [bu] at this
    simp only [reachBytes] at this
    omega
/-- The reach, of the data of each step. -/
theorem Kp_sized_steps {H : Type} {P : Program} {ts : List TypeId} {ds : List (DataW H)} (h : (DataW.weightsEach P ts ds).all (· ≤ reachBytes) = true) {j : Nat} {t e u : TypeId} {f0 f1 f2 f3 : Field} {x0 x1 x2 d3 : DataW H} {elems spare : List (DataW H)} {x : List UInt8}
    (ht : ts[j]? = some t) (hd : ds[j]? = some (.slice elems spare)) (hu : P.underlying t = some (.slice e)) (hm : DataW.agg [x0, x1, x2, d3] ∈ elems) (he : P.underlying e = some (.struct #[f0, f1, f2, f3])) (t3 : P.underlying f3.type = some (.slice u)) (bu : P.bytesOf u = 1) (hO : Kp_DataOf d3 x) : x.length ≤ 140737488351232 :=
  Kp_step_weight he t3 bu hO fun n hn => of_decide_eq_true (List.all_eq_true.1 h _ (DataW.weights_mem_each ht hd n (by
    simp only [DataW.weights, hu, List.mem_cons, List.mem_append]
    exact Or.inr (Or.inl (Kp_weightsAll_mem hm n hn)))))
theorem bulkAll_mem {H : Type} : ∀ {l : List (DataW H)} {d : DataW H}, d ∈ l → Rows.uptoBulk d ≤ Rows.uptoBulkAll l
  | d' :: r, d, hd => by
    simp only [Rows.uptoBulkAll]
    rcases List.mem_cons.1 hd with rfl | h
    · omega
    · have := bulkAll_mem h; omega
/-- The bulk, of the data of each step. -/
theorem bulk_steps {H : Type} {elems spare : List (DataW H)} {x0 x1 x2 d3 : DataW H} {x : List UInt8} (hm : DataW.agg [x0, x1, x2, d3] ∈ elems) (hO : Kp_DataOf d3 x) : x.length ≤ Rows.uptoBulk (.slice elems spare) := by
  have h1 := bulkAll_mem hm
  simp only [Rows.uptoBulk, Rows.uptoBulkAll] at h1
  have h2 : Rows.uptoBulkAll elems ≤ Rows.uptoBulk (.slice elems spare) := by simp only [Rows.uptoBulk]; omega
  rcases hO with ⟨_, rfl⟩ | ⟨es, sp, rfl, hl⟩
  · simp
  · have := bulk_slice es sp
    omega
theorem stps_form {W : World} {v : Value} {l : List Kp_Stp} (h : Kp_Stps W v l) : ∃ a c, v = .slice a l.length c := by
  obtain ⟨a, c, rfl, _⟩ := h
  exact ⟨a, c, rfl⟩
/-- Step j of the steps l, in any later world. -/
theorem Kp_stps_at {W W' : World} {a : Option Addr} {n c : Nat} {l : List Kp_Stp} (h : Kp_Stps W (.slice a n c) l) (hB : Below W.heap.size W W') (j : Nat) (hj : j < l.length) :
    ∃ b off va vc, a = some ⟨b, off, none⟩ ∧ b < W.heap.size ∧ W'.cell? ⟨b, off + j * 4, none⟩ = some (.int .i64 l[j].1) ∧ W'.cell? ⟨b, off + j * 4 + 1, none⟩ = some (.int .i64 l[j].2.1) ∧ W'.cell? ⟨b, off + j * 4 + 2, none⟩ = some (.bool l[j].2.2.1) ∧
      W'.cell? ⟨b, off + j * 4 + 3, none⟩ = some (.slice va l[j].2.2.2.length vc) ∧ Bys W (.slice va l[j].2.2.2.length vc) l[j].2.2.2 ∧ l[j].2.2.2.length ≤ vc := by
  obtain ⟨a', c', he, hc⟩ := h
  cases he
  obtain ⟨b, off, rfl, hd⟩ := hc (by omega)
  obtain ⟨va, vc, h0, h1, h2, h3, h4, h5⟩ := hd j hj
  have hb := World.block_lt_of_cell? W _ h0
  exact ⟨b, off, va, vc, rfl, hb, (hB.cell (p := ⟨b, off + j * 4, none⟩) hb).trans h0, (hB.cell (p := ⟨b, off + j * 4 + 1, none⟩) hb).trans h1, (hB.cell (p := ⟨b, off + j * 4 + 2, none⟩) hb).trans h2, (hB.cell (p := ⟨b, off + j * 4 + 3, none⟩) hb).trans h3, h4, h5⟩
end Go.Proofs.Ytibnpeipndkciaa

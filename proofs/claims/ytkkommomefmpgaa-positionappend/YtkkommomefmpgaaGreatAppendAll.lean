/- PositionAppend: for every text of at most 5000 bytes, faults, mode and size of the buffer, what is put on a stream that appends stands at the file's end, wherever it was sought to, and the place that is told behind it is the file's size. -/
import Derived.Test.YtkkommomefmpgaaGreatKQ22
import Derived.ProofKit
import Derived.OpenShut
import Derived.ShutString
import Derived.ChangeOld
import Derived.Below
import Derived.SizedLaws
/- PositionAppend: what its arguments come in as. -/
namespace Go.Proofs.YtkkommomefmpgaaGreat
open Go.ChangeShapes Go.WideShapes Go.ChangeAt Go.RowKit

theorem intsb_arg {H : Type} {enc : TypeId × Value → H} {P : Program} {W : World} {base : Nat} {a : Option Addr} {len cap fuel t e : Nat} {d : DataW H} {p : List MemPlace}
    (ht : P.underlying t = some (.slice e)) (he : P.underlying e = some (.int .i64)) (hc : P.cellsOf e = 1)
    (hf : DataW.trod enc P W base (fun _ => true) true fuel t (Value.slice a len cap).cells.toList = some (d, p)) :
    ∃ l : List Int, len = l.length ∧ IntsB W a l := by
  rcases open_ints ht he hc hf with ⟨hcs, hd⟩ | ⟨x, n, c, zs, hcs, _, hl, hm, hz, hx, hcell, hwz⟩
  · simp [Value.cells] at hcs
    obtain ⟨rfl, rfl, rfl⟩ := hcs
    exact ⟨[], rfl, fun h => absurd h (by decide), fun j hj => absurd hj (Nat.not_lt_zero j)⟩
  · simp [Value.cells] at hcs
    obtain ⟨rfl, rfl, rfl⟩ := hcs
    simp only [if_true] at hz
    have hlen : (zs.take len).length = len := by rw [List.length_take]; omega
    have hget : ∀ j, j < len → (zs.take len).getD j 0 = zs.getD j 0 := by
      intro j hj
      have hjz : j < zs.length := by omega
      simp [List.getD_eq_getElem?_getD, hj, List.getElem?_eq_getElem hjz]
    refine ⟨zs.take len, hlen.symm, fun h0 => ?_, fun j hj => ?_⟩
    · rw [hlen] at h0
      obtain ⟨b, off, spot⟩ := x
      have hspot : spot = none := by simpa [Addr.add] using World.cell?_spot (hcell 0 (by omega))
      subst hspot
      refine ⟨b, off, rfl, fun j hj => ?_⟩
      rw [hlen] at hj
      have h1 := hcell j (by omega)
      have hadd : (⟨b, off, none⟩ : Addr).add j = ⟨b, off + j, none⟩ := by unfold Addr.add; split <;> simp_all
      rw [hadd] at h1
      rw [h1, hget j hj]
    · rw [hlen] at hj
      rw [hget j hj]
      have hjz : j < zs.length := by omega
      have hw := hwz (zs.getD j 0) (by rw [List.getD_eq_getElem?_getD, List.getElem?_eq_getElem hjz]; exact List.getElem_mem hjz)
      have := bounds_i64 hw
      exact ⟨this.1, by have := this.2; omega⟩
theorem MLns.lns {W : World} {a : Option Addr} {c : Nat} {ls : List (List UInt8)} (h : MLns W (.slice a ls.length c) ls) : Lns W (.slice a ls.length c) ls := by
  refine ⟨a, c, rfl, fun h0 => ?_⟩
  obtain ⟨b, off, _, _, rfl, _⟩ := MLns.at h (Below.refl _ _) 0 h0
  refine ⟨b, off, rfl, fun j hj => ?_⟩
  obtain ⟨b', off', va, vc, e, h1, h2, _⟩ := MLns.at h (Below.refl _ _) j hj
  cases e
  exact ⟨va, vc, h1, h2⟩
theorem pappend_fr (va : Option Addr) (n vc : Nat) (b : List UInt8) (fa : Option Addr) (fc : Nat) (fs : List (Int × Int)) (mode size : Int) (pa : Option Addr) (pc : Nat) (ps : List (List UInt8)) (oa : Option Addr) (oc : Nat) (os : List Int) (w : World) (hb : Bys w (.slice va n vc) b) (hc : b.length ≤ vc) (hf : RowsR w 2 FCells (.slice fa fs.length fc) fs) (zf : fs.length * 16 ≤ 140737488351232) (hl : b.length ≤ 140737488351232) (hp : MLns w (.slice pa ps.length pc) ps) (ho : IntsB w oa os) :
    Calls Tryz.prog 5 #[.slice va n vc, .slice fa fs.length fc, .int .i64 mode, .int .i64 size, .slice pa ps.length pc, .slice oa os.length oc] w fun e w' => e = .returned (.bool true) ∧ Below w.heap.size w w' := by
  obtain rfl : n = b.length := by
    obtain ⟨_, _, e, -⟩ := bys_form hb
    cases e
    rfl
  exact pappend_any va vc b fa fc fs mode size pa pc ps oa oc os w hb hc hf zf hl hp.lns ho
end Go.Proofs.YtkkommomefmpgaaGreat

/- PositionAppend: for every text of at most 5000 bytes, faults, mode and size of the buffer, what is put on a stream that appends stands at the file's end, wherever it was sought to, and the place that is told behind it is the file's size. -/
namespace Go.Proofs.YtkkommomefmpgaaGreat.positionAppend
open Go.ChangeShapes Go.WideShapes Go.ChangeAt Go.RowKit
open Go.ChangeMaps (open_string shut_string)
set_option linter.unusedVariables false

theorem own : ownKnob Tryz.prog.godebug = none := by kernel_rfl
theorem laidOut : laidOutB Tryz.prog = true := by kernel_rfl

set_option maxRecDepth 100000 in
theorem lifted (os : Os) (started : os.Started) (H : Type) (enc : TypeId × Value → H) :
    ReturnsInHanded {} Tryz.checked os 5 .any (Rows.positionAppendSpec.pre6 enc Tryz.prog Tryz.f5 Rows.positionAppendRow.domain false) (Rows.positionAppendSpec.post enc Tryz.prog Tryz.f5 false true false false) := by
  refine returnsInHanded_of_change_sized (C := Tryz.checked) own started (by kernel_rfl) Tryz.func5
    (ChangeSpec.witness6 (enc := enc) (C := Tryz.checked) false ⟨#[], #[.slice none 0 0, .slice none 0 0, .int .i64 0, .int .i64 0, .slice none 0 0, .slice none 0 0], []⟩ 8 (by kernel_rfl) (by kernel_rfl) (by kernel_rfl) (by kernel_rfl)) ?_
  intro W base args ds gs before hval0 hW hcnd0 hsz0 _
  have hsz : (DataW.weightsEach Tryz.prog (Tryz.f5.params.toList ++ Rows.positionAppendSpec.plain.varTypes Tryz.prog) (ds ++ gs)).all (· ≤ reachBytes) = true := hsz0
  clear hsz0
  have hval : ∀ (j : Nat) t v, Tryz.f5.params[j]? = some t → args[j]? = some v → Value.okWide Tryz.prog W .any base t v := hval0
  have hW' := hW
  obtain ⟨p, q, hA0, hV, rfl, hfz, hnd⟩ := hW
  have hA : DataW.TrodAll enc Tryz.prog W 0 (fun _ => true) true Tryz.f5.params.toList args.toList ds p := hA0
  rw [Tryz.params5] at hA hval hsz
  obtain ⟨v0, vs0, d0, ds0, p0, q0, hargs, rfl, rfl, h0, r0⟩ := trodAll_cons hA
  obtain ⟨v1, vs1, d1, ds1, p1, q1, rfl, rfl, rfl, h1, r1⟩ := trodAll_cons r0
  obtain ⟨v2, vs2, d2, ds2, p2, q2, rfl, rfl, rfl, h2, r2⟩ := trodAll_cons r1
  obtain ⟨v3, vs3, d3, ds3, p3, q3, rfl, rfl, rfl, h3, r3⟩ := trodAll_cons r2
  obtain ⟨v4, vs4, d4, ds4, p4, q4, rfl, rfl, rfl, h4, r4⟩ := trodAll_cons r3
  obtain ⟨v5, vs5, d5, ds5, p5, q5, rfl, rfl, rfl, h5, r5⟩ := trodAll_cons r4
  obtain ⟨rfl, rfl, rfl⟩ := trodAll_nil r5
  obtain rfl : args = #[v0, v1, v2, v3, v4, v5] := by cases args; simp_all
  obtain ⟨rfl, rfl⟩ := trodVars_none hV
  obtain ⟨c0, len0, cap0, rfl⟩ := okWide_slice Tryz.underlying40 (hval 0 40 v0 rfl rfl)
  have k0 := h0
  have lt0 : ∀ x ∈ p0, x.block < W.heap.size := by obtain ⟨m, hm⟩ := k0; exact DataW.trod_lt m _ _ _ hm
  obtain ⟨fuel0, hf0⟩ := h0
  obtain ⟨l0, y0, m0, e0⟩ := bytes_arg2 Tryz.underlying40 Tryz.underlying5 (by kernel_rfl) hf0
  have z0 : l0.length ≤ 140737488351232 := by
    rcases e0 with ⟨_, rfl⟩ | ⟨elems, spare, rfl, hll⟩
    · simp
    · have := sized_slice hsz (j := 0) (t := 40) (e := 5) rfl rfl Tryz.underlying40
      rw [show Tryz.prog.bytesOf 5 = 1 by kernel_rfl] at this; simp only [reachBytes] at this; omega
  obtain ⟨c1, len1, cap1, rfl⟩ := okWide_slice Tryz.underlying24 (hval 1 24 v1 rfl rfl)
  have k1 := h1
  have lt1 : ∀ x ∈ p1, x.block < W.heap.size := by obtain ⟨m, hm⟩ := k1; exact DataW.trod_lt m _ _ _ hm
  obtain ⟨fuel1, hf1⟩ := h1
  obtain ⟨l1, y1, e1⟩ : ∃ l, RowsR W 2 FCells (.slice c1 len1 cap1) l ∧ DatL (fun _ _ => True) d1 l := rows_arg 2 _ (fun _ _ => True) Tryz.underlying24 (by kernel_rfl) (by decide) (fun fuel cs d p h _ => flt_cells Tryz.underlying211 (by kernel_rfl) rfl rfl (by kernel_rfl) (by kernel_rfl) Tryz.underlying3 (by kernel_rfl) h) hf1
  obtain rfl : len1 = l1.length := by obtain ⟨_, _, e, _⟩ := RowsR.form y1; cases e; rfl
  obtain ⟨z1, zz1⟩ := mrows_small (msmall_arg hsz (j := 1) (t := 24) rfl rfl) Tryz.underlying24 (n := 16) (by kernel_rfl) e1
  obtain ⟨a2, rfl, rfl, rfl, w2⟩ := open_int Tryz.underlying3 (hval 2 3 v2 rfl rfl) h2
  have b2 := bounds_i64 w2
  obtain ⟨a3, rfl, rfl, rfl, w3⟩ := open_int Tryz.underlying3 (hval 3 3 v3 rfl rfl) h3
  have b3 := bounds_i64 w3
  obtain ⟨c4, len4, cap4, rfl⟩ := okWide_slice Tryz.underlying48 (hval 4 48 v4 rfl rfl)
  have k4 := h4
  have lt4 : ∀ x ∈ p4, x.block < W.heap.size := by obtain ⟨m, hm⟩ := k4; exact DataW.trod_lt m _ _ _ hm
  obtain ⟨fuel4, hf4⟩ := h4
  obtain ⟨l4, y4, e4⟩ := mlns_arg Tryz.underlying48 Tryz.underlying40 (by kernel_rfl) Tryz.underlying5 (by kernel_rfl) hf4
  obtain rfl : len4 = l4.length := by obtain ⟨_, _, e, _⟩ := RowsR.form y4; cases e; rfl
  obtain ⟨z4, zz4⟩ := mrows_small (msmall_arg hsz (j := 4) (t := 48) rfl rfl) Tryz.underlying48 (n := 24) (by kernel_rfl) e4
  have zl4 : ∀ i (hi : i < l4.length), l4[i].length ≤ 140737488351232 := fun i hi => by obtain ⟨di, s1, s2⟩ := zz4 i hi; exact mbytes_small s1 Tryz.underlying40 (by kernel_rfl) s2
  obtain ⟨c5, len5, cap5, rfl⟩ := okWide_slice Tryz.underlying47 (hval 5 47 v5 rfl rfl)
  have k5 := h5
  have lt5 : ∀ x ∈ p5, x.block < W.heap.size := by obtain ⟨m, hm⟩ := k5; exact DataW.trod_lt m _ _ _ hm
  obtain ⟨fuel5, hf5⟩ := h5
  obtain ⟨l5, rfl, y5⟩ := intsb_arg Tryz.underlying47 Tryz.underlying3 (by kernel_rfl) hf5
  clear hA0
  refine (pappend_fr c0 len0 cap0 l0 c1 cap1 l1 a2 a3 c4 cap4 l4 c5 cap5 l5 W y0 m0 y1 z1 z0 y4 y5).mono fun e W' ⟨he, bel⟩ => ?_
  subst he
  exact ⟨_, rfl, _, _, _, [], _, [], hW', trodAll_mk1 (shut_bool Tryz.underlying4 _), (trodAll_cons_mk (Below.trod laidOut (by kernel_rfl) (of_decide_eq_true (by kernel_rfl)) k0 bel lt0) (trodAll_cons_mk (Below.trod laidOut (by kernel_rfl) (of_decide_eq_true (by kernel_rfl)) k1 bel lt1) (trodAll_cons_mk (shut_int Tryz.underlying3 w2) (trodAll_cons_mk (shut_int Tryz.underlying3 w3) (trodAll_cons_mk (Below.trod laidOut (by kernel_rfl) (of_decide_eq_true (by kernel_rfl)) k4 bel lt4) (trodAll_cons_mk (Below.trod laidOut (by kernel_rfl) (of_decide_eq_true (by kernel_rfl)) k5 bel lt5) trodAll_mk0)))))), rfl, bel.frame _, fun h => by cases h⟩

theorem over : Rows.positionAppendRow.holds Tryz.pinned (OpenSpec.ofChange Rows.positionAppendSpec) :=
  OpenClaim.holds_of_wide 5 Tryz.f5 rfl rfl rfl rfl rfl rfl rfl ⟨rfl, rfl, rfl, rfl, rfl⟩ rfl rfl rfl rfl rfl (by kernel_rfl) Tryz.func5 (by kernel_rfl)
    (of_decide_eq_true (by kernel_rfl)) (by unfold Func.isWrapper; first | (rw [if_pos (by decide +kernel)]; kernel_rfl) | (rw [if_neg (by decide +kernel)]; exact ⟨rfl, rfl⟩))
    (fun os started H enc _ => lifted os started H enc)
end Go.Proofs.YtkkommomefmpgaaGreat.positionAppend
namespace Go.Proofs.YtkkommomefmpgaaGreat
theorem positionAppend_holds : Rows.PositionAppendSaid := positionAppend.over
#print axioms positionAppend_holds
end Go.Proofs.YtkkommomefmpgaaGreat

/- Whatever the plant and the steps: what the program answers is what the reference answers. -/
import Derived.Test.YtanbiinomagdbaaGreatKM23
import Derived.ProofKit
import Derived.OpenShut
import Derived.ShutString
import Derived.ChangeOld
import Derived.Below
import Derived.SizedLaws
import Derived.JoinedCond
/- Whatever the plant and the steps: what the program answers is what the reference answers. -/
namespace Go.Proofs.YtanbiinomagdbaaGreat.memoryPlays
open Go.ChangeShapes Go.WideShapes Go.ChangeAt Go.RowKit
open Go.ChangeMaps (open_string shut_string)
set_option linter.unusedVariables false

theorem own : ownKnob Tryz.prog.godebug = none := by kernel_rfl
theorem laidOut : laidOutB Tryz.prog = true := by kernel_rfl

set_option maxRecDepth 100000 in
theorem contract (H : Type) (enc : TypeId × Value → H) (W : World) (base : Nat) (args : Array Value) (ds gs : List (DataW H)) (before : List MemPlace)
    (hval0 : ∀ (j : Nat) t v, Tryz.f4.params[j]? = some t → args[j]? = some v → Value.okWide Tryz.prog W .any base t v)
    (hW : DataW.Whole enc Tryz.prog Tryz.f4.params.toList Rows.memoryPlaysSpec.vars false W args.toList ds gs before) (hk : Rows.uptoSmall H (ds ++ gs) = true) :
    Calls Tryz.prog 4 args W fun e W' => ∃ v, e = .returned v ∧ Rows.memoryPlaysSpec.post enc Tryz.prog Tryz.f4 false true false false W args v W' := by
  have hval : ∀ (j : Nat) t v, Tryz.f4.params[j]? = some t → args[j]? = some v → Value.okWide Tryz.prog W .any base t v := hval0
  have hW' := hW
  obtain ⟨p, q, hA0, hV, rfl, hfz, hnd⟩ := hW
  have hA : DataW.TrodAll enc Tryz.prog W 0 (fun _ => true) true Tryz.f4.params.toList args.toList ds p := hA0
  rw [Tryz.params4] at hA hval
  obtain ⟨v0, vs0, d0, ds0, p0, q0, hargs, rfl, rfl, h0, r0⟩ := trodAll_cons hA
  obtain ⟨v1, vs1, d1, ds1, p1, q1, rfl, rfl, rfl, h1, r1⟩ := trodAll_cons r0
  obtain ⟨rfl, rfl, rfl⟩ := trodAll_nil r1
  obtain rfl : args = #[v0, v1] := by cases args; simp_all
  obtain ⟨rfl, rfl⟩ := trodVars_none hV
  obtain ⟨c0, rfl, hc0⟩ := okWide_struct Tryz.underlying50 (hval 0 50 v0 rfl rfl)
  have k0 := h0
  have lt0 : ∀ x ∈ p0, x.block < W.heap.size := by obtain ⟨m, hm⟩ := k0; exact DataW.trod_lt m _ _ _ hm
  obtain ⟨fuel0, hf0⟩ := h0
  obtain ⟨x0, dv0, rv0, wv0, fv0, lv0, hcl0, y0, _, _, da0, db0, dc0, dd0, de0, _, _, rfl, ea0, eb0, ec0, ed0, ee0⟩ := plant_cells hf0
  obtain rfl : c0 = #[.int .i64 x0.kind, .int .i64 x0.size, dv0, rv0, wv0, fv0, lv0, .int .i64 x0.place, .bool x0.app] := by cases c0; simpa [Value.cells] using hcl0
  have hp0 : I64 x0.place := plant_i64 (by simpa [Value.cells] using hf0)
  obtain ⟨c1, len1, cap1, rfl⟩ := okWide_slice Tryz.underlying51 (hval 1 51 v1 rfl rfl)
  have k1 := h1
  have lt1 : ∀ x ∈ p1, x.block < W.heap.size := by obtain ⟨m, hm⟩ := k1; exact DataW.trod_lt m _ _ _ hm
  obtain ⟨fuel1, hf1⟩ := h1
  obtain ⟨l1, yy1, e1⟩ : ∃ l, RowsR W 4 (fun cs x => MCells W cs x ∧ I64 x.n) (.slice c1 len1 cap1) l ∧ DatL MDat d1 l := rows_arg 4 _ MDat Tryz.underlying51 (by kernel_rfl) (by decide) (fun fuel cs d p h hl => mst_cells2 Tryz.underlying56 (by kernel_rfl) rfl rfl rfl rfl (by kernel_rfl) (by kernel_rfl) (by kernel_rfl) (by kernel_rfl) Tryz.underlying3 Tryz.underlying3 Tryz.underlying3 Tryz.underlying40 Tryz.underlying5 (by kernel_rfl) h) hf1
  have zi1 : ∀ i (hi : i < l1.length), I64 l1[i].n := fun i hi => rows_all (p := fun x => I64 x.n) yy1 i hi
  have y1 : MSts W (.slice c1 len1 cap1) l1 := rows_mono yy1 (fun _ _ h => h.1)
  obtain rfl : len1 = l1.length := by obtain ⟨_, _, e, _⟩ := RowsR.form y1; cases e; rfl
  have hK := of_decide_eq_true (p := Rows.uptoBulkAll _ ≤ 1048576) hk
  simp only [List.append_nil, Rows.uptoBulkAll] at hK
  have zp0 : Rows.uptoBulk (DataW.agg _) ≤ 1048576 := Nat.le_trans (Nat.le_add_right _ _) hK
  have zr0 := (mbulk_rows (mbulk_field (d := db0) zp0 (by simp)) eb0).1
  have zw0 := (mbulk_rows (mbulk_field (d := dc0) zp0 (by simp)) ec0).1
  have zf0 := (mbulk_rows (mbulk_field (d := dd0) zp0 (by simp)) ed0).1
  have zn0 := (mbulk_rows (mbulk_field (d := de0) zp0 (by simp)) ee0).1
  obtain ⟨z1, zz1⟩ := mbulk_rows (n := 1048576) (d := d1) (by omega) e1
  have zl1 : ∀ i (hi : i < l1.length), l1[i].data.length ≤ 1048576 := fun i hi => by obtain ⟨di, s1, _, _, _, d3, rfl, s2⟩ := zz1 i hi; exact mbulk_bytes (mbulk_field s1 (by simp)) s2
  clear hA0
  refine (mplays_walk x0 dv0 rv0 wv0 fv0 lv0 c1 cap1 l1 W y0 y1 (by omega) z1 (fun i hi => ⟨zl1 i hi, zi1 i hi⟩) (fun W2 hB => make_any x0 dv0 rv0 wv0 fv0 lv0 W2 (pl_new W x0 dv0 rv0 wv0 fv0 lv0 y0 W2 hB) hp0 (by omega) (by omega) (by omega))).mono fun e W' ⟨he, bel⟩ => ?_
  subst he
  exact ⟨_, rfl, _, _, _, [], _, [], hW', trodAll_mk1 (shut_bool Tryz.underlying4 _), (trodAll_cons_mk (Below.trod laidOut (by kernel_rfl) (of_decide_eq_true (by kernel_rfl)) k0 bel lt0) (trodAll_cons_mk (Below.trod laidOut (by kernel_rfl) (of_decide_eq_true (by kernel_rfl)) k1 bel lt1) trodAll_mk0)), rfl, bel.frame _, fun h => by cases h⟩

set_option maxRecDepth 100000 in
theorem lifted (os : Os) (started : os.Started) (H : Type) (enc : TypeId × Value → H) (F : Stop.Interp) :
    ReturnsInHanded {} Tryz.checked os 4 .any ((Rows.OpenSpec.upto Rows.memoryPlaysSpec).pre6 enc Tryz.prog Tryz.f4 Rows.memoryPlaysUptoRow.domain false) (((Rows.OpenSpec.upto Rows.memoryPlaysSpec).at F).post enc Tryz.prog Tryz.f4 false true false false) := by
  refine returnsInHanded_of_cond (C := Tryz.checked) (s := Rows.OpenSpec.upto Rows.memoryPlaysSpec) (k := Rows.uptoSmall) rfl own started (by kernel_rfl) Tryz.func4
    (OpenSpec.witness (enc := enc) (C := Tryz.checked) (s := Rows.OpenSpec.upto Rows.memoryPlaysSpec) (k := Rows.uptoSmall) rfl false ⟨#[], #[.agg #[.int .i64 0, .int .i64 0, .slice none 0 0, .slice none 0 0, .slice none 0 0, .slice none 0 0, .slice none 0 0, .int .i64 0, .bool false], .slice none 0 0], []⟩ 8 (by kernel_rfl) (by kernel_rfl) (by kernel_rfl)
      (x := ([.agg [.lit (.int .i64 0), .lit (.int .i64 0), .nil, .nil, .nil, .nil, .nil, .lit (.int .i64 0), .lit (.bool false)], .nil], [], [])) (by kernel_rfl) rfl (by kernel_rfl)) ?_
  intro W base args ds gs before hval hW _ hk _
  exact contract H enc W base args ds gs before hval hW hk

theorem over : Rows.MemoryPlaysUptoSaid :=
  OpenClaim.holds_of_cond 4 Tryz.f4 rfl rfl rfl rfl rfl rfl rfl ⟨rfl, rfl, rfl, rfl, rfl⟩ rfl rfl rfl rfl rfl (by kernel_rfl) Tryz.func4 (by kernel_rfl)
    (of_decide_eq_true (by kernel_rfl)) (by unfold Func.isWrapper; first | (rw [if_pos (by decide +kernel)]; kernel_rfl) | (rw [if_neg (by decide +kernel)]; exact ⟨rfl, rfl⟩))
    (fun os started H enc _ F => lifted os started H enc F)
end Go.Proofs.YtanbiinomagdbaaGreat.memoryPlays
namespace Go.Proofs.YtanbiinomagdbaaGreat
theorem memoryPlays_holds : Rows.MemoryPlaysUptoSaid := memoryPlays.over
#print axioms memoryPlays_holds
end Go.Proofs.YtanbiinomagdbaaGreat

/- P6.10: what was handed in is not kept, what is answered is its holder's. -/
import Derived.Test.YtdjddcmpffmehaaGreatKM14
import Derived.ProofKit
import Derived.OpenShut
import Derived.ShutString
import Derived.ChangeOld
import Derived.Below
import Derived.SizedLaws
/- P6.10: what was handed in is not kept, what is answered is its holder's. -/
namespace Go.Proofs.YtdjddcmpffmehaaGreat.kernOwn
open Go.ChangeShapes Go.WideShapes Go.ChangeAt Go.RowKit
open Go.ChangeMaps (open_string shut_string)
set_option linter.unusedVariables false

theorem own : ownKnob Tryz.prog.godebug = none := by kernel_rfl
theorem laidOut : laidOutB Tryz.prog = true := by kernel_rfl

set_option maxRecDepth 100000 in
theorem lifted (os : Os) (started : os.Started) (H : Type) (enc : TypeId × Value → H) :
    ReturnsInHanded {} Tryz.checked os 3 .any (Rows.kernOwnSpec.pre6 enc Tryz.prog Tryz.f3 Rows.kernOwnRow.domain false) (Rows.kernOwnSpec.post enc Tryz.prog Tryz.f3 false true false false) := by
  refine returnsInHanded_of_change_sized (C := Tryz.checked) own started (by kernel_rfl) Tryz.func3
    (ChangeSpec.witness6 (enc := enc) (C := Tryz.checked) false ⟨#[], #[.agg #[.slice none 0 0, .slice none 0 0, .slice none 0 0]], []⟩ 8 (by kernel_rfl) (by kernel_rfl) (by kernel_rfl) (by kernel_rfl)) ?_
  intro W base args ds gs before hval0 hW hcnd0 hsz0 _
  have hsz : (DataW.weightsEach Tryz.prog (Tryz.f3.params.toList ++ Rows.kernOwnSpec.plain.varTypes Tryz.prog) (ds ++ gs)).all (· ≤ reachBytes) = true := hsz0
  clear hsz0
  have hval : ∀ (j : Nat) t v, Tryz.f3.params[j]? = some t → args[j]? = some v → Value.okWide Tryz.prog W .any base t v := hval0
  have hW' := hW
  obtain ⟨p, q, hA0, hV, rfl, hfz, hnd⟩ := hW
  have hA : DataW.TrodAll enc Tryz.prog W 0 (fun _ => true) true Tryz.f3.params.toList args.toList ds p := hA0
  rw [Tryz.params3] at hA hval hsz
  obtain ⟨v0, vs0, d0, ds0, p0, q0, hargs, rfl, rfl, h0, r0⟩ := trodAll_cons hA
  obtain ⟨rfl, rfl, rfl⟩ := trodAll_nil r0
  obtain rfl : args = #[v0] := by cases args; simp_all
  obtain ⟨rfl, rfl⟩ := trodVars_none hV
  obtain ⟨c0, rfl, hc0⟩ := okWide_struct Tryz.underlying26 (hval 0 26 v0 rfl rfl)
  have k0 := h0
  have lt0 : ∀ x ∈ p0, x.block < W.heap.size := by obtain ⟨m, hm⟩ := k0; exact DataW.trod_lt m _ _ _ hm
  obtain ⟨fuel0, hf0⟩ := h0
  obtain ⟨fa0, fl0, fc0, ta0, tl0, tc0, ga0, gl0, gc0, dn0, dt0, dg0, sf0, qn0, qt0, qg0, hcl0, rfl, hfn0, hft0, hfg0⟩ := setup_cells Tryz.underlying26 (by kernel_rfl) rfl rfl rfl (by kernel_rfl) (by kernel_rfl) (by kernel_rfl) Tryz.underlying22 Tryz.underlying23 Tryz.underlying24 hf0
  obtain rfl : c0 = #[.slice fa0 fl0 fc0, .slice ta0 tl0 tc0, .slice ga0 gl0 gc0] := by cases c0; simpa [Value.cells] using hcl0
  obtain ⟨fs0, yf0, ef0⟩ := nms_arg Tryz.underlying22 Tryz.underlying47 (by kernel_rfl) rfl rfl (by kernel_rfl) (by kernel_rfl) Tryz.underlying9 Tryz.underlying45 Tryz.underlying5 (by kernel_rfl) hfn0
  obtain ⟨ts0, yt0, et0⟩ := tps_arg Tryz.underlying23 Tryz.underlying50 (by kernel_rfl) rfl rfl (by kernel_rfl) (by kernel_rfl) Tryz.underlying9 Tryz.underlying48 Tryz.underlying45 (by kernel_rfl) Tryz.underlying5 (by kernel_rfl) hft0
  obtain ⟨gg0, yg0, eg0⟩ := faults_arg Tryz.underlying24 Tryz.underlying52 (by kernel_rfl) rfl rfl (by kernel_rfl) (by kernel_rfl) Tryz.underlying3 Tryz.underlying3 hfg0
  obtain rfl : fl0 = fs0.length := by obtain ⟨_, _, e, _⟩ := yf0; cases e; rfl
  obtain rfl : tl0 = ts0.length := by obtain ⟨_, _, e, _⟩ := yt0; cases e; rfl
  obtain rfl : gl0 = gg0.length := by obtain ⟨_, _, e, _⟩ := flts_form yg0; cases e; rfl
  have sm0 : Small Tryz.prog 26 (.agg [dn0, dt0, dg0]) := small_arg hsz (j := 0) rfl rfl
  have zf0 := named_small (sm0.fields Tryz.underlying26 0 _ _ rfl rfl) Tryz.underlying22 (by kernel_rfl) Tryz.underlying47 Tryz.underlying45 (by kernel_rfl) ef0
  have zt0 := typed_small (sm0.fields Tryz.underlying26 1 _ _ rfl rfl) Tryz.underlying23 (by kernel_rfl) Tryz.underlying50 Tryz.underlying48 Tryz.underlying45 (by kernel_rfl) (by kernel_rfl) et0
  have zg0 := faults_small (sm0.fields Tryz.underlying26 2 _ _ rfl rfl) Tryz.underlying24 (by kernel_rfl) eg0
  clear hA0
  refine (kernOwn_any _ _ _ _ _ _ fs0 ts0 gg0 W yf0 yt0 yg0 zf0 zt0 zg0).mono fun e W' ⟨he, bel⟩ => ?_
  subst he
  exact ⟨_, rfl, _, _, _, [], _, [], hW', trodAll_mk1 (shut_bool Tryz.underlying4 _), (trodAll_cons_mk (Below.trod laidOut (by kernel_rfl) (of_decide_eq_true (by kernel_rfl)) k0 bel lt0) trodAll_mk0), rfl, bel.frame _, fun h => by cases h⟩

theorem over : Rows.kernOwnRow.holds Tryz.pinned (OpenSpec.ofChange Rows.kernOwnSpec) :=
  OpenClaim.holds_of_wide 3 Tryz.f3 rfl rfl rfl rfl rfl rfl rfl ⟨rfl, rfl, rfl, rfl, rfl⟩ rfl rfl rfl rfl rfl (by kernel_rfl) Tryz.func3 (by kernel_rfl)
    (of_decide_eq_true (by kernel_rfl)) (by unfold Func.isWrapper; first | (rw [if_pos (by decide +kernel)]; kernel_rfl) | (rw [if_neg (by decide +kernel)]; exact ⟨rfl, rfl⟩))
    (fun os started H enc _ => lifted os started H enc)
end Go.Proofs.YtdjddcmpffmehaaGreat.kernOwn
namespace Go.Proofs.YtdjddcmpffmehaaGreat
theorem kernOwn_holds : Rows.KernOwnSaid := kernOwn.over
#print axioms kernOwn_holds
end Go.Proofs.YtdjddcmpffmehaaGreat

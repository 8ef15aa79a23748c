/- BlocksOwn: for every state, size and count, what Read tells is the caller's, the state that follows shares nothing with the one handed in; over a Raw that is nil Read and Write are refused. -/
import Derived.Test.YtmlfcbbgelkbbaaGreatKW12
import Derived.ProofKit
import Derived.OpenShut
import Derived.ShutString
import Derived.ChangeOld
import Derived.Below
import Derived.SizedLaws
/- BlocksOwn: for every state, size and count, what Read tells is the caller's, the state that follows shares nothing with the one handed in; over a Raw that is nil Read and Write are refused. -/
namespace Go.Proofs.YtmlfcbbgelkbbaaGreat.blocksOwn
open Go.ChangeShapes Go.WideShapes Go.ChangeAt Go.RowKit
open Go.ChangeMaps (open_string shut_string)
set_option linter.unusedVariables false

theorem own : ownKnob Tryz.prog.godebug = none := by kernel_rfl
theorem laidOut : laidOutB Tryz.prog = true := by kernel_rfl

set_option maxRecDepth 100000 in
theorem lifted (os : Os) (started : os.Started) (H : Type) (enc : TypeId × Value → H) :
    ReturnsInHanded {} Tryz.checked os 6 .any (Rows.blocksOwnSpec.pre6 enc Tryz.prog Tryz.f6 Rows.blocksOwnRow.domain false) (Rows.blocksOwnSpec.post enc Tryz.prog Tryz.f6 false true false false) := by
  refine returnsInHanded_of_change_sized (C := Tryz.checked) own started (by kernel_rfl) Tryz.func6
    (ChangeSpec.witness6 (enc := enc) (C := Tryz.checked) false ⟨#[], #[.agg #[.bool false, .bool false, .int .i64 0, .int .i64 0, .slice none 0 0, .slice none 0 0, .slice none 0 0, .int .i64 0, .bool false, .bool false, .bool false], .int .i64 0, .int .i64 0], []⟩ 8 (by kernel_rfl) (by kernel_rfl) (by kernel_rfl) (by kernel_rfl)) ?_
  intro W base args ds gs before hval0 hW hcnd0 hsz0 _
  have hsz : (DataW.weightsEach Tryz.prog (Tryz.f6.params.toList ++ Rows.blocksOwnSpec.plain.varTypes Tryz.prog) (ds ++ gs)).all (· ≤ reachBytes) = true := hsz0
  clear hsz0
  have hval : ∀ (j : Nat) t v, Tryz.f6.params[j]? = some t → args[j]? = some v → Value.okWide Tryz.prog W .any base t v := hval0
  have hW' := hW
  obtain ⟨p, q, hA0, hV, rfl, hfz, hnd⟩ := hW
  have hA : DataW.TrodAll enc Tryz.prog W 0 (fun _ => true) true Tryz.f6.params.toList args.toList ds p := hA0
  rw [Tryz.params6] at hA hval hsz
  obtain ⟨v0, vs0, d0, ds0, p0, q0, hargs, rfl, rfl, h0, r0⟩ := trodAll_cons hA
  obtain ⟨v1, vs1, d1, ds1, p1, q1, rfl, rfl, rfl, h1, r1⟩ := trodAll_cons r0
  obtain ⟨v2, vs2, d2, ds2, p2, q2, rfl, rfl, rfl, h2, r2⟩ := trodAll_cons r1
  obtain ⟨rfl, rfl, rfl⟩ := trodAll_nil r2
  obtain rfl : args = #[v0, v1, v2] := by cases args; simp_all
  obtain ⟨rfl, rfl⟩ := trodVars_none hV
  obtain ⟨c0, rfl, hc0⟩ := okWide_struct Tryz.underlying52 (hval 0 52 v0 rfl rfl)
  have k0 := h0
  have lt0 : ∀ x ∈ p0, x.block < W.heap.size := by obtain ⟨m, hm⟩ := k0; exact DataW.trod_lt m _ _ _ hm
  obtain ⟨fuel0, hf0⟩ := h0
  obtain ⟨x0, ov0, iv0, bv0, hcl0, yo0, yi0, yb0, _, _, _, _, _, _, _, _, _, _, _, rfl, eo0, ei0, eb0⟩ := state_cells hf0
  obtain rfl : c0 = #[.bool x0.rd, .bool x0.wt, .int .i64 x0.mode, .int .i64 x0.size, ov0, iv0, bv0, .int .i64 x0.dir, .bool x0.fin, .bool x0.bad, .bool x0.closed] := by cases c0; simpa [Value.cells] using hcl0
  have sm0 := msmall_arg hsz (j := 0) (t := 52) rfl rfl
  have zo0 : x0.out.length ≤ 140737488351232 := mbytes_small (sm0.fields Tryz.underlying52 4 _ _ rfl rfl) Tryz.underlying40 (by kernel_rfl) eo0
  have zi0 : x0.inn.length ≤ 140737488351232 := mbytes_small (sm0.fields Tryz.underlying52 5 _ _ rfl rfl) Tryz.underlying40 (by kernel_rfl) ei0
  have zb0 : x0.back.length ≤ 140737488351232 := mbytes_small (sm0.fields Tryz.underlying52 6 _ _ rfl rfl) Tryz.underlying40 (by kernel_rfl) eb0
  obtain ⟨a1, rfl, rfl, rfl, w1⟩ := open_int Tryz.underlying3 (hval 1 3 v1 rfl rfl) h1
  have b1 := bounds_i64 w1
  obtain ⟨a2, rfl, rfl, rfl, w2⟩ := open_int Tryz.underlying3 (hval 2 3 v2 rfl rfl) h2
  have b2 := bounds_i64 w2
  clear hA0
  refine (lownb_any x0 ov0 iv0 bv0 a1 a2 W ⟨yo0, yi0, yb0, fun _ _ => trivial, fun _ _ => trivial, fun _ _ => trivial⟩ zo0 zi0 zb0).mono fun e W' ⟨he, bel⟩ => ?_
  subst he
  exact ⟨_, rfl, _, _, _, [], _, [], hW', trodAll_mk1 (shut_bool Tryz.underlying4 _), (trodAll_cons_mk (Below.trod laidOut (by kernel_rfl) (of_decide_eq_true (by kernel_rfl)) k0 bel lt0) (trodAll_cons_mk (shut_int Tryz.underlying3 w1) (trodAll_cons_mk (shut_int Tryz.underlying3 w2) trodAll_mk0))), rfl, bel.frame _, fun h => by cases h⟩

theorem over : Rows.blocksOwnRow.holds Tryz.pinned (OpenSpec.ofChange Rows.blocksOwnSpec) :=
  OpenClaim.holds_of_wide 6 Tryz.f6 rfl rfl rfl rfl rfl rfl rfl ⟨rfl, rfl, rfl, rfl, rfl⟩ rfl rfl rfl rfl rfl (by kernel_rfl) Tryz.func6 (by kernel_rfl)
    (of_decide_eq_true (by kernel_rfl)) (by unfold Func.isWrapper; first | (rw [if_pos (by decide +kernel)]; kernel_rfl) | (rw [if_neg (by decide +kernel)]; exact ⟨rfl, rfl⟩))
    (fun os started H enc _ => lifted os started H enc)
end Go.Proofs.YtmlfcbbgelkbbaaGreat.blocksOwn
namespace Go.Proofs.YtmlfcbbgelkbbaaGreat
theorem blocksOwn_holds : Rows.BlocksOwnSaid := blocksOwn.over
#print axioms blocksOwn_holds
end Go.Proofs.YtmlfcbbgelkbbaaGreat

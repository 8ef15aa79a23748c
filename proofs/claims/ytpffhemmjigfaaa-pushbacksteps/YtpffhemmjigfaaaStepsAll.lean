/- PushbackSteps: for every state, byte and bytes, what Unget, UngetAll and Held answer, and the state that follows, are what the page says; the state that is handed in stays. -/
import Derived.Test.YtpffhemmjigfaaaKM14
import Derived.ProofKit
import Derived.OpenShut
import Derived.ShutString
import Derived.ChangeOld
import Derived.Below
import Derived.SizedLaws
/- PushbackSteps: for every state, byte and bytes, what Unget, UngetAll and Held answer, and the state that follows, are what the page says; the state that is handed in stays. -/
namespace Go.Proofs.Ytpffhemmjigfaaa.pushbackSteps
open Go.ChangeShapes Go.WideShapes Go.ChangeAt Go.RowKit
open Go.ChangeMaps (open_string shut_string)
set_option linter.unusedVariables false

theorem own : ownKnob Try.prog.godebug = none := by kernel_rfl
theorem laidOut : laidOutB Try.prog = true := by kernel_rfl

set_option maxRecDepth 100000 in
theorem lifted (os : Os) (started : os.Started) (H : Type) (enc : TypeId × Value → H) :
    ReturnsInHanded {} Try.checked os 3 .any (Rows.pushbackStepsSpec.pre6 enc Try.prog Try.f3 Rows.pushbackStepsRow.domain false) (Rows.pushbackStepsSpec.post enc Try.prog Try.f3 false true false false) := by
  refine returnsInHanded_of_change_sized (C := Try.checked) own started (by kernel_rfl) Try.func3
    (ChangeSpec.witness6 (enc := enc) (C := Try.checked) false ⟨#[], #[.agg #[.bool false, .bool false, .int .i64 0, .int .i64 0, .slice none 0 0, .slice none 0 0, .slice none 0 0, .int .i64 0, .bool false, .bool false, .bool false], .int .u8 0, .slice none 0 0], []⟩ 8 (by kernel_rfl) (by kernel_rfl) (by kernel_rfl) (by kernel_rfl)) ?_
  intro W base args ds gs before hval0 hW hcnd0 hsz0 _
  have hsz : (DataW.weightsEach Try.prog (Try.f3.params.toList ++ Rows.pushbackStepsSpec.plain.varTypes Try.prog) (ds ++ gs)).all (· ≤ reachBytes) = true := hsz0
  clear hsz0
  have hval : ∀ (j : Nat) t v, Try.f3.params[j]? = some t → args[j]? = some v → Value.okWide Try.prog W .any base t v := hval0
  have hW' := hW
  obtain ⟨p, q, hA0, hV, rfl, hfz, hnd⟩ := hW
  have hA : DataW.TrodAll enc Try.prog W 0 (fun _ => true) true Try.f3.params.toList args.toList ds p := hA0
  rw [Try.params3] at hA hval hsz
  obtain ⟨v0, vs0, d0, ds0, p0, q0, hargs, rfl, rfl, h0, r0⟩ := trodAll_cons hA
  obtain ⟨v1, vs1, d1, ds1, p1, q1, rfl, rfl, rfl, h1, r1⟩ := trodAll_cons r0
  obtain ⟨v2, vs2, d2, ds2, p2, q2, rfl, rfl, rfl, h2, r2⟩ := trodAll_cons r1
  obtain ⟨rfl, rfl, rfl⟩ := trodAll_nil r2
  obtain rfl : args = #[v0, v1, v2] := by cases args; simp_all
  obtain ⟨rfl, rfl⟩ := trodVars_none hV
  obtain ⟨c0, rfl, hc0⟩ := okWide_struct Try.underlying24 (hval 0 24 v0 rfl rfl)
  have k0 := h0
  have lt0 : ∀ x ∈ p0, x.block < W.heap.size := by obtain ⟨m, hm⟩ := k0; exact DataW.trod_lt m _ _ _ hm
  obtain ⟨fuel0, hf0⟩ := h0
  obtain ⟨x0, ov0, iv0, bv0, hcl0, yo0, yi0, yb0, _, _, _, _, _, _, _, _, _, _, _, rfl, eo0, ei0, eb0⟩ := state_cells hf0
  obtain rfl : c0 = #[.bool x0.rd, .bool x0.wt, .int .i64 x0.mode, .int .i64 x0.size, ov0, iv0, bv0, .int .i64 x0.dir, .bool x0.fin, .bool x0.bad, .bool x0.closed] := by cases c0; simpa [Value.cells] using hcl0
  have sm0 := msmall_arg hsz (j := 0) (t := 24) rfl rfl
  have zo0 : x0.out.length ≤ 140737488351232 := mbytes_small (sm0.fields Try.underlying24 4 _ _ rfl rfl) Try.underlying22 (by kernel_rfl) eo0
  have zi0 : x0.inn.length ≤ 140737488351232 := mbytes_small (sm0.fields Try.underlying24 5 _ _ rfl rfl) Try.underlying22 (by kernel_rfl) ei0
  have zb0 : x0.back.length ≤ 140737488351232 := mbytes_small (sm0.fields Try.underlying24 6 _ _ rfl rfl) Try.underlying22 (by kernel_rfl) eb0
  obtain ⟨a1, rfl, rfl, rfl, w1⟩ := open_int Try.underlying5 (hval 1 5 v1 rfl rfl) h1
  have b1 := bounds_u8 w1
  obtain ⟨u1, rfl⟩ : ∃ u : UInt8, a1 = (u.toNat : Int) := ⟨UInt8.ofNat a1.toNat, by have := @UInt8.toNat_ofNat' a1.toNat; omega⟩
  obtain ⟨c2, len2, cap2, rfl⟩ := okWide_slice Try.underlying22 (hval 2 22 v2 rfl rfl)
  have k2 := h2
  have lt2 : ∀ x ∈ p2, x.block < W.heap.size := by obtain ⟨m, hm⟩ := k2; exact DataW.trod_lt m _ _ _ hm
  obtain ⟨fuel2, hf2⟩ := h2
  obtain ⟨l2, y2, e2⟩ := bytes_arg Try.underlying22 Try.underlying5 (by kernel_rfl) hf2
  have z2 : l2.length * 1 ≤ 140737488351232 := by
    rcases e2 with ⟨_, rfl⟩ | ⟨elems, spare, rfl, hll⟩
    · simp
    · have := sized_slice hsz (j := 2) (t := 22) (e := 5) rfl rfl Try.underlying22
      rw [show Try.prog.bytesOf 5 = 1 by kernel_rfl] at this; simp only [reachBytes] at this; omega
  clear hA0
  refine (psteps_any x0 ov0 iv0 bv0 u1 c2 len2 cap2 l2 W ⟨yo0, yi0, yb0, fun _ _ => trivial, fun _ _ => trivial, fun _ _ => trivial⟩ zo0 zi0 zb0 y2 (by omega)).mono fun e W' ⟨he, bel⟩ => ?_
  subst he
  exact ⟨_, rfl, _, _, _, [], _, [], hW', trodAll_mk1 (shut_bool Try.underlying4 _), (trodAll_cons_mk (Below.trod laidOut (by kernel_rfl) (of_decide_eq_true (by kernel_rfl)) k0 bel lt0) (trodAll_cons_mk (shut_int Try.underlying5 w1) (trodAll_cons_mk (Below.trod laidOut (by kernel_rfl) (of_decide_eq_true (by kernel_rfl)) k2 bel lt2) trodAll_mk0))), rfl, bel.frame _, fun h => by cases h⟩

theorem over : Rows.pushbackStepsRow.holds Try.pinned (OpenSpec.ofChange Rows.pushbackStepsSpec) :=
  OpenClaim.holds_of_wide 3 Try.f3 rfl rfl rfl rfl rfl rfl rfl ⟨rfl, rfl, rfl, rfl, rfl⟩ rfl rfl rfl rfl rfl (by kernel_rfl) Try.func3 (by kernel_rfl)
    (of_decide_eq_true (by kernel_rfl)) (by unfold Func.isWrapper; first | (rw [if_pos (by decide +kernel)]; kernel_rfl) | (rw [if_neg (by decide +kernel)]; exact ⟨rfl, rfl⟩))
    (fun os started H enc _ => lifted os started H enc)
end Go.Proofs.Ytpffhemmjigfaaa.pushbackSteps
namespace Go.Proofs.Ytpffhemmjigfaaa
theorem pushbackSteps_holds : Rows.PushbackStepsSaid := pushbackSteps.over
#print axioms pushbackSteps_holds
end Go.Proofs.Ytpffhemmjigfaaa

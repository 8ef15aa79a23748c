/- PushbackOne: for every state and bytes, UngetAll is Unget, from the last byte to the first: the same state that follows, and the same error. -/
import Derived.Test.YtpffhemmjigfaaaKM14
import Derived.ProofKit
import Derived.OpenShut
import Derived.ShutString
import Derived.ChangeOld
import Derived.Below
import Derived.SizedLaws
/- PushbackOne: for every state and bytes, UngetAll is Unget, from the last byte to the first: the same state that follows, and the same error. -/
namespace Go.Proofs.Ytpffhemmjigfaaa.pushbackOne
open Go.ChangeShapes Go.WideShapes Go.ChangeAt Go.RowKit
open Go.ChangeMaps (open_string shut_string)
set_option linter.unusedVariables false

theorem own : ownKnob Try.prog.godebug = none := by kernel_rfl
theorem laidOut : laidOutB Try.prog = true := by kernel_rfl

set_option maxRecDepth 100000 in
theorem lifted (os : Os) (started : os.Started) (H : Type) (enc : TypeId × Value → H) :
    ReturnsInHanded {} Try.checked os 5 .any (Rows.pushbackOneSpec.pre6 enc Try.prog Try.f5 Rows.pushbackOneRow.domain false) (Rows.pushbackOneSpec.post enc Try.prog Try.f5 false true false false) := by
  refine returnsInHanded_of_change_sized (C := Try.checked) own started (by kernel_rfl) Try.func5
    (ChangeSpec.witness6 (enc := enc) (C := Try.checked) false ⟨#[], #[.agg #[.bool false, .bool false, .int .i64 0, .int .i64 0, .slice none 0 0, .slice none 0 0, .slice none 0 0, .int .i64 0, .bool false, .bool false, .bool false], .slice none 0 0], []⟩ 8 (by kernel_rfl) (by kernel_rfl) (by kernel_rfl) (by kernel_rfl)) ?_
  intro W base args ds gs before hval0 hW hcnd0 hsz0 _
  have hsz : (DataW.weightsEach Try.prog (Try.f5.params.toList ++ Rows.pushbackOneSpec.plain.varTypes Try.prog) (ds ++ gs)).all (· ≤ reachBytes) = true := hsz0
  clear hsz0
  have hval : ∀ (j : Nat) t v, Try.f5.params[j]? = some t → args[j]? = some v → Value.okWide Try.prog W .any base t v := hval0
  have hW' := hW
  obtain ⟨p, q, hA0, hV, rfl, hfz, hnd⟩ := hW
  have hA : DataW.TrodAll enc Try.prog W 0 (fun _ => true) true Try.f5.params.toList args.toList ds p := hA0
  rw [Try.params5] at hA hval hsz
  obtain ⟨v0, vs0, d0, ds0, p0, q0, hargs, rfl, rfl, h0, r0⟩ := trodAll_cons hA
  obtain ⟨v1, vs1, d1, ds1, p1, q1, rfl, rfl, rfl, h1, r1⟩ := trodAll_cons r0
  obtain ⟨rfl, rfl, rfl⟩ := trodAll_nil r1
  obtain rfl : args = #[v0, v1] := by cases args; simp_all
  obtain ⟨rfl, rfl⟩ := trodVars_none hV
  obtain ⟨c0, rfl, hc0⟩ := okWide_struct Try.underlying24 (hval 0 24 v0 rfl rfl)
  have k0 := h0
  have lt0 : ∀ x ∈ p0, x.block < W.heap.size := by obtain ⟨m, hm⟩ := k0; exact DataW.trod_lt m _ _ _ hm
  obtain ⟨fuel0, hf0⟩ := h0
  obtain ⟨x0, ov0, iv0, bv0, hcl0, yo0, yi0, yb0, _, _, _, _, _, _, _, _, _, _, _, rfl, eo0, ei0, eb0⟩ := state_cells hf0
  obtain rfl : c0 = #[.bool x0.rd, .bool x0.wt, .int .i64 x0.mode, .int .i64 x0.size, ov0, iv0, bv0, .int .i64 x0.dir, .bool x0.fin, .bool x0.bad, .bool x0.closed] := by cases c0; simpa [Value.cells] using hcl0
  have sm0 := msmall_arg hsz (j := 0) (t := 24) rfl rfl
  have zo0 : x0.out.length ≤ 140737488351232 := mbytes_small (sm0.fields Try.underlying24 4 _ _ rfl rfl) Try.underlying22 (by kernel_rfl) eo0
  have zi0 : x0.inn.length ≤ 140737488351232 := mbytes_small (sm0.fields Try.underlying24 5 _ _ rfl rfl) Try.underlying22 (by kernel_rfl) ei0
  have zb0 : x0.back.length ≤ 140737488351232 := mbytes_small (sm0.fields Try.underlying24 6 _ _ rfl rfl) Try.underlying22 (by kernel_rfl) eb0
  obtain ⟨c1, len1, cap1, rfl⟩ := okWide_slice Try.underlying22 (hval 1 22 v1 rfl rfl)
  have k1 := h1
  have lt1 : ∀ x ∈ p1, x.block < W.heap.size := by obtain ⟨m, hm⟩ := k1; exact DataW.trod_lt m _ _ _ hm
  obtain ⟨fuel1, hf1⟩ := h1
  obtain ⟨l1, y1, e1⟩ := bytes_arg Try.underlying22 Try.underlying5 (by kernel_rfl) hf1
  have z1 : l1.length * 1 ≤ 140737488351232 := by
    rcases e1 with ⟨_, rfl⟩ | ⟨elems, spare, rfl, hll⟩
    · simp
    · have := sized_slice hsz (j := 1) (t := 22) (e := 5) rfl rfl Try.underlying22
      rw [show Try.prog.bytesOf 5 = 1 by kernel_rfl] at this; simp only [reachBytes] at this; omega
  clear hA0
  refine (pone_any x0 ov0 iv0 bv0 c1 len1 cap1 l1 W ⟨yo0, yi0, yb0, fun _ _ => trivial, fun _ _ => trivial, fun _ _ => trivial⟩ zo0 zi0 zb0 y1 (by omega)).mono fun e W' ⟨he, bel⟩ => ?_
  subst he
  exact ⟨_, rfl, _, _, _, [], _, [], hW', trodAll_mk1 (shut_bool Try.underlying4 _), (trodAll_cons_mk (Below.trod laidOut (by kernel_rfl) (of_decide_eq_true (by kernel_rfl)) k0 bel lt0) (trodAll_cons_mk (Below.trod laidOut (by kernel_rfl) (of_decide_eq_true (by kernel_rfl)) k1 bel lt1) trodAll_mk0)), rfl, bel.frame _, fun h => by cases h⟩

theorem over : Rows.pushbackOneRow.holds Try.pinned (OpenSpec.ofChange Rows.pushbackOneSpec) :=
  OpenClaim.holds_of_wide 5 Try.f5 rfl rfl rfl rfl rfl rfl rfl ⟨rfl, rfl, rfl, rfl, rfl⟩ rfl rfl rfl rfl rfl (by kernel_rfl) Try.func5 (by kernel_rfl)
    (of_decide_eq_true (by kernel_rfl)) (by unfold Func.isWrapper; first | (rw [if_pos (by decide +kernel)]; kernel_rfl) | (rw [if_neg (by decide +kernel)]; exact ⟨rfl, rfl⟩))
    (fun os started H enc _ => lifted os started H enc)
end Go.Proofs.Ytpffhemmjigfaaa.pushbackOne
namespace Go.Proofs.Ytpffhemmjigfaaa
theorem pushbackOne_holds : Rows.PushbackOneSaid := pushbackOne.over
#print axioms pushbackOne_holds
end Go.Proofs.Ytpffhemmjigfaaa

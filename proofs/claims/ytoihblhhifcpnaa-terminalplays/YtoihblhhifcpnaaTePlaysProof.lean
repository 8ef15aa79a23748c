/- TerminalPlays answers true for all lines and all steps, within the reach of a machine's memory: a terminal of any lines answers each read, write and copy as the page's does, and has the same lines left and the same screen behind each. -/
import Derived.Test.YtoihblhhifcpnaaTePlays
import Derived.Test.YtoihblhhifcpnaaTeFrame
import Derived.ProofKit
import Derived.OpenShut
import Derived.ShutString
import Derived.ChangeOld
import Derived.Below
import Derived.SizedLaws
namespace Go.Proofs.Ytoihblhhifcpnaa.terminalPlays
open Go.ChangeShapes Go.WideShapes Go.ChangeAt Go.RowKit
open Go.ChangeMaps (open_string shut_string)
set_option linter.unusedVariables false

theorem own : ownKnob Try.prog.godebug = none := by kernel_rfl
theorem laidOut : laidOutB Try.prog = true := by kernel_rfl

set_option maxRecDepth 100000 in
theorem lifted (os : Os) (started : os.Started) (H : Type) (enc : TypeId × Value → H) :
    ReturnsInHanded {} Try.checked os 3 .any (Rows.terminalPlaysSpec.pre6 enc Try.prog Try.f3 Rows.terminalPlaysRow.domain false) (Rows.terminalPlaysSpec.post enc Try.prog Try.f3 false true false false) := by
  refine returnsInHanded_of_change_sized (C := Try.checked) own started (by kernel_rfl) Try.func3
    (ChangeSpec.witness6 (enc := enc) (C := Try.checked) false ⟨#[], #[.slice none 0 0, .slice none 0 0], []⟩ 8 (by kernel_rfl) (by kernel_rfl) (by kernel_rfl) (by kernel_rfl)) ?_
  intro W base args ds gs before hval0 hW hcnd0 hsz0 _
  have hsz : (DataW.weightsEach Try.prog (Try.f3.params.toList ++ Rows.terminalPlaysSpec.plain.varTypes Try.prog) (ds ++ gs)).all (· ≤ reachBytes) = true := hsz0
  clear hsz0
  have hval : ∀ (j : Nat) t v, Try.f3.params[j]? = some t → args[j]? = some v → Value.okWide Try.prog W .any base t v := hval0
  have hW' := hW
  obtain ⟨p, q, hA0, hV, rfl, hfz, hnd⟩ := hW
  have hA : DataW.TrodAll enc Try.prog W 0 (fun _ => true) true Try.f3.params.toList args.toList ds p := hA0
  rw [Try.params3] at hA hval hsz
  obtain ⟨v0, vs0, d0, ds0, p0, q0, hargs, rfl, rfl, h0, r0⟩ := trodAll_cons hA
  obtain ⟨v1, vs1, d1, ds1, p1, q1, rfl, rfl, rfl, h1, r1⟩ := trodAll_cons r0
  obtain ⟨rfl, rfl, rfl⟩ := trodAll_nil r1
  obtain rfl : args = #[v0, v1] := by cases args; simp_all
  obtain ⟨rfl, rfl⟩ := trodVars_none hV
  obtain ⟨c0, len0, cap0, rfl⟩ := okWide_slice Try.underlying22 (hval 0 22 v0 rfl rfl)
  have k0 := h0
  have lt0 : ∀ x ∈ p0, x.block < W.heap.size := by obtain ⟨m, hm⟩ := k0; exact DataW.trod_lt m _ _ _ hm
  obtain ⟨fuel0, hf0⟩ := h0
  obtain ⟨l0, y0, e0⟩ := lns_arg Try.underlying22 Try.underlying33 (by kernel_rfl) Try.underlying5 (by kernel_rfl) hf0
  have z0 : l0.length * 24 ≤ 140737488351232 ∧ ∀ i (hi : i < l0.length), l0[i].length ≤ 140737488351232 := by
    rcases e0 with ⟨_, rfl⟩ | ⟨elems, spare, rfl, hll, hel⟩
    · exact ⟨by simp, fun i hi => absurd hi (by simp)⟩
    · refine ⟨?_, fun i hi => ?_⟩
      · have := sized_slice hsz (j := 0) (t := 22) (e := 33) rfl rfl Try.underlying22
        rw [show Try.prog.bytesOf 33 = 24 by kernel_rfl] at this; simp only [reachBytes] at this; omega
      · obtain ⟨di, hm, hO⟩ := hel i hi
        exact sized_lines hsz (j := 0) (t := 22) (e := 33) rfl rfl Try.underlying22 hm Try.underlying33 (by kernel_rfl) hO
  obtain ⟨c1, len1, cap1, rfl⟩ := okWide_slice Try.underlying23 (hval 1 23 v1 rfl rfl)
  have k1 := h1
  have lt1 : ∀ x ∈ p1, x.block < W.heap.size := by obtain ⟨m, hm⟩ := k1; exact DataW.trod_lt m _ _ _ hm
  obtain ⟨fuel1, hf1⟩ := h1
  obtain ⟨l1, y1, e1⟩ := stps_arg Try.underlying23 Try.underlying35 (by kernel_rfl) rfl rfl rfl (by kernel_rfl) (by kernel_rfl) (by kernel_rfl) Try.underlying3 Try.underlying3 Try.underlying33 Try.underlying5 (by kernel_rfl) hf1
  have z1 : l1.length * 40 ≤ 140737488351232 ∧ ∀ i (hi : i < l1.length), l1[i].2.2.length ≤ 140737488351232 := by
    rcases e1 with ⟨_, rfl⟩ | ⟨elems, spare, rfl, hll, hel⟩
    · exact ⟨by simp, fun i hi => absurd hi (by simp)⟩
    · refine ⟨?_, fun i hi => ?_⟩
      · have := sized_slice hsz (j := 1) (t := 23) (e := 35) rfl rfl Try.underlying23
        rw [show Try.prog.bytesOf 35 = 40 by kernel_rfl] at this; simp only [reachBytes] at this; omega
      · obtain ⟨x0, x1, d2, hm, hO⟩ := hel i hi
        exact sized_steps hsz (j := 1) (t := 23) (e := 35) rfl rfl Try.underlying23 hm Try.underlying35 Try.underlying33 (by kernel_rfl) hO
  clear hA0
  refine (plays_walk _ _ l0 l1 W y0 y1 z0.1 z0.2 z1.1 z1.2).mono fun e W' ⟨he, bel⟩ => ?_
  subst he
  exact ⟨_, rfl, _, _, _, [], _, [], hW', trodAll_mk1 (shut_bool Try.underlying4 _), (trodAll_cons_mk (Below.trod laidOut (by kernel_rfl) (of_decide_eq_true (by kernel_rfl)) k0 bel lt0) (trodAll_cons_mk (Below.trod laidOut (by kernel_rfl) (of_decide_eq_true (by kernel_rfl)) k1 bel lt1) trodAll_mk0)), rfl, bel.frame _, fun h => by cases h⟩

theorem over : Rows.terminalPlaysRow.holds Try.pinned (OpenSpec.ofChange Rows.terminalPlaysSpec) :=
  OpenClaim.holds_of_wide 3 Try.f3 rfl rfl rfl rfl rfl rfl rfl ⟨rfl, rfl, rfl, rfl, rfl⟩ rfl rfl rfl rfl rfl (by kernel_rfl) Try.func3 (by kernel_rfl)
    (of_decide_eq_true (by kernel_rfl)) (by unfold Func.isWrapper; first | (rw [if_pos (by decide +kernel)]; kernel_rfl) | (rw [if_neg (by decide +kernel)]; exact ⟨rfl, rfl⟩))
    (fun os started H enc _ => lifted os started H enc)
end Go.Proofs.Ytoihblhhifcpnaa.terminalPlays
namespace Go.Proofs.Ytoihblhhifcpnaa
theorem terminalPlays_holds : Rows.TerminalPlaysSaid := terminalPlays.over
#print axioms terminalPlays_holds
end Go.Proofs.Ytoihblhhifcpnaa

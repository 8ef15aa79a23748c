/- FormatOwn: for every pattern and Args, what Format answers is the caller's: spoiling one answer changes no other; asked again the answer is the same. -/
import Derived.Test.YtpcchaciomeckaaDoorKF4
import Derived.Test.YtpcchaciomeckaaDoorTie
import Derived.Test.YtpcchaciomeckaaDoorCards
import Derived.LaidMore
import Derived.Lay
import Derived.SevenTiedAt
import Derived.Stop.Joined
import Derived.ProofKit
import Derived.OpenShut
import Derived.ShutString
import Derived.ChangeOld
import Derived.Below
import Derived.SizedLaws
/- FormatOwn: the walk. -/
namespace Go.Proofs.YtpcchaciomeckaaDoor
open Go.RowKit

set_option maxRecDepth 100000 in
set_option maxHeartbeats 4000000 in
theorem formatOwn_any (s : ByteArray) (va : Value) (aa : List Ag) (w : World) (hs : s.size ≤ maxLen) (hA : AgsV w va aa) : Calls Tryd.prog 8 #[.string s, va] w fun e w' => e = .returned (.bool true) ∧ Below w.heap.size w w' := by
  have hlen := fmtV_len s.data.toList aa
  have hF := fun W (hW : Below w.heap.size w W) => format_any s va aa W hs (hA.below hW)
  generalize fmtV s.data.toList aa = R at *
  obtain ⟨T, e, p⟩ := R
  simp only at hlen hF
  have HF := hide hF
  obtain ⟨va1, vc1, rfl, -⟩ := hA
  have HL : Hid (T.length ≤ 65536) := hlen
  clear hF hlen
  go_enter Tryd.func8, Tryd.ntmps8
  go_wp2_with fail
  refine (alive17 _).mono ?_
  rintro _ w1 ⟨rfl, hB1⟩
  have HB1 := hide hB1
  clear hB1
  go_wp2_with fail
  refine (HF.out _ HB1.out).mono ?_
  rintro _ w2 ⟨v1, rfl, hO1, hB2⟩
  have HO1 := hide hO1
  have HY1 := hide (Bys.of_owns hO1)
  have HB2 := hide (HB1.out.trans (hB2.mono HB1.out.size))
  clear hO1 hB2 HB1
  go_wp2_with fail
  refine (copy_any _ _ _ HY1.out (by have := HL.out; omega)).mono ?_
  rintro _ w3 ⟨v2, rfl, hO2, hB3⟩
  have HY2 := hide (Bys.of_owns hO2)
  have HY1' := hide (HY1.out.below hB3)
  have HB3 := hide (HB2.out.trans (hB3.mono HB2.out.size))
  clear hO2 hB3 HB2 HY1
  go_wp2_with fail
  refine (HF.out _ HB3.out).mono ?_
  rintro _ w4 ⟨v3, rfl, hO3, hB4⟩
  have HO3 := hide hO3
  have HB34 := hide hB4
  clear hO3 hB4
  go_wp2_with fail
  refine (spoil_any w3.heap.size v3 T.length (T.map bv) _ HO3.out (fun u hu => by obtain ⟨c, _, rfl⟩ := List.mem_map.1 hu; exact ⟨_, rfl⟩) (by have := HL.out; unfold maxLen; omega)).mono ?_
  rintro _ w5 ⟨rfl, hB5⟩
  have HB35 := hide (HB34.out.trans hB5)
  have HY2' := hide (HY2.out.below HB35.out)
  have HY1 := hide (HY1'.out.below HB35.out)
  have HB5 := hide (HB3.out.trans (HB35.out.mono HB3.out.size))
  clear hB5 HY2 HY1' HB35 HB34 HO3 HB3
  go_wp2_with fail
  refine (HF.out _ HB5.out).mono ?_
  rintro _ w6 ⟨v4, rfl, hO4, hB6⟩
  have HY4 := hide (Bys.of_owns hO4)
  have HY2 := hide (HY2'.out.below hB6)
  have HY1' := hide (HY1.out.below hB6)
  have HB6 := hide (HB5.out.trans (hB6.mono HB5.out.size))
  clear hO4 hB6 HY2' HY1 HB5
  have HLm : Hid (T.length ≤ maxLen) := hide (by have := HL.out; unfold maxLen; omega)
  go_wp2_with fail
  refine (same_any _ _ T _ HY1'.out HY2.out HLm.out).mono ?_
  rintro _ w7 ⟨rfl, hB7⟩
  have HY2' := hide (HY2.out.below hB7)
  have HY4' := hide (HY4.out.below hB7)
  have HB7 := hide (HB6.out.trans (hB7.mono HB6.out.size))
  clear hB7 HY2 HY4 HB6 HY1'
  go_wp2_with fail
  refine (same_any _ _ T _ HY4'.out HY2'.out HLm.out).mono ?_
  rintro _ w8 ⟨rfl, hB8⟩
  have HB8 := hide (HB7.out.trans (hB8.mono HB7.out.size))
  go_wp2
  go_ret
  exact ⟨rfl, HB8.out⟩
theorem formatOwn_fr (s : ByteArray) (c : Option Addr) (cap : Nat) (l : List Ag) (W : World) (hs : s.size ≤ 140737488351232) (h : RowsR W 4 ACells (.slice c l.length cap) l) : Calls Tryd.prog 8 #[.string s, .slice c l.length cap] W fun e w' => e = .returned (.bool true) ∧ Below W.heap.size W w' :=
  formatOwn_any s _ l W (by unfold maxLen; omega) (AgsV.of_rows h)
end Go.Proofs.YtpcchaciomeckaaDoor

/- FormatOwn: for every pattern and Args, what Format answers is the caller's: spoiling one answer changes no other; asked again the answer is the same. -/
namespace Go.Proofs.YtpcchaciomeckaaDoor.formatOwn
open Go.ChangeShapes Go.WideShapes Go.ChangeAt Go.RowKit
open Go.ChangeMaps (open_string shut_string)
set_option linter.unusedVariables false

theorem own : ownKnob Tryd.prog.godebug = none := by kernel_rfl
theorem laidOut : laidOutB Tryd.prog = true := by kernel_rfl

set_option maxRecDepth 100000 in
theorem lifted (os : Os) (started : os.Started) (H : Type) (enc : TypeId × Value → H) :
    ReturnsInHanded {} Tryd.checked os 8 .any (fun w args => (Rows.formatOwnSpec.pre enc Tryd.prog Tryd.f8 Rows.formatOwnRow.domain false w args ∧ laidMetH Tryd.prog Rows.formatOwnRow.laid w) ∧ sizedMet enc Tryd.prog Tryd.f8 (OpenSpec.ofChange Rows.formatOwnSpec) false w args) (Rows.formatOwnSpec.post enc Tryd.prog Tryd.f8 false true false false) := by
  refine returnsInHanded_of_change_and (C := Tryd.checked) (X := fun w _ => laidMetH Tryd.prog Rows.formatOwnRow.laid w) (fun _ _ _ hh h => h.of_heap hh) own started (by kernel_rfl) Tryd.func8
    (ChangeSpec.witness_shaped (enc := enc) (C := Tryd.checked) (os := os) (X := fun w _ => laidMetH Tryd.prog Rows.formatOwnRow.laid w) false (World.laidAll Tryd.prog os Rows.formatOwnRow.laid) #[.string ByteArray.empty, .slice none 0 0] 8 (World.laidAll_os _ _ _)
      (World.shaped_of_ZipB (by kernel_rfl) (by kernel_rfl)) (by kernel_rfl) (by kernel_rfl) (by kernel_rfl)
      (by rw [MakeChecks.laidMetH_plain _ _ _ (by kernel_rfl)]; exact laidMet_laidAll _ (by kernel_rfl) (by kernel_rfl))) ?_
  intro W base args ds gs before hval0 hW hcnd0 hsz0 _ _
  have hsz : (DataW.weightsEach Tryd.prog (Tryd.f8.params.toList ++ Rows.formatOwnSpec.plain.varTypes Tryd.prog) (ds ++ gs)).all (· ≤ reachBytes) = true := hsz0
  clear hsz0
  have hval : ∀ (j : Nat) t v, Tryd.f8.params[j]? = some t → args[j]? = some v → Value.okWide Tryd.prog W .any base t v := hval0
  have hW' := hW
  obtain ⟨p, q, hA0, hV, rfl, hfz, hnd⟩ := hW
  have hA : DataW.TrodAll enc Tryd.prog W 0 (fun _ => true) true Tryd.f8.params.toList args.toList ds p := hA0
  rw [Tryd.params8] at hA hval hsz
  obtain ⟨v0, vs0, d0, ds0, p0, q0, hargs, rfl, rfl, h0, r0⟩ := trodAll_cons hA
  obtain ⟨v1, vs1, d1, ds1, p1, q1, rfl, rfl, rfl, h1, r1⟩ := trodAll_cons r0
  obtain ⟨rfl, rfl, rfl⟩ := trodAll_nil r1
  obtain rfl : args = #[v0, v1] := by cases args; simp_all
  obtain ⟨rfl, rfl⟩ := trodVars_none hV
  obtain ⟨a0, rfl, rfl, rfl, w0⟩ := open_string Tryd.underlying9 (hval 0 9 v0 rfl rfl) h0
  have z0 : a0.size ≤ 140737488351232 := by have := sized_string hsz (j := 0) (t := 9) rfl rfl; simpa [reachBytes] using this
  obtain ⟨c1, len1, cap1, rfl⟩ := okWide_slice Tryd.underlying22 (hval 1 22 v1 rfl rfl)
  have k1 := h1
  have lt1 : ∀ x ∈ p1, x.block < W.heap.size := by obtain ⟨m, hm⟩ := k1; exact DataW.trod_lt m _ _ _ hm
  obtain ⟨fuel1, hf1⟩ := h1
  obtain ⟨l1, y1, e1⟩ : ∃ l, RowsR W 4 ACells (.slice c1 len1 cap1) l ∧ DatL (fun _ _ => True) d1 l := rows_arg 4 _ (fun _ _ => True) Tryd.underlying22 (by kernel_rfl) (by decide) (fun fuel cs d p h _ => arg_cells Tryd.underlying37 (by kernel_rfl) rfl rfl rfl rfl (by kernel_rfl) (by kernel_rfl) (by kernel_rfl) (by kernel_rfl) Tryd.underlying3 Tryd.underlying3 Tryd.underlying35 Tryd.underlying9 h) hf1
  obtain rfl : len1 = l1.length := by obtain ⟨_, _, e, _⟩ := RowsR.form y1; cases e; rfl
  obtain ⟨z1, zz1⟩ := mrows_small (msmall_arg hsz (j := 1) (t := 22) rfl rfl) Tryd.underlying22 (n := 40) (by kernel_rfl) e1
  clear hA0
  refine (formatOwn_fr a0 c1 cap1 l1 W z0 y1).mono fun e W' ⟨he, bel⟩ => ?_
  subst he
  exact ⟨_, rfl, _, _, _, [], _, [], hW', trodAll_mk1 (shut_bool Tryd.underlying4 _), (trodAll_cons_mk (shut_string Tryd.underlying9 w0) (trodAll_cons_mk (Below.trod laidOut (by kernel_rfl) (of_decide_eq_true (by kernel_rfl)) k1 bel lt1) trodAll_mk0)), rfl, bel.frame _, fun h => by cases h⟩

theorem over : Rows.FormatOwnSaid :=
  OpenClaim.holds_of_wide 8 Tryd.f8 rfl rfl rfl rfl rfl rfl rfl ⟨rfl, rfl, rfl, rfl, rfl⟩ rfl rfl rfl rfl rfl (by kernel_rfl) Tryd.func8 (by kernel_rfl)
    (of_decide_eq_true (by kernel_rfl)) (by unfold Func.isWrapper; first | (rw [if_pos (by decide +kernel)]; kernel_rfl) | (rw [if_neg (by decide +kernel)]; exact ⟨rfl, rfl⟩))
    (fun os started H enc _ => lifted os started H enc)
set_option maxRecDepth 100000 in
theorem card : Rows.FormatOwnCardSaid :=
  Claim7.holds_tied_plain_at .later [] [.data, .pinned, .pinned] true Rows.formatOwnCard.stood.harness false over (fun _ h => by cases h) (by kernel_rfl) (fun _ h => by cases h) formatOwn_row_tie rfl ⟨rfl, rfl⟩ (by kernel_rfl) rfl
    (fun f fn hf hfn => by
      obtain rfl : f = 8 := Option.some.inj ((show Tryd.prog.funcNamed "millrace/millracelaw17.FormatOwn" = some 8 by kernel_rfl).symm.trans hf) |>.symm
      obtain rfl : fn = Tryd.f8 := (Option.some.inj (Tryd.func8.symm.trans hfn)).symm
      exact ⟨by kernel_rfl, fun j t ht => by
        rw [Tryd.params8] at ht
        have hm : t ∈ [9, 22] := by simpa using Array.mem_of_getElem? ht
        have hall : ([9, 22].all fun u => !Tryd.prog.wantsStandIn u) = true := by kernel_rfl
        exact (show Tryd.prog.wantsStandIn t = false by simpa using List.all_eq_true.1 hall t hm)⟩)
    (by kernel_rfl)
end Go.Proofs.YtpcchaciomeckaaDoor.formatOwn
namespace Go.Proofs.YtpcchaciomeckaaDoor
theorem formatOwn_holds : Rows.FormatOwnCardSaid := formatOwn.card
#print axioms formatOwn_holds
end Go.Proofs.YtpcchaciomeckaaDoor

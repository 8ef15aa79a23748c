/- FormatPlain: for every text of at most 20000 bytes, with each percent sign doubled it is formatted as itself; one without a percent sign is itself. -/
import Derived.Test.YtpcchaciomeckaaDoorKF4
import Derived.Test.YtpcchaciomeckaaDoorTie
import Derived.Test.YtpcchaciomeckaaDoorCards
import Derived.LaidMore
import Derived.Lay
import Derived.SevenTiedAt
import Derived.Stop.Joined
import Derived.ProofKit
import Derived.OpenShut
import Derived.ShutString
import Derived.ChangeOld
import Derived.Below
import Derived.SizedLaws
/- FormatPlain: the walk. -/
namespace Go.Proofs.YtpcchaciomeckaaDoor
open Go.RowKit

theorem take_snoc (s : ByteArray) (k : Nat) (h : k < s.size) : s.data.toList.take (k + 1) = s.data.toList.take k ++ [s[k]] := by
  have hsz : s.data.toList.length = s.size := by rw [Array.length_toList]; rfl
  rw [List.take_succ_eq_append_getElem (by omega)]
  rfl
theorem ext_one (s : ByteArray) (k : Nat) (h : k < s.size) : (s.extract k (k + 1)).data.toList = [s[k]] := by
  rw [ext_list, drop_at s k h, show k + 1 - k = 1 by omega]
  rfl
theorem nil_ags (W : World) : AgsV W (.slice none 0 0) [] := ⟨none, 0, rfl, Nat.le_refl _, fun h => absurd h (Nat.lt_irrefl _), fun x hx => by cases hx⟩
def noPct (l : List UInt8) : Bool := l.all fun c => c.toNat != 37
theorem noPct_dbl (l : List UInt8) (h : noPct l = true) : dbl l = l :=
  dbl_plain l (fun c hc => by have := List.all_eq_true.1 h c hc; simpa using this)
theorem noPct_snoc (l : List UInt8) (c : UInt8) : noPct (l ++ [c]) = (noPct l && (c.toNat != 37)) := by
  unfold noPct
  rw [List.all_append]
  simp
set_option maxRecDepth 100000 in
set_option maxHeartbeats 4000000 in
theorem formatPlain_any (s : ByteArray) (w : World) (hs : s.size ≤ maxLen) : Calls Tryd.prog 5 #[.string s] w fun e w' => e = .returned (.bool true) ∧ Below w.heap.size w w' := by
  have hsz : s.data.toList.length = s.size := by rw [Array.length_toList]; rfl
  have HSZ := hide hsz
  have hs2 := hs
  unfold maxLen at hs
  by_cases hl : 20000 < s.size
  · have hl' : (20000 : Int) < (s.size : Int) := by omega
    clear hsz
    go_enter Tryd.func5, Tryd.ntmps5
    go_wp2_with fail
    refine (alive17 _).mono ?_
    rintro _ w1 ⟨rfl, hB1⟩
    go_wp2
    go_ret
    exact ⟨rfl, hB1⟩
  have hl' : ¬ (20000 : Int) < (s.size : Int) := by omega
  clear hsz
  go_enter Tryd.func5, Tryd.ntmps5
  go_wp2_with fail
  refine (alive17 _).mono ?_
  rintro _ w1 ⟨rfl, hB1⟩
  have HB1 := hide hB1
  clear hB1
  go_wp2
  go_loopw [3, 4, 5] (fun t p i wr => ∃ (k : Nat) (T : ByteArray) (P : Bool), k ≤ s.size ∧ i = .int .i64 k ∧ t = .string T ∧ p = .bool P ∧ Hid (T.data.toList = dbl (s.data.toList.take k)) ∧ Hid (P = noPct (s.data.toList.take k)) ∧ Hid (wr = w1)) (fun _ _ i _ => s.size - (intOf i).toNat)
  case atStart => exact ⟨0, _, true, Nat.zero_le _, rfl, rfl, rfl, rfl, rfl, rfl⟩
  case round =>
    obtain ⟨k, T, P, hk, rfl, rfl, rfl, HT, HP, HW⟩ := hrel
    by_cases hlt : k < s.size
    · have hx := ext_one s k hlt
      have hk1 : (k : Int) + 1 ≤ (s.size : Int) := by omega
      have hTa : ∀ u : ByteArray, (T ++ u).data.toList = dbl (s.data.toList.take k) ++ u.data.toList := fun u => by rw [← HT.out]; simp
      have htk := take_snoc s k hlt
      have hTb : T.size ≤ 2 * k := by
        have q := dbl_len (s.data.toList.take k)
        rw [← HT.out, List.length_take, Array.length_toList] at q
        have q2 : T.size = T.data.size := rfl
        omega
      have g1 : ¬ 9223372036854775807 < T.size + (min (k + 1) s.size - k) := by omega
      have g2 : ¬ 9223372036854775807 < T.size + (min (k + 1) s.size - k) + 1 := by omega
      clear hTb
      by_cases hc : s[k].toNat = 37
      · have hc' : ((s[k].toNat : Int) == 37) = true := by simp only [beq_iff_eq]; omega
        have hd : dbl (s.data.toList.take (k + 1)) = dbl (s.data.toList.take k) ++ [s[k]] ++ [37] := by
          rw [htk, dbl_append]
          conv => lhs; arg 2; unfold dbl; rw [if_pos hc]
          rw [show s[k] = 37 from UInt8.toNat_inj.1 hc, List.append_assoc]
          rfl
        have hp : false = noPct (s.data.toList.take (k + 1)) := by
          rw [htk, noPct_snoc, hc]; simp
        have HD := hide hd
        have HPP := hide hp
        have HX := hide hx
        have HTA := hide hTa
        clear hd hp hx hTa htk hc
        go_wp2
        refine ⟨⟨k + 1, _, false, by omega, by go_num, rfl, rfl, ?_, HPP, HW⟩, by simp [intOf]; omega⟩
        show _ = _
        rw [HD.out, ← HX.out, ← HTA.out]
        simp
      · have hc' : ((s[k].toNat : Int) == 37) = false := by simp only [beq_eq_false_iff_ne, ne_eq]; omega
        have hd : dbl (s.data.toList.take (k + 1)) = dbl (s.data.toList.take k) ++ [s[k]] := by
          rw [htk, dbl_append]
          conv => lhs; arg 2; unfold dbl; rw [if_neg hc]
          rfl
        have hp : P = noPct (s.data.toList.take (k + 1)) := by
          rw [htk, noPct_snoc, ← HP.out]; simp [hc]
        have HD := hide hd
        have HPP := hide hp
        have HX := hide hx
        have HTA := hide hTa
        clear hd hp hx hTa htk hc
        go_wp2
        refine ⟨⟨k + 1, _, P, by omega, by go_num, rfl, rfl, ?_, HPP, HW⟩, by simp [intOf]; omega⟩
        show _ = _
        rw [HD.out, ← HX.out, ← HTA.out]
    · obtain rfl : k = s.size := by omega
      have hlt' : ¬ ((s.size : Nat) : Int) < (s.size : Int) := by omega
      have hT : T.data.toList = dbl s.data.toList := by have := HT.out; rwa [List.take_of_length_le (by rw [HSZ.out]; exact Nat.le_refl _)] at this
      have hP : P = noPct s.data.toList := by have := HP.out; rwa [List.take_of_length_le (by rw [HSZ.out]; exact Nat.le_refl _)] at this
      have hTz : T.size = (dbl s.data.toList).length := by rw [← hT, Array.length_toList]; rfl
      have hdl := dbl_len s.data.toList
      have hTl : T.size ≤ maxLen := by have := HSZ.out; unfold maxLen; omega
      have HF1 := hide (fun W => format_is T (.slice none 0 0) [] s.data.toList 0 T.size hTl (by rw [hT, fmtV_dbl _ (by have := HSZ.out; omega), hTz]) W (nil_ags W))
      have HPf : P = true → fmtV s.data.toList [] = (s.data.toList, 0, s.size) := by
        intro e
        have q := fmtV_dbl s.data.toList (by have := HSZ.out; omega)
        rw [noPct_dbl _ (by rw [← hP]; exact e), HSZ.out] at q
        exact q
      have HW2 : Hid (Below w.heap.size w wr) := by rw [HW.out]; exact HB1.out
      clear hT hP hTz hdl HT HP HW HB1
      cases P with
      | true =>
        have HF2 := hide (fun W => format_is s (.slice none 0 0) [] s.data.toList 0 s.size hs2 (HPf rfl) W (nil_ags W))
        clear HPf
        go_wp2_with fail
        refine (HF1.out _).mono ?_
        rintro _ w3 ⟨v1, rfl, hO1, hB3⟩
        have hst := owns_string hO1
        rw [show (⟨s.data.toList.toArray⟩ : ByteArray) = s from bstr rfl] at hst
        have HB3 := hide (HW2.out.trans (hB3.mono HW2.out.size))
        clear hO1 hB3 HW2
        go_wp2_with fail
        refine (num17 _ _).mono ?_
        rintro _ _ ⟨rfl, rfl⟩
        go_wp2_with fail
        refine (HF2.out _).mono ?_
        rintro _ w4 ⟨v2, rfl, hO2, hB4⟩
        have hst2 := owns_string hO2
        rw [show (⟨s.data.toList.toArray⟩ : ByteArray) = s from bstr rfl] at hst2
        have HB4 := hide (HB3.out.trans (hB4.mono HB3.out.size))
        clear hO2 hB4 hst
        go_wp2_with fail
        refine (num17 _ _).mono ?_
        rintro _ _ ⟨rfl, rfl⟩
        go_wp2
        go_ret
        exact ⟨rfl, HB4.out⟩
      | false =>
        have HF2 := hide (fun W => format_any s (.slice none 0 0) [] W hs2 (nil_ags W))
        clear HPf
        go_wp2_with fail
        refine (HF1.out _).mono ?_
        rintro _ w3 ⟨v1, rfl, hO1, hB3⟩
        have hst := owns_string hO1
        rw [show (⟨s.data.toList.toArray⟩ : ByteArray) = s from bstr rfl] at hst
        have HB3 := hide (HW2.out.trans (hB3.mono HW2.out.size))
        clear hO1 hB3 HW2
        go_wp2_with fail
        refine (num17 _ _).mono ?_
        rintro _ _ ⟨rfl, rfl⟩
        go_wp2_with fail
        refine (HF2.out _).mono ?_
        rintro _ w4 ⟨v2, rfl, -, hB4⟩
        have HB4 := hide (HB3.out.trans (hB4.mono HB3.out.size))
        clear hB4 hst
        go_wp2
        go_ret
        exact ⟨rfl, HB4.out⟩
end Go.Proofs.YtpcchaciomeckaaDoor

/- FormatPlain: for every text of at most 20000 bytes, with each percent sign doubled it is formatted as itself; one without a percent sign is itself. -/
namespace Go.Proofs.YtpcchaciomeckaaDoor.formatPlain
open Go.ChangeShapes Go.WideShapes Go.ChangeAt Go.RowKit
open Go.ChangeMaps (open_string shut_string)
set_option linter.unusedVariables false

theorem own : ownKnob Tryd.prog.godebug = none := by kernel_rfl
theorem laidOut : laidOutB Tryd.prog = true := by kernel_rfl

set_option maxRecDepth 100000 in
theorem lifted (os : Os) (started : os.Started) (H : Type) (enc : TypeId × Value → H) :
    ReturnsInHanded {} Tryd.checked os 5 .any (fun w args => (Rows.formatPlainSpec.pre enc Tryd.prog Tryd.f5 Rows.formatPlainRow.domain false w args ∧ laidMetH Tryd.prog Rows.formatPlainRow.laid w) ∧ sizedMet enc Tryd.prog Tryd.f5 (OpenSpec.ofChange Rows.formatPlainSpec) false w args) (Rows.formatPlainSpec.post enc Tryd.prog Tryd.f5 false true false false) := by
  refine returnsInHanded_of_change_and (C := Tryd.checked) (X := fun w _ => laidMetH Tryd.prog Rows.formatPlainRow.laid w) (fun _ _ _ hh h => h.of_heap hh) own started (by kernel_rfl) Tryd.func5
    (ChangeSpec.witness_shaped (enc := enc) (C := Tryd.checked) (os := os) (X := fun w _ => laidMetH Tryd.prog Rows.formatPlainRow.laid w) false (World.laidAll Tryd.prog os Rows.formatPlainRow.laid) #[.string ByteArray.empty] 8 (World.laidAll_os _ _ _)
      (World.shaped_of_ZipB (by kernel_rfl) (by kernel_rfl)) (by kernel_rfl) (by kernel_rfl) (by kernel_rfl)
      (by rw [MakeChecks.laidMetH_plain _ _ _ (by kernel_rfl)]; exact laidMet_laidAll _ (by kernel_rfl) (by kernel_rfl))) ?_
  intro W base args ds gs before hval0 hW hcnd0 hsz0 _ _
  have hsz : (DataW.weightsEach Tryd.prog (Tryd.f5.params.toList ++ Rows.formatPlainSpec.plain.varTypes Tryd.prog) (ds ++ gs)).all (· ≤ reachBytes) = true := hsz0
  clear hsz0
  have hval : ∀ (j : Nat) t v, Tryd.f5.params[j]? = some t → args[j]? = some v → Value.okWide Tryd.prog W .any base t v := hval0
  have hW' := hW
  obtain ⟨p, q, hA0, hV, rfl, hfz, hnd⟩ := hW
  have hA : DataW.TrodAll enc Tryd.prog W 0 (fun _ => true) true Tryd.f5.params.toList args.toList ds p := hA0
  rw [Tryd.params5] at hA hval hsz
  obtain ⟨v0, vs0, d0, ds0, p0, q0, hargs, rfl, rfl, h0, r0⟩ := trodAll_cons hA
  obtain ⟨rfl, rfl, rfl⟩ := trodAll_nil r0
  obtain rfl : args = #[v0] := by cases args; simp_all
  obtain ⟨rfl, rfl⟩ := trodVars_none hV
  obtain ⟨a0, rfl, rfl, rfl, w0⟩ := open_string Tryd.underlying9 (hval 0 9 v0 rfl rfl) h0
  have z0 : a0.size ≤ 140737488351232 := by have := sized_string hsz (j := 0) (t := 9) rfl rfl; simpa [reachBytes] using this
  clear hA0
  refine (formatPlain_any a0 W (by unfold maxLen; omega)).mono fun e W' ⟨he, bel⟩ => ?_
  subst he
  exact ⟨_, rfl, _, _, _, [], _, [], hW', trodAll_mk1 (shut_bool Tryd.underlying4 _), (trodAll_cons_mk (shut_string Tryd.underlying9 w0) trodAll_mk0), rfl, bel.frame _, fun h => by cases h⟩

theorem over : Rows.FormatPlainSaid :=
  OpenClaim.holds_of_wide 5 Tryd.f5 rfl rfl rfl rfl rfl rfl rfl ⟨rfl, rfl, rfl, rfl, rfl⟩ rfl rfl rfl rfl rfl (by kernel_rfl) Tryd.func5 (by kernel_rfl)
    (of_decide_eq_true (by kernel_rfl)) (by unfold Func.isWrapper; first | (rw [if_pos (by decide +kernel)]; kernel_rfl) | (rw [if_neg (by decide +kernel)]; exact ⟨rfl, rfl⟩))
    (fun os started H enc _ => lifted os started H enc)
set_option maxRecDepth 100000 in
theorem card : Rows.FormatPlainCardSaid :=
  Claim7.holds_tied_plain_at .later [] [.data, .pinned, .pinned] true Rows.formatPlainCard.stood.harness false over (fun _ h => by cases h) (by kernel_rfl) (fun _ h => by cases h) formatPlain_row_tie rfl ⟨rfl, rfl⟩ (by kernel_rfl) rfl
    (fun f fn hf hfn => by
      obtain rfl : f = 5 := Option.some.inj ((show Tryd.prog.funcNamed "millrace/millracelaw17.FormatPlain" = some 5 by kernel_rfl).symm.trans hf) |>.symm
      obtain rfl : fn = Tryd.f5 := (Option.some.inj (Tryd.func5.symm.trans hfn)).symm
      exact ⟨by kernel_rfl, fun j t ht => by
        rw [Tryd.params5] at ht
        have hm : t ∈ [9] := by simpa using Array.mem_of_getElem? ht
        have hall : ([9].all fun u => !Tryd.prog.wantsStandIn u) = true := by kernel_rfl
        exact (show Tryd.prog.wantsStandIn t = false by simpa using List.all_eq_true.1 hall t hm)⟩)
    (by kernel_rfl)
end Go.Proofs.YtpcchaciomeckaaDoor.formatPlain
namespace Go.Proofs.YtpcchaciomeckaaDoor
theorem formatPlain_holds : Rows.FormatPlainCardSaid := formatPlain.card
#print axioms formatPlain_holds
end Go.Proofs.YtpcchaciomeckaaDoor

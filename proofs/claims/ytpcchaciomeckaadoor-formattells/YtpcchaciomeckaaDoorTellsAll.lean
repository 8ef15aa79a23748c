/- FormatTells: for every pattern and Args, Format answers what the page says: the text, the error and the place; the Args stay as they were. -/
import Derived.Test.YtpcchaciomeckaaDoorKT9
import Derived.Test.YtpcchaciomeckaaDoorTie
import Derived.Test.YtpcchaciomeckaaDoorCards
import Derived.LaidMore
import Derived.Lay
import Derived.SevenTiedAt
import Derived.Stop.Joined
import Derived.ProofKit
import Derived.OpenShut
import Derived.ShutString
import Derived.ChangeOld
import Derived.Below
import Derived.SizedLaws
/- SameArgs: Args beside themselves. -/
namespace Go.Proofs.YtpcchaciomeckaaDoor
open Go.RowKit

set_option maxRecDepth 100000 in
set_option maxHeartbeats 4000000 in
theorem sameArgs_any (v1 v2 : Value) (l : List Ag) (w : World) (h1 : AgsV w v1 l) (h2 : AgsV w v2 l) (hl : l.length ≤ maxLen) :
    Calls Tryd.prog 14 #[v1, v2] w fun e w' => e = .returned (.bool true) ∧ Below w.heap.size w w' := by
  unfold maxLen at hl
  obtain ⟨a1, c1, rfl, -, hd1, -⟩ := h1
  obtain ⟨a2, c2, rfl, -, hd2, -⟩ := h2
  have HD1 := hide hd1
  have HD2 := hide hd2
  clear hd1 hd2
  go_enter Tryd.func14, Tryd.ntmps14
  go_wp2
  go_loopw [5] (fun i wr => ∃ k : Nat, k ≤ l.length ∧ i = .int .i64 k ∧ Hid (Below w.heap.size w wr)) (fun i _ => l.length - (intOf i).toNat)
  case atStart => exact ⟨0, Nat.zero_le _, rfl, Below.refl _ _⟩
  case round =>
    obtain ⟨k, hk, rfl, HB⟩ := hrel
    by_cases hlt : k < l.length
    · have hlt' : (k : Int) < (l.length : Int) := by omega
      obtain ⟨b1, o1, rfl, hc1⟩ := HD1.out (by omega)
      obtain ⟨b2, o2, rfl, hc2⟩ := HD2.out (by omega)
      obtain ⟨p0, p1, p2, p3⟩ := (hc1 k hlt).below HB.out
      obtain ⟨q0, q1, q2, q3⟩ := (hc2 k hlt).below HB.out
      generalize l[k] = x at *
      obtain ⟨x0, x1, x2, x3⟩ := x
      simp only at p0 p1 p2 p3 q0 q1 q2 q3
      clear hc1 hc2
      go_upto_region 6 with fail
      go_big_region
      go_wp2
      exact ⟨⟨k + 1, by omega, by go_num, HB.out.drew⟩, by simp [intOf]; omega⟩
    · have hlt' : ¬ (k : Int) < (l.length : Int) := by omega
      go_wp2
      go_ret
      exact ⟨rfl, HB.out⟩
end Go.Proofs.YtpcchaciomeckaaDoor

/- FormatTells: the walk. -/
namespace Go.Proofs.YtpcchaciomeckaaDoor
open Go.RowKit

theorem wide_len (d : Dir) (s l : List UInt8) : (d.wide s l).length ≤ d.wd + s.length + l.length := by
  unfold Dir.wide
  split
  · simp only [bla, List.length_append, List.length_replicate]; omega
  · split <;> (simp only [bla, zer, List.length_append, List.length_replicate]; omega)
theorem digits_len (d : Dir) (n : Nat) (hn : n < 18446744073709551616) : (d.digits n).length ≤ 64 := by
  unfold Dir.digits
  split
  · rw [List.length_map]; exact digs_len 16 n (by decide) hn
  · split
    · exact digs_len 16 n (by decide) hn
    · split
      · exact digs_len 8 n (by decide) hn
      · exact digs_len 10 n (by decide) hn
theorem shown_len (d : Dir) (a : Ag) (hwd : d.wd ≤ 4096) (hpr : d.pr ≤ 4096) (hb : AB a) (ht : a.text.size ≤ 140737488351232) : (d.shown a).length ≤ 4611686018427387904 := by
  have hi := hb.int
  have hlo := hb.lo
  have hhi := hb.hi
  have h1 := hi.1
  have h2 := hi.2
  have htz : a.text.data.toList.length = a.text.size := by rw [Array.length_toList]; rfl
  unfold Dir.shown
  split
  · have e1 := wide_len d (d.sign (decide (a.int < 0))) (d.precise (digs 10 a.int.natAbs))
    have e2 := sign_len d (decide (a.int < 0))
    have e3 := precise_len d (digs 10 a.int.natAbs)
    have e4 := digs_len 10 a.int.natAbs (by decide) (by omega)
    omega
  · split
    · have e1 := wide_len d [] [UInt8.ofNat a.uint.toNat]
      simp only [List.length_nil, List.length_cons] at e1
      omega
    · split
      · have e1 := wide_len d [] (d.cut a.text.data.toList)
        have e2 := cut_len d a.text.data.toList
        simp only [List.length_nil] at e1
        omega
      · have e1 := wide_len d [] (d.precise (d.digits a.uint.toNat))
        have e3 := precise_len d (d.digits a.uint.toNat)
        have e4 := digits_len d a.uint.toNat (by omega)
        simp only [List.length_nil] at e1
        omega
set_option maxRecDepth 100000 in
set_option maxHeartbeats 4000000 in
theorem formatTells_any (s : ByteArray) (va : Value) (aa : List Ag) (w : World) (hs : s.size ≤ maxLen) (hA : AgsV w va aa) (hf : FormS va) (hn : aa.length * 40 ≤ 140737488355328) (ht : ∀ a ∈ aa, a.text.size ≤ 140737488351232) :
    Calls Tryd.prog 3 #[.string s, va] w fun e w' => e = .returned (.bool true) ∧ Below w.heap.size w w' := by
  have hlen := fmtV_len s.data.toList aa
  have hvb : ∀ x ∈ aa, AB x := by obtain ⟨_, _, _, _, _, h⟩ := hA; exact h
  have hC := copyArgs_any va aa w hA hf hn
  have hF := fun W v (hW : AgsV W v aa) => format_any s v aa W hs hW
  have hG := fun W v (hW : AgsV W v aa) => rformat_any s v aa W hs hW (fun d h1 h2 a ha => shown_len d a h1 h2 (hvb a ha) (ht a ha))
  generalize fmtV s.data.toList aa = R at *
  obtain ⟨T, e, p⟩ := R
  simp only at hlen hF hG
  have HF := hide hF
  have HG := hide hG
  have HC := hide hC
  have HA := hide hA
  have HV := hide hvb
  obtain ⟨va1, vc1, rfl, -⟩ := hA
  have HL : Hid (T.length ≤ maxLen) := hide (by unfold maxLen; omega)
  have HN : Hid (aa.length ≤ maxLen) := hide (by unfold maxLen; omega)
  clear hF hG hC hvb hlen ht
  go_enter Tryd.func3, Tryd.ntmps3
  go_wp2_with fail
  refine HC.out.mono ?_
  rintro _ w1 ⟨v1, rfl, hO1, hB1⟩
  have HA1 := hide (AgsV.of_owns hO1 HV.out).1
  have HB1 := hide hB1
  clear hO1 hB1
  go_wp2_with fail
  refine (HF.out _ _ HA1.out).mono ?_
  rintro _ w2 ⟨v2, rfl, hO2, hB2⟩
  have HY2 := hide (Bys.of_owns hO2)
  have HA2 := hide (HA1.out.below hB2)
  have HB2 := hide (HB1.out.trans (hB2.mono HB1.out.size))
  clear hO2 hB2
  go_wp2_with fail
  refine (HG.out _ _ (HA.out.below HB2.out)).mono ?_
  rintro _ w3 ⟨v3, rfl, hO3, hB3⟩
  have HY3 := hide (Bys.of_owns hO3)
  have HY2' := hide (HY2.out.below hB3)
  have HA3 := hide (HA2.out.below hB3)
  have HB3 := hide (HB2.out.trans (hB3.mono HB2.out.size))
  clear hO3 hB3
  go_wp2_with fail
  refine (same_any _ _ T _ HY2'.out HY3.out HL.out).mono ?_
  rintro _ w4 ⟨rfl, hB4⟩
  have HA4 := hide (HA3.out.below hB4)
  have HB4 := hide (HB3.out.trans (hB4.mono HB3.out.size))
  clear hB4
  go_wp2_with fail
  refine (num17 _ _).mono ?_
  rintro _ _ ⟨rfl, rfl⟩
  go_wp2_with fail
  refine (sameArgs_any _ _ aa _ HA4.out (HA.out.below HB4.out) HN.out).mono ?_
  rintro _ w5 ⟨rfl, hB5⟩
  have HB5 := hide (HB4.out.trans (hB5.mono HB4.out.size))
  clear hB5
  go_wp2_with fail
  refine (alive17 _).mono ?_
  rintro _ w6 ⟨rfl, hB6⟩
  have HB6 := hide (HB5.out.trans (hB6.mono HB5.out.size))
  go_wp2
  go_ret
  exact ⟨rfl, HB6.out⟩
end Go.Proofs.YtpcchaciomeckaaDoor

/- Format: a slice of Args as it comes in, with what its texts' sizes may be. -/
namespace Go.Proofs.YtpcchaciomeckaaDoor
open Go.ChangeShapes Go.WideShapes Go.ChangeAt Go.RowKit

def AgDat {H : Type} (d : DataW H) (x : Ag) : Prop := ∃ y0 y1 y2, d = .agg [y0, y1, y2, .lit (.string x.text.data.toList)]
theorem arg_cells2 {H : Type} {enc : TypeId × Value → H} {P : Program} {W : World} {base : Nat} {fuel e : Nat} {f0 f1 f2 f3 : Field} {cs : List Value} {d : DataW H} {p : List MemPlace}
    (he : P.underlying e = some (.struct #[f0, f1, f2, f3])) (ce : P.cellsOf e = 4) (o0 : f0.offset = 0) (o1 : f1.offset = 1) (o2 : f2.offset = 2) (o3 : f3.offset = 3)
    (c0 : P.cellsOf f0.type = 1) (c1 : P.cellsOf f1.type = 1) (c2 : P.cellsOf f2.type = 1) (c3 : P.cellsOf f3.type = 1)
    (t0 : P.underlying f0.type = some (.int .i64)) (t1 : P.underlying f1.type = some (.int .i64)) (t2 : P.underlying f2.type = some (.int .u64)) (t3 : P.underlying f3.type = some .string)
    (h : DataW.trod enc P W base (fun _ => true) true fuel e cs = some (d, p)) : ∃ x : Ag, ACells cs x ∧ AgDat d x := by
  obtain ⟨xs, k, hk, hxy, hcl, hxl, hf⟩ := DataW.trod_struct he h
  rw [ce] at hcl
  match xs, hxl, cs, hcl with
  | [y0, y1, y2, y3], _, [v0, v1, v2, v3], _ =>
    have g0 := hf 0 f0 rfl
    have g1 := hf 1 f1 rfl
    have g2 := hf 2 f2 rfl
    have g3 := hf 3 f3 rfl
    simp [o0, c0] at g0
    simp [o1, c1] at g1
    simp [o2, c2] at g2
    simp [o3, c3] at g3
    obtain ⟨a, ha, _, wa⟩ := DataW.trod_int t0 g0
    obtain ⟨b, hb, _, wb⟩ := DataW.trod_int t1 g1
    obtain ⟨c, hc, _, wc⟩ := DataW.trod_int t2 g2
    obtain ⟨nm, hnm, hy, hsz⟩ := DataW.trod_string t3 g3
    obtain rfl : v0 = .int .i64 a := by simpa using ha
    obtain rfl : v1 = .int .i64 b := by simpa using hb
    obtain rfl : v2 = .int .u64 c := by simpa using hc
    obtain rfl : v3 = .string nm := by simpa using hnm
    have bc := bounds_u64 wc
    refine ⟨⟨a, b, c, nm⟩, ⟨rfl, N64.of wa, N64.of wb, bc.1, by have := bc.2; omega, hsz⟩, y0.1, y1.1, y2.1, ?_⟩
    have e := congrArg Prod.fst hxy
    simp only [List.map_cons, List.map_nil] at e
    rw [e, hy]
theorem ag_small {H : Type} {P : Program} {t : TypeId} {f0 f1 f2 f3 : Field} {d : DataW H} {x : Ag} (h : MSmall P t d) (hu : P.underlying t = some (.struct #[f0, f1, f2, f3])) (hd : AgDat d x) : x.text.size ≤ 140737488351232 := by
  obtain ⟨y0, y1, y2, rfl⟩ := hd
  have h3 := h.fields hu 3 f3 _ rfl rfl
  have h4 := h3 x.text.data.toList.length (by simp [DataW.weights])
  rw [Array.length_toList] at h4
  exact h4
theorem formatTells_fr (s : ByteArray) (c : Option Addr) (cap : Nat) (l : List Ag) (W : World) (hs : s.size ≤ 140737488351232) (h : RowsR W 4 ACells (.slice c l.length cap) l) (hz : l.length * 40 ≤ 140737488355328) (ht : ∀ i (hi : i < l.length), l[i].text.size ≤ 140737488351232) :
    Calls Tryd.prog 3 #[.string s, .slice c l.length cap] W fun e w' => e = .returned (.bool true) ∧ Below W.heap.size W w' :=
  formatTells_any s _ l W (by unfold maxLen; omega) (AgsV.of_rows h) (rows_form h) hz fun a ha => by
    obtain ⟨i, hi, rfl⟩ := List.getElem_of_mem ha
    exact ht i hi
end Go.Proofs.YtpcchaciomeckaaDoor

/- FormatTells: for every pattern and Args, Format answers what the page says: the text, the error and the place; the Args stay as they were. -/
namespace Go.Proofs.YtpcchaciomeckaaDoor.formatTells
open Go.ChangeShapes Go.WideShapes Go.ChangeAt Go.RowKit
open Go.ChangeMaps (open_string shut_string)
set_option linter.unusedVariables false

theorem own : ownKnob Tryd.prog.godebug = none := by kernel_rfl
theorem laidOut : laidOutB Tryd.prog = true := by kernel_rfl

set_option maxRecDepth 100000 in
theorem lifted (os : Os) (started : os.Started) (H : Type) (enc : TypeId × Value → H) :
    ReturnsInHanded {} Tryd.checked os 3 .any (fun w args => (Rows.formatTellsSpec.pre enc Tryd.prog Tryd.f3 Rows.formatTellsRow.domain false w args ∧ laidMetH Tryd.prog Rows.formatTellsRow.laid w) ∧ sizedMet enc Tryd.prog Tryd.f3 (OpenSpec.ofChange Rows.formatTellsSpec) false w args) (Rows.formatTellsSpec.post enc Tryd.prog Tryd.f3 false true false false) := by
  refine returnsInHanded_of_change_and (C := Tryd.checked) (X := fun w _ => laidMetH Tryd.prog Rows.formatTellsRow.laid w) (fun _ _ _ hh h => h.of_heap hh) own started (by kernel_rfl) Tryd.func3
    (ChangeSpec.witness_shaped (enc := enc) (C := Tryd.checked) (os := os) (X := fun w _ => laidMetH Tryd.prog Rows.formatTellsRow.laid w) false (World.laidAll Tryd.prog os Rows.formatTellsRow.laid) #[.string ByteArray.empty, .slice none 0 0] 8 (World.laidAll_os _ _ _)
      (World.shaped_of_ZipB (by kernel_rfl) (by kernel_rfl)) (by kernel_rfl) (by kernel_rfl) (by kernel_rfl)
      (by rw [MakeChecks.laidMetH_plain _ _ _ (by kernel_rfl)]; exact laidMet_laidAll _ (by kernel_rfl) (by kernel_rfl))) ?_
  intro W base args ds gs before hval0 hW hcnd0 hsz0 _ _
  have hsz : (DataW.weightsEach Tryd.prog (Tryd.f3.params.toList ++ Rows.formatTellsSpec.plain.varTypes Tryd.prog) (ds ++ gs)).all (· ≤ reachBytes) = true := hsz0
  clear hsz0
  have hval : ∀ (j : Nat) t v, Tryd.f3.params[j]? = some t → args[j]? = some v → Value.okWide Tryd.prog W .any base t v := hval0
  have hW' := hW
  obtain ⟨p, q, hA0, hV, rfl, hfz, hnd⟩ := hW
  have hA : DataW.TrodAll enc Tryd.prog W 0 (fun _ => true) true Tryd.f3.params.toList args.toList ds p := hA0
  rw [Tryd.params3] at hA hval hsz
  obtain ⟨v0, vs0, d0, ds0, p0, q0, hargs, rfl, rfl, h0, r0⟩ := trodAll_cons hA
  obtain ⟨v1, vs1, d1, ds1, p1, q1, rfl, rfl, rfl, h1, r1⟩ := trodAll_cons r0
  obtain ⟨rfl, rfl, rfl⟩ := trodAll_nil r1
  obtain rfl : args = #[v0, v1] := by cases args; simp_all
  obtain ⟨rfl, rfl⟩ := trodVars_none hV
  obtain ⟨a0, rfl, rfl, rfl, w0⟩ := open_string Tryd.underlying9 (hval 0 9 v0 rfl rfl) h0
  have z0 : a0.size ≤ 140737488351232 := by have := sized_string hsz (j := 0) (t := 9) rfl rfl; simpa [reachBytes] using this
  obtain ⟨c1, len1, cap1, rfl⟩ := okWide_slice Tryd.underlying22 (hval 1 22 v1 rfl rfl)
  have k1 := h1
  have lt1 : ∀ x ∈ p1, x.block < W.heap.size := by obtain ⟨m, hm⟩ := k1; exact DataW.trod_lt m _ _ _ hm
  obtain ⟨fuel1, hf1⟩ := h1
  obtain ⟨l1, y1, e1⟩ : ∃ l, RowsR W 4 ACells (.slice c1 len1 cap1) l ∧ DatL AgDat d1 l := rows_arg 4 _ AgDat Tryd.underlying22 (by kernel_rfl) (by decide) (fun fuel cs d p h _ => arg_cells2 Tryd.underlying37 (by kernel_rfl) rfl rfl rfl rfl (by kernel_rfl) (by kernel_rfl) (by kernel_rfl) (by kernel_rfl) Tryd.underlying3 Tryd.underlying3 Tryd.underlying35 Tryd.underlying9 h) hf1
  obtain rfl : len1 = l1.length := by obtain ⟨_, _, e, _⟩ := RowsR.form y1; cases e; rfl
  obtain ⟨z1, zz1⟩ := mrows_small (msmall_arg hsz (j := 1) (t := 22) rfl rfl) Tryd.underlying22 (n := 40) (by kernel_rfl) e1
  have zt1 : ∀ i (hi : i < l1.length), l1[i].text.size ≤ 140737488351232 := fun i hi => by obtain ⟨di, s1, s2⟩ := zz1 i hi; exact ag_small s1 Tryd.underlying37 s2
  clear hA0
  refine (formatTells_fr a0 c1 cap1 l1 W z0 y1 (by omega) zt1).mono fun e W' ⟨he, bel⟩ => ?_
  subst he
  exact ⟨_, rfl, _, _, _, [], _, [], hW', trodAll_mk1 (shut_bool Tryd.underlying4 _), (trodAll_cons_mk (shut_string Tryd.underlying9 w0) (trodAll_cons_mk (Below.trod laidOut (by kernel_rfl) (of_decide_eq_true (by kernel_rfl)) k1 bel lt1) trodAll_mk0)), rfl, bel.frame _, fun h => by cases h⟩

theorem over : Rows.FormatTellsSaid :=
  OpenClaim.holds_of_wide 3 Tryd.f3 rfl rfl rfl rfl rfl rfl rfl ⟨rfl, rfl, rfl, rfl, rfl⟩ rfl rfl rfl rfl rfl (by kernel_rfl) Tryd.func3 (by kernel_rfl)
    (of_decide_eq_true (by kernel_rfl)) (by unfold Func.isWrapper; first | (rw [if_pos (by decide +kernel)]; kernel_rfl) | (rw [if_neg (by decide +kernel)]; exact ⟨rfl, rfl⟩))
    (fun os started H enc _ => lifted os started H enc)
set_option maxRecDepth 100000 in
theorem card : Rows.FormatTellsCardSaid :=
  Claim7.holds_tied_plain_at .later [] [.data, .pinned, .pinned] true Rows.formatTellsCard.stood.harness false over (fun _ h => by cases h) (by kernel_rfl) (fun _ h => by cases h) formatTells_row_tie rfl ⟨rfl, rfl⟩ (by kernel_rfl) rfl
    (fun f fn hf hfn => by
      obtain rfl : f = 3 := Option.some.inj ((show Tryd.prog.funcNamed "millrace/millracelaw17.FormatTells" = some 3 by kernel_rfl).symm.trans hf) |>.symm
      obtain rfl : fn = Tryd.f3 := (Option.some.inj (Tryd.func3.symm.trans hfn)).symm
      exact ⟨by kernel_rfl, fun j t ht => by
        rw [Tryd.params3] at ht
        have hm : t ∈ [9, 22] := by simpa using Array.mem_of_getElem? ht
        have hall : ([9, 22].all fun u => !Tryd.prog.wantsStandIn u) = true := by kernel_rfl
        exact (show Tryd.prog.wantsStandIn t = false by simpa using List.all_eq_true.1 hall t hm)⟩)
    (by kernel_rfl)
end Go.Proofs.YtpcchaciomeckaaDoor.formatTells
namespace Go.Proofs.YtpcchaciomeckaaDoor
theorem formatTells_holds : Rows.FormatTellsCardSaid := formatTells.card
#print axioms formatTells_holds
end Go.Proofs.YtpcchaciomeckaaDoor

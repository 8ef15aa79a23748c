/- RetrySome answers true for all bytes, faults and numbers, within the reach of a machine's memory: a read that answers tells at least one byte, as long as there is one, and none at the end. -/
import Derived.Test.YtknpghmcacocfaaKM14
import Derived.ProofKit
import Derived.OpenShut
import Derived.ShutString
import Derived.ChangeOld
import Derived.Below
import Derived.SizedLaws
/- RetrySome, walked. -/
namespace Go.Proofs.Ytknpghmcacocfaa
open Go.RowKit Go.Maps

theorem onef_open (b : List UInt8) (l : List Fault) : (KS.new [(nmF, b)] [] l).open nmF 1 = (1, 0, KOne nmF b 0 l 0) := rfl
set_option maxRecDepth 100000 in
set_option maxHeartbeats 8000000 in
theorem retrySome_any (a1 a3 : Option Addr) (n1 n3 c1 c3 : Nat) (b : List UInt8) (l : List Fault) (n : Int) (w : World) (h1 : Bys w (.slice a1 n1 c1) b) (m1 : b.length ≤ c1) (h3 : Flts w (.slice a3 n3 c3) l) (z1 : b.length ≤ 140737488351232) (z3 : l.length * 16 ≤ 140737488351232) :
    Calls Try.prog 6 #[.slice a1 n1 c1, .slice a3 n3 c3, .int .i64 n] w fun e w' => e = .returned (.bool true) ∧ Below w.heap.size w w' := by
  obtain rfl := Kp_bys_len h1
  obtain rfl : n3 = l.length := by obtain ⟨_, _, e, _⟩ := flts_form h3; cases e; rfl
  have H1 := hide h1
  have H3 := hide h3
  have HAl := hide (ralive_any w)
  clear h1 h3
  go_enter Try.func6, Try.ntmps6
  go_wp2_with fail
  refine HAl.out.mono ?_
  rintro e w1 ⟨rfl, hB1⟩
  have hsz1 := hB1.size
  have hBn := recv_below w1 (Obj.cells #[.string ⟨#[102]⟩, .slice a1 b.length c1] 30)
  obtain ⟨p0, p1⟩ := pair_cells w1 (.string ⟨#[102]⟩) (.slice a1 b.length c1) 30
  have hN : Nms (w1.alloc (Obj.cells #[.string ⟨#[102]⟩, .slice a1 b.length c1] 30)) (.slice (some ⟨w1.heap.size, 0, none⟩) 1 1) [(nmF, b)] := one_named p0 p1 ((H1.out.below hB1).below hBn) m1 (by decide)
  have hF0 := (H3.out.below hB1).below hBn
  have hBw : Below w.heap.size w (w1.alloc (Obj.cells #[.string ⟨#[102]⟩, .slice a1 b.length c1] 30)) := hB1.trans (hBn.mono hsz1)
  by_cases hE : checkE [(nmF, b)] [] l = 0
  case neg =>
    have HN := hide (knew_bad (some ⟨w1.heap.size, 0, none⟩) none a3 1 0 c3 [(nmF, b)] [] l _ hN (no_typed _) hF0 z3 (by simp) (by decide) hE)
    have HB := hide hBw
    clear hN hF0 p0 p1 hBn hBw
    generalize checkE [(nmF, b)] [] l = E at *
    go_wp2_with fail
    refine HN.out.mono ?_
    rintro e w2 ⟨rfl, hB2⟩
    have HB2 := hide (HB.out.trans (hB2.mono HB.out.size))
    clear hB2
    go_wp2_with (first | (go_at_call 25; refine (num_re _ _).mono ?_; rintro _ _ ⟨rfl, rfl⟩) | fail)
    go_ret
    exact ⟨rfl, HB2.out⟩
  have HN := hide (knew_good (some ⟨w1.heap.size, 0, none⟩) none a3 1 0 c3 [(nmF, b)] [] l _ hN (no_typed _) hF0 z3 (by simp) (by decide) hE)
  have HB := hide hBw
  clear hN hF0 p0 p1 hBn hBw hE
  go_wp2_with fail
  refine HN.out.mono ?_
  rintro e w2 ⟨kb, rfl, hK, hB2⟩
  have hB2w := HB.out.trans (hB2.mono HB.out.size)
  have HB2 := hide hB2w
  have hs2 := hB2w.size
  have HPl : Hid (planOk l) := hide hK.ok.1.plan
  have HO := hide ((hK.mono (fun k e => Nat.le_trans HB.out.size e)).open nmF 1 (by decide) (by show (1 : Nat) < 9223372036854775807; decide))
  rw [onef_open] at HO
  clear hK hB2 hB2w HN HB
  go_wp2_with (first | (go_at_call 25; refine (num_re _ _).mono ?_; rintro _ _ ⟨rfl, rfl⟩) | fail)
  refine HO.out.mono ?_
  rintro e w4 ⟨rfl, hS⟩
  obtain ⟨hK, hB⟩ := hS.at (B := w.heap.size) (fun _ e => e) hs2
  have HB4 := hide (HB2.out.trans hB)
  have HK4 := hide hK
  clear hK hB hS HO HB2 hs2
  obtain ⟨S4, hS4⟩ : ∃ S4, S4 = w4.heap.size := ⟨_, rfl⟩
  rw [← hS4] at HK4
  have HS4 := hide hS4
  clear hS4
  obtain ⟨m, hm, hm9⟩ := krem_twice n 30 (by decide) (by decide)
  obtain ⟨M, hM⟩ : ∃ M, M = 1 + m := ⟨_, rfl⟩
  have hMv : (1 : Int) + (m : Int) = (M : Int) := by omega
  have HM : Hid (1 ≤ M ∧ M ≤ 30) := hide (by omega)
  have hwM : wrap64 (M : Int) = (M : Int) := by unfold wrap64; omega
  clear hM hm9
  go_wp2_with fail
  simp only [hwM]
  clear hm hMv hwM
  go_loopw [11] (fun av wr => ∃ (p : Nat) (L : List Fault) (rd : Nat), av = .int .i64 p ∧ p ≤ b.length ∧ Hid (KAt wr (fun j => w.heap.size ≤ j ∧ j < S4) kb (KOne nmF b p L rd)) ∧ Hid (planOk L ∧ rd + L.length ≤ p + l.length) ∧ S4 ≤ wr.heap.size ∧ Hid (Below w.heap.size w wr)) (fun av _ => b.length - (intOf av).toNat)
  case atStart => exact ⟨0, l, 0, rfl, Nat.zero_le _, HK4, hide ⟨HPl.out, by omega⟩, by rw [HS4.out]; exact Nat.le_refl _, HB4⟩
  case round =>
    obtain ⟨p, L, rd, rfl, hp, HK, HL, hs6, HB6⟩ := hrel
    clear HK4 HB4 HS4
    obtain ⟨g1, Y, L', rd', g2, g3, g4, g5, g6, g7, g8⟩ := (one_read nmF b).some (one_ok _ _) M p hp HM.out.1 (by have := HM.out; omega) 8192 L rd (by have := HL.out.1.1; omega) HL.out.1 (by have := HL.out.2; have := HPl.out.1; omega)
    have HS := hide (some_any (ker_raw kb 1 ⟨by decide, by decide⟩) M HK.out HM.out.1 (by have := HM.out; omega) g1)
    rw [g2] at HS
    simp only at HS
    have hL2 : Hid (planOk L' ∧ rd' + L'.length ≤ p + l.length + 1) := hide ⟨g7, by have := HL.out.2; omega⟩
    by_cases hlt : p < b.length
    · have hlt' : (p : Int) < (b.length : Int) := by omega
      have hY0 : 0 < Y.length := List.length_pos_iff.2 (g6 hlt)
      have q1 : ¬ (Y.length : Int) = 0 := by omega
      have q2 : ((Y.length : Int) == 0) = false := by rw [beq_eq_false_iff_ne]; omega
      have q3 : ¬ (M : Int) < (Y.length : Int) := by omega
      have q4 : ¬ (b.length : Int) - (p : Int) < (Y.length : Int) := by omega
      have q5 : (0 : Int) ≤ (p : Int) := by omega
      have q6 : (p : Int) ≤ (p : Int) + (Y.length : Int) := by omega
      have q7 : (p : Int) + (Y.length : Int) ≤ (c1 : Int) := by omega
      have q8 : ¬ c1 = p := by omega
      have q9 : (p : Int) < (c1 : Int) := by omega
      obtain ⟨-, xb, xo, rfl, hxb, -⟩ := bys_block H1.out (by omega)
      have HY : Hid ((b.drop p).take Y.length = Y) := hide (by
        have h5 := congrArg (List.drop p) g3
        rw [List.drop_append_of_le_length (by rw [List.length_take]; omega), List.drop_of_length_le (by rw [List.length_take]; omega), List.nil_append, List.drop_take, Nat.add_sub_cancel_left] at h5
        exact h5.symm)
      have hp2 : p + Y.length ≤ b.length := g4
      clear g1 g2 g3 g4 g5 g6 g7 g8 hxb
      go_wp2_with fail
      refine HS.out.mono ?_
      rintro _ w6 ⟨u, rfl, hO6, hK6, hT6⟩
      obtain ⟨ya, yc, rfl⟩ := owns_slice hO6
      have hB6 : Below w.heap.size w w6 := HB6.out.trans (hT6.below (fun j e => e.1) HB6.out.size)
      have HB7 := hide hB6
      have hs7 : S4 ≤ w6.heap.size := Nat.le_trans hs6 hT6.size
      have HSm := hide (same_any (.slice ya Y.length yc) (.slice (some ⟨xb, xo + p, none⟩) Y.length (c1 - p)) Y w6 (Bys.of_owns hO6) (by
        have := bys_cut (H1.out.below hB6) p Y.length (c1 - p) hp2
        rw [HY.out] at this
        exact this) (by unfold maxLen; omega))
      have HK6 := hide hK6
      clear hO6 hK6 hT6 hB6
      go_wp2_with (first | (go_at_call 25; refine (num_re _ _).mono ?_; rintro _ _ ⟨rfl, rfl⟩) | fail)
      refine HSm.out.mono ?_
      rintro _ w7 ⟨rfl, hB8⟩
      have HK7 := hide (HK6.out.below hB8)
      have HB8 := hide (HB7.out.trans (hB8.mono HB7.out.size))
      have hs8 : S4 ≤ w7.heap.size := Nat.le_trans hs7 hB8.size
      clear hB8
      go_wp2_with fail
      go_roundw
      case rel => exact ⟨p + Y.length, L', rd', by go_num, hp2, HK7, hide ⟨hL2.out.1, by have := hL2.out.2; omega⟩, hs8, HB8⟩
      case measure => simp [intOf]; omega
    · have hpe : p = b.length := by omega
      have hlt' : ¬ (p : Int) < (b.length : Int) := by omega
      have hY : Y = [] := List.length_eq_zero_iff.1 (by omega)
      subst hY
      clear g1 g2 g3 g4 g5 g6 g7 g8 hL2
      go_wp2_with fail
      refine HS.out.mono ?_
      rintro _ w6 ⟨u, rfl, hO6, hK6, hT6⟩
      obtain ⟨ya, yc, rfl⟩ := owns_slice hO6
      have HB7 := hide (HB6.out.trans (hT6.below (fun j e => e.1) HB6.out.size))
      clear hO6 hK6 hT6
      go_wp2_with (first | (go_at_call 25; refine (num_re _ _).mono ?_; rintro _ _ ⟨rfl, rfl⟩) | fail)
      go_ret
      exact ⟨rfl, HB7.out⟩
end Go.Proofs.Ytknpghmcacocfaa

/- RetrySome answers true for all bytes, faults and numbers, within the reach of a machine's memory: a read that answers tells at least one byte, as long as there is one, and none at the end. -/
namespace Go.Proofs.Ytknpghmcacocfaa.retrySome
open Go.ChangeShapes Go.WideShapes Go.ChangeAt Go.RowKit
open Go.ChangeMaps (open_string shut_string)
set_option linter.unusedVariables false

theorem own : ownKnob Try.prog.godebug = none := by kernel_rfl
theorem laidOut : laidOutB Try.prog = true := by kernel_rfl

set_option maxRecDepth 100000 in
theorem lifted (os : Os) (started : os.Started) (H : Type) (enc : TypeId × Value → H) :
    ReturnsInHanded {} Try.checked os 6 .any (Rows.retrySomeSpec.pre6 enc Try.prog Try.f6 Rows.retrySomeRow.domain false) (Rows.retrySomeSpec.post enc Try.prog Try.f6 false true false false) := by
  refine returnsInHanded_of_change_sized (C := Try.checked) own started (by kernel_rfl) Try.func6
    (ChangeSpec.witness6 (enc := enc) (C := Try.checked) false ⟨#[], #[.slice none 0 0, .slice none 0 0, .int .i64 0], []⟩ 8 (by kernel_rfl) (by kernel_rfl) (by kernel_rfl) (by kernel_rfl)) ?_
  intro W base args ds gs before hval0 hW hcnd0 hsz0 _
  have hsz : (DataW.weightsEach Try.prog (Try.f6.params.toList ++ Rows.retrySomeSpec.plain.varTypes Try.prog) (ds ++ gs)).all (· ≤ reachBytes) = true := hsz0
  clear hsz0
  have hval : ∀ (j : Nat) t v, Try.f6.params[j]? = some t → args[j]? = some v → Value.okWide Try.prog W .any base t v := hval0
  have hW' := hW
  obtain ⟨p, q, hA0, hV, rfl, hfz, hnd⟩ := hW
  have hA : DataW.TrodAll enc Try.prog W 0 (fun _ => true) true Try.f6.params.toList args.toList ds p := hA0
  rw [Try.params6] at hA hval hsz
  obtain ⟨v0, vs0, d0, ds0, p0, q0, hargs, rfl, rfl, h0, r0⟩ := trodAll_cons hA
  obtain ⟨v1, vs1, d1, ds1, p1, q1, rfl, rfl, rfl, h1, r1⟩ := trodAll_cons r0
  obtain ⟨v2, vs2, d2, ds2, p2, q2, rfl, rfl, rfl, h2, r2⟩ := trodAll_cons r1
  obtain ⟨rfl, rfl, rfl⟩ := trodAll_nil r2
  obtain rfl : args = #[v0, v1, v2] := by cases args; simp_all
  obtain ⟨rfl, rfl⟩ := trodVars_none hV
  obtain ⟨c0, len0, cap0, rfl⟩ := okWide_slice Try.underlying22 (hval 0 22 v0 rfl rfl)
  have k0 := h0
  have lt0 : ∀ x ∈ p0, x.block < W.heap.size := by obtain ⟨m, hm⟩ := k0; exact DataW.trod_lt m _ _ _ hm
  obtain ⟨fuel0, hf0⟩ := h0
  obtain ⟨l0, y0, m0, e0⟩ := bytes_arg2 Try.underlying22 Try.underlying5 (by kernel_rfl) hf0
  have z0 : l0.length ≤ 140737488351232 := by
    rcases e0 with ⟨_, rfl⟩ | ⟨elems, spare, rfl, hll⟩
    · simp
    · have := sized_slice hsz (j := 0) (t := 22) (e := 5) rfl rfl Try.underlying22
      rw [show Try.prog.bytesOf 5 = 1 by kernel_rfl] at this; simp only [reachBytes] at this; omega
  obtain ⟨c1, len1, cap1, rfl⟩ := okWide_slice Try.underlying33 (hval 1 33 v1 rfl rfl)
  have k1 := h1
  have lt1 : ∀ x ∈ p1, x.block < W.heap.size := by obtain ⟨m, hm⟩ := k1; exact DataW.trod_lt m _ _ _ hm
  obtain ⟨fuel1, hf1⟩ := h1
  obtain ⟨l1, y1, e1⟩ := faults_arg Try.underlying33 Try.underlying123 (by kernel_rfl) rfl rfl (by kernel_rfl) (by kernel_rfl) Try.underlying3 Try.underlying3 hf1
  have z1 : l1.length * 16 ≤ 140737488351232 := by
    rcases e1 with ⟨_, rfl⟩ | ⟨elems, spare, rfl, hll⟩
    · simp
    · have := sized_slice hsz (j := 1) (t := 33) (e := 123) rfl rfl Try.underlying33
      rw [show Try.prog.bytesOf 123 = 16 by kernel_rfl] at this; simp only [reachBytes] at this; omega
  obtain ⟨a2, rfl, rfl, rfl, w2⟩ := open_int Try.underlying3 (hval 2 3 v2 rfl rfl) h2
  have b2 := bounds_i64 w2
  clear hA0
  refine ((retrySome_any _ _ _ _ _ _ l0 l1 a2 W y0 m0 y1 z0 z1)).mono fun e W' ⟨he, bel⟩ => ?_
  subst he
  exact ⟨_, rfl, _, _, _, [], _, [], hW', trodAll_mk1 (shut_bool Try.underlying4 _), (trodAll_cons_mk (Below.trod laidOut (by kernel_rfl) (of_decide_eq_true (by kernel_rfl)) k0 bel lt0) (trodAll_cons_mk (Below.trod laidOut (by kernel_rfl) (of_decide_eq_true (by kernel_rfl)) k1 bel lt1) (trodAll_cons_mk (shut_int Try.underlying3 w2) trodAll_mk0))), rfl, bel.frame _, fun h => by cases h⟩

theorem over : Rows.retrySomeRow.holds Try.pinned (OpenSpec.ofChange Rows.retrySomeSpec) :=
  OpenClaim.holds_of_wide 6 Try.f6 rfl rfl rfl rfl rfl rfl rfl ⟨rfl, rfl, rfl, rfl, rfl⟩ rfl rfl rfl rfl rfl (by kernel_rfl) Try.func6 (by kernel_rfl)
    (of_decide_eq_true (by kernel_rfl)) (by unfold Func.isWrapper; first | (rw [if_pos (by decide +kernel)]; kernel_rfl) | (rw [if_neg (by decide +kernel)]; exact ⟨rfl, rfl⟩))
    (fun os started H enc _ => lifted os started H enc)
end Go.Proofs.Ytknpghmcacocfaa.retrySome
namespace Go.Proofs.Ytknpghmcacocfaa
theorem retrySome_holds : Rows.RetrySomeSaid := retrySome.over
#print axioms retrySome_holds
end Go.Proofs.Ytknpghmcacocfaa

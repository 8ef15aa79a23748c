/- What the proof stands on, part 10: the contracts of the program's calls that it reaches. -/
import Derived.Test.YtdjddcmpffmehaaGreatKM9
import Derived.ProofKit
import Derived.OpenShut
import Derived.ChangeArms
import Derived.ChangeSlices
import Derived.SizedLaws
import Derived.Deep.Slices
/- The program's kernel: CanRead, CanWrite. -/
namespace Go.Proofs.YtdjddcmpffmehaaGreat
open Go.RowKit Go.Maps

set_option maxRecDepth 100000 in
set_option maxHeartbeats 2000000 in
theorem kcanRead_any (ρ : Nat → Option PTag) (I : PI) (K : KS) (d : Int) (w : World) (h : PK w ρ I K) (hd : I64 d) :
    Calls Tryz.prog 27 #[.pointer (some ⟨I.kb, 0, none⟩), .int .i64 d] w fun e w' => e = .returned (.bool (K.canRead d)) ∧ Below w.heap.size w w' := by
  have HF := hide (described_any ρ I K d w h hd)
  cases hx : K.find d with
  | none =>
    rw [hx] at HF
    rw [KS.canRead_none hx]
    clear h
    go_enter Tryz.func27, Tryz.ntmps27
    go_wp2_with fail
    refine HF.out.mono ?_
    rintro e w1 ⟨rfl, rfl⟩
    unfold descV
    go_wp2
    go_ret
    exact ⟨rfl, Below.refl _ _⟩
  | some x =>
    rw [hx] at HF
    rw [KS.canRead_some hx]
    have hm := (KS.find_some hx).1
    have c0 := (h.desc hm).thing
    have c1 := (h.desc hm).reads
    have HO := hide (h.pobj hm)
    by_cases hf : fbit x.flags 1 = 0
    · rw [bit_no hf] at c1
      rw [show (!(fbit x.flags 1 == 0)) = false by rw [hf]; rfl, Bool.false_and]
      clear h
      go_enter Tryz.func27, Tryz.ntmps27
      go_wp2_with fail
      refine HF.out.mono ?_
      rintro e w1 ⟨rfl, rfl⟩
      unfold descV
      go_wp2
      go_ret
      exact ⟨rfl, Below.refl _ _⟩
    · rw [bit_yes hf] at c1
      rw [show (!(fbit x.flags 1 == 0)) = true by simpa using hf, Bool.true_and]
      clear h
      cases ho : K.tho x with
      | file b =>
        rw [thing_file ho] at c0
        have hmw := mf_readWaits (I.xb x.n)
        go_enter Tryz.func27, Tryz.ntmps27
        go_wp2_with fail
        refine HF.out.mono ?_
        rintro e w1 ⟨rfl, rfl⟩
        unfold descV
        go_wp2
        go_ret
        exact ⟨rfl, Below.refl _ _⟩
      | term ls scr =>
        rw [thing_term ho] at c0
        have hmw := mt_readWaits (I.cb x.th)
        go_enter Tryz.func27, Tryz.ntmps27
        go_wp2_with fail
        refine HF.out.mono ?_
        rintro e w1 ⟨rfl, rfl⟩
        unfold descV
        go_wp2
        go_ret
        exact ⟨rfl, Below.refl _ _⟩
      | pipe q rd wt =>
        rw [thing_pipe ho] at c0
        have hmw := mp_readWaits (I.ob x.th)
        have HW := hide (pp_readWaits (I.ob x.th) q rd wt w (by have := HO.out; rw [ho] at this; exact this.1))
        simp only
        generalize canR q.length rd wt = can at *
        cases can
        · go_enter Tryz.func27, Tryz.ntmps27
          go_wp2_with fail
          refine HF.out.mono ?_
          rintro e w1 ⟨rfl, rfl⟩
          unfold descV
          go_wp2_with fail
          refine HW.out.mono ?_
          rintro e w2 ⟨rfl, hB⟩
          go_wp2
          go_ret
          exact ⟨rfl, hB⟩
        · go_enter Tryz.func27, Tryz.ntmps27
          go_wp2_with fail
          refine HF.out.mono ?_
          rintro e w1 ⟨rfl, rfl⟩
          unfold descV
          go_wp2_with fail
          refine HW.out.mono ?_
          rintro e w2 ⟨rfl, hB⟩
          go_wp2
          go_ret
          exact ⟨rfl, hB⟩
/-- Would a write not wait? -/
def KS.canWriteP (K : KS) (d n : Int) : Bool := match K.find d with
  | none => false
  | some x => bit x.flags 2 && (inN n && !(refusal (K.tho x) x.flags x.pos n == 52))
set_option maxRecDepth 100000 in
set_option maxHeartbeats 2000000 in
theorem kcanWrite_any (ρ : Nat → Option PTag) (I : PI) (K : KS) (d n : Int) (w : World) (h : PK w ρ I K) (hd : I64 d) :
    Calls Tryz.prog 28 #[.pointer (some ⟨I.kb, 0, none⟩), .int .i64 d, .int .i64 n] w fun e w' => e = .returned (.bool (K.canWriteP d n)) ∧ Below w.heap.size w w' := by
  have HF := hide (described_any ρ I K d w h hd)
  cases hx : K.find d with
  | none =>
    rw [hx] at HF
    rw [show K.canWriteP d n = false by unfold KS.canWriteP; rw [hx]]
    clear h
    go_enter Tryz.func28, Tryz.ntmps28
    go_wp2_with fail
    refine HF.out.mono ?_
    rintro e w1 ⟨rfl, rfl⟩
    unfold descV
    go_wp2
    go_ret
    exact ⟨rfl, Below.refl _ _⟩
  | some x =>
    rw [hx] at HF
    rw [show K.canWriteP d n = (bit x.flags 2 && (inN n && !(refusal (K.tho x) x.flags x.pos n == 52))) by unfold KS.canWriteP; rw [hx]]
    have hm := (KS.find_some hx).1
    have c0 := (h.desc hm).thing
    have c1 := (h.desc hm).writes
    have HO := hide (h.pobj hm)
    by_cases hf : fbit x.flags 2 = 0
    · rw [bit_no hf] at c1 ⊢
      rw [Bool.false_and]
      clear h
      go_enter Tryz.func28, Tryz.ntmps28
      go_wp2_with fail
      refine HF.out.mono ?_
      rintro e w1 ⟨rfl, rfl⟩
      unfold descV
      go_wp2
      go_ret
      exact ⟨rfl, Below.refl _ _⟩
    · rw [bit_yes hf] at c1 ⊢
      rw [Bool.true_and]
      rcases (show n < 1 ∨ (¬ n < 1 ∧ 1048576 < n) ∨ (¬ n < 1 ∧ ¬ 1048576 < n) by omega) with e1 | ⟨e1, e2⟩ | ⟨e1, e2⟩
      · rw [show inN n = false by unfold inN; simp; omega, Bool.false_and]
        clear h
        go_enter Tryz.func28, Tryz.ntmps28
        go_wp2_with fail
        refine HF.out.mono ?_
        rintro e w1 ⟨rfl, rfl⟩
        unfold descV
        go_wp2
        go_ret
        exact ⟨rfl, Below.refl _ _⟩
      · rw [show inN n = false by unfold inN; simp; omega, Bool.false_and]
        clear h
        go_enter Tryz.func28, Tryz.ntmps28
        go_wp2_with fail
        refine HF.out.mono ?_
        rintro e w1 ⟨rfl, rfl⟩
        unfold descV
        go_wp2
        go_ret
        exact ⟨rfl, Below.refl _ _⟩
      · rw [show inN n = true by unfold inN; simp; omega, Bool.true_and]
        cases ho : K.tho x with
        | file b =>
          obtain ⟨RF, hRF⟩ : ∃ RF : Int, RF = (if plc b (bit x.flags 4) x.pos = 1048576 then 31 else 0) := ⟨_, rfl⟩
          have HRf := hide (of_refuses (I.xb x.n) (I.ob x.th) b x.pos (bit x.flags 4) n _ w (h.comp (.ofile x.n) x hm rfl b ho).1 (by have := HO.out; rw [ho] at this; exact this))
          rw [← hRF] at HRf
          have hRF2 : refusal (Ob.file b) x.flags x.pos n = RF := by rw [hRF]; rfl
          rw [hRF2]
          clear hRF hRF2
          rw [thing_file ho] at c0
          have hmw := mf_refuses (I.xb x.n)
          clear h
          by_cases h52 : RF = 52
          · subst h52
            go_enter Tryz.func28, Tryz.ntmps28
            go_wp2_with fail
            refine HF.out.mono ?_
            rintro e w1 ⟨rfl, rfl⟩
            unfold descV
            go_wp2_with fail
            refine HRf.out.mono ?_
            rintro e w2 ⟨rfl, rfl⟩
            go_wp2
            go_ret
            exact ⟨rfl, Below.refl _ _⟩
          · have h53 : (RF == 52) = false := by simpa using h52
            have h54 : (RF != 52) = true := by simpa using h52
            go_enter Tryz.func28, Tryz.ntmps28
            go_wp2_with fail
            refine HF.out.mono ?_
            rintro e w1 ⟨rfl, rfl⟩
            unfold descV
            go_wp2_with fail
            refine HRf.out.mono ?_
            rintro e w2 ⟨rfl, rfl⟩
            go_wp2
            go_ret
            exact ⟨by rw [h53]; rfl, Below.refl _ _⟩
        | term ls scr =>
          obtain ⟨RF, hRF⟩ : ∃ RF : Int, RF = (if scr.length = 1048576 then 31 else 0) := ⟨_, rfl⟩
          have HRf := hide (co_refuses (I.cb x.th) (I.ob x.th) scr.length n w (h.comp (.cons x.th) (h.ok.th x hm) ls scr (by rw [← KS.tho_eq (h.ok.th x hm)]; exact ho)).1)
          rw [← hRF] at HRf
          have hRF2 : refusal (Ob.term ls scr) x.flags x.pos n = RF := by rw [hRF]; rfl
          rw [hRF2]
          clear hRF hRF2
          rw [thing_term ho] at c0
          have hmw := mt_refuses (I.cb x.th)
          clear h
          by_cases h52 : RF = 52
          · subst h52
            go_enter Tryz.func28, Tryz.ntmps28
            go_wp2_with fail
            refine HF.out.mono ?_
            rintro e w1 ⟨rfl, rfl⟩
            unfold descV
            go_wp2_with fail
            refine HRf.out.mono ?_
            rintro e w2 ⟨rfl, rfl⟩
            go_wp2
            go_ret
            exact ⟨rfl, Below.refl _ _⟩
          · have h53 : (RF == 52) = false := by simpa using h52
            have h54 : (RF != 52) = true := by simpa using h52
            go_enter Tryz.func28, Tryz.ntmps28
            go_wp2_with fail
            refine HF.out.mono ?_
            rintro e w1 ⟨rfl, rfl⟩
            unfold descV
            go_wp2_with fail
            refine HRf.out.mono ?_
            rintro e w2 ⟨rfl, rfl⟩
            go_wp2
            go_ret
            exact ⟨by rw [h53]; rfl, Below.refl _ _⟩
        | pipe q rd wt =>
          obtain ⟨RF, hRF⟩ : ∃ RF : Int, RF = (if rd = 0 then 53 else if canW n q.length rd wt = false then 52 else 0) := ⟨_, rfl⟩
          have HRf := hide (pp_refuses (I.ob x.th) q rd wt n w (by have := HO.out; rw [ho] at this; exact this.1))
          rw [← hRF] at HRf
          have hRF2 : refusal (Ob.pipe q rd wt) x.flags x.pos n = RF := by rw [hRF]; rfl
          rw [hRF2]
          clear hRF hRF2
          rw [thing_pipe ho] at c0
          have hmw := mp_refuses (I.ob x.th)
          clear h
          by_cases h52 : RF = 52
          · subst h52
            go_enter Tryz.func28, Tryz.ntmps28
            go_wp2_with fail
            refine HF.out.mono ?_
            rintro e w1 ⟨rfl, rfl⟩
            unfold descV
            go_wp2_with fail
            refine HRf.out.mono ?_
            rintro e w2 ⟨rfl, hB⟩
            go_wp2
            go_ret
            exact ⟨rfl, hB⟩
          · have h53 : (RF == 52) = false := by simpa using h52
            have h54 : (RF != 52) = true := by simpa using h52
            go_enter Tryz.func28, Tryz.ntmps28
            go_wp2_with fail
            refine HF.out.mono ?_
            rintro e w1 ⟨rfl, rfl⟩
            unfold descV
            go_wp2_with fail
            refine HRf.out.mono ?_
            rintro e w2 ⟨rfl, hB⟩
            go_wp2
            go_ret
            exact ⟨by rw [h53]; rfl, hB⟩
end Go.Proofs.YtdjddcmpffmehaaGreat

/- The program's kernel: Write, walked. -/
namespace Go.Proofs.YtdjddcmpffmehaaGreat
open Go.RowKit Go.Maps

theorem PNum.done {w w1 w4 : World} {ρ : Nat → Option PTag} {I I1 : PI} {r : Int × Int × KS} (hT : Turned (Own ρ) w w1) (hk : I1.kb = I.kb) {e : Ending} (h : PNum ρ I1 w1 r e w4) : PNum ρ I w r e w4 := ⟨h.1, h.2.after hT hk⟩
set_option maxRecDepth 100000 in
set_option maxHeartbeats 4000000 in
theorem kwrite_any (ρ : Nat → Option PTag) (I : PI) (K : KS) (d : Int) (bs : List UInt8) (a1 : Option Addr) (cx : Nat) (w : World) (h : PK w ρ I K) (hd : I64 d) (hr : K.writes < 9223372036854775807)
    (hb : Bys w (.slice a1 bs.length cx) bs) (hcap : bs.length ≤ cx) (hbig : bs.length ≤ 9223372036854775807) (hap : 0 < bs.length → ∀ k, (Value.slice a1 bs.length cx).ownBlock = some k → ¬ Own ρ k) :
    Calls Tryz.prog 22 #[.pointer (some ⟨I.kb, 0, none⟩), .int .i64 d, .slice a1 bs.length cx] w (PNum ρ I w (K.write d bs)) := by
  have HF := hide (described_any ρ I K d w h hd)
  have HX := hide fun E => PNum.refused h (Below.refl _ w) E
  have HK := hide h
  cases hx : K.find d with
  | none =>
    rw [hx] at HF
    rw [show K.write d bs = (0, 64, K) by unfold KS.write; rw [hx]]
    clear h HK hb hap
    go_enter Tryz.func22, Tryz.ntmps22
    go_wp2_with fail
    refine HF.out.mono ?_
    rintro e w1 ⟨rfl, rfl⟩
    unfold descV
    go_wp2
    go_ret2
    exact HX.out 64
  | some x =>
    rw [hx] at HF
    have hm := (KS.find_some hx).1
    have hdc := h.desc hm
    have c0 := hdc.thing
    have c1 := hdc.writes
    by_cases hf : fbit x.flags 2 = 0
    · rw [show K.write d bs = (0, 65, K) by unfold KS.write; rw [hx]; simp only; rw [if_pos hf]]
      rw [bit_no hf] at c1
      clear h hdc HK hb hap
      go_enter Tryz.func22, Tryz.ntmps22
      go_wp2_with fail
      refine HF.out.mono ?_
      rintro e w1 ⟨rfl, rfl⟩
      unfold descV
      go_wp2
      go_ret2
      exact HX.out 65
    · rw [bit_yes hf] at c1
      by_cases hn : 1048576 < bs.length
      · rw [show K.write d bs = (0, 5, K) by unfold KS.write; rw [hx]; simp only; rw [if_neg hf, if_pos hn]]
        have hn' : (1048576 : Int) < (bs.length : Int) := by omega
        clear h hdc HK hb hap
        go_enter Tryz.func22, Tryz.ntmps22
        go_wp2_with fail
        refine HF.out.mono ?_
        rintro e w1 ⟨rfl, rfl⟩
        unfold descV
        go_wp2
        go_ret2
        exact HX.out 5
      · by_cases hz : bs.length = 0
        · rw [show K.write d bs = (0, 0, K) by unfold KS.write; rw [hx]; simp only; rw [if_neg hf, if_neg hn, if_pos hz]]
          obtain rfl := List.length_eq_zero_iff.1 hz
          clear h hdc HK hb hap
          simp only [List.length_nil]
          go_enter Tryz.func22, Tryz.ntmps22
          go_wp2_with fail
          refine HF.out.mono ?_
          rintro e w1 ⟨rfl, rfl⟩
          unfold descV
          go_wp2
          go_ret2
          exact HX.out 0
        · have n1 : 1 ≤ bs.length := by omega
          have n2 : bs.length ≤ 1048576 := by omega
          have n3 : ¬ (1048576 : Int) < (bs.length : Int) := by omega
          have n4 : (1 : Int) ≤ (bs.length : Int) := by omega
          have n5 : (bs.length : Int) ≤ 1048576 := by omega
          have n6 : ¬ (bs.length : Int) = 0 := by omega
          have n7 : ((bs.length : Int) == 0) = false := by simpa using n6
          obtain ⟨pr, hpr⟩ : ∃ pr, pr = nxt K.plan bs.length := ⟨_, rfl⟩
          have HG : Hid (pr.2 = 0 → ∃ m : Nat, pr.1 = m ∧ 1 ≤ m ∧ m ≤ bs.length) := hide (fun e => by rw [hpr] at e ⊢; have := nxt_good h.ok.plan n4 n5 e; exact ⟨(nxt K.plan bs.length).1.toNat, by omega, by omega, by omega⟩)
          have HN := hide fun W I' K' (hW : PK W ρ I' K') (hpl : K'.plan = K.plan) => by
            have := knext_any ρ I' K' bs.length W hW n4 n5
            rw [hpl, ← hpr] at this
            exact this
          have HB := hide (And.intro hb (And.intro hcap (hap (by omega))))
          have HO := hide (h.pobj hm)
          clear hdc hb hap
          cases ho : K.tho x with
          | file b =>
            obtain ⟨RF, hRF⟩ : ∃ RF : Int, RF = (if plc b (bit x.flags 4) x.pos = 1048576 then 31 else 0) := ⟨_, rfl⟩
            have HRf := hide (of_refuses (I.xb x.n) (I.ob x.th) b x.pos (bit x.flags 4) bs.length _ w (h.comp (.ofile x.n) x hm rfl b ho).1 (by have := HO.out; rw [ho] at this; exact this))
            rw [← hRF] at HRf
            have hRF2 : refusal (K.tho x) x.flags x.pos bs.length = RF := by rw [ho, hRF]; rfl
            clear hRF
            have HT0 := hide ho
            rw [thing_file ho] at c0
            have hmw := mf_refuses (I.xb x.n)
            have hmr := mf_write (I.xb x.n)
            by_cases hz2 : RF = 0
            · rw [write_is hx hf n1 n2 (hRF2.trans hz2), ← hpr]
              subst hz2
              clear h HX hpr
              obtain ⟨pr1, pr2⟩ := pr
              simp only at HG HN ⊢
              by_cases he : pr2 = 0
              · subst he
                rw [if_pos rfl]
                obtain ⟨M, hM, hM1, hM2⟩ := HG.out (by first | rfl | trivial)
                subst hM
                go_enter Tryz.func22, Tryz.ntmps22
                go_wp2_with fail
                refine HF.out.mono ?_
                rintro e w1 ⟨rfl, rfl⟩
                unfold descV
                go_wp2_with fail
                refine HRf.out.mono ?_
                rintro e w1' ⟨rfl, rfl⟩
                have hP1 := HK.out
                have HT1 := hide (Turned.refl (Own ρ) w1')
                have HP2 := hide hP1.writeUp
                have c6 := hP1.cells.writes
                have c6s : w1'.frozen? ⟨I.kb, 7, none⟩ = false := frozen_of_row w1' I.kb 7 _ _ (hP1.comp .kern).1
                have c5 := HP2.out.1.cells.plan
                have d2 := (HP2.out.1.desc (x := x) hm).thing
                clear hP1
                go_wp2_with fail
                generalize hw2 : w1'.setCell ⟨I.kb, 7, none⟩ (.int .i64 ((K.writes : Int) + 1)) = w2 at *
                refine (HN.out w2 I _ HP2.out.1 rfl).mono ?_
                rintro e w3 ⟨rfl, v', hP3, hT3⟩
                have hT13 := (HT1.out.trans HP2.out.2 (fun _ _ e => e)).trans hT3 (fun _ _ e => e)
                have hbw : Bys w3 (.slice a1 bs.length cx) bs := HB.out.1.turned hT13 (fun k e _ => HB.out.2.2 k e)
                have c7 := (hP3.desc (x := x) hm).thing
                rw [thing_file (K := { K with writes := K.writes + 1, plan := K.plan.tail }) ho] at c7
                simp only at c7
                go_wp2_with fail
                refine (xwrite_file ρ _ _ x b bs M a1 cx w3 hP3 hm ho hbw HB.out.2.1 hM1 hM2 n2 HB.out.2.2).mono ?_
                rintro e w4 hN4
                obtain rfl := hN4.1
                have HS := hide hN4
                clear hN4
                go_wp2
                go_ret2
                exact PNum.done hT13 rfl HS.out
              · rw [if_neg he]
                have he2 : (pr2 == 0) = false := by simpa using he
                go_enter Tryz.func22, Tryz.ntmps22
                go_wp2_with fail
                refine HF.out.mono ?_
                rintro e w1 ⟨rfl, rfl⟩
                unfold descV
                go_wp2_with fail
                refine HRf.out.mono ?_
                rintro e w1' ⟨rfl, rfl⟩
                have hP1 := HK.out
                have HT1 := hide (Turned.refl (Own ρ) w1')
                have HP2 := hide hP1.writeUp
                have c6 := hP1.cells.writes
                have c6s : w1'.frozen? ⟨I.kb, 7, none⟩ = false := frozen_of_row w1' I.kb 7 _ _ (hP1.comp .kern).1
                have c5 := HP2.out.1.cells.plan
                have d2 := (HP2.out.1.desc (x := x) hm).thing
                clear hP1
                go_wp2_with fail
                generalize hw2 : w1'.setCell ⟨I.kb, 7, none⟩ (.int .i64 ((K.writes : Int) + 1)) = w2 at *
                refine (HN.out w2 I _ HP2.out.1 rfl).mono ?_
                rintro e w3 ⟨rfl, v', hP3, hT3⟩
                have hT13 := (HT1.out.trans HP2.out.2 (fun _ _ e => e)).trans hT3 (fun _ _ e => e)
                have HP3 := hide hP3
                clear hP3
                go_wp2
                go_ret2
                exact ⟨rfl, PNext.of HP3.out rfl hT13⟩
            · have hne : ¬ refusal (K.tho x) x.flags x.pos bs.length = 0 := by rw [hRF2]; exact hz2
              rw [show K.write d bs = (0, RF, K) by unfold KS.write; rw [hx]; simp only; rw [if_neg hf, if_neg hn, if_neg hz, if_neg hne, hRF2]]
              have hz3 : (RF == 0) = false := by simpa using hz2
              clear h HX hpr HG HN hne
              go_enter Tryz.func22, Tryz.ntmps22
              go_wp2_with fail
              refine HF.out.mono ?_
              rintro e w1 ⟨rfl, rfl⟩
              unfold descV
              go_wp2_with fail
              refine HRf.out.mono ?_
              rintro e w1' ⟨rfl, rfl⟩
              go_wp2
              go_ret2
              exact PNum.refused HK.out (Below.refl _ _) RF
          | term ls scr =>
            obtain ⟨RF, hRF⟩ : ∃ RF : Int, RF = (if scr.length = 1048576 then 31 else 0) := ⟨_, rfl⟩
            have HRf := hide (co_refuses (I.cb x.th) (I.ob x.th) scr.length bs.length w (h.comp (.cons x.th) (h.ok.th x hm) ls scr (by rw [← KS.tho_eq (h.ok.th x hm)]; exact ho)).1)
            rw [← hRF] at HRf
            have hRF2 : refusal (K.tho x) x.flags x.pos bs.length = RF := by rw [ho, hRF]; rfl
            clear hRF
            have HT0 := hide ho
            rw [thing_term ho] at c0
            have hmw := mt_refuses (I.cb x.th)
            have hmr := mt_write (I.cb x.th)
            by_cases hz2 : RF = 0
            · rw [write_is hx hf n1 n2 (hRF2.trans hz2), ← hpr]
              subst hz2
              clear h HX hpr
              obtain ⟨pr1, pr2⟩ := pr
              simp only at HG HN ⊢
              by_cases he : pr2 = 0
              · subst he
                rw [if_pos rfl]
                obtain ⟨M, hM, hM1, hM2⟩ := HG.out (by first | rfl | trivial)
                subst hM
                go_enter Tryz.func22, Tryz.ntmps22
                go_wp2_with fail
                refine HF.out.mono ?_
                rintro e w1 ⟨rfl, rfl⟩
                unfold descV
                go_wp2_with fail
                refine HRf.out.mono ?_
                rintro e w1' ⟨rfl, rfl⟩
                have hP1 := HK.out
                have HT1 := hide (Turned.refl (Own ρ) w1')
                have HP2 := hide hP1.writeUp
                have c6 := hP1.cells.writes
                have c6s : w1'.frozen? ⟨I.kb, 7, none⟩ = false := frozen_of_row w1' I.kb 7 _ _ (hP1.comp .kern).1
                have c5 := HP2.out.1.cells.plan
                have d2 := (HP2.out.1.desc (x := x) hm).thing
                clear hP1
                go_wp2_with fail
                generalize hw2 : w1'.setCell ⟨I.kb, 7, none⟩ (.int .i64 ((K.writes : Int) + 1)) = w2 at *
                refine (HN.out w2 I _ HP2.out.1 rfl).mono ?_
                rintro e w3 ⟨rfl, v', hP3, hT3⟩
                have hT13 := (HT1.out.trans HP2.out.2 (fun _ _ e => e)).trans hT3 (fun _ _ e => e)
                have hbw : Bys w3 (.slice a1 bs.length cx) bs := HB.out.1.turned hT13 (fun k e _ => HB.out.2.2 k e)
                have c7 := (hP3.desc (x := x) hm).thing
                rw [thing_term (K := { K with writes := K.writes + 1, plan := K.plan.tail }) ho] at c7
                simp only at c7
                go_wp2_with fail
                refine (xwrite_term ρ _ _ x ls scr bs M a1 cx w3 hP3 hm ho hbw HB.out.2.1 hM1 hM2 n2 HB.out.2.2).mono ?_
                rintro e w4 hN4
                obtain rfl := hN4.1
                have HS := hide hN4
                clear hN4
                go_wp2
                go_ret2
                exact PNum.done hT13 rfl HS.out
              · rw [if_neg he]
                have he2 : (pr2 == 0) = false := by simpa using he
                go_enter Tryz.func22, Tryz.ntmps22
                go_wp2_with fail
                refine HF.out.mono ?_
                rintro e w1 ⟨rfl, rfl⟩
                unfold descV
                go_wp2_with fail
                refine HRf.out.mono ?_
                rintro e w1' ⟨rfl, rfl⟩
                have hP1 := HK.out
                have HT1 := hide (Turned.refl (Own ρ) w1')
                have HP2 := hide hP1.writeUp
                have c6 := hP1.cells.writes
                have c6s : w1'.frozen? ⟨I.kb, 7, none⟩ = false := frozen_of_row w1' I.kb 7 _ _ (hP1.comp .kern).1
                have c5 := HP2.out.1.cells.plan
                have d2 := (HP2.out.1.desc (x := x) hm).thing
                clear hP1
                go_wp2_with fail
                generalize hw2 : w1'.setCell ⟨I.kb, 7, none⟩ (.int .i64 ((K.writes : Int) + 1)) = w2 at *
                refine (HN.out w2 I _ HP2.out.1 rfl).mono ?_
                rintro e w3 ⟨rfl, v', hP3, hT3⟩
                have hT13 := (HT1.out.trans HP2.out.2 (fun _ _ e => e)).trans hT3 (fun _ _ e => e)
                have HP3 := hide hP3
                clear hP3
                go_wp2
                go_ret2
                exact ⟨rfl, PNext.of HP3.out rfl hT13⟩
            · have hne : ¬ refusal (K.tho x) x.flags x.pos bs.length = 0 := by rw [hRF2]; exact hz2
              rw [show K.write d bs = (0, RF, K) by unfold KS.write; rw [hx]; simp only; rw [if_neg hf, if_neg hn, if_neg hz, if_neg hne, hRF2]]
              have hz3 : (RF == 0) = false := by simpa using hz2
              clear h HX hpr HG HN hne
              go_enter Tryz.func22, Tryz.ntmps22
              go_wp2_with fail
              refine HF.out.mono ?_
              rintro e w1 ⟨rfl, rfl⟩
              unfold descV
              go_wp2_with fail
              refine HRf.out.mono ?_
              rintro e w1' ⟨rfl, rfl⟩
              go_wp2
              go_ret2
              exact PNum.refused HK.out (Below.refl _ _) RF
          | pipe q rd wt =>
            obtain ⟨RF, hRF⟩ : ∃ RF : Int, RF = (if rd = 0 then 53 else if canW bs.length q.length rd wt = false then 52 else 0) := ⟨_, rfl⟩
            have HRf := hide (pp_refuses (I.ob x.th) q rd wt bs.length w (by have := HO.out; rw [ho] at this; exact this.1))
            rw [← hRF] at HRf
            have hRF2 : refusal (K.tho x) x.flags x.pos bs.length = RF := by rw [ho, hRF]; rfl
            clear hRF
            have HT0 := hide ho
            rw [thing_pipe ho] at c0
            have hmw := mp_refuses (I.ob x.th)
            have hmr := mp_write (I.ob x.th)
            by_cases hz2 : RF = 0
            · rw [write_is hx hf n1 n2 (hRF2.trans hz2), ← hpr]
              subst hz2
              clear h HX hpr
              obtain ⟨pr1, pr2⟩ := pr
              simp only at HG HN ⊢
              by_cases he : pr2 = 0
              · subst he
                rw [if_pos rfl]
                obtain ⟨M, hM, hM1, hM2⟩ := HG.out (by first | rfl | trivial)
                subst hM
                go_enter Tryz.func22, Tryz.ntmps22
                go_wp2_with fail
                refine HF.out.mono ?_
                rintro e w1 ⟨rfl, rfl⟩
                unfold descV
                go_wp2_with fail
                refine HRf.out.mono ?_
                rintro e w1' ⟨rfl, hB⟩
                have hP1 := HK.out.under hB
                have HT1 := hide (Turned.of_below (S := Own ρ) hB)
                have HP2 := hide hP1.writeUp
                have c6 := hP1.cells.writes
                have c6s : w1'.frozen? ⟨I.kb, 7, none⟩ = false := frozen_of_row w1' I.kb 7 _ _ (hP1.comp .kern).1
                have c5 := HP2.out.1.cells.plan
                have d2 := (HP2.out.1.desc (x := x) hm).thing
                clear hP1
                go_wp2_with fail
                generalize hw2 : w1'.setCell ⟨I.kb, 7, none⟩ (.int .i64 ((K.writes : Int) + 1)) = w2 at *
                refine (HN.out w2 I _ HP2.out.1 rfl).mono ?_
                rintro e w3 ⟨rfl, v', hP3, hT3⟩
                have hT13 := (HT1.out.trans HP2.out.2 (fun _ _ e => e)).trans hT3 (fun _ _ e => e)
                have hbw : Bys w3 (.slice a1 bs.length cx) bs := HB.out.1.turned hT13 (fun k e _ => HB.out.2.2 k e)
                have c7 := (hP3.desc (x := x) hm).thing
                rw [thing_pipe (K := { K with writes := K.writes + 1, plan := K.plan.tail }) ho] at c7
                simp only at c7
                go_wp2_with fail
                refine (xwrite_pipe ρ _ _ x q rd wt bs M a1 cx w3 hP3 hm ho hbw HB.out.2.1 n2 HB.out.2.2).mono ?_
                rintro e w4 hN4
                obtain rfl := hN4.1
                have HS := hide hN4
                clear hN4
                go_wp2
                go_ret2
                exact PNum.done hT13 rfl HS.out
              · rw [if_neg he]
                have he2 : (pr2 == 0) = false := by simpa using he
                go_enter Tryz.func22, Tryz.ntmps22
                go_wp2_with fail
                refine HF.out.mono ?_
                rintro e w1 ⟨rfl, rfl⟩
                unfold descV
                go_wp2_with fail
                refine HRf.out.mono ?_
                rintro e w1' ⟨rfl, hB⟩
                have hP1 := HK.out.under hB
                have HT1 := hide (Turned.of_below (S := Own ρ) hB)
                have HP2 := hide hP1.writeUp
                have c6 := hP1.cells.writes
                have c6s : w1'.frozen? ⟨I.kb, 7, none⟩ = false := frozen_of_row w1' I.kb 7 _ _ (hP1.comp .kern).1
                have c5 := HP2.out.1.cells.plan
                have d2 := (HP2.out.1.desc (x := x) hm).thing
                clear hP1
                go_wp2_with fail
                generalize hw2 : w1'.setCell ⟨I.kb, 7, none⟩ (.int .i64 ((K.writes : Int) + 1)) = w2 at *
                refine (HN.out w2 I _ HP2.out.1 rfl).mono ?_
                rintro e w3 ⟨rfl, v', hP3, hT3⟩
                have hT13 := (HT1.out.trans HP2.out.2 (fun _ _ e => e)).trans hT3 (fun _ _ e => e)
                have HP3 := hide hP3
                clear hP3
                go_wp2
                go_ret2
                exact ⟨rfl, PNext.of HP3.out rfl hT13⟩
            · have hne : ¬ refusal (K.tho x) x.flags x.pos bs.length = 0 := by rw [hRF2]; exact hz2
              rw [show K.write d bs = (0, RF, K) by unfold KS.write; rw [hx]; simp only; rw [if_neg hf, if_neg hn, if_neg hz, if_neg hne, hRF2]]
              have hz3 : (RF == 0) = false := by simpa using hz2
              clear h HX hpr HG HN hne
              go_enter Tryz.func22, Tryz.ntmps22
              go_wp2_with fail
              refine HF.out.mono ?_
              rintro e w1 ⟨rfl, rfl⟩
              unfold descV
              go_wp2_with fail
              refine HRf.out.mono ?_
              rintro e w1' ⟨rfl, hB⟩
              go_wp2
              go_ret2
              exact PNum.refused HK.out hB RF
end Go.Proofs.YtdjddcmpffmehaaGreat

/- The program's kernel within a set of blocks: each call. -/
namespace Go.Proofs.YtdjddcmpffmehaaGreat
open Go.RowKit Go.Maps

theorem KAt.open {w : World} {O : Nat → Prop} {kb : Nat} {K : KS} (h : KAt w O kb K) (s : ByteArray) (flags : Int) (hs : s.size ≤ maxLen) (hl : K.next < 9223372036854775807) :
    Calls Tryz.prog 15 #[.pointer (some ⟨kb, 0, none⟩), .string s, .int .i64 flags] w fun e w' => e = .returned (.tuple #[.int .i64 (K.open s flags).1, .int .i64 (K.open s flags).2.1]) ∧ KStep w O kb (K.open s flags).2.2 w' := by
  obtain ⟨ρ, I, h1, rfl, h3⟩ := h
  exact (kopen_any ρ I K s flags w h1 hs hl).mono fun e w' ⟨a, b⟩ => ⟨a, b.step h3⟩
theorem KAt.pipe {w : World} {O : Nat → Prop} {kb : Nat} {K : KS} (h : KAt w O kb K) (hl : K.next + 1 < 9223372036854775807) :
    Calls Tryz.prog 21 #[.pointer (some ⟨kb, 0, none⟩)] w fun e w' => e = .returned (.tuple #[.int .i64 K.pipe.1, .int .i64 K.pipe.2.1, .int .i64 K.pipe.2.2.1]) ∧ KStep w O kb K.pipe.2.2.2 w' := by
  obtain ⟨ρ, I, h1, rfl, h3⟩ := h
  exact (kpipe_any ρ I K w h1 hl).mono fun e w' ⟨a, b⟩ => ⟨a, b.step h3⟩
theorem KAt.read {w : World} {O : Nat → Prop} {kb : Nat} {K : KS} (h : KAt w O kb K) (d n : Int) (hd : I64 d) (hr : K.reads < 9223372036854775807) :
    Calls Tryz.prog 17 #[.pointer (some ⟨kb, 0, none⟩), .int .i64 d, .int .i64 n] w fun e w' => ∃ v, e = .returned (.tuple #[v, .int .i64 (K.read d n).2.1]) ∧ w'.ownsRow w.heap.size 5 1 v (K.read d n).1.length ((K.read d n).1.map bv) ∧ KAt w' O kb (K.read d n).2.2 ∧ Turned O w w' := by
  obtain ⟨ρ, I, h1, rfl, h3⟩ := h
  exact (kread_any ρ I K d n w h1 hd hr).mono fun e w' ⟨v, a, b, ρ', I', c1, c2, c3, c4⟩ => ⟨v, a, b, ⟨ρ', I', c1, c2, fun k t e => by obtain ⟨t', e'⟩ := c3 k ⟨t, e⟩; exact h3 k t' e'⟩, c4.mono fun k ⟨t, e⟩ => h3 k t e⟩
theorem KAt.write {w : World} {O : Nat → Prop} {kb : Nat} {K : KS} (h : KAt w O kb K) (d : Int) (bs : List UInt8) (a1 : Option Addr) (cx : Nat) (hd : I64 d) (hr : K.writes < 9223372036854775807)
    (hb : Bys w (.slice a1 bs.length cx) bs) (hcap : bs.length ≤ cx) (hbig : bs.length ≤ 9223372036854775807) (hap : 0 < bs.length → ∀ k, (Value.slice a1 bs.length cx).ownBlock = some k → ¬ O k) :
    Calls Tryz.prog 22 #[.pointer (some ⟨kb, 0, none⟩), .int .i64 d, .slice a1 bs.length cx] w fun e w' => e = .returned (.tuple #[.int .i64 (K.write d bs).1, .int .i64 (K.write d bs).2.1]) ∧ KStep w O kb (K.write d bs).2.2 w' := by
  obtain ⟨ρ, I, h1, rfl, h3⟩ := h
  exact (kwrite_any ρ I K d bs a1 cx w h1 hd hr hb hcap hbig (fun h0 k e ⟨t, e'⟩ => hap h0 k e (h3 k t e'))).mono fun e w' ⟨a, b⟩ => ⟨a, b.step h3⟩
theorem KAt.seek {w : World} {O : Nat → Prop} {kb : Nat} {K : KS} (h : KAt w O kb K) (d off wh : Int) (hd : I64 d) (ho : I64 off) :
    Calls Tryz.prog 23 #[.pointer (some ⟨kb, 0, none⟩), .int .i64 d, .int .i64 off, .int .i64 wh] w fun e w' => e = .returned (.tuple #[.int .i64 (K.seek d off wh).1, .int .i64 (K.seek d off wh).2.1]) ∧ KStep w O kb (K.seek d off wh).2.2 w' := by
  obtain ⟨ρ, I, h1, rfl, h3⟩ := h
  exact (kseek_any ρ I K d off wh w h1 hd ho).mono fun e w' ⟨a, b⟩ => ⟨a, b.step h3⟩
theorem KAt.keeps {w : World} {O : Nat → Prop} {kb : Nat} {K : KS} (h : KAt w O kb K) (d : Int) (hd : I64 d) :
    Calls Tryz.prog 26 #[.pointer (some ⟨kb, 0, none⟩), .int .i64 d] w fun e w' => e = .returned (.int .i64 (K.keepE d)) ∧ KStep w O kb (K.keepK d) w' := by
  obtain ⟨ρ, I, h1, rfl, h3⟩ := h
  exact (kkeep_any ρ I K d w h1 hd).mono fun e w' ⟨a, b⟩ => ⟨a, b.step h3⟩
theorem KAt.drops {w : World} {O : Nat → Prop} {kb : Nat} {K : KS} (h : KAt w O kb K) (d : Int) (hd : I64 d) :
    Calls Tryz.prog 19 #[.pointer (some ⟨kb, 0, none⟩), .int .i64 d] w fun e w' => e = .returned (.int .i64 (K.dropE d)) ∧ KStep w O kb (K.dropK d) w' := by
  obtain ⟨ρ, I, h1, rfl, h3⟩ := h
  exact (kdrop_any ρ I K d w h1 hd).mono fun e w' ⟨a, b⟩ => ⟨a, b.step h3⟩
theorem KAt.canRead {w : World} {O : Nat → Prop} {kb : Nat} {K : KS} (h : KAt w O kb K) (d : Int) (hd : I64 d) :
    Calls Tryz.prog 27 #[.pointer (some ⟨kb, 0, none⟩), .int .i64 d] w fun e w' => e = .returned (.bool (K.canRead d)) ∧ Below w.heap.size w w' := by
  obtain ⟨ρ, I, h1, rfl, h3⟩ := h
  exact kcanRead_any ρ I K d w h1 hd
theorem KAt.canWrite {w : World} {O : Nat → Prop} {kb : Nat} {K : KS} (h : KAt w O kb K) (d n : Int) (hd : I64 d) :
    Calls Tryz.prog 28 #[.pointer (some ⟨kb, 0, none⟩), .int .i64 d, .int .i64 n] w fun e w' => e = .returned (.bool (K.canWriteP d n)) ∧ Below w.heap.size w w' := by
  obtain ⟨ρ, I, h1, rfl, h3⟩ := h
  exact kcanWrite_any ρ I K d n w h1 hd
theorem KAt.kinds {w : World} {O : Nat → Prop} {kb : Nat} {K : KS} (h : KAt w O kb K) (d : Int) (hd : I64 d) :
    Calls Tryz.prog 16 #[.pointer (some ⟨kb, 0, none⟩), .int .i64 d] w fun e w' => e = .returned (.int .i64 (K.kindOf d)) ∧ Below w.heap.size w w' := by
  obtain ⟨ρ, I, h1, rfl, h3⟩ := h
  exact kkind_any ρ I K d w h1 hd
theorem KAt.trim {w : World} {O : Nat → Prop} {kb : Nat} {K : KS} (h : KAt w O kb K) : KAt w (fun k => O k ∧ k < w.heap.size) kb K := by
  obtain ⟨ρ, I, h1, h2, h3⟩ := h
  exact ⟨ρ, I, h1, h2, fun k t e => ⟨h3 k t e, h1.lt k t e⟩⟩
/-- Two steps, one behind the other, from a base on. -/
theorem KStep.at {B : Nat} {w w' : World} {O : Nat → Prop} {kb : Nat} {K' : KS} (h : KStep w O kb K' w') (hO : ∀ k, O k → B ≤ k) (hB : B ≤ w.heap.size) : KAt w' (fun k => B ≤ k ∧ k < w'.heap.size) kb K' ∧ Below B w w' := by
  obtain ⟨O', h1, h2, h3⟩ := h
  exact ⟨h1.trim.mono fun k e => ⟨(h2 k e.1).elim (hO k) (fun e => Nat.le_trans hB e), e.2⟩, h3.below hO hB⟩
end Go.Proofs.YtdjddcmpffmehaaGreat

/- The law's examples. -/
namespace Go.Proofs.YtdjddcmpffmehaaGreat
open Go.RowKit Go.Maps

def exK0 : KS := KS.new [(⟨#[97]⟩, [104, 101, 108, 108, 111])] [] [(1, 2), (2, 0)]
def exK1 : KS := (exK0.open ⟨#[97]⟩ 1).2.2
theorem ex1 : (exK0.open ⟨#[97]⟩ 1).1 = 1 ∧ (exK0.open ⟨#[97]⟩ 1).2.1 = 0 := by constructor <;> rfl
def exK2 : KS := (exK1.read 1 5).2.2
theorem ex2 : (exK1.read 1 5).1 = [104, 101] ∧ (exK1.read 1 5).2.1 = 0 := by constructor <;> rfl
def exK3 : KS := (exK2.read 1 5).2.2
theorem ex3 : (exK2.read 1 5).1 = [] ∧ (exK2.read 1 5).2.1 = 22 := by constructor <;> rfl
def exK4 : KS := (exK3.read 1 5).2.2
theorem ex4 : (exK3.read 1 5).1 = [108, 108, 111] ∧ (exK3.read 1 5).2.1 = 0 := by constructor <;> rfl
def exK5 : KS := (exK4.open ⟨#[98]⟩ 1).2.2
theorem ex5 : (exK4.open ⟨#[98]⟩ 1).1 = 0 ∧ (exK4.open ⟨#[98]⟩ 1).2.1 = 62 := by constructor <;> rfl
def exK6 : KS := (exK5.open ⟨#[98]⟩ 42).2.2
theorem ex6 : (exK5.open ⟨#[98]⟩ 42).1 = 2 ∧ (exK5.open ⟨#[98]⟩ 42).2.1 = 0 := by constructor <;> rfl
theorem ex7 : (exK6.open ⟨#[98]⟩ 42).1 = 0 ∧ (exK6.open ⟨#[98]⟩ 42).2.1 = 63 := by constructor <;> rfl
theorem exc : checkE [(⟨#[97]⟩, [104, 101, 108, 108, 111])] [] [(1, 2), (2, 0)] = 0 := by rfl
theorem one_named {W : World} {g : Nat} {nm : ByteArray} {va : Option Addr} {vc : Nat} {b : List UInt8} (h0 : W.cell? ⟨g, 0, none⟩ = some (.string nm)) (h1 : W.cell? ⟨g, 1, none⟩ = some (.slice va b.length vc)) (hb : Bys W (.slice va b.length vc) b) (hc : b.length ≤ vc) (hs : nm.size ≤ maxLen) : Nms W (.slice (some ⟨g, 0, none⟩) 1 1) [(nm, b)] := by
  refine ⟨_, _, rfl, Nat.le_refl _, fun _ => ⟨g, 0, rfl, fun j hj => ?_⟩⟩
  obtain rfl : j = 0 := by simp at hj; omega
  exact ⟨va, vc, h0, h1, hb, hc, hs⟩
theorem no_typed (W : World) : Tps W (.slice none 0 0) [] := ⟨_, _, rfl, Nat.le_refl _, fun h => absurd h (Nat.lt_irrefl _)⟩
set_option maxRecDepth 100000 in
set_option maxHeartbeats 2000000 in
theorem hello_any (w : World) : Calls Tryz.prog 20 #[] w fun e w' => ∃ kb, e = .returned (.pointer (some ⟨kb, 0, none⟩)) ∧ KAt w' (fun k => w.heap.size ≤ k) kb exK0 ∧ Below w.heap.size w w' := by
  have cl := conv_lit w #[.int .u8 104, .int .u8 101, .int .u8 108, .int .u8 108, .int .u8 111] 5 w.heap.size 5 rfl rfl
  simp only [Nat.reduceAdd] at cl
  have hb1 := Te_lit_bys w [104, 101, 108, 108, 111] #[.int .u8 104, .int .u8 101, .int .u8 108, .int .u8 108, .int .u8 111] 5 w.heap.size (5, 6) rfl rfl rfl
  have hB1 := recv_below w (Obj.cells #[.int .u8 104, .int .u8 101, .int .u8 108, .int .u8 108, .int .u8 111] 5 (5, 6))
  have hs1 : (w.alloc (Obj.cells #[.int .u8 104, .int .u8 101, .int .u8 108, .int .u8 108, .int .u8 111] 5 (5, 6))).heap.size = w.heap.size + 1 := by simp
  go_enter Tryz.func20, Tryz.ntmps20
  go_wp2_with fail
  generalize hw1 : w.alloc (Obj.cells #[.int .u8 104, .int .u8 101, .int .u8 108, .int .u8 108, .int .u8 111] 5 (5, 6)) = w1 at *
  have hB2 := recv_below w1 (Obj.cells #[.string ⟨#[97]⟩, .slice (some ⟨w.heap.size, 0, none⟩) 5 5] 47)
  have hB3 := recv_below (w1.alloc (Obj.cells #[.string ⟨#[97]⟩, .slice (some ⟨w.heap.size, 0, none⟩) 5 5] 47)) (Obj.cells #[.int .i64 1, .int .i64 2, .int .i64 2, .int .i64 0] 52)
  have hs2 : (w1.alloc (Obj.cells #[.string ⟨#[97]⟩, .slice (some ⟨w.heap.size, 0, none⟩) 5 5] 47)).heap.size = w.heap.size + 1 + 1 := by simp [hs1]
  have hs3 : ((w1.alloc (Obj.cells #[.string ⟨#[97]⟩, .slice (some ⟨w.heap.size, 0, none⟩) 5 5] 47)).alloc (Obj.cells #[.int .i64 1, .int .i64 2, .int .i64 2, .int .i64 0] 52)).heap.size = w.heap.size + 1 + 1 + 1 := by simp [hs1]
  obtain ⟨p0, p1⟩ := pair_cells w1 (.string ⟨#[97]⟩) (.slice (some ⟨w.heap.size, 0, none⟩) 5 5) 47
  rw [hs1] at p0 p1
  have hN : Nms ((w1.alloc (Obj.cells #[.string ⟨#[97]⟩, .slice (some ⟨w.heap.size, 0, none⟩) 5 5] 47)).alloc (Obj.cells #[.int .i64 1, .int .i64 2, .int .i64 2, .int .i64 0] 52)) (.slice (some ⟨w.heap.size + 1, 0, none⟩) 1 1) [(⟨#[97]⟩, [104, 101, 108, 108, 111])] :=
    one_named ((hB3.cell (p := ⟨w.heap.size + 1, 0, none⟩) (by show w.heap.size + 1 < _; omega)).trans p0) ((hB3.cell (p := ⟨w.heap.size + 1, 1, none⟩) (by show w.heap.size + 1 < _; omega)).trans p1) ((hb1.below hB2).below hB3) (by decide) (by decide)
  have hfl : ((w1.alloc (Obj.cells #[.string ⟨#[97]⟩, .slice (some ⟨w.heap.size, 0, none⟩) 5 5] 47)).alloc (Obj.cells #[.int .i64 1, .int .i64 2, .int .i64 2, .int .i64 0] 52)).heap[w.heap.size + 1 + 1]? = some (Obj.cells ([.int .i64 1, .int .i64 2, .int .i64 2, .int .i64 0] : List Value).toArray 52 (0, 0)) := by
    have := heap_alloc_new (w1.alloc (Obj.cells #[.string ⟨#[97]⟩, .slice (some ⟨w.heap.size, 0, none⟩) 5 5] 47)) (Obj.cells #[.int .i64 1, .int .i64 2, .int .i64 2, .int .i64 0] 52)
    rw [hs2] at this
    exact this
  have hF : Flts ((w1.alloc (Obj.cells #[.string ⟨#[97]⟩, .slice (some ⟨w.heap.size, 0, none⟩) 5 5] 47)).alloc (Obj.cells #[.int .i64 1, .int .i64 2, .int .i64 2, .int .i64 0] 52)) (.slice (some ⟨w.heap.size + 1 + 1, 0, none⟩) 2 2) [(1, 2), (2, 0)] := by
    refine .inr (.inr ⟨w.heap.size + 1 + 1, 0, 2, rfl, by decide, by decide, fun j hj => ?_⟩)
    have : j = 0 ∨ j = 1 := by simp at hj; omega
    rcases this with rfl | rfl
    · constructor <;> (rw [cell_of_row _ _ _ _ _ _ hfl]; rfl)
    · constructor <;> (rw [cell_of_row _ _ _ _ _ _ hfl]; rfl)
  have hBw : Below w.heap.size w ((w1.alloc (Obj.cells #[.string ⟨#[97]⟩, .slice (some ⟨w.heap.size, 0, none⟩) 5 5] 47)).alloc (Obj.cells #[.int .i64 1, .int .i64 2, .int .i64 2, .int .i64 0] 52)) := hB1.trans ((hB2.trans (hB3.mono (by omega))).mono (by omega))
  have HN := hide (knew_good (some ⟨w.heap.size + 1, 0, none⟩) none (some ⟨w.heap.size + 1 + 1, 0, none⟩) 1 0 2 [(⟨#[97]⟩, [104, 101, 108, 108, 111])] [] [(1, 2), (2, 0)] _ hN (no_typed _) hF (by decide) (by decide) (by decide) exc)
  have HB := hide hBw
  clear hN hF hfl p0 p1 hB1 hB2 hB3 hb1 hBw cl
  refine HN.out.mono ?_
  rintro e w4 ⟨kb, rfl, hK, hB4⟩
  have HK := hide hK
  have HB4 := hide hB4
  clear hK hB4
  go_wp2
  go_ret
  have h0 := HB.out.size
  exact ⟨kb, rfl, HK.out.mono (fun k e => Nat.le_trans h0 e), HB.out.trans (HB4.out.mono h0)⟩
/-- num. -/
theorem num_is (x : Int) (w : World) : Calls Tryz.prog 8 #[.int .i64 x] w fun e w' => e = .returned (.int .i64 x) ∧ w' = w := by
  go_enter Tryz.func8, Tryz.ntmps8
  go_wp2
  go_ret
  exact ⟨rfl, rfl⟩
set_option maxRecDepth 100000 in
set_option maxHeartbeats 4000000 in
theorem alive_any (w : World) : Calls Tryz.prog 4 #[] w fun e w' => e = .returned (.bool true) ∧ Below w.heap.size w w' := by
  have HH := hide (hello_any w)
  have i1 : I64 1 := ⟨by decide, by decide⟩
  go_enter Tryz.func4, Tryz.ntmps4
  go_wp2_with fail
  refine HH.out.mono ?_
  rintro e w1 ⟨kb, rfl, hK, hB⟩
  have HB1 := hide hB
  have hs1 := hB.size
  have H1 := hide (hK.open ⟨#[97]⟩ 1 (by decide) (by decide))
  rw [ex1.1, ex1.2] at H1
  clear hK hB
  go_wp2_with fail
  refine H1.out.mono ?_
  rintro e w2 ⟨rfl, hS⟩
  obtain ⟨hK, hB⟩ := hS.at (B := w.heap.size) (fun _ e => e) hs1
  have HB2 := hide (HB1.out.trans hB)
  have hs2 := HB2.out.size
  have H2 := hide (hK.read 1 5 i1 (by decide))
  rw [show (exK0.open ⟨#[97]⟩ 1).2.2 = exK1 from rfl, ex2.1, ex2.2] at H2
  clear hK hB hS
  go_wp2_with fail
  refine H2.out.mono ?_
  rintro e w3 ⟨va, rfl, hra, hK3, hT3⟩
  obtain ⟨aa, ac, rfl⟩ := owns_slice hra
  have HA : Hid (w3.ownsRow w2.heap.size 5 1 (.slice aa 2 ac) 2 ([104, 101].map bv)) := hide hra
  have HT3 := hide hT3
  have H3 := hide (hK3.read 1 5 i1 (by decide))
  rw [show (exK1.read 1 5).2.2 = exK2 from rfl, ex3.1, ex3.2] at H3
  clear hra hK3 hT3
  simp only [List.length_cons, List.length_nil, Nat.zero_add, Nat.reduceAdd]
  go_wp2_with fail
  refine H3.out.mono ?_
  rintro e w4 ⟨vb, rfl, hrb, hK4, hT4⟩
  obtain ⟨ba, bc, rfl⟩ := owns_slice hrb
  have HT4 := hide hT4
  have H4 := hide (hK4.read 1 5 i1 (by decide))
  rw [show (exK2.read 1 5).2.2 = exK3 from rfl, ex4.1, ex4.2] at H4
  clear hrb hK4 hT4
  simp only [List.length_nil]
  go_wp2_with fail
  refine H4.out.mono ?_
  rintro e w5 ⟨vc, rfl, hrc, hK5, hT5⟩
  obtain ⟨ca, cc, rfl⟩ := owns_slice hrc
  have HC : Hid (w5.ownsRow w4.heap.size 5 1 (.slice ca 3 cc) 3 ([108, 108, 111].map bv)) := hide hrc
  have HT5 := hide hT5
  have H5 := hide (hK5.open ⟨#[98]⟩ 1 (by decide) (by decide))
  rw [show (exK3.read 1 5).2.2 = exK4 from rfl, ex5.1, ex5.2] at H5
  clear hrc hK5 hT5
  simp only [List.length_cons, List.length_nil, Nat.zero_add, Nat.reduceAdd]
  go_wp2_with fail
  refine H5.out.mono ?_
  rintro e w6 ⟨rfl, O6, hK6, hO6, hT6⟩
  have HO6 := hide (And.intro hO6 hT6)
  have H6 := hide (hK6.open ⟨#[98]⟩ 42 (by decide) (by decide))
  rw [show (exK4.open ⟨#[98]⟩ 1).2.2 = exK5 from rfl, ex6.1, ex6.2] at H6
  clear hK6 hO6 hT6
  go_wp2_with fail
  refine H6.out.mono ?_
  rintro e w7 ⟨rfl, O7, hK7, hO7, hT7⟩
  have HO7 := hide (And.intro hO7 hT7)
  have H7 := hide (hK7.open ⟨#[98]⟩ 42 (by decide) (by decide))
  rw [show (exK5.open ⟨#[98]⟩ 42).2.2 = exK6 from rfl, ex7.1, ex7.2] at H7
  clear hK7 hO7 hT7
  go_wp2_with fail
  refine H7.out.mono ?_
  rintro e w8 ⟨rfl, O8, -, hO8, hT8⟩
  have HE : Hid ((convert 45 9 (.slice aa 2 ac)).run Tryz.prog w8 = .ok (.string ⟨#[104, 101]⟩) w8 ∧ (convert 45 9 (.slice ca 3 cc)).run Tryz.prog w8 = .ok (.string ⟨#[108, 108, 111]⟩) w8 ∧ Below w.heap.size w w8) := hide (by
    obtain ⟨o6, t6⟩ := HO6.out
    obtain ⟨o7, t7⟩ := HO7.out
    have t3 := HT3.out
    have t4 := HT4.out
    have t5 := HT5.out
    have z3 := t3.size
    have z4 := t4.size
    have z5 := t5.size
    have z6 := t6.size
    have z7 := t7.size
    have n6 : ∀ k, k < w5.heap.size → w2.heap.size ≤ k → ¬ O6 k := fun k h1 h2 e => by
      rcases o6 k e with e | e
      · exact absurd e.2 (by omega)
      · omega
    have n7 : ∀ k, k < w5.heap.size → w2.heap.size ≤ k → ¬ O7 k := fun k h1 h2 e => by
      rcases o7 k e with e | e
      · exact n6 k h1 h2 e
      · omega
    have la := HA.out.lt
    have lc := HC.out.lt
    have A4 := owns_turned HA.out t4 (fun k e => by have := la k e; omega)
    have A5 := owns_turned A4 t5 (fun k e => by have := la k e; omega)
    have A6 := owns_turned A5 t6 (fun k e => by have := la k e; omega)
    have A7 := owns_turned A6 t7 (fun k e => by have := la k e; exact n6 k (by omega) (by omega))
    have A8 := owns_turned A7 hT8 (fun k e => by have := la k e; exact n7 k (by omega) (by omega))
    have C6 := owns_turned HC.out t6 (fun k e => by have := lc k e; omega)
    have C7 := owns_turned C6 t7 (fun k e => by have := lc k e; exact n6 k (by omega) (by omega))
    have C8 := owns_turned C7 hT8 (fun k e => by have := lc k e; exact n7 k (by omega) (by omega))
    have b6 : ∀ k, O6 k → w.heap.size ≤ k := fun k e => by
      rcases o6 k e with e | e
      · exact e.1
      · omega
    have b7 : ∀ k, O7 k → w.heap.size ≤ k := fun k e => by
      rcases o7 k e with e | e
      · exact b6 k e
      · omega
    refine ⟨owns_string (l := [104, 101]) A8, owns_string (l := [108, 108, 111]) C8, ?_⟩
    have B3 := HB2.out.trans (t3.below (fun k e => e.1) hs2)
    have B4 := B3.trans (t4.below (fun k e => e.1) B3.size)
    have B5 := B4.trans (t5.below (fun k e => e.1) B4.size)
    have B6 := B5.trans (t6.below (fun k e => e.1) B5.size)
    have B7 := B6.trans (t7.below b6 B6.size)
    exact B7.trans (hT8.below b7 B7.size))
  have q1 := HE.out.1
  have q2 := HE.out.2.1
  clear hO8 hT8
  go_wp2
  go_ret
  exact ⟨rfl, HE.out.2.2⟩
end Go.Proofs.YtdjddcmpffmehaaGreat

/- Bytes that came in as an argument: what a walk is told of them. -/
namespace Go.Proofs.YtdjddcmpffmehaaGreat
open Go.ChangeShapes Go.WideShapes Go.ChangeAt Go.RowKit

theorem bytes_arg {H : Type} {enc : TypeId × Value → H} {P : Program} {W : World} {base : Nat} {a : Option Addr} {len cap fuel t e : Nat} {d : DataW H} {p : List MemPlace}
    (ht : P.underlying t = some (.slice e)) (he : P.underlying e = some (.int .u8)) (hc : P.cellsOf e = 1)
    (hf : DataW.trod enc P W base (fun _ => true) true fuel t (Value.slice a len cap).cells.toList = some (d, p)) :
    ∃ l : List UInt8, Bys W (.slice a len cap) l ∧ ((d = .nil ∧ l = []) ∨ ∃ elems spare : List (DataW H), d = .slice elems spare ∧ l.length = elems.length) := by
  rcases open_ints ht he hc hf with ⟨hcs, hd⟩ | ⟨x, n, c, zs, hcs, _, hl, hm, hz, hx, hcell, hwz⟩
  · simp [Value.cells] at hcs
    obtain ⟨rfl, rfl, rfl⟩ := hcs
    exact ⟨[], .inl ⟨rfl, rfl⟩, .inl ⟨(Prod.mk.inj hd).1, rfl⟩⟩
  · simp [Value.cells] at hcs
    obtain ⟨rfl, rfl, rfl⟩ := hcs
    simp only [if_true] at hz
    have hlen : ((zs.take len).map fun n => UInt8.ofNat n.toNat).length = len := by rw [List.length_map, List.length_take]; omega
    refine ⟨(zs.take len).map fun n => UInt8.ofNat n.toNat, ?_, .inr ⟨_, _, (Prod.mk.inj hx).1, by simp [lits]⟩⟩
    by_cases h0 : len = 0
    · subst h0
      exact .inr (.inl ⟨x, cap, rfl, by simp⟩)
    · obtain ⟨b, off, spot⟩ := x
      have hspot : spot = none := by simpa [Addr.add] using World.cell?_spot (hcell 0 (by omega))
      subst hspot
      refine .inr (.inr ⟨b, off, cap, by rw [hlen], by rw [hlen]; omega, fun j hj => ?_⟩)
      rw [hlen] at hj
      have h1 := hcell j (by omega)
      have hadd : (⟨b, off, none⟩ : Addr).add j = ⟨b, off + j, none⟩ := by unfold Addr.add; split <;> simp_all
      rw [hadd] at h1
      rw [h1]
      have hjz : j < zs.length := by omega
      have hb := bounds_u8 (hwz zs[j] (List.getElem_mem hjz))
      simp only [List.getD_eq_getElem?_getD, List.getElem?_map, List.getElem?_take, if_pos hj, List.getElem?_eq_getElem hjz, Option.map_some, Option.getD_some]
      rw [UInt8.toNat_ofNat_of_lt' (by show _ < 256; omega), Int.toNat_of_nonneg hb.1]

theorem one_le {H : Type} (d : DataW H) : 1 ≤ Rows.uptoBulk d := by
  cases d with
  | lit l => cases l <;> simp [Rows.uptoBulk]
  | nil => simp [Rows.uptoBulk]
  | ptr d => simp [Rows.uptoBulk]
  | slice elems spare => simp [Rows.uptoBulk]
  | agg parts => simp [Rows.uptoBulk]
  | iface t d => simp [Rows.uptoBulk]
  | map entries => simp [Rows.uptoBulk]
  | held h => simp [Rows.uptoBulk]
theorem bulk_length {H : Type} (l : List (DataW H)) : l.length ≤ Rows.uptoBulkAll l := by
  induction l with
  | nil => simp [Rows.uptoBulkAll]
  | cons x r ih => have := one_le x; simp only [Rows.uptoBulkAll, List.length_cons]; omega
theorem bulk_slice {H : Type} (elems spare : List (DataW H)) : elems.length + 1 ≤ Rows.uptoBulk (.slice elems spare) := by
  have h1 := bulk_length elems
  simp only [Rows.uptoBulk]
  omega
end Go.Proofs.YtdjddcmpffmehaaGreat

/- Bytes, and steps, that came in as an argument: what a walk is told of them. -/
namespace Go.Proofs.YtdjddcmpffmehaaGreat
open Go.ChangeShapes Go.WideShapes Go.ChangeAt Go.RowKit Go.Deep

/-- A step: what, n, which side, data. -/
abbrev Kp_Stp := Int × Int × Bool × List UInt8
theorem Kp_bys_len {W : World} {a : Option Addr} {n c : Nat} {l : List UInt8} (h : Bys W (.slice a n c) l) : n = l.length := by
  obtain ⟨a', c', he, _⟩ := bys_form h
  cases he
  rfl
theorem bytes_arg2 {H : Type} {enc : TypeId × Value → H} {P : Program} {W : World} {base : Nat} {a : Option Addr} {len cap fuel t e : Nat} {d : DataW H} {p : List MemPlace}
    (ht : P.underlying t = some (.slice e)) (he : P.underlying e = some (.int .u8)) (hc : P.cellsOf e = 1)
    (hf : DataW.trod enc P W base (fun _ => true) true fuel t (Value.slice a len cap).cells.toList = some (d, p)) :
    ∃ l : List UInt8, Bys W (.slice a len cap) l ∧ l.length ≤ cap ∧ ((d = .nil ∧ l = []) ∨ ∃ elems spare : List (DataW H), d = .slice elems spare ∧ l.length = elems.length) := by
  rcases open_ints ht he hc hf with ⟨hcs, hd⟩ | ⟨x, n, c, zs, hcs, _, hl, hm, hz, hx, hcell, hwz⟩
  · simp [Value.cells] at hcs
    obtain ⟨rfl, rfl, rfl⟩ := hcs
    exact ⟨[], .inl ⟨rfl, rfl⟩, by simp, .inl ⟨(Prod.mk.inj hd).1, rfl⟩⟩
  · simp [Value.cells] at hcs
    obtain ⟨rfl, rfl, rfl⟩ := hcs
    simp only [if_true] at hz
    have hlen : ((zs.take len).map fun n => UInt8.ofNat n.toNat).length = len := by rw [List.length_map, List.length_take]; omega
    refine ⟨(zs.take len).map fun n => UInt8.ofNat n.toNat, ?_, by rw [hlen]; exact hl, .inr ⟨_, _, (Prod.mk.inj hx).1, by simp [lits]⟩⟩
    by_cases h0 : len = 0
    · subst h0
      exact .inr (.inl ⟨x, cap, rfl, by simp⟩)
    · obtain ⟨b, off, spot⟩ := x
      have hspot : spot = none := by simpa [Addr.add] using World.cell?_spot (hcell 0 (by omega))
      subst hspot
      refine .inr (.inr ⟨b, off, cap, by rw [hlen], by rw [hlen]; omega, fun j hj => ?_⟩)
      rw [hlen] at hj
      have h1 := hcell j (by omega)
      have hadd : (⟨b, off, none⟩ : Addr).add j = ⟨b, off + j, none⟩ := by unfold Addr.add; split <;> simp_all
      rw [hadd] at h1
      rw [h1]
      have hjz : j < zs.length := by omega
      have hb := bounds_u8 (hwz zs[j] (List.getElem_mem hjz))
      simp only [List.getD_eq_getElem?_getD, List.getElem?_map, List.getElem?_take, if_pos hj, List.getElem?_eq_getElem hjz, Option.map_some, Option.getD_some]
      rw [UInt8.toNat_ofNat_of_lt' (by show _ < 256; omega), Int.toNat_of_nonneg hb.1]



/-- How a slice of bytes inside a datum is told. -/
def Kp_DataOf {H : Type} (d : DataW H) (x : List UInt8) : Prop := (d = .nil ∧ x = []) ∨ ∃ elems spare : List (DataW H), d = .slice elems spare ∧ x.length = elems.length

theorem Kp_step_cells {H : Type} {enc : TypeId × Value → H} {P : Program} {W : World} {base : Nat} {fuel e u : Nat} {f0 f1 f2 f3 : Field} {cs : List Value} {d : DataW H} {p : List MemPlace}
    (he : P.underlying e = some (.struct #[f0, f1, f2, f3])) (ce : P.cellsOf e = 4) (o0 : f0.offset = 0) (o1 : f1.offset = 1) (o2 : f2.offset = 2) (o3 : f3.offset = 3)
    (c0 : P.cellsOf f0.type = 1) (c1 : P.cellsOf f1.type = 1) (c2 : P.cellsOf f2.type = 1) (c3 : P.cellsOf f3.type = 1)
    (t0 : P.underlying f0.type = some (.int .i64)) (t1 : P.underlying f1.type = some (.int .i64)) (t2 : P.underlying f2.type = some .bool) (t3 : P.underlying f3.type = some (.slice u)) (tu : P.underlying u = some (.int .u8)) (cu : P.cellsOf u = 1)
    (h : DataW.trod enc P W base (fun _ => true) true fuel e cs = some (d, p)) :
    ∃ (x : Kp_Stp) (va : Option Addr) (vc : Nat) (d3 : DataW H), cs = [.int .i64 x.1, .int .i64 x.2.1, .bool x.2.2.1, .slice va x.2.2.2.length vc] ∧ (Bys W (.slice va x.2.2.2.length vc) x.2.2.2 ∧ x.2.2.2.length ≤ vc) ∧ (∃ x0 x1 x2, d = .agg [x0, x1, x2, d3]) ∧ Kp_DataOf d3 x.2.2.2 := by
  obtain ⟨xs, k, hk, hxy, hcl, hxl, hf⟩ := DataW.trod_struct he h
  rw [ce] at hcl
  match xs, hxl, cs, hcl with
  | [y0, y1, y2, y3], _, [v0, v1, v2, v3], _ =>
    have g0 := hf 0 f0 rfl
    have g1 := hf 1 f1 rfl
    have g2 := hf 2 f2 rfl
    have g3 := hf 3 f3 rfl
    simp [o0, c0] at g0
    simp [o1, c1] at g1
    simp [o2, c2] at g2
    simp [o3, c3] at g3
    obtain ⟨a, ha, _⟩ := DataW.trod_int t0 g0
    obtain ⟨b, hb, _⟩ := DataW.trod_int t1 g1
    obtain ⟨c, hc, _⟩ := DataW.trod_bool t2 g2
    obtain rfl : v0 = .int .i64 a := by simpa using ha
    obtain rfl : v1 = .int .i64 b := by simpa using hb
    obtain rfl : v2 = .bool c := by simpa using hc
    obtain ⟨va, vl, vc, rfl⟩ : ∃ va vl vc, v3 = .slice va vl vc := by
      rcases DataW.trod_slice t3 g3 with ⟨h0, _⟩ | ⟨x, len, cap, _, _, _, _, h0, _⟩
      · exact ⟨_, _, _, by simpa using h0⟩
      · exact ⟨_, _, _, by simpa using h0⟩
    obtain ⟨y3a, y3b⟩ := y3
    obtain ⟨l, hl, hlc, hd⟩ := bytes_arg2 t3 tu cu (by simpa [Value.cells] using g3)
    obtain rfl := Kp_bys_len hl
    simp only [Prod.mk.injEq] at hxy
    exact ⟨(a, b, c, l), va, vc, y3a, rfl, ⟨hl, hlc⟩, ⟨_, _, _, by simpa using hxy.1⟩, hd⟩

/-- The slice value v holds the steps l. -/
def Kp_Stps (W : World) (v : Value) (l : List Kp_Stp) : Prop :=
  ∃ a c, v = .slice a l.length c ∧ (0 < l.length → ∃ b off, a = some ⟨b, off, none⟩ ∧ ∀ j (hj : j < l.length), ∃ va vc,
    W.cell? ⟨b, off + j * 4, none⟩ = some (.int .i64 l[j].1) ∧ W.cell? ⟨b, off + j * 4 + 1, none⟩ = some (.int .i64 l[j].2.1) ∧ W.cell? ⟨b, off + j * 4 + 2, none⟩ = some (.bool l[j].2.2.1) ∧ W.cell? ⟨b, off + j * 4 + 3, none⟩ = some (.slice va l[j].2.2.2.length vc) ∧ Bys W (.slice va l[j].2.2.2.length vc) l[j].2.2.2 ∧ l[j].2.2.2.length ≤ vc)

theorem Kp_stps_arg {H : Type} {enc : TypeId × Value → H} {P : Program} {W : World} {base : Nat} {a : Option Addr} {len cap fuel t e u : Nat} {f0 f1 f2 f3 : Field} {d : DataW H} {p : List MemPlace}
    (ht : P.underlying t = some (.slice e)) (he : P.underlying e = some (.struct #[f0, f1, f2, f3])) (ce : P.cellsOf e = 4) (o0 : f0.offset = 0) (o1 : f1.offset = 1) (o2 : f2.offset = 2) (o3 : f3.offset = 3)
    (c0 : P.cellsOf f0.type = 1) (c1 : P.cellsOf f1.type = 1) (c2 : P.cellsOf f2.type = 1) (c3 : P.cellsOf f3.type = 1)
    (t0 : P.underlying f0.type = some (.int .i64)) (t1 : P.underlying f1.type = some (.int .i64)) (t2 : P.underlying f2.type = some .bool) (t3 : P.underlying f3.type = some (.slice u)) (tu : P.underlying u = some (.int .u8)) (cu : P.cellsOf u = 1)
    (hf : DataW.trod enc P W base (fun _ => true) true fuel t (Value.slice a len cap).cells.toList = some (d, p)) :
    ∃ l : List Kp_Stp, Kp_Stps W (.slice a len cap) l ∧ ((d = .nil ∧ l = []) ∨ ∃ elems spare : List (DataW H), d = .slice elems spare ∧ l.length = elems.length ∧ ∀ i (hi : i < l.length), ∃ x0 x1 x2 d3, DataW.agg [x0, x1, x2, d3] ∈ elems ∧ Kp_DataOf d3 l[i].2.2.2) := by
  rcases open_slice ht hf with ⟨hcs, hd⟩ | ⟨x, n, c, m, k, D, Pl, hcs, _, hl, hm, hmm, hx, hel⟩
  · simp [Value.cells] at hcs
    obtain ⟨rfl, rfl, rfl⟩ := hcs
    exact ⟨[], ⟨_, _, rfl, fun h => absurd h (by decide)⟩, .inl ⟨(Prod.mk.inj hd).1, rfl⟩⟩
  · simp [Value.cells] at hcs
    obtain ⟨rfl, rfl, rfl⟩ := hcs
    simp only [if_true] at hmm
    subst hmm
    have each : ∀ i, i < len → ∃ s : Kp_Stp, ∃ va vc, (∃ x0 x1 x2 d3, D i = .agg [x0, x1, x2, d3] ∧ Kp_DataOf d3 s.2.2.2) ∧
        W.cell? ((x.add (i * 4)).add 0) = some (.int .i64 s.1) ∧ W.cell? ((x.add (i * 4)).add 1) = some (.int .i64 s.2.1) ∧ W.cell? ((x.add (i * 4)).add 2) = some (.bool s.2.2.1) ∧ W.cell? ((x.add (i * 4)).add 3) = some (.slice va s.2.2.2.length vc) ∧ Bys W (.slice va s.2.2.2.length vc) s.2.2.2 ∧ s.2.2.2.length ≤ vc := by
      intro i hi
      obtain ⟨cs', h1, h2⟩ := hel i (by omega)
      rw [ce] at h1
      obtain ⟨_, hlen, hcell⟩ := World.cells?_some h1
      obtain ⟨s, va, vc, d3, rfl, hb, ⟨x0, x1, x2, hD⟩, hO⟩ := Kp_step_cells he ce o0 o1 o2 o3 c0 c1 c2 c3 t0 t1 t2 t3 tu cu h2
      exact ⟨s, va, vc, ⟨x0, x1, x2, d3, hD, hO⟩, by simpa using hcell 0 (by omega), by simpa using hcell 1 (by omega), by simpa using hcell 2 (by omega), by simpa using hcell 3 (by omega), hb⟩
    obtain ⟨s, hs⟩ := choose_lt each
    refine ⟨(List.range len).map s, ⟨some x, m, by simp, fun h0 => ?_⟩, .inr ⟨_, _, (Prod.mk.inj hx).1, by simp, fun i hi => ?_⟩⟩
    · have h0' : 0 < len := by simpa using h0
      obtain ⟨b, off, spot⟩ := x
      obtain ⟨_, _, _, q0, _⟩ := hs 0 h0'
      have hspot : spot = none := by simpa [Addr.add] using World.cell?_spot q0
      subst hspot
      refine ⟨b, off, rfl, fun j hj => ?_⟩
      have hj' : j < len := by simpa using hj
      obtain ⟨va, vc, _, q0, q1, q2, q3, hb⟩ := hs j hj'
      have hadd : ∀ o k, (⟨b, o, none⟩ : Addr).add k = ⟨b, o + k, none⟩ := fun o k => by unfold Addr.add; split <;> simp_all
      rw [hadd, hadd] at q0 q1 q2 q3
      simp only [List.getElem_map, List.getElem_range]
      exact ⟨va, vc, by simpa using q0, q1, q2, q3, hb⟩
    · have hi' : i < len := by simpa using hi
      obtain ⟨va, vc, ⟨x0, x1, x2, d3, hD, hO⟩, _⟩ := hs i hi'
      refine ⟨x0, x1, x2, d3, ?_, by simpa using hO⟩
      rw [← hD]
      exact List.mem_map.2 ⟨i, by simpa using hi', rfl⟩

theorem Kp_weightsAll_mem {H : Type} {P : Program} {e : TypeId} : ∀ {l : List (DataW H)} {d : DataW H}, d ∈ l → ∀ n ∈ d.weights P e, n ∈ DataW.weightsAll P e l
  | d' :: r, d, hd, n, hn => by
    simp only [DataW.weightsAll, List.mem_append]
    rcases List.mem_cons.1 hd with rfl | h
    · exact Or.inl hn
    · exact Or.inr (Kp_weightsAll_mem h n hn)
theorem Kp_step_weight {H : Type} {P : Program} {e u : TypeId} {f0 f1 f2 f3 : Field} {x0 x1 x2 d3 : DataW H} {x : List UInt8} (he : P.underlying e = some (.struct #[f0, f1, f2, f3])) (t3 : P.underlying f3.type = some (.slice u)) (bu : P.bytesOf u = 1)
    (hO : Kp_DataOf d3 x) (h : ∀ n ∈ (DataW.agg [x0, x1, x2, d3]).weights P e, n ≤ reachBytes) : x.length ≤ 140737488351232 := by
  rcases hO with ⟨_, rfl⟩ | ⟨elems, spare, rfl, hl⟩
  · simp
  · have := h ((elems.length + spare.length) * P.bytesOf u) (by simp [DataW.weights, DataW.weightsEach, he, t3])
    rw [bu] at this
    simp only [reachBytes] at this
    omega
/-- The reach, of the data of each step. -/
theorem Kp_sized_steps {H : Type} {P : Program} {ts : List TypeId} {ds : List (DataW H)} (h : (DataW.weightsEach P ts ds).all (· ≤ reachBytes) = true) {j : Nat} {t e u : TypeId} {f0 f1 f2 f3 : Field} {x0 x1 x2 d3 : DataW H} {elems spare : List (DataW H)} {x : List UInt8}
    (ht : ts[j]? = some t) (hd : ds[j]? = some (.slice elems spare)) (hu : P.underlying t = some (.slice e)) (hm : DataW.agg [x0, x1, x2, d3] ∈ elems) (he : P.underlying e = some (.struct #[f0, f1, f2, f3])) (t3 : P.underlying f3.type = some (.slice u)) (bu : P.bytesOf u = 1) (hO : Kp_DataOf d3 x) : x.length ≤ 140737488351232 :=
  Kp_step_weight he t3 bu hO fun n hn => of_decide_eq_true (List.all_eq_true.1 h _ (DataW.weights_mem_each ht hd n (by
    simp only [DataW.weights, hu, List.mem_cons, List.mem_append]
    exact Or.inr (Or.inl (Kp_weightsAll_mem hm n hn)))))
theorem bulkAll_mem {H : Type} : ∀ {l : List (DataW H)} {d : DataW H}, d ∈ l → Rows.uptoBulk d ≤ Rows.uptoBulkAll l
  | d' :: r, d, hd => by
    simp only [Rows.uptoBulkAll]
    rcases List.mem_cons.1 hd with rfl | h
    · omega
    · have := bulkAll_mem h; omega
/-- The bulk, of the data of each step. -/
theorem bulk_steps {H : Type} {elems spare : List (DataW H)} {x0 x1 x2 d3 : DataW H} {x : List UInt8} (hm : DataW.agg [x0, x1, x2, d3] ∈ elems) (hO : Kp_DataOf d3 x) : x.length ≤ Rows.uptoBulk (.slice elems spare) := by
  have h1 := bulkAll_mem hm
  simp only [Rows.uptoBulk, Rows.uptoBulkAll] at h1
  have h2 : Rows.uptoBulkAll elems ≤ Rows.uptoBulk (.slice elems spare) := by simp only [Rows.uptoBulk]; omega
  rcases hO with ⟨_, rfl⟩ | ⟨es, sp, rfl, hl⟩
  · simp
  · have := bulk_slice es sp
    omega
theorem stps_form {W : World} {v : Value} {l : List Kp_Stp} (h : Kp_Stps W v l) : ∃ a c, v = .slice a l.length c := by
  obtain ⟨a, c, rfl, _⟩ := h
  exact ⟨a, c, rfl⟩
/-- Step j of the steps l, in any later world. -/
theorem Kp_stps_at {W W' : World} {a : Option Addr} {n c : Nat} {l : List Kp_Stp} (h : Kp_Stps W (.slice a n c) l) (hB : Below W.heap.size W W') (j : Nat) (hj : j < l.length) :
    ∃ b off va vc, a = some ⟨b, off, none⟩ ∧ b < W.heap.size ∧ W'.cell? ⟨b, off + j * 4, none⟩ = some (.int .i64 l[j].1) ∧ W'.cell? ⟨b, off + j * 4 + 1, none⟩ = some (.int .i64 l[j].2.1) ∧ W'.cell? ⟨b, off + j * 4 + 2, none⟩ = some (.bool l[j].2.2.1) ∧
      W'.cell? ⟨b, off + j * 4 + 3, none⟩ = some (.slice va l[j].2.2.2.length vc) ∧ Bys W (.slice va l[j].2.2.2.length vc) l[j].2.2.2 ∧ l[j].2.2.2.length ≤ vc := by
  obtain ⟨a', c', he, hc⟩ := h
  cases he
  obtain ⟨b, off, rfl, hd⟩ := hc (by omega)
  obtain ⟨va, vc, h0, h1, h2, h3, h4, h5⟩ := hd j hj
  have hb := World.block_lt_of_cell? W _ h0
  exact ⟨b, off, va, vc, rfl, hb, (hB.cell (p := ⟨b, off + j * 4, none⟩) hb).trans h0, (hB.cell (p := ⟨b, off + j * 4 + 1, none⟩) hb).trans h1, (hB.cell (p := ⟨b, off + j * 4 + 2, none⟩) hb).trans h2, (hB.cell (p := ⟨b, off + j * 4 + 3, none⟩) hb).trans h3, h4, h5⟩
end Go.Proofs.YtdjddcmpffmehaaGreat

/- What the proof stands on, part 9: the contracts of the program's calls that it reaches. -/
import Derived.Test.YtkkommomefmpgaaGreatKQ8
/- The program's kernel: Write, walked. -/
namespace Go.Proofs.YtkkommomefmpgaaGreat
open Go.RowKit Go.Maps

theorem PNum.done {w w1 w4 : World} {ρ : Nat → Option PTag} {I I1 : PI} {r : Int × Int × KS} (hT : Turned (Own ρ) w w1) (hk : I1.kb = I.kb) {e : Ending} (h : PNum ρ I1 w1 r e w4) : PNum ρ I w r e w4 := ⟨h.1, h.2.after hT hk⟩
set_option maxRecDepth 100000 in
set_option maxHeartbeats 4000000 in
theorem kwrite_any (ρ : Nat → Option PTag) (I : PI) (K : KS) (d : Int) (bs : List UInt8) (a1 : Option Addr) (cx : Nat) (w : World) (h : PK w ρ I K) (hd : I64 d) (hr : K.writes < 9223372036854775807)
    (hb : Bys w (.slice a1 bs.length cx) bs) (hcap : bs.length ≤ cx) (hbig : bs.length ≤ 9223372036854775807) (hap : 0 < bs.length → ∀ k, (Value.slice a1 bs.length cx).ownBlock = some k → ¬ Own ρ k) :
    Calls Tryz.prog 53 #[.pointer (some ⟨I.kb, 0, none⟩), .int .i64 d, .slice a1 bs.length cx] w (PNum ρ I w (K.write d bs)) := by
  have HF := hide (described_any ρ I K d w h hd)
  have HX := hide fun E => PNum.refused h (Below.refl _ w) E
  have HK := hide h
  cases hx : K.find d with
  | none =>
    rw [hx] at HF
    rw [show K.write d bs = (0, 64, K) by unfold KS.write; rw [hx]]
    clear h HK hb hap
    go_enter Tryz.func53, Tryz.ntmps53
    go_wp2_with fail
    refine HF.out.mono ?_
    rintro e w1 ⟨rfl, rfl⟩
    unfold descV
    go_wp2
    go_ret2
    exact HX.out 64
  | some x =>
    rw [hx] at HF
    have hm := (KS.find_some hx).1
    have hdc := h.desc hm
    have c0 := hdc.thing
    have c1 := hdc.writes
    by_cases hf : fbit x.flags 2 = 0
    · rw [show K.write d bs = (0, 65, K) by unfold KS.write; rw [hx]; simp only; rw [if_pos hf]]
      rw [bit_no hf] at c1
      clear h hdc HK hb hap
      go_enter Tryz.func53, Tryz.ntmps53
      go_wp2_with fail
      refine HF.out.mono ?_
      rintro e w1 ⟨rfl, rfl⟩
      unfold descV
      go_wp2
      go_ret2
      exact HX.out 65
    · rw [bit_yes hf] at c1
      by_cases hn : 1048576 < bs.length
      · rw [show K.write d bs = (0, 5, K) by unfold KS.write; rw [hx]; simp only; rw [if_neg hf, if_pos hn]]
        have hn' : (1048576 : Int) < (bs.length : Int) := by omega
        clear h hdc HK hb hap
        go_enter Tryz.func53, Tryz.ntmps53
        go_wp2_with fail
        refine HF.out.mono ?_
        rintro e w1 ⟨rfl, rfl⟩
        unfold descV
        go_wp2
        go_ret2
        exact HX.out 5
      · by_cases hz : bs.length = 0
        · rw [show K.write d bs = (0, 0, K) by unfold KS.write; rw [hx]; simp only; rw [if_neg hf, if_neg hn, if_pos hz]]
          obtain rfl := List.length_eq_zero_iff.1 hz
          clear h hdc HK hb hap
          simp only [List.length_nil]
          go_enter Tryz.func53, Tryz.ntmps53
          go_wp2_with fail
          refine HF.out.mono ?_
          rintro e w1 ⟨rfl, rfl⟩
          unfold descV
          go_wp2
          go_ret2
          exact HX.out 0
        · have n1 : 1 ≤ bs.length := by omega
          have n2 : bs.length ≤ 1048576 := by omega
          have n3 : ¬ (1048576 : Int) < (bs.length : Int) := by omega
          have n4 : (1 : Int) ≤ (bs.length : Int) := by omega
          have n5 : (bs.length : Int) ≤ 1048576 := by omega
          have n6 : ¬ (bs.length : Int) = 0 := by omega
          have n7 : ((bs.length : Int) == 0) = false := by simpa using n6
          obtain ⟨pr, hpr⟩ : ∃ pr, pr = nxt K.plan bs.length := ⟨_, rfl⟩
          have HG : Hid (pr.2 = 0 → ∃ m : Nat, pr.1 = m ∧ 1 ≤ m ∧ m ≤ bs.length) := hide (fun e => by rw [hpr] at e ⊢; have := nxt_good h.ok.plan n4 n5 e; exact ⟨(nxt K.plan bs.length).1.toNat, by omega, by omega, by omega⟩)
          have HN := hide fun W I' K' (hW : PK W ρ I' K') (hpl : K'.plan = K.plan) => by
            have := knext_any ρ I' K' bs.length W hW n4 n5
            rw [hpl, ← hpr] at this
            exact this
          have HB := hide (And.intro hb (And.intro hcap (hap (by omega))))
          have HO := hide (h.pobj hm)
          clear hdc hb hap
          cases ho : K.tho x with
          | file b =>
            obtain ⟨RF, hRF⟩ : ∃ RF : Int, RF = (if plc b (bit x.flags 4) x.pos = 1048576 then 31 else 0) := ⟨_, rfl⟩
            have HRf := hide (of_refuses (I.xb x.n) (I.ob x.th) b x.pos (bit x.flags 4) bs.length _ w (h.comp (.ofile x.n) x hm rfl b ho).1 (by have := HO.out; rw [ho] at this; exact this))
            rw [← hRF] at HRf
            have hRF2 : refusal (K.tho x) x.flags x.pos bs.length = RF := by rw [ho, hRF]; rfl
            clear hRF
            have HT0 := hide ho
            rw [thing_file ho] at c0
            have hmw := mf_refuses (I.xb x.n)
            have hmr := mf_write (I.xb x.n)
            by_cases hz2 : RF = 0
            · rw [write_is hx hf n1 n2 (hRF2.trans hz2), ← hpr]
              subst hz2
              clear h HX hpr
              obtain ⟨pr1, pr2⟩ := pr
              simp only at HG HN ⊢
              by_cases he : pr2 = 0
              · subst he
                rw [if_pos rfl]
                obtain ⟨M, hM, hM1, hM2⟩ := HG.out (by first | rfl | trivial)
                subst hM
                go_enter Tryz.func53, Tryz.ntmps53
                go_wp2_with fail
                refine HF.out.mono ?_
                rintro e w1 ⟨rfl, rfl⟩
                unfold descV
                go_wp2_with fail
                refine HRf.out.mono ?_
                rintro e w1' ⟨rfl, rfl⟩
                have hP1 := HK.out
                have HT1 := hide (Turned.refl (Own ρ) w1')
                have HP2 := hide hP1.writeUp
                have c6 := hP1.cells.writes
                have c6s : w1'.frozen? ⟨I.kb, 7, none⟩ = false := frozen_of_row w1' I.kb 7 _ _ (hP1.comp .kern).1
                have c5 := HP2.out.1.cells.plan
                have d2 := (HP2.out.1.desc (x := x) hm).thing
                clear hP1
                go_wp2_with fail
                generalize hw2 : w1'.setCell ⟨I.kb, 7, none⟩ (.int .i64 ((K.writes : Int) + 1)) = w2 at *
                refine (HN.out w2 I _ HP2.out.1 rfl).mono ?_
                rintro e w3 ⟨rfl, v', hP3, hT3⟩
                have hT13 := (HT1.out.trans HP2.out.2 (fun _ _ e => e)).trans hT3 (fun _ _ e => e)
                have hbw : Bys w3 (.slice a1 bs.length cx) bs := HB.out.1.turned hT13 (fun k e _ => HB.out.2.2 k e)
                have c7 := (hP3.desc (x := x) hm).thing
                rw [thing_file (K := { K with writes := K.writes + 1, plan := K.plan.tail }) ho] at c7
                simp only at c7
                go_wp2_with fail
                refine (xwrite_file ρ _ _ x b bs M a1 cx w3 hP3 hm ho hbw HB.out.2.1 hM1 hM2 n2 HB.out.2.2).mono ?_
                rintro e w4 hN4
                obtain rfl := hN4.1
                have HS := hide hN4
                clear hN4
                go_wp2
                go_ret2
                exact PNum.done hT13 rfl HS.out
              · rw [if_neg he]
                have he2 : (pr2 == 0) = false := by simpa using he
                go_enter Tryz.func53, Tryz.ntmps53
                go_wp2_with fail
                refine HF.out.mono ?_
                rintro e w1 ⟨rfl, rfl⟩
                unfold descV
                go_wp2_with fail
                refine HRf.out.mono ?_
                rintro e w1' ⟨rfl, rfl⟩
                have hP1 := HK.out
                have HT1 := hide (Turned.refl (Own ρ) w1')
                have HP2 := hide hP1.writeUp
                have c6 := hP1.cells.writes
                have c6s : w1'.frozen? ⟨I.kb, 7, none⟩ = false := frozen_of_row w1' I.kb 7 _ _ (hP1.comp .kern).1
                have c5 := HP2.out.1.cells.plan
                have d2 := (HP2.out.1.desc (x := x) hm).thing
                clear hP1
                go_wp2_with fail
                generalize hw2 : w1'.setCell ⟨I.kb, 7, none⟩ (.int .i64 ((K.writes : Int) + 1)) = w2 at *
                refine (HN.out w2 I _ HP2.out.1 rfl).mono ?_
                rintro e w3 ⟨rfl, v', hP3, hT3⟩
                have hT13 := (HT1.out.trans HP2.out.2 (fun _ _ e => e)).trans hT3 (fun _ _ e => e)
                have HP3 := hide hP3
                clear hP3
                go_wp2
                go_ret2
                exact ⟨rfl, PNext.of HP3.out rfl hT13⟩
            · have hne : ¬ refusal (K.tho x) x.flags x.pos bs.length = 0 := by rw [hRF2]; exact hz2
              rw [show K.write d bs = (0, RF, K) by unfold KS.write; rw [hx]; simp only; rw [if_neg hf, if_neg hn, if_neg hz, if_neg hne, hRF2]]
              have hz3 : (RF == 0) = false := by simpa using hz2
              clear h HX hpr HG HN hne
              go_enter Tryz.func53, Tryz.ntmps53
              go_wp2_with fail
              refine HF.out.mono ?_
              rintro e w1 ⟨rfl, rfl⟩
              unfold descV
              go_wp2_with fail
              refine HRf.out.mono ?_
              rintro e w1' ⟨rfl, rfl⟩
              go_wp2
              go_ret2
              exact PNum.refused HK.out (Below.refl _ _) RF
          | term ls scr =>
            obtain ⟨RF, hRF⟩ : ∃ RF : Int, RF = (if scr.length = 1048576 then 31 else 0) := ⟨_, rfl⟩
            have HRf := hide (co_refuses (I.cb x.th) (I.ob x.th) scr.length bs.length w (h.comp (.cons x.th) (h.ok.th x hm) ls scr (by rw [← KS.tho_eq (h.ok.th x hm)]; exact ho)).1)
            rw [← hRF] at HRf
            have hRF2 : refusal (K.tho x) x.flags x.pos bs.length = RF := by rw [ho, hRF]; rfl
            clear hRF
            have HT0 := hide ho
            rw [thing_term ho] at c0
            have hmw := mt_refuses (I.cb x.th)
            have hmr := mt_write (I.cb x.th)
            by_cases hz2 : RF = 0
            · rw [write_is hx hf n1 n2 (hRF2.trans hz2), ← hpr]
              subst hz2
              clear h HX hpr
              obtain ⟨pr1, pr2⟩ := pr
              simp only at HG HN ⊢
              by_cases he : pr2 = 0
              · subst he
                rw [if_pos rfl]
                obtain ⟨M, hM, hM1, hM2⟩ := HG.out (by first | rfl | trivial)
                subst hM
                go_enter Tryz.func53, Tryz.ntmps53
                go_wp2_with fail
                refine HF.out.mono ?_
                rintro e w1 ⟨rfl, rfl⟩
                unfold descV
                go_wp2_with fail
                refine HRf.out.mono ?_
                rintro e w1' ⟨rfl, rfl⟩
                have hP1 := HK.out
                have HT1 := hide (Turned.refl (Own ρ) w1')
                have HP2 := hide hP1.writeUp
                have c6 := hP1.cells.writes
                have c6s : w1'.frozen? ⟨I.kb, 7, none⟩ = false := frozen_of_row w1' I.kb 7 _ _ (hP1.comp .kern).1
                have c5 := HP2.out.1.cells.plan
                have d2 := (HP2.out.1.desc (x := x) hm).thing
                clear hP1
                go_wp2_with fail
                generalize hw2 : w1'.setCell ⟨I.kb, 7, none⟩ (.int .i64 ((K.writes : Int) + 1)) = w2 at *
                refine (HN.out w2 I _ HP2.out.1 rfl).mono ?_
                rintro e w3 ⟨rfl, v', hP3, hT3⟩
                have hT13 := (HT1.out.trans HP2.out.2 (fun _ _ e => e)).trans hT3 (fun _ _ e => e)
                have hbw : Bys w3 (.slice a1 bs.length cx) bs := HB.out.1.turned hT13 (fun k e _ => HB.out.2.2 k e)
                have c7 := (hP3.desc (x := x) hm).thing
                rw [thing_term (K := { K with writes := K.writes + 1, plan := K.plan.tail }) ho] at c7
                simp only at c7
                go_wp2_with fail
                refine (xwrite_term ρ _ _ x ls scr bs M a1 cx w3 hP3 hm ho hbw HB.out.2.1 hM1 hM2 n2 HB.out.2.2).mono ?_
                rintro e w4 hN4
                obtain rfl := hN4.1
                have HS := hide hN4
                clear hN4
                go_wp2
                go_ret2
                exact PNum.done hT13 rfl HS.out
              · rw [if_neg he]
                have he2 : (pr2 == 0) = false := by simpa using he
                go_enter Tryz.func53, Tryz.ntmps53
                go_wp2_with fail
                refine HF.out.mono ?_
                rintro e w1 ⟨rfl, rfl⟩
                unfold descV
                go_wp2_with fail
                refine HRf.out.mono ?_
                rintro e w1' ⟨rfl, rfl⟩
                have hP1 := HK.out
                have HT1 := hide (Turned.refl (Own ρ) w1')
                have HP2 := hide hP1.writeUp
                have c6 := hP1.cells.writes
                have c6s : w1'.frozen? ⟨I.kb, 7, none⟩ = false := frozen_of_row w1' I.kb 7 _ _ (hP1.comp .kern).1
                have c5 := HP2.out.1.cells.plan
                have d2 := (HP2.out.1.desc (x := x) hm).thing
                clear hP1
                go_wp2_with fail
                generalize hw2 : w1'.setCell ⟨I.kb, 7, none⟩ (.int .i64 ((K.writes : Int) + 1)) = w2 at *
                refine (HN.out w2 I _ HP2.out.1 rfl).mono ?_
                rintro e w3 ⟨rfl, v', hP3, hT3⟩
                have hT13 := (HT1.out.trans HP2.out.2 (fun _ _ e => e)).trans hT3 (fun _ _ e => e)
                have HP3 := hide hP3
                clear hP3
                go_wp2
                go_ret2
                exact ⟨rfl, PNext.of HP3.out rfl hT13⟩
            · have hne : ¬ refusal (K.tho x) x.flags x.pos bs.length = 0 := by rw [hRF2]; exact hz2
              rw [show K.write d bs = (0, RF, K) by unfold KS.write; rw [hx]; simp only; rw [if_neg hf, if_neg hn, if_neg hz, if_neg hne, hRF2]]
              have hz3 : (RF == 0) = false := by simpa using hz2
              clear h HX hpr HG HN hne
              go_enter Tryz.func53, Tryz.ntmps53
              go_wp2_with fail
              refine HF.out.mono ?_
              rintro e w1 ⟨rfl, rfl⟩
              unfold descV
              go_wp2_with fail
              refine HRf.out.mono ?_
              rintro e w1' ⟨rfl, rfl⟩
              go_wp2
              go_ret2
              exact PNum.refused HK.out (Below.refl _ _) RF
          | pipe q rd wt =>
            obtain ⟨RF, hRF⟩ : ∃ RF : Int, RF = (if rd = 0 then 53 else if canW bs.length q.length rd wt = false then 52 else 0) := ⟨_, rfl⟩
            have HRf := hide (pp_refuses (I.ob x.th) q rd wt bs.length w (by have := HO.out; rw [ho] at this; exact this.1))
            rw [← hRF] at HRf
            have hRF2 : refusal (K.tho x) x.flags x.pos bs.length = RF := by rw [ho, hRF]; rfl
            clear hRF
            have HT0 := hide ho
            rw [thing_pipe ho] at c0
            have hmw := mp_refuses (I.ob x.th)
            have hmr := mp_write (I.ob x.th)
            by_cases hz2 : RF = 0
            · rw [write_is hx hf n1 n2 (hRF2.trans hz2), ← hpr]
              subst hz2
              clear h HX hpr
              obtain ⟨pr1, pr2⟩ := pr
              simp only at HG HN ⊢
              by_cases he : pr2 = 0
              · subst he
                rw [if_pos rfl]
                obtain ⟨M, hM, hM1, hM2⟩ := HG.out (by first | rfl | trivial)
                subst hM
                go_enter Tryz.func53, Tryz.ntmps53
                go_wp2_with fail
                refine HF.out.mono ?_
                rintro e w1 ⟨rfl, rfl⟩
                unfold descV
                go_wp2_with fail
                refine HRf.out.mono ?_
                rintro e w1' ⟨rfl, hB⟩
                have hP1 := HK.out.under hB
                have HT1 := hide (Turned.of_below (S := Own ρ) hB)
                have HP2 := hide hP1.writeUp
                have c6 := hP1.cells.writes
                have c6s : w1'.frozen? ⟨I.kb, 7, none⟩ = false := frozen_of_row w1' I.kb 7 _ _ (hP1.comp .kern).1
                have c5 := HP2.out.1.cells.plan
                have d2 := (HP2.out.1.desc (x := x) hm).thing
                clear hP1
                go_wp2_with fail
                generalize hw2 : w1'.setCell ⟨I.kb, 7, none⟩ (.int .i64 ((K.writes : Int) + 1)) = w2 at *
                refine (HN.out w2 I _ HP2.out.1 rfl).mono ?_
                rintro e w3 ⟨rfl, v', hP3, hT3⟩
                have hT13 := (HT1.out.trans HP2.out.2 (fun _ _ e => e)).trans hT3 (fun _ _ e => e)
                have hbw : Bys w3 (.slice a1 bs.length cx) bs := HB.out.1.turned hT13 (fun k e _ => HB.out.2.2 k e)
                have c7 := (hP3.desc (x := x) hm).thing
                rw [thing_pipe (K := { K with writes := K.writes + 1, plan := K.plan.tail }) ho] at c7
                simp only at c7
                go_wp2_with fail
                refine (xwrite_pipe ρ _ _ x q rd wt bs M a1 cx w3 hP3 hm ho hbw HB.out.2.1 n2 HB.out.2.2).mono ?_
                rintro e w4 hN4
                obtain rfl := hN4.1
                have HS := hide hN4
                clear hN4
                go_wp2
                go_ret2
                exact PNum.done hT13 rfl HS.out
              · rw [if_neg he]
                have he2 : (pr2 == 0) = false := by simpa using he
                go_enter Tryz.func53, Tryz.ntmps53
                go_wp2_with fail
                refine HF.out.mono ?_
                rintro e w1 ⟨rfl, rfl⟩
                unfold descV
                go_wp2_with fail
                refine HRf.out.mono ?_
                rintro e w1' ⟨rfl, hB⟩
                have hP1 := HK.out.under hB
                have HT1 := hide (Turned.of_below (S := Own ρ) hB)
                have HP2 := hide hP1.writeUp
                have c6 := hP1.cells.writes
                have c6s : w1'.frozen? ⟨I.kb, 7, none⟩ = false := frozen_of_row w1' I.kb 7 _ _ (hP1.comp .kern).1
                have c5 := HP2.out.1.cells.plan
                have d2 := (HP2.out.1.desc (x := x) hm).thing
                clear hP1
                go_wp2_with fail
                generalize hw2 : w1'.setCell ⟨I.kb, 7, none⟩ (.int .i64 ((K.writes : Int) + 1)) = w2 at *
                refine (HN.out w2 I _ HP2.out.1 rfl).mono ?_
                rintro e w3 ⟨rfl, v', hP3, hT3⟩
                have hT13 := (HT1.out.trans HP2.out.2 (fun _ _ e => e)).trans hT3 (fun _ _ e => e)
                have HP3 := hide hP3
                clear hP3
                go_wp2
                go_ret2
                exact ⟨rfl, PNext.of HP3.out rfl hT13⟩
            · have hne : ¬ refusal (K.tho x) x.flags x.pos bs.length = 0 := by rw [hRF2]; exact hz2
              rw [show K.write d bs = (0, RF, K) by unfold KS.write; rw [hx]; simp only; rw [if_neg hf, if_neg hn, if_neg hz, if_neg hne, hRF2]]
              have hz3 : (RF == 0) = false := by simpa using hz2
              clear h HX hpr HG HN hne
              go_enter Tryz.func53, Tryz.ntmps53
              go_wp2_with fail
              refine HF.out.mono ?_
              rintro e w1 ⟨rfl, rfl⟩
              unfold descV
              go_wp2_with fail
              refine HRf.out.mono ?_
              rintro e w1' ⟨rfl, hB⟩
              go_wp2
              go_ret2
              exact PNum.refused HK.out hB RF
end Go.Proofs.YtkkommomefmpgaaGreat

/- The program's kernel within a set of blocks: each call. -/
namespace Go.Proofs.YtkkommomefmpgaaGreat
open Go.RowKit Go.Maps

theorem KAt.open {w : World} {O : Nat → Prop} {kb : Nat} {K : KS} (h : KAt w O kb K) (s : ByteArray) (flags : Int) (hs : s.size ≤ maxLen) (hl : K.next < 9223372036854775807) :
    Calls Tryz.prog 47 #[.pointer (some ⟨kb, 0, none⟩), .string s, .int .i64 flags] w fun e w' => e = .returned (.tuple #[.int .i64 (K.open s flags).1, .int .i64 (K.open s flags).2.1]) ∧ KStep w O kb (K.open s flags).2.2 w' := by
  obtain ⟨ρ, I, h1, rfl, h3⟩ := h
  exact (kopen_any ρ I K s flags w h1 hs hl).mono fun e w' ⟨a, b⟩ => ⟨a, b.step h3⟩
theorem KAt.read {w : World} {O : Nat → Prop} {kb : Nat} {K : KS} (h : KAt w O kb K) (d n : Int) (hd : I64 d) (hr : K.reads < 9223372036854775807) :
    Calls Tryz.prog 51 #[.pointer (some ⟨kb, 0, none⟩), .int .i64 d, .int .i64 n] w fun e w' => ∃ v, e = .returned (.tuple #[v, .int .i64 (K.read d n).2.1]) ∧ w'.ownsRow w.heap.size 5 1 v (K.read d n).1.length ((K.read d n).1.map bv) ∧ KAt w' O kb (K.read d n).2.2 ∧ Turned O w w' := by
  obtain ⟨ρ, I, h1, rfl, h3⟩ := h
  exact (kread_any ρ I K d n w h1 hd hr).mono fun e w' ⟨v, a, b, ρ', I', c1, c2, c3, c4⟩ => ⟨v, a, b, ⟨ρ', I', c1, c2, fun k t e => by obtain ⟨t', e'⟩ := c3 k ⟨t, e⟩; exact h3 k t' e'⟩, c4.mono fun k ⟨t, e⟩ => h3 k t e⟩
theorem KAt.write {w : World} {O : Nat → Prop} {kb : Nat} {K : KS} (h : KAt w O kb K) (d : Int) (bs : List UInt8) (a1 : Option Addr) (cx : Nat) (hd : I64 d) (hr : K.writes < 9223372036854775807)
    (hb : Bys w (.slice a1 bs.length cx) bs) (hcap : bs.length ≤ cx) (hbig : bs.length ≤ 9223372036854775807) (hap : 0 < bs.length → ∀ k, (Value.slice a1 bs.length cx).ownBlock = some k → ¬ O k) :
    Calls Tryz.prog 53 #[.pointer (some ⟨kb, 0, none⟩), .int .i64 d, .slice a1 bs.length cx] w fun e w' => e = .returned (.tuple #[.int .i64 (K.write d bs).1, .int .i64 (K.write d bs).2.1]) ∧ KStep w O kb (K.write d bs).2.2 w' := by
  obtain ⟨ρ, I, h1, rfl, h3⟩ := h
  exact (kwrite_any ρ I K d bs a1 cx w h1 hd hr hb hcap hbig (fun h0 k e ⟨t, e'⟩ => hap h0 k e (h3 k t e'))).mono fun e w' ⟨a, b⟩ => ⟨a, b.step h3⟩
theorem KAt.seek {w : World} {O : Nat → Prop} {kb : Nat} {K : KS} (h : KAt w O kb K) (d off wh : Int) (hd : I64 d) (ho : I64 off) :
    Calls Tryz.prog 56 #[.pointer (some ⟨kb, 0, none⟩), .int .i64 d, .int .i64 off, .int .i64 wh] w fun e w' => e = .returned (.tuple #[.int .i64 (K.seek d off wh).1, .int .i64 (K.seek d off wh).2.1]) ∧ KStep w O kb (K.seek d off wh).2.2 w' := by
  obtain ⟨ρ, I, h1, rfl, h3⟩ := h
  exact (kseek_any ρ I K d off wh w h1 hd ho).mono fun e w' ⟨a, b⟩ => ⟨a, b.step h3⟩
theorem KAt.trim {w : World} {O : Nat → Prop} {kb : Nat} {K : KS} (h : KAt w O kb K) : KAt w (fun k => O k ∧ k < w.heap.size) kb K := by
  obtain ⟨ρ, I, h1, h2, h3⟩ := h
  exact ⟨ρ, I, h1, h2, fun k t e => ⟨h3 k t e, h1.lt k t e⟩⟩
end Go.Proofs.YtkkommomefmpgaaGreat

/- CopyNamed, SameNamed. -/
namespace Go.Proofs.YtkkommomefmpgaaGreat
open Go.RowKit

end Go.Proofs.YtkkommomefmpgaaGreat

/- CopyTyped. -/
namespace Go.Proofs.YtkkommomefmpgaaGreat
open Go.RowKit

end Go.Proofs.YtkkommomefmpgaaGreat

/- The reference's things: files, terminals and pipes in one notion, each within a set of blocks of its own. -/
namespace Go.Proofs.YtkkommomefmpgaaGreat
open Go.RowKit

def RObj (W : World) (O : Nat → Prop) (p : Nat) : Ob → Prop
  | .file b => ∃ u B, RFileAt W B p u b ∧ B ≤ W.heap.size ∧ O p ∧ ∀ k, u.ownBlock = some k → O k
  | .term ls scr => ∃ la lc s B O1, Term W B p 0 O1 la lc s ls scr ∧ ∀ k, O1 k → O k
  | .pipe q rd wt => ∃ a c B, RP W B p a c q rd wt ∧ B ≤ W.heap.size ∧ O p ∧ ∀ k, (Value.slice a q.length c).ownBlock = some k → O k
theorem RObj.at {W : World} {O : Nat → Prop} {p : Nat} {ob : Ob} (h : RObj W O p ob) : O p ∧ p < W.heap.size := by
  cases ob with
  | file b => obtain ⟨u, B, h1, _, h2, _⟩ := h; exact ⟨h2, h1.lt⟩
  | term ls scr => obtain ⟨la, lc, s, B, O1, h1, h2⟩ := h; exact ⟨h2 _ h1.ot, (h1.lt _ h1.ot).2⟩
  | pipe q rd wt => obtain ⟨a, c, B, h1, _, h2, _⟩ := h; exact ⟨h2, h1.lt⟩
theorem RObj.mono {W : World} {O O' : Nat → Prop} {p : Nat} {ob : Ob} (h : RObj W O p ob) (hO : ∀ k, O k → O' k) : RObj W O' p ob := by
  cases ob with
  | file b => obtain ⟨u, B, h1, h2, h3, h4⟩ := h; exact ⟨u, B, h1, h2, hO _ h3, fun k e => hO _ (h4 k e)⟩
  | term ls scr => obtain ⟨la, lc, s, B, O1, h1, h2⟩ := h; exact ⟨la, lc, s, B, O1, h1, fun k e => hO _ (h2 k e)⟩
  | pipe q rd wt => obtain ⟨a, c, B, h1, h2, h3, h4⟩ := h; exact ⟨a, c, B, h1, h2, hO _ h3, fun k e => hO _ (h4 k e)⟩
theorem RObj.keep {W W' : World} {O : Nat → Prop} {p : Nat} {ob : Ob} (h : RObj W O p ob) (hk : ∀ k, O k → k < W.heap.size → W'.heap[k]? = W.heap[k]?) (hs : W.heap.size ≤ W'.heap.size) : RObj W' O p ob := by
  cases ob with
  | file b =>
    obtain ⟨u, B, h1, h2, h3, h4⟩ := h
    have hp := hk p h3 h1.lt
    exact ⟨u, B, ⟨(World.cell?_of_block (w := W) hp).trans h1.data, (World.frozen?_of_block (w := W) hp).trans h1.soft, owns_keep h1.row fun k e => hk k (h4 k e) (h1.row.lt k e).2, h1.apart⟩, Nat.le_trans h2 hs, h3, h4⟩
  | term ls scr =>
    obtain ⟨la, lc, s, B, O1, h1, h2⟩ := h
    exact ⟨la, lc, s, B, O1, h1.keep (fun k e => hk k (h2 k e) (h1.lt k e).2) hs, h2⟩
  | pipe q rd wt =>
    obtain ⟨a, c, B, h1, h2, h3, h4⟩ := h
    refine ⟨a, c, B, ⟨(hk p h3 h1.lt).trans h1.blk, h1.bys.keep fun k e hlt => hk k (h4 k e) hlt, h1.cap, h1.lq, h1.lr, h1.lw, ?_⟩, Nat.le_trans h2 hs, h3, h4⟩
    rcases h1.ad with h5 | ⟨b, off, h5, h6, h7, h8⟩
    · exact .inl h5
    · exact .inr ⟨b, off, h5, h6, h7, Nat.lt_of_lt_of_le h8 hs⟩
def ObjStep (w : World) (O : Nat → Prop) (p : Nat) (ob' : Ob) (w' : World) : Prop := ∃ O', RObj w' O' p ob' ∧ (∀ k, O' k → O k ∨ w.heap.size ≤ k) ∧ Turned O w w'
end Go.Proofs.YtkkommomefmpgaaGreat

/- The reference's kernel: Named, has, flagged, Move. -/
namespace Go.Proofs.YtkkommomefmpgaaGreat
open Go.RowKit

set_option maxRecDepth 100000 in
set_option maxHeartbeats 1000000 in
theorem named_any (s : ByteArray) (w : World) (hs : s.size ≤ maxLen) :
    Calls Tryz.prog 40 #[.string s] w fun e w' => e = .returned (.bool (nameOk s)) ∧ w' = w := by
  unfold maxLen at hs
  rcases (show s.size = 0 ∨ (0 < s.size ∧ 64 < s.size) ∨ (0 < s.size ∧ s.size ≤ 64) by omega) with h0 | ⟨h0, h1⟩ | ⟨h0, h1⟩
  · have d0 := kempty_yes s h0
    have hE : nameOk s = false := by unfold nameOk; rw [show decide (0 < s.size) = false by rw [decide_eq_false_iff_not]; omega]; rfl
    rw [hE]
    clear hE
    go_enter Tryz.func40, Tryz.ntmps40
    go_wp2
    go_ret
    exact ⟨rfl, rfl⟩
  · have d0 := kempty_no s (by omega)
    have d1 : (64 : Int) < (s.size : Int) := by omega
    have hE : nameOk s = false := by unfold nameOk; rw [show decide (s.size ≤ 64) = false by simp; omega]; simp
    rw [hE]
    clear hE
    go_enter Tryz.func40, Tryz.ntmps40
    go_wp2
    go_ret
    exact ⟨rfl, rfl⟩
  · have d0 := kempty_no s (by omega)
    have d1 : ¬ (64 : Int) < (s.size : Int) := by omega
    have HE : Hid (nameOk s = s.data.toList.all (fun c => decide (33 ≤ c.toNat) && decide (c.toNat ≤ 126))) := hide (by unfold nameOk; rw [show decide (0 < s.size) = true by simp; omega, show decide (s.size ≤ 64) = true by simp; omega]; rfl)
    rw [HE.out]
    obtain ⟨R, hR⟩ : ∃ R, R = s.data.toList.all (fun c => decide (33 ≤ c.toNat) && decide (c.toNat ≤ 126)) := ⟨_, rfl⟩
    rw [← hR]
    have HR := hide hR
    clear HE hR
    go_enter Tryz.func40, Tryz.ntmps40
    go_wp2
    go_loop [3] (fun i => ∃ k : Nat, k ≤ s.size ∧ i = .int .i64 k ∧ Hid (∀ j (hj : j < s.data.toList.length), j < k → (decide (33 ≤ s.data.toList[j].toNat) && decide (s.data.toList[j].toNat ≤ 126)) = true)) (fun i => s.size - (intOf i).toNat)
    case atStart => exact ⟨0, Nat.zero_le _, rfl, fun _ _ h => by omega⟩
    case round =>
      obtain ⟨k, hk, rfl, HA⟩ := hrel
      by_cases hlt : k < s.size
      · have hby : ((s[k].toNat : Nat) : Int) ≤ 255 := by have := s[k].toNat_lt; omega
        rcases (show (s[k].toNat : Int) < 33 ∨ (¬ (s[k].toNat : Int) < 33 ∧ (126 : Int) < (s[k].toNat : Int)) ∨ (¬ (s[k].toNat : Int) < 33 ∧ ¬ (126 : Int) < (s[k].toNat : Int)) by omega) with e1 | ⟨e1, e2⟩ | ⟨e1, e2⟩
        · have HF : Hid (R = false) := hide (by
            rw [HR.out, List.all_eq_false]
            exact ⟨s[k], by simp [ByteArray.getElem_eq_getElem_data], by simp; omega⟩)
          go_wp2
          go_ret
          exact ⟨by rw [HF.out]; rfl, rfl⟩
        · have HF : Hid (R = false) := hide (by
            rw [HR.out, List.all_eq_false]
            exact ⟨s[k], by simp [ByteArray.getElem_eq_getElem_data], by simp; omega⟩)
          go_wp2
          go_ret
          exact ⟨by rw [HF.out]; rfl, rfl⟩
        · go_wp2
          go_round
          case rel =>
            refine ⟨k + 1, by omega, by go_num, fun j hj hjk => ?_⟩
            rcases Nat.lt_or_ge j k with h | h
            · exact HA.out j hj h
            · obtain rfl : j = k := by omega
              have : s.data.toList[j] = s[j] := by simp [ByteArray.getElem_eq_getElem_data]
              rw [this]
              simp; omega
          case measure => simp [intOf]; omega
      · have HF : Hid (R = true) := hide (by
          rw [HR.out, List.all_eq_true]
          intro c hc
          obtain ⟨j, hj, rfl⟩ := List.getElem_of_mem hc
          have hjs : j < s.size := by simpa using hj
          exact HA.out j hj (by omega))
        go_wp2
        go_ret
        exact ⟨by rw [HF.out]; rfl, rfl⟩

set_option maxRecDepth 100000 in
set_option maxHeartbeats 2000000 in
theorem flagged_any (f : Int) (w : World) :
    Calls Tryz.prog 136 #[.int .i64 f] w fun e w' => e = .returned (.bool (flagsOk f)) ∧ w' = w := by
  unfold flagsOk
  rcases (show f < 0 ∨ (¬ f < 0 ∧ 63 < f) ∨ (¬ f < 0 ∧ ¬ 63 < f) by omega) with e1 | ⟨e1, e2⟩ | ⟨e1, e2⟩
  · rw [show decide (0 ≤ f ∧ f ≤ 63) = false by rw [decide_eq_false_iff_not]; omega]
    go_enter Tryz.func136, Tryz.ntmps136
    go_wp2
    go_ret
    exact ⟨rfl, rfl⟩
  · rw [show decide (0 ≤ f ∧ f ≤ 63) = false by rw [decide_eq_false_iff_not]; omega]
    go_enter Tryz.func136, Tryz.ntmps136
    go_wp2
    go_ret
    exact ⟨rfl, rfl⟩
  · rw [show decide (0 ≤ f ∧ f ≤ 63) = true by rw [decide_eq_true_iff]; omega]
    obtain ⟨v3, h3⟩ : ∃ v, bits .and .i64 f 3 = v := ⟨_, rfl⟩
    obtain ⟨v20, h20⟩ : ∃ v, bits .and .i64 f 20 = v := ⟨_, rfl⟩
    obtain ⟨v2, h2⟩ : ∃ v, bits .and .i64 f 2 = v := ⟨_, rfl⟩
    obtain ⟨v32, h32⟩ : ∃ v, bits .and .i64 f 32 = v := ⟨_, rfl⟩
    obtain ⟨v8, h8⟩ : ∃ v, bits .and .i64 f 8 = v := ⟨_, rfl⟩
    simp only [fbit, h3, h20, h2, h32, h8]
    by_cases k3 : v3 = 0
    · subst k3
      go_enter Tryz.func136, Tryz.ntmps136
      go_wp2
      go_ret
      exact ⟨rfl, rfl⟩
    · have m3 : (v3 == 0) = false := by simpa using k3
      rw [m3]
      by_cases k20 : v20 = 0
      case' pos => subst k20
      case' neg =>
        have m20 : (v20 == 0) = false := by simpa using k20
        have m20' : (v20 != 0) = true := by simpa using k20
        rw [m20]
        by_cases k2 : v2 = 0
        case' pos => subst k2
        case' neg =>
          have m2 : (v2 == 0) = false := by simpa using k2
          rw [m2]
      all_goals
        by_cases k32 : v32 = 0
        case' pos =>
          subst k32
        case' neg =>
          have m32 : (v32 == 0) = false := by simpa using k32
          rw [m32]
          by_cases k8 : v8 = 0
          case' pos => subst k8
          case' neg =>
            have m8 : (v8 == 0) = false := by simpa using k8
            have m8' : (v8 != 0) = true := by simpa using k8
            rw [m8]
      all_goals
        go_enter Tryz.func136, Tryz.ntmps136
        go_wp2
        go_ret
        exact ⟨rfl, rfl⟩
theorem move_any (base off most : Int) (w : World) (h1 : 0 ≤ base) (h2 : base ≤ 1048576) (h3 : 0 ≤ most) (h4 : most ≤ 1048576) :
    Calls Tryz.prog 155 #[.int .i64 base, .int .i64 off, .int .i64 most] w fun e w' => e = .returned (if 0 ≤ base + off ∧ base + off ≤ most then .tuple #[.int .i64 (base + off), .bool true] else .tuple #[.int .i64 0, .bool false]) ∧ w' = w := by
  rcases (show off < -base ∨ (¬ off < -base ∧ most - base < off) ∨ (¬ off < -base ∧ ¬ most - base < off) by omega) with e1 | ⟨e1, e2⟩ | ⟨e1, e2⟩
  · rw [if_neg (by omega)]
    go_enter Tryz.func155, Tryz.ntmps155
    go_wp2
    go_ret2
    exact ⟨rfl, rfl⟩
  · rw [if_neg (by omega)]
    go_enter Tryz.func155, Tryz.ntmps155
    go_wp2
    go_ret2
    exact ⟨rfl, rfl⟩
  · rw [if_pos (by omega)]
    have e3 : -9223372036854775808 ≤ base + off ∧ base + off ≤ 9223372036854775807 := by omega
    go_enter Tryz.func155, Tryz.ntmps155
    go_wp2
    go_ret2
    exact ⟨rfl, rfl⟩
end Go.Proofs.YtkkommomefmpgaaGreat

/- The reference's plan: Next. -/
namespace Go.Proofs.YtkkommomefmpgaaGreat
open Go.RowKit

end Go.Proofs.YtkkommomefmpgaaGreat

/- The reference's kernel: has, Check. -/
namespace Go.Proofs.YtkkommomefmpgaaGreat
open Go.RowKit

theorem Tryz.infoS : (Tryz.prog.info? 9).map (fun i => (i.zero, i.size, i.bytes)) = some (some (.string ByteArray.empty), 1, 16) := by kernel_rfl
theorem run_append_string (w : World) (ty : TypeId) (base : Nat) (s : Value) (n : Nat) (xs : List Value) (g c : Nat) (nm : ByteArray) (hs : w.ownsRow base 9 1 s n xs) (hx : w.cell? ⟨g, 0, none⟩ = some (.string nm)) (hn : (n + 1) * 16 ≤ 140737488355328) (hb : base ≤ w.heap.size) :
    ∃ s' w', (Builtin.append_ #[109, 109] ty #[s, .slice (some ⟨g, 0, none⟩) 1 c]).run Tryz.prog w = .ok s' w' ∧ Hid (w'.ownsRow base 9 1 s' (n + 1) (xs ++ [.string nm])) ∧ w.grownBy w' s.ownBlock := by
  refine (?_ : ∃ s' w', (Builtin.append_ #[109, 109] ty #[s, .slice (some ⟨g, 0, none⟩) 1 c]).run Tryz.prog w = .ok s' w' ∧ w'.ownsRow base 9 1 s' (n + 1) (xs ++ [.string nm]) ∧ w.grownBy w' s.ownBlock)
  obtain ⟨i0, hi, hz0, hz1, hz2⟩ := info_parts Tryz.infoS
  obtain ⟨v', w', h1, h2, h3, _⟩ := run_append_own_at (P := Tryz.prog) w base 109 ty 9 i0 (.string ByteArray.empty) 1 16 Tryz.underlying109 hi hz0 hz1 hz2 rfl (by decide) s _ _ hs ⟨g, 0, none⟩ 1 c [.string nm] rfl (fun j v hj => by
    match j, hj with
    | 0, hj =>
      obtain rfl : Value.string nm = v := by simpa using hj
      have hadd : (⟨g, 0, none⟩ : Addr).add 0 = ⟨g, 0, none⟩ := by unfold Addr.add; split <;> simp_all
      rw [hadd]; exact hx) (by intro v hv; simp at hv; subst hv; rfl) (by unfold maxLen; omega) (by omega) hb
  exact ⟨v', w', h1, h2, h3⟩

set_option maxRecDepth 100000 in
set_option maxHeartbeats 1000000 in
theorem has_any (base : Nat) (v : Value) (ss : List ByteArray) (s : ByteArray) (w : World) (h : w.ownsRow base 9 1 v ss.length (ss.map .string)) (hl : ss.length ≤ maxLen) :
    Calls Tryz.prog 41 #[v, .string s] w fun e w' => e = .returned (.bool (inNames s ss)) ∧ w' = w := by
  unfold maxLen at hl
  have HO := hide h
  obtain ⟨a, c, rfl⟩ := owns_slice h
  clear h
  obtain ⟨R, hR⟩ : ∃ R, R = inNames s ss := ⟨_, rfl⟩
  rw [← hR]
  have HR := hide hR
  clear hR
  go_enter Tryz.func41, Tryz.ntmps41
  go_wp2
  go_loop [5] (fun i => ∃ k : Nat, k ≤ ss.length ∧ i = .int .i64 k ∧ Hid (∀ j (hj : j < ss.length), j < k → ss[j] ≠ s)) (fun i => ss.length - (intOf i).toNat)
  case atStart => exact ⟨0, Nat.zero_le _, rfl, fun _ _ h => by omega⟩
  case round =>
    obtain ⟨k, hk, rfl, HA⟩ := hrel
    by_cases hlt : k < ss.length
    · obtain ⟨b, rfl⟩ : ∃ b, a = some ⟨b, 0, none⟩ := by
        rcases HO.out.2 with ⟨h0, _⟩ | ⟨g, cap, cur, h1, _⟩
        · simp only [Value.slice.injEq] at h0; omega
        · simp only [Value.slice.injEq] at h1; exact ⟨g, h1.1⟩
      have hcell := HO.out.cellAt k (by simpa using hlt)
      rw [List.getElem?_map, List.getElem?_eq_getElem hlt] at hcell
      simp only [Option.map_some] at hcell
      obtain ⟨x, hx⟩ : ∃ x, x = ss[k] := ⟨_, rfl⟩
      rw [← hx] at hcell
      have HX := hide hx
      clear hx
      have hk1 : (0 : Int) ≤ (k : Int) := by omega
      have hk2 : (k : Int) < (ss.length : Int) := by omega
      by_cases he : x = s
      · have HF : Hid (R = true) := hide (by rw [HR.out, inNames_iff, ← he, HX.out]; exact List.getElem_mem _)
        subst he
        go_wp2
        go_ret
        exact ⟨by rw [HF.out]; rfl, rfl⟩
      · have he2 : (x.toList == s.toList) = false := by rw [ByteArray.toList_eq, ByteArray.toList_eq, beq_eq_false_iff_ne]; exact bytes_ne he
        have he3 : ¬ x.toList = s.toList := by rw [ByteArray.toList_eq, ByteArray.toList_eq]; exact bytes_ne he
        go_wp2
        all_goals
          go_round
          case rel =>
            refine ⟨k + 1, by omega, by go_num, fun j hj hjk => ?_⟩
            rcases Nat.lt_or_ge j k with h | h
            · exact HA.out j hj h
            · obtain rfl : j = k := by omega
              rw [← HX.out]
              exact he
          case measure => simp [intOf]; omega
    · have HF : Hid (R = false) := hide (by
        rw [HR.out, Bool.eq_false_iff, Ne, inNames_iff]
        intro hm
        obtain ⟨j, hj, he⟩ := List.getElem_of_mem hm
        exact HA.out j hj (by omega) he)
      go_wp2
      go_ret
      exact ⟨by rw [HF.out]; rfl, rfl⟩

set_option maxRecDepth 100000 in
set_option maxHeartbeats 4000000 in
theorem rkcheck_any (v1 v2 v3 : Value) (fs : List Nm) (ts : List Tp) (l : List Fault) (w : World) (h1 : Nms w v1 fs) (h2 : Tps w v2 ts) (h3 : Flts w v3 l) (hs1 : fs.length * 40 ≤ 140737488351232) (hs2 : ts.length * 40 ≤ 140737488351232) (hs3 : ∀ j (hj : j < ts.length), ts[j].2.length * 24 ≤ 140737488351232) (hs4 : l.length ≤ maxLen) :
    Calls Tryz.prog 8 #[v1, v2, v3] w fun e w' => e = .returned (.int .i64 (checkE fs ts l)) ∧ Below w.heap.size w w' := by
  have H1 := hide h1
  have H2 := hide h2
  have H3 := hide h3
  have HS3 := hide hs3
  obtain ⟨a1, c1, rfl⟩ := h1.form
  obtain ⟨a2, c2, rfl⟩ := h2.form
  clear h1 h2 h3 hs3
  have HE1 : Hid (256 < fs.length + ts.length → checkE fs ts l = 3) := hide fun h => by unfold checkE; rw [if_pos h]
  have HE2 : Hid (¬ 256 < fs.length + ts.length → (kfiles [] fs).1 ≠ 0 → checkE fs ts l = (kfiles [] fs).1) := hide fun h h' => by unfold checkE; rw [if_neg h, if_neg h']
  have HE3 : Hid (¬ 256 < fs.length + ts.length → (kfiles [] fs).1 = 0 → kterms (kfiles [] fs).2 ts ≠ 0 → checkE fs ts l = kterms (kfiles [] fs).2 ts) := hide fun h h' h'' => by unfold checkE; rw [if_neg h, if_pos h', if_neg h'']
  have HE4 : Hid (¬ 256 < fs.length + ts.length → (kfiles [] fs).1 = 0 → kterms (kfiles [] fs).2 ts = 0 → checkE fs ts l = (chk l).1) := hide fun h h' h'' => by unfold checkE; rw [if_neg h, if_pos h', if_pos h'']
  generalize checkE fs ts l = E at *
  by_cases hc : 256 < fs.length + ts.length
  · have hd : (256 : Int) < (fs.length : Int) + (ts.length : Int) := by omega
    have HE := hide (HE1.out hc)
    clear HE1 HE2 HE3 HE4
    go_enter Tryz.func8, Tryz.ntmps8
    go_wp2
    go_ret
    exact ⟨by rw [HE.out]; rfl, Below.refl _ _⟩
  · have hd : ¬ (256 : Int) < (fs.length : Int) + (ts.length : Int) := by omega
    have HE2 := hide (HE2.out hc)
    have HE3 := hide (HE3.out hc)
    have HE4 := hide (HE4.out hc)
    obtain ⟨K, hK⟩ : ∃ K, K = kfiles [] fs := ⟨_, rfl⟩
    have HK := hide hK
    rw [← hK] at HE2 HE3 HE4
    clear hK HE1
    go_enter Tryz.func8, Tryz.ntmps8
    go_wp2
    go_loopw [7, 8] (fun nv i wr => ∃ (k : Nat) (ns : List ByteArray), k ≤ fs.length ∧ i = .int .i64 k ∧ ns.length = k ∧ Hid (wr.ownsRow w.heap.size 9 1 nv ns.length (ns.map .string)) ∧ Hid (kfiles ns (fs.drop k) = K) ∧ Below w.heap.size w wr) (fun _ i _ => fs.length - (intOf i).toNat)
    case atStart => exact ⟨0, [], Nat.zero_le _, rfl, rfl, World.ownsRow_nil _ _ _ _, by rw [HK.out]; rfl, Below.refl _ _⟩
    case round =>
      obtain ⟨k, ns, hk, rfl, hnl, HO, HF, hB⟩ := hrel
      obtain ⟨na, nc, rfl⟩ := owns_slice HO.out
      have hsz := hB.size
      have hnb : ns.length ≤ 256 := by omega
      have HNl := hide hnl
      clear hnl
      by_cases hlt : k < fs.length
      · obtain ⟨b, off, va, vc, rfl, hbl, q0, q1, -, -, hnm⟩ := H1.out.at k hlt
        have hc0 := (hB.cell (p := ⟨b, off + k * 2, none⟩) hbl).trans q0
        have hc1 := (hB.cell (p := ⟨b, off + k * 2 + 1, none⟩) hbl).trans q1
        have hF := HF.out
        rw [drop_at fs k hlt] at hF
        have hk1 : (0 : Int) ≤ (k : Int) := by omega
        have hk2 : (k : Int) < (fs.length : Int) := by omega
        clear q0 q1 HF
        generalize fs[k] = p at hc0 hc1 hnm hF
        obtain ⟨nm, L⟩ := p
        simp only at hc0 hc1 hnm
        rw [kfiles] at hF
        by_cases n1 : nameOk nm = false
        · rw [if_pos n1] at hF
          have HR := hide (HE2.out (by rw [← hF]; simp))
          have HK1 : Hid (K.1 = 61) := hide (by rw [← hF])
          have HN := hide n1
          clear hF n1
          go_wp2_with fail
          refine (named_any nm _ hnm).mono ?_
          rintro e w2 ⟨rfl, rfl⟩
          rw [HN.out]
          go_wp2
          go_ret
          exact ⟨by rw [HR.out, HK1.out]; rfl, hB⟩
        · rw [if_neg n1] at hF
          have HN : Hid (nameOk nm = true) := hide (by simpa using n1)
          clear n1
          by_cases n2 : inNames nm ns = true
          · rw [if_pos n2] at hF
            have HR := hide (HE2.out (by rw [← hF]; simp))
            have HK1 : Hid (K.1 = 6) := hide (by rw [← hF])
            have HN2 := hide n2
            clear hF n2
            go_wp2_with fail
            refine (named_any nm _ hnm).mono ?_
            rintro e w2 ⟨rfl, rfl⟩
            rw [HN.out]
            go_wp2_with fail
            refine (has_any _ _ ns nm _ HO.out (by unfold maxLen; omega)).mono ?_
            rintro e w2 ⟨rfl, rfl⟩
            rw [HN2.out]
            go_wp2
            go_ret
            exact ⟨by rw [HR.out, HK1.out]; rfl, hB⟩
          · rw [if_neg n2] at hF
            have HN2 : Hid (inNames nm ns = false) := hide (by simpa using n2)
            clear n2
            by_cases n3 : 1048576 < L.length
            · rw [if_pos n3] at hF
              have HR := hide (HE2.out (by rw [← hF]; simp))
              have HK1 : Hid (K.1 = 5) := hide (by rw [← hF])
              have d3 : (1048576 : Int) < (L.length : Int) := by omega
              clear hF
              go_wp2_with fail
              refine (named_any nm _ hnm).mono ?_
              rintro e w2 ⟨rfl, rfl⟩
              rw [HN.out]
              go_wp2_with fail
              refine (has_any _ _ ns nm _ HO.out (by unfold maxLen; omega)).mono ?_
              rintro e w2 ⟨rfl, rfl⟩
              rw [HN2.out]
              go_wp2
              go_ret
              exact ⟨by rw [HR.out, HK1.out]; rfl, hB⟩
            · rw [if_neg n3] at hF
              have d3 : ¬ (1048576 : Int) < (L.length : Int) := by omega
              have HF := hide hF
              clear hF
              have hBa : Below wr.heap.size wr (wr.alloc (Obj.cells #[.string nm] 9)) := (Below.refl _ _).alloc (Nat.le_refl _) _
              have hcu : (wr.alloc (Obj.cells #[.string nm] 9)).cell? ⟨wr.heap.size, 0, none⟩ = some (.string nm) := by simp only [World.cell?, heap_alloc_new]; rfl
              have hza := size_new wr (Obj.cells #[.string nm] 9)
              have HOa := hide (owns_below HO.out hBa)
              obtain ⟨s', w7, hrun, HO7, hg7⟩ := run_append_string (wr.alloc (Obj.cells #[.string nm] 9)) 109 w.heap.size _ ns.length _ wr.heap.size 1 nm HOa.out hcu (by omega) (by omega)
              have HR := hide hrun
              have hB0a := hB.trans (hBa.mono hsz)
              clear hrun hcu
              go_wp2_with fail
              refine (named_any nm _ hnm).mono ?_
              rintro e w2 ⟨rfl, rfl⟩
              rw [HN.out]
              go_wp2_with fail
              refine (has_any _ _ ns nm _ HO.out (by unfold maxLen; omega)).mono ?_
              rintro e w2 ⟨rfl, rfl⟩
              rw [HN2.out]
              go_wp2_with (at_builtin; refine Lib.wpList_append_run _ rfl _ _ _ _ rfl _ _ rfl rfl _ _ HR.out ?_)
              all_goals
                go_roundw
                case rel => exact ⟨k + 1, ns ++ [nm], by omega, by go_num, by simp [HNl.out], hide (by have := HO7.out; simpa using this), HF, hB0a.grown hg7 hB0a.size (fun j e => (HOa.out.lt j e).1)⟩
                case measure => simp [intOf]; omega
      · have hke : k = fs.length := by have := HNl.out; omega
        have hF := HF.out
        rw [List.drop_eq_nil_of_le (by omega), kfiles] at hF
        have HE3 := hide (HE3.out (by rw [← hF]))
        have HE4 := hide (HE4.out (by rw [← hF]))
        rw [← hF] at HE3 HE4
        obtain ⟨M, hM⟩ : ∃ M, M = kterms ns ts := ⟨_, rfl⟩
        have HM := hide hM
        have HE3 : Hid (M ≠ 0 → E = M) := hide (by rw [hM]; exact HE3.out)
        have HE4 : Hid (M = 0 → E = (chk l).1) := hide (by rw [hM]; exact HE4.out)
        have HBk := hide hnb
        clear hF HF HE2 HK hM hnb
        go_wp2
        go_loopw [7, 9, 10] (fun nv i _ wq => ∃ (k : Nat) (ms : List ByteArray), k ≤ ts.length ∧ i = .int .i64 k ∧ Hid (ms.length = fs.length + k) ∧ Hid (wq.ownsRow w.heap.size 9 1 nv ms.length (ms.map .string)) ∧ Hid (kterms ms (ts.drop k) = M) ∧ Below w.heap.size w wq) (fun _ i _ _ => ts.length - (intOf i).toNat)
        case atStart => exact ⟨0, ns, Nat.zero_le _, rfl, hide (by have := HNl.out; omega), HO, by rw [HM.out]; rfl, hB⟩
        case round =>
          rename_i hrel
          clear HO HM HNl HBk
          obtain ⟨k2, ms, hk, rfl, HNl, HO, HF, hB⟩ := hrel
          obtain ⟨na2, nc2, rfl⟩ := owns_slice HO.out
          have hsz := hB.size
          have hnb : ms.length ≤ 256 := by have := HNl.out; omega
          by_cases hlt : k2 < ts.length
          · obtain ⟨b, off, va, vc, rfl, hbl, q0, q1, hln, hnm⟩ := H2.out.at k2 hlt
            have hc0 := (hB.cell (p := ⟨b, off + k2 * 2, none⟩) hbl).trans q0
            have hc1 := (hB.cell (p := ⟨b, off + k2 * 2 + 1, none⟩) hbl).trans q1
            have hls := HS3.out k2 hlt
            have hF := HF.out
            rw [drop_at ts k2 hlt] at hF
            have hk1 : (0 : Int) ≤ (k2 : Int) := by omega
            have hk2 : (k2 : Int) < (ts.length : Int) := by omega
            clear q0 q1 HF
            generalize ts[k2] = p at hc0 hc1 hnm hF hln hls
            obtain ⟨nm, ls⟩ := p
            simp only at hc0 hc1 hnm hln hls
            have HLn := hide hln
            clear hln
            rw [kterms] at hF
            by_cases n1 : nameOk nm = false
            · rw [if_pos n1] at hF
              have HR := hide (HE3.out (by rw [← hF]; decide))
              have HK1 := hide hF
              have HN := hide n1
              clear hF n1
              go_wp2_with fail
              refine (named_any nm _ hnm).mono ?_
              rintro e w2 ⟨rfl, rfl⟩
              rw [HN.out]
              go_wp2
              go_ret
              exact ⟨by rw [HR.out, ← HK1.out]; rfl, hB⟩
            · rw [if_neg n1] at hF
              have HN : Hid (nameOk nm = true) := hide (by simpa using n1)
              clear n1
              by_cases n2 : inNames nm ms = true
              · rw [if_pos n2] at hF
                have HR := hide (HE3.out (by rw [← hF]; decide))
                have HK1 := hide hF
                have HN2 := hide n2
                clear hF n2
                go_wp2_with fail
                refine (named_any nm _ hnm).mono ?_
                rintro e w2 ⟨rfl, rfl⟩
                rw [HN.out]
                go_wp2_with fail
                refine (has_any _ _ ms nm _ HO.out (by unfold maxLen; omega)).mono ?_
                rintro e w2 ⟨rfl, rfl⟩
                rw [HN2.out]
                go_wp2
                go_ret
                exact ⟨by rw [HR.out, ← HK1.out]; rfl, hB⟩
              · rw [if_neg n2] at hF
                have HN2 : Hid (inNames nm ms = false) := hide (by simpa using n2)
                clear n2
                by_cases n3 : newE ls = 0
                · rw [if_pos n3] at hF
                  have HF := hide hF
                  have HN3 := hide n3
                  clear hF n3
                  have hBa : Below wr.heap.size wr (wr.alloc (Obj.cells #[.string nm] 9)) := (Below.refl _ _).alloc (Nat.le_refl _) _
                  have hcu : (wr.alloc (Obj.cells #[.string nm] 9)).cell? ⟨wr.heap.size, 0, none⟩ = some (.string nm) := by simp only [World.cell?, heap_alloc_new]; rfl
                  have hza := size_new wr (Obj.cells #[.string nm] 9)
                  have HOa := hide (owns_below HO.out hBa)
                  obtain ⟨s', w7, hrun, HO7, hg7⟩ := run_append_string (wr.alloc (Obj.cells #[.string nm] 9)) 109 w.heap.size _ ms.length _ wr.heap.size 1 nm HOa.out hcu (by omega) (by omega)
                  have HR := hide hrun
                  have hB0a := hB.trans (hBa.mono hsz)
                  clear hrun hcu
                  go_wp2_with fail
                  refine (named_any nm _ hnm).mono ?_
                  rintro e w2 ⟨rfl, rfl⟩
                  rw [HN.out]
                  go_wp2_with fail
                  refine (has_any _ _ ms nm _ HO.out (by unfold maxLen; omega)).mono ?_
                  rintro e w2 ⟨rfl, rfl⟩
                  rw [HN2.out]
                  go_wp2_with fail
                  refine (Te_check_any _ ls _ (HLn.out.below hB) hls).mono ?_
                  rintro e w2 ⟨rfl, rfl⟩
                  rw [HN3.out]
                  go_wp2_with (at_builtin; refine Lib.wpList_append_run _ rfl _ _ _ _ rfl _ _ rfl rfl _ _ HR.out ?_)
                  all_goals
                    go_roundw
                    case rel => exact ⟨k2 + 1, ms ++ [nm], by omega, by go_num, hide (by have := HNl.out; simp; omega), hide (by have := HO7.out; simpa using this), HF, hB0a.grown hg7 hB0a.size (fun j e => (HOa.out.lt j e).1)⟩
                    case measure => simp [intOf]; omega
                · rw [if_neg n3] at hF
                  obtain ⟨x, hx⟩ : ∃ x, x = newE ls := ⟨_, rfl⟩
                  have HR := hide (HE3.out (by rw [← hF]; exact n3))
                  have HK1 := hide hF
                  have HN3 : Hid (newE ls = x) := hide hx.symm
                  rw [← hx] at n3
                  have n3' : (x != 0) = true := by simpa using n3
                  clear hF hx
                  go_wp2_with fail
                  refine (named_any nm _ hnm).mono ?_
                  rintro e w2 ⟨rfl, rfl⟩
                  rw [HN.out]
                  go_wp2_with fail
                  refine (has_any _ _ ms nm _ HO.out (by unfold maxLen; omega)).mono ?_
                  rintro e w2 ⟨rfl, rfl⟩
                  rw [HN2.out]
                  go_wp2_with fail
                  refine (Te_check_any _ ls _ (HLn.out.below hB) hls).mono ?_
                  rintro e w2 ⟨rfl, rfl⟩
                  rw [HN3.out]
                  go_wp2
                  go_ret
                  exact ⟨by rw [HR.out, ← HK1.out, HN3.out]; rfl, hB⟩
          · have hF := HF.out
            rw [List.drop_eq_nil_of_le (by omega), kterms] at hF
            have HR := hide (HE4.out hF.symm)
            clear hF HF
            go_wp2_with fail
            refine (rcheck_any _ l _ (H3.out.below hB) hs4).mono ?_
            rintro e w5 ⟨rfl, hB5⟩
            go_wp2
            go_ret
            exact ⟨by rw [HR.out]; rfl, hB.trans (hB5.mono hsz)⟩
end Go.Proofs.YtkkommomefmpgaaGreat

/- A kernel by the page: what it is, as a value; what lies in memory for the reference's kernel. -/
namespace Go.Proofs.YtkkommomefmpgaaGreat
open Go.RowKit

inductive Tag where
  | kern
  | trow
  | drow
  | plan
  | thing (i : Nat)
  | obj (i : Nat)
  | desc (n : Nat)
structure RI where
  kb : Nat
  vT : Value
  vD : Value
  pb : Nat
  pv : Value
  tb : Nat → Nat
  ob : Nat → Nat
  db : Nat → Nat
def tcells (t : Th) (o : Nat) : List Value :=
  match t.ob with
  | .file _ => [.string t.name, .int .i64 1, .pointer (some ⟨o, 0, none⟩), .pointer none, .pointer none]
  | .term _ _ => [.string t.name, .int .i64 2, .pointer none, .pointer (some ⟨o, 0, none⟩), .pointer none]
  | .pipe _ _ _ => [.string t.name, .int .i64 3, .pointer none, .pointer none, .pointer (some ⟨o, 0, none⟩)]
def RComp (W : World) (_ : Nat → Prop) (ρ : Nat → Option Tag) (I : RI) (K : KS) : Tag → Prop
  | .kern => W.heap[I.kb]? = some (.cells ([I.vT, I.vD, .int .i64 K.next, .pointer (some ⟨I.pb, 0, none⟩), .int .i64 K.reads, .int .i64 K.writes] : List Value).toArray 144 (0, 0)) ∧ ρ I.kb = some .kern
  | .trow => W.ownsRow 0 219 1 I.vT K.nm.length (K.nm.map fun i => .pointer (some ⟨I.tb i, 0, none⟩)) ∧ ∀ k, I.vT.ownBlock = some k → ρ k = some .trow
  | .drow => W.ownsRow 0 249 1 I.vD K.de.length (K.de.map fun d => .pointer (some ⟨I.db d.n, 0, none⟩)) ∧ ∀ k, I.vD.ownBlock = some k → ρ k = some .drow
  | .plan => RPlanAt W I.pb I.pv K.plan ∧ ρ I.pb = some .plan ∧ ∀ k, I.pv.ownBlock = some k → ρ k = some .plan
  | .thing i => ∀ (h : i < K.th.length), W.heap[I.tb i]? = some (.cells (tcells K.th[i] (I.ob i)).toArray 223 (0, 0)) ∧ ρ (I.tb i) = some (.thing i)
  | .obj i => ∀ (h : i < K.th.length), RObj W (fun k => ρ k = some (.obj i)) (I.ob i) K.th[i].ob ∧ K.th[i].ob.ok
  | .desc n => ∀ d ∈ K.de, d.n = n → W.heap[I.db n]? = some (.cells ([.int .i64 n, .pointer (some ⟨I.tb d.th, 0, none⟩), .int .i64 d.flags, .int .i64 d.pos, .int .i64 d.held] : List Value).toArray 252 (0, 0)) ∧ ρ (I.db n) = some (.desc n)
theorem RComp.keep {W W' : World} {B : Nat → Prop} {ρ : Nat → Option Tag} {I : RI} {K : KS} {t : Tag} (h : RComp W B ρ I K t) (hk : ∀ k, ρ k = some t → k < W.heap.size → W'.heap[k]? = W.heap[k]?) (hs : W.heap.size ≤ W'.heap.size) : RComp W' B ρ I K t := by
  have lt : ∀ {k o}, W.heap[k]? = some o → k < W.heap.size := fun e => (Array.getElem?_eq_some_iff.1 e).1
  cases t with
  | kern => exact ⟨(hk _ h.2 (lt h.1)).trans h.1, h.2⟩
  | trow => exact ⟨owns_keep h.1 fun k e => hk k (h.2 k e) (h.1.lt k e).2, h.2⟩
  | drow => exact ⟨owns_keep h.1 fun k e => hk k (h.2 k e) (h.1.lt k e).2, h.2⟩
  | plan => exact ⟨h.1.keep fun k hlt e => by
      rcases e with rfl | e
      · exact hk _ h.2.1 hlt
      · exact hk k (h.2.2 k e) hlt, h.2⟩
  | thing i => exact fun hi => ⟨(hk _ (h hi).2 (lt (h hi).1)).trans (h hi).1, (h hi).2⟩
  | obj i => exact fun hi => ⟨(h hi).1.keep (fun k e hlt => hk k e hlt) hs, (h hi).2⟩
  | desc n => exact fun d hd e => ⟨(hk _ (h d hd e).2 (lt (h d hd e).1)).trans (h d hd e).1, (h d hd e).2⟩
structure RK (W : World) (B : Nat → Prop) (ρ : Nat → Option Tag) (I : RI) (K : KS) : Prop where
  comp : ∀ t, RComp W B ρ I K t
  lt : ∀ k t, ρ k = some t → B k ∧ k < W.heap.size
  ok : KOk K
  up : ∀ k, W.heap.size ≤ k → B k
theorem RK.below {W W' : World} {B : Nat → Prop} {ρ : Nat → Option Tag} {I : RI} {K : KS} (h : RK W B ρ I K) (hB : Below W.heap.size W W') : RK W' B ρ I K :=
  ⟨fun t => (h.comp t).keep (fun k _ hlt => hB.block k hlt) hB.size, fun k t e => ⟨(h.lt k t e).1, Nat.lt_of_lt_of_le (h.lt k t e).2 hB.size⟩, h.ok, fun k e => h.up k (Nat.le_trans hB.size e)⟩
theorem RK.own {W : World} {B : Nat → Prop} {ρ : Nat → Option Tag} {I : RI} {K : KS} (h : RK W B ρ I K) : RK W (fun k => (∃ t, ρ k = some t) ∨ W.heap.size ≤ k) ρ I K :=
  ⟨fun t => by have := h.comp t; cases t <;> exact this, fun k t e => ⟨.inl ⟨t, e⟩, (h.lt k t e).2⟩, h.ok, fun _ e => .inr e⟩

set_option maxRecDepth 100000 in
set_option maxHeartbeats 2000000 in
theorem rfind_any (B : Nat → Prop) (ρ : Nat → Option Tag) (I : RI) (K : KS) (d : Int) (w : World) (h : RK w B ρ I K) :
    Calls Tryz.prog 142 #[.pointer (some ⟨I.kb, 0, none⟩), .int .i64 d] w fun e w' => e = .returned (.pointer ((K.find d).map fun x => ⟨I.db x.n, 0, none⟩)) ∧ w' = w := by
  have hb := (h.comp .kern).1
  have c1 : w.cell? ⟨I.kb, 1, none⟩ = some I.vD := by rw [cell_of_row w I.kb 1 _ _ _ hb]; rfl
  have HD := hide (h.comp .drow).1
  have HC := hide fun n => h.comp (.desc n)
  have hfew := h.ok.few
  obtain ⟨va, vc, hv⟩ := owns_slice (h.comp .drow).1
  rw [hv] at c1 HD
  clear h hb hv
  obtain ⟨R, hR⟩ : ∃ R, R = (K.find d).map fun x => (⟨I.db x.n, 0, none⟩ : Addr) := ⟨_, rfl⟩
  rw [← hR]
  have HR := hide hR
  clear hR
  go_enter Tryz.func142, Tryz.ntmps142
  go_wp2
  go_loop [5] (fun i => ∃ k : Nat, k ≤ K.de.length ∧ i = .int .i64 k ∧ Hid (∀ j (hj : j < K.de.length), j < k → ((K.de[j].n : Nat) : Int) ≠ d)) (fun i => K.de.length - (intOf i).toNat)
  case atStart => exact ⟨0, Nat.zero_le _, rfl, fun _ _ h => by omega⟩
  case round =>
    obtain ⟨k, hk, rfl, HA⟩ := hrel
    by_cases hlt : k < K.de.length
    · obtain ⟨b, rfl⟩ : ∃ b, va = some ⟨b, 0, none⟩ := by
        rcases HD.out.2 with ⟨h0, _⟩ | ⟨g, cap, cur, h1, _⟩
        · simp only [Value.slice.injEq] at h0; omega
        · simp only [Value.slice.injEq] at h1; exact ⟨g, h1.1⟩
      have hcell := HD.out.cellAt k (by simpa using hlt)
      rw [List.getElem?_map, List.getElem?_eq_getElem hlt] at hcell
      simp only [Option.map_some] at hcell
      have hbk := (HC.out K.de[k].n K.de[k] (List.getElem_mem _) rfl).1
      have hn : w.cell? ⟨I.db K.de[k].n, 0, none⟩ = some (.int .i64 K.de[k].n) := by rw [cell_of_row w _ 0 _ _ _ hbk]; rfl
      have hk1 : (0 : Int) ≤ (k : Int) := by omega
      have hk2 : (k : Int) < (K.de.length : Int) := by omega
      clear hbk
      obtain ⟨x, hx⟩ : ∃ x, x = K.de[k] := ⟨_, rfl⟩
      rw [← hx] at hcell hn
      have HX := hide hx
      clear hx
      by_cases he : ((x.n : Nat) : Int) = d
      · have HF : Hid (R = some ⟨I.db x.n, 0, none⟩) := hide (by
          rw [HR.out, show K.find d = some x by
            unfold KS.find
            rw [List.find?_eq_some_iff_getElem]
            exact ⟨by simpa using he, k, hlt, HX.out.symm, fun j hj => by simpa using HA.out j (by omega) hj⟩]
          rfl)
        have he2 : (((x.n : Nat) : Int) == d) = true := by simpa using he
        go_wp2
        go_ret
        exact ⟨by rw [HF.out]; rfl, rfl⟩
      · have he2 : (((x.n : Nat) : Int) == d) = false := by simpa using he
        go_wp2
        all_goals
          go_round
          case rel =>
            refine ⟨k + 1, by omega, by go_num, fun j hj hjk => ?_⟩
            rcases Nat.lt_or_ge j k with h | h
            · exact HA.out j hj h
            · obtain rfl : j = k := by omega
              rw [← HX.out]
              exact he
          case measure => simp [intOf]; omega
    · have HF : Hid (R = none) := hide (by
        rw [HR.out, show K.find d = none by
          unfold KS.find
          rw [List.find?_eq_none]
          intro x hx
          obtain ⟨j, hj, rfl⟩ := List.getElem_of_mem hx
          simpa using HA.out j hj (by omega)]
        rfl)
      go_wp2
      go_ret
      exact ⟨by rw [HF.out]; rfl, rfl⟩
end Go.Proofs.YtkkommomefmpgaaGreat

/- The reference's kernel: what a description that is found leads to; Kind, Held, CanRead, CanWrite, Keep. -/
namespace Go.Proofs.YtkkommomefmpgaaGreat
open Go.RowKit

structure DeAt (W : World) (I : RI) (K : KS) (x : De) : Prop where
  t : W.cell? ⟨I.db x.n, 1, none⟩ = some (.pointer (some ⟨I.tb x.th, 0, none⟩))
  f : W.cell? ⟨I.db x.n, 2, none⟩ = some (.int .i64 x.flags)
  p : W.cell? ⟨I.db x.n, 3, none⟩ = some (.int .i64 x.pos)
  h : W.cell? ⟨I.db x.n, 4, none⟩ = some (.int .i64 x.held)
  soft : ∀ j, W.frozen? ⟨I.db x.n, j, none⟩ = false
  lt : x.th < K.th.length
  kind : W.cell? ⟨I.tb x.th, 1, none⟩ = some (.int .i64 (K.tho x).kind)
theorem RK.de {W : World} {B : Nat → Prop} {ρ : Nat → Option Tag} {I : RI} {K : KS} (h : RK W B ρ I K) {x : De} (hx : x ∈ K.de) : DeAt W I K x := by
  have h1 := (h.comp (.desc x.n) x hx rfl).1
  have hl := h.ok.th x hx
  have h2 := (h.comp (.thing x.th) hl).1
  refine ⟨?_, ?_, ?_, ?_, fun j => frozen_of_row W _ j _ _ h1, hl, ?_⟩
  · rw [cell_of_row W _ 1 _ _ _ h1]; rfl
  · rw [cell_of_row W _ 2 _ _ _ h1]; rfl
  · rw [cell_of_row W _ 3 _ _ _ h1]; rfl
  · rw [cell_of_row W _ 4 _ _ _ h1]; rfl
  · rw [cell_of_row W _ 1 _ _ _ h2, KS.tho_eq hl]
    cases h3 : K.th[x.th].ob <;> simp [tcells, h3, Ob.kind]
theorem RK.robj {W : World} {B : Nat → Prop} {ρ : Nat → Option Tag} {I : RI} {K : KS} (h : RK W B ρ I K) {x : De} (hx : x ∈ K.de) : RObj W (fun k => ρ k = some (.obj x.th)) (I.ob x.th) (K.tho x) ∧ (K.tho x).ok := by
  have hl := h.ok.th x hx
  rw [KS.tho_eq hl]
  exact h.comp (.obj x.th) hl
theorem RK.ptr {W : World} {B : Nat → Prop} {ρ : Nat → Option Tag} {I : RI} {K : KS} (h : RK W B ρ I K) {x : De} (hx : x ∈ K.de) :
    (∀ b, K.tho x = .file b → W.cell? ⟨I.tb x.th, 2, none⟩ = some (.pointer (some ⟨I.ob x.th, 0, none⟩))) ∧ (∀ ls scr, K.tho x = .term ls scr → W.cell? ⟨I.tb x.th, 3, none⟩ = some (.pointer (some ⟨I.ob x.th, 0, none⟩))) ∧ (∀ q rd wt, K.tho x = .pipe q rd wt → W.cell? ⟨I.tb x.th, 4, none⟩ = some (.pointer (some ⟨I.ob x.th, 0, none⟩))) := by
  have hl := h.ok.th x hx
  have h2 := (h.comp (.thing x.th) hl).1
  rw [KS.tho_eq hl]
  refine ⟨fun b e => ?_, fun ls scr e => ?_, fun q rd wt e => ?_⟩
  · rw [cell_of_row W _ 2 _ _ _ h2]; simp [tcells, e]
  · rw [cell_of_row W _ 3 _ _ _ h2]; simp [tcells, e]
  · rw [cell_of_row W _ 4 _ _ _ h2]; simp [tcells, e]

end Go.Proofs.YtkkommomefmpgaaGreat

/- The reference's kernel: CanWrite, Held, Keep. -/
namespace Go.Proofs.YtkkommomefmpgaaGreat
open Go.RowKit

theorem RK.setDe {W : World} {B : Nat → Prop} {ρ : Nat → Option Tag} {I : RI} {K : KS} (h : RK W B ρ I K) {x x' : De} (hx : x ∈ K.de) (hn : x'.n = x.n) (ht : x'.th = x.th) (hf : x'.flags = x.flags) (hp : x'.pos ≤ 1048576) (hh : 1 ≤ x'.held ∧ x'.held ≤ 1024) (j : Nat) (v : Value)
    (hl : ([.int .i64 x.n, .pointer (some ⟨I.tb x.th, 0, none⟩), .int .i64 x.flags, .int .i64 x.pos, .int .i64 x.held] : List Value).set j v = [.int .i64 x'.n, .pointer (some ⟨I.tb x'.th, 0, none⟩), .int .i64 x'.flags, .int .i64 x'.pos, .int .i64 x'.held]) :
    RK (W.setCell ⟨I.db x.n, j, none⟩ v) B ρ I (K.setDe x') ∧ Turned (fun k => ρ k = some (.desc x.n)) W (W.setCell ⟨I.db x.n, j, none⟩ v) := by
  obtain ⟨hb, hr⟩ := h.comp (.desc x.n) x hx rfl
  have hs : (W.setCell ⟨I.db x.n, j, none⟩ v).heap.size = W.heap.size := by simp [World.setCell]
  have oth : ∀ k, ρ k ≠ some (.desc x.n) → (W.setCell ⟨I.db x.n, j, none⟩ v).heap[k]? = W.heap[k]? := fun k hk => Below.heap_setCell _ _ _ _ (fun e => hk (by rw [e]; exact hr))
  refine ⟨⟨fun t => ?_, fun k t e => by rw [hs]; exact h.lt k t e, h.ok.setDe hx hn ht hf hp hh, fun k e => h.up k (by rw [hs] at e; exact e)⟩, (Turned.refl _ _).set (.inl hr)⟩
  have kp : ∀ t, t ≠ .desc x.n → RComp (W.setCell ⟨I.db x.n, j, none⟩ v) B ρ I K t := fun t hne => (h.comp t).keep (fun k e _ => oth k (by rw [e]; exact fun e' => hne (Option.some.inj e'))) (Nat.le_of_eq hs.symm)
  cases t with
  | kern => exact kp .kern (by simp)
  | trow => exact kp .trow (by simp)
  | drow =>
    have h1 := kp .drow (by simp)
    refine ⟨?_, h1.2⟩
    have h2 := h1.1
    have e1 : (K.setDe x').de.map (fun d => Value.pointer (some ⟨I.db d.n, 0, none⟩)) = K.de.map fun d => Value.pointer (some ⟨I.db d.n, 0, none⟩) := setDe_ns (fun n => .pointer (some ⟨I.db n, 0, none⟩))
    have e2 : (K.setDe x').de.length = K.de.length := by simp [KS.setDe]
    rw [e1, e2]
    exact h2
  | plan => exact kp .plan (by simp)
  | thing i => exact kp (.thing i) (by simp)
  | obj i => exact kp (.obj i) (by simp)
  | desc n =>
    intro d hd e
    rcases mem_setDe hd with rfl | ⟨h1, h2⟩
    · subst e
      rw [hn]
      refine ⟨?_, hr⟩
      rw [heap_setCell_same j v hb, hl, hn]
    · have hne : n ≠ x.n := by rw [← e, ← hn]; exact h2
      exact kp (.desc n) (by simpa using hne) d h1 e

end Go.Proofs.YtkkommomefmpgaaGreat

/- The reference's kernel: what it is when an object of it turns, when a call is counted, when a fault is used up. -/
namespace Go.Proofs.YtkkommomefmpgaaGreat
open Go.RowKit

theorem RObj.trim {W : World} {O : Nat → Prop} {p : Nat} {ob : Ob} (h : RObj W O p ob) : RObj W (fun k => O k ∧ k < W.heap.size) p ob := by
  have hp := h.at
  cases ob with
  | file b => obtain ⟨u, B, h1, h2, h3, h4⟩ := h; exact ⟨u, B, h1, h2, hp, fun k e => ⟨h4 k e, (h1.row.lt k e).2⟩⟩
  | term ls scr => obtain ⟨la, lc, s, B, O1, h1, h2⟩ := h; exact ⟨la, lc, s, B, O1, h1, fun k e => ⟨h2 k e, (h1.lt k e).2⟩⟩
  | pipe q rd wt =>
    obtain ⟨a, c, B, h1, h2, h3, h4⟩ := h
    refine ⟨a, c, B, h1, h2, hp, fun k e => ⟨h4 k e, ?_⟩⟩
    rcases h1.ad with ⟨rfl, _⟩ | ⟨b, off, rfl, _, _, h8⟩
    · cases e
    · have : b = k := by simpa [Value.ownBlock] using e
      omega
theorem tcells_ob {t : Th} {ob : Ob} (o : Nat) (h : ob.kind = t.ob.kind) : tcells { t with ob := ob } o = tcells t o := by
  obtain ⟨nm, ob0⟩ := t
  cases ob <;> cases ob0 <;> simp_all [tcells, Ob.kind]
theorem RK.setOb {W W' : World} {B : Nat → Prop} {ρ : Nat → Option Tag} {I : RI} {K : KS} (h : RK W B ρ I K) {i : Nat} (hi : i < K.th.length) {ob' : Ob} (hs : ObjStep W (fun k => ρ k = some (.obj i)) (I.ob i) ob' W') (hk : ob'.kind = K.th[i].ob.kind) (hok : ob'.ok) :
    ∃ ρ', RK W' B ρ' I (K.setOb i ob') ∧ (∀ k, k < W.heap.size → ρ' k = ρ k) ∧ Turned B W W' := by
  obtain ⟨O', h1, h2, h3⟩ := hs
  obtain ⟨ρ', hρ⟩ : ∃ ρ' : Nat → Option Tag, ∀ k, (k < W.heap.size → ρ' k = ρ k) ∧ (¬ k < W.heap.size → (O' k ∧ k < W'.heap.size → ρ' k = some (.obj i)) ∧ (¬ (O' k ∧ k < W'.heap.size) → ρ' k = none)) :=
    ⟨fun k => if k < W.heap.size then ρ k else @ite _ (O' k ∧ k < W'.heap.size) (Classical.propDecidable _) (some (.obj i)) none, fun k => ⟨fun hk => if_pos hk, fun hk => ⟨fun ho => (if_neg hk).trans (@if_pos _ (Classical.propDecidable _) ho _ _ _), fun ho => (if_neg hk).trans (@if_neg _ (Classical.propDecidable _) ho _ _ _)⟩⟩⟩
  have old : ∀ k t, ρ k = some t → ρ' k = some t := fun k t e => by rw [(hρ k).1 (h.lt k t e).2]; exact e
  have keep : ∀ t, t ≠ .obj i → RComp W' B ρ I K t := fun t hne => (h.comp t).keep (fun k e hlt => h3.block k hlt (by rw [e]; exact fun e' => hne (Option.some.inj e'))) h3.size
  refine ⟨ρ', ⟨fun t => ?_, fun k t e => ?_, ?_, fun k e => h.up k (Nat.le_trans h3.size e)⟩, fun k hk => (hρ k).1 hk, h3.mono fun k e => (h.lt k _ e).1⟩
  · cases t with
    | kern => have := keep .kern (by simp); exact ⟨this.1, old _ _ this.2⟩
    | trow => have := keep .trow (by simp); exact ⟨this.1, fun k e => old _ _ (this.2 k e)⟩
    | drow => have := keep .drow (by simp); exact ⟨this.1, fun k e => old _ _ (this.2 k e)⟩
    | plan => have := keep .plan (by simp); exact ⟨this.1, old _ _ this.2.1, fun k e => old _ _ (this.2.2 k e)⟩
    | thing j =>
      intro hj
      have hj' : j < K.th.length := by rw [setOb_len] at hj; exact hj
      have h4 := keep (.thing j) (by simp) hj'
      refine ⟨?_, old _ _ h4.2⟩
      by_cases e : j = i
      · subst e
        rw [setOb_same hj hj', tcells_ob _ hk]
        exact h4.1
      · rw [setOb_other e hj hj']
        exact h4.1
    | obj j =>
      intro hj
      have hj' : j < K.th.length := by rw [setOb_len] at hj; exact hj
      by_cases e : j = i
      · subst e
        rw [setOb_same hj hj']
        refine ⟨h1.trim.mono fun k hk => ?_, hok⟩
        by_cases hlt : k < W.heap.size
        · rcases h2 k hk.1 with h5 | h5
          · exact old _ _ h5
          · omega
        · exact ((hρ k).2 hlt).1 hk
      · rw [setOb_other e hj hj']
        have h4 := keep (.obj j) (by simpa using e) hj'
        exact ⟨h4.1.mono fun k e => old _ _ e, h4.2⟩
    | desc n =>
      intro d hd e
      have h4 := keep (.desc n) (by simp) d hd e
      exact ⟨h4.1, old _ _ h4.2⟩
  · by_cases hlt : k < W.heap.size
    · rw [(hρ k).1 hlt] at e
      exact ⟨(h.lt k t e).1, Nat.lt_of_lt_of_le (h.lt k t e).2 h3.size⟩
    · by_cases ho : O' k ∧ k < W'.heap.size
      · exact ⟨h.up k (by omega), ho.2⟩
      · rw [((hρ k).2 hlt).2 ho] at e
        cases e
  · have hl := setOb_len K i ob'
    exact ⟨h.ok.few, h.ok.named, fun d hd => by rw [hl]; exact h.ok.th d hd, fun j hj => by rw [hl]; exact h.ok.nm j hj, h.ok.num, h.ok.once, h.ok.flags, h.ok.pos, h.ok.held, h.ok.plan⟩

end Go.Proofs.YtkkommomefmpgaaGreat

/- The reference's kernel: Read. -/
namespace Go.Proofs.YtkkommomefmpgaaGreat
open Go.RowKit

end Go.Proofs.YtkkommomefmpgaaGreat

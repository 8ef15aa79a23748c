/- What the proof stands on, part 10: the contracts of the program's calls that it reaches. -/
import Derived.Test.YtanbiinomagdbaaGreatKM9
/- The program's kernel: Write, walked. -/
namespace Go.Proofs.YtanbiinomagdbaaGreat
open Go.RowKit Go.Maps

theorem PNum.done {w w1 w4 : World} {ρ : Nat → Option PTag} {I I1 : PI} {r : Int × Int × KS} (hT : Turned (Own ρ) w w1) (hk : I1.kb = I.kb) {e : Ending} (h : PNum ρ I1 w1 r e w4) : PNum ρ I w r e w4 := ⟨h.1, h.2.after hT hk⟩
set_option maxRecDepth 100000 in
set_option maxHeartbeats 4000000 in
theorem kwrite_any (ρ : Nat → Option PTag) (I : PI) (K : KS) (d : Int) (bs : List UInt8) (a1 : Option Addr) (cx : Nat) (w : World) (h : PK w ρ I K) (hd : I64 d) (hr : K.writes < 9223372036854775807)
    (hb : Bys w (.slice a1 bs.length cx) bs) (hcap : bs.length ≤ cx) (hbig : bs.length ≤ 9223372036854775807) (hap : 0 < bs.length → ∀ k, (Value.slice a1 bs.length cx).ownBlock = some k → ¬ Own ρ k) :
    Calls Tryz.prog 61 #[.pointer (some ⟨I.kb, 0, none⟩), .int .i64 d, .slice a1 bs.length cx] w (PNum ρ I w (K.write d bs)) := by
  have HF := hide (described_any ρ I K d w h hd)
  have HX := hide fun E => PNum.refused h (Below.refl _ w) E
  have HK := hide h
  cases hx : K.find d with
  | none =>
    rw [hx] at HF
    rw [show K.write d bs = (0, 64, K) by unfold KS.write; rw [hx]]
    clear h HK hb hap
    go_enter Tryz.func61, Tryz.ntmps61
    go_wp2_with fail
    refine HF.out.mono ?_
    rintro e w1 ⟨rfl, rfl⟩
    unfold descV
    go_wp2
    go_ret2
    exact HX.out 64
  | some x =>
    rw [hx] at HF
    have hm := (KS.find_some hx).1
    have hdc := h.desc hm
    have c0 := hdc.thing
    have c1 := hdc.writes
    by_cases hf : fbit x.flags 2 = 0
    · rw [show K.write d bs = (0, 65, K) by unfold KS.write; rw [hx]; simp only; rw [if_pos hf]]
      rw [bit_no hf] at c1
      clear h hdc HK hb hap
      go_enter Tryz.func61, Tryz.ntmps61
      go_wp2_with fail
      refine HF.out.mono ?_
      rintro e w1 ⟨rfl, rfl⟩
      unfold descV
      go_wp2
      go_ret2
      exact HX.out 65
    · rw [bit_yes hf] at c1
      by_cases hn : 1048576 < bs.length
      · rw [show K.write d bs = (0, 5, K) by unfold KS.write; rw [hx]; simp only; rw [if_neg hf, if_pos hn]]
        have hn' : (1048576 : Int) < (bs.length : Int) := by omega
        clear h hdc HK hb hap
        go_enter Tryz.func61, Tryz.ntmps61
        go_wp2_with fail
        refine HF.out.mono ?_
        rintro e w1 ⟨rfl, rfl⟩
        unfold descV
        go_wp2
        go_ret2
        exact HX.out 5
      · by_cases hz : bs.length = 0
        · rw [show K.write d bs = (0, 0, K) by unfold KS.write; rw [hx]; simp only; rw [if_neg hf, if_neg hn, if_pos hz]]
          obtain rfl := List.length_eq_zero_iff.1 hz
          clear h hdc HK hb hap
          simp only [List.length_nil]
          go_enter Tryz.func61, Tryz.ntmps61
          go_wp2_with fail
          refine HF.out.mono ?_
          rintro e w1 ⟨rfl, rfl⟩
          unfold descV
          go_wp2
          go_ret2
          exact HX.out 0
        · have n1 : 1 ≤ bs.length := by omega
          have n2 : bs.length ≤ 1048576 := by omega
          have n3 : ¬ (1048576 : Int) < (bs.length : Int) := by omega
          have n4 : (1 : Int) ≤ (bs.length : Int) := by omega
          have n5 : (bs.length : Int) ≤ 1048576 := by omega
          have n6 : ¬ (bs.length : Int) = 0 := by omega
          have n7 : ((bs.length : Int) == 0) = false := by simpa using n6
          obtain ⟨pr, hpr⟩ : ∃ pr, pr = nxt K.plan bs.length := ⟨_, rfl⟩
          have HG : Hid (pr.2 = 0 → ∃ m : Nat, pr.1 = m ∧ 1 ≤ m ∧ m ≤ bs.length) := hide (fun e => by rw [hpr] at e ⊢; have := nxt_good h.ok.plan n4 n5 e; exact ⟨(nxt K.plan bs.length).1.toNat, by omega, by omega, by omega⟩)
          have HN := hide fun W I' K' (hW : PK W ρ I' K') (hpl : K'.plan = K.plan) => by
            have := knext_any ρ I' K' bs.length W hW n4 n5
            rw [hpl, ← hpr] at this
            exact this
          have HB := hide (And.intro hb (And.intro hcap (hap (by omega))))
          have HO := hide (h.pobj hm)
          clear hdc hb hap
          cases ho : K.tho x with
          | file b =>
            obtain ⟨RF, hRF⟩ : ∃ RF : Int, RF = (if plc b (bit x.flags 4) x.pos = 1048576 then 31 else 0) := ⟨_, rfl⟩
            have HRf := hide (of_refuses (I.xb x.n) (I.ob x.th) b x.pos (bit x.flags 4) bs.length _ w (h.comp (.ofile x.n) x hm rfl b ho).1 (by have := HO.out; rw [ho] at this; exact this))
            rw [← hRF] at HRf
            have hRF2 : refusal (K.tho x) x.flags x.pos bs.length = RF := by rw [ho, hRF]; rfl
            clear hRF
            have HT0 := hide ho
            rw [thing_file ho] at c0
            have hmw := mf_refuses (I.xb x.n)
            have hmr := mf_write (I.xb x.n)
            by_cases hz2 : RF = 0
            · rw [write_is hx hf n1 n2 (hRF2.trans hz2), ← hpr]
              subst hz2
              clear h HX hpr
              obtain ⟨pr1, pr2⟩ := pr
              simp only at HG HN ⊢
              by_cases he : pr2 = 0
              · subst he
                rw [if_pos rfl]
                obtain ⟨M, hM, hM1, hM2⟩ := HG.out (by first | rfl | trivial)
                subst hM
                go_enter Tryz.func61, Tryz.ntmps61
                go_wp2_with fail
                refine HF.out.mono ?_
                rintro e w1 ⟨rfl, rfl⟩
                unfold descV
                go_wp2_with fail
                refine HRf.out.mono ?_
                rintro e w1' ⟨rfl, rfl⟩
                have hP1 := HK.out
                have HT1 := hide (Turned.refl (Own ρ) w1')
                have HP2 := hide hP1.writeUp
                have c6 := hP1.cells.writes
                have c6s : w1'.frozen? ⟨I.kb, 7, none⟩ = false := frozen_of_row w1' I.kb 7 _ _ (hP1.comp .kern).1
                have c5 := HP2.out.1.cells.plan
                have d2 := (HP2.out.1.desc (x := x) hm).thing
                clear hP1
                go_wp2_with fail
                generalize hw2 : w1'.setCell ⟨I.kb, 7, none⟩ (.int .i64 ((K.writes : Int) + 1)) = w2 at *
                refine (HN.out w2 I _ HP2.out.1 rfl).mono ?_
                rintro e w3 ⟨rfl, v', hP3, hT3⟩
                have hT13 := (HT1.out.trans HP2.out.2 (fun _ _ e => e)).trans hT3 (fun _ _ e => e)
                have hbw : Bys w3 (.slice a1 bs.length cx) bs := HB.out.1.turned hT13 (fun k e _ => HB.out.2.2 k e)
                have c7 := (hP3.desc (x := x) hm).thing
                rw [thing_file (K := { K with writes := K.writes + 1, plan := K.plan.tail }) ho] at c7
                simp only at c7
                go_wp2_with fail
                refine (xwrite_file ρ _ _ x b bs M a1 cx w3 hP3 hm ho hbw HB.out.2.1 hM1 hM2 n2 HB.out.2.2).mono ?_
                rintro e w4 hN4
                obtain rfl := hN4.1
                have HS := hide hN4
                clear hN4
                go_wp2
                go_ret2
                exact PNum.done hT13 rfl HS.out
              · rw [if_neg he]
                have he2 : (pr2 == 0) = false := by simpa using he
                go_enter Tryz.func61, Tryz.ntmps61
                go_wp2_with fail
                refine HF.out.mono ?_
                rintro e w1 ⟨rfl, rfl⟩
                unfold descV
                go_wp2_with fail
                refine HRf.out.mono ?_
                rintro e w1' ⟨rfl, rfl⟩
                have hP1 := HK.out
                have HT1 := hide (Turned.refl (Own ρ) w1')
                have HP2 := hide hP1.writeUp
                have c6 := hP1.cells.writes
                have c6s : w1'.frozen? ⟨I.kb, 7, none⟩ = false := frozen_of_row w1' I.kb 7 _ _ (hP1.comp .kern).1
                have c5 := HP2.out.1.cells.plan
                have d2 := (HP2.out.1.desc (x := x) hm).thing
                clear hP1
                go_wp2_with fail
                generalize hw2 : w1'.setCell ⟨I.kb, 7, none⟩ (.int .i64 ((K.writes : Int) + 1)) = w2 at *
                refine (HN.out w2 I _ HP2.out.1 rfl).mono ?_
                rintro e w3 ⟨rfl, v', hP3, hT3⟩
                have hT13 := (HT1.out.trans HP2.out.2 (fun _ _ e => e)).trans hT3 (fun _ _ e => e)
                have HP3 := hide hP3
                clear hP3
                go_wp2
                go_ret2
                exact ⟨rfl, PNext.of HP3.out rfl hT13⟩
            · have hne : ¬ refusal (K.tho x) x.flags x.pos bs.length = 0 := by rw [hRF2]; exact hz2
              rw [show K.write d bs = (0, RF, K) by unfold KS.write; rw [hx]; simp only; rw [if_neg hf, if_neg hn, if_neg hz, if_neg hne, hRF2]]
              have hz3 : (RF == 0) = false := by simpa using hz2
              clear h HX hpr HG HN hne
              go_enter Tryz.func61, Tryz.ntmps61
              go_wp2_with fail
              refine HF.out.mono ?_
              rintro e w1 ⟨rfl, rfl⟩
              unfold descV
              go_wp2_with fail
              refine HRf.out.mono ?_
              rintro e w1' ⟨rfl, rfl⟩
              go_wp2
              go_ret2
              exact PNum.refused HK.out (Below.refl _ _) RF
          | term ls scr =>
            obtain ⟨RF, hRF⟩ : ∃ RF : Int, RF = (if scr.length = 1048576 then 31 else 0) := ⟨_, rfl⟩
            have HRf := hide (co_refuses (I.cb x.th) (I.ob x.th) scr.length bs.length w (h.comp (.cons x.th) (h.ok.th x hm) ls scr (by rw [← KS.tho_eq (h.ok.th x hm)]; exact ho)).1)
            rw [← hRF] at HRf
            have hRF2 : refusal (K.tho x) x.flags x.pos bs.length = RF := by rw [ho, hRF]; rfl
            clear hRF
            have HT0 := hide ho
            rw [thing_term ho] at c0
            have hmw := mt_refuses (I.cb x.th)
            have hmr := mt_write (I.cb x.th)
            by_cases hz2 : RF = 0
            · rw [write_is hx hf n1 n2 (hRF2.trans hz2), ← hpr]
              subst hz2
              clear h HX hpr
              obtain ⟨pr1, pr2⟩ := pr
              simp only at HG HN ⊢
              by_cases he : pr2 = 0
              · subst he
                rw [if_pos rfl]
                obtain ⟨M, hM, hM1, hM2⟩ := HG.out (by first | rfl | trivial)
                subst hM
                go_enter Tryz.func61, Tryz.ntmps61
                go_wp2_with fail
                refine HF.out.mono ?_
                rintro e w1 ⟨rfl, rfl⟩
                unfold descV
                go_wp2_with fail
                refine HRf.out.mono ?_
                rintro e w1' ⟨rfl, rfl⟩
                have hP1 := HK.out
                have HT1 := hide (Turned.refl (Own ρ) w1')
                have HP2 := hide hP1.writeUp
                have c6 := hP1.cells.writes
                have c6s : w1'.frozen? ⟨I.kb, 7, none⟩ = false := frozen_of_row w1' I.kb 7 _ _ (hP1.comp .kern).1
                have c5 := HP2.out.1.cells.plan
                have d2 := (HP2.out.1.desc (x := x) hm).thing
                clear hP1
                go_wp2_with fail
                generalize hw2 : w1'.setCell ⟨I.kb, 7, none⟩ (.int .i64 ((K.writes : Int) + 1)) = w2 at *
                refine (HN.out w2 I _ HP2.out.1 rfl).mono ?_
                rintro e w3 ⟨rfl, v', hP3, hT3⟩
                have hT13 := (HT1.out.trans HP2.out.2 (fun _ _ e => e)).trans hT3 (fun _ _ e => e)
                have hbw : Bys w3 (.slice a1 bs.length cx) bs := HB.out.1.turned hT13 (fun k e _ => HB.out.2.2 k e)
                have c7 := (hP3.desc (x := x) hm).thing
                rw [thing_term (K := { K with writes := K.writes + 1, plan := K.plan.tail }) ho] at c7
                simp only at c7
                go_wp2_with fail
                refine (xwrite_term ρ _ _ x ls scr bs M a1 cx w3 hP3 hm ho hbw HB.out.2.1 hM1 hM2 n2 HB.out.2.2).mono ?_
                rintro e w4 hN4
                obtain rfl := hN4.1
                have HS := hide hN4
                clear hN4
                go_wp2
                go_ret2
                exact PNum.done hT13 rfl HS.out
              · rw [if_neg he]
                have he2 : (pr2 == 0) = false := by simpa using he
                go_enter Tryz.func61, Tryz.ntmps61
                go_wp2_with fail
                refine HF.out.mono ?_
                rintro e w1 ⟨rfl, rfl⟩
                unfold descV
                go_wp2_with fail
                refine HRf.out.mono ?_
                rintro e w1' ⟨rfl, rfl⟩
                have hP1 := HK.out
                have HT1 := hide (Turned.refl (Own ρ) w1')
                have HP2 := hide hP1.writeUp
                have c6 := hP1.cells.writes
                have c6s : w1'.frozen? ⟨I.kb, 7, none⟩ = false := frozen_of_row w1' I.kb 7 _ _ (hP1.comp .kern).1
                have c5 := HP2.out.1.cells.plan
                have d2 := (HP2.out.1.desc (x := x) hm).thing
                clear hP1
                go_wp2_with fail
                generalize hw2 : w1'.setCell ⟨I.kb, 7, none⟩ (.int .i64 ((K.writes : Int) + 1)) = w2 at *
                refine (HN.out w2 I _ HP2.out.1 rfl).mono ?_
                rintro e w3 ⟨rfl, v', hP3, hT3⟩
                have hT13 := (HT1.out.trans HP2.out.2 (fun _ _ e => e)).trans hT3 (fun _ _ e => e)
                have HP3 := hide hP3
                clear hP3
                go_wp2
                go_ret2
                exact ⟨rfl, PNext.of HP3.out rfl hT13⟩
            · have hne : ¬ refusal (K.tho x) x.flags x.pos bs.length = 0 := by rw [hRF2]; exact hz2
              rw [show K.write d bs = (0, RF, K) by unfold KS.write; rw [hx]; simp only; rw [if_neg hf, if_neg hn, if_neg hz, if_neg hne, hRF2]]
              have hz3 : (RF == 0) = false := by simpa using hz2
              clear h HX hpr HG HN hne
              go_enter Tryz.func61, Tryz.ntmps61
              go_wp2_with fail
              refine HF.out.mono ?_
              rintro e w1 ⟨rfl, rfl⟩
              unfold descV
              go_wp2_with fail
              refine HRf.out.mono ?_
              rintro e w1' ⟨rfl, rfl⟩
              go_wp2
              go_ret2
              exact PNum.refused HK.out (Below.refl _ _) RF
          | pipe q rd wt =>
            obtain ⟨RF, hRF⟩ : ∃ RF : Int, RF = (if rd = 0 then 53 else if canW bs.length q.length rd wt = false then 52 else 0) := ⟨_, rfl⟩
            have HRf := hide (pp_refuses (I.ob x.th) q rd wt bs.length w (by have := HO.out; rw [ho] at this; exact this.1))
            rw [← hRF] at HRf
            have hRF2 : refusal (K.tho x) x.flags x.pos bs.length = RF := by rw [ho, hRF]; rfl
            clear hRF
            have HT0 := hide ho
            rw [thing_pipe ho] at c0
            have hmw := mp_refuses (I.ob x.th)
            have hmr := mp_write (I.ob x.th)
            by_cases hz2 : RF = 0
            · rw [write_is hx hf n1 n2 (hRF2.trans hz2), ← hpr]
              subst hz2
              clear h HX hpr
              obtain ⟨pr1, pr2⟩ := pr
              simp only at HG HN ⊢
              by_cases he : pr2 = 0
              · subst he
                rw [if_pos rfl]
                obtain ⟨M, hM, hM1, hM2⟩ := HG.out (by first | rfl | trivial)
                subst hM
                go_enter Tryz.func61, Tryz.ntmps61
                go_wp2_with fail
                refine HF.out.mono ?_
                rintro e w1 ⟨rfl, rfl⟩
                unfold descV
                go_wp2_with fail
                refine HRf.out.mono ?_
                rintro e w1' ⟨rfl, hB⟩
                have hP1 := HK.out.under hB
                have HT1 := hide (Turned.of_below (S := Own ρ) hB)
                have HP2 := hide hP1.writeUp
                have c6 := hP1.cells.writes
                have c6s : w1'.frozen? ⟨I.kb, 7, none⟩ = false := frozen_of_row w1' I.kb 7 _ _ (hP1.comp .kern).1
                have c5 := HP2.out.1.cells.plan
                have d2 := (HP2.out.1.desc (x := x) hm).thing
                clear hP1
                go_wp2_with fail
                generalize hw2 : w1'.setCell ⟨I.kb, 7, none⟩ (.int .i64 ((K.writes : Int) + 1)) = w2 at *
                refine (HN.out w2 I _ HP2.out.1 rfl).mono ?_
                rintro e w3 ⟨rfl, v', hP3, hT3⟩
                have hT13 := (HT1.out.trans HP2.out.2 (fun _ _ e => e)).trans hT3 (fun _ _ e => e)
                have hbw : Bys w3 (.slice a1 bs.length cx) bs := HB.out.1.turned hT13 (fun k e _ => HB.out.2.2 k e)
                have c7 := (hP3.desc (x := x) hm).thing
                rw [thing_pipe (K := { K with writes := K.writes + 1, plan := K.plan.tail }) ho] at c7
                simp only at c7
                go_wp2_with fail
                refine (xwrite_pipe ρ _ _ x q rd wt bs M a1 cx w3 hP3 hm ho hbw HB.out.2.1 n2 HB.out.2.2).mono ?_
                rintro e w4 hN4
                obtain rfl := hN4.1
                have HS := hide hN4
                clear hN4
                go_wp2
                go_ret2
                exact PNum.done hT13 rfl HS.out
              · rw [if_neg he]
                have he2 : (pr2 == 0) = false := by simpa using he
                go_enter Tryz.func61, Tryz.ntmps61
                go_wp2_with fail
                refine HF.out.mono ?_
                rintro e w1 ⟨rfl, rfl⟩
                unfold descV
                go_wp2_with fail
                refine HRf.out.mono ?_
                rintro e w1' ⟨rfl, hB⟩
                have hP1 := HK.out.under hB
                have HT1 := hide (Turned.of_below (S := Own ρ) hB)
                have HP2 := hide hP1.writeUp
                have c6 := hP1.cells.writes
                have c6s : w1'.frozen? ⟨I.kb, 7, none⟩ = false := frozen_of_row w1' I.kb 7 _ _ (hP1.comp .kern).1
                have c5 := HP2.out.1.cells.plan
                have d2 := (HP2.out.1.desc (x := x) hm).thing
                clear hP1
                go_wp2_with fail
                generalize hw2 : w1'.setCell ⟨I.kb, 7, none⟩ (.int .i64 ((K.writes : Int) + 1)) = w2 at *
                refine (HN.out w2 I _ HP2.out.1 rfl).mono ?_
                rintro e w3 ⟨rfl, v', hP3, hT3⟩
                have hT13 := (HT1.out.trans HP2.out.2 (fun _ _ e => e)).trans hT3 (fun _ _ e => e)
                have HP3 := hide hP3
                clear hP3
                go_wp2
                go_ret2
                exact ⟨rfl, PNext.of HP3.out rfl hT13⟩
            · have hne : ¬ refusal (K.tho x) x.flags x.pos bs.length = 0 := by rw [hRF2]; exact hz2
              rw [show K.write d bs = (0, RF, K) by unfold KS.write; rw [hx]; simp only; rw [if_neg hf, if_neg hn, if_neg hz, if_neg hne, hRF2]]
              have hz3 : (RF == 0) = false := by simpa using hz2
              clear h HX hpr HG HN hne
              go_enter Tryz.func61, Tryz.ntmps61
              go_wp2_with fail
              refine HF.out.mono ?_
              rintro e w1 ⟨rfl, rfl⟩
              unfold descV
              go_wp2_with fail
              refine HRf.out.mono ?_
              rintro e w1' ⟨rfl, hB⟩
              go_wp2
              go_ret2
              exact PNum.refused HK.out hB RF
end Go.Proofs.YtanbiinomagdbaaGreat

/- The program's kernel within a set of blocks: each call. -/
namespace Go.Proofs.YtanbiinomagdbaaGreat
open Go.RowKit Go.Maps

theorem KAt.open {w : World} {O : Nat → Prop} {kb : Nat} {K : KS} (h : KAt w O kb K) (s : ByteArray) (flags : Int) (hs : s.size ≤ maxLen) (hl : K.next < 9223372036854775807) :
    Calls Tryz.prog 55 #[.pointer (some ⟨kb, 0, none⟩), .string s, .int .i64 flags] w fun e w' => e = .returned (.tuple #[.int .i64 (K.open s flags).1, .int .i64 (K.open s flags).2.1]) ∧ KStep w O kb (K.open s flags).2.2 w' := by
  obtain ⟨ρ, I, h1, rfl, h3⟩ := h
  exact (kopen_any ρ I K s flags w h1 hs hl).mono fun e w' ⟨a, b⟩ => ⟨a, b.step h3⟩
theorem KAt.read {w : World} {O : Nat → Prop} {kb : Nat} {K : KS} (h : KAt w O kb K) (d n : Int) (hd : I64 d) (hr : K.reads < 9223372036854775807) :
    Calls Tryz.prog 59 #[.pointer (some ⟨kb, 0, none⟩), .int .i64 d, .int .i64 n] w fun e w' => ∃ v, e = .returned (.tuple #[v, .int .i64 (K.read d n).2.1]) ∧ w'.ownsRow w.heap.size 5 1 v (K.read d n).1.length ((K.read d n).1.map bv) ∧ KAt w' O kb (K.read d n).2.2 ∧ Turned O w w' := by
  obtain ⟨ρ, I, h1, rfl, h3⟩ := h
  exact (kread_any ρ I K d n w h1 hd hr).mono fun e w' ⟨v, a, b, ρ', I', c1, c2, c3, c4⟩ => ⟨v, a, b, ⟨ρ', I', c1, c2, fun k t e => by obtain ⟨t', e'⟩ := c3 k ⟨t, e⟩; exact h3 k t' e'⟩, c4.mono fun k ⟨t, e⟩ => h3 k t e⟩
theorem KAt.write {w : World} {O : Nat → Prop} {kb : Nat} {K : KS} (h : KAt w O kb K) (d : Int) (bs : List UInt8) (a1 : Option Addr) (cx : Nat) (hd : I64 d) (hr : K.writes < 9223372036854775807)
    (hb : Bys w (.slice a1 bs.length cx) bs) (hcap : bs.length ≤ cx) (hbig : bs.length ≤ 9223372036854775807) (hap : 0 < bs.length → ∀ k, (Value.slice a1 bs.length cx).ownBlock = some k → ¬ O k) :
    Calls Tryz.prog 61 #[.pointer (some ⟨kb, 0, none⟩), .int .i64 d, .slice a1 bs.length cx] w fun e w' => e = .returned (.tuple #[.int .i64 (K.write d bs).1, .int .i64 (K.write d bs).2.1]) ∧ KStep w O kb (K.write d bs).2.2 w' := by
  obtain ⟨ρ, I, h1, rfl, h3⟩ := h
  exact (kwrite_any ρ I K d bs a1 cx w h1 hd hr hb hcap hbig (fun h0 k e ⟨t, e'⟩ => hap h0 k e (h3 k t e'))).mono fun e w' ⟨a, b⟩ => ⟨a, b.step h3⟩
theorem KAt.seek {w : World} {O : Nat → Prop} {kb : Nat} {K : KS} (h : KAt w O kb K) (d off wh : Int) (hd : I64 d) (ho : I64 off) :
    Calls Tryz.prog 63 #[.pointer (some ⟨kb, 0, none⟩), .int .i64 d, .int .i64 off, .int .i64 wh] w fun e w' => e = .returned (.tuple #[.int .i64 (K.seek d off wh).1, .int .i64 (K.seek d off wh).2.1]) ∧ KStep w O kb (K.seek d off wh).2.2 w' := by
  obtain ⟨ρ, I, h1, rfl, h3⟩ := h
  exact (kseek_any ρ I K d off wh w h1 hd ho).mono fun e w' ⟨a, b⟩ => ⟨a, b.step h3⟩
theorem KAt.trim {w : World} {O : Nat → Prop} {kb : Nat} {K : KS} (h : KAt w O kb K) : KAt w (fun k => O k ∧ k < w.heap.size) kb K := by
  obtain ⟨ρ, I, h1, h2, h3⟩ := h
  exact ⟨ρ, I, h1, h2, fun k t e => ⟨h3 k t e, h1.lt k t e⟩⟩
end Go.Proofs.YtanbiinomagdbaaGreat

/- The reference's things: files, terminals and pipes in one notion, each within a set of blocks of its own. -/
namespace Go.Proofs.YtanbiinomagdbaaGreat
open Go.RowKit

def RObj (W : World) (O : Nat → Prop) (p : Nat) : Ob → Prop
  | .file b => ∃ u B, RFileAt W B p u b ∧ B ≤ W.heap.size ∧ O p ∧ ∀ k, u.ownBlock = some k → O k
  | .term ls scr => ∃ la lc s B O1, Term W B p 0 O1 la lc s ls scr ∧ ∀ k, O1 k → O k
  | .pipe q rd wt => ∃ a c B, RP W B p a c q rd wt ∧ B ≤ W.heap.size ∧ O p ∧ ∀ k, (Value.slice a q.length c).ownBlock = some k → O k
theorem RObj.at {W : World} {O : Nat → Prop} {p : Nat} {ob : Ob} (h : RObj W O p ob) : O p ∧ p < W.heap.size := by
  cases ob with
  | file b => obtain ⟨u, B, h1, _, h2, _⟩ := h; exact ⟨h2, h1.lt⟩
  | term ls scr => obtain ⟨la, lc, s, B, O1, h1, h2⟩ := h; exact ⟨h2 _ h1.ot, (h1.lt _ h1.ot).2⟩
  | pipe q rd wt => obtain ⟨a, c, B, h1, _, h2, _⟩ := h; exact ⟨h2, h1.lt⟩
theorem RObj.mono {W : World} {O O' : Nat → Prop} {p : Nat} {ob : Ob} (h : RObj W O p ob) (hO : ∀ k, O k → O' k) : RObj W O' p ob := by
  cases ob with
  | file b => obtain ⟨u, B, h1, h2, h3, h4⟩ := h; exact ⟨u, B, h1, h2, hO _ h3, fun k e => hO _ (h4 k e)⟩
  | term ls scr => obtain ⟨la, lc, s, B, O1, h1, h2⟩ := h; exact ⟨la, lc, s, B, O1, h1, fun k e => hO _ (h2 k e)⟩
  | pipe q rd wt => obtain ⟨a, c, B, h1, h2, h3, h4⟩ := h; exact ⟨a, c, B, h1, h2, hO _ h3, fun k e => hO _ (h4 k e)⟩
theorem RObj.keep {W W' : World} {O : Nat → Prop} {p : Nat} {ob : Ob} (h : RObj W O p ob) (hk : ∀ k, O k → k < W.heap.size → W'.heap[k]? = W.heap[k]?) (hs : W.heap.size ≤ W'.heap.size) : RObj W' O p ob := by
  cases ob with
  | file b =>
    obtain ⟨u, B, h1, h2, h3, h4⟩ := h
    have hp := hk p h3 h1.lt
    exact ⟨u, B, ⟨(World.cell?_of_block (w := W) hp).trans h1.data, (World.frozen?_of_block (w := W) hp).trans h1.soft, owns_keep h1.row fun k e => hk k (h4 k e) (h1.row.lt k e).2, h1.apart⟩, Nat.le_trans h2 hs, h3, h4⟩
  | term ls scr =>
    obtain ⟨la, lc, s, B, O1, h1, h2⟩ := h
    exact ⟨la, lc, s, B, O1, h1.keep (fun k e => hk k (h2 k e) (h1.lt k e).2) hs, h2⟩
  | pipe q rd wt =>
    obtain ⟨a, c, B, h1, h2, h3, h4⟩ := h
    refine ⟨a, c, B, ⟨(hk p h3 h1.lt).trans h1.blk, h1.bys.keep fun k e hlt => hk k (h4 k e) hlt, h1.cap, h1.lq, h1.lr, h1.lw, ?_⟩, Nat.le_trans h2 hs, h3, h4⟩
    rcases h1.ad with h5 | ⟨b, off, h5, h6, h7, h8⟩
    · exact .inl h5
    · exact .inr ⟨b, off, h5, h6, h7, Nat.lt_of_lt_of_le h8 hs⟩
def ObjStep (w : World) (O : Nat → Prop) (p : Nat) (ob' : Ob) (w' : World) : Prop := ∃ O', RObj w' O' p ob' ∧ (∀ k, O' k → O k ∨ w.heap.size ≤ k) ∧ Turned O w w'
theorem ob_fwrite (O : Nat → Prop) (p : Nat) (b x : List UInt8) (off : Int) (vx : Value) (w : World) (h : RObj w O p (.file b)) (hl : b.length ≤ 1048576) (hx : Bys w vx x) (hd : 0 < x.length → ∀ k, vx.ownBlock = some k → ¬ O k) :
    Calls Tryz.prog 161 #[.pointer (some ⟨p, 0, none⟩), .int .i64 off, vx] w fun e w' => e = .returned (.int .i64 (Fi_wrE off x.length)) ∧ ObjStep w O p (.file (wrL b off x)) w' := by
  obtain ⟨u, B, h1, h2, h3, h4⟩ := h
  refine (rwriteAt_any B p u b off vx x w h1 hx (fun h0 k e e' => hd h0 k e (h4 k e')) hl h2).mono ?_
  rintro e w' ⟨rfl, u', h5, h6, h7⟩
  refine ⟨rfl, fun k => O k ∨ u'.ownBlock = some k, ⟨u', B, h5, Nat.le_trans h2 h7.size, .inl h3, fun k e => .inr e⟩, fun k e => ?_, h7.mono fun k e => ?_⟩
  · rcases e with e | e
    · exact .inl e
    · exact (h6 k e).imp (h4 k) id
  · rcases e with rfl | e
    · exact h3
    · exact h4 k e
theorem ob_tread (O : Nat → Prop) (p : Nat) (ls : List (List UInt8)) (scr : List UInt8) (n : Int) (w : World) (h : RObj w O p (.term ls scr)) (hok : (Ob.term ls scr).ok) :
    Calls Tryz.prog 155 #[.pointer (some ⟨p, 0, none⟩), .int .i64 n] w fun e w' => ∃ v, e = .returned (.tuple #[v, .int .i64 (Te_rdE n)]) ∧ Bys w' v (rdH ls n) ∧ ObjStep w O p (.term (rdR ls n) scr) w' := by
  obtain ⟨la, lc, s, B, O1, h1, h2⟩ := h
  refine (Te_rread_any B p O1 la lc s ls scr n w h1 hok.1 hok.2.1).mono ?_
  rintro e w' ⟨v, rfl, h3, ⟨la', lc', h4⟩, h5⟩
  exact ⟨v, rfl, h3, O, ⟨la', lc', s, B, O1, h4, h2⟩, fun _ e => .inl e, h5.mono h2⟩
theorem ob_twrite (O : Nat → Prop) (p : Nat) (ls : List (List UInt8)) (scr x : List UInt8) (vx : Value) (w : World) (h : RObj w O p (.term ls scr)) (hok : (Ob.term ls scr).ok) (hx : Bys w vx x) (hxs : x.length ≤ 140737488351232) :
    Calls Tryz.prog 160 #[.pointer (some ⟨p, 0, none⟩), vx] w fun e w' => e = .returned (.int .i64 (Te_wrE scr.length x.length)) ∧ ObjStep w O p (.term ls (wrS scr x)) w' := by
  obtain ⟨la, lc, s, B, O1, h1, h2⟩ := h
  refine (Te_rwrite_any B p O1 la lc s ls scr vx x w h1 hx hok.2.2 hxs).mono ?_
  rintro e w' ⟨rfl, O2, s', h3, h4, h5⟩
  refine ⟨rfl, fun k => O k ∨ O2 k, ⟨la, lc, s', B, O2, h3, fun k e => .inr e⟩, fun k e => ?_, h5.mono h2⟩
  rcases e with e | e
  · exact .inl e
  · exact (h4 k e).imp (h2 k) id
theorem ob_pread (O : Nat → Prop) (p : Nat) (q : List UInt8) (rd wt : Nat) (n : Int) (w : World) (h : RObj w O p (.pipe q rd wt)) :
    Calls Tryz.prog 156 #[.pointer (some ⟨p, 0, none⟩), .int .i64 n] w fun e w' => ∃ v, e = .returned (.tuple #[v, .int .i64 (Kp_rdE n q.length rd wt)]) ∧ Bys w' v (rdB n q rd wt) ∧ ObjStep w O p (.pipe (rdQ n q rd wt) rd wt) w' := by
  obtain ⟨a, c, B, h1, h2, h3, h4⟩ := h
  refine (Kp_rread_any n B p a c q rd wt w h1).mono ?_
  rintro e w' ⟨v, a', c', rfl, h5, h6, h7, h8⟩
  exact ⟨v, rfl, h5, O, ⟨a', c', B, h6, Nat.le_trans h2 h7.size, h3, fun k e => h4 k (h8 k e)⟩, fun _ e => .inl e, h7.mono fun k e => by rw [e]; exact h3⟩
theorem ob_pwrite (O : Nat → Prop) (p : Nat) (q x : List UInt8) (rd wt : Nat) (most : Int) (a1 : Option Addr) (n cx : Nat) (w : World) (h : RObj w O p (.pipe q rd wt)) (hx : Bys w (.slice a1 n cx) x) (hcx : x.length ≤ cx) (hxs : x.length ≤ 140737488351232) :
    Calls Tryz.prog 159 #[.pointer (some ⟨p, 0, none⟩), .slice a1 n cx, .int .i64 most] w fun e w' => e = .returned (.tuple #[.int .i64 (wrN x.length most q.length rd wt : Nat), .int .i64 (Kp_wrE x.length most q.length rd wt)]) ∧ ObjStep w O p (.pipe (q ++ x.take (wrN x.length most q.length rd wt)) rd wt) w' := by
  obtain ⟨a, c, B, h1, h2, h3, h4⟩ := h
  refine (Kp_rwrite_any most B p a c q x a1 n cx rd wt w h1 h2 hx hcx hxs).mono ?_
  rintro e w' ⟨a', c', rfl, h6, h7, h8⟩
  refine ⟨rfl, fun k => O k ∨ (Value.slice a' (q ++ x.take (wrN x.length most q.length rd wt)).length c').ownBlock = some k, ⟨a', c', B, h6, Nat.le_trans h2 h7.size, .inl h3, fun k e => .inr e⟩, fun k e => ?_, h7.mono fun k e => by rw [e]; exact h3⟩
  rcases e with e | e
  · exact .inl e
  · exact (h8 k e).imp (h4 k) id
theorem ob_pcanRead (O : Nat → Prop) (p : Nat) (q : List UInt8) (rd wt : Nat) (w : World) (h : RObj w O p (.pipe q rd wt)) :
    Calls Tryz.prog 153 #[.pointer (some ⟨p, 0, none⟩)] w fun e w' => e = .returned (.bool (canR q.length rd wt)) ∧ w' = w := by
  obtain ⟨a, c, B, h1, h2, h3, h4⟩ := h
  exact rcanRead_any B p a c q rd wt w h1
theorem ob_pcanWrite (O : Nat → Prop) (p : Nat) (q : List UInt8) (rd wt : Nat) (n : Int) (w : World) (h : RObj w O p (.pipe q rd wt)) :
    Calls Tryz.prog 157 #[.pointer (some ⟨p, 0, none⟩), .int .i64 n] w fun e w' => e = .returned (.bool (canW n q.length rd wt)) ∧ w' = w := by
  obtain ⟨a, c, B, h1, h2, h3, h4⟩ := h
  exact rcanWrite_any n B p a c q rd wt w h1
end Go.Proofs.YtanbiinomagdbaaGreat

/- CopyNamed, SameNamed. -/
namespace Go.Proofs.YtanbiinomagdbaaGreat
open Go.RowKit

set_option maxRecDepth 100000 in
set_option maxHeartbeats 2000000 in
theorem sameNamed_any (v1 v2 : Value) (l : List Nm) (w : World) (h1 : Nms w v1 l) (h2 : Nms w v2 l) (hs : l.length ≤ maxLen) (hs2 : ∀ j (hj : j < l.length), l[j].2.length ≤ maxLen) :
    Calls Tryz.prog 70 #[v1, v2] w fun e w' => e = .returned (.bool true) ∧ Below w.heap.size w w' := by
  unfold maxLen at hs
  have H1 := hide h1
  have H2 := hide h2
  have HS := hide hs2
  obtain ⟨a1, c1, rfl⟩ := h1.form
  obtain ⟨a2, c2, rfl⟩ := h2.form
  clear h1 h2 hs2
  go_enter Tryz.func70, Tryz.ntmps70
  go_wp2
  go_loopw [5] (fun i wr => ∃ k : Nat, k ≤ l.length ∧ i = .int .i64 k ∧ Below w.heap.size w wr) (fun i _ => l.length - (intOf i).toNat)
  case atStart => exact ⟨0, Nat.zero_le _, rfl, Below.refl _ _⟩
  case round =>
    obtain ⟨k, hk, rfl, hB⟩ := hrel
    have hsz := hB.size
    by_cases hlt : k < l.length
    · obtain ⟨b1, o1, va1, vc1, rfl, hb1, p0, p1, hy1, -⟩ := (H1.out.below hB).at k hlt
      obtain ⟨b2, o2, va2, vc2, rfl, hb2, q0, q1, hy2, -⟩ := (H2.out.below hB).at k hlt
      have hl4 := HS.out k hlt
      generalize l[k] = p at p0 p1 q0 q1 hy1 hy2 hl4
      obtain ⟨nm, L⟩ := p
      simp only at p0 p1 q0 q1 hy1 hy2 hl4
      have hk1 : (0 : Int) ≤ (k : Int) := by omega
      have hk2 : (k : Int) < (l.length : Int) := by omega
      have HY1 := hide hy1
      have HY2 := hide hy2
      clear hy1 hy2
      go_wp2_with fail
      go_region_held3 (fun w' => w'.cell? ⟨b1, o1 + k * 2, none⟩ = some (.string nm) ∧ w'.cell? ⟨b1, o1 + k * 2 + 1, none⟩ = some (.slice va1 L.length vc1) ∧ w'.cell? ⟨b2, o2 + k * 2, none⟩ = some (.string nm) ∧ w'.cell? ⟨b2, o2 + k * 2 + 1, none⟩ = some (.slice va2 L.length vc2))
        (first | exact K5 | go_keep)
        (first
          | (go_at_call 22; refine (same_any _ _ L _ (HY1.out.below (Below.refl _ wr).drew) (HY2.out.below (Below.refl _ wr).drew) hl4).mono ?_; rintro e w5 ⟨rfl, hB5⟩; have hB05 : Below w.heap.size w w5 := hB.drew.trans (hB5.mono (by show w.heap.size ≤ wr.heap.size; omega)); have K5 : w5.cell? ⟨b1, o1 + k * 2, none⟩ = some (.string nm) ∧ w5.cell? ⟨b1, o1 + k * 2 + 1, none⟩ = some (.slice va1 L.length vc1) ∧ w5.cell? ⟨b2, o2 + k * 2, none⟩ = some (.string nm) ∧ w5.cell? ⟨b2, o2 + k * 2 + 1, none⟩ = some (.slice va2 L.length vc2) := ⟨(hB5.cell (p := ⟨b1, o1 + k * 2, none⟩) hb1).trans p0, (hB5.cell (p := ⟨b1, o1 + k * 2 + 1, none⟩) hb1).trans p1, (hB5.cell (p := ⟨b2, o2 + k * 2, none⟩) hb2).trans q0, (hB5.cell (p := ⟨b2, o2 + k * 2 + 1, none⟩) hb2).trans q1⟩)
          | fail)
      all_goals
        go_wp2
        go_roundw
        case rel => exact ⟨k + 1, by omega, by go_num, hB05⟩
        case measure => simp [intOf]; omega
    · go_wp2
      go_ret
      exact ⟨rfl, hB⟩
end Go.Proofs.YtanbiinomagdbaaGreat

/- CopyTyped. -/
namespace Go.Proofs.YtanbiinomagdbaaGreat
open Go.RowKit

end Go.Proofs.YtanbiinomagdbaaGreat

/- The reference's kernel: Named, has, flagged, Move. -/
namespace Go.Proofs.YtanbiinomagdbaaGreat
open Go.RowKit

set_option maxRecDepth 100000 in
set_option maxHeartbeats 1000000 in
theorem named_any (s : ByteArray) (w : World) (hs : s.size ≤ maxLen) :
    Calls Tryz.prog 48 #[.string s] w fun e w' => e = .returned (.bool (nameOk s)) ∧ w' = w := by
  unfold maxLen at hs
  rcases (show s.size = 0 ∨ (0 < s.size ∧ 64 < s.size) ∨ (0 < s.size ∧ s.size ≤ 64) by omega) with h0 | ⟨h0, h1⟩ | ⟨h0, h1⟩
  · have d0 := kempty_yes s h0
    have hE : nameOk s = false := by unfold nameOk; rw [show decide (0 < s.size) = false by rw [decide_eq_false_iff_not]; omega]; rfl
    rw [hE]
    clear hE
    go_enter Tryz.func48, Tryz.ntmps48
    go_wp2
    go_ret
    exact ⟨rfl, rfl⟩
  · have d0 := kempty_no s (by omega)
    have d1 : (64 : Int) < (s.size : Int) := by omega
    have hE : nameOk s = false := by unfold nameOk; rw [show decide (s.size ≤ 64) = false by simp; omega]; simp
    rw [hE]
    clear hE
    go_enter Tryz.func48, Tryz.ntmps48
    go_wp2
    go_ret
    exact ⟨rfl, rfl⟩
  · have d0 := kempty_no s (by omega)
    have d1 : ¬ (64 : Int) < (s.size : Int) := by omega
    have HE : Hid (nameOk s = s.data.toList.all (fun c => decide (33 ≤ c.toNat) && decide (c.toNat ≤ 126))) := hide (by unfold nameOk; rw [show decide (0 < s.size) = true by simp; omega, show decide (s.size ≤ 64) = true by simp; omega]; rfl)
    rw [HE.out]
    obtain ⟨R, hR⟩ : ∃ R, R = s.data.toList.all (fun c => decide (33 ≤ c.toNat) && decide (c.toNat ≤ 126)) := ⟨_, rfl⟩
    rw [← hR]
    have HR := hide hR
    clear HE hR
    go_enter Tryz.func48, Tryz.ntmps48
    go_wp2
    go_loop [3] (fun i => ∃ k : Nat, k ≤ s.size ∧ i = .int .i64 k ∧ Hid (∀ j (hj : j < s.data.toList.length), j < k → (decide (33 ≤ s.data.toList[j].toNat) && decide (s.data.toList[j].toNat ≤ 126)) = true)) (fun i => s.size - (intOf i).toNat)
    case atStart => exact ⟨0, Nat.zero_le _, rfl, fun _ _ h => by omega⟩
    case round =>
      obtain ⟨k, hk, rfl, HA⟩ := hrel
      by_cases hlt : k < s.size
      · have hby : ((s[k].toNat : Nat) : Int) ≤ 255 := by have := s[k].toNat_lt; omega
        rcases (show (s[k].toNat : Int) < 33 ∨ (¬ (s[k].toNat : Int) < 33 ∧ (126 : Int) < (s[k].toNat : Int)) ∨ (¬ (s[k].toNat : Int) < 33 ∧ ¬ (126 : Int) < (s[k].toNat : Int)) by omega) with e1 | ⟨e1, e2⟩ | ⟨e1, e2⟩
        · have HF : Hid (R = false) := hide (by
            rw [HR.out, List.all_eq_false]
            exact ⟨s[k], by simp [ByteArray.getElem_eq_getElem_data], by simp; omega⟩)
          go_wp2
          go_ret
          exact ⟨by rw [HF.out]; rfl, rfl⟩
        · have HF : Hid (R = false) := hide (by
            rw [HR.out, List.all_eq_false]
            exact ⟨s[k], by simp [ByteArray.getElem_eq_getElem_data], by simp; omega⟩)
          go_wp2
          go_ret
          exact ⟨by rw [HF.out]; rfl, rfl⟩
        · go_wp2
          go_round
          case rel =>
            refine ⟨k + 1, by omega, by go_num, fun j hj hjk => ?_⟩
            rcases Nat.lt_or_ge j k with h | h
            · exact HA.out j hj h
            · obtain rfl : j = k := by omega
              have : s.data.toList[j] = s[j] := by simp [ByteArray.getElem_eq_getElem_data]
              rw [this]
              simp; omega
          case measure => simp [intOf]; omega
      · have HF : Hid (R = true) := hide (by
          rw [HR.out, List.all_eq_true]
          intro c hc
          obtain ⟨j, hj, rfl⟩ := List.getElem_of_mem hc
          have hjs : j < s.size := by simpa using hj
          exact HA.out j hj (by omega))
        go_wp2
        go_ret
        exact ⟨by rw [HF.out]; rfl, rfl⟩

set_option maxRecDepth 100000 in
set_option maxHeartbeats 2000000 in
theorem flagged_any (f : Int) (w : World) :
    Calls Tryz.prog 146 #[.int .i64 f] w fun e w' => e = .returned (.bool (flagsOk f)) ∧ w' = w := by
  unfold flagsOk
  rcases (show f < 0 ∨ (¬ f < 0 ∧ 63 < f) ∨ (¬ f < 0 ∧ ¬ 63 < f) by omega) with e1 | ⟨e1, e2⟩ | ⟨e1, e2⟩
  · rw [show decide (0 ≤ f ∧ f ≤ 63) = false by rw [decide_eq_false_iff_not]; omega]
    go_enter Tryz.func146, Tryz.ntmps146
    go_wp2
    go_ret
    exact ⟨rfl, rfl⟩
  · rw [show decide (0 ≤ f ∧ f ≤ 63) = false by rw [decide_eq_false_iff_not]; omega]
    go_enter Tryz.func146, Tryz.ntmps146
    go_wp2
    go_ret
    exact ⟨rfl, rfl⟩
  · rw [show decide (0 ≤ f ∧ f ≤ 63) = true by rw [decide_eq_true_iff]; omega]
    obtain ⟨v3, h3⟩ : ∃ v, bits .and .i64 f 3 = v := ⟨_, rfl⟩
    obtain ⟨v20, h20⟩ : ∃ v, bits .and .i64 f 20 = v := ⟨_, rfl⟩
    obtain ⟨v2, h2⟩ : ∃ v, bits .and .i64 f 2 = v := ⟨_, rfl⟩
    obtain ⟨v32, h32⟩ : ∃ v, bits .and .i64 f 32 = v := ⟨_, rfl⟩
    obtain ⟨v8, h8⟩ : ∃ v, bits .and .i64 f 8 = v := ⟨_, rfl⟩
    simp only [fbit, h3, h20, h2, h32, h8]
    by_cases k3 : v3 = 0
    · subst k3
      go_enter Tryz.func146, Tryz.ntmps146
      go_wp2
      go_ret
      exact ⟨rfl, rfl⟩
    · have m3 : (v3 == 0) = false := by simpa using k3
      rw [m3]
      by_cases k20 : v20 = 0
      case' pos => subst k20
      case' neg =>
        have m20 : (v20 == 0) = false := by simpa using k20
        have m20' : (v20 != 0) = true := by simpa using k20
        rw [m20]
        by_cases k2 : v2 = 0
        case' pos => subst k2
        case' neg =>
          have m2 : (v2 == 0) = false := by simpa using k2
          rw [m2]
      all_goals
        by_cases k32 : v32 = 0
        case' pos =>
          subst k32
        case' neg =>
          have m32 : (v32 == 0) = false := by simpa using k32
          rw [m32]
          by_cases k8 : v8 = 0
          case' pos => subst k8
          case' neg =>
            have m8 : (v8 == 0) = false := by simpa using k8
            have m8' : (v8 != 0) = true := by simpa using k8
            rw [m8]
      all_goals
        go_enter Tryz.func146, Tryz.ntmps146
        go_wp2
        go_ret
        exact ⟨rfl, rfl⟩
theorem move_any (base off most : Int) (w : World) (h1 : 0 ≤ base) (h2 : base ≤ 1048576) (h3 : 0 ≤ most) (h4 : most ≤ 1048576) :
    Calls Tryz.prog 105 #[.int .i64 base, .int .i64 off, .int .i64 most] w fun e w' => e = .returned (if 0 ≤ base + off ∧ base + off ≤ most then .tuple #[.int .i64 (base + off), .bool true] else .tuple #[.int .i64 0, .bool false]) ∧ w' = w := by
  rcases (show off < -base ∨ (¬ off < -base ∧ most - base < off) ∨ (¬ off < -base ∧ ¬ most - base < off) by omega) with e1 | ⟨e1, e2⟩ | ⟨e1, e2⟩
  · rw [if_neg (by omega)]
    go_enter Tryz.func105, Tryz.ntmps105
    go_wp2
    go_ret2
    exact ⟨rfl, rfl⟩
  · rw [if_neg (by omega)]
    go_enter Tryz.func105, Tryz.ntmps105
    go_wp2
    go_ret2
    exact ⟨rfl, rfl⟩
  · rw [if_pos (by omega)]
    have e3 : -9223372036854775808 ≤ base + off ∧ base + off ≤ 9223372036854775807 := by omega
    go_enter Tryz.func105, Tryz.ntmps105
    go_wp2
    go_ret2
    exact ⟨rfl, rfl⟩
end Go.Proofs.YtanbiinomagdbaaGreat

/- The reference's plan: Next. -/
namespace Go.Proofs.YtanbiinomagdbaaGreat
open Go.RowKit

theorem rplan_world {w : World} {g b off cap n : Nat} {f : Fault} {r : List Fault} {o : Obj} {v' : Value} (h : RPlanAt w g (.slice (some ⟨b, off, none⟩) n cap) (f :: r)) (hn : n = r.length + 1) (hcap : n ≤ cap)
    (hv : v' = .slice (some ⟨b, off + 2, none⟩) r.length (cap - 1) ∨ v' = .slice (some ⟨b, off, none⟩) r.length 0 ∧ cap = 1) :
    RPlanAt ((w.setCell ⟨g, 0, none⟩ v').alloc o) g v' r ∧ v'.ownBlock = some b ∧ w.grownBy ((w.setCell ⟨g, 0, none⟩ v').alloc o) (some g) := by
  have hne : g ≠ b := fun e => h.apart (by rw [e]; rfl)
  have hgl : g < w.heap.size := World.block_lt_of_cell? w _ h.left
  have hsz : (w.setCell ⟨g, 0, none⟩ v').heap.size = w.heap.size := by simp [World.setCell]
  have hal : ∀ k, k < w.heap.size → ((w.setCell ⟨g, 0, none⟩ v').alloc o).heap[k]? = (w.setCell ⟨g, 0, none⟩ v').heap[k]? := fun k hk => Below.heap_alloc _ _ _ (by rw [hsz]; exact hk)
  have hoth : ∀ k, k < w.heap.size → k ≠ g → ((w.setCell ⟨g, 0, none⟩ v').alloc o).heap[k]? = w.heap[k]? := fun k hk hkg => (hal k hk).trans (Below.heap_setCell _ _ _ _ hkg)
  have hob : v'.ownBlock = some b := by rcases hv with rfl | ⟨rfl, _⟩ <;> rfl
  refine ⟨⟨?_, ?_, ?_, by rw [hob]; intro e; exact hne (Option.some.inj e).symm⟩, hob, ⟨rfl, rfl, rfl, ?_, ?_⟩⟩
  · exact (World.cell?_of_block (hal g hgl)).trans (World.cell?_setCell_same _ _ _ h.left)
  · exact (World.frozen?_of_block (hal g hgl)).trans ((World.frozen?_setCell _ _ _ _).trans h.soft)
  · rcases h.list with ⟨h0, _⟩ | ⟨a, c, h0, h1⟩ | ⟨b', off', cap', heq, h0, hc', hc⟩
    · cases h0
    · cases h1
    · cases heq
      rcases hv with rfl | ⟨rfl, h1⟩
      · by_cases hr : r.length = 0
        · exact .inr (.inl ⟨_, _, by rw [hr], List.length_eq_zero_iff.1 hr⟩)
        · refine .inr (.inr ⟨b, off + 2, cap - 1, rfl, by omega, by omega, fun j hj => ?_⟩)
          have hj' : j + 1 < (f :: r).length := by simp only [List.length_cons]; omega
          have hbl : b < w.heap.size := World.block_lt_of_cell? w _ (hc (j + 1) hj').1
          have e := hoth b hbl (Ne.symm hne)
          have e1 := (hc (j + 1) hj').1
          have e2 := (hc (j + 1) hj').2
          rw [List.getD_cons_succ] at e1 e2
          rw [show off + (j + 1) * 2 = off + 2 + j * 2 by omega] at e1 e2
          exact ⟨(World.cell?_of_block (w := w) e).trans e1, (World.cell?_of_block (w := w) e).trans e2⟩
      · have hr : r.length = 0 := by omega
        exact .inr (.inl ⟨_, _, by rw [hr], List.length_eq_zero_iff.1 hr⟩)
  · have := size_new (w.setCell ⟨g, 0, none⟩ v') o
    omega
  · intro k hk hkg
    exact hoth k hk fun e => hkg (by rw [e])

set_option maxRecDepth 100000 in
set_option maxHeartbeats 1000000 in
theorem rnext_range (g : Nat) (want : Int) (w : World) (hw : want < 1 ∨ 1048576 < want) :
    Calls Tryz.prog 154 #[.pointer (some ⟨g, 0, none⟩), .int .i64 want] w fun e w' => e = .returned (.tuple #[.int .i64 0, .int .i64 4]) ∧ w' = w := by
  by_cases hw1 : want < 1
  · go_enter Tryz.func154, Tryz.ntmps154
    go_wp2
    go_ret2
    exact ⟨rfl, rfl⟩
  · have hw2 : 1048576 < want := by omega
    clear hw
    go_enter Tryz.func154, Tryz.ntmps154
    go_wp2
    go_ret2
    exact ⟨rfl, rfl⟩
set_option maxRecDepth 100000 in
set_option maxHeartbeats 1000000 in
theorem rnext_end (g : Nat) (v : Value) (want : Int) (w : World) (h : RPlanAt w g v []) (hw1 : 1 ≤ want) (hw2 : want ≤ 1048576) :
    Calls Tryz.prog 154 #[.pointer (some ⟨g, 0, none⟩), .int .i64 want] w fun e w' => e = .returned (.tuple #[.int .i64 want, .int .i64 0]) ∧ w' = w := by
  obtain ⟨a, c, rfl, -⟩ := flts_form h.list
  have h2 := h.left
  simp only [List.length_nil] at h2
  clear h
  go_enter Tryz.func154, Tryz.ntmps154
  go_wp2
  go_ret2
  exact ⟨rfl, rfl⟩
set_option maxRecDepth 100000 in
set_option maxHeartbeats 1000000 in
theorem rnext_some (g : Nat) (v : Value) (f : Fault) (r : List Fault) (want : Int) (w : World) (h : RPlanAt w g v (f :: r)) (hw1 : 1 ≤ want) (hw2 : want ≤ 1048576) (hs : r.length < maxLen) :
    Calls Tryz.prog 154 #[.pointer (some ⟨g, 0, none⟩), .int .i64 want] w fun e w' => e = .returned (.tuple #[.int .i64 (nxt (f :: r) want).1, .int .i64 (nxt (f :: r) want).2]) ∧ ∃ v', RPlanAt w' g v' r ∧ v'.ownBlock = v.ownBlock ∧ w.grownBy w' (some g) := by
  unfold maxLen at hs
  have h2 := h.left
  have h3 := h.soft
  rcases h.list with ⟨rfl, h0⟩ | ⟨a, cap, rfl, h0⟩ | ⟨b, off, cap, rfl, h0, hcap, hc⟩
  · cases h0
  · cases h0
  · have e1 := (hc 0 h0).1
    have e2 := (hc 0 h0).2
    simp only [Nat.zero_mul, Nat.add_zero, List.getD_cons_zero] at e1 e2
    obtain ⟨x, y⟩ := f
    simp only at e1 e2
    have hne : g ≠ b := fun e => h.apart (by rw [e]; rfl)
    simp only [List.length_cons] at h2 hcap
    have HC := hide hc
    have HP := hide h
    have hgl := World.block_lt_of_cell? w _ h2
    have h2' : ∀ o, (w.alloc o).cell? ⟨g, 0, none⟩ = some (.slice (some ⟨b, off, none⟩) (r.length + 1) cap) := fun o => (World.cell?_of_block (w := w) (Below.heap_alloc w o g hgl)).trans h2
    have h3' : ∀ o, (w.alloc o).frozen? ⟨g, 0, none⟩ = false := fun o => (World.frozen?_of_block (w := w) (Below.heap_alloc w o g hgl)).trans h3
    have hgn : w.heap.size ≠ g := by simp only at hgl; omega
    clear hc h h0 h3
    go_enter Tryz.func154, Tryz.ntmps154
    go_wp2
    all_goals go_ret2
    all_goals refine ⟨ret2 (congrArg (Value.int .i64) ?_) (congrArg (Value.int .i64) ?_), _, rplan_world HP.out (by simp) (by simp only [List.length_cons]; omega) (by first | exact .inl rfl | exact .inr ⟨rfl, by first | rfl | omega⟩)⟩
    all_goals clear HC HP
    all_goals rw [nxt_in hw1 hw2]
    all_goals simp_all
    all_goals omega
end Go.Proofs.YtanbiinomagdbaaGreat

/- The reference's kernel: has, Check. -/
namespace Go.Proofs.YtanbiinomagdbaaGreat
open Go.RowKit

theorem Tryz.infoS : (Tryz.prog.info? 9).map (fun i => (i.zero, i.size, i.bytes)) = some (some (.string ByteArray.empty), 1, 16) := by kernel_rfl
theorem run_append_string (w : World) (ty : TypeId) (base : Nat) (s : Value) (n : Nat) (xs : List Value) (g c : Nat) (nm : ByteArray) (hs : w.ownsRow base 9 1 s n xs) (hx : w.cell? ⟨g, 0, none⟩ = some (.string nm)) (hn : (n + 1) * 16 ≤ 140737488355328) (hb : base ≤ w.heap.size) :
    ∃ s' w', (Builtin.append_ #[127, 127] ty #[s, .slice (some ⟨g, 0, none⟩) 1 c]).run Tryz.prog w = .ok s' w' ∧ Hid (w'.ownsRow base 9 1 s' (n + 1) (xs ++ [.string nm])) ∧ w.grownBy w' s.ownBlock := by
  refine (?_ : ∃ s' w', (Builtin.append_ #[127, 127] ty #[s, .slice (some ⟨g, 0, none⟩) 1 c]).run Tryz.prog w = .ok s' w' ∧ w'.ownsRow base 9 1 s' (n + 1) (xs ++ [.string nm]) ∧ w.grownBy w' s.ownBlock)
  obtain ⟨i0, hi, hz0, hz1, hz2⟩ := info_parts Tryz.infoS
  obtain ⟨v', w', h1, h2, h3, _⟩ := run_append_own_at (P := Tryz.prog) w base 127 ty 9 i0 (.string ByteArray.empty) 1 16 Tryz.underlying127 hi hz0 hz1 hz2 rfl (by decide) s _ _ hs ⟨g, 0, none⟩ 1 c [.string nm] rfl (fun j v hj => by
    match j, hj with
    | 0, hj =>
      obtain rfl : Value.string nm = v := by simpa using hj
      have hadd : (⟨g, 0, none⟩ : Addr).add 0 = ⟨g, 0, none⟩ := by unfold Addr.add; split <;> simp_all
      rw [hadd]; exact hx) (by intro v hv; simp at hv; subst hv; rfl) (by unfold maxLen; omega) (by omega) hb
  exact ⟨v', w', h1, h2, h3⟩

set_option maxRecDepth 100000 in
set_option maxHeartbeats 1000000 in
theorem has_any (base : Nat) (v : Value) (ss : List ByteArray) (s : ByteArray) (w : World) (h : w.ownsRow base 9 1 v ss.length (ss.map .string)) (hl : ss.length ≤ maxLen) :
    Calls Tryz.prog 49 #[v, .string s] w fun e w' => e = .returned (.bool (inNames s ss)) ∧ w' = w := by
  unfold maxLen at hl
  have HO := hide h
  obtain ⟨a, c, rfl⟩ := owns_slice h
  clear h
  obtain ⟨R, hR⟩ : ∃ R, R = inNames s ss := ⟨_, rfl⟩
  rw [← hR]
  have HR := hide hR
  clear hR
  go_enter Tryz.func49, Tryz.ntmps49
  go_wp2
  go_loop [5] (fun i => ∃ k : Nat, k ≤ ss.length ∧ i = .int .i64 k ∧ Hid (∀ j (hj : j < ss.length), j < k → ss[j] ≠ s)) (fun i => ss.length - (intOf i).toNat)
  case atStart => exact ⟨0, Nat.zero_le _, rfl, fun _ _ h => by omega⟩
  case round =>
    obtain ⟨k, hk, rfl, HA⟩ := hrel
    by_cases hlt : k < ss.length
    · obtain ⟨b, rfl⟩ : ∃ b, a = some ⟨b, 0, none⟩ := by
        rcases HO.out.2 with ⟨h0, _⟩ | ⟨g, cap, cur, h1, _⟩
        · simp only [Value.slice.injEq] at h0; omega
        · simp only [Value.slice.injEq] at h1; exact ⟨g, h1.1⟩
      have hcell := HO.out.cellAt k (by simpa using hlt)
      rw [List.getElem?_map, List.getElem?_eq_getElem hlt] at hcell
      simp only [Option.map_some] at hcell
      obtain ⟨x, hx⟩ : ∃ x, x = ss[k] := ⟨_, rfl⟩
      rw [← hx] at hcell
      have HX := hide hx
      clear hx
      have hk1 : (0 : Int) ≤ (k : Int) := by omega
      have hk2 : (k : Int) < (ss.length : Int) := by omega
      by_cases he : x = s
      · have HF : Hid (R = true) := hide (by rw [HR.out, inNames_iff, ← he, HX.out]; exact List.getElem_mem _)
        subst he
        go_wp2
        go_ret
        exact ⟨by rw [HF.out]; rfl, rfl⟩
      · have he2 : (x.toList == s.toList) = false := by rw [ByteArray.toList_eq, ByteArray.toList_eq, beq_eq_false_iff_ne]; exact bytes_ne he
        have he3 : ¬ x.toList = s.toList := by rw [ByteArray.toList_eq, ByteArray.toList_eq]; exact bytes_ne he
        go_wp2
        all_goals
          go_round
          case rel =>
            refine ⟨k + 1, by omega, by go_num, fun j hj hjk => ?_⟩
            rcases Nat.lt_or_ge j k with h | h
            · exact HA.out j hj h
            · obtain rfl : j = k := by omega
              rw [← HX.out]
              exact he
          case measure => simp [intOf]; omega
    · have HF : Hid (R = false) := hide (by
        rw [HR.out, Bool.eq_false_iff, Ne, inNames_iff]
        intro hm
        obtain ⟨j, hj, he⟩ := List.getElem_of_mem hm
        exact HA.out j hj (by omega) he)
      go_wp2
      go_ret
      exact ⟨by rw [HF.out]; rfl, rfl⟩

set_option maxRecDepth 100000 in
set_option maxHeartbeats 4000000 in
theorem rkcheck_any (v1 v2 v3 : Value) (fs : List Nm) (ts : List Tp) (l : List Fault) (w : World) (h1 : Nms w v1 fs) (h2 : Tps w v2 ts) (h3 : Flts w v3 l) (hs1 : fs.length * 40 ≤ 140737488351232) (hs2 : ts.length * 40 ≤ 140737488351232) (hs3 : ∀ j (hj : j < ts.length), ts[j].2.length * 24 ≤ 140737488351232) (hs4 : l.length ≤ maxLen) :
    Calls Tryz.prog 11 #[v1, v2, v3] w fun e w' => e = .returned (.int .i64 (checkE fs ts l)) ∧ Below w.heap.size w w' := by
  have H1 := hide h1
  have H2 := hide h2
  have H3 := hide h3
  have HS3 := hide hs3
  obtain ⟨a1, c1, rfl⟩ := h1.form
  obtain ⟨a2, c2, rfl⟩ := h2.form
  clear h1 h2 h3 hs3
  have HE1 : Hid (256 < fs.length + ts.length → checkE fs ts l = 3) := hide fun h => by unfold checkE; rw [if_pos h]
  have HE2 : Hid (¬ 256 < fs.length + ts.length → (kfiles [] fs).1 ≠ 0 → checkE fs ts l = (kfiles [] fs).1) := hide fun h h' => by unfold checkE; rw [if_neg h, if_neg h']
  have HE3 : Hid (¬ 256 < fs.length + ts.length → (kfiles [] fs).1 = 0 → kterms (kfiles [] fs).2 ts ≠ 0 → checkE fs ts l = kterms (kfiles [] fs).2 ts) := hide fun h h' h'' => by unfold checkE; rw [if_neg h, if_pos h', if_neg h'']
  have HE4 : Hid (¬ 256 < fs.length + ts.length → (kfiles [] fs).1 = 0 → kterms (kfiles [] fs).2 ts = 0 → checkE fs ts l = (chk l).1) := hide fun h h' h'' => by unfold checkE; rw [if_neg h, if_pos h', if_pos h'']
  generalize checkE fs ts l = E at *
  by_cases hc : 256 < fs.length + ts.length
  · have hd : (256 : Int) < (fs.length : Int) + (ts.length : Int) := by omega
    have HE := hide (HE1.out hc)
    clear HE1 HE2 HE3 HE4
    go_enter Tryz.func11, Tryz.ntmps11
    go_wp2
    go_ret
    exact ⟨by rw [HE.out]; rfl, Below.refl _ _⟩
  · have hd : ¬ (256 : Int) < (fs.length : Int) + (ts.length : Int) := by omega
    have HE2 := hide (HE2.out hc)
    have HE3 := hide (HE3.out hc)
    have HE4 := hide (HE4.out hc)
    obtain ⟨K, hK⟩ : ∃ K, K = kfiles [] fs := ⟨_, rfl⟩
    have HK := hide hK
    rw [← hK] at HE2 HE3 HE4
    clear hK HE1
    go_enter Tryz.func11, Tryz.ntmps11
    go_wp2
    go_loopw [7, 8] (fun nv i wr => ∃ (k : Nat) (ns : List ByteArray), k ≤ fs.length ∧ i = .int .i64 k ∧ ns.length = k ∧ Hid (wr.ownsRow w.heap.size 9 1 nv ns.length (ns.map .string)) ∧ Hid (kfiles ns (fs.drop k) = K) ∧ Below w.heap.size w wr) (fun _ i _ => fs.length - (intOf i).toNat)
    case atStart => exact ⟨0, [], Nat.zero_le _, rfl, rfl, World.ownsRow_nil _ _ _ _, by rw [HK.out]; rfl, Below.refl _ _⟩
    case round =>
      obtain ⟨k, ns, hk, rfl, hnl, HO, HF, hB⟩ := hrel
      obtain ⟨na, nc, rfl⟩ := owns_slice HO.out
      have hsz := hB.size
      have hnb : ns.length ≤ 256 := by omega
      have HNl := hide hnl
      clear hnl
      by_cases hlt : k < fs.length
      · obtain ⟨b, off, va, vc, rfl, hbl, q0, q1, -, -, hnm⟩ := H1.out.at k hlt
        have hc0 := (hB.cell (p := ⟨b, off + k * 2, none⟩) hbl).trans q0
        have hc1 := (hB.cell (p := ⟨b, off + k * 2 + 1, none⟩) hbl).trans q1
        have hF := HF.out
        rw [drop_at fs k hlt] at hF
        have hk1 : (0 : Int) ≤ (k : Int) := by omega
        have hk2 : (k : Int) < (fs.length : Int) := by omega
        clear q0 q1 HF
        generalize fs[k] = p at hc0 hc1 hnm hF
        obtain ⟨nm, L⟩ := p
        simp only at hc0 hc1 hnm
        rw [kfiles] at hF
        by_cases n1 : nameOk nm = false
        · rw [if_pos n1] at hF
          have HR := hide (HE2.out (by rw [← hF]; simp))
          have HK1 : Hid (K.1 = 61) := hide (by rw [← hF])
          have HN := hide n1
          clear hF n1
          go_wp2_with fail
          refine (named_any nm _ hnm).mono ?_
          rintro e w2 ⟨rfl, rfl⟩
          rw [HN.out]
          go_wp2
          go_ret
          exact ⟨by rw [HR.out, HK1.out]; rfl, hB⟩
        · rw [if_neg n1] at hF
          have HN : Hid (nameOk nm = true) := hide (by simpa using n1)
          clear n1
          by_cases n2 : inNames nm ns = true
          · rw [if_pos n2] at hF
            have HR := hide (HE2.out (by rw [← hF]; simp))
            have HK1 : Hid (K.1 = 6) := hide (by rw [← hF])
            have HN2 := hide n2
            clear hF n2
            go_wp2_with fail
            refine (named_any nm _ hnm).mono ?_
            rintro e w2 ⟨rfl, rfl⟩
            rw [HN.out]
            go_wp2_with fail
            refine (has_any _ _ ns nm _ HO.out (by unfold maxLen; omega)).mono ?_
            rintro e w2 ⟨rfl, rfl⟩
            rw [HN2.out]
            go_wp2
            go_ret
            exact ⟨by rw [HR.out, HK1.out]; rfl, hB⟩
          · rw [if_neg n2] at hF
            have HN2 : Hid (inNames nm ns = false) := hide (by simpa using n2)
            clear n2
            by_cases n3 : 1048576 < L.length
            · rw [if_pos n3] at hF
              have HR := hide (HE2.out (by rw [← hF]; simp))
              have HK1 : Hid (K.1 = 5) := hide (by rw [← hF])
              have d3 : (1048576 : Int) < (L.length : Int) := by omega
              clear hF
              go_wp2_with fail
              refine (named_any nm _ hnm).mono ?_
              rintro e w2 ⟨rfl, rfl⟩
              rw [HN.out]
              go_wp2_with fail
              refine (has_any _ _ ns nm _ HO.out (by unfold maxLen; omega)).mono ?_
              rintro e w2 ⟨rfl, rfl⟩
              rw [HN2.out]
              go_wp2
              go_ret
              exact ⟨by rw [HR.out, HK1.out]; rfl, hB⟩
            · rw [if_neg n3] at hF
              have d3 : ¬ (1048576 : Int) < (L.length : Int) := by omega
              have HF := hide hF
              clear hF
              have hBa : Below wr.heap.size wr (wr.alloc (Obj.cells #[.string nm] 9)) := (Below.refl _ _).alloc (Nat.le_refl _) _
              have hcu : (wr.alloc (Obj.cells #[.string nm] 9)).cell? ⟨wr.heap.size, 0, none⟩ = some (.string nm) := by simp only [World.cell?, heap_alloc_new]; rfl
              have hza := size_new wr (Obj.cells #[.string nm] 9)
              have HOa := hide (owns_below HO.out hBa)
              obtain ⟨s', w7, hrun, HO7, hg7⟩ := run_append_string (wr.alloc (Obj.cells #[.string nm] 9)) 127 w.heap.size _ ns.length _ wr.heap.size 1 nm HOa.out hcu (by omega) (by omega)
              have HR := hide hrun
              have hB0a := hB.trans (hBa.mono hsz)
              clear hrun hcu
              go_wp2_with fail
              refine (named_any nm _ hnm).mono ?_
              rintro e w2 ⟨rfl, rfl⟩
              rw [HN.out]
              go_wp2_with fail
              refine (has_any _ _ ns nm _ HO.out (by unfold maxLen; omega)).mono ?_
              rintro e w2 ⟨rfl, rfl⟩
              rw [HN2.out]
              go_wp2_with (at_builtin; refine Lib.wpList_append_run _ rfl _ _ _ _ rfl _ _ rfl rfl _ _ HR.out ?_)
              all_goals
                go_roundw
                case rel => exact ⟨k + 1, ns ++ [nm], by omega, by go_num, by simp [HNl.out], hide (by have := HO7.out; simpa using this), HF, hB0a.grown hg7 hB0a.size (fun j e => (HOa.out.lt j e).1)⟩
                case measure => simp [intOf]; omega
      · have hke : k = fs.length := by have := HNl.out; omega
        have hF := HF.out
        rw [List.drop_eq_nil_of_le (by omega), kfiles] at hF
        have HE3 := hide (HE3.out (by rw [← hF]))
        have HE4 := hide (HE4.out (by rw [← hF]))
        rw [← hF] at HE3 HE4
        obtain ⟨M, hM⟩ : ∃ M, M = kterms ns ts := ⟨_, rfl⟩
        have HM := hide hM
        have HE3 : Hid (M ≠ 0 → E = M) := hide (by rw [hM]; exact HE3.out)
        have HE4 : Hid (M = 0 → E = (chk l).1) := hide (by rw [hM]; exact HE4.out)
        have HBk := hide hnb
        clear hF HF HE2 HK hM hnb
        go_wp2
        go_loopw [7, 9, 10] (fun nv i _ wq => ∃ (k : Nat) (ms : List ByteArray), k ≤ ts.length ∧ i = .int .i64 k ∧ Hid (ms.length = fs.length + k) ∧ Hid (wq.ownsRow w.heap.size 9 1 nv ms.length (ms.map .string)) ∧ Hid (kterms ms (ts.drop k) = M) ∧ Below w.heap.size w wq) (fun _ i _ _ => ts.length - (intOf i).toNat)
        case atStart => exact ⟨0, ns, Nat.zero_le _, rfl, hide (by have := HNl.out; omega), HO, by rw [HM.out]; rfl, hB⟩
        case round =>
          rename_i hrel
          clear HO HM HNl HBk
          obtain ⟨k2, ms, hk, rfl, HNl, HO, HF, hB⟩ := hrel
          obtain ⟨na2, nc2, rfl⟩ := owns_slice HO.out
          have hsz := hB.size
          have hnb : ms.length ≤ 256 := by have := HNl.out; omega
          by_cases hlt : k2 < ts.length
          · obtain ⟨b, off, va, vc, rfl, hbl, q0, q1, hln, hnm⟩ := H2.out.at k2 hlt
            have hc0 := (hB.cell (p := ⟨b, off + k2 * 2, none⟩) hbl).trans q0
            have hc1 := (hB.cell (p := ⟨b, off + k2 * 2 + 1, none⟩) hbl).trans q1
            have hls := HS3.out k2 hlt
            have hF := HF.out
            rw [drop_at ts k2 hlt] at hF
            have hk1 : (0 : Int) ≤ (k2 : Int) := by omega
            have hk2 : (k2 : Int) < (ts.length : Int) := by omega
            clear q0 q1 HF
            generalize ts[k2] = p at hc0 hc1 hnm hF hln hls
            obtain ⟨nm, ls⟩ := p
            simp only at hc0 hc1 hnm hln hls
            have HLn := hide hln
            clear hln
            rw [kterms] at hF
            by_cases n1 : nameOk nm = false
            · rw [if_pos n1] at hF
              have HR := hide (HE3.out (by rw [← hF]; decide))
              have HK1 := hide hF
              have HN := hide n1
              clear hF n1
              go_wp2_with fail
              refine (named_any nm _ hnm).mono ?_
              rintro e w2 ⟨rfl, rfl⟩
              rw [HN.out]
              go_wp2
              go_ret
              exact ⟨by rw [HR.out, ← HK1.out]; rfl, hB⟩
            · rw [if_neg n1] at hF
              have HN : Hid (nameOk nm = true) := hide (by simpa using n1)
              clear n1
              by_cases n2 : inNames nm ms = true
              · rw [if_pos n2] at hF
                have HR := hide (HE3.out (by rw [← hF]; decide))
                have HK1 := hide hF
                have HN2 := hide n2
                clear hF n2
                go_wp2_with fail
                refine (named_any nm _ hnm).mono ?_
                rintro e w2 ⟨rfl, rfl⟩
                rw [HN.out]
                go_wp2_with fail
                refine (has_any _ _ ms nm _ HO.out (by unfold maxLen; omega)).mono ?_
                rintro e w2 ⟨rfl, rfl⟩
                rw [HN2.out]
                go_wp2
                go_ret
                exact ⟨by rw [HR.out, ← HK1.out]; rfl, hB⟩
              · rw [if_neg n2] at hF
                have HN2 : Hid (inNames nm ms = false) := hide (by simpa using n2)
                clear n2
                by_cases n3 : newE ls = 0
                · rw [if_pos n3] at hF
                  have HF := hide hF
                  have HN3 := hide n3
                  clear hF n3
                  have hBa : Below wr.heap.size wr (wr.alloc (Obj.cells #[.string nm] 9)) := (Below.refl _ _).alloc (Nat.le_refl _) _
                  have hcu : (wr.alloc (Obj.cells #[.string nm] 9)).cell? ⟨wr.heap.size, 0, none⟩ = some (.string nm) := by simp only [World.cell?, heap_alloc_new]; rfl
                  have hza := size_new wr (Obj.cells #[.string nm] 9)
                  have HOa := hide (owns_below HO.out hBa)
                  obtain ⟨s', w7, hrun, HO7, hg7⟩ := run_append_string (wr.alloc (Obj.cells #[.string nm] 9)) 127 w.heap.size _ ms.length _ wr.heap.size 1 nm HOa.out hcu (by omega) (by omega)
                  have HR := hide hrun
                  have hB0a := hB.trans (hBa.mono hsz)
                  clear hrun hcu
                  go_wp2_with fail
                  refine (named_any nm _ hnm).mono ?_
                  rintro e w2 ⟨rfl, rfl⟩
                  rw [HN.out]
                  go_wp2_with fail
                  refine (has_any _ _ ms nm _ HO.out (by unfold maxLen; omega)).mono ?_
                  rintro e w2 ⟨rfl, rfl⟩
                  rw [HN2.out]
                  go_wp2_with fail
                  refine (Te_check_any _ ls _ (HLn.out.below hB) hls).mono ?_
                  rintro e w2 ⟨rfl, rfl⟩
                  rw [HN3.out]
                  go_wp2_with (at_builtin; refine Lib.wpList_append_run _ rfl _ _ _ _ rfl _ _ rfl rfl _ _ HR.out ?_)
                  all_goals
                    go_roundw
                    case rel => exact ⟨k2 + 1, ms ++ [nm], by omega, by go_num, hide (by have := HNl.out; simp; omega), hide (by have := HO7.out; simpa using this), HF, hB0a.grown hg7 hB0a.size (fun j e => (HOa.out.lt j e).1)⟩
                    case measure => simp [intOf]; omega
                · rw [if_neg n3] at hF
                  obtain ⟨x, hx⟩ : ∃ x, x = newE ls := ⟨_, rfl⟩
                  have HR := hide (HE3.out (by rw [← hF]; exact n3))
                  have HK1 := hide hF
                  have HN3 : Hid (newE ls = x) := hide hx.symm
                  rw [← hx] at n3
                  have n3' : (x != 0) = true := by simpa using n3
                  clear hF hx
                  go_wp2_with fail
                  refine (named_any nm _ hnm).mono ?_
                  rintro e w2 ⟨rfl, rfl⟩
                  rw [HN.out]
                  go_wp2_with fail
                  refine (has_any _ _ ms nm _ HO.out (by unfold maxLen; omega)).mono ?_
                  rintro e w2 ⟨rfl, rfl⟩
                  rw [HN2.out]
                  go_wp2_with fail
                  refine (Te_check_any _ ls _ (HLn.out.below hB) hls).mono ?_
                  rintro e w2 ⟨rfl, rfl⟩
                  rw [HN3.out]
                  go_wp2
                  go_ret
                  exact ⟨by rw [HR.out, ← HK1.out, HN3.out]; rfl, hB⟩
          · have hF := HF.out
            rw [List.drop_eq_nil_of_le (by omega), kterms] at hF
            have HR := hide (HE4.out hF.symm)
            clear hF HF
            go_wp2_with fail
            refine (rcheck_any _ l _ (H3.out.below hB) hs4).mono ?_
            rintro e w5 ⟨rfl, hB5⟩
            go_wp2
            go_ret
            exact ⟨by rw [HR.out]; rfl, hB.trans (hB5.mono hsz)⟩
end Go.Proofs.YtanbiinomagdbaaGreat

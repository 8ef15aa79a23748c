/- What the proof stands on, part 9: the contracts of the program's calls that it reaches. -/
import Derived.Test.YtkgbhcpeoaefjaaGreatKM8
/- The program's kernel: Read, walked. -/
namespace Go.Proofs.YtkgbhcpeoaefjaaGreat
open Go.RowKit Go.Maps

theorem PRd.done {w w1 w4 : World} {ρ : Nat → Option PTag} {I I1 : PI} {r : List UInt8 × Int × KS} {v : Value} (hT : Turned (Own ρ) w w1) (hk : I1.kb = I.kb) (hrow : w4.ownsRow w1.heap.size 5 1 v r.1.length (r.1.map bv)) (hN : PHold ρ I1 w1 r.2.2 w4) :
    PRd ρ I w r (.returned (.tuple #[v, .int .i64 r.2.1])) w4 := ⟨v, rfl, owns_mono hrow hT.size, hN.after hT hk⟩
theorem waits_file {ob : Ob} {b : List UInt8} (h : ob = .file b) : ob.waits = false := by rw [h]; rfl
theorem waits_term {ob : Ob} {ls : List (List UInt8)} {scr : List UInt8} (h : ob = .term ls scr) : ob.waits = false := by rw [h]; rfl
set_option maxRecDepth 100000 in
theorem of_readWaits (x : Nat) (w : World) : Calls Tryz.prog 137 #[.pointer (some ⟨x, 0, none⟩)] w fun e w' => e = .returned (.bool false) ∧ w' = w := by
  go_enter Tryz.func137, Tryz.ntmps137
  go_wp2
  go_ret
  exact ⟨rfl, rfl⟩
set_option maxRecDepth 100000 in
theorem co_readWaits (x : Nat) (w : World) : Calls Tryz.prog 128 #[.pointer (some ⟨x, 0, none⟩)] w fun e w' => e = .returned (.bool false) ∧ w' = w := by
  go_enter Tryz.func128, Tryz.ntmps128
  go_wp2
  go_ret
  exact ⟨rfl, rfl⟩
set_option maxRecDepth 100000 in
set_option maxHeartbeats 4000000 in
theorem kread_any (ρ : Nat → Option PTag) (I : PI) (K : KS) (d n : Int) (w : World) (h : PK w ρ I K) (hd : I64 d) (hr : K.reads < 9223372036854775807) :
    Calls Tryz.prog 14 #[.pointer (some ⟨I.kb, 0, none⟩), .int .i64 d, .int .i64 n] w (PRd ρ I w (K.read d n)) := by
  have HF := hide (described_any ρ I K d w h hd)
  have HX := hide fun E => PRd.refused h (Below.refl _ w) E
  have HK := hide h
  cases hx : K.find d with
  | none =>
    rw [hx] at HF
    rw [show K.read d n = ([], 64, K) by unfold KS.read; rw [hx]]
    clear h HK
    go_enter Tryz.func14, Tryz.ntmps14
    go_wp2_with fail
    refine HF.out.mono ?_
    rintro e w1 ⟨rfl, rfl⟩
    unfold descV
    go_wp2
    go_ret2
    exact HX.out 64
  | some x =>
    rw [hx] at HF
    have hm := (KS.find_some hx).1
    have hdc := h.desc hm
    have c0 := hdc.thing
    have c1 := hdc.reads
    by_cases hf : fbit x.flags 1 = 0
    · rw [show K.read d n = ([], 65, K) by unfold KS.read; rw [hx]; simp only; rw [if_pos hf]]
      rw [bit_no hf] at c1
      clear h hdc HK
      go_enter Tryz.func14, Tryz.ntmps14
      go_wp2_with fail
      refine HF.out.mono ?_
      rintro e w1 ⟨rfl, rfl⟩
      unfold descV
      go_wp2
      go_ret2
      exact HX.out 65
    · rw [bit_yes hf] at c1
      by_cases hn : n < 0 ∨ 1048576 < n
      · rw [show K.read d n = ([], 4, K) by unfold KS.read; rw [hx]; simp only; rw [if_neg hf, if_pos hn]]
        clear h hdc HK
        rcases hn with hn | hn
        · go_enter Tryz.func14, Tryz.ntmps14
          go_wp2_with fail
          refine HF.out.mono ?_
          rintro e w1 ⟨rfl, rfl⟩
          unfold descV
          go_wp2
          go_ret2
          exact HX.out 4
        · have hn' : ¬ n < 0 := by omega
          go_enter Tryz.func14, Tryz.ntmps14
          go_wp2_with fail
          refine HF.out.mono ?_
          rintro e w1 ⟨rfl, rfl⟩
          unfold descV
          go_wp2
          go_ret2
          exact HX.out 4
      · by_cases hz : n = 0
        · rw [show K.read d n = ([], 0, K) by unfold KS.read; rw [hx]; simp only; rw [if_neg hf, if_neg hn, if_pos hz]]
          subst hz
          clear h hdc HK
          go_enter Tryz.func14, Tryz.ntmps14
          go_wp2_with fail
          refine HF.out.mono ?_
          rintro e w1 ⟨rfl, rfl⟩
          unfold descV
          go_wp2
          go_ret2
          exact HX.out 0
        · have n1 : ¬ n < 0 := by omega
          have n2 : ¬ 1048576 < n := by omega
          have n3 : (n == 0) = false := by simpa using hz
          have n4 : 1 ≤ n := by omega
          have n5 : n ≤ 1048576 := by omega
          have n6 : ¬ n = 0 := hz
          obtain ⟨pr, hpr⟩ : ∃ pr, pr = nxt K.plan n := ⟨_, rfl⟩
          have HG : Hid (pr.2 = 0 → 1 ≤ pr.1 ∧ pr.1 ≤ 1048576) := hide (fun e => by rw [hpr] at e ⊢; have := nxt_good h.ok.plan n4 n5 e; omega)
          have HN := hide fun W I' K' (hW : PK W ρ I' K') (hpl : K'.plan = K.plan) => by
            have := knext_any ρ I' K' n W hW n4 n5
            rw [hpl, ← hpr] at this
            exact this
          have hK := HK
          clear hdc
          cases ho : K.tho x with
          | file b =>
            rw [read_is hx hf n4 n5 (waits_file ho), ← hpr]
            have HP2 := hide h.readUp
            have HT0 := hide ho
            rw [thing_file ho] at c0
            have hmw := mf_readWaits (I.xb x.n)
            have hmr := mf_read (I.xb x.n)
            have c6 := h.cells.reads
            have c6s : w.frozen? ⟨I.kb, 6, none⟩ = false := frozen_of_row w I.kb 6 _ _ (h.comp .kern).1
            have c5 := HP2.out.1.cells.plan
            have d2 := (HP2.out.1.desc (x := x) hm).thing
            clear h HX HK
            clear hpr
            obtain ⟨pr1, pr2⟩ := pr
            simp only at HG HN ⊢
            by_cases he : pr2 = 0
            · subst he
              rw [if_pos rfl]
              go_enter Tryz.func14, Tryz.ntmps14
              go_wp2_with fail
              refine HF.out.mono ?_
              rintro e w1 ⟨rfl, rfl⟩
              unfold descV
              go_wp2_with fail
              refine (of_readWaits (I.xb x.n) _).mono ?_
              rintro e w1' ⟨rfl, rfl⟩
              go_wp2_with fail
              generalize hw2 : w1'.setCell ⟨I.kb, 6, none⟩ (.int .i64 ((K.reads : Int) + 1)) = w2 at *
              refine (HN.out w2 I _ HP2.out.1 rfl).mono ?_
              rintro e w3 ⟨rfl, v', hP3, hT3⟩
              have c7 := (hP3.desc (x := x) hm).thing
              rw [thing_file (K := { K with reads := K.reads + 1, plan := K.plan.tail }) ho] at c7
              simp only at c7
              go_wp2_with fail
              refine (xread_file ρ _ _ x b pr1 w3 hP3 hm ho (HG.out (by first | rfl | trivial)).1 (HG.out (by first | rfl | trivial)).2).mono ?_
              rintro e w4 ⟨v, rfl, hrow, hN⟩
              obtain ⟨va, vc, rfl⟩ := owns_slice hrow
              have HV := hide hrow
              have HS := hide hN
              clear hrow hN
              go_wp2
              go_ret2
              exact PRd.done (HP2.out.2.trans hT3 (fun _ _ e => e)) rfl HV.out HS.out
            · rw [if_neg he]
              have he2 : (pr2 == 0) = false := by simpa using he
              go_enter Tryz.func14, Tryz.ntmps14
              go_wp2_with fail
              refine HF.out.mono ?_
              rintro e w1 ⟨rfl, rfl⟩
              unfold descV
              go_wp2_with fail
              refine (of_readWaits (I.xb x.n) _).mono ?_
              rintro e w1' ⟨rfl, rfl⟩
              go_wp2_with fail
              generalize hw2 : w1'.setCell ⟨I.kb, 6, none⟩ (.int .i64 ((K.reads : Int) + 1)) = w2 at *
              refine (HN.out w2 I _ HP2.out.1 rfl).mono ?_
              rintro e w3 ⟨rfl, v', hP3, hT3⟩
              have HP3 := hide hP3
              clear hP3
              go_wp2
              go_ret2
              exact ⟨_, rfl, World.ownsRow_nil _ _ _ _, PHold.of HP3.out rfl (HP2.out.2.trans hT3 (fun _ _ e => e))⟩
          | term ls scr =>
            rw [read_is hx hf n4 n5 (waits_term ho), ← hpr]
            have HP2 := hide h.readUp
            have HT0 := hide ho
            rw [thing_term ho] at c0
            have hmw := mt_readWaits (I.cb x.th)
            have hmr := mt_read (I.cb x.th)
            have c6 := h.cells.reads
            have c6s : w.frozen? ⟨I.kb, 6, none⟩ = false := frozen_of_row w I.kb 6 _ _ (h.comp .kern).1
            have c5 := HP2.out.1.cells.plan
            have d2 := (HP2.out.1.desc (x := x) hm).thing
            clear h HX HK
            clear hpr
            obtain ⟨pr1, pr2⟩ := pr
            simp only at HG HN ⊢
            by_cases he : pr2 = 0
            · subst he
              rw [if_pos rfl]
              go_enter Tryz.func14, Tryz.ntmps14
              go_wp2_with fail
              refine HF.out.mono ?_
              rintro e w1 ⟨rfl, rfl⟩
              unfold descV
              go_wp2_with fail
              refine (co_readWaits (I.cb x.th) _).mono ?_
              rintro e w1' ⟨rfl, rfl⟩
              go_wp2_with fail
              generalize hw2 : w1'.setCell ⟨I.kb, 6, none⟩ (.int .i64 ((K.reads : Int) + 1)) = w2 at *
              refine (HN.out w2 I _ HP2.out.1 rfl).mono ?_
              rintro e w3 ⟨rfl, v', hP3, hT3⟩
              have c7 := (hP3.desc (x := x) hm).thing
              rw [thing_term (K := { K with reads := K.reads + 1, plan := K.plan.tail }) ho] at c7
              simp only at c7
              go_wp2_with fail
              refine (xread_term ρ _ _ x ls scr pr1 w3 hP3 hm ho).mono ?_
              rintro e w4 ⟨v, rfl, hrow, hN⟩
              obtain ⟨va, vc, rfl⟩ := owns_slice hrow
              have HV := hide hrow
              have HS := hide hN
              clear hrow hN
              go_wp2
              go_ret2
              exact PRd.done (HP2.out.2.trans hT3 (fun _ _ e => e)) rfl HV.out HS.out
            · rw [if_neg he]
              have he2 : (pr2 == 0) = false := by simpa using he
              go_enter Tryz.func14, Tryz.ntmps14
              go_wp2_with fail
              refine HF.out.mono ?_
              rintro e w1 ⟨rfl, rfl⟩
              unfold descV
              go_wp2_with fail
              refine (co_readWaits (I.cb x.th) _).mono ?_
              rintro e w1' ⟨rfl, rfl⟩
              go_wp2_with fail
              generalize hw2 : w1'.setCell ⟨I.kb, 6, none⟩ (.int .i64 ((K.reads : Int) + 1)) = w2 at *
              refine (HN.out w2 I _ HP2.out.1 rfl).mono ?_
              rintro e w3 ⟨rfl, v', hP3, hT3⟩
              have HP3 := hide hP3
              clear hP3
              go_wp2
              go_ret2
              exact ⟨_, rfl, World.ownsRow_nil _ _ _ _, PHold.of HP3.out rfl (HP2.out.2.trans hT3 (fun _ _ e => e))⟩
          | pipe q rd wt =>
            cases hcan : canR q.length rd wt with
            | false =>
              rw [show K.read d n = ([], 52, K) by unfold KS.read; rw [hx]; simp only; rw [if_neg hf, if_neg hn, if_neg hz, if_pos (by rw [ho]; show (!canR q.length rd wt) = true; rw [hcan]; rfl)]]
              have HW := hide (pp_readWaits (I.ob x.th) q rd wt w (by have := h.pobj hm; rw [ho] at this; exact this.1))
              rw [hcan] at HW
              rw [thing_pipe ho] at c0
              have hmw := mp_readWaits (I.ob x.th)
              clear h hK HN HG HX
              go_enter Tryz.func14, Tryz.ntmps14
              go_wp2_with fail
              refine HF.out.mono ?_
              rintro e w1 ⟨rfl, rfl⟩
              unfold descV
              go_wp2_with fail
              refine HW.out.mono ?_
              rintro e w2 ⟨rfl, hB⟩
              go_wp2
              go_ret2
              exact PRd.refused HK.out hB 52
            | true =>
            rw [read_is hx hf n4 n5 (by rw [ho]; show (!canR q.length rd wt) = false; rw [hcan]; rfl), ← hpr]
            have HW := hide (pp_readWaits (I.ob x.th) q rd wt w (by have := h.pobj hm; rw [ho] at this; exact this.1))
            rw [hcan] at HW
            have HP := hide h
            have HT0 := hide ho
            rw [thing_pipe ho] at c0
            have hmw := mp_readWaits (I.ob x.th)
            have hmr := mp_read (I.ob x.th)
            clear h HX HK
            clear hpr
            obtain ⟨pr1, pr2⟩ := pr
            simp only at HG HN ⊢
            by_cases he : pr2 = 0
            · subst he
              rw [if_pos rfl]
              go_enter Tryz.func14, Tryz.ntmps14
              go_wp2_with fail
              refine HF.out.mono ?_
              rintro e w1 ⟨rfl, rfl⟩
              unfold descV
              go_wp2_with fail
              refine HW.out.mono ?_
              rintro e w1' ⟨rfl, hB⟩
              have hP1 := HP.out.under hB
              have HP2 := hide hP1.readUp
              have c6 := hP1.cells.reads
              have c6s : w1'.frozen? ⟨I.kb, 6, none⟩ = false := frozen_of_row w1' I.kb 6 _ _ (hP1.comp .kern).1
              have c5 := HP2.out.1.cells.plan
              have d2 := (HP2.out.1.desc (x := x) hm).thing
              have HT1 := hide (Turned.of_below (S := Own ρ) hB)
              clear hP1 hB
              go_wp2_with fail
              generalize hw2 : w1'.setCell ⟨I.kb, 6, none⟩ (.int .i64 ((K.reads : Int) + 1)) = w2 at *
              refine (HN.out w2 I _ HP2.out.1 rfl).mono ?_
              rintro e w3 ⟨rfl, v', hP3, hT3⟩
              have c7 := (hP3.desc (x := x) hm).thing
              rw [thing_pipe (K := { K with reads := K.reads + 1, plan := K.plan.tail }) ho] at c7
              simp only at c7
              go_wp2_with fail
              refine (xread_pipe ρ _ _ x q rd wt pr1 w3 hP3 hm ho).mono ?_
              rintro e w4 ⟨v, rfl, hrow, hN⟩
              obtain ⟨va, vc, rfl⟩ := owns_slice hrow
              have HV := hide hrow
              have HS := hide hN
              clear hrow hN
              go_wp2
              go_ret2
              exact PRd.done ((HT1.out.trans HP2.out.2 (fun _ _ e => e)).trans hT3 (fun _ _ e => e)) rfl HV.out HS.out
            · rw [if_neg he]
              have he2 : (pr2 == 0) = false := by simpa using he
              go_enter Tryz.func14, Tryz.ntmps14
              go_wp2_with fail
              refine HF.out.mono ?_
              rintro e w1 ⟨rfl, rfl⟩
              unfold descV
              go_wp2_with fail
              refine HW.out.mono ?_
              rintro e w1' ⟨rfl, hB⟩
              have hP1 := HP.out.under hB
              have HP2 := hide hP1.readUp
              have c6 := hP1.cells.reads
              have c6s : w1'.frozen? ⟨I.kb, 6, none⟩ = false := frozen_of_row w1' I.kb 6 _ _ (hP1.comp .kern).1
              have c5 := HP2.out.1.cells.plan
              have d2 := (HP2.out.1.desc (x := x) hm).thing
              have HT1 := hide (Turned.of_below (S := Own ρ) hB)
              clear hP1 hB
              go_wp2_with fail
              generalize hw2 : w1'.setCell ⟨I.kb, 6, none⟩ (.int .i64 ((K.reads : Int) + 1)) = w2 at *
              refine (HN.out w2 I _ HP2.out.1 rfl).mono ?_
              rintro e w3 ⟨rfl, v', hP3, hT3⟩
              have HP3 := hide hP3
              clear hP3
              go_wp2
              go_ret2
              exact ⟨_, rfl, World.ownsRow_nil _ _ _ _, PHold.of HP3.out rfl ((HT1.out.trans HP2.out.2 (fun _ _ e => e)).trans hT3 (fun _ _ e => e))⟩
end Go.Proofs.YtkgbhcpeoaefjaaGreat

/- The program's kernel: Pipe. -/
namespace Go.Proofs.YtkgbhcpeoaefjaaGreat
open Go.RowKit Go.Maps

set_option maxRecDepth 100000 in
set_option maxHeartbeats 2000000 in
theorem newPipe_any (w : World) :
    Calls Tryz.prog 35 #[] w fun e w' => ∃ p, e = .returned (.tuple #[.iface 147 (.agg #[.pointer (some ⟨p, 0, none⟩)]), .iface 147 (.agg #[.pointer (some ⟨p, 0, none⟩)])]) ∧ PObj w' (fun k => w.heap.size ≤ k ∧ k < w'.heap.size) p (.pipe [] 1 1) ∧ Below w.heap.size w w' := by
  have HN := hide (po_new_pipe w)
  go_enter Tryz.func35, Tryz.ntmps35
  go_wp2_with fail
  refine HN.out.mono ?_
  rintro e w1 ⟨p, rfl, hO, hB⟩
  have HJ := hide (po_pjoin _ p [] 0 0 false w1 hO)
  have HB := hide hB
  clear hO hB
  go_wp2_with fail
  refine HJ.out.mono ?_
  rintro e w2 ⟨rfl, O2, h1, h2, h3⟩
  have HJ2 := hide (po_pjoin _ p [] _ _ true w2 h1)
  have HT := hide (And.intro h2 h3)
  clear h1 h2 h3
  go_wp2_with fail
  refine HJ2.out.mono ?_
  rintro e w3 ⟨rfl, O3, h1, h2, h3⟩
  have HL : Hid (PObj w3 (fun k => w.heap.size ≤ k ∧ k < w3.heap.size) p (.pipe [] 1 1) ∧ Below w.heap.size w w3) := hide (by
    obtain ⟨g2, g3⟩ := HT.out
    have hsz := HB.out.size
    have low2 : ∀ k, O2 k → w.heap.size ≤ k := fun k e => by
      rcases g2 k e with e | e
      · exact e.1
      · omega
    have hB2 : Below w.heap.size w w2 := HB.out.trans (g3.below (fun k e => e.1) hsz)
    have hB3 : Below w.heap.size w w3 := hB2.trans (h3.below low2 hB2.size)
    refine ⟨h1.trim.mono fun k ⟨e1, e2⟩ => ⟨?_, e2⟩, hB3⟩
    rcases h2 k e1 with e | e
    · exact low2 k e
    · have := hB2.size; omega)
  clear h1 h2 h3
  go_wp2
  go_ret2
  exact ⟨p, rfl, HL.out⟩
theorem KOk.addP {K : KS} (h : KOk K) (ob : Ob) : KOk (K.addP ob) := by
  have hlen : (K.addP ob).th.length = K.th.length + 1 := by show (K.th ++ [_]).length = _; simp
  exact ⟨h.few, h.named, fun d hd => by have := h.th d hd; omega, fun i hi => by have := h.nm i hi; omega, h.num, h.once, h.flags, h.pos, h.held, h.plan⟩
theorem KNm.addP {K : KS} (h : KNm K) (hok : KOk K) (ob : Ob) (hk : ob.kind = 3) : KNm (K.addP ob) := by
  have hM := more_addP K ob
  refine ⟨?_, fun i hi => ?_, fun i hi e => ?_, fun i hi => ?_⟩
  · refine h.sorted.imp_of_mem fun {a b} ha hb hab => ?_
    rw [hM.nameOf (hok.nm a ha), hM.nameOf (hok.nm b hb)]
    exact hab
  · rw [hM.obOf (hok.nm i hi)]; exact h.kind i hi
  · rw [show (K.addP ob).th.length = K.th.length + 1 by show (K.th ++ [_]).length = _; simp] at hi
    by_cases e' : i = K.th.length
    · subst e'
      rw [hM.obNew] at e
      exact absurd hk e
    · have hlt : i < K.th.length := by omega
      rw [hM.obOf hlt] at e
      exact h.all i hlt e
  · rw [hM.nameOf (hok.nm i hi)]; exact h.ok i hi
theorem fl_addP (K : KS) (hok : KOk K) (I : PI) (ob : Ob) (p c : Nat) : (K.addP ob).fl { I with ob := upd I.ob K.th.length p, cb := upd I.cb K.th.length c } = K.fl I ∧ (K.addP ob).tl { I with ob := upd I.ob K.th.length p, cb := upd I.cb K.th.length c } = K.tl I := by
  have hM := more_addP K ob
  have e : ∀ c : Int, (K.addP ob).nm.filter (fun i => ((K.addP ob).obOf i).kind == c) = K.nm.filter fun i => (K.obOf i).kind == c := fun c => List.filter_congr fun i hi => by rw [hM.obOf (hok.nm i hi)]
  constructor
  · unfold KS.fl KS.fidx
    rw [e 1]
    exact map_old hok hM _ _ _
  · unfold KS.tl KS.tidx
    rw [e 2]
    exact map_old hok hM _ _ _
/-- A pipe is added. -/
theorem PK.addPipe {W W' : World} {ρ : Nat → Option PTag} {I : PI} {K : KS} (h : PK W ρ I K) (p : Nat) {q : List UInt8} {rd wt : Nat} (hO : PObj W' (fun k => W.heap.size ≤ k ∧ k < W'.heap.size) p (.pipe q rd wt)) (hB : Below W.heap.size W W') :
    Added ρ I (K.addP (.pipe q rd wt)) W K.th.length p I.fm W' := by
  have hfl := fl_addP K h.ok I (.pipe q rd wt) p I.fm
  have hfm := h.lt _ _ (h.comp .fmap).2
  have htm := h.lt _ _ (h.comp .tmap).2
  obtain ⟨ρ', a1, a2, a3⟩ := h.more (more_addP K (.pipe q rd wt)) p I.fm hO (fun k e => ⟨e.1, by omega⟩) (fun ls scr e => by cases e) (Turned.of_below hB) (h.ok.addP _) (h.nm.addP h.ok _ rfl) (by rw [hfl.1]; exact (h.comp .fmap).1.keep (hB.block _ hfm)) (by rw [hfl.2]; exact (h.comp .tmap).1.keep (hB.block _ htm))
  exact ⟨ρ', a1, a2, a3, Turned.of_below hB⟩
end Go.Proofs.YtkgbhcpeoaefjaaGreat

/- The program's kernel: Pipe, walked. -/
namespace Go.Proofs.YtkgbhcpeoaefjaaGreat
open Go.RowKit Go.Maps

/-- Two numbers and an error are answered. -/
def PTwo (ρ : Nat → Option PTag) (I : PI) (w : World) (r : Int × Int × Int × KS) (e : Ending) (w' : World) : Prop :=
  e = .returned (.tuple #[.int .i64 r.1, .int .i64 r.2.1, .int .i64 r.2.2.1]) ∧ PNext ρ I w r.2.2.2 w'
theorem results_three {fn : Func} {t u v : Tmp} (h : fn.results = #[.tmp t, .tmp u, .tmp v]) (tmps : Array Value) (P : Program) (w : World) :
    (results fn tmps).run P w = .ok (.tuple #[tmps.getD t undef, tmps.getD u undef, tmps.getD v undef]) w := by
  simp [results, h]
set_option maxRecDepth 100000 in
set_option maxHeartbeats 4000000 in
theorem kpipe_any (ρ : Nat → Option PTag) (I : PI) (K : KS) (w : World) (h : PK w ρ I K) (hl : K.next + 1 < 9223372036854775807) :
    Calls Tryz.prog 10 #[.pointer (some ⟨I.kb, 0, none⟩)] w (PTwo ρ I w K.pipe) := by
  have hm := hide (kmade_any I.kb w h.cells.made)
  have c3 := h.cells.opens
  have sl := (h.comp .omap).1.len Tryz.underlying64
  have HNX := hide (h.comp .kern).2.2
  rw [show (K.dl I).length = K.de.length by unfold KS.dl; simp] at sl
  have hfew := h.ok.few
  by_cases hd : 254 < K.de.length
  · rw [show K.pipe = (0, 0, 3, K) by unfold KS.pipe; rw [if_pos hd]]
    have hd' : (254 : Int) < (K.de.length : Int) := by omega
    have HX := hide (PNext.same h)
    clear h
    go_enter Tryz.func10, Tryz.ntmps10
    go_wp2_with fail
    refine hm.out.mono ?_
    rintro e w1 ⟨rfl, rfl⟩
    go_wp2
    refine bodyPost_ret (results_three rfl _ _ _) rfl ?_
    exact ⟨rfl, HX.out⟩
  · rw [show K.pipe = ((K.next : Int), ((K.next + 1 : Nat) : Int), 0, ((K.addP (.pipe [] 1 1)).newDe K.th.length 1).newDe K.th.length 2) by unfold KS.pipe; rw [if_neg hd]]
    have hd' : ¬ (254 : Int) < (K.de.length : Int) := by omega
    have HNP := hide (newPipe_any w)
    have HK := hide h
    clear h
    go_enter Tryz.func10, Tryz.ntmps10
    go_wp2_with fail
    refine hm.out.mono ?_
    rintro e w1 ⟨rfl, rfl⟩
    go_wp2_with fail
    refine HNP.out.mono ?_
    rintro e w2 ⟨p, rfl, hO, hB⟩
    obtain ⟨ρ1, h1, h2, h3, h4⟩ := HK.out.addPipe p hO hB
    have hlen : K.th.length < (K.addP (.pipe [] 1 1)).th.length := by show _ < (K.th ++ [_]).length; simp
    have hob : (K.addP (.pipe [] 1 1)).obOf K.th.length = .pipe [] 1 1 := (more_addP K (.pipe [] 1 1)).obNew
    have HD1 := hide (describe_any ρ1 _ (K.addP (.pipe [] 1 1)) 147 (.agg #[.pointer (some ⟨p, 0, none⟩)]) 1 w2 h1 (by have := HNX.out; simp only; omega))
    simp only at HD1
    rw [show ((I.last + 1 : Nat) : Int) = (K.next : Int) by rw [HNX.out]] at HD1
    have HP1 := hide (And.intro h1 (And.intro h2 (And.intro h4 (And.intro hlen hob))))
    clear h1 h2 h3 h4 hO hB hlen hob
    go_wp2_with fail
    refine HD1.out.mono ?_
    rintro e w3 ⟨rfl, nb, hD⟩
    have HG1 := hide (HP1.out.1.newDe (i := K.th.length) HP1.out.2.2.2.1 flags_ok1.1 (by show K.de.length < 256; omega) (xb := 0) hD (fun b e => by rw [HP1.out.2.2.2.2] at e; cases e) (fun ls scr e => by rw [HP1.out.2.2.2.2] at e; cases e) (fun q rd wt _ => by simp only [upd_same]))
    have HD0 := hide hD
    clear hD
    obtain ⟨ρ2, g1, g2, g3⟩ := HG1.out
    have HD2 := hide (describe_any ρ2 _ _ 147 (.agg #[.pointer (some ⟨p, 0, none⟩)]) 2 w3 g1 (by have := HNX.out; simp only; omega))
    simp only at HD2
    rw [show ((I.last + 1 + 1 : Nat) : Int) = (K.next : Int) + 1 by rw [HNX.out]; rfl] at HD2
    have HP2 := hide (And.intro g1 g2)
    clear g1 g2 g3 HG1
    go_wp2_with fail
    refine HD2.out.mono ?_
    rintro e w4 ⟨rfl, nb2, hD2⟩
    have HN : Hid (PNext ρ I w1 (((K.addP (.pipe [] 1 1)).newDe K.th.length 1).newDe K.th.length 2) w4) := hide (by
      obtain ⟨h1, h2, h4, hlen, hob⟩ := HP1.out
      obtain ⟨g1, g2⟩ := HP2.out
      have hob2 : ((K.addP (.pipe [] 1 1)).newDe K.th.length 1).obOf K.th.length = .pipe [] 1 1 := hob
      obtain ⟨ρ3, k1, k2, k3⟩ := g1.newDe (i := K.th.length) hlen flags_ok1.2 (by show (K.de ++ [_]).length < 256; simp; omega) (xb := 0) hD2 (fun b e => by rw [hob2] at e; cases e) (fun ls scr e => by rw [hob2] at e; cases e) (fun q rd wt _ => by simp only [upd_same])
      have no : ¬ ∃ b, (K.addP (.pipe [] 1 1)).obOf K.th.length = .file b := fun ⟨b, e⟩ => by rw [hob] at e; cases e
      have T2 : newTags ρ ρ2 w1 := fun k t e => by
        rcases g2 k t e with e | e | e
        · exact h2 k t e
        · exact .inr (by rw [e]; exact Nat.le_trans h4.size HD0.out.new)
        · exact absurd e.1 no
      have T3 : Turned (Own ρ) w1 w3 := h4.trans HD0.out.turned (fun k hk e => by
        have : ∃ t, ρ1 k = some t := by
          rcases e with e | e
          · exact ⟨_, by rw [e]; exact (h1.comp .kern).2.1⟩
          · exact ⟨_, by rw [e]; exact (h1.comp .omap).2⟩
        obtain ⟨t, e'⟩ := this
        rcases h2 k t e' with h' | h'
        · exact h'
        · omega)
      refine ⟨ρ3, _, k1, rfl, fun k t e => ?_, T3.trans hD2.turned (fun k hk e => ?_)⟩
      · rcases k2 k t e with e | e | e
        · exact T2 k t e
        · exact .inr (by rw [e]; exact Nat.le_trans T3.size hD2.new)
        · exact absurd e.1 no
      · have : ∃ t, ρ2 k = some t := by
          rcases e with e | e
          · exact ⟨_, by rw [e]; exact (g1.comp .kern).2.1⟩
          · exact ⟨_, by rw [e]; exact (g1.comp .omap).2⟩
        obtain ⟨t, e'⟩ := this
        rcases T2 k t e' with h' | h'
        · exact h'
        · omega)
    clear hD2
    go_wp2
    refine bodyPost_ret (results_three rfl _ _ _) rfl ?_
    exact ⟨rfl, HN.out⟩
end Go.Proofs.YtkgbhcpeoaefjaaGreat

/- The program's kernel: CanRead, CanWrite. -/
namespace Go.Proofs.YtkgbhcpeoaefjaaGreat
open Go.RowKit Go.Maps

/-- Would a write not wait? -/
def KS.canWriteP (K : KS) (d n : Int) : Bool := match K.find d with
  | none => false
  | some x => bit x.flags 2 && (inN n && !(refusal (K.tho x) x.flags x.pos n == 52))

end Go.Proofs.YtkgbhcpeoaefjaaGreat

/- The program's kernel: Write, walked. -/
namespace Go.Proofs.YtkgbhcpeoaefjaaGreat
open Go.RowKit Go.Maps

theorem PNum.done {w w1 w4 : World} {ρ : Nat → Option PTag} {I I1 : PI} {r : Int × Int × KS} (hT : Turned (Own ρ) w w1) (hk : I1.kb = I.kb) {e : Ending} (h : PNum ρ I1 w1 r e w4) : PNum ρ I w r e w4 := ⟨h.1, h.2.after hT hk⟩
set_option maxRecDepth 100000 in
set_option maxHeartbeats 4000000 in
theorem kwrite_any (ρ : Nat → Option PTag) (I : PI) (K : KS) (d : Int) (bs : List UInt8) (a1 : Option Addr) (cx : Nat) (w : World) (h : PK w ρ I K) (hd : I64 d) (hr : K.writes < 9223372036854775807)
    (hb : Bys w (.slice a1 bs.length cx) bs) (hcap : bs.length ≤ cx) (hbig : bs.length ≤ 9223372036854775807) (hap : 0 < bs.length → ∀ k, (Value.slice a1 bs.length cx).ownBlock = some k → ¬ Own ρ k) :
    Calls Tryz.prog 11 #[.pointer (some ⟨I.kb, 0, none⟩), .int .i64 d, .slice a1 bs.length cx] w (PNum ρ I w (K.write d bs)) := by
  have HF := hide (described_any ρ I K d w h hd)
  have HX := hide fun E => PNum.refused h (Below.refl _ w) E
  have HK := hide h
  cases hx : K.find d with
  | none =>
    rw [hx] at HF
    rw [show K.write d bs = (0, 64, K) by unfold KS.write; rw [hx]]
    clear h HK hb hap
    go_enter Tryz.func11, Tryz.ntmps11
    go_wp2_with fail
    refine HF.out.mono ?_
    rintro e w1 ⟨rfl, rfl⟩
    unfold descV
    go_wp2
    go_ret2
    exact HX.out 64
  | some x =>
    rw [hx] at HF
    have hm := (KS.find_some hx).1
    have hdc := h.desc hm
    have c0 := hdc.thing
    have c1 := hdc.writes
    by_cases hf : fbit x.flags 2 = 0
    · rw [show K.write d bs = (0, 65, K) by unfold KS.write; rw [hx]; simp only; rw [if_pos hf]]
      rw [bit_no hf] at c1
      clear h hdc HK hb hap
      go_enter Tryz.func11, Tryz.ntmps11
      go_wp2_with fail
      refine HF.out.mono ?_
      rintro e w1 ⟨rfl, rfl⟩
      unfold descV
      go_wp2
      go_ret2
      exact HX.out 65
    · rw [bit_yes hf] at c1
      by_cases hn : 1048576 < bs.length
      · rw [show K.write d bs = (0, 5, K) by unfold KS.write; rw [hx]; simp only; rw [if_neg hf, if_pos hn]]
        have hn' : (1048576 : Int) < (bs.length : Int) := by omega
        clear h hdc HK hb hap
        go_enter Tryz.func11, Tryz.ntmps11
        go_wp2_with fail
        refine HF.out.mono ?_
        rintro e w1 ⟨rfl, rfl⟩
        unfold descV
        go_wp2
        go_ret2
        exact HX.out 5
      · by_cases hz : bs.length = 0
        · rw [show K.write d bs = (0, 0, K) by unfold KS.write; rw [hx]; simp only; rw [if_neg hf, if_neg hn, if_pos hz]]
          obtain rfl := List.length_eq_zero_iff.1 hz
          clear h hdc HK hb hap
          simp only [List.length_nil]
          go_enter Tryz.func11, Tryz.ntmps11
          go_wp2_with fail
          refine HF.out.mono ?_
          rintro e w1 ⟨rfl, rfl⟩
          unfold descV
          go_wp2
          go_ret2
          exact HX.out 0
        · have n1 : 1 ≤ bs.length := by omega
          have n2 : bs.length ≤ 1048576 := by omega
          have n3 : ¬ (1048576 : Int) < (bs.length : Int) := by omega
          have n4 : (1 : Int) ≤ (bs.length : Int) := by omega
          have n5 : (bs.length : Int) ≤ 1048576 := by omega
          have n6 : ¬ (bs.length : Int) = 0 := by omega
          have n7 : ((bs.length : Int) == 0) = false := by simpa using n6
          obtain ⟨pr, hpr⟩ : ∃ pr, pr = nxt K.plan bs.length := ⟨_, rfl⟩
          have HG : Hid (pr.2 = 0 → ∃ m : Nat, pr.1 = m ∧ 1 ≤ m ∧ m ≤ bs.length) := hide (fun e => by rw [hpr] at e ⊢; have := nxt_good h.ok.plan n4 n5 e; exact ⟨(nxt K.plan bs.length).1.toNat, by omega, by omega, by omega⟩)
          have HN := hide fun W I' K' (hW : PK W ρ I' K') (hpl : K'.plan = K.plan) => by
            have := knext_any ρ I' K' bs.length W hW n4 n5
            rw [hpl, ← hpr] at this
            exact this
          have HB := hide (And.intro hb (And.intro hcap (hap (by omega))))
          have HO := hide (h.pobj hm)
          clear hdc hb hap
          cases ho : K.tho x with
          | file b =>
            obtain ⟨RF, hRF⟩ : ∃ RF : Int, RF = (if plc b (bit x.flags 4) x.pos = 1048576 then 31 else 0) := ⟨_, rfl⟩
            have HRf := hide (of_refuses (I.xb x.n) (I.ob x.th) b x.pos (bit x.flags 4) bs.length _ w (h.comp (.ofile x.n) x hm rfl b ho).1 (by have := HO.out; rw [ho] at this; exact this))
            rw [← hRF] at HRf
            have hRF2 : refusal (K.tho x) x.flags x.pos bs.length = RF := by rw [ho, hRF]; rfl
            clear hRF
            have HT0 := hide ho
            rw [thing_file ho] at c0
            have hmw := mf_refuses (I.xb x.n)
            have hmr := mf_write (I.xb x.n)
            by_cases hz2 : RF = 0
            · rw [write_is hx hf n1 n2 (hRF2.trans hz2), ← hpr]
              subst hz2
              clear h HX hpr
              obtain ⟨pr1, pr2⟩ := pr
              simp only at HG HN ⊢
              by_cases he : pr2 = 0
              · subst he
                rw [if_pos rfl]
                obtain ⟨M, hM, hM1, hM2⟩ := HG.out (by first | rfl | trivial)
                subst hM
                go_enter Tryz.func11, Tryz.ntmps11
                go_wp2_with fail
                refine HF.out.mono ?_
                rintro e w1 ⟨rfl, rfl⟩
                unfold descV
                go_wp2_with fail
                refine HRf.out.mono ?_
                rintro e w1' ⟨rfl, rfl⟩
                have hP1 := HK.out
                have HT1 := hide (Turned.refl (Own ρ) w1')
                have HP2 := hide hP1.writeUp
                have c6 := hP1.cells.writes
                have c6s : w1'.frozen? ⟨I.kb, 7, none⟩ = false := frozen_of_row w1' I.kb 7 _ _ (hP1.comp .kern).1
                have c5 := HP2.out.1.cells.plan
                have d2 := (HP2.out.1.desc (x := x) hm).thing
                clear hP1
                go_wp2_with fail
                generalize hw2 : w1'.setCell ⟨I.kb, 7, none⟩ (.int .i64 ((K.writes : Int) + 1)) = w2 at *
                refine (HN.out w2 I _ HP2.out.1 rfl).mono ?_
                rintro e w3 ⟨rfl, v', hP3, hT3⟩
                have hT13 := (HT1.out.trans HP2.out.2 (fun _ _ e => e)).trans hT3 (fun _ _ e => e)
                have hbw : Bys w3 (.slice a1 bs.length cx) bs := HB.out.1.turned hT13 (fun k e _ => HB.out.2.2 k e)
                have c7 := (hP3.desc (x := x) hm).thing
                rw [thing_file (K := { K with writes := K.writes + 1, plan := K.plan.tail }) ho] at c7
                simp only at c7
                go_wp2_with fail
                refine (xwrite_file ρ _ _ x b bs M a1 cx w3 hP3 hm ho hbw HB.out.2.1 hM1 hM2 n2 HB.out.2.2).mono ?_
                rintro e w4 hN4
                obtain rfl := hN4.1
                have HS := hide hN4
                clear hN4
                go_wp2
                go_ret2
                exact PNum.done hT13 rfl HS.out
              · rw [if_neg he]
                have he2 : (pr2 == 0) = false := by simpa using he
                go_enter Tryz.func11, Tryz.ntmps11
                go_wp2_with fail
                refine HF.out.mono ?_
                rintro e w1 ⟨rfl, rfl⟩
                unfold descV
                go_wp2_with fail
                refine HRf.out.mono ?_
                rintro e w1' ⟨rfl, rfl⟩
                have hP1 := HK.out
                have HT1 := hide (Turned.refl (Own ρ) w1')
                have HP2 := hide hP1.writeUp
                have c6 := hP1.cells.writes
                have c6s : w1'.frozen? ⟨I.kb, 7, none⟩ = false := frozen_of_row w1' I.kb 7 _ _ (hP1.comp .kern).1
                have c5 := HP2.out.1.cells.plan
                have d2 := (HP2.out.1.desc (x := x) hm).thing
                clear hP1
                go_wp2_with fail
                generalize hw2 : w1'.setCell ⟨I.kb, 7, none⟩ (.int .i64 ((K.writes : Int) + 1)) = w2 at *
                refine (HN.out w2 I _ HP2.out.1 rfl).mono ?_
                rintro e w3 ⟨rfl, v', hP3, hT3⟩
                have hT13 := (HT1.out.trans HP2.out.2 (fun _ _ e => e)).trans hT3 (fun _ _ e => e)
                have HP3 := hide hP3
                clear hP3
                go_wp2
                go_ret2
                exact ⟨rfl, PNext.of HP3.out rfl hT13⟩
            · have hne : ¬ refusal (K.tho x) x.flags x.pos bs.length = 0 := by rw [hRF2]; exact hz2
              rw [show K.write d bs = (0, RF, K) by unfold KS.write; rw [hx]; simp only; rw [if_neg hf, if_neg hn, if_neg hz, if_neg hne, hRF2]]
              have hz3 : (RF == 0) = false := by simpa using hz2
              clear h HX hpr HG HN hne
              go_enter Tryz.func11, Tryz.ntmps11
              go_wp2_with fail
              refine HF.out.mono ?_
              rintro e w1 ⟨rfl, rfl⟩
              unfold descV
              go_wp2_with fail
              refine HRf.out.mono ?_
              rintro e w1' ⟨rfl, rfl⟩
              go_wp2
              go_ret2
              exact PNum.refused HK.out (Below.refl _ _) RF
          | term ls scr =>
            obtain ⟨RF, hRF⟩ : ∃ RF : Int, RF = (if scr.length = 1048576 then 31 else 0) := ⟨_, rfl⟩
            have HRf := hide (co_refuses (I.cb x.th) (I.ob x.th) scr.length bs.length w (h.comp (.cons x.th) (h.ok.th x hm) ls scr (by rw [← KS.tho_eq (h.ok.th x hm)]; exact ho)).1)
            rw [← hRF] at HRf
            have hRF2 : refusal (K.tho x) x.flags x.pos bs.length = RF := by rw [ho, hRF]; rfl
            clear hRF
            have HT0 := hide ho
            rw [thing_term ho] at c0
            have hmw := mt_refuses (I.cb x.th)
            have hmr := mt_write (I.cb x.th)
            by_cases hz2 : RF = 0
            · rw [write_is hx hf n1 n2 (hRF2.trans hz2), ← hpr]
              subst hz2
              clear h HX hpr
              obtain ⟨pr1, pr2⟩ := pr
              simp only at HG HN ⊢
              by_cases he : pr2 = 0
              · subst he
                rw [if_pos rfl]
                obtain ⟨M, hM, hM1, hM2⟩ := HG.out (by first | rfl | trivial)
                subst hM
                go_enter Tryz.func11, Tryz.ntmps11
                go_wp2_with fail
                refine HF.out.mono ?_
                rintro e w1 ⟨rfl, rfl⟩
                unfold descV
                go_wp2_with fail
                refine HRf.out.mono ?_
                rintro e w1' ⟨rfl, rfl⟩
                have hP1 := HK.out
                have HT1 := hide (Turned.refl (Own ρ) w1')
                have HP2 := hide hP1.writeUp
                have c6 := hP1.cells.writes
                have c6s : w1'.frozen? ⟨I.kb, 7, none⟩ = false := frozen_of_row w1' I.kb 7 _ _ (hP1.comp .kern).1
                have c5 := HP2.out.1.cells.plan
                have d2 := (HP2.out.1.desc (x := x) hm).thing
                clear hP1
                go_wp2_with fail
                generalize hw2 : w1'.setCell ⟨I.kb, 7, none⟩ (.int .i64 ((K.writes : Int) + 1)) = w2 at *
                refine (HN.out w2 I _ HP2.out.1 rfl).mono ?_
                rintro e w3 ⟨rfl, v', hP3, hT3⟩
                have hT13 := (HT1.out.trans HP2.out.2 (fun _ _ e => e)).trans hT3 (fun _ _ e => e)
                have hbw : Bys w3 (.slice a1 bs.length cx) bs := HB.out.1.turned hT13 (fun k e _ => HB.out.2.2 k e)
                have c7 := (hP3.desc (x := x) hm).thing
                rw [thing_term (K := { K with writes := K.writes + 1, plan := K.plan.tail }) ho] at c7
                simp only at c7
                go_wp2_with fail
                refine (xwrite_term ρ _ _ x ls scr bs M a1 cx w3 hP3 hm ho hbw HB.out.2.1 hM1 hM2 n2 HB.out.2.2).mono ?_
                rintro e w4 hN4
                obtain rfl := hN4.1
                have HS := hide hN4
                clear hN4
                go_wp2
                go_ret2
                exact PNum.done hT13 rfl HS.out
              · rw [if_neg he]
                have he2 : (pr2 == 0) = false := by simpa using he
                go_enter Tryz.func11, Tryz.ntmps11
                go_wp2_with fail
                refine HF.out.mono ?_
                rintro e w1 ⟨rfl, rfl⟩
                unfold descV
                go_wp2_with fail
                refine HRf.out.mono ?_
                rintro e w1' ⟨rfl, rfl⟩
                have hP1 := HK.out
                have HT1 := hide (Turned.refl (Own ρ) w1')
                have HP2 := hide hP1.writeUp
                have c6 := hP1.cells.writes
                have c6s : w1'.frozen? ⟨I.kb, 7, none⟩ = false := frozen_of_row w1' I.kb 7 _ _ (hP1.comp .kern).1
                have c5 := HP2.out.1.cells.plan
                have d2 := (HP2.out.1.desc (x := x) hm).thing
                clear hP1
                go_wp2_with fail
                generalize hw2 : w1'.setCell ⟨I.kb, 7, none⟩ (.int .i64 ((K.writes : Int) + 1)) = w2 at *
                refine (HN.out w2 I _ HP2.out.1 rfl).mono ?_
                rintro e w3 ⟨rfl, v', hP3, hT3⟩
                have hT13 := (HT1.out.trans HP2.out.2 (fun _ _ e => e)).trans hT3 (fun _ _ e => e)
                have HP3 := hide hP3
                clear hP3
                go_wp2
                go_ret2
                exact ⟨rfl, PNext.of HP3.out rfl hT13⟩
            · have hne : ¬ refusal (K.tho x) x.flags x.pos bs.length = 0 := by rw [hRF2]; exact hz2
              rw [show K.write d bs = (0, RF, K) by unfold KS.write; rw [hx]; simp only; rw [if_neg hf, if_neg hn, if_neg hz, if_neg hne, hRF2]]
              have hz3 : (RF == 0) = false := by simpa using hz2
              clear h HX hpr HG HN hne
              go_enter Tryz.func11, Tryz.ntmps11
              go_wp2_with fail
              refine HF.out.mono ?_
              rintro e w1 ⟨rfl, rfl⟩
              unfold descV
              go_wp2_with fail
              refine HRf.out.mono ?_
              rintro e w1' ⟨rfl, rfl⟩
              go_wp2
              go_ret2
              exact PNum.refused HK.out (Below.refl _ _) RF
          | pipe q rd wt =>
            obtain ⟨RF, hRF⟩ : ∃ RF : Int, RF = (if rd = 0 then 53 else if canW bs.length q.length rd wt = false then 52 else 0) := ⟨_, rfl⟩
            have HRf := hide (pp_refuses (I.ob x.th) q rd wt bs.length w (by have := HO.out; rw [ho] at this; exact this.1))
            rw [← hRF] at HRf
            have hRF2 : refusal (K.tho x) x.flags x.pos bs.length = RF := by rw [ho, hRF]; rfl
            clear hRF
            have HT0 := hide ho
            rw [thing_pipe ho] at c0
            have hmw := mp_refuses (I.ob x.th)
            have hmr := mp_write (I.ob x.th)
            by_cases hz2 : RF = 0
            · rw [write_is hx hf n1 n2 (hRF2.trans hz2), ← hpr]
              subst hz2
              clear h HX hpr
              obtain ⟨pr1, pr2⟩ := pr
              simp only at HG HN ⊢
              by_cases he : pr2 = 0
              · subst he
                rw [if_pos rfl]
                obtain ⟨M, hM, hM1, hM2⟩ := HG.out (by first | rfl | trivial)
                subst hM
                go_enter Tryz.func11, Tryz.ntmps11
                go_wp2_with fail
                refine HF.out.mono ?_
                rintro e w1 ⟨rfl, rfl⟩
                unfold descV
                go_wp2_with fail
                refine HRf.out.mono ?_
                rintro e w1' ⟨rfl, hB⟩
                have hP1 := HK.out.under hB
                have HT1 := hide (Turned.of_below (S := Own ρ) hB)
                have HP2 := hide hP1.writeUp
                have c6 := hP1.cells.writes
                have c6s : w1'.frozen? ⟨I.kb, 7, none⟩ = false := frozen_of_row w1' I.kb 7 _ _ (hP1.comp .kern).1
                have c5 := HP2.out.1.cells.plan
                have d2 := (HP2.out.1.desc (x := x) hm).thing
                clear hP1
                go_wp2_with fail
                generalize hw2 : w1'.setCell ⟨I.kb, 7, none⟩ (.int .i64 ((K.writes : Int) + 1)) = w2 at *
                refine (HN.out w2 I _ HP2.out.1 rfl).mono ?_
                rintro e w3 ⟨rfl, v', hP3, hT3⟩
                have hT13 := (HT1.out.trans HP2.out.2 (fun _ _ e => e)).trans hT3 (fun _ _ e => e)
                have hbw : Bys w3 (.slice a1 bs.length cx) bs := HB.out.1.turned hT13 (fun k e _ => HB.out.2.2 k e)
                have c7 := (hP3.desc (x := x) hm).thing
                rw [thing_pipe (K := { K with writes := K.writes + 1, plan := K.plan.tail }) ho] at c7
                simp only at c7
                go_wp2_with fail
                refine (xwrite_pipe ρ _ _ x q rd wt bs M a1 cx w3 hP3 hm ho hbw HB.out.2.1 n2 HB.out.2.2).mono ?_
                rintro e w4 hN4
                obtain rfl := hN4.1
                have HS := hide hN4
                clear hN4
                go_wp2
                go_ret2
                exact PNum.done hT13 rfl HS.out
              · rw [if_neg he]
                have he2 : (pr2 == 0) = false := by simpa using he
                go_enter Tryz.func11, Tryz.ntmps11
                go_wp2_with fail
                refine HF.out.mono ?_
                rintro e w1 ⟨rfl, rfl⟩
                unfold descV
                go_wp2_with fail
                refine HRf.out.mono ?_
                rintro e w1' ⟨rfl, hB⟩
                have hP1 := HK.out.under hB
                have HT1 := hide (Turned.of_below (S := Own ρ) hB)
                have HP2 := hide hP1.writeUp
                have c6 := hP1.cells.writes
                have c6s : w1'.frozen? ⟨I.kb, 7, none⟩ = false := frozen_of_row w1' I.kb 7 _ _ (hP1.comp .kern).1
                have c5 := HP2.out.1.cells.plan
                have d2 := (HP2.out.1.desc (x := x) hm).thing
                clear hP1
                go_wp2_with fail
                generalize hw2 : w1'.setCell ⟨I.kb, 7, none⟩ (.int .i64 ((K.writes : Int) + 1)) = w2 at *
                refine (HN.out w2 I _ HP2.out.1 rfl).mono ?_
                rintro e w3 ⟨rfl, v', hP3, hT3⟩
                have hT13 := (HT1.out.trans HP2.out.2 (fun _ _ e => e)).trans hT3 (fun _ _ e => e)
                have HP3 := hide hP3
                clear hP3
                go_wp2
                go_ret2
                exact ⟨rfl, PNext.of HP3.out rfl hT13⟩
            · have hne : ¬ refusal (K.tho x) x.flags x.pos bs.length = 0 := by rw [hRF2]; exact hz2
              rw [show K.write d bs = (0, RF, K) by unfold KS.write; rw [hx]; simp only; rw [if_neg hf, if_neg hn, if_neg hz, if_neg hne, hRF2]]
              have hz3 : (RF == 0) = false := by simpa using hz2
              clear h HX hpr HG HN hne
              go_enter Tryz.func11, Tryz.ntmps11
              go_wp2_with fail
              refine HF.out.mono ?_
              rintro e w1 ⟨rfl, rfl⟩
              unfold descV
              go_wp2_with fail
              refine HRf.out.mono ?_
              rintro e w1' ⟨rfl, hB⟩
              go_wp2
              go_ret2
              exact PNum.refused HK.out hB RF
end Go.Proofs.YtkgbhcpeoaefjaaGreat

/- The program's kernel within a set of blocks: each call. -/
namespace Go.Proofs.YtkgbhcpeoaefjaaGreat
open Go.RowKit Go.Maps

theorem KAt.open {w : World} {O : Nat → Prop} {kb : Nat} {K : KS} (h : KAt w O kb K) (s : ByteArray) (flags : Int) (hs : s.size ≤ maxLen) (hl : K.next < 9223372036854775807) :
    Calls Tryz.prog 9 #[.pointer (some ⟨kb, 0, none⟩), .string s, .int .i64 flags] w fun e w' => e = .returned (.tuple #[.int .i64 (K.open s flags).1, .int .i64 (K.open s flags).2.1]) ∧ KStep w O kb (K.open s flags).2.2 w' := by
  obtain ⟨ρ, I, h1, rfl, h3⟩ := h
  exact (kopen_any ρ I K s flags w h1 hs hl).mono fun e w' ⟨a, b⟩ => ⟨a, b.step h3⟩
theorem KAt.pipe {w : World} {O : Nat → Prop} {kb : Nat} {K : KS} (h : KAt w O kb K) (hl : K.next + 1 < 9223372036854775807) :
    Calls Tryz.prog 10 #[.pointer (some ⟨kb, 0, none⟩)] w fun e w' => e = .returned (.tuple #[.int .i64 K.pipe.1, .int .i64 K.pipe.2.1, .int .i64 K.pipe.2.2.1]) ∧ KStep w O kb K.pipe.2.2.2 w' := by
  obtain ⟨ρ, I, h1, rfl, h3⟩ := h
  exact (kpipe_any ρ I K w h1 hl).mono fun e w' ⟨a, b⟩ => ⟨a, b.step h3⟩
theorem KAt.read {w : World} {O : Nat → Prop} {kb : Nat} {K : KS} (h : KAt w O kb K) (d n : Int) (hd : I64 d) (hr : K.reads < 9223372036854775807) :
    Calls Tryz.prog 14 #[.pointer (some ⟨kb, 0, none⟩), .int .i64 d, .int .i64 n] w fun e w' => ∃ v, e = .returned (.tuple #[v, .int .i64 (K.read d n).2.1]) ∧ w'.ownsRow w.heap.size 5 1 v (K.read d n).1.length ((K.read d n).1.map bv) ∧ KAt w' O kb (K.read d n).2.2 ∧ Turned O w w' := by
  obtain ⟨ρ, I, h1, rfl, h3⟩ := h
  exact (kread_any ρ I K d n w h1 hd hr).mono fun e w' ⟨v, a, b, ρ', I', c1, c2, c3, c4⟩ => ⟨v, a, b, ⟨ρ', I', c1, c2, fun k t e => by obtain ⟨t', e'⟩ := c3 k ⟨t, e⟩; exact h3 k t' e'⟩, c4.mono fun k ⟨t, e⟩ => h3 k t e⟩
theorem KAt.write {w : World} {O : Nat → Prop} {kb : Nat} {K : KS} (h : KAt w O kb K) (d : Int) (bs : List UInt8) (a1 : Option Addr) (cx : Nat) (hd : I64 d) (hr : K.writes < 9223372036854775807)
    (hb : Bys w (.slice a1 bs.length cx) bs) (hcap : bs.length ≤ cx) (hbig : bs.length ≤ 9223372036854775807) (hap : 0 < bs.length → ∀ k, (Value.slice a1 bs.length cx).ownBlock = some k → ¬ O k) :
    Calls Tryz.prog 11 #[.pointer (some ⟨kb, 0, none⟩), .int .i64 d, .slice a1 bs.length cx] w fun e w' => e = .returned (.tuple #[.int .i64 (K.write d bs).1, .int .i64 (K.write d bs).2.1]) ∧ KStep w O kb (K.write d bs).2.2 w' := by
  obtain ⟨ρ, I, h1, rfl, h3⟩ := h
  exact (kwrite_any ρ I K d bs a1 cx w h1 hd hr hb hcap hbig (fun h0 k e ⟨t, e'⟩ => hap h0 k e (h3 k t e'))).mono fun e w' ⟨a, b⟩ => ⟨a, b.step h3⟩
theorem KAt.seek {w : World} {O : Nat → Prop} {kb : Nat} {K : KS} (h : KAt w O kb K) (d off wh : Int) (hd : I64 d) (ho : I64 off) :
    Calls Tryz.prog 15 #[.pointer (some ⟨kb, 0, none⟩), .int .i64 d, .int .i64 off, .int .i64 wh] w fun e w' => e = .returned (.tuple #[.int .i64 (K.seek d off wh).1, .int .i64 (K.seek d off wh).2.1]) ∧ KStep w O kb (K.seek d off wh).2.2 w' := by
  obtain ⟨ρ, I, h1, rfl, h3⟩ := h
  exact (kseek_any ρ I K d off wh w h1 hd ho).mono fun e w' ⟨a, b⟩ => ⟨a, b.step h3⟩
theorem KAt.trim {w : World} {O : Nat → Prop} {kb : Nat} {K : KS} (h : KAt w O kb K) : KAt w (fun k => O k ∧ k < w.heap.size) kb K := by
  obtain ⟨ρ, I, h1, h2, h3⟩ := h
  exact ⟨ρ, I, h1, h2, fun k t e => ⟨h3 k t e, h1.lt k t e⟩⟩
/-- Two steps, one behind the other, from a base on. -/
theorem KStep.at {B : Nat} {w w' : World} {O : Nat → Prop} {kb : Nat} {K' : KS} (h : KStep w O kb K' w') (hO : ∀ k, O k → B ≤ k) (hB : B ≤ w.heap.size) : KAt w' (fun k => B ≤ k ∧ k < w'.heap.size) kb K' ∧ Below B w w' := by
  obtain ⟨O', h1, h2, h3⟩ := h
  exact ⟨h1.trim.mono fun k e => ⟨(h2 k e.1).elim (hO k) (fun e => Nat.le_trans hB e), e.2⟩, h3.below hO hB⟩
end Go.Proofs.YtkgbhcpeoaefjaaGreat

/- The law's examples. -/
namespace Go.Proofs.YtkgbhcpeoaefjaaGreat
open Go.RowKit Go.Maps

def exK0 : KS := KS.new [(⟨#[97]⟩, [104, 101, 108, 108, 111])] [] [(1, 2), (2, 0)]
def exK1 : KS := (exK0.open ⟨#[97]⟩ 1).2.2
theorem ex1 : (exK0.open ⟨#[97]⟩ 1).1 = 1 ∧ (exK0.open ⟨#[97]⟩ 1).2.1 = 0 := by constructor <;> rfl
def exK2 : KS := (exK1.read 1 5).2.2
theorem ex2 : (exK1.read 1 5).1 = [104, 101] ∧ (exK1.read 1 5).2.1 = 0 := by constructor <;> rfl
def exK3 : KS := (exK2.read 1 5).2.2
theorem ex3 : (exK2.read 1 5).1 = [] ∧ (exK2.read 1 5).2.1 = 22 := by constructor <;> rfl
def exK4 : KS := (exK3.read 1 5).2.2
theorem ex4 : (exK3.read 1 5).1 = [108, 108, 111] ∧ (exK3.read 1 5).2.1 = 0 := by constructor <;> rfl
def exK5 : KS := (exK4.open ⟨#[98]⟩ 1).2.2
theorem ex5 : (exK4.open ⟨#[98]⟩ 1).1 = 0 ∧ (exK4.open ⟨#[98]⟩ 1).2.1 = 62 := by constructor <;> rfl
def exK6 : KS := (exK5.open ⟨#[98]⟩ 42).2.2
theorem ex6 : (exK5.open ⟨#[98]⟩ 42).1 = 2 ∧ (exK5.open ⟨#[98]⟩ 42).2.1 = 0 := by constructor <;> rfl
theorem ex7 : (exK6.open ⟨#[98]⟩ 42).1 = 0 ∧ (exK6.open ⟨#[98]⟩ 42).2.1 = 63 := by constructor <;> rfl
theorem exc : checkE [(⟨#[97]⟩, [104, 101, 108, 108, 111])] [] [(1, 2), (2, 0)] = 0 := by rfl
theorem one_named {W : World} {g : Nat} {nm : ByteArray} {va : Option Addr} {vc : Nat} {b : List UInt8} (h0 : W.cell? ⟨g, 0, none⟩ = some (.string nm)) (h1 : W.cell? ⟨g, 1, none⟩ = some (.slice va b.length vc)) (hb : Bys W (.slice va b.length vc) b) (hc : b.length ≤ vc) (hs : nm.size ≤ maxLen) : Nms W (.slice (some ⟨g, 0, none⟩) 1 1) [(nm, b)] := by
  refine ⟨_, _, rfl, Nat.le_refl _, fun _ => ⟨g, 0, rfl, fun j hj => ?_⟩⟩
  obtain rfl : j = 0 := by simp at hj; omega
  exact ⟨va, vc, h0, h1, hb, hc, hs⟩
theorem no_typed (W : World) : Tps W (.slice none 0 0) [] := ⟨_, _, rfl, Nat.le_refl _, fun h => absurd h (Nat.lt_irrefl _)⟩
set_option maxRecDepth 100000 in
set_option maxHeartbeats 2000000 in
theorem hello_any (w : World) : Calls Tryz.prog 22 #[] w fun e w' => ∃ kb, e = .returned (.pointer (some ⟨kb, 0, none⟩)) ∧ KAt w' (fun k => w.heap.size ≤ k) kb exK0 ∧ Below w.heap.size w w' := by
  have cl := conv_lit w #[.int .u8 104, .int .u8 101, .int .u8 108, .int .u8 108, .int .u8 111] 5 w.heap.size 5 rfl rfl
  simp only [Nat.reduceAdd] at cl
  have hb1 := Te_lit_bys w [104, 101, 108, 108, 111] #[.int .u8 104, .int .u8 101, .int .u8 108, .int .u8 108, .int .u8 111] 5 w.heap.size (5, 6) rfl rfl rfl
  have hB1 := recv_below w (Obj.cells #[.int .u8 104, .int .u8 101, .int .u8 108, .int .u8 108, .int .u8 111] 5 (5, 6))
  have hs1 : (w.alloc (Obj.cells #[.int .u8 104, .int .u8 101, .int .u8 108, .int .u8 108, .int .u8 111] 5 (5, 6))).heap.size = w.heap.size + 1 := by simp
  go_enter Tryz.func22, Tryz.ntmps22
  go_wp2_with fail
  generalize hw1 : w.alloc (Obj.cells #[.int .u8 104, .int .u8 101, .int .u8 108, .int .u8 108, .int .u8 111] 5 (5, 6)) = w1 at *
  have hB2 := recv_below w1 (Obj.cells #[.string ⟨#[97]⟩, .slice (some ⟨w.heap.size, 0, none⟩) 5 5] 58)
  have hB3 := recv_below (w1.alloc (Obj.cells #[.string ⟨#[97]⟩, .slice (some ⟨w.heap.size, 0, none⟩) 5 5] 58)) (Obj.cells #[.int .i64 1, .int .i64 2, .int .i64 2, .int .i64 0] 116)
  have hs2 : (w1.alloc (Obj.cells #[.string ⟨#[97]⟩, .slice (some ⟨w.heap.size, 0, none⟩) 5 5] 58)).heap.size = w.heap.size + 1 + 1 := by simp [hs1]
  have hs3 : ((w1.alloc (Obj.cells #[.string ⟨#[97]⟩, .slice (some ⟨w.heap.size, 0, none⟩) 5 5] 58)).alloc (Obj.cells #[.int .i64 1, .int .i64 2, .int .i64 2, .int .i64 0] 116)).heap.size = w.heap.size + 1 + 1 + 1 := by simp [hs1]
  obtain ⟨p0, p1⟩ := pair_cells w1 (.string ⟨#[97]⟩) (.slice (some ⟨w.heap.size, 0, none⟩) 5 5) 58
  rw [hs1] at p0 p1
  have hN : Nms ((w1.alloc (Obj.cells #[.string ⟨#[97]⟩, .slice (some ⟨w.heap.size, 0, none⟩) 5 5] 58)).alloc (Obj.cells #[.int .i64 1, .int .i64 2, .int .i64 2, .int .i64 0] 116)) (.slice (some ⟨w.heap.size + 1, 0, none⟩) 1 1) [(⟨#[97]⟩, [104, 101, 108, 108, 111])] :=
    one_named ((hB3.cell (p := ⟨w.heap.size + 1, 0, none⟩) (by show w.heap.size + 1 < _; omega)).trans p0) ((hB3.cell (p := ⟨w.heap.size + 1, 1, none⟩) (by show w.heap.size + 1 < _; omega)).trans p1) ((hb1.below hB2).below hB3) (by decide) (by decide)
  have hfl : ((w1.alloc (Obj.cells #[.string ⟨#[97]⟩, .slice (some ⟨w.heap.size, 0, none⟩) 5 5] 58)).alloc (Obj.cells #[.int .i64 1, .int .i64 2, .int .i64 2, .int .i64 0] 116)).heap[w.heap.size + 1 + 1]? = some (Obj.cells ([.int .i64 1, .int .i64 2, .int .i64 2, .int .i64 0] : List Value).toArray 116 (0, 0)) := by
    have := heap_alloc_new (w1.alloc (Obj.cells #[.string ⟨#[97]⟩, .slice (some ⟨w.heap.size, 0, none⟩) 5 5] 58)) (Obj.cells #[.int .i64 1, .int .i64 2, .int .i64 2, .int .i64 0] 116)
    rw [hs2] at this
    exact this
  have hF : Flts ((w1.alloc (Obj.cells #[.string ⟨#[97]⟩, .slice (some ⟨w.heap.size, 0, none⟩) 5 5] 58)).alloc (Obj.cells #[.int .i64 1, .int .i64 2, .int .i64 2, .int .i64 0] 116)) (.slice (some ⟨w.heap.size + 1 + 1, 0, none⟩) 2 2) [(1, 2), (2, 0)] := by
    refine .inr (.inr ⟨w.heap.size + 1 + 1, 0, 2, rfl, by decide, by decide, fun j hj => ?_⟩)
    have : j = 0 ∨ j = 1 := by simp at hj; omega
    rcases this with rfl | rfl
    · constructor <;> (rw [cell_of_row _ _ _ _ _ _ hfl]; rfl)
    · constructor <;> (rw [cell_of_row _ _ _ _ _ _ hfl]; rfl)
  have hBw : Below w.heap.size w ((w1.alloc (Obj.cells #[.string ⟨#[97]⟩, .slice (some ⟨w.heap.size, 0, none⟩) 5 5] 58)).alloc (Obj.cells #[.int .i64 1, .int .i64 2, .int .i64 2, .int .i64 0] 116)) := hB1.trans ((hB2.trans (hB3.mono (by omega))).mono (by omega))
  have HN := hide (knew_good (some ⟨w.heap.size + 1, 0, none⟩) none (some ⟨w.heap.size + 1 + 1, 0, none⟩) 1 0 2 [(⟨#[97]⟩, [104, 101, 108, 108, 111])] [] [(1, 2), (2, 0)] _ hN (no_typed _) hF (by decide) (by decide) (by decide) exc)
  have HB := hide hBw
  clear hN hF hfl p0 p1 hB1 hB2 hB3 hb1 hBw cl
  refine HN.out.mono ?_
  rintro e w4 ⟨kb, rfl, hK, hB4⟩
  have HK := hide hK
  have HB4 := hide hB4
  clear hK hB4
  go_wp2
  go_ret
  have h0 := HB.out.size
  exact ⟨kb, rfl, HK.out.mono (fun k e => Nat.le_trans h0 e), HB.out.trans (HB4.out.mono h0)⟩
/-- num. -/
theorem num_is (x : Int) (w : World) : Calls Tryz.prog 8 #[.int .i64 x] w fun e w' => e = .returned (.int .i64 x) ∧ w' = w := by
  go_enter Tryz.func8, Tryz.ntmps8
  go_wp2
  go_ret
  exact ⟨rfl, rfl⟩
set_option maxRecDepth 100000 in
set_option maxHeartbeats 4000000 in
theorem alive_any (w : World) : Calls Tryz.prog 5 #[] w fun e w' => e = .returned (.bool true) ∧ Below w.heap.size w w' := by
  have HH := hide (hello_any w)
  have i1 : I64 1 := ⟨by decide, by decide⟩
  go_enter Tryz.func5, Tryz.ntmps5
  go_wp2_with fail
  refine HH.out.mono ?_
  rintro e w1 ⟨kb, rfl, hK, hB⟩
  have HB1 := hide hB
  have hs1 := hB.size
  have H1 := hide (hK.open ⟨#[97]⟩ 1 (by decide) (by decide))
  rw [ex1.1, ex1.2] at H1
  clear hK hB
  go_wp2_with fail
  refine H1.out.mono ?_
  rintro e w2 ⟨rfl, hS⟩
  obtain ⟨hK, hB⟩ := hS.at (B := w.heap.size) (fun _ e => e) hs1
  have HB2 := hide (HB1.out.trans hB)
  have hs2 := HB2.out.size
  have H2 := hide (hK.read 1 5 i1 (by decide))
  rw [show (exK0.open ⟨#[97]⟩ 1).2.2 = exK1 from rfl, ex2.1, ex2.2] at H2
  clear hK hB hS
  go_wp2_with fail
  refine H2.out.mono ?_
  rintro e w3 ⟨va, rfl, hra, hK3, hT3⟩
  obtain ⟨aa, ac, rfl⟩ := owns_slice hra
  have HA : Hid (w3.ownsRow w2.heap.size 5 1 (.slice aa 2 ac) 2 ([104, 101].map bv)) := hide hra
  have HT3 := hide hT3
  have H3 := hide (hK3.read 1 5 i1 (by decide))
  rw [show (exK1.read 1 5).2.2 = exK2 from rfl, ex3.1, ex3.2] at H3
  clear hra hK3 hT3
  simp only [List.length_cons, List.length_nil, Nat.zero_add, Nat.reduceAdd]
  go_wp2_with fail
  refine H3.out.mono ?_
  rintro e w4 ⟨vb, rfl, hrb, hK4, hT4⟩
  obtain ⟨ba, bc, rfl⟩ := owns_slice hrb
  have HT4 := hide hT4
  have H4 := hide (hK4.read 1 5 i1 (by decide))
  rw [show (exK2.read 1 5).2.2 = exK3 from rfl, ex4.1, ex4.2] at H4
  clear hrb hK4 hT4
  simp only [List.length_nil]
  go_wp2_with fail
  refine H4.out.mono ?_
  rintro e w5 ⟨vc, rfl, hrc, hK5, hT5⟩
  obtain ⟨ca, cc, rfl⟩ := owns_slice hrc
  have HC : Hid (w5.ownsRow w4.heap.size 5 1 (.slice ca 3 cc) 3 ([108, 108, 111].map bv)) := hide hrc
  have HT5 := hide hT5
  have H5 := hide (hK5.open ⟨#[98]⟩ 1 (by decide) (by decide))
  rw [show (exK3.read 1 5).2.2 = exK4 from rfl, ex5.1, ex5.2] at H5
  clear hrc hK5 hT5
  simp only [List.length_cons, List.length_nil, Nat.zero_add, Nat.reduceAdd]
  go_wp2_with fail
  refine H5.out.mono ?_
  rintro e w6 ⟨rfl, O6, hK6, hO6, hT6⟩
  have HO6 := hide (And.intro hO6 hT6)
  have H6 := hide (hK6.open ⟨#[98]⟩ 42 (by decide) (by decide))
  rw [show (exK4.open ⟨#[98]⟩ 1).2.2 = exK5 from rfl, ex6.1, ex6.2] at H6
  clear hK6 hO6 hT6
  go_wp2_with fail
  refine H6.out.mono ?_
  rintro e w7 ⟨rfl, O7, hK7, hO7, hT7⟩
  have HO7 := hide (And.intro hO7 hT7)
  have H7 := hide (hK7.open ⟨#[98]⟩ 42 (by decide) (by decide))
  rw [show (exK5.open ⟨#[98]⟩ 42).2.2 = exK6 from rfl, ex7.1, ex7.2] at H7
  clear hK7 hO7 hT7
  go_wp2_with fail
  refine H7.out.mono ?_
  rintro e w8 ⟨rfl, O8, -, hO8, hT8⟩
  have HE : Hid ((convert 28 9 (.slice aa 2 ac)).run Tryz.prog w8 = .ok (.string ⟨#[104, 101]⟩) w8 ∧ (convert 28 9 (.slice ca 3 cc)).run Tryz.prog w8 = .ok (.string ⟨#[108, 108, 111]⟩) w8 ∧ Below w.heap.size w w8) := hide (by
    obtain ⟨o6, t6⟩ := HO6.out
    obtain ⟨o7, t7⟩ := HO7.out
    have t3 := HT3.out
    have t4 := HT4.out
    have t5 := HT5.out
    have z3 := t3.size
    have z4 := t4.size
    have z5 := t5.size
    have z6 := t6.size
    have z7 := t7.size
    have n6 : ∀ k, k < w5.heap.size → w2.heap.size ≤ k → ¬ O6 k := fun k h1 h2 e => by
      rcases o6 k e with e | e
      · exact absurd e.2 (by omega)
      · omega
    have n7 : ∀ k, k < w5.heap.size → w2.heap.size ≤ k → ¬ O7 k := fun k h1 h2 e => by
      rcases o7 k e with e | e
      · exact n6 k h1 h2 e
      · omega
    have la := HA.out.lt
    have lc := HC.out.lt
    have A4 := owns_turned HA.out t4 (fun k e => by have := la k e; omega)
    have A5 := owns_turned A4 t5 (fun k e => by have := la k e; omega)
    have A6 := owns_turned A5 t6 (fun k e => by have := la k e; omega)
    have A7 := owns_turned A6 t7 (fun k e => by have := la k e; exact n6 k (by omega) (by omega))
    have A8 := owns_turned A7 hT8 (fun k e => by have := la k e; exact n7 k (by omega) (by omega))
    have C6 := owns_turned HC.out t6 (fun k e => by have := lc k e; omega)
    have C7 := owns_turned C6 t7 (fun k e => by have := lc k e; exact n6 k (by omega) (by omega))
    have C8 := owns_turned C7 hT8 (fun k e => by have := lc k e; exact n7 k (by omega) (by omega))
    have b6 : ∀ k, O6 k → w.heap.size ≤ k := fun k e => by
      rcases o6 k e with e | e
      · exact e.1
      · omega
    have b7 : ∀ k, O7 k → w.heap.size ≤ k := fun k e => by
      rcases o7 k e with e | e
      · exact b6 k e
      · omega
    refine ⟨owns_string (l := [104, 101]) A8, owns_string (l := [108, 108, 111]) C8, ?_⟩
    have B3 := HB2.out.trans (t3.below (fun k e => e.1) hs2)
    have B4 := B3.trans (t4.below (fun k e => e.1) B3.size)
    have B5 := B4.trans (t5.below (fun k e => e.1) B4.size)
    have B6 := B5.trans (t6.below (fun k e => e.1) B5.size)
    have B7 := B6.trans (t7.below b6 B6.size)
    exact B7.trans (hT8.below b7 B7.size))
  have q1 := HE.out.1
  have q2 := HE.out.2.1
  clear hO8 hT8
  go_wp2
  go_ret
  exact ⟨rfl, HE.out.2.2⟩
end Go.Proofs.YtkgbhcpeoaefjaaGreat

/- KernPlace: the kernel's states, as values. -/
namespace Go.Proofs.YtkgbhcpeoaefjaaGreat
open Go.RowKit Go.Maps

def nmF : ByteArray := ⟨#[102]⟩
/-- One file, two descriptions of it: one read by two, one written. -/
def KPl (b : List UInt8) (p1 p2 rd wr : Nat) : KS := ⟨[⟨nmF, .file b⟩], [0], [⟨1, 0, 1, p1, 2⟩, ⟨2, 0, 3, p2, 1⟩], 3, [], rd, wr⟩
theorem pl_check (b : List UInt8) : checkE [(nmF, b)] [] [] = if 1048576 < b.length then 5 else 0 := by
  unfold checkE
  rw [if_neg (by simp)]
  rw [show kfiles [] [(nmF, b)] = if 1048576 < b.length then (5, []) else (0, [nmF]) from rfl]
  split
  · rw [if_neg (by decide)]
  · rw [if_pos rfl]; rfl
theorem pl_open1 (b : List UInt8) : (KS.new [(nmF, b)] [] []).open nmF 1 = (1, 0, ⟨[⟨nmF, .file b⟩], [0], [⟨1, 0, 1, 0, 1⟩], 2, [], 0, 0⟩) := rfl
theorem pl_open2 (b : List UInt8) : (⟨[⟨nmF, .file b⟩], [0], [⟨1, 0, 1, 0, 1⟩], 2, [], 0, 0⟩ : KS).open nmF 3 = (2, 0, ⟨[⟨nmF, .file b⟩], [0], [⟨1, 0, 1, 0, 1⟩, ⟨2, 0, 3, 0, 1⟩], 3, [], 0, 0⟩) := rfl
theorem pl_keep (b : List UInt8) : (⟨[⟨nmF, .file b⟩], [0], [⟨1, 0, 1, 0, 1⟩, ⟨2, 0, 3, 0, 1⟩], 3, [], 0, 0⟩ : KS).keepE 1 = 0 ∧ (⟨[⟨nmF, .file b⟩], [0], [⟨1, 0, 1, 0, 1⟩, ⟨2, 0, 3, 0, 1⟩], 3, [], 0, 0⟩ : KS).keepK 1 = KPl b 0 0 0 0 := ⟨rfl, rfl⟩
theorem nxt_nil {n : Int} (h1 : 1 ≤ n) (h2 : n ≤ 1048576) : nxt [] n = (n, 0) := by simp [nxt]; omega
theorem pl_read (b : List UInt8) (p1 p2 rd wr : Nat) (n : Int) (h1 : 1 ≤ n) (h2 : n ≤ 1048576) : (KPl b p1 p2 rd wr).read 1 n = (piece b p1 n.toNat, 0, KPl b (p1 + (piece b p1 n.toNat).length) p2 (rd + 1) wr) := by
  have hx : (KPl b p1 p2 rd wr).find 1 = some ⟨1, 0, 1, p1, 2⟩ := rfl
  rw [read_is hx (by show fbit 1 1 ≠ 0; decide) h1 h2 rfl]
  have e : nxt (KPl b p1 p2 rd wr).plan n = (n, 0) := nxt_nil h1 h2
  rw [e, if_pos rfl]
  rfl
theorem pl_write (b x : List UInt8) (p1 rd wr : Nat) (h1 : 1 ≤ x.length) (h2 : x.length ≤ 1048576) : (KPl b p1 0 rd wr).write 2 x = ((x.length : Int), 0, KPl (wrL b 0 x) p1 x.length rd (wr + 1)) := by
  have hx : (KPl b p1 0 rd wr).find 2 = some ⟨2, 0, 3, 0, 1⟩ := rfl
  have hr : refusal ((KPl b p1 0 rd wr).tho ⟨2, 0, 3, 0, 1⟩) 3 0 x.length = 0 := rfl
  rw [write_is hx (by show fbit 3 2 ≠ 0; decide) h1 h2 hr]
  have e : nxt (KPl b p1 0 rd wr).plan x.length = ((x.length : Int), 0) := nxt_nil (by omega) (by omega)
  rw [e, if_pos rfl]
  have hm : min x.length (1048576 - placeOf b 3 0) = x.length := by
    rw [show placeOf b 3 0 = 0 from rfl]; omega
  show (KPl b p1 0 rd wr).writeUp.wrx ⟨2, 0, 3, 0, 1⟩ x x.length = _
  rw [show (KPl b p1 0 rd wr).writeUp.wrx ⟨2, 0, 3, 0, 1⟩ x x.length = (((min x.length (1048576 - placeOf b 3 0) : Nat) : Int), 0, ((KPl b p1 0 rd wr).writeUp.setOb 0 (.file (wrL b (placeOf b 3 0) (x.take (min x.length (1048576 - placeOf b 3 0)))))).setDe ⟨2, 0, 3, placeOf b 3 0 + min x.length (1048576 - placeOf b 3 0), 1⟩) from rfl]
  rw [hm, show placeOf b 3 0 = 0 from rfl, List.take_length, Nat.zero_add]
  rfl
theorem pl_writeN (b x : List UInt8) (p1 rd wr : Nat) (h : x.length = 0 ∨ 1048576 < x.length) : ((KPl b p1 0 rd wr).write 2 x).1 = 0 := by
  have hx : (KPl b p1 0 rd wr).find 2 = some ⟨2, 0, 3, 0, 1⟩ := rfl
  unfold KS.write
  rw [hx]
  simp only
  rw [if_neg (by decide)]
  rcases h with h | h
  · rw [if_neg (by omega), if_pos h]
  · rw [if_pos h]
theorem pl_seek (b : List UInt8) (p1 p2 rd wr : Nat) : (KPl b p1 p2 rd wr).seek 1 0 0 = (0, 0, KPl b 0 p2 rd wr) := rfl
theorem pl_back (b x : List UInt8) (h2 : x.length ≤ 1048576) : piece (wrL b 0 x) 0 x.length = x := by
  unfold wrL
  have : Fi_wrE 0 x.length = 0 := wr_fits (at' := 0) (by omega)
  rw [if_pos this]
  by_cases hx : x = []
  · subst hx; simp [piece]
  · simp [piece, lay, hx]
theorem ktmod_bound (x k : Int) (hk : 0 < k) : -k < x.tmod k ∧ x.tmod k < k := by
  have h2 : ∀ y : Int, 0 ≤ y → 0 ≤ y.tmod k ∧ y.tmod k < k := fun y h => by
    rw [Int.tmod_eq_emod_of_nonneg h]
    exact ⟨Int.emod_nonneg _ (by omega), Int.emod_lt_of_pos _ hk⟩
  rcases Int.le_total 0 x with h | h
  · have := h2 x h; omega
  · have h3 := h2 (-x) (by omega)
    rw [Int.neg_tmod] at h3
    omega
theorem krem_twice (full k : Int) (hk : 0 < k) (hk2 : k ≤ 1048576) : ∃ m : Nat, (wrap64 (full.tmod k + k)).tmod k = (m : Int) ∧ (m : Int) < k := by
  have h1 := ktmod_bound full k hk
  have h2 : wrap64 (full.tmod k + k) = full.tmod k + k := by unfold wrap64; omega
  rw [h2, Int.tmod_eq_emod_of_nonneg (by omega)]
  have h3 := Int.emod_nonneg (full.tmod k + k) (b := k) (by omega)
  have h4 := Int.emod_lt_of_pos (full.tmod k + k) hk
  exact ⟨((full.tmod k + k) % k).toNat, by omega, by omega⟩
theorem take_piece {b : List UInt8} {p n : Nat} (hp : p ≤ b.length) : b.take p ++ piece b p n = b.take (p + (piece b p n).length) := by
  rw [piece_len]
  unfold piece
  rw [← List.take_add]
  by_cases h : n ≤ b.length - p
  · rw [Nat.min_eq_left h]
  · rw [Nat.min_eq_right (by omega), List.take_of_length_le (by omega), List.take_of_length_le (by omega)]
end Go.Proofs.YtkgbhcpeoaefjaaGreat

/- What the proof stands on, part 11: the contracts of the program's calls that it reaches. -/
import Derived.Test.YtkkicbhmcjbmbaaGreatKM10
/- The program's kernel: Read, walked. -/
namespace Go.Proofs.YtkkicbhmcjbmbaaGreat
open Go.RowKit Go.Maps

theorem PRd.done {w w1 w4 : World} {ρ : Nat → Option PTag} {I I1 : PI} {r : List UInt8 × Int × KS} {v : Value} (hT : Turned (Own ρ) w w1) (hk : I1.kb = I.kb) (hrow : w4.ownsRow w1.heap.size 5 1 v r.1.length (r.1.map bv)) (hN : PHold ρ I1 w1 r.2.2 w4) :
    PRd ρ I w r (.returned (.tuple #[v, .int .i64 r.2.1])) w4 := ⟨v, rfl, owns_mono hrow hT.size, hN.after hT hk⟩
theorem waits_file {ob : Ob} {b : List UInt8} (h : ob = .file b) : ob.waits = false := by rw [h]; rfl
theorem waits_term {ob : Ob} {ls : List (List UInt8)} {scr : List UInt8} (h : ob = .term ls scr) : ob.waits = false := by rw [h]; rfl
set_option maxRecDepth 100000 in
theorem of_readWaits (x : Nat) (w : World) : Calls Tryz.prog 239 #[.pointer (some ⟨x, 0, none⟩)] w fun e w' => e = .returned (.bool false) ∧ w' = w := by
  go_enter Tryz.func239, Tryz.ntmps239
  go_wp2
  go_ret
  exact ⟨rfl, rfl⟩
set_option maxRecDepth 100000 in
theorem co_readWaits (x : Nat) (w : World) : Calls Tryz.prog 233 #[.pointer (some ⟨x, 0, none⟩)] w fun e w' => e = .returned (.bool false) ∧ w' = w := by
  go_enter Tryz.func233, Tryz.ntmps233
  go_wp2
  go_ret
  exact ⟨rfl, rfl⟩
set_option maxRecDepth 100000 in
set_option maxHeartbeats 4000000 in
theorem kread_any (ρ : Nat → Option PTag) (I : PI) (K : KS) (d n : Int) (w : World) (h : PK w ρ I K) (hd : I64 d) (hr : K.reads < 9223372036854775807) :
    Calls Tryz.prog 52 #[.pointer (some ⟨I.kb, 0, none⟩), .int .i64 d, .int .i64 n] w (PRd ρ I w (K.read d n)) := by
  have HF := hide (described_any ρ I K d w h hd)
  have HX := hide fun E => PRd.refused h (Below.refl _ w) E
  have HK := hide h
  cases hx : K.find d with
  | none =>
    rw [hx] at HF
    rw [show K.read d n = ([], 64, K) by unfold KS.read; rw [hx]]
    clear h HK
    go_enter Tryz.func52, Tryz.ntmps52
    go_wp2_with fail
    refine HF.out.mono ?_
    rintro e w1 ⟨rfl, rfl⟩
    unfold descV
    go_wp2
    go_ret2
    exact HX.out 64
  | some x =>
    rw [hx] at HF
    have hm := (KS.find_some hx).1
    have hdc := h.desc hm
    have c0 := hdc.thing
    have c1 := hdc.reads
    by_cases hf : fbit x.flags 1 = 0
    · rw [show K.read d n = ([], 65, K) by unfold KS.read; rw [hx]; simp only; rw [if_pos hf]]
      rw [bit_no hf] at c1
      clear h hdc HK
      go_enter Tryz.func52, Tryz.ntmps52
      go_wp2_with fail
      refine HF.out.mono ?_
      rintro e w1 ⟨rfl, rfl⟩
      unfold descV
      go_wp2
      go_ret2
      exact HX.out 65
    · rw [bit_yes hf] at c1
      by_cases hn : n < 0 ∨ 1048576 < n
      · rw [show K.read d n = ([], 4, K) by unfold KS.read; rw [hx]; simp only; rw [if_neg hf, if_pos hn]]
        clear h hdc HK
        rcases hn with hn | hn
        · go_enter Tryz.func52, Tryz.ntmps52
          go_wp2_with fail
          refine HF.out.mono ?_
          rintro e w1 ⟨rfl, rfl⟩
          unfold descV
          go_wp2
          go_ret2
          exact HX.out 4
        · have hn' : ¬ n < 0 := by omega
          go_enter Tryz.func52, Tryz.ntmps52
          go_wp2_with fail
          refine HF.out.mono ?_
          rintro e w1 ⟨rfl, rfl⟩
          unfold descV
          go_wp2
          go_ret2
          exact HX.out 4
      · by_cases hz : n = 0
        · rw [show K.read d n = ([], 0, K) by unfold KS.read; rw [hx]; simp only; rw [if_neg hf, if_neg hn, if_pos hz]]
          subst hz
          clear h hdc HK
          go_enter Tryz.func52, Tryz.ntmps52
          go_wp2_with fail
          refine HF.out.mono ?_
          rintro e w1 ⟨rfl, rfl⟩
          unfold descV
          go_wp2
          go_ret2
          exact HX.out 0
        · have n1 : ¬ n < 0 := by omega
          have n2 : ¬ 1048576 < n := by omega
          have n3 : (n == 0) = false := by simpa using hz
          have n4 : 1 ≤ n := by omega
          have n5 : n ≤ 1048576 := by omega
          have n6 : ¬ n = 0 := hz
          obtain ⟨pr, hpr⟩ : ∃ pr, pr = nxt K.plan n := ⟨_, rfl⟩
          have HG : Hid (pr.2 = 0 → 1 ≤ pr.1 ∧ pr.1 ≤ 1048576) := hide (fun e => by rw [hpr] at e ⊢; have := nxt_good h.ok.plan n4 n5 e; omega)
          have HN := hide fun W I' K' (hW : PK W ρ I' K') (hpl : K'.plan = K.plan) => by
            have := knext_any ρ I' K' n W hW n4 n5
            rw [hpl, ← hpr] at this
            exact this
          have hK := HK
          clear hdc
          cases ho : K.tho x with
          | file b =>
            rw [read_is hx hf n4 n5 (waits_file ho), ← hpr]
            have HP2 := hide h.readUp
            have HT0 := hide ho
            rw [thing_file ho] at c0
            have hmw := mf_readWaits (I.xb x.n)
            have hmr := mf_read (I.xb x.n)
            have c6 := h.cells.reads
            have c6s : w.frozen? ⟨I.kb, 6, none⟩ = false := frozen_of_row w I.kb 6 _ _ (h.comp .kern).1
            have c5 := HP2.out.1.cells.plan
            have d2 := (HP2.out.1.desc (x := x) hm).thing
            clear h HX HK
            clear hpr
            obtain ⟨pr1, pr2⟩ := pr
            simp only at HG HN ⊢
            by_cases he : pr2 = 0
            · subst he
              rw [if_pos rfl]
              go_enter Tryz.func52, Tryz.ntmps52
              go_wp2_with fail
              refine HF.out.mono ?_
              rintro e w1 ⟨rfl, rfl⟩
              unfold descV
              go_wp2_with fail
              refine (of_readWaits (I.xb x.n) _).mono ?_
              rintro e w1' ⟨rfl, rfl⟩
              go_wp2_with fail
              generalize hw2 : w1'.setCell ⟨I.kb, 6, none⟩ (.int .i64 ((K.reads : Int) + 1)) = w2 at *
              refine (HN.out w2 I _ HP2.out.1 rfl).mono ?_
              rintro e w3 ⟨rfl, v', hP3, hT3⟩
              have c7 := (hP3.desc (x := x) hm).thing
              rw [thing_file (K := { K with reads := K.reads + 1, plan := K.plan.tail }) ho] at c7
              simp only at c7
              go_wp2_with fail
              refine (xread_file ρ _ _ x b pr1 w3 hP3 hm ho (HG.out (by first | rfl | trivial)).1 (HG.out (by first | rfl | trivial)).2).mono ?_
              rintro e w4 ⟨v, rfl, hrow, hN⟩
              obtain ⟨va, vc, rfl⟩ := owns_slice hrow
              have HV := hide hrow
              have HS := hide hN
              clear hrow hN
              go_wp2
              go_ret2
              exact PRd.done (HP2.out.2.trans hT3 (fun _ _ e => e)) rfl HV.out HS.out
            · rw [if_neg he]
              have he2 : (pr2 == 0) = false := by simpa using he
              go_enter Tryz.func52, Tryz.ntmps52
              go_wp2_with fail
              refine HF.out.mono ?_
              rintro e w1 ⟨rfl, rfl⟩
              unfold descV
              go_wp2_with fail
              refine (of_readWaits (I.xb x.n) _).mono ?_
              rintro e w1' ⟨rfl, rfl⟩
              go_wp2_with fail
              generalize hw2 : w1'.setCell ⟨I.kb, 6, none⟩ (.int .i64 ((K.reads : Int) + 1)) = w2 at *
              refine (HN.out w2 I _ HP2.out.1 rfl).mono ?_
              rintro e w3 ⟨rfl, v', hP3, hT3⟩
              have HP3 := hide hP3
              clear hP3
              go_wp2
              go_ret2
              exact ⟨_, rfl, World.ownsRow_nil _ _ _ _, PHold.of HP3.out rfl (HP2.out.2.trans hT3 (fun _ _ e => e))⟩
          | term ls scr =>
            rw [read_is hx hf n4 n5 (waits_term ho), ← hpr]
            have HP2 := hide h.readUp
            have HT0 := hide ho
            rw [thing_term ho] at c0
            have hmw := mt_readWaits (I.cb x.th)
            have hmr := mt_read (I.cb x.th)
            have c6 := h.cells.reads
            have c6s : w.frozen? ⟨I.kb, 6, none⟩ = false := frozen_of_row w I.kb 6 _ _ (h.comp .kern).1
            have c5 := HP2.out.1.cells.plan
            have d2 := (HP2.out.1.desc (x := x) hm).thing
            clear h HX HK
            clear hpr
            obtain ⟨pr1, pr2⟩ := pr
            simp only at HG HN ⊢
            by_cases he : pr2 = 0
            · subst he
              rw [if_pos rfl]
              go_enter Tryz.func52, Tryz.ntmps52
              go_wp2_with fail
              refine HF.out.mono ?_
              rintro e w1 ⟨rfl, rfl⟩
              unfold descV
              go_wp2_with fail
              refine (co_readWaits (I.cb x.th) _).mono ?_
              rintro e w1' ⟨rfl, rfl⟩
              go_wp2_with fail
              generalize hw2 : w1'.setCell ⟨I.kb, 6, none⟩ (.int .i64 ((K.reads : Int) + 1)) = w2 at *
              refine (HN.out w2 I _ HP2.out.1 rfl).mono ?_
              rintro e w3 ⟨rfl, v', hP3, hT3⟩
              have c7 := (hP3.desc (x := x) hm).thing
              rw [thing_term (K := { K with reads := K.reads + 1, plan := K.plan.tail }) ho] at c7
              simp only at c7
              go_wp2_with fail
              refine (xread_term ρ _ _ x ls scr pr1 w3 hP3 hm ho).mono ?_
              rintro e w4 ⟨v, rfl, hrow, hN⟩
              obtain ⟨va, vc, rfl⟩ := owns_slice hrow
              have HV := hide hrow
              have HS := hide hN
              clear hrow hN
              go_wp2
              go_ret2
              exact PRd.done (HP2.out.2.trans hT3 (fun _ _ e => e)) rfl HV.out HS.out
            · rw [if_neg he]
              have he2 : (pr2 == 0) = false := by simpa using he
              go_enter Tryz.func52, Tryz.ntmps52
              go_wp2_with fail
              refine HF.out.mono ?_
              rintro e w1 ⟨rfl, rfl⟩
              unfold descV
              go_wp2_with fail
              refine (co_readWaits (I.cb x.th) _).mono ?_
              rintro e w1' ⟨rfl, rfl⟩
              go_wp2_with fail
              generalize hw2 : w1'.setCell ⟨I.kb, 6, none⟩ (.int .i64 ((K.reads : Int) + 1)) = w2 at *
              refine (HN.out w2 I _ HP2.out.1 rfl).mono ?_
              rintro e w3 ⟨rfl, v', hP3, hT3⟩
              have HP3 := hide hP3
              clear hP3
              go_wp2
              go_ret2
              exact ⟨_, rfl, World.ownsRow_nil _ _ _ _, PHold.of HP3.out rfl (HP2.out.2.trans hT3 (fun _ _ e => e))⟩
          | pipe q rd wt =>
            cases hcan : canR q.length rd wt with
            | false =>
              rw [show K.read d n = ([], 52, K) by unfold KS.read; rw [hx]; simp only; rw [if_neg hf, if_neg hn, if_neg hz, if_pos (by rw [ho]; show (!canR q.length rd wt) = true; rw [hcan]; rfl)]]
              have HW := hide (pp_readWaits (I.ob x.th) q rd wt w (by have := h.pobj hm; rw [ho] at this; exact this.1))
              rw [hcan] at HW
              rw [thing_pipe ho] at c0
              have hmw := mp_readWaits (I.ob x.th)
              clear h hK HN HG HX
              go_enter Tryz.func52, Tryz.ntmps52
              go_wp2_with fail
              refine HF.out.mono ?_
              rintro e w1 ⟨rfl, rfl⟩
              unfold descV
              go_wp2_with fail
              refine HW.out.mono ?_
              rintro e w2 ⟨rfl, hB⟩
              go_wp2
              go_ret2
              exact PRd.refused HK.out hB 52
            | true =>
            rw [read_is hx hf n4 n5 (by rw [ho]; show (!canR q.length rd wt) = false; rw [hcan]; rfl), ← hpr]
            have HW := hide (pp_readWaits (I.ob x.th) q rd wt w (by have := h.pobj hm; rw [ho] at this; exact this.1))
            rw [hcan] at HW
            have HP := hide h
            have HT0 := hide ho
            rw [thing_pipe ho] at c0
            have hmw := mp_readWaits (I.ob x.th)
            have hmr := mp_read (I.ob x.th)
            clear h HX HK
            clear hpr
            obtain ⟨pr1, pr2⟩ := pr
            simp only at HG HN ⊢
            by_cases he : pr2 = 0
            · subst he
              rw [if_pos rfl]
              go_enter Tryz.func52, Tryz.ntmps52
              go_wp2_with fail
              refine HF.out.mono ?_
              rintro e w1 ⟨rfl, rfl⟩
              unfold descV
              go_wp2_with fail
              refine HW.out.mono ?_
              rintro e w1' ⟨rfl, hB⟩
              have hP1 := HP.out.under hB
              have HP2 := hide hP1.readUp
              have c6 := hP1.cells.reads
              have c6s : w1'.frozen? ⟨I.kb, 6, none⟩ = false := frozen_of_row w1' I.kb 6 _ _ (hP1.comp .kern).1
              have c5 := HP2.out.1.cells.plan
              have d2 := (HP2.out.1.desc (x := x) hm).thing
              have HT1 := hide (Turned.of_below (S := Own ρ) hB)
              clear hP1 hB
              go_wp2_with fail
              generalize hw2 : w1'.setCell ⟨I.kb, 6, none⟩ (.int .i64 ((K.reads : Int) + 1)) = w2 at *
              refine (HN.out w2 I _ HP2.out.1 rfl).mono ?_
              rintro e w3 ⟨rfl, v', hP3, hT3⟩
              have c7 := (hP3.desc (x := x) hm).thing
              rw [thing_pipe (K := { K with reads := K.reads + 1, plan := K.plan.tail }) ho] at c7
              simp only at c7
              go_wp2_with fail
              refine (xread_pipe ρ _ _ x q rd wt pr1 w3 hP3 hm ho).mono ?_
              rintro e w4 ⟨v, rfl, hrow, hN⟩
              obtain ⟨va, vc, rfl⟩ := owns_slice hrow
              have HV := hide hrow
              have HS := hide hN
              clear hrow hN
              go_wp2
              go_ret2
              exact PRd.done ((HT1.out.trans HP2.out.2 (fun _ _ e => e)).trans hT3 (fun _ _ e => e)) rfl HV.out HS.out
            · rw [if_neg he]
              have he2 : (pr2 == 0) = false := by simpa using he
              go_enter Tryz.func52, Tryz.ntmps52
              go_wp2_with fail
              refine HF.out.mono ?_
              rintro e w1 ⟨rfl, rfl⟩
              unfold descV
              go_wp2_with fail
              refine HW.out.mono ?_
              rintro e w1' ⟨rfl, hB⟩
              have hP1 := HP.out.under hB
              have HP2 := hide hP1.readUp
              have c6 := hP1.cells.reads
              have c6s : w1'.frozen? ⟨I.kb, 6, none⟩ = false := frozen_of_row w1' I.kb 6 _ _ (hP1.comp .kern).1
              have c5 := HP2.out.1.cells.plan
              have d2 := (HP2.out.1.desc (x := x) hm).thing
              have HT1 := hide (Turned.of_below (S := Own ρ) hB)
              clear hP1 hB
              go_wp2_with fail
              generalize hw2 : w1'.setCell ⟨I.kb, 6, none⟩ (.int .i64 ((K.reads : Int) + 1)) = w2 at *
              refine (HN.out w2 I _ HP2.out.1 rfl).mono ?_
              rintro e w3 ⟨rfl, v', hP3, hT3⟩
              have HP3 := hide hP3
              clear hP3
              go_wp2
              go_ret2
              exact ⟨_, rfl, World.ownsRow_nil _ _ _ _, PHold.of HP3.out rfl ((HT1.out.trans HP2.out.2 (fun _ _ e => e)).trans hT3 (fun _ _ e => e))⟩
end Go.Proofs.YtkkicbhmcjbmbaaGreat

/- The program's kernel: Pipe. -/
namespace Go.Proofs.YtkkicbhmcjbmbaaGreat
open Go.RowKit Go.Maps

set_option maxRecDepth 100000 in
set_option maxHeartbeats 2000000 in
theorem newPipe_any (w : World) :
    Calls Tryz.prog 109 #[] w fun e w' => ∃ p, e = .returned (.tuple #[.iface 239 (.agg #[.pointer (some ⟨p, 0, none⟩)]), .iface 239 (.agg #[.pointer (some ⟨p, 0, none⟩)])]) ∧ PObj w' (fun k => w.heap.size ≤ k ∧ k < w'.heap.size) p (.pipe [] 1 1) ∧ Below w.heap.size w w' := by
  have HN := hide (po_new_pipe w)
  go_enter Tryz.func109, Tryz.ntmps109
  go_wp2_with fail
  refine HN.out.mono ?_
  rintro e w1 ⟨p, rfl, hO, hB⟩
  have HJ := hide (po_pjoin _ p [] 0 0 false w1 hO)
  have HB := hide hB
  clear hO hB
  go_wp2_with fail
  refine HJ.out.mono ?_
  rintro e w2 ⟨rfl, O2, h1, h2, h3⟩
  have HJ2 := hide (po_pjoin _ p [] _ _ true w2 h1)
  have HT := hide (And.intro h2 h3)
  clear h1 h2 h3
  go_wp2_with fail
  refine HJ2.out.mono ?_
  rintro e w3 ⟨rfl, O3, h1, h2, h3⟩
  have HL : Hid (PObj w3 (fun k => w.heap.size ≤ k ∧ k < w3.heap.size) p (.pipe [] 1 1) ∧ Below w.heap.size w w3) := hide (by
    obtain ⟨g2, g3⟩ := HT.out
    have hsz := HB.out.size
    have low2 : ∀ k, O2 k → w.heap.size ≤ k := fun k e => by
      rcases g2 k e with e | e
      · exact e.1
      · omega
    have hB2 : Below w.heap.size w w2 := HB.out.trans (g3.below (fun k e => e.1) hsz)
    have hB3 : Below w.heap.size w w3 := hB2.trans (h3.below low2 hB2.size)
    refine ⟨h1.trim.mono fun k ⟨e1, e2⟩ => ⟨?_, e2⟩, hB3⟩
    rcases h2 k e1 with e | e
    · exact low2 k e
    · have := hB2.size; omega)
  clear h1 h2 h3
  go_wp2
  go_ret2
  exact ⟨p, rfl, HL.out⟩
theorem KOk.addP {K : KS} (h : KOk K) (ob : Ob) : KOk (K.addP ob) := by
  have hlen : (K.addP ob).th.length = K.th.length + 1 := by show (K.th ++ [_]).length = _; simp
  exact ⟨h.few, h.named, fun d hd => by have := h.th d hd; omega, fun i hi => by have := h.nm i hi; omega, h.num, h.once, h.flags, h.pos, h.held, h.plan⟩
theorem KNm.addP {K : KS} (h : KNm K) (hok : KOk K) (ob : Ob) (hk : ob.kind = 3) : KNm (K.addP ob) := by
  have hM := more_addP K ob
  refine ⟨?_, fun i hi => ?_, fun i hi e => ?_, fun i hi => ?_⟩
  · refine h.sorted.imp_of_mem fun {a b} ha hb hab => ?_
    rw [hM.nameOf (hok.nm a ha), hM.nameOf (hok.nm b hb)]
    exact hab
  · rw [hM.obOf (hok.nm i hi)]; exact h.kind i hi
  · rw [show (K.addP ob).th.length = K.th.length + 1 by show (K.th ++ [_]).length = _; simp] at hi
    by_cases e' : i = K.th.length
    · subst e'
      rw [hM.obNew] at e
      exact absurd hk e
    · have hlt : i < K.th.length := by omega
      rw [hM.obOf hlt] at e
      exact h.all i hlt e
  · rw [hM.nameOf (hok.nm i hi)]; exact h.ok i hi
theorem fl_addP (K : KS) (hok : KOk K) (I : PI) (ob : Ob) (p c : Nat) : (K.addP ob).fl { I with ob := upd I.ob K.th.length p, cb := upd I.cb K.th.length c } = K.fl I ∧ (K.addP ob).tl { I with ob := upd I.ob K.th.length p, cb := upd I.cb K.th.length c } = K.tl I := by
  have hM := more_addP K ob
  have e : ∀ c : Int, (K.addP ob).nm.filter (fun i => ((K.addP ob).obOf i).kind == c) = K.nm.filter fun i => (K.obOf i).kind == c := fun c => List.filter_congr fun i hi => by rw [hM.obOf (hok.nm i hi)]
  constructor
  · unfold KS.fl KS.fidx
    rw [e 1]
    exact map_old hok hM _ _ _
  · unfold KS.tl KS.tidx
    rw [e 2]
    exact map_old hok hM _ _ _
/-- A pipe is added. -/
theorem PK.addPipe {W W' : World} {ρ : Nat → Option PTag} {I : PI} {K : KS} (h : PK W ρ I K) (p : Nat) {q : List UInt8} {rd wt : Nat} (hO : PObj W' (fun k => W.heap.size ≤ k ∧ k < W'.heap.size) p (.pipe q rd wt)) (hB : Below W.heap.size W W') :
    Added ρ I (K.addP (.pipe q rd wt)) W K.th.length p I.fm W' := by
  have hfl := fl_addP K h.ok I (.pipe q rd wt) p I.fm
  have hfm := h.lt _ _ (h.comp .fmap).2
  have htm := h.lt _ _ (h.comp .tmap).2
  obtain ⟨ρ', a1, a2, a3⟩ := h.more (more_addP K (.pipe q rd wt)) p I.fm hO (fun k e => ⟨e.1, by omega⟩) (fun ls scr e => by cases e) (Turned.of_below hB) (h.ok.addP _) (h.nm.addP h.ok _ rfl) (by rw [hfl.1]; exact (h.comp .fmap).1.keep (hB.block _ hfm)) (by rw [hfl.2]; exact (h.comp .tmap).1.keep (hB.block _ htm))
  exact ⟨ρ', a1, a2, a3, Turned.of_below hB⟩
end Go.Proofs.YtkkicbhmcjbmbaaGreat

/- The program's kernel: Pipe, walked. -/
namespace Go.Proofs.YtkkicbhmcjbmbaaGreat
open Go.RowKit Go.Maps

/-- Two numbers and an error are answered. -/
def PTwo (ρ : Nat → Option PTag) (I : PI) (w : World) (r : Int × Int × Int × KS) (e : Ending) (w' : World) : Prop :=
  e = .returned (.tuple #[.int .i64 r.1, .int .i64 r.2.1, .int .i64 r.2.2.1]) ∧ PNext ρ I w r.2.2.2 w'
theorem results_three {fn : Func} {t u v : Tmp} (h : fn.results = #[.tmp t, .tmp u, .tmp v]) (tmps : Array Value) (P : Program) (w : World) :
    (results fn tmps).run P w = .ok (.tuple #[tmps.getD t undef, tmps.getD u undef, tmps.getD v undef]) w := by
  simp [results, h]
set_option maxRecDepth 100000 in
set_option maxHeartbeats 4000000 in
theorem kpipe_any (ρ : Nat → Option PTag) (I : PI) (K : KS) (w : World) (h : PK w ρ I K) (hl : K.next + 1 < 9223372036854775807) :
    Calls Tryz.prog 27 #[.pointer (some ⟨I.kb, 0, none⟩)] w (PTwo ρ I w K.pipe) := by
  have hm := hide (kmade_any I.kb w h.cells.made)
  have c3 := h.cells.opens
  have sl := (h.comp .omap).1.len Tryz.underlying88
  have HNX := hide (h.comp .kern).2.2
  rw [show (K.dl I).length = K.de.length by unfold KS.dl; simp] at sl
  have hfew := h.ok.few
  by_cases hd : 254 < K.de.length
  · rw [show K.pipe = (0, 0, 3, K) by unfold KS.pipe; rw [if_pos hd]]
    have hd' : (254 : Int) < (K.de.length : Int) := by omega
    have HX := hide (PNext.same h)
    clear h
    go_enter Tryz.func27, Tryz.ntmps27
    go_wp2_with fail
    refine hm.out.mono ?_
    rintro e w1 ⟨rfl, rfl⟩
    go_wp2
    refine bodyPost_ret (results_three rfl _ _ _) rfl ?_
    exact ⟨rfl, HX.out⟩
  · rw [show K.pipe = ((K.next : Int), ((K.next + 1 : Nat) : Int), 0, ((K.addP (.pipe [] 1 1)).newDe K.th.length 1).newDe K.th.length 2) by unfold KS.pipe; rw [if_neg hd]]
    have hd' : ¬ (254 : Int) < (K.de.length : Int) := by omega
    have HNP := hide (newPipe_any w)
    have HK := hide h
    clear h
    go_enter Tryz.func27, Tryz.ntmps27
    go_wp2_with fail
    refine hm.out.mono ?_
    rintro e w1 ⟨rfl, rfl⟩
    go_wp2_with fail
    refine HNP.out.mono ?_
    rintro e w2 ⟨p, rfl, hO, hB⟩
    obtain ⟨ρ1, h1, h2, h3, h4⟩ := HK.out.addPipe p hO hB
    have hlen : K.th.length < (K.addP (.pipe [] 1 1)).th.length := by show _ < (K.th ++ [_]).length; simp
    have hob : (K.addP (.pipe [] 1 1)).obOf K.th.length = .pipe [] 1 1 := (more_addP K (.pipe [] 1 1)).obNew
    have HD1 := hide (describe_any ρ1 _ (K.addP (.pipe [] 1 1)) 239 (.agg #[.pointer (some ⟨p, 0, none⟩)]) 1 w2 h1 (by have := HNX.out; simp only; omega))
    simp only at HD1
    rw [show ((I.last + 1 : Nat) : Int) = (K.next : Int) by rw [HNX.out]] at HD1
    have HP1 := hide (And.intro h1 (And.intro h2 (And.intro h4 (And.intro hlen hob))))
    clear h1 h2 h3 h4 hO hB hlen hob
    go_wp2_with fail
    refine HD1.out.mono ?_
    rintro e w3 ⟨rfl, nb, hD⟩
    have HG1 := hide (HP1.out.1.newDe (i := K.th.length) HP1.out.2.2.2.1 flags_ok1.1 (by show K.de.length < 256; omega) (xb := 0) hD (fun b e => by rw [HP1.out.2.2.2.2] at e; cases e) (fun ls scr e => by rw [HP1.out.2.2.2.2] at e; cases e) (fun q rd wt _ => by simp only [upd_same]))
    have HD0 := hide hD
    clear hD
    obtain ⟨ρ2, g1, g2, g3⟩ := HG1.out
    have HD2 := hide (describe_any ρ2 _ _ 239 (.agg #[.pointer (some ⟨p, 0, none⟩)]) 2 w3 g1 (by have := HNX.out; simp only; omega))
    simp only at HD2
    rw [show ((I.last + 1 + 1 : Nat) : Int) = (K.next : Int) + 1 by rw [HNX.out]; rfl] at HD2
    have HP2 := hide (And.intro g1 g2)
    clear g1 g2 g3 HG1
    go_wp2_with fail
    refine HD2.out.mono ?_
    rintro e w4 ⟨rfl, nb2, hD2⟩
    have HN : Hid (PNext ρ I w1 (((K.addP (.pipe [] 1 1)).newDe K.th.length 1).newDe K.th.length 2) w4) := hide (by
      obtain ⟨h1, h2, h4, hlen, hob⟩ := HP1.out
      obtain ⟨g1, g2⟩ := HP2.out
      have hob2 : ((K.addP (.pipe [] 1 1)).newDe K.th.length 1).obOf K.th.length = .pipe [] 1 1 := hob
      obtain ⟨ρ3, k1, k2, k3⟩ := g1.newDe (i := K.th.length) hlen flags_ok1.2 (by show (K.de ++ [_]).length < 256; simp; omega) (xb := 0) hD2 (fun b e => by rw [hob2] at e; cases e) (fun ls scr e => by rw [hob2] at e; cases e) (fun q rd wt _ => by simp only [upd_same])
      have no : ¬ ∃ b, (K.addP (.pipe [] 1 1)).obOf K.th.length = .file b := fun ⟨b, e⟩ => by rw [hob] at e; cases e
      have T2 : newTags ρ ρ2 w1 := fun k t e => by
        rcases g2 k t e with e | e | e
        · exact h2 k t e
        · exact .inr (by rw [e]; exact Nat.le_trans h4.size HD0.out.new)
        · exact absurd e.1 no
      have T3 : Turned (Own ρ) w1 w3 := h4.trans HD0.out.turned (fun k hk e => by
        have : ∃ t, ρ1 k = some t := by
          rcases e with e | e
          · exact ⟨_, by rw [e]; exact (h1.comp .kern).2.1⟩
          · exact ⟨_, by rw [e]; exact (h1.comp .omap).2⟩
        obtain ⟨t, e'⟩ := this
        rcases h2 k t e' with h' | h'
        · exact h'
        · omega)
      refine ⟨ρ3, _, k1, rfl, fun k t e => ?_, T3.trans hD2.turned (fun k hk e => ?_)⟩
      · rcases k2 k t e with e | e | e
        · exact T2 k t e
        · exact .inr (by rw [e]; exact Nat.le_trans T3.size hD2.new)
        · exact absurd e.1 no
      · have : ∃ t, ρ2 k = some t := by
          rcases e with e | e
          · exact ⟨_, by rw [e]; exact (g1.comp .kern).2.1⟩
          · exact ⟨_, by rw [e]; exact (g1.comp .omap).2⟩
        obtain ⟨t, e'⟩ := this
        rcases T2 k t e' with h' | h'
        · exact h'
        · omega)
    clear hD2
    go_wp2
    refine bodyPost_ret (results_three rfl _ _ _) rfl ?_
    exact ⟨rfl, HN.out⟩
end Go.Proofs.YtkkicbhmcjbmbaaGreat

/- The program's kernel: CanRead, CanWrite. -/
namespace Go.Proofs.YtkkicbhmcjbmbaaGreat
open Go.RowKit Go.Maps

set_option maxRecDepth 100000 in
set_option maxHeartbeats 2000000 in
theorem kcanRead_any (ρ : Nat → Option PTag) (I : PI) (K : KS) (d : Int) (w : World) (h : PK w ρ I K) (hd : I64 d) :
    Calls Tryz.prog 74 #[.pointer (some ⟨I.kb, 0, none⟩), .int .i64 d] w fun e w' => e = .returned (.bool (K.canRead d)) ∧ Below w.heap.size w w' := by
  have HF := hide (described_any ρ I K d w h hd)
  cases hx : K.find d with
  | none =>
    rw [hx] at HF
    rw [KS.canRead_none hx]
    clear h
    go_enter Tryz.func74, Tryz.ntmps74
    go_wp2_with fail
    refine HF.out.mono ?_
    rintro e w1 ⟨rfl, rfl⟩
    unfold descV
    go_wp2
    go_ret
    exact ⟨rfl, Below.refl _ _⟩
  | some x =>
    rw [hx] at HF
    rw [KS.canRead_some hx]
    have hm := (KS.find_some hx).1
    have c0 := (h.desc hm).thing
    have c1 := (h.desc hm).reads
    have HO := hide (h.pobj hm)
    by_cases hf : fbit x.flags 1 = 0
    · rw [bit_no hf] at c1
      rw [show (!(fbit x.flags 1 == 0)) = false by rw [hf]; rfl, Bool.false_and]
      clear h
      go_enter Tryz.func74, Tryz.ntmps74
      go_wp2_with fail
      refine HF.out.mono ?_
      rintro e w1 ⟨rfl, rfl⟩
      unfold descV
      go_wp2
      go_ret
      exact ⟨rfl, Below.refl _ _⟩
    · rw [bit_yes hf] at c1
      rw [show (!(fbit x.flags 1 == 0)) = true by simpa using hf, Bool.true_and]
      clear h
      cases ho : K.tho x with
      | file b =>
        rw [thing_file ho] at c0
        have hmw := mf_readWaits (I.xb x.n)
        go_enter Tryz.func74, Tryz.ntmps74
        go_wp2_with fail
        refine HF.out.mono ?_
        rintro e w1 ⟨rfl, rfl⟩
        unfold descV
        go_wp2
        go_ret
        exact ⟨rfl, Below.refl _ _⟩
      | term ls scr =>
        rw [thing_term ho] at c0
        have hmw := mt_readWaits (I.cb x.th)
        go_enter Tryz.func74, Tryz.ntmps74
        go_wp2_with fail
        refine HF.out.mono ?_
        rintro e w1 ⟨rfl, rfl⟩
        unfold descV
        go_wp2
        go_ret
        exact ⟨rfl, Below.refl _ _⟩
      | pipe q rd wt =>
        rw [thing_pipe ho] at c0
        have hmw := mp_readWaits (I.ob x.th)
        have HW := hide (pp_readWaits (I.ob x.th) q rd wt w (by have := HO.out; rw [ho] at this; exact this.1))
        simp only
        generalize canR q.length rd wt = can at *
        cases can
        · go_enter Tryz.func74, Tryz.ntmps74
          go_wp2_with fail
          refine HF.out.mono ?_
          rintro e w1 ⟨rfl, rfl⟩
          unfold descV
          go_wp2_with fail
          refine HW.out.mono ?_
          rintro e w2 ⟨rfl, hB⟩
          go_wp2
          go_ret
          exact ⟨rfl, hB⟩
        · go_enter Tryz.func74, Tryz.ntmps74
          go_wp2_with fail
          refine HF.out.mono ?_
          rintro e w1 ⟨rfl, rfl⟩
          unfold descV
          go_wp2_with fail
          refine HW.out.mono ?_
          rintro e w2 ⟨rfl, hB⟩
          go_wp2
          go_ret
          exact ⟨rfl, hB⟩
/-- Would a write not wait? -/
def KS.canWriteP (K : KS) (d n : Int) : Bool := match K.find d with
  | none => false
  | some x => bit x.flags 2 && (inN n && !(refusal (K.tho x) x.flags x.pos n == 52))
set_option maxRecDepth 100000 in
set_option maxHeartbeats 2000000 in
theorem kcanWrite_any (ρ : Nat → Option PTag) (I : PI) (K : KS) (d n : Int) (w : World) (h : PK w ρ I K) (hd : I64 d) :
    Calls Tryz.prog 76 #[.pointer (some ⟨I.kb, 0, none⟩), .int .i64 d, .int .i64 n] w fun e w' => e = .returned (.bool (K.canWriteP d n)) ∧ Below w.heap.size w w' := by
  have HF := hide (described_any ρ I K d w h hd)
  cases hx : K.find d with
  | none =>
    rw [hx] at HF
    rw [show K.canWriteP d n = false by unfold KS.canWriteP; rw [hx]]
    clear h
    go_enter Tryz.func76, Tryz.ntmps76
    go_wp2_with fail
    refine HF.out.mono ?_
    rintro e w1 ⟨rfl, rfl⟩
    unfold descV
    go_wp2
    go_ret
    exact ⟨rfl, Below.refl _ _⟩
  | some x =>
    rw [hx] at HF
    rw [show K.canWriteP d n = (bit x.flags 2 && (inN n && !(refusal (K.tho x) x.flags x.pos n == 52))) by unfold KS.canWriteP; rw [hx]]
    have hm := (KS.find_some hx).1
    have c0 := (h.desc hm).thing
    have c1 := (h.desc hm).writes
    have HO := hide (h.pobj hm)
    by_cases hf : fbit x.flags 2 = 0
    · rw [bit_no hf] at c1 ⊢
      rw [Bool.false_and]
      clear h
      go_enter Tryz.func76, Tryz.ntmps76
      go_wp2_with fail
      refine HF.out.mono ?_
      rintro e w1 ⟨rfl, rfl⟩
      unfold descV
      go_wp2
      go_ret
      exact ⟨rfl, Below.refl _ _⟩
    · rw [bit_yes hf] at c1 ⊢
      rw [Bool.true_and]
      rcases (show n < 1 ∨ (¬ n < 1 ∧ 1048576 < n) ∨ (¬ n < 1 ∧ ¬ 1048576 < n) by omega) with e1 | ⟨e1, e2⟩ | ⟨e1, e2⟩
      · rw [show inN n = false by unfold inN; simp; omega, Bool.false_and]
        clear h
        go_enter Tryz.func76, Tryz.ntmps76
        go_wp2_with fail
        refine HF.out.mono ?_
        rintro e w1 ⟨rfl, rfl⟩
        unfold descV
        go_wp2
        go_ret
        exact ⟨rfl, Below.refl _ _⟩
      · rw [show inN n = false by unfold inN; simp; omega, Bool.false_and]
        clear h
        go_enter Tryz.func76, Tryz.ntmps76
        go_wp2_with fail
        refine HF.out.mono ?_
        rintro e w1 ⟨rfl, rfl⟩
        unfold descV
        go_wp2
        go_ret
        exact ⟨rfl, Below.refl _ _⟩
      · rw [show inN n = true by unfold inN; simp; omega, Bool.true_and]
        cases ho : K.tho x with
        | file b =>
          obtain ⟨RF, hRF⟩ : ∃ RF : Int, RF = (if plc b (bit x.flags 4) x.pos = 1048576 then 31 else 0) := ⟨_, rfl⟩
          have HRf := hide (of_refuses (I.xb x.n) (I.ob x.th) b x.pos (bit x.flags 4) n _ w (h.comp (.ofile x.n) x hm rfl b ho).1 (by have := HO.out; rw [ho] at this; exact this))
          rw [← hRF] at HRf
          have hRF2 : refusal (Ob.file b) x.flags x.pos n = RF := by rw [hRF]; rfl
          rw [hRF2]
          clear hRF hRF2
          rw [thing_file ho] at c0
          have hmw := mf_refuses (I.xb x.n)
          clear h
          by_cases h52 : RF = 52
          · subst h52
            go_enter Tryz.func76, Tryz.ntmps76
            go_wp2_with fail
            refine HF.out.mono ?_
            rintro e w1 ⟨rfl, rfl⟩
            unfold descV
            go_wp2_with fail
            refine HRf.out.mono ?_
            rintro e w2 ⟨rfl, rfl⟩
            go_wp2
            go_ret
            exact ⟨rfl, Below.refl _ _⟩
          · have h53 : (RF == 52) = false := by simpa using h52
            have h54 : (RF != 52) = true := by simpa using h52
            go_enter Tryz.func76, Tryz.ntmps76
            go_wp2_with fail
            refine HF.out.mono ?_
            rintro e w1 ⟨rfl, rfl⟩
            unfold descV
            go_wp2_with fail
            refine HRf.out.mono ?_
            rintro e w2 ⟨rfl, rfl⟩
            go_wp2
            go_ret
            exact ⟨by rw [h53]; rfl, Below.refl _ _⟩
        | term ls scr =>
          obtain ⟨RF, hRF⟩ : ∃ RF : Int, RF = (if scr.length = 1048576 then 31 else 0) := ⟨_, rfl⟩
          have HRf := hide (co_refuses (I.cb x.th) (I.ob x.th) scr.length n w (h.comp (.cons x.th) (h.ok.th x hm) ls scr (by rw [← KS.tho_eq (h.ok.th x hm)]; exact ho)).1)
          rw [← hRF] at HRf
          have hRF2 : refusal (Ob.term ls scr) x.flags x.pos n = RF := by rw [hRF]; rfl
          rw [hRF2]
          clear hRF hRF2
          rw [thing_term ho] at c0
          have hmw := mt_refuses (I.cb x.th)
          clear h
          by_cases h52 : RF = 52
          · subst h52
            go_enter Tryz.func76, Tryz.ntmps76
            go_wp2_with fail
            refine HF.out.mono ?_
            rintro e w1 ⟨rfl, rfl⟩
            unfold descV
            go_wp2_with fail
            refine HRf.out.mono ?_
            rintro e w2 ⟨rfl, rfl⟩
            go_wp2
            go_ret
            exact ⟨rfl, Below.refl _ _⟩
          · have h53 : (RF == 52) = false := by simpa using h52
            have h54 : (RF != 52) = true := by simpa using h52
            go_enter Tryz.func76, Tryz.ntmps76
            go_wp2_with fail
            refine HF.out.mono ?_
            rintro e w1 ⟨rfl, rfl⟩
            unfold descV
            go_wp2_with fail
            refine HRf.out.mono ?_
            rintro e w2 ⟨rfl, rfl⟩
            go_wp2
            go_ret
            exact ⟨by rw [h53]; rfl, Below.refl _ _⟩
        | pipe q rd wt =>
          obtain ⟨RF, hRF⟩ : ∃ RF : Int, RF = (if rd = 0 then 53 else if canW n q.length rd wt = false then 52 else 0) := ⟨_, rfl⟩
          have HRf := hide (pp_refuses (I.ob x.th) q rd wt n w (by have := HO.out; rw [ho] at this; exact this.1))
          rw [← hRF] at HRf
          have hRF2 : refusal (Ob.pipe q rd wt) x.flags x.pos n = RF := by rw [hRF]; rfl
          rw [hRF2]
          clear hRF hRF2
          rw [thing_pipe ho] at c0
          have hmw := mp_refuses (I.ob x.th)
          clear h
          by_cases h52 : RF = 52
          · subst h52
            go_enter Tryz.func76, Tryz.ntmps76
            go_wp2_with fail
            refine HF.out.mono ?_
            rintro e w1 ⟨rfl, rfl⟩
            unfold descV
            go_wp2_with fail
            refine HRf.out.mono ?_
            rintro e w2 ⟨rfl, hB⟩
            go_wp2
            go_ret
            exact ⟨rfl, hB⟩
          · have h53 : (RF == 52) = false := by simpa using h52
            have h54 : (RF != 52) = true := by simpa using h52
            go_enter Tryz.func76, Tryz.ntmps76
            go_wp2_with fail
            refine HF.out.mono ?_
            rintro e w1 ⟨rfl, rfl⟩
            unfold descV
            go_wp2_with fail
            refine HRf.out.mono ?_
            rintro e w2 ⟨rfl, hB⟩
            go_wp2
            go_ret
            exact ⟨by rw [h53]; rfl, hB⟩
end Go.Proofs.YtkkicbhmcjbmbaaGreat

/- The program's kernel: Write, walked. -/
namespace Go.Proofs.YtkkicbhmcjbmbaaGreat
open Go.RowKit Go.Maps

theorem PNum.done {w w1 w4 : World} {ρ : Nat → Option PTag} {I I1 : PI} {r : Int × Int × KS} (hT : Turned (Own ρ) w w1) (hk : I1.kb = I.kb) {e : Ending} (h : PNum ρ I1 w1 r e w4) : PNum ρ I w r e w4 := ⟨h.1, h.2.after hT hk⟩
set_option maxRecDepth 100000 in
set_option maxHeartbeats 4000000 in
theorem kwrite_any (ρ : Nat → Option PTag) (I : PI) (K : KS) (d : Int) (bs : List UInt8) (a1 : Option Addr) (cx : Nat) (w : World) (h : PK w ρ I K) (hd : I64 d) (hr : K.writes < 9223372036854775807)
    (hb : Bys w (.slice a1 bs.length cx) bs) (hcap : bs.length ≤ cx) (hbig : bs.length ≤ 9223372036854775807) (hap : 0 < bs.length → ∀ k, (Value.slice a1 bs.length cx).ownBlock = some k → ¬ Own ρ k) :
    Calls Tryz.prog 55 #[.pointer (some ⟨I.kb, 0, none⟩), .int .i64 d, .slice a1 bs.length cx] w (PNum ρ I w (K.write d bs)) := by
  have HF := hide (described_any ρ I K d w h hd)
  have HX := hide fun E => PNum.refused h (Below.refl _ w) E
  have HK := hide h
  cases hx : K.find d with
  | none =>
    rw [hx] at HF
    rw [show K.write d bs = (0, 64, K) by unfold KS.write; rw [hx]]
    clear h HK hb hap
    go_enter Tryz.func55, Tryz.ntmps55
    go_wp2_with fail
    refine HF.out.mono ?_
    rintro e w1 ⟨rfl, rfl⟩
    unfold descV
    go_wp2
    go_ret2
    exact HX.out 64
  | some x =>
    rw [hx] at HF
    have hm := (KS.find_some hx).1
    have hdc := h.desc hm
    have c0 := hdc.thing
    have c1 := hdc.writes
    by_cases hf : fbit x.flags 2 = 0
    · rw [show K.write d bs = (0, 65, K) by unfold KS.write; rw [hx]; simp only; rw [if_pos hf]]
      rw [bit_no hf] at c1
      clear h hdc HK hb hap
      go_enter Tryz.func55, Tryz.ntmps55
      go_wp2_with fail
      refine HF.out.mono ?_
      rintro e w1 ⟨rfl, rfl⟩
      unfold descV
      go_wp2
      go_ret2
      exact HX.out 65
    · rw [bit_yes hf] at c1
      by_cases hn : 1048576 < bs.length
      · rw [show K.write d bs = (0, 5, K) by unfold KS.write; rw [hx]; simp only; rw [if_neg hf, if_pos hn]]
        have hn' : (1048576 : Int) < (bs.length : Int) := by omega
        clear h hdc HK hb hap
        go_enter Tryz.func55, Tryz.ntmps55
        go_wp2_with fail
        refine HF.out.mono ?_
        rintro e w1 ⟨rfl, rfl⟩
        unfold descV
        go_wp2
        go_ret2
        exact HX.out 5
      · by_cases hz : bs.length = 0
        · rw [show K.write d bs = (0, 0, K) by unfold KS.write; rw [hx]; simp only; rw [if_neg hf, if_neg hn, if_pos hz]]
          obtain rfl := List.length_eq_zero_iff.1 hz
          clear h hdc HK hb hap
          simp only [List.length_nil]
          go_enter Tryz.func55, Tryz.ntmps55
          go_wp2_with fail
          refine HF.out.mono ?_
          rintro e w1 ⟨rfl, rfl⟩
          unfold descV
          go_wp2
          go_ret2
          exact HX.out 0
        · have n1 : 1 ≤ bs.length := by omega
          have n2 : bs.length ≤ 1048576 := by omega
          have n3 : ¬ (1048576 : Int) < (bs.length : Int) := by omega
          have n4 : (1 : Int) ≤ (bs.length : Int) := by omega
          have n5 : (bs.length : Int) ≤ 1048576 := by omega
          have n6 : ¬ (bs.length : Int) = 0 := by omega
          have n7 : ((bs.length : Int) == 0) = false := by simpa using n6
          obtain ⟨pr, hpr⟩ : ∃ pr, pr = nxt K.plan bs.length := ⟨_, rfl⟩
          have HG : Hid (pr.2 = 0 → ∃ m : Nat, pr.1 = m ∧ 1 ≤ m ∧ m ≤ bs.length) := hide (fun e => by rw [hpr] at e ⊢; have := nxt_good h.ok.plan n4 n5 e; exact ⟨(nxt K.plan bs.length).1.toNat, by omega, by omega, by omega⟩)
          have HN := hide fun W I' K' (hW : PK W ρ I' K') (hpl : K'.plan = K.plan) => by
            have := knext_any ρ I' K' bs.length W hW n4 n5
            rw [hpl, ← hpr] at this
            exact this
          have HB := hide (And.intro hb (And.intro hcap (hap (by omega))))
          have HO := hide (h.pobj hm)
          clear hdc hb hap
          cases ho : K.tho x with
          | file b =>
            obtain ⟨RF, hRF⟩ : ∃ RF : Int, RF = (if plc b (bit x.flags 4) x.pos = 1048576 then 31 else 0) := ⟨_, rfl⟩
            have HRf := hide (of_refuses (I.xb x.n) (I.ob x.th) b x.pos (bit x.flags 4) bs.length _ w (h.comp (.ofile x.n) x hm rfl b ho).1 (by have := HO.out; rw [ho] at this; exact this))
            rw [← hRF] at HRf
            have hRF2 : refusal (K.tho x) x.flags x.pos bs.length = RF := by rw [ho, hRF]; rfl
            clear hRF
            have HT0 := hide ho
            rw [thing_file ho] at c0
            have hmw := mf_refuses (I.xb x.n)
            have hmr := mf_write (I.xb x.n)
            by_cases hz2 : RF = 0
            · rw [write_is hx hf n1 n2 (hRF2.trans hz2), ← hpr]
              subst hz2
              clear h HX hpr
              obtain ⟨pr1, pr2⟩ := pr
              simp only at HG HN ⊢
              by_cases he : pr2 = 0
              · subst he
                rw [if_pos rfl]
                obtain ⟨M, hM, hM1, hM2⟩ := HG.out (by first | rfl | trivial)
                subst hM
                go_enter Tryz.func55, Tryz.ntmps55
                go_wp2_with fail
                refine HF.out.mono ?_
                rintro e w1 ⟨rfl, rfl⟩
                unfold descV
                go_wp2_with fail
                refine HRf.out.mono ?_
                rintro e w1' ⟨rfl, rfl⟩
                have hP1 := HK.out
                have HT1 := hide (Turned.refl (Own ρ) w1')
                have HP2 := hide hP1.writeUp
                have c6 := hP1.cells.writes
                have c6s : w1'.frozen? ⟨I.kb, 7, none⟩ = false := frozen_of_row w1' I.kb 7 _ _ (hP1.comp .kern).1
                have c5 := HP2.out.1.cells.plan
                have d2 := (HP2.out.1.desc (x := x) hm).thing
                clear hP1
                go_wp2_with fail
                generalize hw2 : w1'.setCell ⟨I.kb, 7, none⟩ (.int .i64 ((K.writes : Int) + 1)) = w2 at *
                refine (HN.out w2 I _ HP2.out.1 rfl).mono ?_
                rintro e w3 ⟨rfl, v', hP3, hT3⟩
                have hT13 := (HT1.out.trans HP2.out.2 (fun _ _ e => e)).trans hT3 (fun _ _ e => e)
                have hbw : Bys w3 (.slice a1 bs.length cx) bs := HB.out.1.turned hT13 (fun k e _ => HB.out.2.2 k e)
                have c7 := (hP3.desc (x := x) hm).thing
                rw [thing_file (K := { K with writes := K.writes + 1, plan := K.plan.tail }) ho] at c7
                simp only at c7
                go_wp2_with fail
                refine (xwrite_file ρ _ _ x b bs M a1 cx w3 hP3 hm ho hbw HB.out.2.1 hM1 hM2 n2 HB.out.2.2).mono ?_
                rintro e w4 hN4
                obtain rfl := hN4.1
                have HS := hide hN4
                clear hN4
                go_wp2
                go_ret2
                exact PNum.done hT13 rfl HS.out
              · rw [if_neg he]
                have he2 : (pr2 == 0) = false := by simpa using he
                go_enter Tryz.func55, Tryz.ntmps55
                go_wp2_with fail
                refine HF.out.mono ?_
                rintro e w1 ⟨rfl, rfl⟩
                unfold descV
                go_wp2_with fail
                refine HRf.out.mono ?_
                rintro e w1' ⟨rfl, rfl⟩
                have hP1 := HK.out
                have HT1 := hide (Turned.refl (Own ρ) w1')
                have HP2 := hide hP1.writeUp
                have c6 := hP1.cells.writes
                have c6s : w1'.frozen? ⟨I.kb, 7, none⟩ = false := frozen_of_row w1' I.kb 7 _ _ (hP1.comp .kern).1
                have c5 := HP2.out.1.cells.plan
                have d2 := (HP2.out.1.desc (x := x) hm).thing
                clear hP1
                go_wp2_with fail
                generalize hw2 : w1'.setCell ⟨I.kb, 7, none⟩ (.int .i64 ((K.writes : Int) + 1)) = w2 at *
                refine (HN.out w2 I _ HP2.out.1 rfl).mono ?_
                rintro e w3 ⟨rfl, v', hP3, hT3⟩
                have hT13 := (HT1.out.trans HP2.out.2 (fun _ _ e => e)).trans hT3 (fun _ _ e => e)
                have HP3 := hide hP3
                clear hP3
                go_wp2
                go_ret2
                exact ⟨rfl, PNext.of HP3.out rfl hT13⟩
            · have hne : ¬ refusal (K.tho x) x.flags x.pos bs.length = 0 := by rw [hRF2]; exact hz2
              rw [show K.write d bs = (0, RF, K) by unfold KS.write; rw [hx]; simp only; rw [if_neg hf, if_neg hn, if_neg hz, if_neg hne, hRF2]]
              have hz3 : (RF == 0) = false := by simpa using hz2
              clear h HX hpr HG HN hne
              go_enter Tryz.func55, Tryz.ntmps55
              go_wp2_with fail
              refine HF.out.mono ?_
              rintro e w1 ⟨rfl, rfl⟩
              unfold descV
              go_wp2_with fail
              refine HRf.out.mono ?_
              rintro e w1' ⟨rfl, rfl⟩
              go_wp2
              go_ret2
              exact PNum.refused HK.out (Below.refl _ _) RF
          | term ls scr =>
            obtain ⟨RF, hRF⟩ : ∃ RF : Int, RF = (if scr.length = 1048576 then 31 else 0) := ⟨_, rfl⟩
            have HRf := hide (co_refuses (I.cb x.th) (I.ob x.th) scr.length bs.length w (h.comp (.cons x.th) (h.ok.th x hm) ls scr (by rw [← KS.tho_eq (h.ok.th x hm)]; exact ho)).1)
            rw [← hRF] at HRf
            have hRF2 : refusal (K.tho x) x.flags x.pos bs.length = RF := by rw [ho, hRF]; rfl
            clear hRF
            have HT0 := hide ho
            rw [thing_term ho] at c0
            have hmw := mt_refuses (I.cb x.th)
            have hmr := mt_write (I.cb x.th)
            by_cases hz2 : RF = 0
            · rw [write_is hx hf n1 n2 (hRF2.trans hz2), ← hpr]
              subst hz2
              clear h HX hpr
              obtain ⟨pr1, pr2⟩ := pr
              simp only at HG HN ⊢
              by_cases he : pr2 = 0
              · subst he
                rw [if_pos rfl]
                obtain ⟨M, hM, hM1, hM2⟩ := HG.out (by first | rfl | trivial)
                subst hM
                go_enter Tryz.func55, Tryz.ntmps55
                go_wp2_with fail
                refine HF.out.mono ?_
                rintro e w1 ⟨rfl, rfl⟩
                unfold descV
                go_wp2_with fail
                refine HRf.out.mono ?_
                rintro e w1' ⟨rfl, rfl⟩
                have hP1 := HK.out
                have HT1 := hide (Turned.refl (Own ρ) w1')
                have HP2 := hide hP1.writeUp
                have c6 := hP1.cells.writes
                have c6s : w1'.frozen? ⟨I.kb, 7, none⟩ = false := frozen_of_row w1' I.kb 7 _ _ (hP1.comp .kern).1
                have c5 := HP2.out.1.cells.plan
                have d2 := (HP2.out.1.desc (x := x) hm).thing
                clear hP1
                go_wp2_with fail
                generalize hw2 : w1'.setCell ⟨I.kb, 7, none⟩ (.int .i64 ((K.writes : Int) + 1)) = w2 at *
                refine (HN.out w2 I _ HP2.out.1 rfl).mono ?_
                rintro e w3 ⟨rfl, v', hP3, hT3⟩
                have hT13 := (HT1.out.trans HP2.out.2 (fun _ _ e => e)).trans hT3 (fun _ _ e => e)
                have hbw : Bys w3 (.slice a1 bs.length cx) bs := HB.out.1.turned hT13 (fun k e _ => HB.out.2.2 k e)
                have c7 := (hP3.desc (x := x) hm).thing
                rw [thing_term (K := { K with writes := K.writes + 1, plan := K.plan.tail }) ho] at c7
                simp only at c7
                go_wp2_with fail
                refine (xwrite_term ρ _ _ x ls scr bs M a1 cx w3 hP3 hm ho hbw HB.out.2.1 hM1 hM2 n2 HB.out.2.2).mono ?_
                rintro e w4 hN4
                obtain rfl := hN4.1
                have HS := hide hN4
                clear hN4
                go_wp2
                go_ret2
                exact PNum.done hT13 rfl HS.out
              · rw [if_neg he]
                have he2 : (pr2 == 0) = false := by simpa using he
                go_enter Tryz.func55, Tryz.ntmps55
                go_wp2_with fail
                refine HF.out.mono ?_
                rintro e w1 ⟨rfl, rfl⟩
                unfold descV
                go_wp2_with fail
                refine HRf.out.mono ?_
                rintro e w1' ⟨rfl, rfl⟩
                have hP1 := HK.out
                have HT1 := hide (Turned.refl (Own ρ) w1')
                have HP2 := hide hP1.writeUp
                have c6 := hP1.cells.writes
                have c6s : w1'.frozen? ⟨I.kb, 7, none⟩ = false := frozen_of_row w1' I.kb 7 _ _ (hP1.comp .kern).1
                have c5 := HP2.out.1.cells.plan
                have d2 := (HP2.out.1.desc (x := x) hm).thing
                clear hP1
                go_wp2_with fail
                generalize hw2 : w1'.setCell ⟨I.kb, 7, none⟩ (.int .i64 ((K.writes : Int) + 1)) = w2 at *
                refine (HN.out w2 I _ HP2.out.1 rfl).mono ?_
                rintro e w3 ⟨rfl, v', hP3, hT3⟩
                have hT13 := (HT1.out.trans HP2.out.2 (fun _ _ e => e)).trans hT3 (fun _ _ e => e)
                have HP3 := hide hP3
                clear hP3
                go_wp2
                go_ret2
                exact ⟨rfl, PNext.of HP3.out rfl hT13⟩
            · have hne : ¬ refusal (K.tho x) x.flags x.pos bs.length = 0 := by rw [hRF2]; exact hz2
              rw [show K.write d bs = (0, RF, K) by unfold KS.write; rw [hx]; simp only; rw [if_neg hf, if_neg hn, if_neg hz, if_neg hne, hRF2]]
              have hz3 : (RF == 0) = false := by simpa using hz2
              clear h HX hpr HG HN hne
              go_enter Tryz.func55, Tryz.ntmps55
              go_wp2_with fail
              refine HF.out.mono ?_
              rintro e w1 ⟨rfl, rfl⟩
              unfold descV
              go_wp2_with fail
              refine HRf.out.mono ?_
              rintro e w1' ⟨rfl, rfl⟩
              go_wp2
              go_ret2
              exact PNum.refused HK.out (Below.refl _ _) RF
          | pipe q rd wt =>
            obtain ⟨RF, hRF⟩ : ∃ RF : Int, RF = (if rd = 0 then 53 else if canW bs.length q.length rd wt = false then 52 else 0) := ⟨_, rfl⟩
            have HRf := hide (pp_refuses (I.ob x.th) q rd wt bs.length w (by have := HO.out; rw [ho] at this; exact this.1))
            rw [← hRF] at HRf
            have hRF2 : refusal (K.tho x) x.flags x.pos bs.length = RF := by rw [ho, hRF]; rfl
            clear hRF
            have HT0 := hide ho
            rw [thing_pipe ho] at c0
            have hmw := mp_refuses (I.ob x.th)
            have hmr := mp_write (I.ob x.th)
            by_cases hz2 : RF = 0
            · rw [write_is hx hf n1 n2 (hRF2.trans hz2), ← hpr]
              subst hz2
              clear h HX hpr
              obtain ⟨pr1, pr2⟩ := pr
              simp only at HG HN ⊢
              by_cases he : pr2 = 0
              · subst he
                rw [if_pos rfl]
                obtain ⟨M, hM, hM1, hM2⟩ := HG.out (by first | rfl | trivial)
                subst hM
                go_enter Tryz.func55, Tryz.ntmps55
                go_wp2_with fail
                refine HF.out.mono ?_
                rintro e w1 ⟨rfl, rfl⟩
                unfold descV
                go_wp2_with fail
                refine HRf.out.mono ?_
                rintro e w1' ⟨rfl, hB⟩
                have hP1 := HK.out.under hB
                have HT1 := hide (Turned.of_below (S := Own ρ) hB)
                have HP2 := hide hP1.writeUp
                have c6 := hP1.cells.writes
                have c6s : w1'.frozen? ⟨I.kb, 7, none⟩ = false := frozen_of_row w1' I.kb 7 _ _ (hP1.comp .kern).1
                have c5 := HP2.out.1.cells.plan
                have d2 := (HP2.out.1.desc (x := x) hm).thing
                clear hP1
                go_wp2_with fail
                generalize hw2 : w1'.setCell ⟨I.kb, 7, none⟩ (.int .i64 ((K.writes : Int) + 1)) = w2 at *
                refine (HN.out w2 I _ HP2.out.1 rfl).mono ?_
                rintro e w3 ⟨rfl, v', hP3, hT3⟩
                have hT13 := (HT1.out.trans HP2.out.2 (fun _ _ e => e)).trans hT3 (fun _ _ e => e)
                have hbw : Bys w3 (.slice a1 bs.length cx) bs := HB.out.1.turned hT13 (fun k e _ => HB.out.2.2 k e)
                have c7 := (hP3.desc (x := x) hm).thing
                rw [thing_pipe (K := { K with writes := K.writes + 1, plan := K.plan.tail }) ho] at c7
                simp only at c7
                go_wp2_with fail
                refine (xwrite_pipe ρ _ _ x q rd wt bs M a1 cx w3 hP3 hm ho hbw HB.out.2.1 n2 HB.out.2.2).mono ?_
                rintro e w4 hN4
                obtain rfl := hN4.1
                have HS := hide hN4
                clear hN4
                go_wp2
                go_ret2
                exact PNum.done hT13 rfl HS.out
              · rw [if_neg he]
                have he2 : (pr2 == 0) = false := by simpa using he
                go_enter Tryz.func55, Tryz.ntmps55
                go_wp2_with fail
                refine HF.out.mono ?_
                rintro e w1 ⟨rfl, rfl⟩
                unfold descV
                go_wp2_with fail
                refine HRf.out.mono ?_
                rintro e w1' ⟨rfl, hB⟩
                have hP1 := HK.out.under hB
                have HT1 := hide (Turned.of_below (S := Own ρ) hB)
                have HP2 := hide hP1.writeUp
                have c6 := hP1.cells.writes
                have c6s : w1'.frozen? ⟨I.kb, 7, none⟩ = false := frozen_of_row w1' I.kb 7 _ _ (hP1.comp .kern).1
                have c5 := HP2.out.1.cells.plan
                have d2 := (HP2.out.1.desc (x := x) hm).thing
                clear hP1
                go_wp2_with fail
                generalize hw2 : w1'.setCell ⟨I.kb, 7, none⟩ (.int .i64 ((K.writes : Int) + 1)) = w2 at *
                refine (HN.out w2 I _ HP2.out.1 rfl).mono ?_
                rintro e w3 ⟨rfl, v', hP3, hT3⟩
                have hT13 := (HT1.out.trans HP2.out.2 (fun _ _ e => e)).trans hT3 (fun _ _ e => e)
                have HP3 := hide hP3
                clear hP3
                go_wp2
                go_ret2
                exact ⟨rfl, PNext.of HP3.out rfl hT13⟩
            · have hne : ¬ refusal (K.tho x) x.flags x.pos bs.length = 0 := by rw [hRF2]; exact hz2
              rw [show K.write d bs = (0, RF, K) by unfold KS.write; rw [hx]; simp only; rw [if_neg hf, if_neg hn, if_neg hz, if_neg hne, hRF2]]
              have hz3 : (RF == 0) = false := by simpa using hz2
              clear h HX hpr HG HN hne
              go_enter Tryz.func55, Tryz.ntmps55
              go_wp2_with fail
              refine HF.out.mono ?_
              rintro e w1 ⟨rfl, rfl⟩
              unfold descV
              go_wp2_with fail
              refine HRf.out.mono ?_
              rintro e w1' ⟨rfl, hB⟩
              go_wp2
              go_ret2
              exact PNum.refused HK.out hB RF
end Go.Proofs.YtkkicbhmcjbmbaaGreat

/- The program's kernel within a set of blocks: each call. -/
namespace Go.Proofs.YtkkicbhmcjbmbaaGreat
open Go.RowKit Go.Maps

theorem KAt.open {w : World} {O : Nat → Prop} {kb : Nat} {K : KS} (h : KAt w O kb K) (s : ByteArray) (flags : Int) (hs : s.size ≤ maxLen) (hl : K.next < 9223372036854775807) :
    Calls Tryz.prog 29 #[.pointer (some ⟨kb, 0, none⟩), .string s, .int .i64 flags] w fun e w' => e = .returned (.tuple #[.int .i64 (K.open s flags).1, .int .i64 (K.open s flags).2.1]) ∧ KStep w O kb (K.open s flags).2.2 w' := by
  obtain ⟨ρ, I, h1, rfl, h3⟩ := h
  exact (kopen_any ρ I K s flags w h1 hs hl).mono fun e w' ⟨a, b⟩ => ⟨a, b.step h3⟩
theorem KAt.pipe {w : World} {O : Nat → Prop} {kb : Nat} {K : KS} (h : KAt w O kb K) (hl : K.next + 1 < 9223372036854775807) :
    Calls Tryz.prog 27 #[.pointer (some ⟨kb, 0, none⟩)] w fun e w' => e = .returned (.tuple #[.int .i64 K.pipe.1, .int .i64 K.pipe.2.1, .int .i64 K.pipe.2.2.1]) ∧ KStep w O kb K.pipe.2.2.2 w' := by
  obtain ⟨ρ, I, h1, rfl, h3⟩ := h
  exact (kpipe_any ρ I K w h1 hl).mono fun e w' ⟨a, b⟩ => ⟨a, b.step h3⟩
theorem KAt.read {w : World} {O : Nat → Prop} {kb : Nat} {K : KS} (h : KAt w O kb K) (d n : Int) (hd : I64 d) (hr : K.reads < 9223372036854775807) :
    Calls Tryz.prog 52 #[.pointer (some ⟨kb, 0, none⟩), .int .i64 d, .int .i64 n] w fun e w' => ∃ v, e = .returned (.tuple #[v, .int .i64 (K.read d n).2.1]) ∧ w'.ownsRow w.heap.size 5 1 v (K.read d n).1.length ((K.read d n).1.map bv) ∧ KAt w' O kb (K.read d n).2.2 ∧ Turned O w w' := by
  obtain ⟨ρ, I, h1, rfl, h3⟩ := h
  exact (kread_any ρ I K d n w h1 hd hr).mono fun e w' ⟨v, a, b, ρ', I', c1, c2, c3, c4⟩ => ⟨v, a, b, ⟨ρ', I', c1, c2, fun k t e => by obtain ⟨t', e'⟩ := c3 k ⟨t, e⟩; exact h3 k t' e'⟩, c4.mono fun k ⟨t, e⟩ => h3 k t e⟩
theorem KAt.write {w : World} {O : Nat → Prop} {kb : Nat} {K : KS} (h : KAt w O kb K) (d : Int) (bs : List UInt8) (a1 : Option Addr) (cx : Nat) (hd : I64 d) (hr : K.writes < 9223372036854775807)
    (hb : Bys w (.slice a1 bs.length cx) bs) (hcap : bs.length ≤ cx) (hbig : bs.length ≤ 9223372036854775807) (hap : 0 < bs.length → ∀ k, (Value.slice a1 bs.length cx).ownBlock = some k → ¬ O k) :
    Calls Tryz.prog 55 #[.pointer (some ⟨kb, 0, none⟩), .int .i64 d, .slice a1 bs.length cx] w fun e w' => e = .returned (.tuple #[.int .i64 (K.write d bs).1, .int .i64 (K.write d bs).2.1]) ∧ KStep w O kb (K.write d bs).2.2 w' := by
  obtain ⟨ρ, I, h1, rfl, h3⟩ := h
  exact (kwrite_any ρ I K d bs a1 cx w h1 hd hr hb hcap hbig (fun h0 k e ⟨t, e'⟩ => hap h0 k e (h3 k t e'))).mono fun e w' ⟨a, b⟩ => ⟨a, b.step h3⟩
theorem KAt.seek {w : World} {O : Nat → Prop} {kb : Nat} {K : KS} (h : KAt w O kb K) (d off wh : Int) (hd : I64 d) (ho : I64 off) :
    Calls Tryz.prog 58 #[.pointer (some ⟨kb, 0, none⟩), .int .i64 d, .int .i64 off, .int .i64 wh] w fun e w' => e = .returned (.tuple #[.int .i64 (K.seek d off wh).1, .int .i64 (K.seek d off wh).2.1]) ∧ KStep w O kb (K.seek d off wh).2.2 w' := by
  obtain ⟨ρ, I, h1, rfl, h3⟩ := h
  exact (kseek_any ρ I K d off wh w h1 hd ho).mono fun e w' ⟨a, b⟩ => ⟨a, b.step h3⟩
theorem KAt.keeps {w : World} {O : Nat → Prop} {kb : Nat} {K : KS} (h : KAt w O kb K) (d : Int) (hd : I64 d) :
    Calls Tryz.prog 60 #[.pointer (some ⟨kb, 0, none⟩), .int .i64 d] w fun e w' => e = .returned (.int .i64 (K.keepE d)) ∧ KStep w O kb (K.keepK d) w' := by
  obtain ⟨ρ, I, h1, rfl, h3⟩ := h
  exact (kkeep_any ρ I K d w h1 hd).mono fun e w' ⟨a, b⟩ => ⟨a, b.step h3⟩
theorem KAt.drops {w : World} {O : Nat → Prop} {kb : Nat} {K : KS} (h : KAt w O kb K) (d : Int) (hd : I64 d) :
    Calls Tryz.prog 62 #[.pointer (some ⟨kb, 0, none⟩), .int .i64 d] w fun e w' => e = .returned (.int .i64 (K.dropE d)) ∧ KStep w O kb (K.dropK d) w' := by
  obtain ⟨ρ, I, h1, rfl, h3⟩ := h
  exact (kdrop_any ρ I K d w h1 hd).mono fun e w' ⟨a, b⟩ => ⟨a, b.step h3⟩
theorem KAt.canRead {w : World} {O : Nat → Prop} {kb : Nat} {K : KS} (h : KAt w O kb K) (d : Int) (hd : I64 d) :
    Calls Tryz.prog 74 #[.pointer (some ⟨kb, 0, none⟩), .int .i64 d] w fun e w' => e = .returned (.bool (K.canRead d)) ∧ Below w.heap.size w w' := by
  obtain ⟨ρ, I, h1, rfl, h3⟩ := h
  exact kcanRead_any ρ I K d w h1 hd
theorem KAt.canWrite {w : World} {O : Nat → Prop} {kb : Nat} {K : KS} (h : KAt w O kb K) (d n : Int) (hd : I64 d) :
    Calls Tryz.prog 76 #[.pointer (some ⟨kb, 0, none⟩), .int .i64 d, .int .i64 n] w fun e w' => e = .returned (.bool (K.canWriteP d n)) ∧ Below w.heap.size w w' := by
  obtain ⟨ρ, I, h1, rfl, h3⟩ := h
  exact kcanWrite_any ρ I K d n w h1 hd
theorem KAt.kinds {w : World} {O : Nat → Prop} {kb : Nat} {K : KS} (h : KAt w O kb K) (d : Int) (hd : I64 d) :
    Calls Tryz.prog 72 #[.pointer (some ⟨kb, 0, none⟩), .int .i64 d] w fun e w' => e = .returned (.int .i64 (K.kindOf d)) ∧ Below w.heap.size w w' := by
  obtain ⟨ρ, I, h1, rfl, h3⟩ := h
  exact kkind_any ρ I K d w h1 hd
theorem KAt.trim {w : World} {O : Nat → Prop} {kb : Nat} {K : KS} (h : KAt w O kb K) : KAt w (fun k => O k ∧ k < w.heap.size) kb K := by
  obtain ⟨ρ, I, h1, h2, h3⟩ := h
  exact ⟨ρ, I, h1, h2, fun k t e => ⟨h3 k t e, h1.lt k t e⟩⟩
/-- Two steps, one behind the other, from a base on. -/
theorem KStep.at {B : Nat} {w w' : World} {O : Nat → Prop} {kb : Nat} {K' : KS} (h : KStep w O kb K' w') (hO : ∀ k, O k → B ≤ k) (hB : B ≤ w.heap.size) : KAt w' (fun k => B ≤ k ∧ k < w'.heap.size) kb K' ∧ Below B w w' := by
  obtain ⟨O', h1, h2, h3⟩ := h
  exact ⟨h1.trim.mono fun k e => ⟨(h2 k e.1).elim (hO k) (fun e => Nat.le_trans hB e), e.2⟩, h3.below hO hB⟩
end Go.Proofs.YtkkicbhmcjbmbaaGreat

/- The reference's things: files, terminals and pipes in one notion, each within a set of blocks of its own. -/
namespace Go.Proofs.YtkkicbhmcjbmbaaGreat
open Go.RowKit

/-- The reference's object at block p, all of whose blocks are O's. -/
def RObj (W : World) (O : Nat → Prop) (p : Nat) : Ob → Prop
  | .file b => ∃ u B, RFileAt W B p u b ∧ B ≤ W.heap.size ∧ O p ∧ ∀ k, u.ownBlock = some k → O k
  | .term ls scr => ∃ la lc s B O1, Term W B p 0 O1 la lc s ls scr ∧ ∀ k, O1 k → O k
  | .pipe q rd wt => ∃ a c B, RP W B p a c q rd wt ∧ B ≤ W.heap.size ∧ O p ∧ ∀ k, (Value.slice a q.length c).ownBlock = some k → O k
theorem RObj.at {W : World} {O : Nat → Prop} {p : Nat} {ob : Ob} (h : RObj W O p ob) : O p ∧ p < W.heap.size := by
  cases ob with
  | file b => obtain ⟨u, B, h1, _, h2, _⟩ := h; exact ⟨h2, h1.lt⟩
  | term ls scr => obtain ⟨la, lc, s, B, O1, h1, h2⟩ := h; exact ⟨h2 _ h1.ot, (h1.lt _ h1.ot).2⟩
  | pipe q rd wt => obtain ⟨a, c, B, h1, _, h2, _⟩ := h; exact ⟨h2, h1.lt⟩
theorem RObj.mono {W : World} {O O' : Nat → Prop} {p : Nat} {ob : Ob} (h : RObj W O p ob) (hO : ∀ k, O k → O' k) : RObj W O' p ob := by
  cases ob with
  | file b => obtain ⟨u, B, h1, h2, h3, h4⟩ := h; exact ⟨u, B, h1, h2, hO _ h3, fun k e => hO _ (h4 k e)⟩
  | term ls scr => obtain ⟨la, lc, s, B, O1, h1, h2⟩ := h; exact ⟨la, lc, s, B, O1, h1, fun k e => hO _ (h2 k e)⟩
  | pipe q rd wt => obtain ⟨a, c, B, h1, h2, h3, h4⟩ := h; exact ⟨a, c, B, h1, h2, hO _ h3, fun k e => hO _ (h4 k e)⟩
theorem RObj.keep {W W' : World} {O : Nat → Prop} {p : Nat} {ob : Ob} (h : RObj W O p ob) (hk : ∀ k, O k → k < W.heap.size → W'.heap[k]? = W.heap[k]?) (hs : W.heap.size ≤ W'.heap.size) : RObj W' O p ob := by
  cases ob with
  | file b =>
    obtain ⟨u, B, h1, h2, h3, h4⟩ := h
    have hp := hk p h3 h1.lt
    exact ⟨u, B, ⟨(World.cell?_of_block (w := W) hp).trans h1.data, (World.frozen?_of_block (w := W) hp).trans h1.soft, owns_keep h1.row fun k e => hk k (h4 k e) (h1.row.lt k e).2, h1.apart⟩, Nat.le_trans h2 hs, h3, h4⟩
  | term ls scr =>
    obtain ⟨la, lc, s, B, O1, h1, h2⟩ := h
    exact ⟨la, lc, s, B, O1, h1.keep (fun k e => hk k (h2 k e) (h1.lt k e).2) hs, h2⟩
  | pipe q rd wt =>
    obtain ⟨a, c, B, h1, h2, h3, h4⟩ := h
    refine ⟨a, c, B, ⟨(hk p h3 h1.lt).trans h1.blk, h1.bys.keep fun k e hlt => hk k (h4 k e) hlt, h1.cap, h1.lq, h1.lr, h1.lw, ?_⟩, Nat.le_trans h2 hs, h3, h4⟩
    rcases h1.ad with h5 | ⟨b, off, h5, h6, h7, h8⟩
    · exact .inl h5
    · exact .inr ⟨b, off, h5, h6, h7, Nat.lt_of_lt_of_le h8 hs⟩
/-- What a call leaves of an object: new bytes, within its blocks and new ones; nothing else turns. -/
def ObjStep (w : World) (O : Nat → Prop) (p : Nat) (ob' : Ob) (w' : World) : Prop := ∃ O', RObj w' O' p ob' ∧ (∀ k, O' k → O k ∨ w.heap.size ≤ k) ∧ Turned O w w'
theorem ObjStep.same {w : World} {O : Nat → Prop} {p : Nat} {ob : Ob} (h : RObj w O p ob) : ObjStep w O p ob w := ⟨O, h, fun _ e => .inl e, Turned.refl _ _⟩

theorem ob_fwrite (O : Nat → Prop) (p : Nat) (b x : List UInt8) (off : Int) (vx : Value) (w : World) (h : RObj w O p (.file b)) (hl : b.length ≤ 1048576) (hx : Bys w vx x) (hd : 0 < x.length → ∀ k, vx.ownBlock = some k → ¬ O k) :
    Calls Tryz.prog 146 #[.pointer (some ⟨p, 0, none⟩), .int .i64 off, vx] w fun e w' => e = .returned (.int .i64 (Fi_wrE off x.length)) ∧ ObjStep w O p (.file (wrL b off x)) w' := by
  obtain ⟨u, B, h1, h2, h3, h4⟩ := h
  refine (rwriteAt_any B p u b off vx x w h1 hx (fun h0 k e e' => hd h0 k e (h4 k e')) hl h2).mono ?_
  rintro e w' ⟨rfl, u', h5, h6, h7⟩
  refine ⟨rfl, fun k => O k ∨ u'.ownBlock = some k, ⟨u', B, h5, Nat.le_trans h2 h7.size, .inl h3, fun k e => .inr e⟩, fun k e => ?_, h7.mono fun k e => ?_⟩
  · rcases e with e | e
    · exact .inl e
    · exact (h6 k e).imp (h4 k) id
  · rcases e with rfl | e
    · exact h3
    · exact h4 k e
theorem ob_tread (O : Nat → Prop) (p : Nat) (ls : List (List UInt8)) (scr : List UInt8) (n : Int) (w : World) (h : RObj w O p (.term ls scr)) (hok : (Ob.term ls scr).ok) :
    Calls Tryz.prog 139 #[.pointer (some ⟨p, 0, none⟩), .int .i64 n] w fun e w' => ∃ v, e = .returned (.tuple #[v, .int .i64 (Te_rdE n)]) ∧ Bys w' v (rdH ls n) ∧ ObjStep w O p (.term (rdR ls n) scr) w' := by
  obtain ⟨la, lc, s, B, O1, h1, h2⟩ := h
  refine (Te_rread_any B p O1 la lc s ls scr n w h1 hok.1 hok.2.1).mono ?_
  rintro e w' ⟨v, rfl, h3, ⟨la', lc', h4⟩, h5⟩
  exact ⟨v, rfl, h3, O, ⟨la', lc', s, B, O1, h4, h2⟩, fun _ e => .inl e, h5.mono h2⟩
theorem ob_twrite (O : Nat → Prop) (p : Nat) (ls : List (List UInt8)) (scr x : List UInt8) (vx : Value) (w : World) (h : RObj w O p (.term ls scr)) (hok : (Ob.term ls scr).ok) (hx : Bys w vx x) (hxs : x.length ≤ 140737488351232) :
    Calls Tryz.prog 145 #[.pointer (some ⟨p, 0, none⟩), vx] w fun e w' => e = .returned (.int .i64 (Te_wrE scr.length x.length)) ∧ ObjStep w O p (.term ls (wrS scr x)) w' := by
  obtain ⟨la, lc, s, B, O1, h1, h2⟩ := h
  refine (Te_rwrite_any B p O1 la lc s ls scr vx x w h1 hx hok.2.2 hxs).mono ?_
  rintro e w' ⟨rfl, O2, s', h3, h4, h5⟩
  refine ⟨rfl, fun k => O k ∨ O2 k, ⟨la, lc, s', B, O2, h3, fun k e => .inr e⟩, fun k e => ?_, h5.mono h2⟩
  rcases e with e | e
  · exact .inl e
  · exact (h4 k e).imp (h2 k) id
theorem ob_pread (O : Nat → Prop) (p : Nat) (q : List UInt8) (rd wt : Nat) (n : Int) (w : World) (h : RObj w O p (.pipe q rd wt)) :
    Calls Tryz.prog 140 #[.pointer (some ⟨p, 0, none⟩), .int .i64 n] w fun e w' => ∃ v, e = .returned (.tuple #[v, .int .i64 (Kp_rdE n q.length rd wt)]) ∧ Bys w' v (rdB n q rd wt) ∧ ObjStep w O p (.pipe (rdQ n q rd wt) rd wt) w' := by
  obtain ⟨a, c, B, h1, h2, h3, h4⟩ := h
  refine (Kp_rread_any n B p a c q rd wt w h1).mono ?_
  rintro e w' ⟨v, a', c', rfl, h5, h6, h7, h8⟩
  exact ⟨v, rfl, h5, O, ⟨a', c', B, h6, Nat.le_trans h2 h7.size, h3, fun k e => h4 k (h8 k e)⟩, fun _ e => .inl e, h7.mono fun k e => by rw [e]; exact h3⟩
theorem ob_pwrite (O : Nat → Prop) (p : Nat) (q x : List UInt8) (rd wt : Nat) (most : Int) (a1 : Option Addr) (n cx : Nat) (w : World) (h : RObj w O p (.pipe q rd wt)) (hx : Bys w (.slice a1 n cx) x) (hcx : x.length ≤ cx) (hxs : x.length ≤ 140737488351232) :
    Calls Tryz.prog 144 #[.pointer (some ⟨p, 0, none⟩), .slice a1 n cx, .int .i64 most] w fun e w' => e = .returned (.tuple #[.int .i64 (wrN x.length most q.length rd wt : Nat), .int .i64 (Kp_wrE x.length most q.length rd wt)]) ∧ ObjStep w O p (.pipe (q ++ x.take (wrN x.length most q.length rd wt)) rd wt) w' := by
  obtain ⟨a, c, B, h1, h2, h3, h4⟩ := h
  refine (Kp_rwrite_any most B p a c q x a1 n cx rd wt w h1 h2 hx hcx hxs).mono ?_
  rintro e w' ⟨a', c', rfl, h6, h7, h8⟩
  refine ⟨rfl, fun k => O k ∨ (Value.slice a' (q ++ x.take (wrN x.length most q.length rd wt)).length c').ownBlock = some k, ⟨a', c', B, h6, Nat.le_trans h2 h7.size, .inl h3, fun k e => .inr e⟩, fun k e => ?_, h7.mono fun k e => by rw [e]; exact h3⟩
  rcases e with e | e
  · exact .inl e
  · exact (h8 k e).imp (h4 k) id
theorem ob_pleave (O : Nat → Prop) (p : Nat) (q : List UInt8) (rd wt : Nat) (x : Bool) (w : World) (h : RObj w O p (.pipe q rd wt)) :
    Calls Tryz.prog 152 #[.pointer (some ⟨p, 0, none⟩), .bool x] w fun e w' => e = .returned (.int .i64 (leaveE x rd wt)) ∧ ObjStep w O p (.pipe q (leaveR x rd wt) (leaveW x rd wt)) w' := by
  obtain ⟨a, c, B, h1, h2, h3, h4⟩ := h
  refine (rleave_any x B p a c q rd wt w h1).mono ?_
  rintro e w' ⟨rfl, h6, h7⟩
  exact ⟨rfl, O, ⟨a, c, B, h6, Nat.le_trans h2 h7.size, h3, h4⟩, fun _ e => .inl e, h7.mono fun k e => by rw [e]; exact h3⟩
theorem ob_pcanRead (O : Nat → Prop) (p : Nat) (q : List UInt8) (rd wt : Nat) (w : World) (h : RObj w O p (.pipe q rd wt)) :
    Calls Tryz.prog 137 #[.pointer (some ⟨p, 0, none⟩)] w fun e w' => e = .returned (.bool (canR q.length rd wt)) ∧ w' = w := by
  obtain ⟨a, c, B, h1, h2, h3, h4⟩ := h
  exact rcanRead_any B p a c q rd wt w h1
theorem ob_pcanWrite (O : Nat → Prop) (p : Nat) (q : List UInt8) (rd wt : Nat) (n : Int) (w : World) (h : RObj w O p (.pipe q rd wt)) :
    Calls Tryz.prog 142 #[.pointer (some ⟨p, 0, none⟩), .int .i64 n] w fun e w' => e = .returned (.bool (canW n q.length rd wt)) ∧ w' = w := by
  obtain ⟨a, c, B, h1, h2, h3, h4⟩ := h
  exact rcanWrite_any n B p a c q rd wt w h1
end Go.Proofs.YtkkicbhmcjbmbaaGreat

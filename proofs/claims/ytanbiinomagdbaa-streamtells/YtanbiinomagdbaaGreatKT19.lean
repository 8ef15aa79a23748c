/- What the proof stands on, part 19: the contracts of the program's calls that it reaches. -/
import Derived.Test.YtanbiinomagdbaaGreatKT18
import Derived.Deep.LoopGhost
import Derived.Deep.RegionLaw
/- StreamTells: the walk. -/
namespace Go.Proofs.YtanbiinomagdbaaGreat
open Go.RowKit Go.Maps

def tlP (b : List UInt8) (fs : List (Int × Int)) : Plt := ⟨4, 0, b, [], [], fs, [], 0, false⟩
set_option linter.unusedSimpArgs false in
set_option maxRecDepth 100000 in
set_option maxHeartbeats 8000000 in
theorem stells_any (va : Option Addr) (vc : Nat) (b : List UInt8) (fa : Option Addr) (fc : Nat) (fs : List (Int × Int)) (kind size : Int) (w : World) (hb : Bys w (.slice va b.length vc) b) (hc : b.length ≤ vc) (hf : RowsR w 2 FCells (.slice fa fs.length fc) fs) (zf : fs.length * 16 ≤ 140737488351232) (hl : b.length ≤ 140737488351232) :
    Calls Tryz.prog 5 #[.slice va b.length vc, .slice fa fs.length fc, .int .i64 kind, .int .i64 size] w fun e w' => e = .returned (.bool true) ∧ Below w.heap.size w w' := by
  have hP : PltIn w (tlP b fs) (.slice va b.length vc) (.slice none 0 0) (.slice none 0 0) (.slice fa fs.length fc) (.slice none 0 0) := ⟨⟨va, vc, rfl, hb, hc⟩, rows_ans (.inl ⟨rfl, rfl⟩), rows_ints (.inl ⟨rfl, rfl⟩), hf, .inl ⟨rfl, rfl⟩⟩
  have HP := hide (pl_new w (tlP b fs) _ _ _ _ _ hP)
  have HBy := hide hb
  clear hb hf hP
  go_enter Tryz.func5, Tryz.ntmps5
  go_wp2_with fail
  refine (salive_any _).mono ?_
  rintro _ w1 ⟨rfl, hB1⟩
  have HB1 := hide hB1
  have hM := make_kernel (tlP b fs) _ _ _ _ _ w1 false (HP.out _ hB1) (show (wrap64 ((4 : Int).tmod 6 + 6)).tmod 6 = 4 by kernel_rfl) zf (Nat.zero_le _) (show I64 0 from ⟨by decide, by decide⟩)
  have HM := hide hM
  clear hB1 hM
  go_wp2_with fail
  refine HM.out.mono ?_
  rintro _ w2 ⟨hB2, h2⟩
  have HB2 := hide (HB1.out.trans (hB2.mono HB1.out.size))
  have hN := fun W => sNew_any moR kind size W
  unfold mv at hN
  clear hB2 HM
  rcases h2 with ⟨p, rfl⟩ | ⟨mb, kb, rb, g, hmb, rfl, -, -, hMd, hPP⟩
  · have HN := hide hN
    clear hN
    generalize SS.new moR kind size = q at *
    go_wp2_with fail
    refine (HN.out _).mono ?_
    rintro _ w3 ⟨rfl, hB3⟩
    have HB3 := hide (HB2.out.trans (hB3.mono HB2.out.size))
    clear hB3 HN
    go_wp2_with (first | (go_at_call 31; refine (num_st _ _).mono ?_; rintro _ _ ⟨rfl, rfl⟩) | fail)
    go_ret
    exact ⟨rfl, HB3.out.trans ((recv_below w3 _).mono HB3.out.size)⟩
  rw [new_R] at hN
  by_cases hk : 1 ≤ kind ∧ kind ≤ 3
  case neg =>
    rw [if_neg hk] at hN
    simp only at hN
    have HN := hide hN
    clear hN
    go_wp2_with fail
    refine (HN.out _).mono ?_
    rintro _ w3 ⟨rfl, hB3⟩
    have HB3 := hide (HB2.out.trans (hB3.mono HB2.out.size))
    clear hB3 HN
    go_wp2_with (first | (go_at_call 31; refine (num_st _ _).mono ?_; rintro _ _ ⟨rfl, rfl⟩) | fail)
    go_ret
    exact ⟨rfl, HB3.out.trans ((recv_below w3 _).mono HB3.out.size)⟩
  rw [if_pos hk] at hN
  by_cases hs : 1 ≤ size ∧ size ≤ 65536
  case neg =>
    rw [if_neg hs] at hN
    simp only at hN
    have HN := hide hN
    clear hN
    go_wp2_with fail
    refine (HN.out _).mono ?_
    rintro _ w3 ⟨rfl, hB3⟩
    have HB3 := hide (HB2.out.trans (hB3.mono HB2.out.size))
    clear hB3 HN
    go_wp2_with (first | (go_at_call 31; refine (num_st _ _).mono ?_; rintro _ _ ⟨rfl, rfl⟩) | fail)
    go_ret
    exact ⟨rfl, HB3.out.trans ((recv_below w3 _).mono HB3.out.size)⟩
  rw [if_pos hs] at hN
  simp only at hN
  have HN := hide hN
  obtain ⟨t1, t2⟩ := tl_made b fs
  have HMd : Hid (MkrAt mb kb rb g 1 w2) := hide (by rw [← t1]; exact hMd)
  have HPP : Hid (PP (fun K w O => KAt w O kb K) (fun K w O => RwS g rb 1 w O K) (KTl b 0 fs 0) (mb + 1) w2) := hide (by
    have h := hPP
    unfold tlP at h
    rw [t1, t2] at h
    simp only at h
    rw [tl_seek] at h
    exact h)
  clear hN hMd hPP t1 t2
  go_wp2_with fail
  refine (HN.out _).mono ?_
  rintro _ w3 ⟨rfl, hB3⟩
  have HB3 := hide (HB2.out.trans (hB3.mono HB2.out.size))
  have HB23 := hide hB3
  clear hB3 HN
  go_wp2_with (first | (go_at_call 31; refine (num_st _ _).mono ?_; rintro _ _ ⟨rfl, rfl⟩) | fail)
  have hBn := recv_below w3 (Obj.cells #[.bool (xR kind size).rd, .bool (xR kind size).wt, .int .i64 (xR kind size).mode, .int .i64 (xR kind size).size, .slice none 0 0, .slice none 0 0, .slice none 0 0, .int .i64 (xR kind size).dir, .bool (xR kind size).fin, .bool (xR kind size).bad, .bool (xR kind size).closed] 80)
  have HV : Hid (∃ O, LV (fun w O K => KAt w O kb K) (w3.alloc (Obj.cells #[.bool (xR kind size).rd, .bool (xR kind size).wt, .int .i64 (xR kind size).mode, .int .i64 (xR kind size).size, .slice none 0 0, .slice none 0 0, .slice none 0 0, .int .i64 (xR kind size).dir, .bool (xR kind size).fin, .bool (xR kind size).bad, .bool (xR kind size).closed] 80)) (mb + 1) w3.heap.size O (xR kind size) (KTl b 0 fs 0) (.slice none 0 0) (.slice none 0 0) (.slice none 0 0)) := hide (by
    obtain ⟨O, P, hA, -, hO, -⟩ := HPP.out
    have hA3 := (kat_o kb (KTl b 0 fs 0)).keep hA (fun j _ hl => HB23.out.block j hl) HB23.out.size
    have hz := HB23.out.size
    refine ⟨O, heap_alloc_new w3 _, SIn.nils rfl rfl rfl, (kat_o kb (KTl b 0 fs 0)).keep hA3 (fun j _ hl => hBn.block j hl) hBn.size, fun j e => ?_, fun j e => (hO j e).1, fun e => ?_, ?_⟩
    · have := (hO j e).2.1; have := hBn.size; omega
    · have := (hO _ e).2.1; omega
    · have h9 := World.block_lt_of_cell? w2 _ (cell_of_row w2 mb 0 _ _ _ HMd.out); show mb + 1 ≤ w3.heap.size; have h10 : mb < w2.heap.size := h9; omega)
  have HPl : Hid (planOk fs) := hide (by
    obtain ⟨O, P, hA, -⟩ := HPP.out
    exact hA.ok.1.plan)
  have HF : Hid (TsR (xR kind size) (KTl b 0 fs 0) b 0) := hide ⟨rfl, hk.1, hk.2, hs.1, hs.2, rfl, rfl, rfl, rfl, rfl, .inr ⟨rfl, rfl⟩, Nat.zero_le _, rfl, ⟨fs, 0, rfl, HPl.out, by have := HPl.out.1; omega⟩, Nat.zero_le _⟩
  have hmb2 : mb < w2.heap.size := World.block_lt_of_cell? w2 _ (cell_of_row w2 mb 0 _ _ _ HMd.out)
  have HMn : Hid (MkrAt mb kb rb g 1 (w3.alloc (Obj.cells #[.bool (xR kind size).rd, .bool (xR kind size).wt, .int .i64 (xR kind size).mode, .int .i64 (xR kind size).size, .slice none 0 0, .slice none 0 0, .slice none 0 0, .int .i64 (xR kind size).dir, .bool (xR kind size).fin, .bool (xR kind size).bad, .bool (xR kind size).closed] 80))) := hide (((hBn.block mb (by have := HB23.out.size; omega)).trans (HB23.out.block mb hmb2)).trans HMd.out)
  have HBw := hide (HB3.out.trans (hBn.mono HB3.out.size))
  have hBw : mb + 1 ≤ (w3.alloc (Obj.cells #[.bool (xR kind size).rd, .bool (xR kind size).wt, .int .i64 (xR kind size).mode, .int .i64 (xR kind size).size, .slice none 0 0, .slice none 0 0, .slice none 0 0, .int .i64 (xR kind size).dir, .bool (xR kind size).fin, .bool (xR kind size).bad, .bool (xR kind size).closed] 80)).heap.size := by have := HB23.out.size; have := hBn.size; omega
  obtain ⟨gs, hgs⟩ : ∃ gs, gs = w3.heap.size := ⟨_, rfl⟩
  rw [← hgs] at HV
  simp only [← hgs]
  generalize w3.alloc (Obj.cells #[.bool (xR kind size).rd, .bool (xR kind size).wt, .int .i64 (xR kind size).mode, .int .i64 (xR kind size).size, .slice none 0 0, .slice none 0 0, .slice none 0 0, .int .i64 (xR kind size).dir, .bool (xR kind size).fin, .bool (xR kind size).bad, .bool (xR kind size).closed] 80) = wL at *
  clear hBn HPP HMd HPl hmb2 HB3 HB23 hgs
  obtain ⟨N, hN⟩ : ∃ N, N = min b.length 3000 := ⟨_, rfl⟩
  go_loopg [14] N (fun gq s14 wx => ∃ (k : Nat) (x : SS) (K : KS) (o i c : Value) (O : Nat → Prop), k + gq = N ∧ s14 = .int .i64 k ∧ Hid (LV (fun w O K => KAt w O kb K) wx (mb + 1) gs O x K o i c) ∧ Hid (TsR x K b k) ∧ Hid (MkrAt mb kb rb g 1 wx) ∧ Hid (Below w.heap.size w wx) ∧ mb + 1 ≤ wx.heap.size)
  case atStart => exact ⟨0, _, _, _, _, _, HV.out.choose, by omega, rfl, hide HV.out.choose_spec, HF, HMn, HBw, hBw⟩
  case round =>
    clear HV HF HMn HBw hBw
    obtain ⟨k, x, K, o, i, c, O, hkg, rfl, HV, HF, HMn, HBw, hBw⟩ := hrel
    obtain ⟨oa1, oc1, eo, -⟩ := HV.out.ls.so
    obtain ⟨ia1, ic1, ei, -⟩ := HV.out.ls.si
    obtain ⟨ba1, bc1, ebk, -⟩ := HV.out.ls.sb
    subst eo ei ebk
    have HKb : Hid (kB 2 K) := hide (by
      obtain ⟨L, rd, e, _, h4⟩ := HF.out.st
      rw [e]
      exact ⟨by show rd + 2 * 8192 ≤ _; omega, by show 0 + 2 * 536879104 ≤ _; decide⟩)
    have r0 : wr.cell? ⟨mb, 0, none⟩ = some (.iface 300 (.agg #[.pointer (some ⟨kb, 0, none⟩), .int .i64 1])) := cell_of_row wr mb 0 _ _ _ HMn.out
    have HVd := hide (HV.out.below (fun s => kat_o kb s) (Below.refl _ wr).drew)
    have hg := sGet_any (ker_raw kb 1 ⟨by decide, by decide⟩) (fun s => kat_o kb s) (ker_bears 1) HVd.out.ls HVd.out.raw HVd.out.ol HKb.out (by rw [HF.out.out]; decide) (by have := HF.out.few; omega) (by rw [HF.out.back]; decide)
    obtain ⟨m0, m1', m2', m3', m4', m5', m6', m7', m8', m9', m10'⟩ := HV.out.st.cs
    by_cases hlt : k < N
    case neg =>
      have hwm : w.heap.size ≤ mb + 1 := by have := HB1.out.size; omega
      by_cases h3 : 3000 < b.length
      · have q1 : (k : Int) < (b.length : Int) := by omega
        have q2 : ¬ (k : Int) < 3000 := by omega
        have q3 : (3000 : Int) < (b.length : Int) := by omega
        clear hg
        go_wp2
        go_ret
        exact ⟨rfl, HBw.out⟩
      obtain rfl : k = b.length := by omega
      have q1 : ¬ (b.length : Int) < (b.length : Int) := by omega
      have q3 : ¬ (3000 : Int) < (b.length : Int) := by omega
      obtain ⟨K2, e1, e2, e3⟩ := tl_end HF.out (by omega)
      have HO := hide (tl_over HF.out K2)
      have HBd := hide (HF.out.bad)
      have HFw : Hid (({ x with dir := 1, fin := true } : SS).out.length ≤ 140737488351232 ∧ ({ x with dir := 1, fin := true } : SS).inn.length ≤ 140737488351232 ∧ ({ x with dir := 1, fin := true } : SS).back.length ≤ 140737488351232) := hide (by
        have h1 := HF.out.few
        refine ⟨?_, ?_, ?_⟩
        · show x.out.length ≤ _; rw [HF.out.out]; decide
        · show x.inn.length ≤ _; omega
        · show x.back.length ≤ _; rw [HF.out.back]; decide)
      have HX : Hid (({ x with dir := 1, fin := true } : SS).fin = true ∧ ({ x with dir := 1, fin := true } : SS).bad = false) := hide ⟨rfl, HF.out.bad⟩
      rw [e1] at hg
      generalize ({ x with dir := 1, fin := true } : SS) = x2 at *
      simp only at hg
      have HG := hide hg
      have HK2 : Hid (kB 2 K2) := hide ⟨by omega, by omega⟩
      clear hg e1 e2 e3
      go_wp2_with fail
      go_region_law (first | (go_simp; go_at_call 32; refine HG.out.mono ?_; rintro _ w5' ⟨o', i', b'', rfl, hS⟩; obtain ⟨a1, k1, rfl, -⟩ := hS.choose_spec.1.so; obtain ⟨a2, k2, rfl, -⟩ := hS.choose_spec.1.si; obtain ⟨a3, k3, rfl, -⟩ := hS.choose_spec.1.sb; obtain ⟨hst, hv, ht⟩ := LV.next (fun s => kat_o kb s) HVd.out hBw hS; have HV6 := hide hv; have HT6 := hide ht; obtain ⟨p0, p1, p2, p3, p4, p5, p6, p7, p8, p9, p10⟩ := hst.cs; have f0 := hst.soft 0; have f1 := hst.soft 1; have f2 := hst.soft 2; have f3 := hst.soft 3; have f4 := hst.soft 4; have f5 := hst.soft 5; have f6 := hst.soft 6; have f7 := hst.soft 7; have f8 := hst.soft 8; have f9 := hst.soft 9; have f10 := hst.soft 10; clear hst hv ht hS) | fail)
      all_goals
        unfold filled at HV6 HT6
        clear p0 p1 p2 p3 p4 p5 p6 p7 p8 p9 p10 f0 f1 f2 f3 f4 f5 f6 f7 f8 f9 f10 m0 m1' m2' m3' m4' m5' m6' m7' m8' m9' m10' HG HVd HV r0
        generalize ((((((((((w5'.setCell ⟨gs, 0, none⟩ (.bool x2.rd)).setCell ⟨gs, 1, none⟩ (.bool x2.wt)).setCell ⟨gs, 2, none⟩ (.int .i64 x2.mode)).setCell ⟨gs, 3, none⟩ (.int .i64 x2.size)).setCell ⟨gs, 4, none⟩ (.slice a1 x2.out.length k1)).setCell ⟨gs, 5, none⟩ (.slice a2 x2.inn.length k2)).setCell ⟨gs, 6, none⟩ (.slice a3 x2.back.length k3)).setCell ⟨gs, 7, none⟩ (.int .i64 x2.dir)).setCell ⟨gs, 8, none⟩ (.bool x2.fin)).setCell ⟨gs, 9, none⟩ (.bool x2.bad)).setCell ⟨gs, 10, none⟩ (.bool x2.closed) = w8 at *
        have HB8 : Hid (Below w.heap.size w w8) := hide ((HBw.out.trans ((Below.refl _ _).drew.mono HBw.out.size)).trans ((HT6.out.below (fun k e => e) hBw).mono hwm))
        have hB8 : mb + 1 ≤ w8.heap.size := by have h9 : wr.drew.heap.size ≤ w8.heap.size := HT6.out.size; have h10 : wr.drew.heap.size = wr.heap.size := rfl; omega
        have r0 : w8.cell? ⟨mb, 0, none⟩ = some (.iface 300 (.agg #[.pointer (some ⟨kb, 0, none⟩), .int .i64 1])) := cell_of_row w8 mb 0 _ _ _ ((HT6.out.block mb (by show mb < wr.heap.size; omega) (by show ¬ mb + 1 ≤ mb; omega)).trans HMn.out)
        obtain ⟨O1', hv8⟩ := HV6.out
        have HV8 := hide hv8
        have HGg := hide (fun (W : World) (hW : Below w8.heap.size w8 W) => sGet_any (ker_raw kb 1 ⟨by decide, by decide⟩) (fun s => kat_o kb s) (ker_bears 1) (HV8.out.below (fun s => kat_o kb s) hW).ls (HV8.out.below (fun s => kat_o kb s) hW).raw (HV8.out.below (fun s => kat_o kb s) hW).ol HK2.out HFw.out.1 HFw.out.2.1 HFw.out.2.2)
        clear hv8 HV6 HT6
        generalize x2.get (kerD 1) K2 = X at *
        obtain ⟨x3, c3, e3, K3⟩ := X
        simp only at HGg HO
        obtain ⟨m0, m1', m2', m3', m4', m5', m6', m7', m8', m9', m10'⟩ := HV8.out.st.cs
        have hg8 := HV8.out.st.lt
        have HS : Hid (∀ W W', Below w8.heap.size w8 W → Turned O1' W W' → StAt W' gs x2 (.slice a1 x2.out.length k1) (.slice a2 x2.inn.length k2) (.slice a3 x2.back.length k3) ∧ W'.cell? ⟨mb, 0, none⟩ = some (.iface 300 (.agg #[.pointer (some ⟨kb, 0, none⟩), .int .i64 1]))) := hide (fun W W' hW hT =>
          ⟨(hT.block gs (Nat.lt_of_lt_of_le hg8 hW.size) HV8.out.og).trans (HV8.out.st.below hW), hT.cell ((hW.cell (p := ⟨mb, 0, none⟩) (World.block_lt_of_cell? w8 _ r0)).trans r0) (fun e => by have := HV8.out.ob _ e; simp at this; omega)⟩)
        have HE : Hid (e3 = 111) := HO
        have HFn : Hid (∀ W, StAt W gs x2 (.slice a1 x2.out.length k1) (.slice a2 x2.inn.length k2) (.slice a3 x2.back.length k3) → W.cell? ⟨gs, 8, none⟩ = some (.bool true) ∧ W.cell? ⟨gs, 9, none⟩ = some (.bool false)) := hide (fun W h => ⟨by have := h.cs.2.2.2.2.2.2.2.2.1; rw [HX.out.1] at this; exact this, by have := h.cs.2.2.2.2.2.2.2.2.2.1; rw [HX.out.2] at this; exact this⟩)
        have HOl : Hid (∀ j, O1' j → j < w8.heap.size ∧ mb + 1 ≤ j) := hide (fun j e => ⟨HV8.out.ol j e, HV8.out.ob j e⟩)
        have HSt := hide HV8.out.st
        clear HV8
        go_wp2_with fail
        clear m0 m1' m2' m3' m4' m5' m6' m7' m8' m9' m10'
        refine wp_region_noPanic ?_
        refine wp_region_held_drew (S := fun W => StAt W gs x2 (.slice a1 x2.out.length k1) (.slice a2 x2.inn.length k2) (.slice a3 x2.back.length k3) ∧ W.cell? ⟨mb, 0, none⟩ = some (.iface 300 (.agg #[.pointer (some ⟨kb, 0, none⟩), .int .i64 1]))) (by kernel_rfl) (⟨HSt.out.below (Below.refl _ _).drew, r0⟩) (fun hHeld => ?_)
        refine wpAnyH_take (i := 0) (oi := ?_) (v := ?_) ?_ (by kernel_rfl) (by kernel_rfl) (by kernel_rfl) (fun _ _ _ h => (h : False).elim) (Or.inl ⟨?_, ?_⟩) hHeld ?_
        rotate_left 2
        · (simp only [List.getElem?_toArray, List.getElem?_cons_zero]; rfl)
        · rfl
        · (intro w hSw; obtain ⟨hq1, hq2⟩ := hSw; obtain ⟨m0, m1, m2, m3, m4, m5, m6, m7, m8, m9, m10⟩ := hq1.cs; go_simp <;> with_reducible rfl)
        try simp only [Act.put, List.setIfInBounds_toArray, List.set_cons_zero, List.set_cons_succ]
        refine wpAnyH_take (i := 1) (oi := ?_) (v := ?_) ?_ (by kernel_rfl) (by kernel_rfl) (by kernel_rfl) (fun _ _ _ h => (h : False).elim) (Or.inl ⟨?_, ?_⟩) hHeld ?_
        rotate_left 2
        · (simp only [List.getElem?_toArray, List.getElem?_cons_zero, List.getElem?_cons_succ]; rfl)
        · rfl
        · (intro w hSw; obtain ⟨hq1, hq2⟩ := hSw; obtain ⟨m0, m1, m2, m3, m4, m5, m6, m7, m8, m9, m10⟩ := hq1.cs; go_simp <;> with_reducible rfl)
        try simp only [Act.put, List.setIfInBounds_toArray, List.set_cons_zero, List.set_cons_succ]
        refine wpAnyH_take (i := 2) (oi := ?_) (v := ?_) ?_ (by kernel_rfl) (by kernel_rfl) (by kernel_rfl) (fun _ _ _ h => (h : False).elim) (Or.inl ⟨?_, ?_⟩) hHeld ?_
        rotate_left 2
        · (simp only [List.getElem?_toArray, List.getElem?_cons_zero, List.getElem?_cons_succ]; rfl)
        · rfl
        · (intro w hSw; obtain ⟨hq1, hq2⟩ := hSw; obtain ⟨m0, m1, m2, m3, m4, m5, m6, m7, m8, m9, m10⟩ := hq1.cs; go_simp <;> with_reducible rfl)
        try simp only [Act.put, List.setIfInBounds_toArray, List.set_cons_zero, List.set_cons_succ]
        refine wpAnyH_take (i := 3) (oi := ?_) (v := ?_) ?_ (by kernel_rfl) (by kernel_rfl) (by kernel_rfl) (fun _ _ _ h => (h : False).elim) (Or.inl ⟨?_, ?_⟩) hHeld ?_
        rotate_left 2
        · (simp only [List.getElem?_toArray, List.getElem?_cons_zero, List.getElem?_cons_succ]; rfl)
        · rfl
        · (intro w hSw; obtain ⟨hq1, hq2⟩ := hSw; obtain ⟨m0, m1, m2, m3, m4, m5, m6, m7, m8, m9, m10⟩ := hq1.cs; go_simp <;> with_reducible rfl)
        try simp only [Act.put, List.setIfInBounds_toArray, List.set_cons_zero, List.set_cons_succ]
        refine wpAnyH_take (i := 4) (oi := ?_) (v := ?_) ?_ (by kernel_rfl) (by kernel_rfl) (by kernel_rfl) (fun _ _ _ h => (h : False).elim) (Or.inl ⟨?_, ?_⟩) hHeld ?_
        rotate_left 2
        · (simp only [List.getElem?_toArray, List.getElem?_cons_zero, List.getElem?_cons_succ]; rfl)
        · rfl
        · (intro w hSw; obtain ⟨hq1, hq2⟩ := hSw; obtain ⟨m0, m1, m2, m3, m4, m5, m6, m7, m8, m9, m10⟩ := hq1.cs; go_simp <;> with_reducible rfl)
        try simp only [Act.put, List.setIfInBounds_toArray, List.set_cons_zero, List.set_cons_succ]
        refine wpAnyH_ready (rs := [5, 10]) (by kernel_rfl) (by simp) ?_
        refine AllReadyH.cons (o := ?_) ?_ (fun K' hK => ?_) (AllReadyH.cons (o := ?_) ?_ (fun K' hK => ?_) AllReadyH.nil)
        rotate_left 1
        · (simp only [List.getElem?_toArray, List.getElem?_cons_zero, List.getElem?_cons_succ]; rfl)
        · go_simp
          go_at_call 32
          refine (HGg.out _ (Below.refl _ _).drew).mono ?_
          rintro _ w9 ⟨o3, i3, b3, rfl, hS⟩
          obtain ⟨q1, j1, rfl, -⟩ := hS.choose_spec.1.so
          obtain ⟨q2, j2, rfl, -⟩ := hS.choose_spec.1.si
          obtain ⟨q3, j3, rfl, -⟩ := hS.choose_spec.1.sb
          obtain ⟨O', s1, s2, s3, s4, s5⟩ := hS
          have h9 := HS.out _ w9 (Below.refl _ _).drew s5
          have HB9 := hide (HB8.out.trans (((Below.refl _ _).drew.trans (s5.below (B := mb + 1) (fun j e => (HOl.out j e).2) hB8)).mono hwm))
          clear s1 s2 s3 s4
          refine hK.out _ _ (h9) (fun hHeld2 => ?_)
          clear hK K' hHeld
          have hHeld := hHeld2
          clear hHeld2
          try simp only [Act.put, List.setIfInBounds_toArray, List.set_cons_zero, List.set_cons_succ]
          refine wpAnyH_take (i := 6) (oi := ?_) (v := ?_) ?_ (by kernel_rfl) (by kernel_rfl) (by kernel_rfl) (fun _ _ _ h => (h : False).elim) (Or.inl ⟨?_, ?_⟩) hHeld ?_
          rotate_left 2
          · (simp only [List.getElem?_toArray, List.getElem?_cons_zero, List.getElem?_cons_succ]; rfl)
          · rfl
          · (intro w hSw; obtain ⟨hq1, hq2⟩ := hSw; obtain ⟨m0, m1, m2, m3, m4, m5, m6, m7, m8, m9, m10⟩ := hq1.cs; go_simp <;> with_reducible rfl)
          try simp only [Act.put, List.setIfInBounds_toArray, List.set_cons_zero, List.set_cons_succ]
          refine wpAnyH_take (i := 7) (oi := ?_) (v := ?_) ?_ (by kernel_rfl) (by kernel_rfl) (by kernel_rfl) (fun _ _ _ h => (h : False).elim) (Or.inl ⟨?_, ?_⟩) hHeld ?_
          rotate_left 2
          · (simp only [List.getElem?_toArray, List.getElem?_cons_zero, List.getElem?_cons_succ]; rfl)
          · rfl
          · (intro w hSw; obtain ⟨hq1, hq2⟩ := hSw; obtain ⟨m0, m1, m2, m3, m4, m5, m6, m7, m8, m9, m10⟩ := hq1.cs; go_simp <;> with_reducible rfl)
          try simp only [Act.put, List.setIfInBounds_toArray, List.set_cons_zero, List.set_cons_succ]
          refine wpAnyH_take (i := 8) (oi := ?_) (v := ?_) ?_ (by kernel_rfl) (by kernel_rfl) (by kernel_rfl) (fun _ _ _ h => (h : False).elim) (Or.inl ⟨?_, ?_⟩) hHeld ?_
          rotate_left 2
          · (simp only [List.getElem?_toArray, List.getElem?_cons_zero, List.getElem?_cons_succ]; rfl)
          · rfl
          · (intro w hSw; obtain ⟨hq1, hq2⟩ := hSw; obtain ⟨m0, m1, m2, m3, m4, m5, m6, m7, m8, m9, m10⟩ := hq1.cs; go_simp <;> with_reducible rfl)
          try simp only [Act.put, List.setIfInBounds_toArray, List.set_cons_zero, List.set_cons_succ]
          refine wpAnyH_take (i := 9) (oi := ?_) (v := ?_) ?_ (by kernel_rfl) (by kernel_rfl) (by kernel_rfl) (fun _ _ _ h => (h : False).elim) (Or.inl ⟨?_, ?_⟩) hHeld ?_
          rotate_left 2
          · (simp only [List.getElem?_toArray, List.getElem?_cons_zero, List.getElem?_cons_succ]; rfl)
          · rfl
          · (intro w hSw; obtain ⟨hq1, hq2⟩ := hSw; obtain ⟨m0, m1, m2, m3, m4, m5, m6, m7, m8, m9, m10⟩ := hq1.cs; go_simp <;> with_reducible rfl)
          try simp only [Act.put, List.setIfInBounds_toArray, List.set_cons_zero, List.set_cons_succ]
          refine wpAnyH_ready (rs := [10]) (by kernel_rfl) (by simp) ?_
          refine AllReadyH.cons (o := ?_) ?_ (fun K' hK => ?_) AllReadyH.nil
          rotate_left 1
          · (simp only [List.getElem?_toArray, List.getElem?_cons_zero, List.getElem?_cons_succ]; rfl)
          go_simp
          refine hK.out _ _ (⟨h9.1.below (recv_below w9 (Obj.cells #[.bool false, .bool false, .int .i64 0, .int .i64 0, .slice none 0 0, .slice none 0 0, .slice none 0 0, .int .i64 0, .bool false, .bool false, .bool false] 80)), ((recv_below w9 (Obj.cells #[.bool false, .bool false, .int .i64 0, .int .i64 0, .slice none 0 0, .slice none 0 0, .slice none 0 0, .int .i64 0, .bool false, .bool false, .bool false] 80)).cell (p := ⟨mb, 0, none⟩) (World.block_lt_of_cell? w9 _ h9.2)).trans h9.2⟩) (fun hHeld2 => ?_)
          clear hK K' hHeld
          have hHeld := hHeld2
          clear hHeld2
          try simp only [Act.put, List.setIfInBounds_toArray, List.set_cons_zero, List.set_cons_succ]
          refine wpAnyH_ready (rs := [11]) (by kernel_rfl) (by simp) ?_
          refine AllReadyH.cons (o := ?_) ?_ (fun K' hK => ?_) AllReadyH.nil
          rotate_left 1
          · (simp only [List.getElem?_toArray, List.getElem?_cons_zero, List.getElem?_cons_succ]; rfl)
          go_simp
          refine hK.out _ _ (⟨h9.1.below (recv_below w9 (Obj.cells #[.bool x3.rd, .bool x3.wt, .int .i64 x3.mode, .int .i64 x3.size, .slice q1 x3.out.length j1, .slice q2 x3.inn.length j2, .slice q3 x3.back.length j3, .int .i64 x3.dir, .bool x3.fin, .bool x3.bad, .bool x3.closed] 80)), ((recv_below w9 (Obj.cells #[.bool x3.rd, .bool x3.wt, .int .i64 x3.mode, .int .i64 x3.size, .slice q1 x3.out.length j1, .slice q2 x3.inn.length j2, .slice q3 x3.back.length j3, .int .i64 x3.dir, .bool x3.fin, .bool x3.bad, .bool x3.closed] 80)).cell (p := ⟨mb, 0, none⟩) (World.block_lt_of_cell? w9 _ h9.2)).trans h9.2⟩) (fun hHeld2 => ?_)
          clear hK K' hHeld
          have hHeld := hHeld2
          clear hHeld2
          try simp only [Act.put, List.setIfInBounds_toArray, List.set_cons_zero, List.set_cons_succ]
          refine wpAnyH_take (i := 12) (oi := ?_) (v := ?_) ?_ (by kernel_rfl) (by kernel_rfl) (by kernel_rfl) (fun _ _ _ h => (h : False).elim) (Or.inl ⟨?_, ?_⟩) hHeld ?_
          rotate_left 2
          · (simp only [List.getElem?_toArray, List.getElem?_cons_zero, List.getElem?_cons_succ]; rfl)
          · rfl
          · (intro w hSw; obtain ⟨hq1, hq2⟩ := hSw; obtain ⟨m0, m1, m2, m3, m4, m5, m6, m7, m8, m9, m10⟩ := hq1.cs; go_simp <;> with_reducible rfl)
          try simp only [Act.put, List.setIfInBounds_toArray, List.set_cons_zero, List.set_cons_succ]
          refine wpAnyH_take (i := 13) (oi := ?_) (v := ?_) ?_ (by kernel_rfl) (by kernel_rfl) (by kernel_rfl) (fun _ _ _ h => (h : False).elim) (Or.inl ⟨?_, ?_⟩) hHeld ?_
          rotate_left 2
          · (simp only [List.getElem?_toArray, List.getElem?_cons_zero, List.getElem?_cons_succ]; rfl)
          · rfl
          · (intro w hSw; obtain ⟨hq1, hq2⟩ := hSw; obtain ⟨m0, m1, m2, m3, m4, m5, m6, m7, m8, m9, m10⟩ := hq1.cs; go_simp <;> with_reducible rfl)
          try simp only [Act.put, List.setIfInBounds_toArray, List.set_cons_zero, List.set_cons_succ]
          refine wpAnyH_done (by kernel_rfl) ?_ _
          refine NoPanic.normal ?_
          obtain ⟨n8, n9⟩ := HFn.out _ hHeld.1
          obtain rfl := HE.out
          clear hHeld
          go_wp2_with (first | (go_at_call 31; refine (num_st _ _).mono ?_; rintro _ _ ⟨rfl, rfl⟩) | fail)
          go_ret
          exact ⟨rfl, HB9.out.trans ((recv_below w9 (Obj.cells #[.bool x3.rd, .bool x3.wt, .int .i64 x3.mode, .int .i64 x3.size, .slice q1 x3.out.length j1, .slice q2 x3.inn.length j2, .slice q3 x3.back.length j3, .int .i64 x3.dir, .bool x3.fin, .bool x3.bad, .bool x3.closed] 80)).mono HB9.out.size)⟩
        rotate_left 1
        · (simp only [List.getElem?_toArray, List.getElem?_cons_zero, List.getElem?_cons_succ]; rfl)
        · go_simp
          have hBa : Below w8.heap.size w8 ((w8.alloc (Obj.cells #[.bool false, .bool false, .int .i64 0, .int .i64 0, .slice none 0 0, .slice none 0 0, .slice none 0 0, .int .i64 0, .bool false, .bool false, .bool false] 80)).drew) := ((Below.refl _ w8).alloc (Nat.le_refl _) _).drew
          refine hK.out _ _ (⟨HSt.out.below hBa, (hBa.cell (p := ⟨mb, 0, none⟩) (World.block_lt_of_cell? w8 _ r0)).trans r0⟩) (fun hHeld2 => ?_)
          clear hK K' hHeld
          have hHeld := hHeld2
          clear hHeld2
          try simp only [Act.put, List.setIfInBounds_toArray, List.set_cons_zero, List.set_cons_succ]
          refine wpAnyH_ready (rs := [5]) (by kernel_rfl) (by simp) ?_
          refine AllReadyH.cons (o := ?_) ?_ (fun K' hK => ?_) AllReadyH.nil
          rotate_left 1
          · (simp only [List.getElem?_toArray, List.getElem?_cons_zero, List.getElem?_cons_succ]; rfl)
          go_simp
          go_at_call 32
          refine (HGg.out _ ((Below.refl _ _).alloc (Nat.le_refl _) _).drew).mono ?_
          rintro _ w9 ⟨o3, i3, b3, rfl, hS⟩
          obtain ⟨q1, j1, rfl, -⟩ := hS.choose_spec.1.so
          obtain ⟨q2, j2, rfl, -⟩ := hS.choose_spec.1.si
          obtain ⟨q3, j3, rfl, -⟩ := hS.choose_spec.1.sb
          obtain ⟨O', s1, s2, s3, s4, s5⟩ := hS
          have h9 := HS.out _ w9 ((Below.refl _ _).alloc (Nat.le_refl _) _).drew s5
          have HB9 := hide (HB8.out.trans ((((Below.refl _ w8).alloc (Nat.le_refl _) (Obj.cells #[.bool false, .bool false, .int .i64 0, .int .i64 0, .slice none 0 0, .slice none 0 0, .slice none 0 0, .int .i64 0, .bool false, .bool false, .bool false] 80)).drew.mono hB8).trans (s5.below (B := mb + 1) (fun j e => (HOl.out j e).2) (Nat.le_trans hB8 ((Below.refl _ w8).alloc (Nat.le_refl _) (Obj.cells #[.bool false, .bool false, .int .i64 0, .int .i64 0, .slice none 0 0, .slice none 0 0, .slice none 0 0, .int .i64 0, .bool false, .bool false, .bool false] 80)).size)) |>.mono hwm))
          clear s1 s2 s3 s4
          refine hK.out _ _ (h9) (fun hHeld2 => ?_)
          clear hK K' hHeld
          have hHeld := hHeld2
          clear hHeld2
          try simp only [Act.put, List.setIfInBounds_toArray, List.set_cons_zero, List.set_cons_succ]
          refine wpAnyH_take (i := 6) (oi := ?_) (v := ?_) ?_ (by kernel_rfl) (by kernel_rfl) (by kernel_rfl) (fun _ _ _ h => (h : False).elim) (Or.inl ⟨?_, ?_⟩) hHeld ?_
          rotate_left 2
          · (simp only [List.getElem?_toArray, List.getElem?_cons_zero, List.getElem?_cons_succ]; rfl)
          · rfl
          · (intro w hSw; obtain ⟨hq1, hq2⟩ := hSw; obtain ⟨m0, m1, m2, m3, m4, m5, m6, m7, m8, m9, m10⟩ := hq1.cs; go_simp <;> with_reducible rfl)
          try simp only [Act.put, List.setIfInBounds_toArray, List.set_cons_zero, List.set_cons_succ]
          refine wpAnyH_take (i := 7) (oi := ?_) (v := ?_) ?_ (by kernel_rfl) (by kernel_rfl) (by kernel_rfl) (fun _ _ _ h => (h : False).elim) (Or.inl ⟨?_, ?_⟩) hHeld ?_
          rotate_left 2
          · (simp only [List.getElem?_toArray, List.getElem?_cons_zero, List.getElem?_cons_succ]; rfl)
          · rfl
          · (intro w hSw; obtain ⟨hq1, hq2⟩ := hSw; obtain ⟨m0, m1, m2, m3, m4, m5, m6, m7, m8, m9, m10⟩ := hq1.cs; go_simp <;> with_reducible rfl)
          try simp only [Act.put, List.setIfInBounds_toArray, List.set_cons_zero, List.set_cons_succ]
          refine wpAnyH_take (i := 8) (oi := ?_) (v := ?_) ?_ (by kernel_rfl) (by kernel_rfl) (by kernel_rfl) (fun _ _ _ h => (h : False).elim) (Or.inl ⟨?_, ?_⟩) hHeld ?_
          rotate_left 2
          · (simp only [List.getElem?_toArray, List.getElem?_cons_zero, List.getElem?_cons_succ]; rfl)
          · rfl
          · (intro w hSw; obtain ⟨hq1, hq2⟩ := hSw; obtain ⟨m0, m1, m2, m3, m4, m5, m6, m7, m8, m9, m10⟩ := hq1.cs; go_simp <;> with_reducible rfl)
          try simp only [Act.put, List.setIfInBounds_toArray, List.set_cons_zero, List.set_cons_succ]
          refine wpAnyH_take (i := 9) (oi := ?_) (v := ?_) ?_ (by kernel_rfl) (by kernel_rfl) (by kernel_rfl) (fun _ _ _ h => (h : False).elim) (Or.inl ⟨?_, ?_⟩) hHeld ?_
          rotate_left 2
          · (simp only [List.getElem?_toArray, List.getElem?_cons_zero, List.getElem?_cons_succ]; rfl)
          · rfl
          · (intro w hSw; obtain ⟨hq1, hq2⟩ := hSw; obtain ⟨m0, m1, m2, m3, m4, m5, m6, m7, m8, m9, m10⟩ := hq1.cs; go_simp <;> with_reducible rfl)
          try simp only [Act.put, List.setIfInBounds_toArray, List.set_cons_zero, List.set_cons_succ]
          have hz9 : w9.heap[w8.heap.size]? = some (Obj.cells #[.bool false, .bool false, .int .i64 0, .int .i64 0, .slice none 0 0, .slice none 0 0, .slice none 0 0, .int .i64 0, .bool false, .bool false, .bool false] 80) := (s5.block w8.heap.size (by show w8.heap.size < (w8.alloc (Obj.cells #[.bool false, .bool false, .int .i64 0, .int .i64 0, .slice none 0 0, .slice none 0 0, .slice none 0 0, .int .i64 0, .bool false, .bool false, .bool false] 80)).heap.size; rw [World.size_alloc]; omega) (fun e => by have := (HOl.out _ e).1; omega)).trans (heap_alloc_new w8 (Obj.cells #[.bool false, .bool false, .int .i64 0, .int .i64 0, .slice none 0 0, .slice none 0 0, .slice none 0 0, .int .i64 0, .bool false, .bool false, .bool false] 80))
          obtain ⟨-, hT9⟩ := st_fill w9 w8.heap.size x3 (.slice q1 x3.out.length j1) (.slice q2 x3.inn.length j2) (.slice q3 x3.back.length j3) hz9
          have HS9 : Hid (StAt _ gs x2 (.slice a1 x2.out.length k1) (.slice a2 x2.inn.length k2) (.slice a3 x2.back.length k3) ∧ _) := hide (And.intro ((hT9.block gs h9.1.lt (by omega)).trans h9.1) (hT9.cell h9.2 (by show ¬ mb = w8.heap.size; omega)))
          have HB10 := hide (HB9.out.trans (hT9.below (B := w.heap.size) (fun k e => by have e1 : k = w8.heap.size := e; omega) HB9.out.size))
          have f0 := frozen_of_row w9 w8.heap.size 0 _ _ hz9
          have f1 := frozen_of_row w9 w8.heap.size 1 _ _ hz9
          have f2 := frozen_of_row w9 w8.heap.size 2 _ _ hz9
          have f3 := frozen_of_row w9 w8.heap.size 3 _ _ hz9
          have f4 := frozen_of_row w9 w8.heap.size 4 _ _ hz9
          have f5 := frozen_of_row w9 w8.heap.size 5 _ _ hz9
          have f6 := frozen_of_row w9 w8.heap.size 6 _ _ hz9
          have f7 := frozen_of_row w9 w8.heap.size 7 _ _ hz9
          have f8 := frozen_of_row w9 w8.heap.size 8 _ _ hz9
          have f9 := frozen_of_row w9 w8.heap.size 9 _ _ hz9
          have f10 := frozen_of_row w9 w8.heap.size 10 _ _ hz9
          have d0 := cell_of_row w9 w8.heap.size 0 _ _ _ hz9
          have d1 := cell_of_row w9 w8.heap.size 1 _ _ _ hz9
          have d2 := cell_of_row w9 w8.heap.size 2 _ _ _ hz9
          have d3 := cell_of_row w9 w8.heap.size 3 _ _ _ hz9
          have d4 := cell_of_row w9 w8.heap.size 4 _ _ _ hz9
          have d5 := cell_of_row w9 w8.heap.size 5 _ _ _ hz9
          have d6 := cell_of_row w9 w8.heap.size 6 _ _ _ hz9
          have d7 := cell_of_row w9 w8.heap.size 7 _ _ _ hz9
          have d8 := cell_of_row w9 w8.heap.size 8 _ _ _ hz9
          have d9 := cell_of_row w9 w8.heap.size 9 _ _ _ hz9
          have d10 := cell_of_row w9 w8.heap.size 10 _ _ _ hz9
          simp at d0 d1 d2 d3 d4 d5 d6 d7 d8 d9 d10
          clear hz9 hT9 s5 hBa
          refine wpAnyH_ready (rs := [11]) (by kernel_rfl) (by simp) ?_
          refine AllReadyH.cons (o := ?_) ?_ (fun K' hK => ?_) AllReadyH.nil
          rotate_left 1
          · (simp only [List.getElem?_toArray, List.getElem?_cons_zero, List.getElem?_cons_succ]; rfl)
          go_simp
          refine hK.out _ _ (HS9.out) (fun hHeld2 => ?_)
          clear hK K' hHeld
          have hHeld := hHeld2
          clear hHeld2
          try simp only [Act.put, List.setIfInBounds_toArray, List.set_cons_zero, List.set_cons_succ]
          clear f0 d0 f1 d1 f2 d2 f3 d3 f4 d4 f5 d5 f6 d6 f7 d7 f8 d8 f9 d9 f10 d10
          refine wpAnyH_take (i := 12) (oi := ?_) (v := ?_) ?_ (by kernel_rfl) (by kernel_rfl) (by kernel_rfl) (fun _ _ _ h => (h : False).elim) (Or.inl ⟨?_, ?_⟩) hHeld ?_
          rotate_left 2
          · (simp only [List.getElem?_toArray, List.getElem?_cons_zero, List.getElem?_cons_succ]; rfl)
          · rfl
          · (intro w hSw; obtain ⟨hq1, hq2⟩ := hSw; obtain ⟨m0, m1, m2, m3, m4, m5, m6, m7, m8, m9, m10⟩ := hq1.cs; go_simp <;> with_reducible rfl)
          try simp only [Act.put, List.setIfInBounds_toArray, List.set_cons_zero, List.set_cons_succ]
          refine wpAnyH_take (i := 13) (oi := ?_) (v := ?_) ?_ (by kernel_rfl) (by kernel_rfl) (by kernel_rfl) (fun _ _ _ h => (h : False).elim) (Or.inl ⟨?_, ?_⟩) hHeld ?_
          rotate_left 2
          · (simp only [List.getElem?_toArray, List.getElem?_cons_zero, List.getElem?_cons_succ]; rfl)
          · rfl
          · (intro w hSw; obtain ⟨hq1, hq2⟩ := hSw; obtain ⟨m0, m1, m2, m3, m4, m5, m6, m7, m8, m9, m10⟩ := hq1.cs; go_simp <;> with_reducible rfl)
          try simp only [Act.put, List.setIfInBounds_toArray, List.set_cons_zero, List.set_cons_succ]
          refine wpAnyH_done (by kernel_rfl) ?_ _
          refine NoPanic.normal ?_
          obtain ⟨n8, n9⟩ := HFn.out _ hHeld.1
          obtain rfl := HE.out
          clear hHeld
          go_wp2_with (first | (go_at_call 31; refine (num_st _ _).mono ?_; rintro _ _ ⟨rfl, rfl⟩) | fail)
          go_ret
          exact ⟨rfl, HB10.out⟩
    obtain ⟨gq, rfl⟩ : ∃ gq, gk = gq + 1 := ⟨gk - 1, by omega⟩
    have hk2 : (k : Int) < (b.length : Int) := by omega
    have hk3 : (k : Int) < 3000 := by omega
    have hk0 : (0 : Int) ≤ (k : Int) := by omega
    obtain ⟨u1, u2, u3⟩ := tl_get HF.out (by omega) (by omega)
    generalize x.get (kerD 1) K = X at *
    obtain ⟨x2, cc, e2, K2⟩ := X
    simp only at hg u1 u2 u3
    subst u1
    subst u2
    obtain ⟨-, qb, qo, rfl, hqb, hcell⟩ := bys_block HBy.out (by omega)
    have d0 := hcell k (by omega)
    have HD := hide (fun (W : World) (hW : Below w.heap.size w W) => (hW.cell (World.block_lt_of_cell? w _ d0)).trans d0)
    have hwm : w.heap.size ≤ mb + 1 := by have := HB1.out.size; omega
    generalize b.getD k 0 = ch at *
    have HG := hide hg
    have HF3 := hide u3
    clear hg u3 d0 hcell
    go_wp2_with fail
    go_region_law (first | (go_simp; go_at_call 32; refine HG.out.mono ?_; rintro _ w5' ⟨o', i', b'', rfl, hS⟩; obtain ⟨a1, k1, rfl, -⟩ := hS.choose_spec.1.so; obtain ⟨a2, k2, rfl, -⟩ := hS.choose_spec.1.si; obtain ⟨a3, k3, rfl, -⟩ := hS.choose_spec.1.sb; obtain ⟨hst, hv, ht⟩ := LV.next (fun s => kat_o kb s) HVd.out hBw hS; have HV6 := hide hv; have HT6 := hide ht; obtain ⟨p0, p1, p2, p3, p4, p5, p6, p7, p8, p9, p10⟩ := hst.cs; have f0 := hst.soft 0; have f1 := hst.soft 1; have f2 := hst.soft 2; have f3 := hst.soft 3; have f4 := hst.soft 4; have f5 := hst.soft 5; have f6 := hst.soft 6; have f7 := hst.soft 7; have f8 := hst.soft 8; have f9 := hst.soft 9; have f10 := hst.soft 10; clear hst hv ht hS) | fail)
    all_goals
      unfold filled at HV6 HT6
      clear p0 p1 p2 p3 p4 p5 p6 p7 p8 p9 p10 f0 f1 f2 f3 f4 f5 f6 f7 f8 f9 f10 m0 m1' m2' m3' m4' m5' m6' m7' m8' m9' m10' HG HVd HV r0
      generalize ((((((((((w5'.setCell ⟨gs, 0, none⟩ (.bool x2.rd)).setCell ⟨gs, 1, none⟩ (.bool x2.wt)).setCell ⟨gs, 2, none⟩ (.int .i64 x2.mode)).setCell ⟨gs, 3, none⟩ (.int .i64 x2.size)).setCell ⟨gs, 4, none⟩ (.slice a1 x2.out.length k1)).setCell ⟨gs, 5, none⟩ (.slice a2 x2.inn.length k2)).setCell ⟨gs, 6, none⟩ (.slice a3 x2.back.length k3)).setCell ⟨gs, 7, none⟩ (.int .i64 x2.dir)).setCell ⟨gs, 8, none⟩ (.bool x2.fin)).setCell ⟨gs, 9, none⟩ (.bool x2.bad)).setCell ⟨gs, 10, none⟩ (.bool x2.closed) = w8 at *
      have HB8 : Hid (Below w.heap.size w w8) := hide ((HBw.out.trans ((Below.refl _ _).drew.mono HBw.out.size)).trans ((HT6.out.below (fun k e => e) hBw).mono hwm))
      have hB8 : mb + 1 ≤ w8.heap.size := by have h9 : wr.drew.heap.size ≤ w8.heap.size := HT6.out.size; have h10 : wr.drew.heap.size = wr.heap.size := rfl; omega
      have HM8 : Hid (MkrAt mb kb rb g 1 w8) := hide ((HT6.out.block mb (by show mb < wr.heap.size; omega) (by show ¬ mb + 1 ≤ mb; omega)).trans HMn.out)
      have d1 := HD.out w8 HB8.out
      obtain ⟨O1', hv8⟩ := HV6.out
      have HV8 := hide hv8
      clear hv8 HV6 HT6
      go_wp2_with (first | (go_at_call 31; refine (num_st _ _).mono ?_; rintro _ _ ⟨rfl, rfl⟩) | fail)
      go_roundg gq
      case measure => omega
      case rel => exact ⟨k + 1, x2, K2, _, _, _, _, by omega, by go_num, HV8, HF3, HM8, HB8, hB8⟩
end Go.Proofs.YtanbiinomagdbaaGreat

/- What the proof stands on, part 15: the contracts of the program's calls that it reaches. -/
import Derived.Test.YtmogciopaffccaaKB14
import Derived.Deep.LoopGhost
import Derived.Deep.RegionLaw
import Derived.Deep.DeepCutAuto
/- LinesBytes: the walk. -/
namespace Go.Proofs.Ytmogciopaffccaa
open Go.RowKit

theorem newW_15 (mode size : Int) : SS.new moW mode size = if bref mode size = 0 then (xW mode size, 0) else (ss0, bref mode size) := by
  rw [new_W]
  by_cases h1 : 1 ≤ mode ∧ mode ≤ 3
  · by_cases h2 : 1 ≤ size ∧ size ≤ 65536
    · have e : bref mode size = 0 := by unfold bref; rw [if_neg (by omega), if_neg (by omega)]
      rw [if_pos h1, if_pos h2, e, if_pos rfl]
    · have e : bref mode size = 4 := by unfold bref; rw [if_neg (by omega), if_pos (by omega)]
      rw [if_pos h1, if_neg h2, e, if_neg (by decide)]
  · have e : bref mode size = 1 := by unfold bref; rw [if_pos (by omega)]
    rw [if_neg h1, e, if_neg (by decide)]
theorem gwb_new (mode size : Int) (hs : bref mode size = 0) : ∃ m, GwB (xW mode size) m := by
  have h : 1 ≤ mode ∧ mode ≤ 3 ∧ 1 ≤ size ∧ size ≤ 65536 := by
    unfold bref at hs
    split at hs
    · omega
    · split at hs <;> omega
  refine ⟨(brm mode size).toNat, rfl, h.1, h.2.1, h.2.2.1, h.2.2.2, ?_, ?_, rfl, rfl, rfl, .inr ⟨rfl, rfl⟩⟩
  · show brm mode size = _
    unfold brm
    split <;> omega
  · show 0 < (brm mode size).toNat
    unfold brm
    split <;> omega
theorem ret_true {b : Bool} (h : b = true) : Ending.returned (.bool b) = .returned (.bool true) := by rw [h]
set_option maxRecDepth 100000 in
set_option maxHeartbeats 8000000 in
theorem lbytes_any (ta : Option Addr) (tc : Nat) (t : List UInt8) (mode size : Int) (w : World) (hX : Bys w (.slice ta t.length tc) t) (hc : t.length ≤ tc) :
    Calls Try.prog 4 #[.slice ta t.length tc, .int .i64 mode, .int .i64 size] w fun e w' => e = .returned (.bool true) ∧ Below w.heap.size w w' := by
  have HBy := hide hX
  clear hX
  go_enter Try.func4, Try.ntmps4
  go_wp2_with fail
  refine (alive15 _).mono ?_
  rintro _ w1 ⟨rfl, hB1⟩
  have HB1 := hide hB1
  clear hB1
  have hN := fun W => sNew_any moW mode size W
  rw [newW_15] at hN
  unfold mv at hN
  by_cases hs : bref mode size = 0
  case neg =>
    rw [if_neg hs] at hN
    simp only at hN
    generalize bref mode size = q at *
    have HN := hide hN
    have hs2 : (q == 0) = false := by simpa using hs
    have hs3 : (q != 0) = true := by simpa using hs
    clear hN
    go_wp2_with fail
    refine (HN.out _).mono ?_
    rintro _ w2 ⟨rfl, hB2⟩
    have HB2 := hide (HB1.out.trans (hB2.mono HB1.out.size))
    clear hB2
    go_wp2_with (first | (go_at_call 9; refine (num15 _ _).mono ?_; rintro _ _ ⟨rfl, rfl⟩) | fail)
    go_ret
    exact ⟨rfl, HB2.out.trans ((recv_below w2 (Obj.cells #[.bool ss0.rd, .bool ss0.wt, .int .i64 ss0.mode, .int .i64 ss0.size, .slice none 0 0, .slice none 0 0, .slice none 0 0, .int .i64 ss0.dir, .bool ss0.fin, .bool ss0.bad, .bool ss0.closed] 29)).mono HB2.out.size)⟩
  rw [if_pos hs] at hN
  simp only at hN
  have HN := hide hN
  obtain ⟨m, hm⟩ := gwb_new mode size hs
  have HGb := hide hm
  clear hN hm hs
  go_wp2_with fail
  refine (HN.out _).mono ?_
  rintro _ w2 ⟨rfl, hB2⟩
  have HB2 := hide (HB1.out.trans (hB2.mono HB1.out.size))
  clear hB2 HN HB1
  by_cases h2 : 2000 < t.length
  case pos =>
    have h3 : (2000 : Int) < (t.length : Int) := by omega
    go_wp2_with (first | (go_at_call 9; refine (num15 _ _).mono ?_; rintro _ _ ⟨rfl, rfl⟩) | fail)
    go_ret
    exact ⟨rfl, HB2.out.trans ((recv_below w2 (Obj.cells #[.bool (xW mode size).rd, .bool (xW mode size).wt, .int .i64 (xW mode size).mode, .int .i64 (xW mode size).size, .slice none 0 0, .slice none 0 0, .slice none 0 0, .int .i64 (xW mode size).dir, .bool (xW mode size).fin, .bool (xW mode size).bad, .bool (xW mode size).closed] 29)).mono HB2.out.size)⟩
  have h3 : ¬ (2000 : Int) < (t.length : Int) := by omega
  obtain ⟨f1, f2, f3, f4, f5, f6⟩ := four_allocs w2 (Obj.cells #[.bool (xW mode size).rd, .bool (xW mode size).wt, .int .i64 (xW mode size).mode, .int .i64 (xW mode size).size, .slice none 0 0, .slice none 0 0, .slice none 0 0, .int .i64 (xW mode size).dir, .bool (xW mode size).fin, .bool (xW mode size).bad, .bool (xW mode size).closed] 29) (Obj.cells #[.slice none 0 0, .int .i64 0, .int .i64 0, .int .i64 0] 41) (Obj.cells #[.slice none 0 0, .int .i64 0, .int .i64 0, .int .i64 0] 41) (Obj.cells #[.bool (xW mode size).rd, .bool (xW mode size).wt, .int .i64 (xW mode size).mode, .int .i64 (xW mode size).size, .slice none 0 0, .slice none 0 0, .slice none 0 0, .int .i64 (xW mode size).dir, .bool (xW mode size).fin, .bool (xW mode size).bad, .bool (xW mode size).closed] 29)
  have HF := hide (And.intro f1 (And.intro f2 (And.intro f3 (And.intro f4 (And.intro f5 f6)))))
  clear f1 f2 f3 f4 f5 f6
  go_upto_region 8 with (first | (go_at_call 9; refine (num15 _ _).mono ?_; rintro _ _ ⟨rfl, rfl⟩) | fail)
  clear h3
  generalize ((((w2.alloc (Obj.cells #[.bool (xW mode size).rd, .bool (xW mode size).wt, .int .i64 (xW mode size).mode, .int .i64 (xW mode size).size, .slice none 0 0, .slice none 0 0, .slice none 0 0, .int .i64 (xW mode size).dir, .bool (xW mode size).fin, .bool (xW mode size).bad, .bool (xW mode size).closed] 29)).alloc (Obj.cells #[.slice none 0 0, .int .i64 0, .int .i64 0, .int .i64 0] 41)).alloc (Obj.cells #[.slice none 0 0, .int .i64 0, .int .i64 0, .int .i64 0] 41)).alloc (Obj.cells #[.bool (xW mode size).rd, .bool (xW mode size).wt, .int .i64 (xW mode size).mode, .int .i64 (xW mode size).size, .slice none 0 0, .slice none 0 0, .slice none 0 0, .int .i64 (xW mode size).dir, .bool (xW mode size).fin, .bool (xW mode size).bad, .bool (xW mode size).closed] 29)) = w3 at *
  have hzw := HB2.out.size
  obtain ⟨B, hBq⟩ : ∃ B, B = w2.heap.size := ⟨_, rfl⟩
  have hno : ∀ k, (Value.slice none 0 0).ownBlock = some k → False := fun k e => by simp [Value.ownBlock] at e
  have HB3 := hide (HB2.out.trans (HF.out.1.mono HB2.out.size))
  have hS0 : StAt w3 w2.heap.size (xW mode size) (.slice none 0 0) (.slice none 0 0) (.slice none 0 0) := HF.out.2.1
  have hT0 : StAt w3 (w2.heap.size + 1 + 1 + 1) (xW mode size) (.slice none 0 0) (.slice none 0 0) (.slice none 0 0) := HF.out.2.2.2.2.1
  have hW0 : CtB w3 (w2.heap.size + 1) (.slice none 0 0) ⟨[], 0, 0, 0⟩ := HF.out.2.2.1
  have hR0 : CtB w3 (w2.heap.size + 1 + 1) (.slice none 0 0) ⟨[], 0, 0, 0⟩ := HF.out.2.2.2.1
  have hz3 := HF.out.2.2.2.2.2
  obtain ⟨gt, hgt⟩ : ∃ gt, gt = w2.heap.size + 1 + 1 + 1 := ⟨_, rfl⟩
  obtain ⟨gr, hgr⟩ : ∃ gr, gr = w2.heap.size + 1 + 1 := ⟨_, rfl⟩
  obtain ⟨gw, hgw⟩ : ∃ gw, gw = w2.heap.size + 1 := ⟨_, rfl⟩
  obtain ⟨gs, hgs⟩ : ∃ gs, gs = w2.heap.size := ⟨_, rfl⟩
  rw [← hgt] at hT0 hz3
  rw [← hgr] at hR0
  rw [← hgw] at hW0
  rw [← hgs] at hS0
  have HV : Hid (V2 (CtAt gw) (CtAt gr) w3 B gt (fun k => k = gw) (xW mode size) ⟨[], 0, 0, 0⟩ (.slice none 0 0) (.slice none 0 0) (.slice none 0 0) gs (fun k => k = gr) (xW mode size) ⟨[], 0, 0, 0⟩ (.slice none 0 0) (.slice none 0 0) (.slice none 0 0)) := hide
    ⟨⟨hT0, SIn.nils rfl rfl rfl, ⟨_, hW0, World.ownsRow_nil _ _ _ _, fun k e => (hno k e).elim, rfl, Nat.le_refl _, by simp⟩, fun j e => by have e2 : j = gw := e; omega, fun j e => by have e2 : j = gw := e; omega, fun e => by have e2 : gt = gw := e; omega, by omega⟩,
     ⟨hS0, SIn.nils rfl rfl rfl, ⟨_, hR0, World.ownsRow_nil _ _ _ _, fun k e => (hno k e).elim, rfl, Nat.le_refl _, by simp⟩, fun j e => by have e2 : j = gr := e; omega, fun j e => by have e2 : j = gr := e; omega, fun e => by have e2 : gs = gr := e; omega, by omega⟩,
     fun k e e' => by
      have e1 : k = gt ∨ k = gw := by
        rcases e with e | e | e | e | e
        · exact .inl e
        · exact .inr e
        · exact (hno k e).elim
        · exact (hno k e).elim
        · exact (hno k e).elim
      have e2 : k = gs ∨ k = gr := by
        rcases e' with e | e | e | e | e
        · exact .inl e
        · exact .inr e
        · exact (hno k e).elim
        · exact (hno k e).elim
        · exact (hno k e).elim
      omega⟩
  have HFw : Hid (Pw (xW mode size) (xW mode size) ⟨[], 0, 0, 0⟩ t 0 m) := hide ⟨HGb.out, rfl, rfl, rfl, fun e => by omega, rfl, fun _ => ⟨rfl, rfl⟩, rfl, Nat.le_refl _⟩
  have hBw : w.heap.size ≤ B := by omega
  have hB3 : B ≤ w3.heap.size := by omega
  have htl : t.length ≤ 2000 := by omega
  rw [← hgt, ← hgr, ← hgw, ← hgs]
  clear hS0 hT0 hW0 hR0 hz3 hno hzw HF HB2 hgt hgr hgw hgs hBq h2
  go_wp2_with fail
  go_loopg [12] t.length (fun gq s12 wx => ∃ (k : Nat) (x1 : SS) (S1 : CtS) (o1 i1 c1 : Value) (O1 O2 : Nat → Prop), k + gq = t.length ∧ s12 = .int .i64 k ∧ Hid (V2 (CtAt gw) (CtAt gr) wx B gt O1 x1 S1 o1 i1 c1 gs O2 (xW mode size) ⟨[], 0, 0, 0⟩ (.slice none 0 0) (.slice none 0 0) (.slice none 0 0)) ∧ Hid (Pw (xW mode size) x1 S1 t k m) ∧ Hid (Below w.heap.size w wx) ∧ B ≤ wx.heap.size)
  case atStart => exact ⟨0, _, _, _, _, _, _, _, by omega, rfl, HV, HFw, HB3, hB3⟩
  case round =>
    clear HV HFw HB3 hB3
    obtain ⟨k, x1, S1, o1, i1, c1, O1, O2, hkg, rfl, HVr, HFw, HBr, hBr⟩ := hrel
    obtain ⟨oa0, oc0, eo, -⟩ := HVr.out.l1.ls.so
    obtain ⟨ia0, ic0, ei, -⟩ := HVr.out.l1.ls.si
    obtain ⟨ba0, bc0, ebk, -⟩ := HVr.out.l1.ls.sb
    subst eo ei ebk
    by_cases hlt : k < t.length
    case neg =>
      obtain rfl : k = t.length := by omega
      have hlt' : ¬ (t.length : Int) < (t.length : Int) := by omega
      obtain ⟨X, SX, hX, hXo, hXd, hXb, hXw⟩ := ct_aput HGb.out rfl HFw.out htl
      have hp := lput_any (ct_raw gr) (fun s => ct_o gr s) ct_bears t ta tc HVr.out.l2.ls HVr.out.l2.raw HVr.out.l2.ol (fun k e => e.2.1) (by show 0 + (2 * t.length + 4) ≤ _ ∧ 0 + (2 * t.length + 4) ≤ _ ∧ 0 + (2 * t.length + 4) * 65536 ≤ _; omega) (fun _ _ => (ct_bears.put 0 _ t (by show 0 + 1 ≤ _ ∧ 0 + 1 ≤ _ ∧ 0 + 1 * 65536 ≤ _; omega) (by omega)).1) (by simp [xW]) (by simp [xW]) (by simp [xW]) (HBy.out.below HBr.out) hc (fun hl0 j e e2 => by
        obtain ⟨-, qb, qo, e3, hqb, -⟩ := bys_block HBy.out hl0
        rw [e3] at e
        have e4 : qb = j := by simpa [Value.ownBlock] using e
        have := HVr.out.l2.ob j e2
        omega)
      rw [hX] at hp
      simp only at hp
      have HP := hide hp
      have HX := hide (And.intro hXo (And.intro hXd (And.intro hXb hXw)))
      obtain ⟨c0, c1, c2, c3, c4, c5, c6, c7, c8, c9, c10⟩ := HVr.out.l2.st.cs
      clear hp hX hXo hXd hXb hXw hkg hlt
      go_upto_region 12 with fail
      go_wp2_with fail
      clear c0 c1 c2 c3 c4 c5 c6 c7 c8 c9 c10 hlt'
      refine HP.out.mono ?_
      rintro _ w5 ⟨o', i', b', rfl, hS⟩
      obtain ⟨O', s1, s2, s3, s4, s5⟩ := hS
      obtain ⟨a1, a4, rfl, -⟩ := s1.so
      obtain ⟨a2, a5, rfl, -⟩ := s1.si
      obtain ⟨a3, a6, rfl, -⟩ := s1.sb
      have hL1 := HVr.out.l1.turned (fun s => ct_o gw s) s5 (fun k e e' => HVr.out.dj k e (.inr (.inl e')))
      obtain ⟨v1, k1, k2, -⟩ := hL1.raw
      obtain ⟨v2, r1, r2, -⟩ := s2
      obtain ⟨va1, vc1, rfl⟩ := owns_slice k2
      obtain ⟨va2, vc2, rfl⟩ := owns_slice r2
      obtain ⟨e1, e2, e3, e4⟩ := HX.out
      have q1 : Bys w5 (.slice a1 X.out.length a4) X.out := s1.so.choose_spec.choose_spec.2.1
      have q2 : Bys w5 (.slice oa0 x1.out.length oc0) X.out := by rw [e1]; exact hL1.ls.so.choose_spec.choose_spec.2.1
      have q3 : Bys w5 (.slice va2 SX.b.length vc2) SX.b := Bys.of_owns r2
      have q4 : Bys w5 (.slice va1 S1.b.length vc1) SX.b := by rw [e3]; exact Bys.of_owns k2
      have hBz := recv_below w5 (Obj.cells #[.bool X.rd, .bool X.wt, .int .i64 X.mode, .int .i64 X.size, .slice a1 X.out.length a4, .slice a2 X.inn.length a5, .slice a3 X.back.length a6, .int .i64 X.dir, .bool X.fin, .bool X.bad, .bool X.closed] 29)
      have hU : StAt (w5.alloc (Obj.cells #[.bool X.rd, .bool X.wt, .int .i64 X.mode, .int .i64 X.size, .slice a1 X.out.length a4, .slice a2 X.inn.length a5, .slice a3 X.back.length a6, .int .i64 X.dir, .bool X.fin, .bool X.bad, .bool X.closed] 29)) w5.heap.size X (.slice a1 X.out.length a4) (.slice a2 X.inn.length a5) (.slice a3 X.back.length a6) := StAt.new w5 X _ _ _
      have HQ := hide (And.intro (q1.below hBz) (And.intro (q2.below hBz) (And.intro (q3.below hBz) (q4.below hBz))))
      have HL1 := hide (hL1.st.below hBz)
      have HU := hide hU
      have HK1 : Hid (CtB (w5.alloc (Obj.cells #[.bool X.rd, .bool X.wt, .int .i64 X.mode, .int .i64 X.size, .slice a1 X.out.length a4, .slice a2 X.inn.length a5, .slice a3 X.back.length a6, .int .i64 X.dir, .bool X.fin, .bool X.bad, .bool X.closed] 29)) gw (.slice va1 S1.b.length vc1) S1) := hide ((hBz.block _ k1.lt).trans k1)
      have HK2 : Hid (CtB (w5.alloc (Obj.cells #[.bool X.rd, .bool X.wt, .int .i64 X.mode, .int .i64 X.size, .slice a1 X.out.length a4, .slice a2 X.inn.length a5, .slice a3 X.back.length a6, .int .i64 X.dir, .bool X.fin, .bool X.bad, .bool X.closed] 29)) gr (.slice va2 SX.b.length vc2) SX) := hide ((hBz.block _ r1.lt).trans r1)
      have hz5 := s5.size
      have HBz : Hid (Below w.heap.size w (w5.alloc (Obj.cells #[.bool X.rd, .bool X.wt, .int .i64 X.mode, .int .i64 X.size, .slice a1 X.out.length a4, .slice a2 X.inn.length a5, .slice a3 X.back.length a6, .int .i64 X.dir, .bool X.fin, .bool X.bad, .bool X.closed] 29))) := hide ((HBr.out.trans (s5.below (fun k e => Nat.le_trans hBw (HVr.out.l2.ob k e)) HBr.out.size)).trans (hBz.mono (by have := HBr.out.size; omega)))
      have hl9 : X.out.length ≤ maxLen ∧ SX.b.length ≤ maxLen := by
        have h7 := HFw.out.b.small2
        have h8 := HFw.out.bear htl (Nat.le_refl _)
        rw [e1, e3]
        unfold maxLen
        omega
      have HSz := hide hl9
      clear s1 s3 s4 s5 hL1 k1 k2 r1 r2 e1 e2 e3 e4 q1 q2 q3 q4 hU hz5 hl9 HP HVr HBr hBr hBz
      go_upto_region 13 with (first | (go_at_call 9; refine (num15 _ _).mono ?_; rintro _ _ ⟨rfl, rfl⟩) | fail)
      generalize w5.alloc (Obj.cells #[.bool X.rd, .bool X.wt, .int .i64 X.mode, .int .i64 X.size, .slice a1 X.out.length a4, .slice a2 X.inn.length a5, .slice a3 X.back.length a6, .int .i64 X.dir, .bool X.fin, .bool X.bad, .bool X.closed] 29) = w6 at *
      generalize w5.heap.size = gu at *
      have HKp : Hid (∀ W, Below w6.heap.size w6 W → W.cell? ⟨gu, 4, none⟩ = some (.slice a1 X.out.length a4) ∧ W.cell? ⟨gt, 4, none⟩ = some (.slice oa0 x1.out.length oc0) ∧ W.cell? ⟨gw, 0, none⟩ = some (.slice va1 S1.b.length vc1) ∧ W.cell? ⟨gr, 0, none⟩ = some (.slice va2 SX.b.length vc2) ∧ W.cell? ⟨gu, 7, none⟩ = some (.int .i64 X.dir) ∧ W.cell? ⟨gt, 7, none⟩ = some (.int .i64 x1.dir)) := hide (fun W hW => by
        have hk1 : CtB W gw _ S1 := (hW.block _ HK1.out.lt).trans HK1.out
        have hk2 : CtB W gr _ SX := (hW.block _ HK2.out.lt).trans HK2.out
        exact ⟨(HU.out.below hW).cs.2.2.2.2.1, (HL1.out.below hW).cs.2.2.2.2.1, hk1.cs.1, hk2.cs.1, (HU.out.below hW).cs.2.2.2.2.2.2.2.1, (HL1.out.below hW).cs.2.2.2.2.2.2.2.1⟩)
      have hdd : (X.dir != x1.dir) = false := by have := HX.out.2.1; simp [this]
      go_region_held3 (fun W => W.cell? ⟨gu, 4, none⟩ = some (.slice a1 X.out.length a4) ∧ W.cell? ⟨gt, 4, none⟩ = some (.slice oa0 x1.out.length oc0) ∧ W.cell? ⟨gw, 0, none⟩ = some (.slice va1 S1.b.length vc1) ∧ W.cell? ⟨gr, 0, none⟩ = some (.slice va2 SX.b.length vc2) ∧ W.cell? ⟨gu, 7, none⟩ = some (.int .i64 X.dir) ∧ W.cell? ⟨gt, 7, none⟩ = some (.int .i64 x1.dir))
        (first | exact HKp.out _ hb2 | exact HKp.out _ hb1 | exact HKp.out _ (Below.refl _ _).drew | go_keep)
        (first
          | (go_at_call 9; refine (num15 _ _).mono ?_; rintro _ _ ⟨rfl, rfl⟩)
          | (have h7 := hb1; go_at_call 11; refine (same_any _ _ SX.b w7 (HQ.out.2.2.2.below hb1) (HQ.out.2.2.1.below hb1) HSz.out.2).mono ?_; rintro _ w8 ⟨rfl, hB8⟩; have hb2 : Below w6.heap.size w6 w8 := hb1.trans (hB8.mono hb1.size))
          | (go_at_call 11; refine (same_any _ _ X.out w6.drew (HQ.out.1.below (Below.refl _ _).drew) (HQ.out.2.1.below (Below.refl _ _).drew) HSz.out.1).mono ?_; rintro _ w7 ⟨rfl, hB7⟩; have hb1 : Below w6.heap.size w6 w7 := (Below.refl _ w6).drew.trans hB7)
          | fail)
      have hk1 : CtB w8 gw _ S1 := (hb2.block _ HK1.out.lt).trans HK1.out
      have hk2 : CtB w8 gr _ SX := (hb2.block _ HK2.out.lt).trans HK2.out
      have n1 := hk1.cs.2.2.2
      have n2 := hk2.cs.2.2.2
      have HBf := hide (HBz.out.trans (hb2.mono HBz.out.size))
      clear hk1 hk2 hdd h7 hB7 hB8
      by_cases hm : mode = 1
      · have hb : (mode == 1) = true := by simp [hm]
        have hq : SX.wr = min 1 t.length := by have := HX.out.2.2.2; rwa [if_pos (show (xW mode size).mode = 1 from hm)] at this
        have HQ9 := hide hq
        clear hm hq
        go_wp2
        go_ret
        refine ⟨ret_true ?_, HBf.out⟩
        have := HQ9.out
        simp only [beq_iff_eq]
        omega
      · have hb : (mode == 1) = false := by simp [hm]
        have hq : SX.wr = S1.wr := by have := HX.out.2.2.2; rwa [if_neg (show ¬ (xW mode size).mode = 1 from hm)] at this
        have HQ9 := hide hq
        clear hm hq
        go_wp2
        go_quiet (fail)
        go_wp2
        go_ret
        refine ⟨ret_true ?_, below_drewN HBf.out _⟩
        rw [HQ9.out]
        simp
    obtain ⟨gq, rfl⟩ : ∃ gq, gk = gq + 1 := ⟨gk - 1, by omega⟩
    have hk1 : (0 : Int) ≤ (k : Int) := by omega
    have hk2 : (k : Int) < (t.length : Int) := by omega
    obtain ⟨-, qb, qo, rfl, hqb, hcell⟩ := bys_block HBy.out (by omega)
    have HBx := hide (fun (W : World) (hW : Below w.heap.size w W) => (hW.cell (World.block_lt_of_cell? w _ (hcell k hlt))).trans (hcell k hlt))
    have d0 := HBx.out wr HBr.out
    obtain ⟨t1, t2⟩ := HFw.out.put hlt
    generalize t.getD k 0 = ch at *
    have HVd := hide (HVr.out.below (fun s => ct_o gw s) (fun s => ct_o gr s) (Below.refl _ wr).drew)
    have hp := sPut_any (ct_raw gw) (fun s => ct_o gw s) ct_bears ch HVd.out.l1.ls HVd.out.l1.raw HVd.out.l1.ol (HFw.out.bear htl (by omega)) (by have := HFw.out.b.small2; omega) (by rw [HFw.out.b.inn]; decide) (by rw [HFw.out.b.back]; decide)
    generalize x1.put ctD S1 ch = X at *
    obtain ⟨x1', e', S1'⟩ := X
    simp only at hp t1 t2
    subst t1
    have HP := hide hp
    have HF2 := hide t2
    obtain ⟨m0, m1', m2', m3', m4', m5', m6', m7', m8', m9', m10'⟩ := HVr.out.l1.st.cs
    clear hp t2 hcell hqb
    go_wp2_with fail
    go_region_law (first | (go_simp; go_at_call 12; refine HP.out.mono ?_; rintro _ w5' ⟨o', i', b'', rfl, hS⟩; obtain ⟨a1, k1, rfl, -⟩ := hS.choose_spec.1.so; obtain ⟨a2, k2, rfl, -⟩ := hS.choose_spec.1.si; obtain ⟨a3, k3, rfl, -⟩ := hS.choose_spec.1.sb; obtain ⟨hst, -, hv, ht⟩ := V2.step (fun s => ct_o gw s) (fun s => ct_o gr s) HVd.out hBr hS; have HV6 := hide hv; have HT6 := hide ht; obtain ⟨p0, p1, p2, p3, p4, p5, p6, p7, p8, p9, p10⟩ := hst.cs; have f0 := hst.soft 0; have f1 := hst.soft 1; have f2 := hst.soft 2; have f3 := hst.soft 3; have f4 := hst.soft 4; have f5 := hst.soft 5; have f6 := hst.soft 6; have f7 := hst.soft 7; have f8 := hst.soft 8; have f9 := hst.soft 9; have f10 := hst.soft 10; clear hst hv ht hS) | fail)
    all_goals
      unfold filled at HV6 HT6
      clear p0 p1 p2 p3 p4 p5 p6 p7 p8 p9 p10 f0 f1 f2 f3 f4 f5 f6 f7 f8 f9 f10 m0 m1' m2' m3' m4' m5' m6' m7' m8' m9' m10' d0 HP HVd HVr
      generalize (((((((((((w5'.setCell ⟨gt, 0, none⟩ (.bool x1'.rd)).setCell ⟨gt, 1, none⟩ (.bool x1'.wt)).setCell ⟨gt, 2, none⟩ (.int .i64 x1'.mode)).setCell ⟨gt, 3, none⟩ (.int .i64 x1'.size)).setCell ⟨gt, 4, none⟩ (.slice a1 x1'.out.length k1)).setCell ⟨gt, 5, none⟩ (.slice a2 x1'.inn.length k2)).setCell ⟨gt, 6, none⟩ (.slice a3 x1'.back.length k3)).setCell ⟨gt, 7, none⟩ (.int .i64 x1'.dir)).setCell ⟨gt, 8, none⟩ (.bool x1'.fin)).setCell ⟨gt, 9, none⟩ (.bool x1'.bad)).setCell ⟨gt, 10, none⟩ (.bool x1'.closed)) = w8 at *
      have HB8 : Hid (Below w.heap.size w w8) := hide ((HBr.out.trans ((Below.refl _ _).drew.mono HBr.out.size)).trans ((HT6.out.below (fun k e => e) hBr).mono hBw))
      have hB8 : B ≤ w8.heap.size := by have h9 : wr.drew.heap.size ≤ w8.heap.size := HT6.out.size; have h10 : wr.drew.heap.size = wr.heap.size := rfl; omega
      obtain ⟨O1', hv8⟩ := HV6.out
      have HV8 := hide hv8
      clear hv8 HV6 HT6
      go_wp2
      go_roundg gq
      case measure => omega
      case rel => exact ⟨k + 1, x1', S1', _, _, _, _, _, by omega, by go_num, HV8, HF2, HB8, hB8⟩
theorem lbytes_fr (ta : Option Addr) (tn tc : Nat) (t : List UInt8) (mode size : Int) (w : World) (hX : Bys w (.slice ta tn tc) t) (hc : t.length ≤ tc) :
    Calls Try.prog 4 #[.slice ta tn tc, .int .i64 mode, .int .i64 size] w fun e w' => e = .returned (.bool true) ∧ Below w.heap.size w w' := by
  obtain ⟨_, _, e, -⟩ := bys_form hX
  cases e
  exact lbytes_any ta tc t mode size w hX hc
end Go.Proofs.Ytmogciopaffccaa

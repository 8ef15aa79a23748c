/- StreamFew: the walk. -/
import Derived.Test.YtbffnamdpmjfnaaStAl
import Derived.Test.YtbffnamdpmjfnaaStFewP
import Derived.Test.YtbffnamdpmjfnaaStPr
import Derived.Deep.LoopGhost
import Derived.Deep.RegionLaw
namespace Go.Proofs.Ytbffnamdpmjfnaa
open Go.RowKit

set_option maxRecDepth 100000 in
set_option maxHeartbeats 8000000 in
theorem sfew_any (va : Option Addr) (vc : Nat) (b : List UInt8) (size : Int) (w : World) (hb : Bys w (.slice va b.length vc) b) (hc : b.length ≤ vc) (hl : b.length ≤ 140737488351232) :
    Calls Try.prog 4 #[.slice va b.length vc, .int .i64 size] w fun e w' => e = .returned (.bool true) ∧ Below w.heap.size w w' := by
  have HBy := hide hb
  clear hb
  go_enter Try.func4, Try.ntmps4
  go_wp2_with fail
  refine (salive_any _).mono ?_
  rintro _ w1 ⟨rfl, hB1⟩
  have HB1 := hide hB1
  have hN := fun W => sNew_any moW 3 size W
  have hM := fun W => sNew_any moR 3 size W
  rw [new_W, if_pos (by decide)] at hN
  rw [new_R, if_pos (by decide)] at hM
  unfold mv at hN hM
  clear hB1
  by_cases hs : 1 ≤ size ∧ size ≤ 65536
  case neg =>
    rw [if_neg hs] at hN hM
    simp only at hN hM
    have HN := hide hN
    have HM := hide hM
    clear hN hM
    go_wp2_with fail
    refine (HN.out _).mono ?_
    rintro _ w2 ⟨rfl, hB2⟩
    have HB2 := hide (HB1.out.trans (hB2.mono HB1.out.size))
    clear hB2
    go_wp2_with fail
    refine (HM.out _).mono ?_
    rintro _ w3 ⟨rfl, hB3⟩
    have hz2 := (recv_below w2 (Obj.cells #[.bool ss0.rd, .bool ss0.wt, .int .i64 ss0.mode, .int .i64 ss0.size, .slice none 0 0, .slice none 0 0, .slice none 0 0, .int .i64 ss0.dir, .bool ss0.fin, .bool ss0.bad, .bool ss0.closed] 30)).size
    have HB3 := hide (HB2.out.trans (((recv_below w2 _).trans (hB3.mono hz2)).mono HB2.out.size))
    clear hB3 hz2
    go_wp2_with (first | (go_at_call 8; refine (num_st _ _).mono ?_; rintro _ _ ⟨rfl, rfl⟩) | fail)
    go_ret
    exact ⟨rfl, HB3.out.trans ((recv_below w3 _).mono HB3.out.size)⟩
  rw [if_pos hs] at hN hM
  simp only at hN hM
  have HN := hide hN
  have HM := hide hM
  clear hN hM
  obtain ⟨sz, rfl⟩ : ∃ sz : Nat, size = (sz : Int) := ⟨size.toNat, by omega⟩
  go_wp2_with fail
  refine (HN.out _).mono ?_
  rintro _ w2 ⟨rfl, hB2⟩
  have HB2 := hide (HB1.out.trans (hB2.mono HB1.out.size))
  clear hB2
  go_wp2_with fail
  refine (HM.out _).mono ?_
  rintro _ w3 ⟨rfl, hB3⟩
  have hz2 := (recv_below w2 (Obj.cells #[.bool (xW 3 sz).rd, .bool (xW 3 sz).wt, .int .i64 (xW 3 sz).mode, .int .i64 (xW 3 sz).size, .slice none 0 0, .slice none 0 0, .slice none 0 0, .int .i64 (xW 3 sz).dir, .bool (xW 3 sz).fin, .bool (xW 3 sz).bad, .bool (xW 3 sz).closed] 30)).size
  have hgs : (w2.alloc (Obj.cells #[.bool (xW 3 sz).rd, .bool (xW 3 sz).wt, .int .i64 (xW 3 sz).mode, .int .i64 (xW 3 sz).size, .slice none 0 0, .slice none 0 0, .slice none 0 0, .int .i64 (xW 3 sz).dir, .bool (xW 3 sz).fin, .bool (xW 3 sz).bad, .bool (xW 3 sz).closed] 30)).heap.size = w2.heap.size + 1 := Array.size_push ..
  have HS3 := hide ((StAt.new w2 (xW 3 sz) (.slice none 0 0) (.slice none 0 0) (.slice none 0 0)).below hB3)
  have HB3 := hide (HB2.out.trans (((recv_below w2 _).trans (hB3.mono hz2)).mono HB2.out.size))
  have hz3 := hB3.size
  have hz1 := HB1.out.size
  have hzw2 := HB2.out.size
  clear hB3 HB1 HB2 HN HM
  have HB4 := hide (HB3.out.trans ((recv_below w3 (Obj.cells #[.bool (xR 3 sz).rd, .bool (xR 3 sz).wt, .int .i64 (xR 3 sz).mode, .int .i64 (xR 3 sz).size, .slice none 0 0, .slice none 0 0, .slice none 0 0, .int .i64 (xR 3 sz).dir, .bool (xR 3 sz).fin, .bool (xR 3 sz).bad, .bool (xR 3 sz).closed] 30)).mono HB3.out.size))
  have HS4 := hide (HS3.out.below (recv_below w3 (Obj.cells #[.bool (xR 3 sz).rd, .bool (xR 3 sz).wt, .int .i64 (xR 3 sz).mode, .int .i64 (xR 3 sz).size, .slice none 0 0, .slice none 0 0, .slice none 0 0, .int .i64 (xR 3 sz).dir, .bool (xR 3 sz).fin, .bool (xR 3 sz).bad, .bool (xR 3 sz).closed] 30)))
  have HT4 := hide (StAt.new w3 (xR 3 sz) (.slice none 0 0) (.slice none 0 0) (.slice none 0 0))
  by_cases h5 : 5000 < b.length
  · have h5' : (5000 : Int) < (b.length : Int) := by omega
    have q1 : (5000 : Int) ≤ (vc : Int) := by omega
    go_wp2_with (first | (go_at_call 8; refine (num_st _ _).mono ?_; rintro _ _ ⟨rfl, rfl⟩) | fail)
    obtain ⟨b', hbe⟩ : ∃ b', b' = b.take 5000 := ⟨_, rfl⟩
    have hb5 : b'.length = 5000 := by rw [hbe, List.length_take]; omega
    have HBy' : Hid (Bys w (.slice va b'.length vc) b') := hide (by
      obtain ⟨-, qb, qo, rfl, -⟩ := bys_block HBy.out (by omega)
      have := bys_cut HBy.out 0 5000 vc (by omega)
      rw [List.drop_zero, ← hbe] at this
      rw [hb5]
      exact this)
    have hb6 : b'.length ≤ 5000 := by omega
    have hcap' : b'.length ≤ vc := by omega
    rw [← hb5]
    clear hb5 hbe h5 h5' q1 HBy hc hl
    have HB5 := hide (HB4.out.trans ((recv_below (w3.alloc (Obj.cells #[.bool (xR 3 sz).rd, .bool (xR 3 sz).wt, .int .i64 (xR 3 sz).mode, .int .i64 (xR 3 sz).size, .slice none 0 0, .slice none 0 0, .slice none 0 0, .int .i64 (xR 3 sz).dir, .bool (xR 3 sz).fin, .bool (xR 3 sz).bad, .bool (xR 3 sz).closed] 30)) (Obj.cells #[.slice none 0 0, .int .i64 0, .int .i64 0, .int .i64 0] 45)).mono HB4.out.size))
    have HS5 := hide (HS4.out.below (recv_below (w3.alloc (Obj.cells #[.bool (xR 3 sz).rd, .bool (xR 3 sz).wt, .int .i64 (xR 3 sz).mode, .int .i64 (xR 3 sz).size, .slice none 0 0, .slice none 0 0, .slice none 0 0, .int .i64 (xR 3 sz).dir, .bool (xR 3 sz).fin, .bool (xR 3 sz).bad, .bool (xR 3 sz).closed] 30)) (Obj.cells #[.slice none 0 0, .int .i64 0, .int .i64 0, .int .i64 0] 45)))
    have HT5 := hide (HT4.out.below (recv_below (w3.alloc (Obj.cells #[.bool (xR 3 sz).rd, .bool (xR 3 sz).wt, .int .i64 (xR 3 sz).mode, .int .i64 (xR 3 sz).size, .slice none 0 0, .slice none 0 0, .slice none 0 0, .int .i64 (xR 3 sz).dir, .bool (xR 3 sz).fin, .bool (xR 3 sz).bad, .bool (xR 3 sz).closed] 30)) (Obj.cells #[.slice none 0 0, .int .i64 0, .int .i64 0, .int .i64 0] 45)))
    have hz4 : (w3.alloc (Obj.cells #[.bool (xR 3 sz).rd, .bool (xR 3 sz).wt, .int .i64 (xR 3 sz).mode, .int .i64 (xR 3 sz).size, .slice none 0 0, .slice none 0 0, .slice none 0 0, .int .i64 (xR 3 sz).dir, .bool (xR 3 sz).fin, .bool (xR 3 sz).bad, .bool (xR 3 sz).closed] 30)).heap.size = w3.heap.size + 1 := Array.size_push ..
    have HC5 : Hid (CtB ((w3.alloc (Obj.cells #[.bool (xR 3 sz).rd, .bool (xR 3 sz).wt, .int .i64 (xR 3 sz).mode, .int .i64 (xR 3 sz).size, .slice none 0 0, .slice none 0 0, .slice none 0 0, .int .i64 (xR 3 sz).dir, .bool (xR 3 sz).fin, .bool (xR 3 sz).bad, .bool (xR 3 sz).closed] 30)).alloc (Obj.cells #[.slice none 0 0, .int .i64 0, .int .i64 0, .int .i64 0] 45)) (w3.heap.size + 1) (.slice none 0 0) ⟨[], 0, 0, 0⟩) := hide (by have := heap_alloc_new (w3.alloc (Obj.cells #[.bool (xR 3 sz).rd, .bool (xR 3 sz).wt, .int .i64 (xR 3 sz).mode, .int .i64 (xR 3 sz).size, .slice none 0 0, .slice none 0 0, .slice none 0 0, .int .i64 (xR 3 sz).dir, .bool (xR 3 sz).fin, .bool (xR 3 sz).bad, .bool (xR 3 sz).closed] 30)) (Obj.cells #[.slice none 0 0, .int .i64 0, .int .i64 0, .int .i64 0] 45); rw [hz4] at this; exact this)
    generalize (w3.alloc (Obj.cells #[.bool (xR 3 sz).rd, .bool (xR 3 sz).wt, .int .i64 (xR 3 sz).mode, .int .i64 (xR 3 sz).size, .slice none 0 0, .slice none 0 0, .slice none 0 0, .int .i64 (xR 3 sz).dir, .bool (xR 3 sz).fin, .bool (xR 3 sz).bad, .bool (xR 3 sz).closed] 30)).alloc (Obj.cells #[.slice none 0 0, .int .i64 0, .int .i64 0, .int .i64 0] 45) = w5 at *
    refine (copy_any _ b' w5 (HBy'.out.below HB5.out) (by omega)).mono ?_
    rintro _ w6 ⟨v6, rfl, hO6, hB6⟩
    obtain ⟨a6, k6, rfl⟩ := owns_slice hO6
    have HS6 := hide (HS5.out.below hB6)
    have HT6 := hide (HT5.out.below hB6)
    have HC6 : Hid (CtB w6 (w3.heap.size + 1) (.slice none 0 0) ⟨[], 0, 0, 0⟩) := hide ((hB6.block _ HC5.out.lt).trans HC5.out)
    have HO6 := hide hO6
    have HB6 := hide (HB5.out.trans (hB6.mono HB5.out.size))
    have hc5 := HC5.out.lt
    have hz6 := hB6.size
    clear hO6 hB6 HS3 HS4 HT4 HB3 HB4 HS5 HT5 HB5 HC5 hz4
    go_wp2_with fail
    have HB7 := hide (HB6.out.trans ((recv_below w6 (Obj.cells #[.slice a6 b'.length k6, .int .i64 0, .int .i64 0, .int .i64 0] 45)).mono HB6.out.size))
    have HC7 : Hid (CtB (w6.alloc (Obj.cells #[.slice a6 b'.length k6, .int .i64 0, .int .i64 0, .int .i64 0] 45)) w6.heap.size (.slice a6 b'.length k6) ⟨b', 0, 0, 0⟩) := hide (heap_alloc_new w6 (Obj.cells #[.slice a6 b'.length k6, .int .i64 0, .int .i64 0, .int .i64 0] 45))
    have HS7 := hide (HS6.out.below (recv_below w6 (Obj.cells #[.slice a6 b'.length k6, .int .i64 0, .int .i64 0, .int .i64 0] 45)))
    have HT7 := hide (HT6.out.below (recv_below w6 (Obj.cells #[.slice a6 b'.length k6, .int .i64 0, .int .i64 0, .int .i64 0] 45)))
    have HW7 : Hid (CtB (w6.alloc (Obj.cells #[.slice a6 b'.length k6, .int .i64 0, .int .i64 0, .int .i64 0] 45)) (w3.heap.size + 1) (.slice none 0 0) ⟨[], 0, 0, 0⟩) := hide (((recv_below w6 (Obj.cells #[.slice a6 b'.length k6, .int .i64 0, .int .i64 0, .int .i64 0] 45)).block _ HC6.out.lt).trans HC6.out)
    have HO7 := hide (owns_below HO6.out (recv_below w6 (Obj.cells #[.slice a6 b'.length k6, .int .i64 0, .int .i64 0, .int .i64 0] 45)))
    generalize w6.alloc (Obj.cells #[.slice a6 b'.length k6, .int .i64 0, .int .i64 0, .int .i64 0] 45) = w7 at *
    obtain ⟨gw, hgw⟩ : ∃ gw, gw = w3.heap.size + 1 := ⟨_, rfl⟩
    obtain ⟨B, hBq⟩ : ∃ B, B = w2.heap.size := ⟨_, rfl⟩
    have hno : ∀ k, (Value.slice none 0 0).ownBlock = some k → False := fun k e => by simp [Value.ownBlock] at e
    have hlt6 : ∀ k, (Value.slice a6 b'.length k6).ownBlock = some k → w5.heap.size ≤ k ∧ k < w6.heap.size := fun k e => ⟨(HO6.out.lt k e).1, (HO6.out.lt k e).2⟩
    have hc7 := HC7.out.lt
    have HV : Hid (V2 (CtAt gw) (CtAt w6.heap.size) w7 B w2.heap.size (fun k => k = gw) (xW 3 sz) ⟨[], 0, 0, 0⟩ (.slice none 0 0) (.slice none 0 0) (.slice none 0 0) w3.heap.size (fun k => k = w6.heap.size ∨ (Value.slice a6 b'.length k6).ownBlock = some k) (xR 3 sz) ⟨b', 0, 0, 0⟩ (.slice none 0 0) (.slice none 0 0) (.slice none 0 0)) := hide (by
      refine ⟨⟨HS7.out, SIn.nils rfl rfl rfl, ⟨_, by rw [hgw]; exact HW7.out, World.ownsRow_nil _ _ _ _, fun k e => (hno k e).elim, rfl, Nat.le_refl _, by simp⟩, fun j e => by have e2 : j = gw := e; omega, fun j e => by have e2 : j = gw := e; omega, fun e => by have e2 : w2.heap.size = gw := e; omega, by omega⟩,
        ⟨HT7.out, SIn.nils rfl rfl rfl, ⟨_, HC7.out, owns_mono HO7.out (Nat.zero_le _), fun k e => ⟨.inr e, by have := hlt6 k e; omega⟩, .inl rfl, Nat.zero_le _, by show b'.length ≤ _; omega⟩, fun j e => ?_, fun j e => ?_, fun e => ?_, by omega⟩, fun k e e' => ?_⟩
      · rcases e with e | e
        · omega
        · have := hlt6 j e; omega
      · rcases e with e | e
        · omega
        · have := hlt6 j e; omega
      · rcases e with e | e
        · omega
        · have := hlt6 _ e; omega
      · have e1 : k = w2.heap.size ∨ k = gw := by
          rcases e with e | e | e | e | e
          · exact .inl e
          · exact .inr e
          · exact (hno k e).elim
          · exact (hno k e).elim
          · exact (hno k e).elim
        rcases e' with e' | e' | e' | e' | e'
        · omega
        · rcases e' with e' | e'
          · omega
          · have := hlt6 k e'; omega
        · exact hno k e'
        · exact hno k e'
        · exact hno k e')
    have HFw : Hid (FwW (xW 3 sz) ⟨[], 0, 0, 0⟩ (b'.take 0) sz ∧ FwR (xR 3 sz) ⟨b', 0, 0, 0⟩ b' 0 sz) := hide ⟨⟨rfl, rfl, rfl, by omega, by omega, by show 0 < sz; omega, rfl, rfl, rfl, .inr ⟨rfl, rfl⟩, rfl, by simp [xW], rfl⟩, ⟨rfl, rfl, rfl, by omega, by omega, rfl, rfl, rfl, rfl, .inr ⟨rfl, rfl⟩, rfl, rfl, rfl, by simp, .inl rfl, rfl⟩⟩
    have hBw : w.heap.size ≤ B := by omega
    have hB7 : B ≤ w7.heap.size := by omega
    rw [← hgw]
    generalize hgr : w6.heap.size = gr at *
    generalize hgt : w3.heap.size = gt at *
    generalize hgs : w2.heap.size = gs at *
    clear hno hlt6 HS6 HT6 HC6 HO6 HB6 HC7 HS7 HT7 HW7 HO7 hgr hgt hgs hgw hBq hc5 hc7 hz6 hz3 hz2 hz1 hzw2
    go_loopg [12] b'.length (fun gq s12 wx => ∃ (k : Nat) (x1 x2 : SS) (S1 S2 : CtS) (o1 i1 c1 o2 i2 c2 : Value) (O1 O2 : Nat → Prop), k + gq = b'.length ∧ s12 = .int .i64 k ∧ Hid (V2 (CtAt gw) (CtAt gr) wx B gs O1 x1 S1 o1 i1 c1 gt O2 x2 S2 o2 i2 c2) ∧ Hid (FwW x1 S1 (b'.take k) sz ∧ FwR x2 S2 b' k sz) ∧ Hid (Below w.heap.size w wx) ∧ B ≤ wx.heap.size)
    case atStart => exact ⟨0, _, _, _, _, _, _, _, _, _, _, _, _, by omega, rfl, HV, HFw, HB7, hB7⟩
    case round =>
      clear HV HFw HB7 hB7
      obtain ⟨k, x1, x2, S1, S2, o1, i1, c1, o2, i2, c2, O1, O2, hkg, rfl, HVr, HFr, HBr, hBr⟩ := hrel
      by_cases hlt : k < b'.length
      case neg =>
        obtain rfl : k = b'.length := by omega
        have hlt' : ¬ (b'.length : Int) < (b'.length : Int) := by omega
        have hcl := fw_close HFr.out.1
        have htl : (b'.take b'.length).length ≤ 5000 := by rw [List.length_take]; omega
        have hp := sClose_any (ct_raw gw) (fun s => ct_o gw s) ct_bears HVr.out.l1.ls HVr.out.l1.raw HVr.out.l1.ol (HFr.out.1.bear htl) (by have := HFr.out.1.ol; have := HFr.out.1.s2; omega) (by rw [HFr.out.1.inn]; decide) (by rw [HFr.out.1.back]; decide)
        rw [List.take_length] at hcl
        generalize x1.close ctD S1 = X at *
        obtain ⟨x1', e', S1'⟩ := X
        simp only at hp hcl
        obtain ⟨t1, t2, t3⟩ := hcl
        subst t1
        have HP := hide hp
        have HT2 := hide t2
        have HT3 := hide t3
        have HT4 := hide (fr_few HFr.out.2)
        obtain ⟨oa0, oc0, eo, -⟩ := HVr.out.l1.ls.so
        obtain ⟨ia0, ic0, ei, -⟩ := HVr.out.l1.ls.si
        obtain ⟨ba0, bc0, ebk, -⟩ := HVr.out.l1.ls.sb
        subst eo ei ebk
        obtain ⟨m0, m1, m2, m3, m4, m5, m6, m7, m8, m9, m10⟩ := HVr.out.l1.st.cs
        clear hp t2 t3 htl
        go_wp2_with fail
        refine HP.out.mono ?_
        rintro _ w5' ⟨o', i', b'', rfl, hS⟩
        obtain ⟨O', s1, s2, s3, s4, s5⟩ := hS
        obtain ⟨a1, k1, rfl, -⟩ := s1.so
        obtain ⟨a2, k2, rfl, -⟩ := s1.si
        obtain ⟨a3, k3, rfl, -⟩ := s1.sb
        have hl2 := HVr.out.l2.turned (fun s => ct_o gr s) s5 (fun k e e' => HVr.out.dj k (.inr (.inl e')) e)
        have HBz : Hid (Below w.heap.size w w5') := hide (HBr.out.trans (s5.below (fun k e => Nat.le_trans hBw (HVr.out.l1.ob k e)) HBr.out.size))
        obtain ⟨v1, y1, y2, -⟩ := s2
        obtain ⟨v2, y3, -⟩ := hl2.raw
        obtain ⟨z0, -, -, z3⟩ := y1.cs
        obtain ⟨-, -, z2, -⟩ := y3.cs
        rw [HT2.out] at y2
        have HSB := hide (Bys.of_owns y2)
        have HSm := hide (same_any v1 (.slice va b'.length vc) b' w5' (Bys.of_owns y2) (HBy'.out.below HBz.out) (by unfold maxLen; omega))
        obtain ⟨va1, vc1, rfl⟩ := owns_slice y2
        have HK := hide (fun (W : World) (hW : Below w5'.heap.size w5' W) => (show W.cell? ⟨gw, 3, none⟩ = some (.int .i64 S1'.wr) ∧ W.cell? ⟨gr, 2, none⟩ = some (.int .i64 S2.rd) from ⟨(hW.cell y1.lt).trans z3, (hW.cell y3.lt).trans z2⟩))
        clear s1 s3 s4 s5 hl2 y1 y2 y3 m0 m1 m2 m3 m4 m5 m6 m7 m8 m9 m10
        obtain ⟨F1, F3⟩ := few_le b'.length sz S1'.wr hb6 HT3.out
        obtain ⟨F2, F4⟩ := few_le b'.length sz S2.rd hb6 HT4.out
        have hzN : ¬ sz = 0 := by omega
        have hzM : (sz == 0) = false := by simp only [beq_eq_false_iff_ne]; exact hzN
        have hz0 : ¬ (sz : Int) = 0 := by omega
        have hz9 : ((sz : Int) == 0) = false := by simp only [beq_eq_false_iff_ne]; exact hz0
        have HKa := hide (fun (W : World) (hW : Below w5'.heap.size w5' W) => (show W.cell? ⟨gw, 0, none⟩ = some (.slice va1 b'.length vc1) ∧ W.cell? ⟨gw, 3, none⟩ = some (.int .i64 S1'.wr) ∧ W.cell? ⟨gr, 2, none⟩ = some (.int .i64 S2.rd) from ⟨(hW.cell (World.block_lt_of_cell? w5' _ z0)).trans z0, HK.out W hW⟩))
        have HSd := hide (same_any (.slice va1 b'.length vc1) (.slice va b'.length vc) b' w5'.drew (HSB.out.below (Below.refl _ _).drew) ((HBy'.out.below HBz.out).below (Below.refl _ _).drew) (by unfold maxLen; omega))
        clear z0 z2 z3 HSm
        go_wp2_with fail
        go_region_held3 (fun W => W.cell? ⟨gw, 0, none⟩ = some (.slice va1 b'.length vc1) ∧ W.cell? ⟨gw, 3, none⟩ = some (.int .i64 S1'.wr) ∧ W.cell? ⟨gr, 2, none⟩ = some (.int .i64 S2.rd)) (first | exact HKa.out _ HB6.out | exact HKa.out _ (Below.refl _ _).drew) (first
          | (go_at_call 12; refine HSd.out.mono ?_; rintro _ w6' ⟨rfl, hB6'⟩; have HB6 : Hid (Below w5'.heap.size w5' w6') := hide ((Below.refl _ w5').drew.trans hB6'); clear hB6')
          | (go_at_call 8; refine (num_st _ _).mono ?_; rintro _ _ ⟨rfl, rfl⟩) | fail)
        go_wp2
        go_ret
        exact ⟨rfl, HBz.out.trans (HB6.out.mono HBz.out.size)⟩
      obtain ⟨gq, rfl⟩ : ∃ gq, gk = gq + 1 := ⟨gk - 1, by omega⟩
      have hk1 : (0 : Int) ≤ (k : Int) := by omega
      have hk2 : (k : Int) < (b'.length : Int) := by omega
      obtain ⟨-, qb, qo, rfl, hqb, hcell⟩ := bys_block HBy'.out (by omega)
      have HBx := hide (fun (W : World) (hW : Below w.heap.size w W) => (hW.cell (World.block_lt_of_cell? w _ (hcell k hlt))).trans (hcell k hlt))
      have d0 := HBx.out wr HBr.out
      have hch : ∃ ch, ch = b'.getD k 0 := ⟨_, rfl⟩
      obtain ⟨ch, hch⟩ := hch
      rw [← hch] at d0 HBx
      have HCh := hide hch
      have HVd := hide (HVr.out.below (fun s => ct_o gw s) (fun s => ct_o gr s) (Below.refl _ wr).drew)
      obtain ⟨t1, t2⟩ := fw_put HFr.out.1 ch
      have htl : (b'.take k).length ≤ 5000 := by rw [List.length_take]; omega
      have hp := sPut_any (ct_raw gw) (fun s => ct_o gw s) ct_bears ch HVd.out.l1.ls HVd.out.l1.raw HVd.out.l1.ol (HFr.out.1.bear htl) (by have := HFr.out.1.ol; have := HFr.out.1.s2; omega) (by rw [HFr.out.1.inn]; decide) (by rw [HFr.out.1.back]; decide)
      generalize x1.put ctD S1 ch = X at *
      obtain ⟨x1', e', S1'⟩ := X
      simp only at hp t1 t2
      subst t1
      have HP := hide hp
      have HF2 : Hid (FwW x1' S1' (b'.take (k + 1)) sz) := hide (by rw [take_more b' k hlt, ← HCh.out]; exact t2)
      obtain ⟨oa0, oc0, eo, -⟩ := HVr.out.l1.ls.so
      obtain ⟨ia0, ic0, ei, -⟩ := HVr.out.l1.ls.si
      obtain ⟨ba0, bc0, ebk, -⟩ := HVr.out.l1.ls.sb
      subst eo ei ebk
      obtain ⟨m0, m1, m2, m3, m4, m5, m6, m7, m8, m9, m10⟩ := HVr.out.l1.st.cs
      clear hp t2 htl hcell hch hqb
      go_wp2_with fail
      go_region_law (first | (go_simp; go_at_call 9; refine HP.out.mono ?_; rintro _ w5' ⟨o', i', b'', rfl, hS⟩; obtain ⟨a1, k1, rfl, -⟩ := hS.choose_spec.1.so; obtain ⟨a2, k2, rfl, -⟩ := hS.choose_spec.1.si; obtain ⟨a3, k3, rfl, -⟩ := hS.choose_spec.1.sb; obtain ⟨hst, -, hv, ht⟩ := V2.step (fun s => ct_o gw s) (fun s => ct_o gr s) HVd.out hBr hS; have HV6 := hide hv; have HT6 := hide ht; obtain ⟨p0, p1, p2, p3, p4, p5, p6, p7, p8, p9, p10⟩ := hst.cs; have f0 := hst.soft 0; have f1 := hst.soft 1; have f2 := hst.soft 2; have f3 := hst.soft 3; have f4 := hst.soft 4; have f5 := hst.soft 5; have f6 := hst.soft 6; have f7 := hst.soft 7; have f8 := hst.soft 8; have f9 := hst.soft 9; have f10 := hst.soft 10; clear hst hv ht hS) | fail)
      all_goals
        unfold filled at HV6 HT6
        clear p0 p1 p2 p3 p4 p5 p6 p7 p8 p9 p10 f0 f1 f2 f3 f4 f5 f6 f7 f8 f9 f10 m0 m1 m2 m3 m4 m5 m6 m7 m8 m9 m10 d0 HP HVd HVr
        generalize (((((((((((w5'.setCell ⟨gs, 0, none⟩ (.bool x1'.rd)).setCell ⟨gs, 1, none⟩ (.bool x1'.wt)).setCell ⟨gs, 2, none⟩ (.int .i64 x1'.mode)).setCell ⟨gs, 3, none⟩ (.int .i64 x1'.size)).setCell ⟨gs, 4, none⟩ (.slice a1 x1'.out.length k1)).setCell ⟨gs, 5, none⟩ (.slice a2 x1'.inn.length k2)).setCell ⟨gs, 6, none⟩ (.slice a3 x1'.back.length k3)).setCell ⟨gs, 7, none⟩ (.int .i64 x1'.dir)).setCell ⟨gs, 8, none⟩ (.bool x1'.fin)).setCell ⟨gs, 9, none⟩ (.bool x1'.bad)).setCell ⟨gs, 10, none⟩ (.bool x1'.closed)) = w8 at *
        have HB8 : Hid (Below w.heap.size w w8) := hide ((HBr.out.trans ((Below.refl _ _).drew.mono HBr.out.size)).trans ((HT6.out.below (fun k e => e) hBr).mono hBw))
        have hB8 : B ≤ w8.heap.size := by have h9 : wr.drew.heap.size ≤ w8.heap.size := HT6.out.size; have h10 : wr.drew.heap.size = wr.heap.size := rfl; omega
        obtain ⟨O1', hv8⟩ := HV6.out
        have HV8 := hide hv8.swap
        have hg := sGet_any (ct_raw gr) (fun s => ct_o gr s) ct_bears hv8.l2.ls hv8.l2.raw hv8.l2.ol (HFr.out.2.bear hb6 (by omega)) (by rw [HFr.out.2.out]; decide) (by have := HFr.out.2.short; have := HFr.out.2.s2; omega) (by rw [HFr.out.2.back]; decide)
        obtain ⟨u1, u2, u3⟩ := fr_get HFr.out.2 hlt
        rw [← HCh.out] at u2
        generalize x2.get ctD S2 = X at *
        obtain ⟨x2', cc, e2, S2'⟩ := X
        simp only at hg u1 u2 u3
        subst u1 u2
        have HG := hide hg
        have HF3 := hide u3
        obtain ⟨oa1, oc1, eo, -⟩ := hv8.l2.ls.so
        obtain ⟨ia1, ic1, ei, -⟩ := hv8.l2.ls.si
        obtain ⟨ba1, bc1, ebk, -⟩ := hv8.l2.ls.sb
        subst eo ei ebk
        obtain ⟨m0, m1, m2, m3, m4, m5, m6, m7, m8, m9, m10⟩ := hv8.l2.st.cs
        clear hg u3 hv8 HV6 HT6
        go_wp2_with (first | (go_at_call 8; refine (num_st _ _).mono ?_; rintro _ _ ⟨rfl, rfl⟩) | fail)
        refine HG.out.mono ?_
        rintro _ w9 ⟨o', i', b'', rfl, hS⟩
        obtain ⟨a4, k4, rfl, -⟩ := hS.choose_spec.1.so
        obtain ⟨a5, k5, rfl, -⟩ := hS.choose_spec.1.si
        obtain ⟨a6', k6', rfl, -⟩ := hS.choose_spec.1.sb
        obtain ⟨hst, -, hv, ht⟩ := V2.step (fun s => ct_o gr s) (fun s => ct_o gw s) HV8.out hB8 hS
        have HV9 := hide hv
        have HT9 := hide ht
        clear m0 m1 m2 m3 m4 m5 m6 m7 m8 m9 m10
        obtain ⟨p0, p1, p2, p3, p4, p5, p6, p7, p8, p9, p10⟩ := hst.cs
        have f0 := hst.soft 0
        have f1 := hst.soft 1
        have f2 := hst.soft 2
        have f3 := hst.soft 3
        have f4 := hst.soft 4
        have f5 := hst.soft 5
        have f6 := hst.soft 6
        have f7 := hst.soft 7
        have f8 := hst.soft 8
        have f9 := hst.soft 9
        have f10 := hst.soft 10
        unfold filled at HV9 HT9
        have HB9 : Hid (Below w.heap.size w ((((((((((((w9.setCell ⟨gt, 0, none⟩ (.bool x2'.rd)).setCell ⟨gt, 1, none⟩ (.bool x2'.wt)).setCell ⟨gt, 2, none⟩ (.int .i64 x2'.mode)).setCell ⟨gt, 3, none⟩ (.int .i64 x2'.size)).setCell ⟨gt, 4, none⟩ (.slice a4 x2'.out.length k4)).setCell ⟨gt, 5, none⟩ (.slice a5 x2'.inn.length k5)).setCell ⟨gt, 6, none⟩ (.slice a6' x2'.back.length k6')).setCell ⟨gt, 7, none⟩ (.int .i64 x2'.dir)).setCell ⟨gt, 8, none⟩ (.bool x2'.fin)).setCell ⟨gt, 9, none⟩ (.bool x2'.bad)).setCell ⟨gt, 10, none⟩ (.bool x2'.closed)))) := hide (HB8.out.trans ((HT9.out.below (fun k e => e) hB8).mono hBw))
        have d9 := HBx.out _ HB9.out
        clear hst hv ht hS HG HV8
        go_wp2_with (first | (go_at_call 8; refine (num_st _ _).mono ?_; rintro _ _ ⟨rfl, rfl⟩) | fail)
        obtain ⟨O2', hv9⟩ := HV9.out
        have HVn := hide hv9.swap
        have hBn : B ≤ ((((((((((((w9.setCell ⟨gt, 0, none⟩ (.bool x2'.rd)).setCell ⟨gt, 1, none⟩ (.bool x2'.wt)).setCell ⟨gt, 2, none⟩ (.int .i64 x2'.mode)).setCell ⟨gt, 3, none⟩ (.int .i64 x2'.size)).setCell ⟨gt, 4, none⟩ (.slice a4 x2'.out.length k4)).setCell ⟨gt, 5, none⟩ (.slice a5 x2'.inn.length k5)).setCell ⟨gt, 6, none⟩ (.slice a6' x2'.back.length k6')).setCell ⟨gt, 7, none⟩ (.int .i64 x2'.dir)).setCell ⟨gt, 8, none⟩ (.bool x2'.fin)).setCell ⟨gt, 9, none⟩ (.bool x2'.bad)).setCell ⟨gt, 10, none⟩ (.bool x2'.closed))).heap.size := by have := HT9.out.size; omega
        clear hv9 HV9
        go_roundg gq
        case measure => omega
        case rel => exact ⟨k + 1, x1', x2', S1', S2', _, _, _, _, _, _, _, _, by omega, by go_num, HVn, hide ⟨HF2.out, HF3.out⟩, HB9, hBn⟩
  · have h5' : ¬ (5000 : Int) < (b.length : Int) := by omega
    go_wp2_with (first | (go_at_call 8; refine (num_st _ _).mono ?_; rintro _ _ ⟨rfl, rfl⟩) | fail)
    obtain ⟨b', rfl⟩ : ∃ b', b' = b := ⟨_, rfl⟩
    have HBy' := HBy
    have hb6 : b'.length ≤ 5000 := by omega
    have hcap' := hc
    clear h5 h5' HBy hc hl
    have HB5 := hide (HB4.out.trans ((recv_below (w3.alloc (Obj.cells #[.bool (xR 3 sz).rd, .bool (xR 3 sz).wt, .int .i64 (xR 3 sz).mode, .int .i64 (xR 3 sz).size, .slice none 0 0, .slice none 0 0, .slice none 0 0, .int .i64 (xR 3 sz).dir, .bool (xR 3 sz).fin, .bool (xR 3 sz).bad, .bool (xR 3 sz).closed] 30)) (Obj.cells #[.slice none 0 0, .int .i64 0, .int .i64 0, .int .i64 0] 45)).mono HB4.out.size))
    have HS5 := hide (HS4.out.below (recv_below (w3.alloc (Obj.cells #[.bool (xR 3 sz).rd, .bool (xR 3 sz).wt, .int .i64 (xR 3 sz).mode, .int .i64 (xR 3 sz).size, .slice none 0 0, .slice none 0 0, .slice none 0 0, .int .i64 (xR 3 sz).dir, .bool (xR 3 sz).fin, .bool (xR 3 sz).bad, .bool (xR 3 sz).closed] 30)) (Obj.cells #[.slice none 0 0, .int .i64 0, .int .i64 0, .int .i64 0] 45)))
    have HT5 := hide (HT4.out.below (recv_below (w3.alloc (Obj.cells #[.bool (xR 3 sz).rd, .bool (xR 3 sz).wt, .int .i64 (xR 3 sz).mode, .int .i64 (xR 3 sz).size, .slice none 0 0, .slice none 0 0, .slice none 0 0, .int .i64 (xR 3 sz).dir, .bool (xR 3 sz).fin, .bool (xR 3 sz).bad, .bool (xR 3 sz).closed] 30)) (Obj.cells #[.slice none 0 0, .int .i64 0, .int .i64 0, .int .i64 0] 45)))
    have hz4 : (w3.alloc (Obj.cells #[.bool (xR 3 sz).rd, .bool (xR 3 sz).wt, .int .i64 (xR 3 sz).mode, .int .i64 (xR 3 sz).size, .slice none 0 0, .slice none 0 0, .slice none 0 0, .int .i64 (xR 3 sz).dir, .bool (xR 3 sz).fin, .bool (xR 3 sz).bad, .bool (xR 3 sz).closed] 30)).heap.size = w3.heap.size + 1 := Array.size_push ..
    have HC5 : Hid (CtB ((w3.alloc (Obj.cells #[.bool (xR 3 sz).rd, .bool (xR 3 sz).wt, .int .i64 (xR 3 sz).mode, .int .i64 (xR 3 sz).size, .slice none 0 0, .slice none 0 0, .slice none 0 0, .int .i64 (xR 3 sz).dir, .bool (xR 3 sz).fin, .bool (xR 3 sz).bad, .bool (xR 3 sz).closed] 30)).alloc (Obj.cells #[.slice none 0 0, .int .i64 0, .int .i64 0, .int .i64 0] 45)) (w3.heap.size + 1) (.slice none 0 0) ⟨[], 0, 0, 0⟩) := hide (by have := heap_alloc_new (w3.alloc (Obj.cells #[.bool (xR 3 sz).rd, .bool (xR 3 sz).wt, .int .i64 (xR 3 sz).mode, .int .i64 (xR 3 sz).size, .slice none 0 0, .slice none 0 0, .slice none 0 0, .int .i64 (xR 3 sz).dir, .bool (xR 3 sz).fin, .bool (xR 3 sz).bad, .bool (xR 3 sz).closed] 30)) (Obj.cells #[.slice none 0 0, .int .i64 0, .int .i64 0, .int .i64 0] 45); rw [hz4] at this; exact this)
    generalize (w3.alloc (Obj.cells #[.bool (xR 3 sz).rd, .bool (xR 3 sz).wt, .int .i64 (xR 3 sz).mode, .int .i64 (xR 3 sz).size, .slice none 0 0, .slice none 0 0, .slice none 0 0, .int .i64 (xR 3 sz).dir, .bool (xR 3 sz).fin, .bool (xR 3 sz).bad, .bool (xR 3 sz).closed] 30)).alloc (Obj.cells #[.slice none 0 0, .int .i64 0, .int .i64 0, .int .i64 0] 45) = w5 at *
    refine (copy_any _ b' w5 (HBy'.out.below HB5.out) (by omega)).mono ?_
    rintro _ w6 ⟨v6, rfl, hO6, hB6⟩
    obtain ⟨a6, k6, rfl⟩ := owns_slice hO6
    have HS6 := hide (HS5.out.below hB6)
    have HT6 := hide (HT5.out.below hB6)
    have HC6 : Hid (CtB w6 (w3.heap.size + 1) (.slice none 0 0) ⟨[], 0, 0, 0⟩) := hide ((hB6.block _ HC5.out.lt).trans HC5.out)
    have HO6 := hide hO6
    have HB6 := hide (HB5.out.trans (hB6.mono HB5.out.size))
    have hc5 := HC5.out.lt
    have hz6 := hB6.size
    clear hO6 hB6 HS3 HS4 HT4 HB3 HB4 HS5 HT5 HB5 HC5 hz4
    go_wp2_with fail
    have HB7 := hide (HB6.out.trans ((recv_below w6 (Obj.cells #[.slice a6 b'.length k6, .int .i64 0, .int .i64 0, .int .i64 0] 45)).mono HB6.out.size))
    have HC7 : Hid (CtB (w6.alloc (Obj.cells #[.slice a6 b'.length k6, .int .i64 0, .int .i64 0, .int .i64 0] 45)) w6.heap.size (.slice a6 b'.length k6) ⟨b', 0, 0, 0⟩) := hide (heap_alloc_new w6 (Obj.cells #[.slice a6 b'.length k6, .int .i64 0, .int .i64 0, .int .i64 0] 45))
    have HS7 := hide (HS6.out.below (recv_below w6 (Obj.cells #[.slice a6 b'.length k6, .int .i64 0, .int .i64 0, .int .i64 0] 45)))
    have HT7 := hide (HT6.out.below (recv_below w6 (Obj.cells #[.slice a6 b'.length k6, .int .i64 0, .int .i64 0, .int .i64 0] 45)))
    have HW7 : Hid (CtB (w6.alloc (Obj.cells #[.slice a6 b'.length k6, .int .i64 0, .int .i64 0, .int .i64 0] 45)) (w3.heap.size + 1) (.slice none 0 0) ⟨[], 0, 0, 0⟩) := hide (((recv_below w6 (Obj.cells #[.slice a6 b'.length k6, .int .i64 0, .int .i64 0, .int .i64 0] 45)).block _ HC6.out.lt).trans HC6.out)
    have HO7 := hide (owns_below HO6.out (recv_below w6 (Obj.cells #[.slice a6 b'.length k6, .int .i64 0, .int .i64 0, .int .i64 0] 45)))
    generalize w6.alloc (Obj.cells #[.slice a6 b'.length k6, .int .i64 0, .int .i64 0, .int .i64 0] 45) = w7 at *
    obtain ⟨gw, hgw⟩ : ∃ gw, gw = w3.heap.size + 1 := ⟨_, rfl⟩
    obtain ⟨B, hBq⟩ : ∃ B, B = w2.heap.size := ⟨_, rfl⟩
    have hno : ∀ k, (Value.slice none 0 0).ownBlock = some k → False := fun k e => by simp [Value.ownBlock] at e
    have hlt6 : ∀ k, (Value.slice a6 b'.length k6).ownBlock = some k → w5.heap.size ≤ k ∧ k < w6.heap.size := fun k e => ⟨(HO6.out.lt k e).1, (HO6.out.lt k e).2⟩
    have hc7 := HC7.out.lt
    have HV : Hid (V2 (CtAt gw) (CtAt w6.heap.size) w7 B w2.heap.size (fun k => k = gw) (xW 3 sz) ⟨[], 0, 0, 0⟩ (.slice none 0 0) (.slice none 0 0) (.slice none 0 0) w3.heap.size (fun k => k = w6.heap.size ∨ (Value.slice a6 b'.length k6).ownBlock = some k) (xR 3 sz) ⟨b', 0, 0, 0⟩ (.slice none 0 0) (.slice none 0 0) (.slice none 0 0)) := hide (by
      refine ⟨⟨HS7.out, SIn.nils rfl rfl rfl, ⟨_, by rw [hgw]; exact HW7.out, World.ownsRow_nil _ _ _ _, fun k e => (hno k e).elim, rfl, Nat.le_refl _, by simp⟩, fun j e => by have e2 : j = gw := e; omega, fun j e => by have e2 : j = gw := e; omega, fun e => by have e2 : w2.heap.size = gw := e; omega, by omega⟩,
        ⟨HT7.out, SIn.nils rfl rfl rfl, ⟨_, HC7.out, owns_mono HO7.out (Nat.zero_le _), fun k e => ⟨.inr e, by have := hlt6 k e; omega⟩, .inl rfl, Nat.zero_le _, by show b'.length ≤ _; omega⟩, fun j e => ?_, fun j e => ?_, fun e => ?_, by omega⟩, fun k e e' => ?_⟩
      · rcases e with e | e
        · omega
        · have := hlt6 j e; omega
      · rcases e with e | e
        · omega
        · have := hlt6 j e; omega
      · rcases e with e | e
        · omega
        · have := hlt6 _ e; omega
      · have e1 : k = w2.heap.size ∨ k = gw := by
          rcases e with e | e | e | e | e
          · exact .inl e
          · exact .inr e
          · exact (hno k e).elim
          · exact (hno k e).elim
          · exact (hno k e).elim
        rcases e' with e' | e' | e' | e' | e'
        · omega
        · rcases e' with e' | e'
          · omega
          · have := hlt6 k e'; omega
        · exact hno k e'
        · exact hno k e'
        · exact hno k e')
    have HFw : Hid (FwW (xW 3 sz) ⟨[], 0, 0, 0⟩ (b'.take 0) sz ∧ FwR (xR 3 sz) ⟨b', 0, 0, 0⟩ b' 0 sz) := hide ⟨⟨rfl, rfl, rfl, by omega, by omega, by show 0 < sz; omega, rfl, rfl, rfl, .inr ⟨rfl, rfl⟩, rfl, by simp [xW], rfl⟩, ⟨rfl, rfl, rfl, by omega, by omega, rfl, rfl, rfl, rfl, .inr ⟨rfl, rfl⟩, rfl, rfl, rfl, by simp, .inl rfl, rfl⟩⟩
    have hBw : w.heap.size ≤ B := by omega
    have hB7 : B ≤ w7.heap.size := by omega
    rw [← hgw]
    generalize hgr : w6.heap.size = gr at *
    generalize hgt : w3.heap.size = gt at *
    generalize hgs : w2.heap.size = gs at *
    clear hno hlt6 HS6 HT6 HC6 HO6 HB6 HC7 HS7 HT7 HW7 HO7 hgr hgt hgs hgw hBq hc5 hc7 hz6 hz3 hz2 hz1 hzw2
    go_loopg [12] b'.length (fun gq s12 wx => ∃ (k : Nat) (x1 x2 : SS) (S1 S2 : CtS) (o1 i1 c1 o2 i2 c2 : Value) (O1 O2 : Nat → Prop), k + gq = b'.length ∧ s12 = .int .i64 k ∧ Hid (V2 (CtAt gw) (CtAt gr) wx B gs O1 x1 S1 o1 i1 c1 gt O2 x2 S2 o2 i2 c2) ∧ Hid (FwW x1 S1 (b'.take k) sz ∧ FwR x2 S2 b' k sz) ∧ Hid (Below w.heap.size w wx) ∧ B ≤ wx.heap.size)
    case atStart => exact ⟨0, _, _, _, _, _, _, _, _, _, _, _, _, by omega, rfl, HV, HFw, HB7, hB7⟩
    case round =>
      clear HV HFw HB7 hB7
      obtain ⟨k, x1, x2, S1, S2, o1, i1, c1, o2, i2, c2, O1, O2, hkg, rfl, HVr, HFr, HBr, hBr⟩ := hrel
      by_cases hlt : k < b'.length
      case neg =>
        obtain rfl : k = b'.length := by omega
        have hlt' : ¬ (b'.length : Int) < (b'.length : Int) := by omega
        have hcl := fw_close HFr.out.1
        have htl : (b'.take b'.length).length ≤ 5000 := by rw [List.length_take]; omega
        have hp := sClose_any (ct_raw gw) (fun s => ct_o gw s) ct_bears HVr.out.l1.ls HVr.out.l1.raw HVr.out.l1.ol (HFr.out.1.bear htl) (by have := HFr.out.1.ol; have := HFr.out.1.s2; omega) (by rw [HFr.out.1.inn]; decide) (by rw [HFr.out.1.back]; decide)
        rw [List.take_length] at hcl
        generalize x1.close ctD S1 = X at *
        obtain ⟨x1', e', S1'⟩ := X
        simp only at hp hcl
        obtain ⟨t1, t2, t3⟩ := hcl
        subst t1
        have HP := hide hp
        have HT2 := hide t2
        have HT3 := hide t3
        have HT4 := hide (fr_few HFr.out.2)
        obtain ⟨oa0, oc0, eo, -⟩ := HVr.out.l1.ls.so
        obtain ⟨ia0, ic0, ei, -⟩ := HVr.out.l1.ls.si
        obtain ⟨ba0, bc0, ebk, -⟩ := HVr.out.l1.ls.sb
        subst eo ei ebk
        obtain ⟨m0, m1, m2, m3, m4, m5, m6, m7, m8, m9, m10⟩ := HVr.out.l1.st.cs
        clear hp t2 t3 htl
        go_wp2_with fail
        refine HP.out.mono ?_
        rintro _ w5' ⟨o', i', b'', rfl, hS⟩
        obtain ⟨O', s1, s2, s3, s4, s5⟩ := hS
        obtain ⟨a1, k1, rfl, -⟩ := s1.so
        obtain ⟨a2, k2, rfl, -⟩ := s1.si
        obtain ⟨a3, k3, rfl, -⟩ := s1.sb
        have hl2 := HVr.out.l2.turned (fun s => ct_o gr s) s5 (fun k e e' => HVr.out.dj k (.inr (.inl e')) e)
        have HBz : Hid (Below w.heap.size w w5') := hide (HBr.out.trans (s5.below (fun k e => Nat.le_trans hBw (HVr.out.l1.ob k e)) HBr.out.size))
        obtain ⟨v1, y1, y2, -⟩ := s2
        obtain ⟨v2, y3, -⟩ := hl2.raw
        obtain ⟨z0, -, -, z3⟩ := y1.cs
        obtain ⟨-, -, z2, -⟩ := y3.cs
        rw [HT2.out] at y2
        have HSB := hide (Bys.of_owns y2)
        have HSm := hide (same_any v1 (.slice va b'.length vc) b' w5' (Bys.of_owns y2) (HBy'.out.below HBz.out) (by unfold maxLen; omega))
        obtain ⟨va1, vc1, rfl⟩ := owns_slice y2
        have HK := hide (fun (W : World) (hW : Below w5'.heap.size w5' W) => (show W.cell? ⟨gw, 3, none⟩ = some (.int .i64 S1'.wr) ∧ W.cell? ⟨gr, 2, none⟩ = some (.int .i64 S2.rd) from ⟨(hW.cell y1.lt).trans z3, (hW.cell y3.lt).trans z2⟩))
        clear s1 s3 s4 s5 hl2 y1 y2 y3 m0 m1 m2 m3 m4 m5 m6 m7 m8 m9 m10
        obtain ⟨F1, F3⟩ := few_le b'.length sz S1'.wr hb6 HT3.out
        obtain ⟨F2, F4⟩ := few_le b'.length sz S2.rd hb6 HT4.out
        have hzN : ¬ sz = 0 := by omega
        have hzM : (sz == 0) = false := by simp only [beq_eq_false_iff_ne]; exact hzN
        have hz0 : ¬ (sz : Int) = 0 := by omega
        have hz9 : ((sz : Int) == 0) = false := by simp only [beq_eq_false_iff_ne]; exact hz0
        have HKa := hide (fun (W : World) (hW : Below w5'.heap.size w5' W) => (show W.cell? ⟨gw, 0, none⟩ = some (.slice va1 b'.length vc1) ∧ W.cell? ⟨gw, 3, none⟩ = some (.int .i64 S1'.wr) ∧ W.cell? ⟨gr, 2, none⟩ = some (.int .i64 S2.rd) from ⟨(hW.cell (World.block_lt_of_cell? w5' _ z0)).trans z0, HK.out W hW⟩))
        have HSd := hide (same_any (.slice va1 b'.length vc1) (.slice va b'.length vc) b' w5'.drew (HSB.out.below (Below.refl _ _).drew) ((HBy'.out.below HBz.out).below (Below.refl _ _).drew) (by unfold maxLen; omega))
        clear z0 z2 z3 HSm
        go_wp2_with fail
        go_region_held3 (fun W => W.cell? ⟨gw, 0, none⟩ = some (.slice va1 b'.length vc1) ∧ W.cell? ⟨gw, 3, none⟩ = some (.int .i64 S1'.wr) ∧ W.cell? ⟨gr, 2, none⟩ = some (.int .i64 S2.rd)) (first | exact HKa.out _ HB6.out | exact HKa.out _ (Below.refl _ _).drew) (first
          | (go_at_call 12; refine HSd.out.mono ?_; rintro _ w6' ⟨rfl, hB6'⟩; have HB6 : Hid (Below w5'.heap.size w5' w6') := hide ((Below.refl _ w5').drew.trans hB6'); clear hB6')
          | (go_at_call 8; refine (num_st _ _).mono ?_; rintro _ _ ⟨rfl, rfl⟩) | fail)
        go_wp2
        go_ret
        exact ⟨rfl, HBz.out.trans (HB6.out.mono HBz.out.size)⟩
      obtain ⟨gq, rfl⟩ : ∃ gq, gk = gq + 1 := ⟨gk - 1, by omega⟩
      have hk1 : (0 : Int) ≤ (k : Int) := by omega
      have hk2 : (k : Int) < (b'.length : Int) := by omega
      obtain ⟨-, qb, qo, rfl, hqb, hcell⟩ := bys_block HBy'.out (by omega)
      have HBx := hide (fun (W : World) (hW : Below w.heap.size w W) => (hW.cell (World.block_lt_of_cell? w _ (hcell k hlt))).trans (hcell k hlt))
      have d0 := HBx.out wr HBr.out
      have hch : ∃ ch, ch = b'.getD k 0 := ⟨_, rfl⟩
      obtain ⟨ch, hch⟩ := hch
      rw [← hch] at d0 HBx
      have HCh := hide hch
      have HVd := hide (HVr.out.below (fun s => ct_o gw s) (fun s => ct_o gr s) (Below.refl _ wr).drew)
      obtain ⟨t1, t2⟩ := fw_put HFr.out.1 ch
      have htl : (b'.take k).length ≤ 5000 := by rw [List.length_take]; omega
      have hp := sPut_any (ct_raw gw) (fun s => ct_o gw s) ct_bears ch HVd.out.l1.ls HVd.out.l1.raw HVd.out.l1.ol (HFr.out.1.bear htl) (by have := HFr.out.1.ol; have := HFr.out.1.s2; omega) (by rw [HFr.out.1.inn]; decide) (by rw [HFr.out.1.back]; decide)
      generalize x1.put ctD S1 ch = X at *
      obtain ⟨x1', e', S1'⟩ := X
      simp only at hp t1 t2
      subst t1
      have HP := hide hp
      have HF2 : Hid (FwW x1' S1' (b'.take (k + 1)) sz) := hide (by rw [take_more b' k hlt, ← HCh.out]; exact t2)
      obtain ⟨oa0, oc0, eo, -⟩ := HVr.out.l1.ls.so
      obtain ⟨ia0, ic0, ei, -⟩ := HVr.out.l1.ls.si
      obtain ⟨ba0, bc0, ebk, -⟩ := HVr.out.l1.ls.sb
      subst eo ei ebk
      obtain ⟨m0, m1, m2, m3, m4, m5, m6, m7, m8, m9, m10⟩ := HVr.out.l1.st.cs
      clear hp t2 htl hcell hch hqb
      go_wp2_with fail
      go_region_law (first | (go_simp; go_at_call 9; refine HP.out.mono ?_; rintro _ w5' ⟨o', i', b'', rfl, hS⟩; obtain ⟨a1, k1, rfl, -⟩ := hS.choose_spec.1.so; obtain ⟨a2, k2, rfl, -⟩ := hS.choose_spec.1.si; obtain ⟨a3, k3, rfl, -⟩ := hS.choose_spec.1.sb; obtain ⟨hst, -, hv, ht⟩ := V2.step (fun s => ct_o gw s) (fun s => ct_o gr s) HVd.out hBr hS; have HV6 := hide hv; have HT6 := hide ht; obtain ⟨p0, p1, p2, p3, p4, p5, p6, p7, p8, p9, p10⟩ := hst.cs; have f0 := hst.soft 0; have f1 := hst.soft 1; have f2 := hst.soft 2; have f3 := hst.soft 3; have f4 := hst.soft 4; have f5 := hst.soft 5; have f6 := hst.soft 6; have f7 := hst.soft 7; have f8 := hst.soft 8; have f9 := hst.soft 9; have f10 := hst.soft 10; clear hst hv ht hS) | fail)
      all_goals
        unfold filled at HV6 HT6
        clear p0 p1 p2 p3 p4 p5 p6 p7 p8 p9 p10 f0 f1 f2 f3 f4 f5 f6 f7 f8 f9 f10 m0 m1 m2 m3 m4 m5 m6 m7 m8 m9 m10 d0 HP HVd HVr
        generalize (((((((((((w5'.setCell ⟨gs, 0, none⟩ (.bool x1'.rd)).setCell ⟨gs, 1, none⟩ (.bool x1'.wt)).setCell ⟨gs, 2, none⟩ (.int .i64 x1'.mode)).setCell ⟨gs, 3, none⟩ (.int .i64 x1'.size)).setCell ⟨gs, 4, none⟩ (.slice a1 x1'.out.length k1)).setCell ⟨gs, 5, none⟩ (.slice a2 x1'.inn.length k2)).setCell ⟨gs, 6, none⟩ (.slice a3 x1'.back.length k3)).setCell ⟨gs, 7, none⟩ (.int .i64 x1'.dir)).setCell ⟨gs, 8, none⟩ (.bool x1'.fin)).setCell ⟨gs, 9, none⟩ (.bool x1'.bad)).setCell ⟨gs, 10, none⟩ (.bool x1'.closed)) = w8 at *
        have HB8 : Hid (Below w.heap.size w w8) := hide ((HBr.out.trans ((Below.refl _ _).drew.mono HBr.out.size)).trans ((HT6.out.below (fun k e => e) hBr).mono hBw))
        have hB8 : B ≤ w8.heap.size := by have h9 : wr.drew.heap.size ≤ w8.heap.size := HT6.out.size; have h10 : wr.drew.heap.size = wr.heap.size := rfl; omega
        obtain ⟨O1', hv8⟩ := HV6.out
        have HV8 := hide hv8.swap
        have hg := sGet_any (ct_raw gr) (fun s => ct_o gr s) ct_bears hv8.l2.ls hv8.l2.raw hv8.l2.ol (HFr.out.2.bear hb6 (by omega)) (by rw [HFr.out.2.out]; decide) (by have := HFr.out.2.short; have := HFr.out.2.s2; omega) (by rw [HFr.out.2.back]; decide)
        obtain ⟨u1, u2, u3⟩ := fr_get HFr.out.2 hlt
        rw [← HCh.out] at u2
        generalize x2.get ctD S2 = X at *
        obtain ⟨x2', cc, e2, S2'⟩ := X
        simp only at hg u1 u2 u3
        subst u1 u2
        have HG := hide hg
        have HF3 := hide u3
        obtain ⟨oa1, oc1, eo, -⟩ := hv8.l2.ls.so
        obtain ⟨ia1, ic1, ei, -⟩ := hv8.l2.ls.si
        obtain ⟨ba1, bc1, ebk, -⟩ := hv8.l2.ls.sb
        subst eo ei ebk
        obtain ⟨m0, m1, m2, m3, m4, m5, m6, m7, m8, m9, m10⟩ := hv8.l2.st.cs
        clear hg u3 hv8 HV6 HT6
        go_wp2_with (first | (go_at_call 8; refine (num_st _ _).mono ?_; rintro _ _ ⟨rfl, rfl⟩) | fail)
        refine HG.out.mono ?_
        rintro _ w9 ⟨o', i', b'', rfl, hS⟩
        obtain ⟨a4, k4, rfl, -⟩ := hS.choose_spec.1.so
        obtain ⟨a5, k5, rfl, -⟩ := hS.choose_spec.1.si
        obtain ⟨a6', k6', rfl, -⟩ := hS.choose_spec.1.sb
        obtain ⟨hst, -, hv, ht⟩ := V2.step (fun s => ct_o gr s) (fun s => ct_o gw s) HV8.out hB8 hS
        have HV9 := hide hv
        have HT9 := hide ht
        clear m0 m1 m2 m3 m4 m5 m6 m7 m8 m9 m10
        obtain ⟨p0, p1, p2, p3, p4, p5, p6, p7, p8, p9, p10⟩ := hst.cs
        have f0 := hst.soft 0
        have f1 := hst.soft 1
        have f2 := hst.soft 2
        have f3 := hst.soft 3
        have f4 := hst.soft 4
        have f5 := hst.soft 5
        have f6 := hst.soft 6
        have f7 := hst.soft 7
        have f8 := hst.soft 8
        have f9 := hst.soft 9
        have f10 := hst.soft 10
        unfold filled at HV9 HT9
        have HB9 : Hid (Below w.heap.size w ((((((((((((w9.setCell ⟨gt, 0, none⟩ (.bool x2'.rd)).setCell ⟨gt, 1, none⟩ (.bool x2'.wt)).setCell ⟨gt, 2, none⟩ (.int .i64 x2'.mode)).setCell ⟨gt, 3, none⟩ (.int .i64 x2'.size)).setCell ⟨gt, 4, none⟩ (.slice a4 x2'.out.length k4)).setCell ⟨gt, 5, none⟩ (.slice a5 x2'.inn.length k5)).setCell ⟨gt, 6, none⟩ (.slice a6' x2'.back.length k6')).setCell ⟨gt, 7, none⟩ (.int .i64 x2'.dir)).setCell ⟨gt, 8, none⟩ (.bool x2'.fin)).setCell ⟨gt, 9, none⟩ (.bool x2'.bad)).setCell ⟨gt, 10, none⟩ (.bool x2'.closed)))) := hide (HB8.out.trans ((HT9.out.below (fun k e => e) hB8).mono hBw))
        have d9 := HBx.out _ HB9.out
        clear hst hv ht hS HG HV8
        go_wp2_with (first | (go_at_call 8; refine (num_st _ _).mono ?_; rintro _ _ ⟨rfl, rfl⟩) | fail)
        obtain ⟨O2', hv9⟩ := HV9.out
        have HVn := hide hv9.swap
        have hBn : B ≤ ((((((((((((w9.setCell ⟨gt, 0, none⟩ (.bool x2'.rd)).setCell ⟨gt, 1, none⟩ (.bool x2'.wt)).setCell ⟨gt, 2, none⟩ (.int .i64 x2'.mode)).setCell ⟨gt, 3, none⟩ (.int .i64 x2'.size)).setCell ⟨gt, 4, none⟩ (.slice a4 x2'.out.length k4)).setCell ⟨gt, 5, none⟩ (.slice a5 x2'.inn.length k5)).setCell ⟨gt, 6, none⟩ (.slice a6' x2'.back.length k6')).setCell ⟨gt, 7, none⟩ (.int .i64 x2'.dir)).setCell ⟨gt, 8, none⟩ (.bool x2'.fin)).setCell ⟨gt, 9, none⟩ (.bool x2'.bad)).setCell ⟨gt, 10, none⟩ (.bool x2'.closed))).heap.size := by have := HT9.out.size; omega
        clear hv9 HV9
        go_roundg gq
        case measure => omega
        case rel => exact ⟨k + 1, x1', x2', S1', S2', _, _, _, _, _, _, _, _, by omega, by go_num, HVn, hide ⟨HF2.out, HF3.out⟩, HB9, hBn⟩
end Go.Proofs.Ytbffnamdpmjfnaa

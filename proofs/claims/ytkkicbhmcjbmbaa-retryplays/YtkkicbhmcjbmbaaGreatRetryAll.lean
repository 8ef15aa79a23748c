/- RetryPlays answers true for all setups, opened things, descriptions and calls, within the reach of a machine's memory: calls that are made again and again answer as the page's do, over any kernel, description and faults. -/
import Derived.Test.YtkkicbhmcjbmbaaGreatKM22
import Derived.Deep.LoopGhost
import Derived.ProofKit
import Derived.OpenShut
import Derived.ShutString
import Derived.ChangeOld
import Derived.Below
import Derived.SizedLaws
/- RetryPlays, walked. -/
namespace Go.Proofs.YtkkicbhmcjbmbaaGreat
open Go.RowKit Go.Maps

set_option maxRecDepth 100000 in
set_option maxHeartbeats 8000000 in
theorem retryPlays_any (a1 a2 a3 a4 a5 : Option Addr) (c1 c2 c3 c4 c5 : Nat) (fs : List Nm) (ts : List Tp) (g : List Fault) (oo : List KSt) (dd : Int) (l : List RSt) (w : World) (h1 : Nms w (.slice a1 fs.length c1) fs) (h2 : Tps w (.slice a2 ts.length c2) ts) (h3 : Flts w (.slice a3 g.length c3) g) (h4 : KSts w (.slice a4 oo.length c4) oo) (hd : I64 dd) (h5 : RSts w (.slice a5 l.length c5) l)
    (z1 : fs.length * 40 ≤ 140737488351232 ∧ ∀ j (hj : j < fs.length), fs[j].2.length ≤ 140737488351232) (z2 : ts.length * 40 ≤ 140737488351232 ∧ ∀ j (hj : j < ts.length), ts[j].2.length * 24 ≤ 140737488351232 ∧ ∀ i (hi : i < ts[j].2.length), ts[j].2[i].length ≤ 140737488351232) (z3 : g.length * 16 ≤ 140737488351232) (z4 : oo.length * 72 ≤ 140737488351232) (z5 : l.length * 40 ≤ 140737488351232) :
    Calls Tryz.prog 5 #[.agg #[.slice a1 fs.length c1, .slice a2 ts.length c2, .slice a3 g.length c3], .slice a4 oo.length c4, .int .i64 dd, .slice a5 l.length c5] w fun e w' => e = .returned (.bool true) ∧ Below w.heap.size w w' := by
  have hb0 := recv_below w (Obj.cells #[Value.slice a1 fs.length c1, Value.slice a2 ts.length c2, Value.slice a3 g.length c3] 26)
  obtain ⟨q0, q1, q2⟩ := trio_cells w (.slice a1 fs.length c1) (.slice a2 ts.length c2) (.slice a3 g.length c3) 26
  have HQ0 := hide (And.intro q0 (And.intro q1 q2))
  have H4 := hide h4
  have H5 := hide h5
  have Hd := hide hd
  have Z4 := hide z4
  have Z5 := hide z5
  have HCf := hide fun w1 (hB1 : Below w.heap.size w w1) => config_any a1 a2 a3 c1 c2 c3 fs ts g w1 (h1.below hB1) (h2.below hB1) (h3.below hB1) z1 z2 z3
  have HPg := hide fun w1 (hB1 : Below w.heap.size w w1) => page_any a1 a2 a3 c1 c2 c3 fs ts g w1 (h1.below hB1) (h2.below hB1) (h3.below hB1) z1.1 ⟨z2.1, fun j hj => (z2.2 j hj).1⟩ z3
  have HZ := hide (And.intro z1.1 (And.intro z2.1 z3))
  have HB0 := hide hb0
  have hls : w.heap.size < (w.alloc (Obj.cells #[Value.slice a1 fs.length c1, Value.slice a2 ts.length c2, Value.slice a3 g.length c3] 26)).heap.size := size_new _ _
  clear h1 h2 h3 h4 h5 z1 z2 z3 z4 z5 hb0 q0 q1 q2 hd
  go_enter Tryz.func5, Tryz.ntmps5
  go_wp2_with fail
  generalize w.alloc (Obj.cells #[Value.slice a1 fs.length c1, Value.slice a2 ts.length c2, Value.slice a3 g.length c3] 26) = w0 at *
  refine (HCf.out w0 HB0.out).mono ?_
  rintro e w1 ⟨b1, d1, b2, d2, b3, d3, rfl, hN, hT, hF, hB1⟩
  have HB1 := hide (HB0.out.trans (hB1.mono HB0.out.size))
  have q0 := (hB1.cell (p := ⟨w.heap.size, 0, none⟩) hls).trans HQ0.out.1
  have q1 := (hB1.cell (p := ⟨w.heap.size, 1, none⟩) hls).trans HQ0.out.2.1
  have q2 := (hB1.cell (p := ⟨w.heap.size, 2, none⟩) hls).trans HQ0.out.2.2
  have hls1 : w.heap.size < w1.heap.size := Nat.lt_of_lt_of_le hls hB1.size
  have HQ := hide (And.intro q0 (And.intro q1 q2))
  clear q0 q1 q2 HQ0 hls
  by_cases hE : checkE fs ts g = 0
  case neg =>
    have HN := hide (knew_bad b1 b2 b3 d1 d2 d3 fs ts g w1 hN hT hF HZ.out.2.2 (by have := HZ.out.1; omega) (by have := HZ.out.2.1; omega) hE)
    clear hN hT hF hB1 HCf
    have HE := hide hE
    have hE' : (checkE fs ts g == 0) = false := by simpa using hE
    clear hE
    generalize checkE fs ts g = E at *
    go_wp2_with fail
    refine HN.out.mono ?_
    rintro e w2 ⟨rfl, hB2⟩
    have r0 := (hB2.cell (p := ⟨w.heap.size, 0, none⟩) hls1).trans HQ.out.1
    have r1 := (hB2.cell (p := ⟨w.heap.size, 1, none⟩) hls1).trans HQ.out.2.1
    have r2 := (hB2.cell (p := ⟨w.heap.size, 2, none⟩) hls1).trans HQ.out.2.2
    have HB2 := hide (HB1.out.trans (hB2.mono HB1.out.size))
    clear hB2
    go_wp2_with fail
    refine (HPg.out w2 HB2.out).mono ?_
    rintro e w4 ⟨hB4, hor⟩
    rcases hor with ⟨hne, rfl⟩ | ⟨he0, _⟩
    case inr => exact absurd he0 HE.out
    have HB4 := hide (HB2.out.trans (hB4.mono HB2.out.size))
    clear hB4 r0 r1 r2 hne
    go_wp2_with (first | (go_at_call 25; refine (num_re _ _).mono ?_; rintro _ _ ⟨rfl, rfl⟩) | (go_at_call 26; refine (ralive_any _).mono ?_; rintro e w6 ⟨rfl, hB6⟩) | fail)
    go_ret
    exact ⟨rfl, HB4.out.trans (hB6.mono HB4.out.size)⟩
  have HN := hide (knew_good b1 b2 b3 d1 d2 d3 fs ts g w1 hN hT hF HZ.out.2.2 (by have := HZ.out.1; omega) (by have := HZ.out.2.1; omega) hE)
  clear hN hT hF hB1 HCf
  have HE := hide hE
  clear hE
  go_wp2_with fail
  refine HN.out.mono ?_
  rintro e w2 ⟨kb, rfl, hK, hB2⟩
  have r0 := (hB2.cell (p := ⟨w.heap.size, 0, none⟩) hls1).trans HQ.out.1
  have r1 := (hB2.cell (p := ⟨w.heap.size, 1, none⟩) hls1).trans HQ.out.2.1
  have r2 := (hB2.cell (p := ⟨w.heap.size, 2, none⟩) hls1).trans HQ.out.2.2
  have HK := hide hK.trim
  have HB12 := hide hB2
  have HB2 := hide (HB1.out.trans (hB2.mono HB1.out.size))
  have HNn := hide (new_nums fs ts g)
  have HPi := hide (pinv_new fs ts g (new_de fs ts g))
  clear hB2 hK HN
  go_wp2_with fail
  refine (HPg.out w2 HB2.out).mono ?_
  rintro e w4 ⟨hB4, hor⟩
  rcases hor with ⟨hne, _⟩ | ⟨_, B, ρ, I, hBk, rfl, hRK⟩
  case inl => exact absurd HE.out hne
  have hM := RAt.of_page hBk hRK
  have hz2 := HB12.out.size
  have hz4 := hB4.size
  have hD : Duo w4 w1.heap.size kb I.kb (KS.new fs ts g) (KS.new fs ts g) := ⟨_, _, HK.out.below hB4, hM.trim, fun j e => ⟨e.1, by have := e.2; omega, fun e' => by have := e.2; have := e'.1; omega⟩, fun j e => ⟨by have := e.1; omega, e.2⟩⟩
  have HD := hide hD
  have HB14 := hide (HB12.out.trans (hB4.mono HB12.out.size))
  generalize I.kb = mb at *
  clear hB4 r0 r1 r2 hM hRK hBk hD HK HPg HB2 HB12
  generalize KS.new fs ts g = K0 at *
  have hcw := HB1.out.size
  go_wp2_with (first | (go_at_call 25; refine (num_re _ _).mono ?_; rintro _ _ ⟨rfl, rfl⟩) | fail)
  go_loopg [12] oo.length (fun gq s12 wx => ∃ (k : Nat) (K : KS), k + gq = oo.length ∧ s12 = .int .i64 k ∧ Hid (Duo wx w1.heap.size kb mb K K) ∧ Hid (PInv K) ∧ Hid (1 ≤ K.next ∧ K.next ≤ 1 + 2 * k ∧ K.reads ≤ k ∧ K.writes ≤ k) ∧ Hid (Below w1.heap.size w1 wx))
  case atStart => exact ⟨0, K0, by omega, rfl, HD, HPi, hide (by have := HNn.out; omega), HB14⟩
  case round =>
    clear HD HPi HNn HB14
    obtain ⟨k, K, hkg, rfl, HD, HPi, HNum, HBx⟩ := hrel
    have HBw := hide (HB1.out.trans (HBx.out.mono HB1.out.size))
    have hz4 := Z4.out
    have hBz := HBx.out.size
    by_cases hlt : k < oo.length
    · obtain ⟨gq, rfl⟩ : ∃ gq, gk = gq + 1 := ⟨gk - 1, by omega⟩
      obtain ⟨b, off, ya, yc, rfl, hb, q0, q1, q2, q3, q4, q5, hby, hcap, hsz, i1, i2, i3⟩ := ksts_at H4.out HBw.out k hlt
      have hk1 : (0 : Int) ≤ (k : Int) := by omega
      have hk2 : (k : Int) < (oo.length : Int) := by omega
      have hnum := HNum.out
      obtain ⟨O, P, hK, hM, hO, hP, hboth⟩ := HD.out.both hBz
      have hok := hK.ok
      have HQs := hide (And.intro q1 q2)
      have HO := hide hO
      have HBo := hide (hboth wr (Below.refl _ _))
      by_cases h1 : oo[k].what = 1
      · have H1 := hide (hK.pipe (by omega))
        have HPn := hide (pinv_pipe HPi.out hok.1)
        have HLe := hide (kle_pipe K)
        have HNx : Hid (K.next ≤ K.pipe.2.2.2.next) := hide (by have := next_does K ⟨1, ByteArray.empty, 0, 0, 0, []⟩; simpa [KS.does] using this)
        generalize hR : K.pipe = R at *
        obtain ⟨r1, r2, r3, K'⟩ := R
        have HR := hide hR
        clear hR hK hM hO hP hboth hok hby hcap hsz i1 i2 i3 q1 q2 q3 q4 q5
        rw [h1] at q0
        simp only at H1 HPn HLe HNx
        go_wp2_with fail
        refine H1.out.mono ?_
        rintro e w5 ⟨rfl, hS⟩
        obtain ⟨hm, hbk⟩ := HBo.out K' w5 hS w5 (Below.refl _ _)
        have H2 := hide (hm.pipe hnum.1 (by omega))
        rw [HR.out] at H2
        simp only at H2
        have HBk := hide hbk
        clear hbk hm hS
        go_wp2_with fail
        refine H2.out.mono ?_
        rintro e w7 ⟨rfl, hS7⟩
        obtain ⟨hD7, hB7⟩ := HBk.out K' w7 hS7
        have HD7 := hide hD7
        have HB7 := hide hB7
        clear hD7 hB7 hS7
        go_wp2_with fail
        go_roundg gq
        case measure => omega
        case rel => exact ⟨k + 1, K', by omega, by go_num, HD7, HPn, hide (by have h := HLe.out; unfold KLe at h; have := HNx.out; omega), hide (HBx.out.trans HB7.out)⟩
      · have hw1 : (oo[k].what == 1) = false := by simpa using h1
        have H1 := hide ((hK.below (Below.refl _ _).drew).open oo[k].name oo[k].a hsz (by omega))
        have HBo := hide (hboth wr.drew (Below.refl _ _).drew)
        have HPj := hide hP
        have HPn := hide (pinv_open HPi.out hok.1 hok.2 oo[k].name oo[k].a)
        have HLe := hide (kle_open K oo[k].name oo[k].a)
        have HNx : Hid (K.next ≤ (K.open oo[k].name oo[k].a).2.2.next) := hide (by have := next_does K ⟨0, oo[k].name, oo[k].a, 0, 0, []⟩; simpa [KS.does] using this)
        have HOp := hide fun w6 (hm : RAt w6 P mb K) => hm.open oo[k].name oo[k].a hok.2 hsz hnum.1 (by omega)
        generalize hR : K.open oo[k].name oo[k].a = R at *
        obtain ⟨r1, r2, K'⟩ := R
        clear hR hK hM hO hP hboth hok hby hcap hsz i1 i2 i3 q3 q4 q5
        generalize oo[k] = y at *
        obtain ⟨what, name, xa, xb, xc, data⟩ := y
        simp only at *
        go_wp2_with fail
        go_region_held3 (fun w' => w'.cell? ⟨b, off + k * 6 + 1, none⟩ = some (.string name) ∧ w'.cell? ⟨b, off + k * 6 + 2, none⟩ = some (.int .i64 xa))
          (first | exact hx5 | exact ⟨q1, q2⟩ | go_keep)
          (first
            | (go_at_call 29; refine H1.out.mono ?_; rintro e w5 ⟨rfl, hS⟩; have hx5 : w5.cell? ⟨b, off + k * 6 + 1, none⟩ = some (.string name) ∧ w5.cell? ⟨b, off + k * 6 + 2, none⟩ = some (.int .i64 xa) := ⟨cell_keep hS.turned (drew_cell HQs.out.1) (fun e => by have := (HO.out _ e).1; omega), cell_keep hS.turned (drew_cell HQs.out.2) (fun e => by have := (HO.out _ e).1; omega)⟩)
            | fail)
        obtain ⟨c1, c2⟩ := hx5
        obtain ⟨hm, hbk⟩ := HBo.out K' w5 hS w5.drew (Below.refl _ _).drew
        have H2 := hide (HOp.out w5.drew hm)
        have HBk := hide hbk
        have HC := hide (And.intro c1 c2)
        have hbz : b < w5.heap.size := World.block_lt_of_cell? w5 _ c1
        clear hbk hm hS q0 q1 q2
        go_wp2_with fail
        go_region_held3 (fun w' => w'.cell? ⟨b, off + k * 6 + 1, none⟩ = some (.string name) ∧ w'.cell? ⟨b, off + k * 6 + 2, none⟩ = some (.int .i64 xa))
          (first | exact hx7 | exact ⟨c1, c2⟩ | go_keep)
          (first
            | (go_at_call 30; refine H2.out.mono ?_; rintro e w7 ⟨rfl, hS7⟩; have hx7 : w7.cell? ⟨b, off + k * 6 + 1, none⟩ = some (.string name) ∧ w7.cell? ⟨b, off + k * 6 + 2, none⟩ = some (.int .i64 xa) := ⟨rk_cell hS7 (drew_cell HC.out.1) (fun e => by have := (HPj.out _ e).1; omega), rk_cell hS7 (drew_cell HC.out.2) (fun e => by have := (HPj.out _ e).1; omega)⟩)
            | fail)
        obtain ⟨hD7, hB7⟩ := HBk.out K' w7 hS7
        have HD7 := hide hD7
        have HB7 := hide hB7
        clear hD7 hB7 hS7
        go_wp2_with fail
        go_roundg gq
        case measure => omega
        case rel => exact ⟨k + 1, K', by omega, by go_num, HD7, HPn, hide (by have h := HLe.out; unfold KLe at h; have := HNx.out; omega), hide (HBx.out.trans HB7.out)⟩
    · have hk2 : ¬ (k : Int) < (oo.length : Int) := by omega
      go_wp2_with fail
      refine (of_any mb dd _).mono ?_
      rintro e wO ⟨rfl, hRw, hBO⟩
      have HI := hide (Inv2.first HD.out HPi.out HNum.out HBx.out hRw hBO (recv_below wO (Obj.cells #[.pointer (some ⟨kb, 0, none⟩), .int .i64 dd] 70)) (cell_of_row _ _ 0 _ _ _ (heap_alloc_new _ _)) (cell_of_row _ _ 1 _ _ _ (heap_alloc_new _ _)))
      have hkz : k * 72 ≤ 140737488351232 := by omega
      clear HD HPi HNum HBx HBw hRw hBO hBz hz4
      go_wp2_with fail
      generalize wO.alloc (Obj.cells #[.pointer (some ⟨kb, 0, none⟩), .int .i64 dd] 70) = wH at *
      generalize wO.heap.size = hb at *
      generalize wr.heap.size = rb at *
      go_loopg [15] l.length (fun gq s15 wx => ∃ (i : Nat) (M : KS), i + gq = l.length ∧ s15 = .int .i64 i ∧ Hid (Inv2 w1 hb kb mb rb dd k i M wx))
      case atStart => exact ⟨0, K, by omega, rfl, HI⟩
      case round =>
        clear HI
        obtain ⟨i, M, hig, rfl, HI⟩ := hrel
        have HBw := hide (HB1.out.trans (HI.out.below.mono HB1.out.size))
        have hz5 := Z5.out
        have hiz : i * 40 ≤ 140737488351232 := by omega
        by_cases hl2 : i < l.length
        · obtain ⟨gq, rfl⟩ : ∃ gq, gk = gq + 1 := ⟨gk - 1, by omega⟩
          obtain ⟨b, off, va, vc, rfl, q0, q1, q2, hby, hcap, hbl⟩ := rsts_at H5.out HBw.out i hl2
          have hi1 : (0 : Int) ≤ (i : Int) := by omega
          have hi2 : (i : Int) < (l.length : Int) := by omega
          have hbz : b < w1.heap.size := by omega
          have hN := HI.out.num hkz hiz
          have r0 := HI.out.r0
          have r1 := HI.out.r1
          have HQs := hide (And.intro q1 q2)
          have HBy := hide (And.intro hby hcap)
          generalize l[i] = y at *
          obtain ⟨what, n, data⟩ := y
          simp only at *
          clear hby hcap hbl
          have HV := hide (same_any (.slice none 0 0) (.slice none 0 0) [] wr (bys_void _) (bys_void _) (Nat.zero_le _))
          by_cases h0 : what = 0
          · subst h0
            obtain ⟨Y, E, M', hG, hY, hC⟩ := two_some Hd.out HI.out.tri HI.out.hQ hN n
            have HC := hide hC
            have HG := hide hG
            have hY' : Y.length ≤ maxLen := by unfold maxLen; omega
            clear hC hG q2
            go_wp2_with fail
            go_region_held3 (fun w' => w'.cell? ⟨hb, 0, none⟩ = some (.pointer (some ⟨kb, 0, none⟩)) ∧ w'.cell? ⟨hb, 1, none⟩ = some (.int .i64 dd) ∧ w'.cell? ⟨b, off + i * 3 + 1, none⟩ = some (.int .i64 n))
              (first | exact hx5 | exact ⟨r0, r1, q1⟩ | go_keep)
              (first
                | (go_at_call 32; refine (HC.out wr.drew (Below.refl _ _).drew).mono ?_; rintro e w5 ⟨a0, n0, c0, rfl, hT5, h2⟩; have hx5 := HI.out.keep hT5 hbz HQs.out.1; have H2 := hide h2; clear h2)
                | fail)
            obtain ⟨x0, x1, x2⟩ := hx5
            go_wp2_with (first | (go_at_call 33; refine (H2.out _ (Below.refl _ _)).mono ?_; rintro e w7 ⟨a7, n7, c7, rfl, hy1, hy2, hD7, hT7⟩; have HD7 := hide hD7; have HT7 := hide hT7; have HS := hide (same_any _ _ Y w7 hy1 hy2 hY'); clear hD7 hT7 hy1 hy2) | (go_at_call 38; refine HS.out.mono ?_; rintro _ w8 ⟨rfl, hB8⟩; have HB8 := hide hB8; clear hB8) | (go_at_call 25; refine (num_re _ _).mono ?_; rintro _ _ ⟨rfl, rfl⟩) | fail)
            go_roundg gq
            case measure => omega
            case rel => exact ⟨i + 1, M', by omega, by go_num, HI.out.next HG.out HD7.out HT7.out HB8.out⟩
          have h0' : (what == 0) = false := by simpa using h0
          by_cases h1 : what = 1
          · subst h1
            obtain ⟨Y, E, M', hG, hY, hC⟩ := two_all Hd.out HI.out.tri HI.out.hQ hN n
            have HC := hide hC
            have HG := hide hG
            have hY' : Y.length ≤ maxLen := by unfold maxLen; omega
            clear hC hG q2
            go_wp2_with fail
            go_region_held3 (fun w' => w'.cell? ⟨hb, 0, none⟩ = some (.pointer (some ⟨kb, 0, none⟩)) ∧ w'.cell? ⟨hb, 1, none⟩ = some (.int .i64 dd) ∧ w'.cell? ⟨b, off + i * 3 + 1, none⟩ = some (.int .i64 n))
              (first | exact hx5 | exact ⟨r0, r1, q1⟩ | go_keep)
              (first
                | (go_at_call 34; refine (HC.out wr.drew (Below.refl _ _).drew).mono ?_; rintro e w5 ⟨a0, n0, c0, rfl, hT5, h2⟩; have hx5 := HI.out.keep hT5 hbz HQs.out.1; have H2 := hide h2; clear h2)
                | fail)
            obtain ⟨x0, x1, x2⟩ := hx5
            go_wp2_with (first | (go_at_call 35; refine (H2.out _ (Below.refl _ _)).mono ?_; rintro e w7 ⟨a7, n7, c7, rfl, hy1, hy2, hD7, hT7⟩; have HD7 := hide hD7; have HT7 := hide hT7; have HS := hide (same_any _ _ Y w7 hy1 hy2 hY'); clear hD7 hT7 hy1 hy2) | (go_at_call 38; refine HS.out.mono ?_; rintro _ w8 ⟨rfl, hB8⟩; have HB8 := hide hB8; clear hB8) | (go_at_call 25; refine (num_re _ _).mono ?_; rintro _ _ ⟨rfl, rfl⟩) | fail)
            go_roundg gq
            case measure => omega
            case rel => exact ⟨i + 1, M', by omega, by go_num, HI.out.next HG.out HD7.out HT7.out HB8.out⟩
          have h1' : (what == 1) = false := by simpa using h1
          by_cases h2 : what = 2
          · subst h2
            obtain ⟨N, E, M', hG, hC⟩ := two_put Hd.out HI.out.tri HI.out.hQ hN data va vc (HBy.out.1.below HBw.out) HBy.out.2 (fun h0 j hj e => by
              obtain ⟨_, yb, yo, e2, e3, _⟩ := bys_block HBy.out.1 h0
              rw [e2] at hj
              cases hj
              have e4 : w1.heap.size ≤ yb := e.1
              omega)
            have HC := hide hC
            have HG := hide hG
            clear hC hG q1
            go_wp2_with fail
            go_region_held3 (fun w' => w'.cell? ⟨hb, 0, none⟩ = some (.pointer (some ⟨kb, 0, none⟩)) ∧ w'.cell? ⟨hb, 1, none⟩ = some (.int .i64 dd) ∧ w'.cell? ⟨b, off + i * 3 + 2, none⟩ = some (.slice va data.length vc))
              (first | exact hx5 | exact ⟨r0, r1, q2⟩ | go_keep)
              (first
                | (go_at_call 36; refine (HC.out wr.drew (Below.refl _ _).drew).mono ?_; rintro e w5 ⟨rfl, hT5, h2⟩; have hx5 := HI.out.keep hT5 hbz HQs.out.2; have H2 := hide h2; clear h2)
                | fail)
            obtain ⟨x0, x1, x2⟩ := hx5
            go_wp2_with (first | (go_at_call 37; refine (H2.out _ (Below.refl _ _)).mono ?_; rintro e w7 ⟨rfl, hD7, hT7⟩; have HD7 := hide hD7; have HT7 := hide hT7; have HS := hide (same_any (.slice none 0 0) (.slice none 0 0) [] w7 (bys_void _) (bys_void _) (Nat.zero_le _)); clear hD7 hT7) | (go_at_call 38; refine HS.out.mono ?_; rintro _ w8 ⟨rfl, hB8⟩; have HB8 := hide hB8; clear hB8) | (go_at_call 25; refine (num_re _ _).mono ?_; rintro _ _ ⟨rfl, rfl⟩) | fail)
            go_roundg gq
            case measure => omega
            case rel => exact ⟨i + 1, M', by omega, by go_num, HI.out.next HG.out HD7.out HT7.out HB8.out⟩
          have h2' : (what == 2) = false := by simpa using h2
          clear q1 q2
          go_wp2_with (first | (go_at_call 38; refine HV.out.mono ?_; rintro _ w8 ⟨rfl, hB8⟩; have HB8 := hide hB8; clear hB8) | (go_at_call 25; refine (num_re _ _).mono ?_; rintro _ _ ⟨rfl, rfl⟩) | fail)
          go_roundg gq
          case measure => omega
          case rel => exact ⟨i + 1, M, by omega, by go_num, HI.out.up HB8.out⟩
        · have hi2 : ¬ (i : Int) < (l.length : Int) := by omega
          go_wp2_with (first | (go_at_call 13; refine (same_kern w1.heap.size kb mb M wr (HI.out.tri.duo (fun _ e => e.1)) HI.out.inv (HI.out.small hkz hiz)).mono ?_; rintro e w7 ⟨rfl, hB7⟩; have HB7 := hide (HBw.out.trans (hB7.mono HBw.out.size)); clear hB7) | (go_at_call 26; refine (ralive_any _).mono ?_; rintro e w8 ⟨rfl, hB8⟩) | fail)
          go_ret
          exact ⟨rfl, HB7.out.trans (hB8.mono HB7.out.size)⟩
end Go.Proofs.YtkkicbhmcjbmbaaGreat

/- RetryPlays answers true for all setups, opened things, descriptions and calls, within the reach of a machine's memory: calls that are made again and again answer as the page's do, over any kernel, description and faults. -/
namespace Go.Proofs.YtkkicbhmcjbmbaaGreat.retryPlays
open Go.ChangeShapes Go.WideShapes Go.ChangeAt Go.RowKit
open Go.ChangeMaps (open_string shut_string)
set_option linter.unusedVariables false

theorem own : ownKnob Tryz.prog.godebug = none := by kernel_rfl
theorem laidOut : laidOutB Tryz.prog = true := by kernel_rfl

set_option maxRecDepth 100000 in
theorem lifted (os : Os) (started : os.Started) (H : Type) (enc : TypeId × Value → H) :
    ReturnsInHanded {} Tryz.checked os 5 .any (Rows.retryPlaysSpec.pre6 enc Tryz.prog Tryz.f5 Rows.retryPlaysRow.domain false) (Rows.retryPlaysSpec.post enc Tryz.prog Tryz.f5 false true false false) := by
  refine returnsInHanded_of_change_sized (C := Tryz.checked) own started (by kernel_rfl) Tryz.func5
    (ChangeSpec.witness6 (enc := enc) (C := Tryz.checked) false ⟨#[], #[.agg #[.slice none 0 0, .slice none 0 0, .slice none 0 0], .slice none 0 0, .int .i64 0, .slice none 0 0], []⟩ 8 (by kernel_rfl) (by kernel_rfl) (by kernel_rfl) (by kernel_rfl)) ?_
  intro W base args ds gs before hval0 hW hcnd0 hsz0 _
  have hsz : (DataW.weightsEach Tryz.prog (Tryz.f5.params.toList ++ Rows.retryPlaysSpec.plain.varTypes Tryz.prog) (ds ++ gs)).all (· ≤ reachBytes) = true := hsz0
  clear hsz0
  have hval : ∀ (j : Nat) t v, Tryz.f5.params[j]? = some t → args[j]? = some v → Value.okWide Tryz.prog W .any base t v := hval0
  have hW' := hW
  obtain ⟨p, q, hA0, hV, rfl, hfz, hnd⟩ := hW
  have hA : DataW.TrodAll enc Tryz.prog W 0 (fun _ => true) true Tryz.f5.params.toList args.toList ds p := hA0
  rw [Tryz.params5] at hA hval hsz
  obtain ⟨v0, vs0, d0, ds0, p0, q0, hargs, rfl, rfl, h0, r0⟩ := trodAll_cons hA
  obtain ⟨v1, vs1, d1, ds1, p1, q1, rfl, rfl, rfl, h1, r1⟩ := trodAll_cons r0
  obtain ⟨v2, vs2, d2, ds2, p2, q2, rfl, rfl, rfl, h2, r2⟩ := trodAll_cons r1
  obtain ⟨v3, vs3, d3, ds3, p3, q3, rfl, rfl, rfl, h3, r3⟩ := trodAll_cons r2
  obtain ⟨rfl, rfl, rfl⟩ := trodAll_nil r3
  obtain rfl : args = #[v0, v1, v2, v3] := by cases args; simp_all
  obtain ⟨rfl, rfl⟩ := trodVars_none hV
  obtain ⟨c0, rfl, hc0⟩ := okWide_struct Tryz.underlying26 (hval 0 26 v0 rfl rfl)
  have k0 := h0
  have lt0 : ∀ x ∈ p0, x.block < W.heap.size := by obtain ⟨m, hm⟩ := k0; exact DataW.trod_lt m _ _ _ hm
  obtain ⟨fuel0, hf0⟩ := h0
  obtain ⟨fa0, fl0, fc0, ta0, tl0, tc0, ga0, gl0, gc0, dn0, dt0, dg0, sf0, qn0, qt0, qg0, hcl0, rfl, hfn0, hft0, hfg0⟩ := setup_cells Tryz.underlying26 (by kernel_rfl) rfl rfl rfl (by kernel_rfl) (by kernel_rfl) (by kernel_rfl) Tryz.underlying22 Tryz.underlying23 Tryz.underlying24 hf0
  obtain rfl : c0 = #[.slice fa0 fl0 fc0, .slice ta0 tl0 tc0, .slice ga0 gl0 gc0] := by cases c0; simpa [Value.cells] using hcl0
  obtain ⟨fs0, yf0, ef0⟩ := nms_arg Tryz.underlying22 Tryz.underlying93 (by kernel_rfl) rfl rfl (by kernel_rfl) (by kernel_rfl) Tryz.underlying9 Tryz.underlying40 Tryz.underlying5 (by kernel_rfl) hfn0
  obtain ⟨ts0, yt0, et0⟩ := tps_arg Tryz.underlying23 Tryz.underlying98 (by kernel_rfl) rfl rfl (by kernel_rfl) (by kernel_rfl) Tryz.underlying9 Tryz.underlying96 Tryz.underlying40 (by kernel_rfl) Tryz.underlying5 (by kernel_rfl) hft0
  obtain ⟨gg0, yg0, eg0⟩ := faults_arg Tryz.underlying24 Tryz.underlying167 (by kernel_rfl) rfl rfl (by kernel_rfl) (by kernel_rfl) Tryz.underlying3 Tryz.underlying3 hfg0
  obtain rfl : fl0 = fs0.length := by obtain ⟨_, _, e, _⟩ := yf0; cases e; rfl
  obtain rfl : tl0 = ts0.length := by obtain ⟨_, _, e, _⟩ := yt0; cases e; rfl
  obtain rfl : gl0 = gg0.length := by obtain ⟨_, _, e, _⟩ := flts_form yg0; cases e; rfl
  have sm0 : Small Tryz.prog 26 (.agg [dn0, dt0, dg0]) := small_arg hsz (j := 0) rfl rfl
  have zf0 := named_small (sm0.fields Tryz.underlying26 0 _ _ rfl rfl) Tryz.underlying22 (by kernel_rfl) Tryz.underlying93 Tryz.underlying40 (by kernel_rfl) ef0
  have zt0 := typed_small (sm0.fields Tryz.underlying26 1 _ _ rfl rfl) Tryz.underlying23 (by kernel_rfl) Tryz.underlying98 Tryz.underlying96 Tryz.underlying40 (by kernel_rfl) (by kernel_rfl) et0
  have zg0 := faults_small (sm0.fields Tryz.underlying26 2 _ _ rfl rfl) Tryz.underlying24 (by kernel_rfl) eg0
  obtain ⟨c1, len1, cap1, rfl⟩ := okWide_slice Tryz.underlying27 (hval 1 27 v1 rfl rfl)
  have k1 := h1
  have lt1 : ∀ x ∈ p1, x.block < W.heap.size := by obtain ⟨m, hm⟩ := k1; exact DataW.trod_lt m _ _ _ hm
  obtain ⟨fuel1, hf1⟩ := h1
  obtain ⟨l1, y1, e1⟩ := ksts_arg Tryz.underlying27 Tryz.underlying42 (by kernel_rfl) rfl rfl rfl rfl rfl rfl (by kernel_rfl) (by kernel_rfl) (by kernel_rfl) (by kernel_rfl) (by kernel_rfl) (by kernel_rfl) Tryz.underlying3 Tryz.underlying9 Tryz.underlying3 Tryz.underlying3 Tryz.underlying3 Tryz.underlying40 Tryz.underlying5 (by kernel_rfl) hf1
  obtain rfl : len1 = l1.length := by obtain ⟨_, _, e, _⟩ := y1; cases e; rfl
  have z1 := ksteps_small (small_arg hsz (j := 1) (t := 27) rfl rfl) Tryz.underlying27 (by kernel_rfl) Tryz.underlying42 Tryz.underlying40 (by kernel_rfl) e1
  obtain ⟨a2, rfl, rfl, rfl, w2⟩ := open_int Tryz.underlying3 (hval 2 3 v2 rfl rfl) h2
  have b2 := bounds_i64 w2
  obtain ⟨c3, len3, cap3, rfl⟩ := okWide_slice Tryz.underlying60 (hval 3 60 v3 rfl rfl)
  have k3 := h3
  have lt3 : ∀ x ∈ p3, x.block < W.heap.size := by obtain ⟨m, hm⟩ := k3; exact DataW.trod_lt m _ _ _ hm
  obtain ⟨fuel3, hf3⟩ := h3
  obtain ⟨l3, y3, e3⟩ := rsts_arg Tryz.underlying60 Tryz.underlying74 (by kernel_rfl) rfl rfl rfl (by kernel_rfl) (by kernel_rfl) (by kernel_rfl) Tryz.underlying3 Tryz.underlying3 Tryz.underlying40 Tryz.underlying5 (by kernel_rfl) hf3
  obtain rfl : len3 = l3.length := by obtain ⟨_, _, e, _⟩ := y3; cases e; rfl
  have z3 : l3.length * 40 ≤ 140737488351232 := by
    rcases e3 with ⟨_, rfl⟩ | ⟨elems, spare, rfl, hll, hel⟩
    · simp
    · have := sized_slice hsz (j := 3) (t := 60) (e := 74) rfl rfl Tryz.underlying60
      rw [show Tryz.prog.bytesOf 74 = 40 by kernel_rfl] at this; simp only [reachBytes] at this; omega
  clear hA0
  refine (retryPlays_any _ _ _ _ _ _ _ _ _ _ fs0 ts0 gg0 l1 a2 l3 W yf0 yt0 yg0 y1 b2 y3 zf0 zt0 zg0 z1.1 z3).mono fun e W' ⟨he, bel⟩ => ?_
  subst he
  exact ⟨_, rfl, _, _, _, [], _, [], hW', trodAll_mk1 (shut_bool Tryz.underlying4 _), (trodAll_cons_mk (Below.trod laidOut (by kernel_rfl) (of_decide_eq_true (by kernel_rfl)) k0 bel lt0) (trodAll_cons_mk (Below.trod laidOut (by kernel_rfl) (of_decide_eq_true (by kernel_rfl)) k1 bel lt1) (trodAll_cons_mk (shut_int Tryz.underlying3 w2) (trodAll_cons_mk (Below.trod laidOut (by kernel_rfl) (of_decide_eq_true (by kernel_rfl)) k3 bel lt3) trodAll_mk0)))), rfl, bel.frame _, fun h => by cases h⟩

theorem over : Rows.retryPlaysRow.holds Tryz.pinned (OpenSpec.ofChange Rows.retryPlaysSpec) :=
  OpenClaim.holds_of_wide 5 Tryz.f5 rfl rfl rfl rfl rfl rfl rfl ⟨rfl, rfl, rfl, rfl, rfl⟩ rfl rfl rfl rfl rfl (by kernel_rfl) Tryz.func5 (by kernel_rfl)
    (of_decide_eq_true (by kernel_rfl)) (by unfold Func.isWrapper; first | (rw [if_pos (by decide +kernel)]; kernel_rfl) | (rw [if_neg (by decide +kernel)]; exact ⟨rfl, rfl⟩))
    (fun os started H enc _ => lifted os started H enc)
end Go.Proofs.YtkkicbhmcjbmbaaGreat.retryPlays
namespace Go.Proofs.YtkkicbhmcjbmbaaGreat
theorem retryPlays_holds : Rows.RetryPlaysSaid := retryPlays.over
#print axioms retryPlays_holds
end Go.Proofs.YtkkicbhmcjbmbaaGreat

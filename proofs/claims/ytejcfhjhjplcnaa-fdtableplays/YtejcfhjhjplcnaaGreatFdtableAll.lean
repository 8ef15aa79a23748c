/- FdtablePlays: for every setup of a kernel and all steps, tables of descriptors over it, through forks, answer each step as the page's do, list the same descriptors behind it, and leave the same kernel; the proof's frame around the walk. -/
import Derived.Test.YtejcfhjhjplcnaaGreatKM22
import Derived.Deep.LoopGhost
import Derived.ProofKit
import Derived.OpenShut
import Derived.ShutString
import Derived.ChangeOld
import Derived.Below
import Derived.SizedLaws
/- FdtablePlays, walked. -/
namespace Go.Proofs.YtejcfhjhjplcnaaGreat
open Go.RowKit Go.Maps

theorem TPair.new {w w1 w2 : World} {B kb mb : Nat} {K : KS} (h : Duo w B kb mb K K) (hB : B ≤ w.heap.size) (h1 : Tb w1 w.heap.size kb (fun _ => 0) (fun _ => false)) (hb1 : Below w.heap.size w w1) (hs1 : w1.heap.size = w.heap.size + 1) (h2 : RTb w2 w1.heap.size mb (fun _ => 0) (fun _ => false)) (hb2 : Below w1.heap.size w1 w2) (hs2 : w2.heap.size = w1.heap.size + 1) :
    TPair w2 B kb w.heap.size mb w1.heap.size ⟨K, fun _ => 0, fun _ => false⟩ := by
  obtain ⟨O, P, g1, g2, g3, g4⟩ := h
  have hb := hb1.trans (hb2.mono hb1.size)
  exact ⟨O, P, ⟨g1.below hb, h1.below hb2, fun e => by have := (g3 _ e).2.1; omega⟩, ⟨g2.below hb, h2, fun e => by have := (g4 _ e).2; omega⟩, fun j e => ⟨(g3 j e).1, by have := (g3 j e).2.1; omega, (g3 j e).2.2, by have := (g3 j e).2.1; omega⟩, fun j e => ⟨(g4 j e).1, by have := (g4 j e).2; omega, by have := (g4 j e).2; omega⟩, hB, by omega, by omega⟩
set_option maxRecDepth 100000 in
set_option maxHeartbeats 8000000 in
theorem fdtablePlays_any (a1 a2 a3 a4 : Option Addr) (c1 c2 c3 c4 : Nat) (fs : List Nm) (ts : List Tp) (g : List Fault) (l : List WSt) (w : World) (h1 : Nms w (.slice a1 fs.length c1) fs) (h2 : Tps w (.slice a2 ts.length c2) ts) (h3 : Flts w (.slice a3 g.length c3) g) (h4 : WSts w (.slice a4 l.length c4) l)
    (z1 : fs.length * 40 ≤ 140737488351232 ∧ ∀ j (hj : j < fs.length), fs[j].2.length ≤ 140737488351232) (z2 : ts.length * 40 ≤ 140737488351232 ∧ ∀ j (hj : j < ts.length), ts[j].2.length * 24 ≤ 140737488351232 ∧ ∀ i (hi : i < ts[j].2.length), ts[j].2[i].length ≤ 140737488351232) (z3 : g.length * 16 ≤ 140737488351232) (z4 : l.length * 80 ≤ 140737488351232) (z5 : ∀ i (hi : i < l.length), l[i].data.length ≤ 140737488351232) :
    Calls Tryz.prog 4 #[.agg #[.slice a1 fs.length c1, .slice a2 ts.length c2, .slice a3 g.length c3], .slice a4 l.length c4] w fun e w' => e = .returned (.bool true) ∧ Below w.heap.size w w' := by
  have hb0 := recv_below w (Obj.cells #[Value.slice a1 fs.length c1, Value.slice a2 ts.length c2, Value.slice a3 g.length c3] 26)
  obtain ⟨q0, q1, q2⟩ := trio_cells w (.slice a1 fs.length c1) (.slice a2 ts.length c2) (.slice a3 g.length c3) 26
  have HQ0 := hide (And.intro q0 (And.intro q1 q2))
  have H4 := hide h4
  have Z4 := hide (And.intro z4 z5)
  have HCf := hide fun w1 (hB1 : Below w.heap.size w w1) => config_any a1 a2 a3 c1 c2 c3 fs ts g w1 (h1.below hB1) (h2.below hB1) (h3.below hB1) z1 z2 z3
  have HCk := hide fun w1 (hB1 : Below w.heap.size w w1) => rkcheck_any (.slice a1 fs.length c1) (.slice a2 ts.length c2) (.slice a3 g.length c3) fs ts g w1 (h1.below hB1) (h2.below hB1) (h3.below hB1) z1.1 z2.1 (fun j hj => (z2.2 j hj).1) (by unfold maxLen; omega)
  have HPg := hide fun w1 (hB1 : Below w.heap.size w w1) => page_any a1 a2 a3 c1 c2 c3 fs ts g w1 (h1.below hB1) (h2.below hB1) (h3.below hB1) z1.1 ⟨z2.1, fun j hj => (z2.2 j hj).1⟩ z3
  have HZ := hide (And.intro z1.1 (And.intro z2.1 z3))
  have HB0 := hide hb0
  have hls : w.heap.size < (w.alloc (Obj.cells #[Value.slice a1 fs.length c1, Value.slice a2 ts.length c2, Value.slice a3 g.length c3] 26)).heap.size := size_new _ _
  clear h1 h2 h3 h4 z1 z2 z3 z4 z5 hb0 q0 q1 q2
  go_enter Tryz.func4, Tryz.ntmps4
  go_wp2_with fail
  generalize w.alloc (Obj.cells #[Value.slice a1 fs.length c1, Value.slice a2 ts.length c2, Value.slice a3 g.length c3] 26) = w0 at *
  refine (HCf.out w0 HB0.out).mono ?_
  rintro e w1 ⟨b1, d1, b2, d2, b3, d3, rfl, hN, hT, hF, hB1⟩
  have HB1 := hide (HB0.out.trans (hB1.mono HB0.out.size))
  have q0 := (hB1.cell (p := ⟨w.heap.size, 0, none⟩) hls).trans HQ0.out.1
  have q1 := (hB1.cell (p := ⟨w.heap.size, 1, none⟩) hls).trans HQ0.out.2.1
  have q2 := (hB1.cell (p := ⟨w.heap.size, 2, none⟩) hls).trans HQ0.out.2.2
  have hls1 : w.heap.size < w1.heap.size := Nat.lt_of_lt_of_le hls hB1.size
  have HQ := hide (And.intro q0 (And.intro q1 q2))
  clear q0 q1 q2 HQ0 hls
  by_cases hE : checkE fs ts g = 0
  case neg =>
    have HN := hide (knew_bad b1 b2 b3 d1 d2 d3 fs ts g w1 hN hT hF HZ.out.2.2 (by have := HZ.out.1; omega) (by have := HZ.out.2.1; omega) hE)
    clear hN hT hF hB1 HCf
    have HE := hide hE
    clear hE
    generalize checkE fs ts g = E at *
    go_wp2_with fail
    refine HN.out.mono ?_
    rintro e w2 ⟨rfl, hB2⟩
    have r0 := (hB2.cell (p := ⟨w.heap.size, 0, none⟩) hls1).trans HQ.out.1
    have r1 := (hB2.cell (p := ⟨w.heap.size, 1, none⟩) hls1).trans HQ.out.2.1
    have r2 := (hB2.cell (p := ⟨w.heap.size, 2, none⟩) hls1).trans HQ.out.2.2
    have HB2 := hide (HB1.out.trans (hB2.mono HB1.out.size))
    have hls2 : w.heap.size < w2.heap.size := Nat.lt_of_lt_of_le hls1 hB2.size
    clear hB2
    go_wp2_with fail
    refine (HPg.out w2 HB2.out).mono ?_
    rintro e w4 ⟨hB4, hor⟩
    rcases hor with ⟨hne, rfl⟩ | ⟨he0, _⟩
    case inr => exact absurd he0 HE.out
    have s0 := (hB4.cell (p := ⟨w.heap.size, 0, none⟩) hls2).trans r0
    have s1 := (hB4.cell (p := ⟨w.heap.size, 1, none⟩) hls2).trans r1
    have s2 := (hB4.cell (p := ⟨w.heap.size, 2, none⟩) hls2).trans r2
    have HB4 := hide (HB2.out.trans (hB4.mono HB2.out.size))
    clear hB4 r0 r1 r2 hne
    have hls4 : w.heap.size < w4.heap.size := World.block_lt_of_cell? w4 _ s0
    have HS := hide (And.intro s0 (And.intro s1 s2))
    go_wp2_with fail
    go_region_held3 (fun w' => w'.cell? ⟨w.heap.size, 0, none⟩ = some (.slice a1 fs.length c1) ∧ w'.cell? ⟨w.heap.size, 1, none⟩ = some (.slice a2 ts.length c2) ∧ w'.cell? ⟨w.heap.size, 2, none⟩ = some (.slice a3 g.length c3))
      (first | exact hx5 | exact ⟨s0, s1, s2⟩ | go_keep)
      (first
        | (go_at_call 16; refine (tnum_is _ _).mono ?_; rintro _ _ ⟨rfl, rfl⟩)
        | (go_at_call 9; refine (HCk.out w4.drew HB4.out.drew).mono ?_; rintro e w5 ⟨rfl, hB5⟩; have hx5 : w5.cell? ⟨w.heap.size, 0, none⟩ = some (.slice a1 fs.length c1) ∧ w5.cell? ⟨w.heap.size, 1, none⟩ = some (.slice a2 ts.length c2) ∧ w5.cell? ⟨w.heap.size, 2, none⟩ = some (.slice a3 g.length c3) := ⟨(hB5.cell (p := ⟨w.heap.size, 0, none⟩) hls4).trans HS.out.1, (hB5.cell (p := ⟨w.heap.size, 1, none⟩) hls4).trans HS.out.2.1, (hB5.cell (p := ⟨w.heap.size, 2, none⟩) hls4).trans HS.out.2.2⟩; have HB45 := hide (((Below.refl _ w4).drew).trans hB5); have HB5 := hide (HB4.out.trans (HB45.out.mono HB4.out.size)); clear hB5)
        | fail)
    clear hx5 s0 s1 s2
    go_wp2_with (first | (go_at_call 17; refine (talive_any _).mono ?_; rintro e w6 ⟨rfl, hB6⟩) | fail)
    go_ret
    exact ⟨rfl, HB5.out.trans (hB6.mono HB5.out.size)⟩
  have HN := hide (knew_good b1 b2 b3 d1 d2 d3 fs ts g w1 hN hT hF HZ.out.2.2 (by have := HZ.out.1; omega) (by have := HZ.out.2.1; omega) hE)
  clear hN hT hF hB1 HCf
  rw [hE] at HCk
  have HE := hide hE
  clear hE
  go_wp2_with fail
  refine HN.out.mono ?_
  rintro e w2 ⟨kb, rfl, hK, hB2⟩
  have r0 := (hB2.cell (p := ⟨w.heap.size, 0, none⟩) hls1).trans HQ.out.1
  have r1 := (hB2.cell (p := ⟨w.heap.size, 1, none⟩) hls1).trans HQ.out.2.1
  have r2 := (hB2.cell (p := ⟨w.heap.size, 2, none⟩) hls1).trans HQ.out.2.2
  have HK := hide hK.trim
  have HB2 := hide hB2
  have HBw2 := hide (HB1.out.trans (hB2.mono HB1.out.size))
  have HNn := hide (new_nums fs ts g)
  have HPi := hide (pinv_new fs ts g (new_de fs ts g))
  have hls2 : w.heap.size < w2.heap.size := Nat.lt_of_lt_of_le hls1 hB2.size
  clear hB2 hK HN
  go_wp2_with fail
  refine (HPg.out w2 HBw2.out).mono ?_
  rintro e w4 ⟨hB4, hor⟩
  rcases hor with ⟨hne, _⟩ | ⟨_, B, ρ, I, hBk, rfl, hRK⟩
  case inl => exact absurd HE.out hne
  have hM := RAt.of_page hBk hRK
  have s0 := (hB4.cell (p := ⟨w.heap.size, 0, none⟩) hls2).trans r0
  have s1 := (hB4.cell (p := ⟨w.heap.size, 1, none⟩) hls2).trans r1
  have s2 := (hB4.cell (p := ⟨w.heap.size, 2, none⟩) hls2).trans r2
  have hls4 : w.heap.size < w4.heap.size := World.block_lt_of_cell? w4 _ s0
  have HS := hide (And.intro s0 (And.intro s1 s2))
  have HB14 := hide (HB2.out.trans (hB4.mono HB2.out.size))
  have HB4 := hide (HB1.out.trans (HB14.out.mono HB1.out.size))
  have hz2 := HB2.out.size
  have hz4 := hB4.size
  have hD : Duo w4 w1.heap.size kb I.kb (KS.new fs ts g) (KS.new fs ts g) := ⟨_, _, HK.out.below hB4, hM.trim, fun j e => ⟨e.1, by have := e.2; omega, fun e' => by have := e.2; have := e'.1; omega⟩, fun j e => ⟨by have := e.1; omega, e.2⟩⟩
  have HD := hide hD
  generalize I.kb = mb at *
  clear hB4 r0 r1 r2 hM hRK hBk hD HK HPg
  generalize KS.new fs ts g = K0 at *
  go_wp2_with fail
  go_region_held3 (fun w' => w'.cell? ⟨w.heap.size, 0, none⟩ = some (.slice a1 fs.length c1) ∧ w'.cell? ⟨w.heap.size, 1, none⟩ = some (.slice a2 ts.length c2) ∧ w'.cell? ⟨w.heap.size, 2, none⟩ = some (.slice a3 g.length c3))
    (first | exact hx5 | exact ⟨s0, s1, s2⟩ | go_keep)
    (first
      | (go_at_call 16; refine (tnum_is _ _).mono ?_; rintro _ _ ⟨rfl, rfl⟩)
      | (go_at_call 9; refine (HCk.out w4.drew HB4.out.drew).mono ?_; rintro e w5 ⟨rfl, hB5⟩; have hx5 : w5.cell? ⟨w.heap.size, 0, none⟩ = some (.slice a1 fs.length c1) ∧ w5.cell? ⟨w.heap.size, 1, none⟩ = some (.slice a2 ts.length c2) ∧ w5.cell? ⟨w.heap.size, 2, none⟩ = some (.slice a3 g.length c3) := ⟨(hB5.cell (p := ⟨w.heap.size, 0, none⟩) hls4).trans HS.out.1, (hB5.cell (p := ⟨w.heap.size, 1, none⟩) hls4).trans HS.out.2.1, (hB5.cell (p := ⟨w.heap.size, 2, none⟩) hls4).trans HS.out.2.2⟩; have HB45 := hide (((Below.refl _ w4).drew).trans hB5); have HB5 := hide (HB4.out.trans (HB45.out.mono HB4.out.size)); clear hB5)
      | fail)
  clear hx5 s0 s1 s2
  have HD5 := hide (HD.out.below HB45.out)
  have HB15 := hide (HB14.out.trans (HB45.out.mono HB14.out.size))
  have hz5 := HB15.out.size
  have hcw := HB1.out.size
  clear HD HB45 HB14 HS HCk HQ HB2 HBw2 HB4
  go_wp2_with (first
    | (go_at_call 18; refine (tnew_any kb _).mono ?_; rintro e w6 ⟨rfl, t1, t2, t3⟩; have HT6 := hide (And.intro t1 (And.intro t2 t3)); clear t1 t2 t3)
    | (go_at_call 19; refine (rtnew_any mb _).mono ?_; rintro e w7 ⟨rfl, u1, u2, u3⟩; have HT7 := hide (And.intro u1 (And.intro u2 u3)); clear u1 u2 u3) | fail)
  have HP7 : Hid (TPair w7 w1.heap.size kb w5.heap.size mb w6.heap.size ⟨K0, fun _ => 0, fun _ => false⟩) := hide (TPair.new HD5.out hz5 HT6.out.1 HT6.out.2.1 HT6.out.2.2 HT7.out.1 HT7.out.2.1 HT7.out.2.2)
  have HB67 := hide (HT6.out.2.1.trans (HT7.out.2.1.mono HT6.out.2.1.size))
  have HB17 := hide (HB15.out.trans (HB67.out.mono HB15.out.size))
  clear HD5 HT6 HT7 HB67 HB15 hz5
  generalize w5.heap.size = t0 at *
  generalize w6.heap.size = u0 at *
  go_loopg [8, 9, 10, 11] l.length (fun gq s8 s9 s10 _ wx => ∃ (k t u : Nat) (S : TS), k + gq = l.length ∧ s8 = .pointer (some ⟨t, 0, none⟩) ∧ s9 = .pointer (some ⟨u, 0, none⟩) ∧ s10 = .int .i64 k ∧ Hid (TPair wx w1.heap.size kb t mb u S) ∧ Hid (PInv S.K) ∧ Hid (1 ≤ S.K.next ∧ S.K.next ≤ 1 + 256 * k ∧ S.K.reads ≤ 128 * k ∧ S.K.writes ≤ 128 * k) ∧ Hid (Below w1.heap.size w1 wx))
  case atStart => exact ⟨0, t0, u0, ⟨K0, fun _ => 0, fun _ => false⟩, by omega, rfl, rfl, rfl, HP7, HPi, hide (by have := HNn.out; show 1 ≤ K0.next ∧ K0.next ≤ 1 + 256 * 0 ∧ K0.reads ≤ 128 * 0 ∧ K0.writes ≤ 128 * 0; omega), HB17⟩
  case round =>
    clear HP7 HPi HNn HB17 HB5
    obtain ⟨k, t, u, S, hkg, rfl, rfl, rfl, HP, HPi, HNum, HBx⟩ := hrel
    have HBw := hide (HB1.out.trans (HBx.out.mono HB1.out.size))
    have hz4 := Z4.out.1
    have hBz := HBx.out.size
    by_cases hlt : k < l.length
    · obtain ⟨gq, rfl⟩ : ∃ gq, gk = gq + 1 := ⟨gk - 1, by omega⟩
      obtain ⟨b, off, ya, yc, rfl, hb, ⟨q0, q1, q2, q3, q4, q5, q6⟩, hby, hcap, hsz, i1, i2⟩ := WSts.at H4.out HBw.out k hlt
      have hdata := Z4.out.2 k hlt
      have hk1 : (0 : Int) ≤ (k : Int) := by omega
      have hk2 : (k : Int) < (l.length : Int) := by omega
      have hlow : 0 < l[k].data.length → ∀ j, (Value.slice ya l[k].data.length yc).ownBlock = some j → j < w.heap.size := fun h0 j hj => by
        obtain ⟨_, yb, yo, e2, e3, _⟩ := bys_block hby h0
        rw [e2] at hj
        cases hj
        exact e3
      have hcells : ∀ W, Turned (fun j => w1.heap.size ≤ j) wr W → W.cell? ⟨b, off + k * 7, none⟩ = some (.int .i64 l[k].what) ∧ W.cell? ⟨b, off + k * 7 + 1, none⟩ = some (.string l[k].name) ∧ W.cell? ⟨b, off + k * 7 + 2, none⟩ = some (.int .i64 l[k].a) ∧ W.cell? ⟨b, off + k * 7 + 3, none⟩ = some (.int .i64 l[k].b) ∧ W.cell? ⟨b, off + k * 7 + 4, none⟩ = some (.int .i64 l[k].c) ∧ W.cell? ⟨b, off + k * 7 + 5, none⟩ = some (.bool l[k].on) ∧ W.cell? ⟨b, off + k * 7 + 6, none⟩ = some (.slice ya l[k].data.length yc) := fun W hT => by
        have hn : ¬ w1.heap.size ≤ b := by omega
        exact ⟨cell_keep hT q0 hn, cell_keep hT q1 hn, cell_keep hT q2 hn, cell_keep hT q3 hn, cell_keep hT q4 hn, cell_keep hT q5 hn, cell_keep hT q6 hn⟩
      have HIn : Hid (∀ W, Turned (fun j => w1.heap.size ≤ j) wr W → WIn w1.heap.size W l[k] ya yc) := hide fun W hT => by
        have hbw := hby.below HBw.out
        refine ⟨?_, hcap, hsz, i1, i2, hdata, fun h0 j hj => ?_⟩
        · by_cases h0 : 0 < l[k].data.length
          · exact hbw.turned hT (fun j hj _ e => by have := hlow h0 j hj; have e' : w1.heap.size ≤ j := e; omega)
          · exact bys_none hbw h0
        · have h5 := hlow h0 j hj
          have := hT.size
          omega
      have HCl := hide hcells
      have hok := tok HP.out
      generalize hy : l[k] = y at *
      clear hy
      by_cases h10 : y.what = 10
      · obtain ⟨what, name, xa, xb, xc, xon, data⟩ := y
        simp only at *
        subst h10
        have HFk := hide HP.out.fork
        have HG0 := hide (TG.fork S 64)
        have HKs : Hid (KSmall (⟨(S.fork 64).1, (S.fork 64).2, fun _ => false⟩ : TS).K) := hide (by
          have h := HNum.out
          have h3 := HG0.out
          have := h3.up
          have := h3.next
          have := h3.reads
          have := h3.writes
          show KSmall (S.fork 64).1
          unfold KSmall
          omega)
        clear hby hcap hsz i1 i2 hdata hlow hcells
        go_wp2_with (first
            | (go_at_call 20; refine (HFk.out wr (Below.refl _ _)).mono ?_; rintro e wf ⟨c, rfl, hTf, hG⟩; have HG2 := hide hG; clear hTf hG)
            | (go_at_call 21; refine (HG2.out wf (Below.refl _ _)).mono ?_; rintro e wg ⟨c', rfl, hPg, hTg⟩; obtain ⟨q0, q1, q2, q3, q4, q5, q6⟩ := HCl.out wg hTg; have hzg := hTg.size; have HWn := hide (worn_any w1.heap.size kb c mb c' ⟨(S.fork 64).1, (S.fork 64).2, fun _ => false⟩ ⟨10, name, xa, xb, xc, xon, data⟩ ya yc wg hPg (Nat.le_trans hBz hzg) (HIn.out wg hTg) HKs.out); have HokG := hide (TG.worn (tok hPg).1 (tok hPg).2 ⟨10, name, xa, xb, xc, xon, data⟩); have HTg := hide hTg; clear hPg hTg)
            | (go_at_call 22; refine HWn.out.mono ?_; rintro e w6 ⟨rfl, hP6, hT6⟩; have HP6 := hide hP6; have HT6 := hide (HTg.out.trans hT6 (fun _ _ e => e)); clear hP6 hT6)
            | (go_at_call 24; refine (tlist_any c kb ((⟨(S.fork 64).1, (S.fork 64).2, fun _ => false⟩ : TS).worn ⟨10, name, xa, xb, xc, xon, data⟩) _ HP6.out.tabs.1).mono ?_; rintro e w7 ⟨v7, rfl, ho7, hB7⟩; have HO7 := hide ho7; have HB7 := hide hB7; clear ho7 hB7)
            | (go_at_call 25; refine (rtlist_any c' mb ((⟨(S.fork 64).1, (S.fork 64).2, fun _ => false⟩ : TS).worn ⟨10, name, xa, xb, xc, xon, data⟩) _ (HP6.out.below HB7.out).tabs.2).mono ?_; rintro e w8 ⟨v8, rfl, ho8, hB8⟩; have HO8 := hide ho8; have HB8 := hide hB8; clear ho8 hB8)
            | (go_at_call 23; refine (sameInts_any _ _ _ _ ((Nums.of_owns HO7.out).below HB8.out) (Nums.of_owns HO8.out) (by rw [List.length_map]; have := useds_len ((⟨(S.fork 64).1, (S.fork 64).2, fun _ => false⟩ : TS).worn ⟨10, name, xa, xb, xc, xon, data⟩).ds 64; omega)).mono ?_; rintro e w9 ⟨rfl, hB9⟩; have HB9 := hide hB9; clear hB9)
            | fail)
        have hT8 : Turned (fun j => w1.heap.size ≤ j) wr w9 := ((HT6.out.trans (Turned.of_below (S := fun j => w1.heap.size ≤ j) HB7.out) (fun _ _ e => e)).trans (Turned.of_below (S := fun j => w1.heap.size ≤ j) HB8.out) (fun _ _ e => e)).trans (Turned.of_below (S := fun j => w1.heap.size ≤ j) HB9.out) (fun _ _ e => e)
        have HT8 := hide hT8
        clear hT8
        go_roundg gq
        case measure => omega
        case rel => exact ⟨k + 1, c, c', ((⟨(S.fork 64).1, (S.fork 64).2, fun _ => false⟩ : TS).worn ⟨10, name, xa, xb, xc, xon, data⟩), by omega, rfl, rfl, by go_num, hide (((HP6.out.below HB7.out).below HB8.out).below HB9.out), hide (HokG.out.inv (HG0.out.inv HPi.out)), hide (by have h := HNum.out; have h2 := HokG.out; have h3 := HG0.out; exact ⟨Nat.le_trans (Nat.le_trans h.1 h3.up) h2.up, by have n1 : ((⟨(S.fork 64).1, (S.fork 64).2, fun _ => false⟩ : TS).worn ⟨10, name, xa, xb, xc, xon, data⟩).K.next ≤ (S.fork 64).1.next + 2 * 64 := h2.next; have := h3.next; omega, by have n1 : ((⟨(S.fork 64).1, (S.fork 64).2, fun _ => false⟩ : TS).worn ⟨10, name, xa, xb, xc, xon, data⟩).K.reads ≤ (S.fork 64).1.reads + 64 := h2.reads; have := h3.reads; omega, by have n1 : ((⟨(S.fork 64).1, (S.fork 64).2, fun _ => false⟩ : TS).worn ⟨10, name, xa, xb, xc, xon, data⟩).K.writes ≤ (S.fork 64).1.writes + 64 := h2.writes; have := h3.writes; omega⟩), hide (HBx.out.trans (HT8.out.below (fun _ e => e) hBz))⟩
      · have HWn := hide (worn_any w1.heap.size kb t mb u S y ya yc wr HP.out hBz (HIn.out wr (Turned.refl _ _)) (by have := HNum.out; unfold KSmall; omega))
        have HG := hide (TG.worn hok.1 hok.2 y)
        generalize S.worn y = S' at *
        have h10' : (y.what == 10) = false := by simpa using h10
        obtain ⟨what, name, xa, xb, xc, xon, data⟩ := y
        simp only at *
        clear hby hcap hsz i1 i2 hdata hlow hcells
        go_wp2_with (first
            | (go_at_call 22; refine HWn.out.mono ?_; rintro e w6 ⟨rfl, hP6, hT6⟩; have HP6 := hide hP6; have HT6 := hide hT6; clear hP6 hT6)
            | (go_at_call 24; refine (tlist_any t kb S' _ HP6.out.tabs.1).mono ?_; rintro e w7 ⟨v7, rfl, ho7, hB7⟩; have HO7 := hide ho7; have HB7 := hide hB7; clear ho7 hB7)
            | (go_at_call 25; refine (rtlist_any u mb S' _ (HP6.out.below HB7.out).tabs.2).mono ?_; rintro e w8 ⟨v8, rfl, ho8, hB8⟩; have HO8 := hide ho8; have HB8 := hide hB8; clear ho8 hB8)
            | (go_at_call 23; refine (sameInts_any _ _ _ _ ((Nums.of_owns HO7.out).below HB8.out) (Nums.of_owns HO8.out) (by rw [List.length_map]; have := useds_len S'.ds 64; omega)).mono ?_; rintro e w9 ⟨rfl, hB9⟩; have HB9 := hide hB9; clear hB9)
            | fail)
        have hT8 : Turned (fun j => w1.heap.size ≤ j) wr w9 := ((HT6.out.trans (Turned.of_below (S := fun j => w1.heap.size ≤ j) HB7.out) (fun _ _ e => e)).trans (Turned.of_below (S := fun j => w1.heap.size ≤ j) HB8.out) (fun _ _ e => e)).trans (Turned.of_below (S := fun j => w1.heap.size ≤ j) HB9.out) (fun _ _ e => e)
        have HT8 := hide hT8
        clear hT8
        go_roundg gq
        case measure => omega
        case rel => exact ⟨k + 1, t, u, S', by omega, rfl, rfl, by go_num, hide (((HP6.out.below HB7.out).below HB8.out).below HB9.out), hide (HG.out.inv HPi.out), hide (by have h := HNum.out; have h2 := HG.out; exact ⟨Nat.le_trans h.1 h2.up, by have := h2.next; omega, by have := h2.reads; omega, by have := h2.writes; omega⟩), hide (HBx.out.trans (HT8.out.below (fun _ e => e) hBz))⟩
    · have hk2 : ¬ (k : Int) < (l.length : Int) := by omega
      have HKs : Hid (KSmall S.K) := hide (by have := HNum.out; unfold KSmall; omega)
      go_wp2_with (first | (go_at_call 14; refine (same_kern w1.heap.size kb mb S.K wr HP.out.duo HPi.out HKs.out).mono ?_; rintro e w7 ⟨rfl, hB7⟩; have HB7 := hide (HBw.out.trans (hB7.mono HBw.out.size)); clear hB7) | (go_at_call 17; refine (talive_any _).mono ?_; rintro e w8 ⟨rfl, hB8⟩) | fail)
      go_ret
      exact ⟨rfl, HB7.out.trans (hB8.mono HB7.out.size)⟩
end Go.Proofs.YtejcfhjhjplcnaaGreat

/- FdtablePlays: for every setup of a kernel and all steps, tables of descriptors over it, through forks, answer each step as the page's do, list the same descriptors behind it, and leave the same kernel; the proof's frame around the walk. -/
namespace Go.Proofs.YtejcfhjhjplcnaaGreat.fdtablePlays
open Go.ChangeShapes Go.WideShapes Go.ChangeAt Go.RowKit
open Go.ChangeMaps (open_string shut_string)
set_option linter.unusedVariables false

theorem own : ownKnob Tryz.prog.godebug = none := by kernel_rfl
theorem laidOut : laidOutB Tryz.prog = true := by kernel_rfl

set_option maxRecDepth 100000 in
theorem lifted (os : Os) (started : os.Started) (H : Type) (enc : TypeId × Value → H) :
    ReturnsInHanded {} Tryz.checked os 4 .any (Rows.fdtablePlaysSpec.pre6 enc Tryz.prog Tryz.f4 Rows.fdtablePlaysRow.domain false) (Rows.fdtablePlaysSpec.post enc Tryz.prog Tryz.f4 false true false false) := by
  refine returnsInHanded_of_change_sized (C := Tryz.checked) own started (by kernel_rfl) Tryz.func4
    (ChangeSpec.witness6 (enc := enc) (C := Tryz.checked) false ⟨#[], #[.agg #[.slice none 0 0, .slice none 0 0, .slice none 0 0], .slice none 0 0], []⟩ 8 (by kernel_rfl) (by kernel_rfl) (by kernel_rfl) (by kernel_rfl)) ?_
  intro W base args ds gs before hval0 hW hcnd0 hsz0 _
  have hsz : (DataW.weightsEach Tryz.prog (Tryz.f4.params.toList ++ Rows.fdtablePlaysSpec.plain.varTypes Tryz.prog) (ds ++ gs)).all (· ≤ reachBytes) = true := hsz0
  clear hsz0
  have hval : ∀ (j : Nat) t v, Tryz.f4.params[j]? = some t → args[j]? = some v → Value.okWide Tryz.prog W .any base t v := hval0
  have hW' := hW
  obtain ⟨p, q, hA0, hV, rfl, hfz, hnd⟩ := hW
  have hA : DataW.TrodAll enc Tryz.prog W 0 (fun _ => true) true Tryz.f4.params.toList args.toList ds p := hA0
  rw [Tryz.params4] at hA hval hsz
  obtain ⟨v0, vs0, d0, ds0, p0, q0, hargs, rfl, rfl, h0, r0⟩ := trodAll_cons hA
  obtain ⟨v1, vs1, d1, ds1, p1, q1, rfl, rfl, rfl, h1, r1⟩ := trodAll_cons r0
  obtain ⟨rfl, rfl, rfl⟩ := trodAll_nil r1
  obtain rfl : args = #[v0, v1] := by cases args; simp_all
  obtain ⟨rfl, rfl⟩ := trodVars_none hV
  obtain ⟨c0, rfl, hc0⟩ := okWide_struct Tryz.underlying26 (hval 0 26 v0 rfl rfl)
  have k0 := h0
  have lt0 : ∀ x ∈ p0, x.block < W.heap.size := by obtain ⟨m, hm⟩ := k0; exact DataW.trod_lt m _ _ _ hm
  obtain ⟨fuel0, hf0⟩ := h0
  obtain ⟨fa0, fl0, fc0, ta0, tl0, tc0, ga0, gl0, gc0, dn0, dt0, dg0, sf0, qn0, qt0, qg0, hcl0, rfl, hfn0, hft0, hfg0⟩ := setup_cells Tryz.underlying26 (by kernel_rfl) rfl rfl rfl (by kernel_rfl) (by kernel_rfl) (by kernel_rfl) Tryz.underlying22 Tryz.underlying23 Tryz.underlying24 hf0
  obtain rfl : c0 = #[.slice fa0 fl0 fc0, .slice ta0 tl0 tc0, .slice ga0 gl0 gc0] := by cases c0; simpa [Value.cells] using hcl0
  obtain ⟨fs0, yf0, ef0⟩ := nms_arg Tryz.underlying22 Tryz.underlying119 (by kernel_rfl) rfl rfl (by kernel_rfl) (by kernel_rfl) Tryz.underlying9 Tryz.underlying40 Tryz.underlying5 (by kernel_rfl) hfn0
  obtain ⟨ts0, yt0, et0⟩ := tps_arg Tryz.underlying23 Tryz.underlying123 (by kernel_rfl) rfl rfl (by kernel_rfl) (by kernel_rfl) Tryz.underlying9 Tryz.underlying84 Tryz.underlying40 (by kernel_rfl) Tryz.underlying5 (by kernel_rfl) hft0
  obtain ⟨gg0, yg0, eg0⟩ := faults_arg Tryz.underlying24 Tryz.underlying190 (by kernel_rfl) rfl rfl (by kernel_rfl) (by kernel_rfl) Tryz.underlying3 Tryz.underlying3 hfg0
  obtain rfl : fl0 = fs0.length := by obtain ⟨_, _, e, _⟩ := yf0; cases e; rfl
  obtain rfl : tl0 = ts0.length := by obtain ⟨_, _, e, _⟩ := yt0; cases e; rfl
  obtain rfl : gl0 = gg0.length := by obtain ⟨_, _, e, _⟩ := flts_form yg0; cases e; rfl
  have sm0 : Small Tryz.prog 26 (.agg [dn0, dt0, dg0]) := small_arg hsz (j := 0) rfl rfl
  have zf0 := named_small (sm0.fields Tryz.underlying26 0 _ _ rfl rfl) Tryz.underlying22 (by kernel_rfl) Tryz.underlying119 Tryz.underlying40 (by kernel_rfl) ef0
  have zt0 := typed_small (sm0.fields Tryz.underlying26 1 _ _ rfl rfl) Tryz.underlying23 (by kernel_rfl) Tryz.underlying123 Tryz.underlying84 Tryz.underlying40 (by kernel_rfl) (by kernel_rfl) et0
  have zg0 := faults_small (sm0.fields Tryz.underlying26 2 _ _ rfl rfl) Tryz.underlying24 (by kernel_rfl) eg0
  obtain ⟨c1, len1, cap1, rfl⟩ := okWide_slice Tryz.underlying46 (hval 1 46 v1 rfl rfl)
  have k1 := h1
  have lt1 : ∀ x ∈ p1, x.block < W.heap.size := by obtain ⟨m, hm⟩ := k1; exact DataW.trod_lt m _ _ _ hm
  obtain ⟨fuel1, hf1⟩ := h1
  obtain ⟨l1, y1, e1⟩ : ∃ l, WSts W (.slice c1 len1 cap1) l ∧ DatL WDat d1 l := rows_arg 7 _ WDat Tryz.underlying46 (by kernel_rfl) (by decide) (fun fuel cs d p h hl => wst_cells Tryz.underlying52 (by kernel_rfl) rfl rfl rfl rfl rfl rfl rfl (by kernel_rfl) (by kernel_rfl) (by kernel_rfl) (by kernel_rfl) (by kernel_rfl) (by kernel_rfl) (by kernel_rfl) Tryz.underlying3 Tryz.underlying9 Tryz.underlying3 Tryz.underlying3 Tryz.underlying3 Tryz.underlying4 Tryz.underlying40 Tryz.underlying5 (by kernel_rfl) h) hf1
  obtain rfl : len1 = l1.length := by obtain ⟨_, _, e, _⟩ := RowsR.form y1; cases e; rfl
  obtain ⟨z1, zz1⟩ := mrows_small (msmall_arg hsz (j := 1) (t := 46) rfl rfl) Tryz.underlying46 (n := 80) (by kernel_rfl) e1
  have zl1 : ∀ i (hi : i < l1.length), l1[i].data.length ≤ 140737488351232 := fun i hi => by obtain ⟨di, s1, _, _, _, _, _, _, d6, rfl, s2⟩ := zz1 i hi; exact mbytes_small (s1.fields Tryz.underlying52 6 _ _ rfl rfl) Tryz.underlying40 (by kernel_rfl) s2
  clear hA0
  refine (fdtablePlays_any _ _ _ _ _ _ _ _ fs0 ts0 gg0 l1 W yf0 yt0 yg0 y1 zf0 zt0 zg0 z1 zl1).mono fun e W' ⟨he, bel⟩ => ?_
  subst he
  exact ⟨_, rfl, _, _, _, [], _, [], hW', trodAll_mk1 (shut_bool Tryz.underlying4 _), (trodAll_cons_mk (Below.trod laidOut (by kernel_rfl) (of_decide_eq_true (by kernel_rfl)) k0 bel lt0) (trodAll_cons_mk (Below.trod laidOut (by kernel_rfl) (of_decide_eq_true (by kernel_rfl)) k1 bel lt1) trodAll_mk0)), rfl, bel.frame _, fun h => by cases h⟩

theorem over : Rows.fdtablePlaysRow.holds Tryz.pinned (OpenSpec.ofChange Rows.fdtablePlaysSpec) :=
  OpenClaim.holds_of_wide 4 Tryz.f4 rfl rfl rfl rfl rfl rfl rfl ⟨rfl, rfl, rfl, rfl, rfl⟩ rfl rfl rfl rfl rfl (by kernel_rfl) Tryz.func4 (by kernel_rfl)
    (of_decide_eq_true (by kernel_rfl)) (by unfold Func.isWrapper; first | (rw [if_pos (by decide +kernel)]; kernel_rfl) | (rw [if_neg (by decide +kernel)]; exact ⟨rfl, rfl⟩))
    (fun os started H enc _ => lifted os started H enc)
end Go.Proofs.YtejcfhjhjplcnaaGreat.fdtablePlays
namespace Go.Proofs.YtejcfhjhjplcnaaGreat
theorem fdtablePlays_holds : Rows.FdtablePlaysSaid := fdtablePlays.over
#print axioms fdtablePlays_holds
end Go.Proofs.YtejcfhjhjplcnaaGreat

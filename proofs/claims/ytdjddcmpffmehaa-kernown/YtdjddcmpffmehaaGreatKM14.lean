/- What the proof stands on, part 14: the contracts of the program's calls that it reaches. -/
import Derived.Test.YtdjddcmpffmehaaGreatKM13
/- KernOwn, walked. -/
namespace Go.Proofs.YtdjddcmpffmehaaGreat
open Go.RowKit Go.Maps

set_option maxRecDepth 100000 in
set_option maxHeartbeats 16000000 in
theorem kernOwn_any (a1 a2 a3 : Option Addr) (c1 c2 c3 : Nat) (fs : List Nm) (ts : List Tp) (g : List Fault) (w : World) (h1 : Nms w (.slice a1 fs.length c1) fs) (h2 : Tps w (.slice a2 ts.length c2) ts) (h3 : Flts w (.slice a3 g.length c3) g)
    (z1 : fs.length * 40 ≤ 140737488351232 ∧ ∀ j (hj : j < fs.length), fs[j].2.length ≤ 140737488351232) (z2 : ts.length * 40 ≤ 140737488351232 ∧ ∀ j (hj : j < ts.length), ts[j].2.length * 24 ≤ 140737488351232 ∧ ∀ i (hi : i < ts[j].2.length), ts[j].2[i].length ≤ 140737488351232) (z3 : g.length * 16 ≤ 140737488351232) :
    Calls Tryz.prog 3 #[.agg #[.slice a1 fs.length c1, .slice a2 ts.length c2, .slice a3 g.length c3]] w fun e w' => e = .returned (.bool true) ∧ Below w.heap.size w w' := by
  have H2 := hide h2
  have H3 := hide h3
  have HZ1 := hide z1
  have HZ2 := hide z2
  have HAl := hide (alive_any (w.alloc (Obj.cells #[Value.slice a1 fs.length c1, Value.slice a2 ts.length c2, Value.slice a3 g.length c3] 26)))
  have HCf := hide fun w1 (hB1 : Below w.heap.size w w1) => config_own a1 a2 a3 c1 c2 c3 fs ts g w1 (h1.below hB1) (h2.below hB1) (h3.below hB1) z1 z2 z3
  have HZ := hide (And.intro z1.1 (And.intro z2.1 z3))
  have HNs := hide (And.intro (nms_sizes h1) (tps_sizes h2))
  have HBx := hide (recv_below w (Obj.cells #[Value.slice a1 fs.length c1, Value.slice a2 ts.length c2, Value.slice a3 g.length c3] 26))
  have HQ := hide (trio_cells w (.slice a1 fs.length c1) (.slice a2 ts.length c2) (.slice a3 g.length c3) 26)
  clear h1 h2 h3 z1 z2 z3
  go_enter Tryz.func3, Tryz.ntmps3
  go_wp2_with fail
  refine HAl.out.mono ?_
  rintro e w1 ⟨rfl, hB1⟩
  have HB1 : Hid (Below w.heap.size w w1) := hide (HBx.out.trans (hB1.mono HBx.out.size))
  have hlt := World.block_lt_of_cell? _ _ HQ.out.1
  have q0 := (hB1.cell hlt).trans HQ.out.1
  have q1 := (hB1.cell (p := ⟨w.heap.size, 1, none⟩) hlt).trans HQ.out.2.1
  have q2 := (hB1.cell (p := ⟨w.heap.size, 2, none⟩) hlt).trans HQ.out.2.2
  have HS1 : Hid (w.heap.size < w1.heap.size) := hide (World.block_lt_of_cell? _ _ q0)
  clear hB1 HAl HBx HQ hlt
  have HN1 := hide (nothing_any none w1 (.inl rfl))
  go_wp2_with fail
  refine HN1.out.mono ?_
  rintro e w1' ⟨rfl, rfl⟩
  have hBk := recv_below w1 (Obj.cells #[.bool false, .map none, .map none, .map none, .int .i64 0, .pointer none, .int .i64 0, .int .i64 0] 35)
  have hU0 : Unmade (some ⟨w1.heap.size, 0, none⟩) (w1.alloc (Obj.cells #[.bool false, .map none, .map none, .map none, .int .i64 0, .pointer none, .int .i64 0, .int .i64 0] 35)) := .inr ⟨_, rfl, by rw [cell_of_row _ _ _ _ _ _ (heap_alloc_new w1 _)]; rfl⟩
  have q0' := (hBk.cell (p := ⟨w.heap.size, 0, none⟩) HS1.out).trans q0
  have q1' := (hBk.cell (p := ⟨w.heap.size, 1, none⟩) HS1.out).trans q1
  have q2' := (hBk.cell (p := ⟨w.heap.size, 2, none⟩) HS1.out).trans q2
  have HBc := hide (HB1.out.trans (hBk.mono HB1.out.size))
  have HSc : Hid (w.heap.size < (w1.alloc (Obj.cells #[.bool false, .map none, .map none, .map none, .int .i64 0, .pointer none, .int .i64 0, .int .i64 0] 35)).heap.size) := hide (Nat.lt_of_lt_of_le HS1.out hBk.size)
  clear hBk q0 q1 q2 HB1 HS1 HN1
  go_wp2_with fail
  generalize w1.alloc (Obj.cells #[.bool false, .map none, .map none, .map none, .int .i64 0, .pointer none, .int .i64 0, .int .i64 0] 35) = wc at *
  refine (nothing_any _ wc hU0).mono ?_
  rintro e wc' ⟨rfl, rfl⟩
  have HQc := hide (And.intro q0' (And.intro q1' q2'))
  clear hU0
  go_wp2_with fail
  refine (HCf.out wc HBc.out).mono ?_
  rintro e w2 ⟨b1, d1, us1, b2, d2, us2, b3, d3, rfl, ⟨hF, hFc⟩, ⟨hT, hTl, hTc⟩, hG, hB2⟩
  have HB2 := hide (HBc.out.trans (hB2.mono HBc.out.size))
  have hBd := recv_below w2 (Obj.cells #[.slice b1 fs.length d1, .slice b2 ts.length d2, .slice b3 g.length d3] 36)
  obtain ⟨r0, r1, r2⟩ := trio_cells w2 (.slice b1 fs.length d1) (.slice b2 ts.length d2) (.slice b3 g.length d3) 36
  have hs3 : (w2.alloc (Obj.cells #[.slice b1 fs.length d1, .slice b2 ts.length d2, .slice b3 g.length d3] 36)).heap.size = w2.heap.size + 1 := by simp
  have hN3 := (nms_of_owns hF hFc HNs.out.1).below hBd
  have hT3 := (tps_of_owns hT hTl hTc HNs.out.2).below hBd
  have hG3 := (Flts.of_owns hG).below hBd
  have HF := hide (And.intro hF hFc)
  have HT := hide (And.intro hT (And.intro hTl hTc))
  have HG := hide hG
  have HQ2 : Hid (w2.cell? ⟨w.heap.size, 0, none⟩ = some (.slice a1 fs.length c1) ∧ w2.cell? ⟨w.heap.size, 1, none⟩ = some (.slice a2 ts.length c2) ∧ w2.cell? ⟨w.heap.size, 2, none⟩ = some (.slice a3 g.length c3)) := hide ⟨(hB2.cell (p := ⟨w.heap.size, 0, none⟩) HSc.out).trans HQc.out.1, (hB2.cell (p := ⟨w.heap.size, 1, none⟩) HSc.out).trans HQc.out.2.1, (hB2.cell (p := ⟨w.heap.size, 2, none⟩) HSc.out).trans HQc.out.2.2⟩
  have HSw : Hid (w.heap.size < wc.heap.size ∧ wc.heap.size ≤ w2.heap.size) := hide ⟨HSc.out, hB2.size⟩
  have HB3 := hide (HB2.out.trans (hBd.mono HB2.out.size))
  have HB23 := hide hBd
  have HS3 : Hid (w2.heap.size < (w2.alloc (Obj.cells #[.slice b1 fs.length d1, .slice b2 ts.length d2, .slice b3 g.length d3] 36)).heap.size) := hide (by rw [hs3]; exact Nat.lt_succ_self _)
  clear hF hFc hT hTl hTc hG hB2 HCf HQc q0' q1' q2' HSc HBc
  by_cases hE : checkE fs ts g = 0
  case neg =>
    have HN := hide (knew_bad b1 b2 b3 d1 d2 d3 fs ts g _ hN3 hT3 hG3 HZ.out.2.2 (by have := HZ.out.1; omega) (by have := HZ.out.2.1; omega) hE)
    clear hN3 hT3 hG3 hBd
    generalize checkE fs ts g = E at *
    go_wp2_with fail
    refine HN.out.mono ?_
    rintro e w4 ⟨rfl, hB4⟩
    have HB4 := hide (HB3.out.trans (hB4.mono HB3.out.size))
    clear hB4 HN
    go_wp2_with (first | (go_at_call 8; refine (num_kp _ _).mono ?_; rintro _ _ ⟨rfl, rfl⟩) | fail)
    go_ret
    exact ⟨rfl, HB4.out⟩
  have HN := hide (knew_good b1 b2 b3 d1 d2 d3 fs ts g _ hN3 hT3 hG3 HZ.out.2.2 (by have := HZ.out.1; omega) (by have := HZ.out.2.1; omega) hE)
  have HE := hide hE
  clear hN3 hT3 hG3 hBd hE
  go_wp2_with fail
  generalize (w2.alloc (Obj.cells #[.slice b1 fs.length d1, .slice b2 ts.length d2, .slice b3 g.length d3] 36)) = w3 at *
  refine HN.out.mono ?_
  rintro e w4 ⟨kb, rfl, hK, hB4⟩
  have HB4 := hide (HB3.out.trans (hB4.mono HB3.out.size))
  have HK4 := hide hK.trim
  have HS34 := hide hB4.size
  have HFi := hide hK.files
  have HFo := hide hK.files_ok
  have HR4 : Hid (w4.cell? ⟨w2.heap.size, 0, none⟩ = some (.slice b1 fs.length d1) ∧ w4.cell? ⟨w2.heap.size, 1, none⟩ = some (.slice b2 ts.length d2) ∧ w4.cell? ⟨w2.heap.size, 2, none⟩ = some (.slice b3 g.length d3)) := hide ⟨(hB4.cell (p := ⟨w2.heap.size, 0, none⟩) (by rw [hs3]; exact Nat.lt_succ_self _)).trans r0, (hB4.cell (p := ⟨w2.heap.size, 1, none⟩) (by rw [hs3]; exact Nat.lt_succ_self _)).trans r1, (hB4.cell (p := ⟨w2.heap.size, 2, none⟩) (by rw [hs3]; exact Nat.lt_succ_self _)).trans r2⟩
  have HB24 : Hid (Below w2.heap.size w2 w4) := hide (HB23.out.trans (hB4.mono HB23.out.size))
  clear hB4 hK r0 r1 r2 HN
  obtain ⟨K0, hK0⟩ : ∃ K0, K0 = KS.new fs ts g := ⟨_, rfl⟩
  rw [← hK0] at HK4 HFi HFo
  have HKq := hide hK0
  clear hK0
  go_wp2_with (first | (go_at_call 8; refine (num_kp _ _).mono ?_; rintro _ _ ⟨rfl, rfl⟩) | fail)
  refine HFi.out.mono ?_
  rintro e w5 ⟨v5, us5, rfl, hO5, hL5, hB5⟩
  have hN5 := nms_of_owns hO5 hL5 (fun j hj => (HFo.out.2 j hj).2)
  have HB45 := hide hB5
  have HCp := hide (copyNamed_any _ _ w5 hN5 (by have := HFo.out.1; omega) (fun j hj => by have := (HFo.out.2 j hj).1; omega))
  clear hO5 hL5 hB5 hN5 HFi
  go_wp2_with fail
  refine HCp.out.mono ?_
  rintro e w6 ⟨v6, us6, rfl, hO6, hL6, hB6⟩
  obtain ⟨wa, wcap, rfl⟩ := owns_slice hO6
  have hB46 := HB45.out.trans (hB6.mono HB45.out.size)
  have HW6 := hide (And.intro hO6 hL6)
  have HK6 := hide (HK4.out.below hB46)
  have HS46 := hide hB46.size
  have HS5 : Hid (w2.heap.size < w5.heap.size) := hide (by have := HS3.out; have := HS34.out; have := HB45.out.size; omega)
  have HB6 := hide (HB4.out.trans (hB46.mono HB4.out.size))
  have hB26 := HB24.out.trans (hB46.mono HB24.out.size)
  have HB26 := hide hB26
  have HR6 : Hid (w6.cell? ⟨w2.heap.size, 0, none⟩ = some (.slice b1 fs.length d1) ∧ w6.cell? ⟨w2.heap.size, 1, none⟩ = some (.slice b2 ts.length d2) ∧ w6.cell? ⟨w2.heap.size, 2, none⟩ = some (.slice b3 g.length d3)) := hide (by
    have hl := World.block_lt_of_cell? _ _ HR4.out.1
    exact ⟨(hB46.cell (p := ⟨w2.heap.size, 0, none⟩) hl).trans HR4.out.1, (hB46.cell (p := ⟨w2.heap.size, 1, none⟩) hl).trans HR4.out.2.1, (hB46.cell (p := ⟨w2.heap.size, 2, none⟩) hl).trans HR4.out.2.2⟩)
  have HF6 := hide (And.intro (owns_below HF.out.1 hB26) (HF.out.2.below hB26))
  have HT6 : Hid (w6.ownsRow wc.heap.size 50 2 (.slice b2 ts.length d2) ts.length (ncs ts us2) ∧ us2.length = ts.length ∧ ∀ j (hj : j < ts.length), ∃ u, us2[j]? = some u ∧ TC w6 wc.heap.size ts[j].2 u ∧ ∀ i (hi : i < ts[j].2.length), ∀ xs, w6.ownsRow wc.heap.size 45 1 u ts[j].2.length xs → ∃ v, xs[i]? = some v ∧ w6.ownsRow wc.heap.size 5 1 v ts[j].2[i].length (ts[j].2[i].map bv) ∧ ∀ m, v.ownBlock = some m → m < w2.heap.size) := hide (by
    refine ⟨owns_below HT.out.1 hB26, HT.out.2.1, fun j hj => ?_⟩
    obtain ⟨u, hu1, hu2⟩ := HT.out.2.2 j hj
    refine ⟨u, hu1, hu2.below hB26, fun i hi xs hxs => ?_⟩
    obtain ⟨xs', hx1, hx2⟩ := hu2
    have hx3 := owns_below hx1 hB26
    have hxe : xs = xs' := by
      rcases hxs.2 with ⟨e, h0⟩ | ⟨g1, cap1, cur1, e1, _, hh1, _, _, _, ht1⟩
      · omega
      · rcases hx3.2 with ⟨e, h0⟩ | ⟨g2, cap2, cur2, e2, _, hh2, _, _, _, ht2⟩
        · omega
        · rw [e1] at e2
          simp only [Value.slice.injEq, Option.some.injEq, Addr.mk.injEq] at e2
          obtain ⟨⟨rfl, _⟩, _⟩ := e2
          rw [hh1] at hh2
          cases hh2
          rw [← ht1, ← ht2]
    subst hxe
    obtain ⟨v, hv1, hv2⟩ := hx2.2.1 i hi
    exact ⟨v, hv1, owns_below hv2 hB26, fun m e => (hv2.lt m e).2⟩)
  have HG6 : Hid (0 < g.length → ∃ gb, b3 = some ⟨gb, 0, none⟩ ∧ wc.heap.size ≤ gb ∧ gb < w2.heap.size ∧ FSp w6 gb g.length) := hide (fun h0 => by
    obtain ⟨gb, e, x1, x2, x3⟩ := fault_addr HG.out h0
    refine ⟨gb, e, x1, x2, ?_⟩
    subst e
    exact fsp_of (owns_below HG.out hB26))
  have HFl := hide (fun j e => (HF.out.1.lt j e).2)
  have HFu : Hid (∀ k, k < fs.length → ∀ v j, us1[k]? = some v → v.ownBlock = some j → j < w2.heap.size) := hide (fun k hk v j e1 e2 => by
    obtain ⟨u, hu1, hu2⟩ := HF.out.2.2.1 k (by simpa using hk)
    rw [e1] at hu1
    cases hu1
    exact (hu2.lt j e2).2)
  clear hO6 hL6 hB6 hB46 HCp HK4 HR4 hB26
  go_wp2_with fail
  go_loopw [8] (fun i wr => ∃ k : Nat, k ≤ fs.length ∧ i = .int .i64 k ∧ Hid (Sp1 (fun j => wc.heap.size ≤ j ∧ j < w2.heap.size) (Value.slice b1 fs.length d1).ownBlock w6 wr)) (fun i _ => fs.length - (intOf i).toNat)
  case atStart => exact ⟨0, Nat.zero_le _, rfl, hide (Sp1.refl (fun g' e => by
      rcases HF6.out.1.2 with ⟨e', _⟩ | ⟨g1, cap, cur, e', _, hh, _⟩
      · simp only [Value.slice.injEq] at e'; obtain ⟨rfl, _⟩ := e'; cases e
      · simp only [Value.slice.injEq] at e'; obtain ⟨rfl, _⟩ := e'; cases e; exact ⟨cur.toList, by simpa using hh⟩))⟩
  case round =>
    obtain ⟨k, hk, rfl, HSp⟩ := hrel
    have hz1 := HZ1.out.1
    have r0 := HSp.out.tu.cell HR6.out.1 (fun e => by have := e.1.2; exact Nat.lt_irrefl _ this)
    by_cases hlt : k < fs.length
    · have hul : us1.length = fs.length := by have := HF6.out.2.1; simpa using this
      obtain ⟨n1, n2⟩ := ncs_get fs us1 k hlt hul
      obtain ⟨u, hu1, hu2⟩ := HF6.out.2.2.1 k (by simpa using hlt)
      simp only [List.getElem_map] at hu2
      obtain ⟨ua, uc, rfl⟩ := owns_slice hu2
      obtain ⟨g1, rfl, x0, ⟨cur1, x1⟩, x2⟩ := row_at HF6.out.1 (by omega) (show k * 2 < fs.length * 2 by omega) n1
      obtain ⟨g1', e1, y0, -⟩ := row_at HF6.out.1 (by omega) (show k * 2 + 1 < fs.length * 2 by omega) (n2.trans hu1)
      cases e1
      have y1 := HSp.out.od g1 rfl k _ y0
      have hC1 : wc.heap.size ≤ g1 ∧ g1 < w2.heap.size := ⟨x2, HFl.out g1 rfl⟩
      have HC1 := hide hC1
      have HX0 := hide x0
      have HSl := hide (HSp.out.spoil (u8_of_owns hu2) (fun j e => ⟨(hu2.lt j e).1, HFu.out k hlt _ j hu1 e⟩) (by have := HZ1.out.2 k hlt; unfold maxLen; omega))
      have hk1 : (0 : Int) ≤ (k : Int) := by omega
      have hk2 : (k : Int) < (fs.length : Int) := by omega
      clear n1 n2 hu1 hu2 x0 x1 x2 y0 hC1 hul
      go_wp2_with fail
      refine HSl.out.mono ?_
      rintro e w7 ⟨rfl, hS7⟩
      have r7 := hS7.tu.cell HR6.out.1 (fun e => by have := e.1.2; exact Nat.lt_irrefl _ this)
      obtain ⟨s7, hc7⟩ := hS7.ev g1 rfl k _ HX0.out
      obtain ⟨cur7, hh7⟩ := (hS7.tn g1 rfl).2
      have hf7 := frozen_of_row w7 g1 (k * 2) _ _ hh7
      have HS8 := hide (hS7.name (x := ⟨#[103, 111, 110, 101]⟩) HC1.out hc7)
      clear hS7 hh7 r0 y1
      go_wp2_with fail
      go_roundw
      case rel => exact ⟨k + 1, by omega, by go_num, HS8⟩
      case measure => simp [intOf]; omega
    · obtain rfl : k = fs.length := by omega
      go_wp2_with fail
      generalize wr = wl1 at *
      go_loopw [9] (fun i wr => ∃ k : Nat, k ≤ ts.length ∧ i = .int .i64 k ∧ Hid (Sp1 (fun j => wc.heap.size ≤ j ∧ j < w2.heap.size) (Value.slice b1 fs.length d1).ownBlock w6 wr)) (fun i _ => ts.length - (intOf i).toNat)
      case atStart => exact ⟨0, Nat.zero_le _, rfl, HSp⟩
      case round =>
        obtain ⟨k2, hk, rfl, HSq⟩ := hrel
        clear HSp r0
        have hz2 := HZ2.out.1
        have r1 := HSq.out.tu.cell HR6.out.2.1 (fun e => by have := e.1.2; exact Nat.lt_irrefl _ this)
        by_cases hlt : k2 < ts.length
        · obtain ⟨n1, n2⟩ := ncs_get ts us2 k2 hlt HT6.out.2.1
          obtain ⟨u, hu1, ⟨xs, hx1, hx2⟩, hall⟩ := HT6.out.2.2 k2 hlt
          obtain ⟨la, lc, rfl⟩ := owns_slice hx1
          obtain ⟨g2, rfl, y0, ⟨cur2, hh2⟩, x2⟩ := row_at HT6.out.1 (by omega) (show k2 * 2 + 1 < ts.length * 2 by omega) (n2.trans hu1)
          have HHr := hide (fun wr' (h : Sp1 (fun j => wc.heap.size ≤ j ∧ j < w2.heap.size) (Value.slice b1 fs.length d1).ownBlock w6 wr') => (ucell_same (h.other hh2 (by decide) (by decide))).trans y0)
          have HAl2 := hide (fun i (hi : i < ts[k2].2.length) => hall i hi xs hx1)
          have HX1 := hide hx1
          have hz3 := (HZ2.out.2 k2 hlt).1
          have HZl := hide (HZ2.out.2 k2 hlt).2
          have y1 := HHr.out wr HSq.out
          have hk1 : (0 : Int) ≤ (k2 : Int) := by omega
          have hk2 : (k2 : Int) < (ts.length : Int) := by omega
          obtain ⟨ls, hls⟩ : ∃ ls, ls = ts[k2].2 := ⟨_, rfl⟩
          rw [← hls] at HAl2 HX1 hz3 HZl HHr y1
          clear n1 n2 hu1 hx1 hx2 hall y0 hh2 x2 hls
          go_wp2_with fail
          go_loopw [10] (fun i wr => ∃ m : Nat, m ≤ ls.length ∧ i = .int .i64 m ∧ Hid (Sp1 (fun j => wc.heap.size ≤ j ∧ j < w2.heap.size) (Value.slice b1 fs.length d1).ownBlock w6 wr)) (fun i _ => ls.length - (intOf i).toNat)
          case atStart => exact ⟨0, Nat.zero_le _, rfl, HSq⟩
          case round =>
            obtain ⟨m, hm, rfl, HSr⟩ := hrel
            clear HSq y1 r1
            have r1 := HSr.out.tu.cell HR6.out.2.1 (fun e => by have := e.1.2; exact Nat.lt_irrefl _ this)
            have y1 := HHr.out wr HSr.out
            by_cases hlt2 : m < ls.length
            · obtain ⟨v, hv1, hv2, hv3⟩ := HAl2.out m hlt2
              obtain ⟨va, vc, rfl⟩ := owns_slice hv2
              obtain ⟨g3, rfl, p0, ⟨cur3, hh3⟩, -⟩ := row_at HX1.out (by omega) (show m < ls.length * 1 by omega) hv1
              have p1 := (ucell_same (HSr.out.other hh3 (by decide) (by decide))).trans p0
              have HSl := hide (HSr.out.spoil (u8_of_owns hv2) (fun j e => ⟨(hv2.lt j e).1, hv3 j e⟩) (by have := HZl.out m hlt2; unfold maxLen; omega))
              have hm1 : (0 : Int) ≤ (m : Int) := by omega
              have hm2 : (m : Int) < (ls.length : Int) := by omega
              clear hv1 hv2 hv3 p0 hh3
              go_wp2_with fail
              refine HSl.out.mono ?_
              rintro e w7 ⟨rfl, hS7⟩
              have HS7 := hide hS7
              clear hS7
              go_wp2_with fail
              go_roundw
              case rel => exact ⟨m + 1, by omega, by go_num, HS7⟩
              case measure => simp [intOf]; omega
            · go_wp2_with fail
              go_roundw
              case rel => exact ⟨k2 + 1, by omega, by go_num, HSr⟩
              case measure => simp [intOf]; omega
        · obtain rfl : k2 = ts.length := by omega
          have HT3 : Hid (Turned (fun j => wc.heap.size ≤ j ∧ j < w2.heap.size) w6 wr) := hide (HSq.out.tu.mono fun j e => e.1)
          have HG3 : Hid (0 < g.length → ∃ gb, b3 = some ⟨gb, 0, none⟩ ∧ wc.heap.size ≤ gb ∧ gb < w2.heap.size ∧ FSp wr gb g.length) := hide (fun h0 => by
            obtain ⟨gb, e, x1, x2, ⟨cur, x3, x4⟩⟩ := HG6.out h0
            exact ⟨gb, e, x1, x2, cur, (HSq.out.other x3 (by decide) (by decide)).trans x3, x4⟩)
          go_wp2_with fail
          generalize wr = wl2 at *
          go_loopw [11] (fun i wr => ∃ k : Nat, k ≤ g.length ∧ i = .int .i64 k ∧ Hid (Turned (fun j => wc.heap.size ≤ j ∧ j < w2.heap.size) w6 wr) ∧ Hid (0 < g.length → ∃ gb, b3 = some ⟨gb, 0, none⟩ ∧ wc.heap.size ≤ gb ∧ gb < w2.heap.size ∧ FSp wr gb g.length)) (fun i _ => g.length - (intOf i).toNat)
          case atStart => exact ⟨0, Nat.zero_le _, rfl, HT3, HG3⟩
          case round =>
            obtain ⟨k3, hk3, rfl, HTk, HGk⟩ := hrel
            clear HT3 HG3 HSq r1
            have hz3 := HZ.out.2.2
            have r2 := HTk.out.cell HR6.out.2.2 (fun e => by have := e.2; exact Nat.lt_irrefl _ this)
            by_cases hlt3 : k3 < g.length
            · obtain ⟨gb, rfl, x1, x2, x3⟩ := HGk.out (by omega)
              obtain ⟨u1, hc1⟩ := x3.cell (show k3 * 2 < g.length * 2 by omega)
              obtain ⟨u2, hc2⟩ := x3.cell (show k3 * 2 + 1 < g.length * 2 by omega)
              have hf1 := x3.soft (k3 * 2)
              have hf2 := x3.soft (k3 * 2 + 1)
              have hk1 : (0 : Int) ≤ (k3 : Int) := by omega
              have hk2 : (k3 : Int) < (g.length : Int) := by omega
              have HT4 : Hid (Turned (fun j => wc.heap.size ≤ j ∧ j < w2.heap.size) w6 ((wr.setCell ⟨gb, k3 * 2, none⟩ (.int .i64 3)).setCell ⟨gb, k3 * 2 + 1, none⟩ (.int .i64 0))) := hide ((HTk.out.set (.inl ⟨x1, x2⟩)).set (.inl ⟨x1, x2⟩))
              have HG4 : Hid (0 < g.length → ∃ gb', some (⟨gb, 0, none⟩ : Addr) = some ⟨gb', 0, none⟩ ∧ wc.heap.size ≤ gb' ∧ gb' < w2.heap.size ∧ FSp ((wr.setCell ⟨gb, k3 * 2, none⟩ (.int .i64 3)).setCell ⟨gb, k3 * 2 + 1, none⟩ (.int .i64 0)) gb' g.length) := hide (fun _ => ⟨gb, rfl, x1, x2, x3.set _ _ _ _⟩)
              clear x1 x2 x3
              go_wp2_with fail
              go_roundw
              case rel => exact ⟨k3 + 1, by omega, by go_num, HT4, HG4⟩
              case measure => simp [intOf]; omega
            · obtain rfl : k3 = g.length := by omega
              have HK7 := hide (HK6.out.keep (W' := wr) (fun j e _ => HTk.out.block j (Nat.lt_of_lt_of_le e.2 HS46.out) (fun e' => by have := e.1; have := e'.2; have := HS3.out; omega)) HTk.out.size)
              have HFi := hide HK7.out.files
              clear HGk hlt3 hk3
              go_wp2_with fail
              refine HFi.out.mono ?_
              rintro e w8 ⟨v8, us8, rfl, hO8, hL8, hB8⟩
              obtain ⟨xa, xc, rfl⟩ := owns_slice hO8
              have HT8 : Hid (Turned (fun j => wc.heap.size ≤ j ∧ j < w2.heap.size) w6 w8) := hide (HTk.out.trans (Turned.of_below (S := fun j => wc.heap.size ≤ j ∧ j < w2.heap.size) hB8) (fun _ _ e => e))
              have HX8 := hide (And.intro hO8 hL8)
              have HS8 : Hid (w6.heap.size ≤ wr.heap.size) := hide HTk.out.size
              have hfl := HFo.out.1
              clear hO8 hL8 hB8 HK7 HFi HTk r2
              generalize wr = wl3 at *
              go_wp2_with fail
              go_loopw [13] (fun i wr => ∃ k : Nat, k ≤ K0.files.length ∧ i = .int .i64 k ∧ Hid (Sp1 (fun j => wl3.heap.size ≤ j) none w8 wr)) (fun i _ => K0.files.length - (intOf i).toNat)
              case atStart => exact ⟨0, Nat.zero_le _, rfl, hide (Sp1.refl (fun g' e => by cases e))⟩
              case round =>
                obtain ⟨k4, hk4, rfl, HS4⟩ := hrel
                by_cases hlt4 : k4 < K0.files.length
                · have hul : us8.length = K0.files.length := by have := HX8.out.2.1; simpa using this
                  obtain ⟨n1, n2⟩ := ncs_get K0.files us8 k4 hlt4 hul
                  obtain ⟨u, hu1, hu2⟩ := HX8.out.2.2.1 k4 (by simpa using hlt4)
                  simp only [List.getElem_map] at hu2
                  obtain ⟨ua, uc, rfl⟩ := owns_slice hu2
                  obtain ⟨g1, rfl, y0, ⟨cur1, hh1⟩, -⟩ := row_at HX8.out.1 (by omega) (show k4 * 2 + 1 < K0.files.length * 2 by omega) (n2.trans hu1)
                  have y1 := (ucell_same (HS4.out.other' hh1 (by decide))).trans y0
                  have HSl := hide (HS4.out.spoil (u8_of_owns hu2) (fun j e => (hu2.lt j e).1) (by have := (HFo.out.2 k4 hlt4).1; unfold maxLen; omega))
                  have hk1 : (0 : Int) ≤ (k4 : Int) := by omega
                  have hk2 : (k4 : Int) < (K0.files.length : Int) := by omega
                  clear n1 n2 hu1 hu2 y0 hh1 hul
                  go_wp2_with fail
                  refine HSl.out.mono ?_
                  rintro e w9 ⟨rfl, hS9⟩
                  have HS9 := hide hS9
                  clear hS9
                  go_wp2_with fail
                  go_roundw
                  case rel => exact ⟨k4 + 1, by omega, by go_num, HS9⟩
                  case measure => simp [intOf]; omega
                · obtain rfl : k4 = K0.files.length := by omega
                  have HT9 : Hid (Turned (fun j => wc.heap.size ≤ j ∧ j < w2.heap.size) w6 wr) := hide (HT8.out.trans HS4.out.tu (fun j hj e => by have := e.1; have := HS8.out; omega))
                  have HK9 := hide (HK6.out.keep (W' := wr) (fun j e _ => HT9.out.block j (Nat.lt_of_lt_of_le e.2 HS46.out) (fun e' => by have := e.1; have := e'.2; have := HS3.out; omega)) HT9.out.size)
                  have HRe := hide HK9.out.rest
                  clear HS4 hlt4 hk4 HX8 HT8 HS8
                  go_wp2_with fail
                  refine HRe.out.mono ?_
                  rintro e w10 ⟨v10, rfl, hO10, hB10⟩
                  obtain ⟨ya, yc, rfl⟩ := owns_slice hO10
                  have HT10 : Hid (Turned (fun j => wc.heap.size ≤ j ∧ j < w2.heap.size) w6 w10) := hide (HT9.out.trans (Turned.of_below (S := fun j => wc.heap.size ≤ j ∧ j < w2.heap.size) hB10) (fun _ _ e => e))
                  have HY10 : Hid (0 < K0.plan.length → ∃ gb, ya = some ⟨gb, 0, none⟩ ∧ w6.heap.size ≤ gb ∧ FSp w10 gb K0.plan.length) := hide (fun h0 => by
                    obtain ⟨gb, e, x1, x2, x3⟩ := fault_addr hO10 h0
                    exact ⟨gb, e, Nat.le_trans HT9.out.size x1, x3⟩)
                  have HPl : Hid (K0.plan.length * 16 ≤ 140737488351232) := hide (by rw [HKq.out, new_plan]; exact HZ.out.2.2)
                  have hpl := HPl.out
                  clear hO10 hB10 HK9 HRe HT9
                  generalize wr = wl4 at *
                  go_wp2_with fail
                  go_loopw [15] (fun i wr => ∃ k : Nat, k ≤ K0.plan.length ∧ i = .int .i64 k ∧ Hid (Turned (fun j => wc.heap.size ≤ j ∧ j < w2.heap.size) w6 wr) ∧ Hid (0 < K0.plan.length → ∃ gb, ya = some ⟨gb, 0, none⟩ ∧ w6.heap.size ≤ gb ∧ FSp wr gb K0.plan.length)) (fun i _ => K0.plan.length - (intOf i).toNat)
                  case atStart => exact ⟨0, Nat.zero_le _, rfl, HT10, HY10⟩
                  case round =>
                    obtain ⟨k5, hk5, rfl, HTk, HYk⟩ := hrel
                    clear HT10 HY10
                    by_cases hlt5 : k5 < K0.plan.length
                    · obtain ⟨gb, rfl, x2, x3⟩ := HYk.out (by omega)
                      obtain ⟨u1, hc1⟩ := x3.cell (show k5 * 2 < K0.plan.length * 2 by omega)
                      obtain ⟨u2, hc2⟩ := x3.cell (show k5 * 2 + 1 < K0.plan.length * 2 by omega)
                      have hf1 := x3.soft (k5 * 2)
                      have hf2 := x3.soft (k5 * 2 + 1)
                      have hk1 : (0 : Int) ≤ (k5 : Int) := by omega
                      have hk2 : (k5 : Int) < (K0.plan.length : Int) := by omega
                      have HT4 : Hid (Turned (fun j => wc.heap.size ≤ j ∧ j < w2.heap.size) w6 ((wr.setCell ⟨gb, k5 * 2, none⟩ (.int .i64 2)).setCell ⟨gb, k5 * 2 + 1, none⟩ (.int .i64 0))) := hide ((HTk.out.set (.inr x2)).set (.inr x2))
                      have HG4 : Hid (0 < K0.plan.length → ∃ gb', some (⟨gb, 0, none⟩ : Addr) = some ⟨gb', 0, none⟩ ∧ w6.heap.size ≤ gb' ∧ FSp ((wr.setCell ⟨gb, k5 * 2, none⟩ (.int .i64 2)).setCell ⟨gb, k5 * 2 + 1, none⟩ (.int .i64 0)) gb' K0.plan.length) := hide (fun _ => ⟨gb, rfl, x2, x3.set _ _ _ _⟩)
                      clear x2 x3
                      go_wp2_with fail
                      go_roundw
                      case rel => exact ⟨k5 + 1, by omega, by go_num, HT4, HG4⟩
                      case measure => simp [intOf]; omega
                    · obtain rfl : k5 = K0.plan.length := by omega
                      have hTd : Turned (fun j => wc.heap.size ≤ j ∧ j < w2.heap.size) w6 wr.drew := HTk.out.trans (Turned.of_below (S := fun j => wc.heap.size ≤ j ∧ j < w2.heap.size) ((Below.refl _ wr).drew)) (fun _ _ e => e)
                      have HKd := hide (HK6.out.keep (W' := wr.drew) (fun j e _ => hTd.block j (Nat.lt_of_lt_of_le e.2 HS46.out) (fun e' => by have := e.1; have := e'.2; have := HS3.out; omega)) hTd.size)
                      have HFi := hide HKd.out.files
                      have HNs2 := hide (fun j hj => (HFo.out.2 j hj).2)
                      have HWd : Hid (Nms wr.drew (.slice wa K0.files.length wcap) K0.files) := hide (nms_of_owns (owns_turned HW6.out.1 hTd (fun j e e' => by have := (HW6.out.1.lt j e).1; have := e'.2; have := HS5.out; omega)) (HW6.out.2.turned hTd (fun j hj e' => by have := e'.2; have := HS5.out; omega)) HNs2.out)
                      have hBd : Below w.heap.size w wr.drew := HB6.out.trans (hTd.below (fun j e => by have := e.1; have := HSw.out; omega) HB6.out.size)
                      have HG3 := hide (H3.out.below hBd)
                      have hq6 := (HB26.out.cell (p := ⟨w.heap.size, 2, none⟩) (by have := HSw.out; show w.heap.size < _; omega)).trans HQ2.out.2.2
                      have qd2 : wr.drew.cell? ⟨w.heap.size, 2, none⟩ = some (.slice a3 g.length c3) := hTd.cell hq6 (fun e => by have h9 : wc.heap.size ≤ w.heap.size := e.1; have := HSw.out; omega)
                      have HSl : Hid (w.heap.size < wr.drew.heap.size) := hide (World.block_lt_of_cell? _ _ qd2)
                      have HTd := hide hTd
                      have HBd := hide hBd
                      have HQp : Hid (K0.plan = g) := hide (by rw [HKq.out]; exact new_plan _ _ _)
                      clear hTd hBd hq6 HYk hlt5 hk5 HTk
                      go_wp2_with fail
                      go_region_held3 (fun w' => w'.cell? ⟨w.heap.size, 2, none⟩ = some (.slice a3 g.length c3))
                        (first | exact K9 | exact K8 | exact K7 | exact K5 | go_keep)
                        (first
                          | (go_at_call 10; refine HFi.out.mono ?_; rintro e wF ⟨vF, usF, rfl, hOF, hLF, hBF⟩; have K5 := (hBF.cell (p := ⟨w.heap.size, 2, none⟩) HSl.out).trans qd2)
                          | (go_at_call 13; refine (sameNamed_any _ _ _ wF (nms_of_owns hOF hLF HNs2.out) (HWd.out.below hBF) (by have := HFo.out.1; unfold maxLen; omega) (fun j hj => by have := (HFo.out.2 j hj).1; unfold maxLen; omega)).mono ?_; rintro e wS ⟨rfl, hBS⟩; have hBS' := hBF.trans (hBS.mono hBF.size); have K7 := (hBS'.cell (p := ⟨w.heap.size, 2, none⟩) HSl.out).trans qd2)
                          | (go_at_call 12; refine ((HKd.out.below hBS').rest).mono ?_; rintro e wR ⟨vR, rfl, hOR, hBR⟩; have hBR' := hBS'.trans (hBR.mono hBS'.size); have K8 := (hBR'.cell (p := ⟨w.heap.size, 2, none⟩) HSl.out).trans qd2)
                          | (go_at_call 14; refine (samef_any _ _ g wR (by have := Flts.of_owns hOR; rw [HQp.out] at this; exact this) (HG3.out.below hBR') (by have := HZ.out.2.2; unfold maxLen; omega)).mono ?_; rintro e wQ ⟨rfl, hBQ⟩; have hBQ' := hBR'.trans (hBQ.mono hBR'.size); have K9 := (hBQ'.cell (p := ⟨w.heap.size, 2, none⟩) HSl.out).trans qd2)
                          | fail)
                      have HKQ : Hid (KAt wQ (fun j => w3.heap.size ≤ j ∧ j < wQ.heap.size) kb K0) := hide (((HKd.out.below hBQ').mono (O' := fun j => w3.heap.size ≤ j) (fun j e => e.1)).trim)
                      have HBQ := hide (HBd.out.trans (hBQ'.mono HBd.out.size))
                      have hq5 : wr.drew.cell? ⟨w.heap.size, 1, none⟩ = some (.slice a2 ts.length c2) := HTd.out.cell ((HB26.out.cell (p := ⟨w.heap.size, 1, none⟩) (by have := HSw.out; show w.heap.size < _; omega)).trans HQ2.out.2.1) (fun e => by have h9 : wc.heap.size ≤ w.heap.size := e.1; have := HSw.out; omega)
                      have HQ5 : Hid (wQ.cell? ⟨w.heap.size, 1, none⟩ = some (.slice a2 ts.length c2) ∧ wQ.cell? ⟨w.heap.size, 2, none⟩ = some (.slice a3 g.length c3)) := hide ⟨(hBQ'.cell (p := ⟨w.heap.size, 1, none⟩) HSl.out).trans hq5, K9⟩
                      have HS3w : Hid (w.heap.size < w3.heap.size ∧ w3.heap.size ≤ wQ.heap.size) := hide ⟨by have := HS3.out; have := HSw.out; omega, by have := HS34.out; have := HS46.out; have h9 : w6.heap.size ≤ wr.drew.heap.size := HTd.out.size; have := hBQ'.size; omega⟩
                      have HTm0 : Hid (Tm fs ts g 0 K0) := hide (by rw [HKq.out]; exact tm_new fs ts g)
                      have HNn : Hid (K0.next ≤ 1 + 0 ∧ K0.reads ≤ 0) := hide (by rw [HKq.out]; have := new_nums fs ts g; omega)
                      have HCk := hide (check_terms HE.out)
                      clear hq5 K9 K8 K7 K5 qd2 hBQ' hBR' hBS' hBF hBS hBR hBQ hOF hLF hOR HWd HG3 HFi HKd HTd HBd HSl HQp
                      go_wp2_with fail
                      generalize wr = wl5 at *
                      go_loopw [16] (fun i wr => ∃ (k : Nat) (K : KS), k ≤ ts.length ∧ i = .int .i64 k ∧ Hid (KAt wr (fun j => w3.heap.size ≤ j ∧ j < wr.heap.size) kb K) ∧ Hid (Tm fs ts g k K) ∧ Hid (K.next ≤ 1 + k ∧ K.reads ≤ k) ∧ Hid (Below w3.heap.size wQ wr)) (fun i _ => ts.length - (intOf i).toNat)
                      case atStart => exact ⟨0, K0, Nat.zero_le _, rfl, HKQ, HTm0, HNn, hide (Below.refl _ _)⟩
                      case round =>
                        obtain ⟨k, K, hk, rfl, HK, HTm, HNm, HBk⟩ := hrel
                        clear HKQ HTm0 HNn
                        have hz2 := HZ2.out.1
                        have hBw : Below w.heap.size w wr := HBQ.out.trans (HBk.out.mono (Nat.le_of_lt HS3w.out.1))
                        have q1 := (HBk.out.cell (p := ⟨w.heap.size, 1, none⟩) HS3w.out.1).trans HQ5.out.1
                        have q2 := (HBk.out.cell (p := ⟨w.heap.size, 2, none⟩) HS3w.out.1).trans HQ5.out.2
                        have HBw := hide hBw
                        by_cases hlt : k < ts.length
                        · obtain ⟨a2', c2', e2, -, h2c⟩ := H2.out
                          cases e2
                          obtain ⟨tb, toff, rfl, htc⟩ := h2c (by omega)
                          obtain ⟨la, lc, t0, t1, hln, hns⟩ := htc k hlt
                          have htl : tb < w.heap.size := World.block_lt_of_cell? w _ t0
                          have HTl := hide htl
                          have HT0 := hide t0
                          have HT1 := hide t1
                          have y0 := (hBw.cell (p := ⟨tb, toff + k * 2, none⟩) htl).trans t0
                          have hop := HTm.out.open (HK.out.ok).2 hlt
                          have HOp := hide (HK.out.open ts[k].1 1 hns (by have := HNm.out; omega))
                          rw [hop] at HOp
                          have hk1 : (0 : Int) ≤ (k : Int) := by omega
                          have hk2 : (k : Int) < (ts.length : Int) := by omega
                          have HLn := hide hln
                          have hI : I64 (K.next : Int) := ⟨by omega, by have := HNm.out; omega⟩
                          have HI := hide hI
                          have hz24 := (HZ2.out.2 k hlt).1
                          clear hop hI hln htc htl t0 t1 hBw
                          go_wp2_with fail
                          refine HOp.out.mono ?_
                          rintro e w7 ⟨rfl, hS7⟩
                          obtain ⟨hK7, hB7⟩ := hS7.at (B := w3.heap.size) (fun _ e => e.1) (Nat.le_trans HS3w.out.2 HBk.out.size)
                          have HB7 := hide (HBk.out.trans hB7)
                          have HKi := hide (hK7.kinds (K.next : Int) HI.out)
                          rw [HTm.out.kind hlt] at HKi
                          have HK7 := hide hK7
                          clear hS7 hK7 hB7 y0 q1 q2
                          have HK1 : Hid (K.reads < 9223372036854775807) := hide (by have := HNm.out; omega)
                          by_cases hg : g = []
                          · have HTe : Hid (Tm fs ts [] k K) := hide (hg ▸ HTm.out)
                            have hg1 : ((g.length : Int) == 0) = true := by rw [hg]; rfl
                            have HG0 := hide hg
                            clear hg
                            by_cases hl0 : 0 < ts[k].2.length
                            · obtain ⟨lb, loff, va0, vc0, rfl, l0, hby⟩ := HLn.out.at 0 hl0
                              have hll : lb < w.heap.size := World.block_lt_of_cell? w _ l0
                              have HLl := hide hll
                              have HL0 := hide l0
                              have HBy := hide hby
                              have hs4 := (newE_small (HCk.out k hlt)).2 0 hl0
                              have HF1 := hide (rdH_first hl0 hs4)
                              have HRd0 := hide (HTe.out.read hlt)
                              have hl1 : (0 : Int) < (ts[k].2.length : Int) := by omega
                              have HS4 := hide hs4
                              clear hll l0 hby hs4
                              go_wp2_with (first | (go_at_call 8; refine (num_kp _ _).mono ?_; rintro _ _ ⟨rfl, rfl⟩) | (go_at_call 16; refine HKi.out.mono ?_; rintro _ w8 ⟨rfl, hB8⟩; have hB8' := HB7.out.trans (hB8.mono (Nat.le_trans HS3w.out.2 HB7.out.size)); have p1 := (hB8'.cell (p := ⟨w.heap.size, 1, none⟩) HS3w.out.1).trans HQ5.out.1; have p2 := (hB8'.cell (p := ⟨w.heap.size, 2, none⟩) HS3w.out.1).trans HQ5.out.2; have hB8w := HBQ.out.trans (hB8'.mono (Nat.le_of_lt HS3w.out.1)); have y1 := (hB8w.cell (p := ⟨tb, toff + k * 2 + 1, none⟩) HTl.out).trans HT1.out; have HK8 := hide ((HK7.out.below hB8).trim.mono (O' := fun j => w3.heap.size ≤ j ∧ j < w8.heap.size) (fun j e => ⟨e.1.1, e.2⟩)); have HB8 := hide hB8'; have HB8w := hide hB8w; clear hB8 hB8' hB8w) | fail)
                              have HRd := hide (HK8.out.read (K.next : Int) 1048576 HI.out HK1.out)
                              rw [HRd0.out, HF1.out] at HRd
                              refine HRd.out.mono ?_
                              rintro e w9 ⟨v9, rfl, hO9, hK9, hT9⟩
                              obtain ⟨v9a, v9c, rfl⟩ := owns_slice hO9
                              have hB9 := HB8.out.trans (hT9.below (fun j e => e.1) (Nat.le_trans HS3w.out.2 HB8.out.size))
                              have hB9w := HBQ.out.trans (hB9.mono (Nat.le_of_lt HS3w.out.1))
                              have p1' := (hB9.cell (p := ⟨w.heap.size, 1, none⟩) HS3w.out.1).trans HQ5.out.1
                              have y1' := (hB9w.cell (p := ⟨tb, toff + k * 2 + 1, none⟩) HTl.out).trans HT1.out
                              have l1' := (hB9w.cell (p := ⟨lb, loff + 0, none⟩) HLl.out).trans HL0.out
                              have HSm := hide (same_any _ _ ts[k].2[0] w9 (Bys.of_owns hO9) (HBy.out.below hB9w) (by have := HS4.out; unfold maxLen; omega))
                              have HK9 := hide (hK9.trim.mono (O' := fun j => w3.heap.size ≤ j ∧ j < w9.heap.size) (fun j e => ⟨e.1.1, e.2⟩))
                              have HB9 := hide hB9
                              simp only [Nat.add_zero] at l1'
                              clear hO9 hK9 hT9 hB9 hB9w p1 p2 y1 HRd
                              go_wp2_with (first | (go_at_call 8; refine (num_kp _ _).mono ?_; rintro _ _ ⟨rfl, rfl⟩) | (go_at_call 18; refine HSm.out.mono ?_; rintro _ w10 ⟨rfl, hB10⟩) | fail)
                              have hB10' := HB9.out.trans (hB10.mono (Nat.le_trans HS3w.out.2 HB9.out.size))
                              have HK10 : Hid (KAt w10 (fun j => w3.heap.size ≤ j ∧ j < w10.heap.size) kb (K.tread (fs.length + k) ts[k].2)) := hide ((HK9.out.below hB10).trim.mono (fun j e => ⟨e.1.1, e.2⟩))
                              have HB10 := hide hB10'
                              refine (HK10.out.drops (K.next : Int) HI.out).mono ?_
                              rintro e w11 ⟨rfl, hS11⟩
                              obtain ⟨hK11, hB11⟩ := hS11.at (B := w3.heap.size) (fun _ e => e.1) (Nat.le_trans HS3w.out.2 HB10.out.size)
                              have HK11 := hide hK11
                              have HB11 := hide (HB10.out.trans hB11)
                              have HT11 : Hid (Tm fs ts g (k + 1) ((K.tread (fs.length + k) ts[k].2).dropK (K.next : Int))) := hide (by rw [HG0.out]; exact (HTe.out.read_drop hlt).1)
                              have HN11 : Hid (((K.tread (fs.length + k) ts[k].2).dropK (K.next : Int)).next ≤ 1 + (k + 1) ∧ ((K.tread (fs.length + k) ts[k].2).dropK (K.next : Int)).reads ≤ k + 1) := hide (by have h1 := (HTe.out.read_drop hlt).2; have := HNm.out; rw [h1.1, h1.2]; omega)
                              clear hS11 hK11 hB11 hB10 hB10' p1' y1' l1'
                              go_wp2_with fail
                              go_roundw
                              case rel => exact ⟨k + 1, _, by omega, by go_num, HK11, HT11, HN11, HB11⟩
                              case measure => simp [intOf]; omega
                            · have hl1 : ¬ (0 : Int) < (ts[k].2.length : Int) := by omega
                              go_wp2_with (first | (go_at_call 8; refine (num_kp _ _).mono ?_; rintro _ _ ⟨rfl, rfl⟩) | (go_at_call 16; refine HKi.out.mono ?_; rintro _ w8 ⟨rfl, hB8⟩; have hB8' := HB7.out.trans (hB8.mono (Nat.le_trans HS3w.out.2 HB7.out.size)); have p1 := (hB8'.cell (p := ⟨w.heap.size, 1, none⟩) HS3w.out.1).trans HQ5.out.1; have p2 := (hB8'.cell (p := ⟨w.heap.size, 2, none⟩) HS3w.out.1).trans HQ5.out.2; have hB8w := HBQ.out.trans (hB8'.mono (Nat.le_of_lt HS3w.out.1)); have y1 := (hB8w.cell (p := ⟨tb, toff + k * 2 + 1, none⟩) HTl.out).trans HT1.out; have HK8 := hide ((HK7.out.below hB8).trim.mono (O' := fun j => w3.heap.size ≤ j ∧ j < w8.heap.size) (fun j e => ⟨e.1.1, e.2⟩)); have HB8 := hide hB8'; have HB8w := hide hB8w; clear hB8 hB8' hB8w) | fail)
                              refine (HK8.out.drops (K.next : Int) HI.out).mono ?_
                              rintro e w9 ⟨rfl, hS9⟩
                              obtain ⟨hK9, hB9⟩ := hS9.at (B := w3.heap.size) (fun _ e => e.1) (Nat.le_trans HS3w.out.2 HB8.out.size)
                              have HK9 := hide hK9
                              have HB9 := hide (HB8.out.trans hB9)
                              have HT9 := hide (HTm.out.drop hlt)
                              have HN9 : Hid (((K.newDe (fs.length + k) 1).dropK (K.next : Int)).next ≤ 1 + (k + 1) ∧ ((K.newDe (fs.length + k) 1).dropK (K.next : Int)).reads ≤ k + 1) := hide (by have h1 := HTm.out.next hlt; have := HNm.out; rw [h1.1, h1.2]; omega)
                              clear hS9 hK9 hB9 p1 p2 y1
                              go_wp2_with fail
                              go_roundw
                              case rel => exact ⟨k + 1, _, by omega, by go_num, HK9, HT9, HN9, HB9⟩
                              case measure => simp [intOf]; omega
                          · have hg1 : ((g.length : Int) == 0) = false := by rw [beq_eq_false_iff_ne]; intro e; exact hg (List.length_eq_zero_iff.1 (by omega))
                            go_wp2_with (first | (go_at_call 8; refine (num_kp _ _).mono ?_; rintro _ _ ⟨rfl, rfl⟩) | (go_at_call 16; refine HKi.out.mono ?_; rintro _ w8 ⟨rfl, hB8⟩; have hB8' := HB7.out.trans (hB8.mono (Nat.le_trans HS3w.out.2 HB7.out.size)); have p1 := (hB8'.cell (p := ⟨w.heap.size, 1, none⟩) HS3w.out.1).trans HQ5.out.1; have p2 := (hB8'.cell (p := ⟨w.heap.size, 2, none⟩) HS3w.out.1).trans HQ5.out.2; have hB8w := HBQ.out.trans (hB8'.mono (Nat.le_of_lt HS3w.out.1)); have y1 := (hB8w.cell (p := ⟨tb, toff + k * 2 + 1, none⟩) HTl.out).trans HT1.out; have HK8 := hide ((HK7.out.below hB8).trim.mono (O' := fun j => w3.heap.size ≤ j ∧ j < w8.heap.size) (fun j e => ⟨e.1.1, e.2⟩)); have HB8 := hide hB8'; have HB8w := hide hB8w; clear hB8 hB8' hB8w) | fail)
                            refine (HK8.out.drops (K.next : Int) HI.out).mono ?_
                            rintro e w9 ⟨rfl, hS9⟩
                            obtain ⟨hK9, hB9⟩ := hS9.at (B := w3.heap.size) (fun _ e => e.1) (Nat.le_trans HS3w.out.2 HB8.out.size)
                            have HK9 := hide hK9
                            have HB9 := hide (HB8.out.trans hB9)
                            have HT9 := hide (HTm.out.drop hlt)
                            have HN9 : Hid (((K.newDe (fs.length + k) 1).dropK (K.next : Int)).next ≤ 1 + (k + 1) ∧ ((K.newDe (fs.length + k) 1).dropK (K.next : Int)).reads ≤ k + 1) := hide (by have h1 := HTm.out.next hlt; have := HNm.out; rw [h1.1, h1.2]; omega)
                            clear hS9 hK9 hB9 p1 p2 y1
                            go_wp2_with fail
                            go_roundw
                            case rel => exact ⟨k + 1, _, by omega, by go_num, HK9, HT9, HN9, HB9⟩
                            case measure => simp [intOf]; omega
                        · obtain rfl : k = ts.length := by omega
                          go_wp2_with fail
                          go_ret
                          exact ⟨rfl, HBw.out⟩
end Go.Proofs.YtdjddcmpffmehaaGreat

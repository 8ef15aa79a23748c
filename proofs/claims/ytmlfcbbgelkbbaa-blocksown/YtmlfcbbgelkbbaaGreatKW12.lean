/- What the proof stands on, part 12: the contracts of the program's calls that it reaches. -/
import Derived.Test.YtmlfcbbgelkbbaaGreatKW11
import Derived.Deep.DeepCutAuto
import Derived.Deep.RegionLaw
import Derived.Deep.RegionWith
/- BlocksOwn: the walk. -/
namespace Go.Proofs.YtmlfcbbgelkbbaaGreat
open Go.RowKit

def oneThree : List UInt8 := [111, 110, 101, 32, 116, 119, 111, 32, 116, 104, 114, 101, 101]
def boP : Plt := ⟨1, 0, oneThree, [], [], [], [], 0, false⟩
theorem bo_gre : grE boP.data = 0 := by decide
set_option linter.unusedSimpArgs false in
set_option maxRecDepth 100000 in
set_option maxHeartbeats 40000000 in
theorem lownb_any (x : SS) (o i b : Value) (size count : Int) (w : World) (h : SIn w (fun _ => True) x o i b) (ho : x.out.length ≤ 140737488351232) (hi : x.inn.length ≤ 140737488351232) (hb : x.back.length ≤ 140737488351232) :
    Calls Tryz.prog 6 #[.agg #[.bool x.rd, .bool x.wt, .int .i64 x.mode, .int .i64 x.size, o, i, b, .int .i64 x.dir, .bool x.fin, .bool x.bad, .bool x.closed], .int .i64 size, .int .i64 count] w fun e w' => e = .returned (.bool true) ∧ Below w.heap.size w w' := by
  have HI0 := hide h
  obtain ⟨s1, s4, rfl, -⟩ := h.so
  obtain ⟨s2, s5, rfl, -⟩ := h.si
  obtain ⟨s3, s6, rfl, -⟩ := h.sb
  clear h
  go_enter Tryz.func6, Tryz.ntmps6
  have HW : Hid (Below w.heap.size w w) := hide (Below.refl _ _)
  have hA := recv_below w (Obj.cells #[.bool x.rd, .bool x.wt, .int .i64 x.mode, .int .i64 x.size, .slice s1 x.out.length s4, .slice s2 x.inn.length s5, .slice s3 x.back.length s6, .int .i64 x.dir, .bool x.fin, .bool x.bad, .bool x.closed] 52)
  have HS := hide (RSt.new w x (.slice s1 x.out.length s4) (.slice s2 x.inn.length s5) (.slice s3 x.back.length s6))
  replace HW := hide (HW.out.trans (hA.mono HW.out.size))
  clear hA
  obtain ⟨c0, c1, c2, c3, c4, c5, c6, c7, c8, c9, c10⟩ := HS.out.cs
  go_wp2_with fail
  clear c0 c1 c2 c3 c4 c5 c6 c7 c8 c9 c10
  generalize w.alloc (Obj.cells #[.bool x.rd, .bool x.wt, .int .i64 x.mode, .int .i64 x.size, .slice s1 x.out.length s4, .slice s2 x.inn.length s5, .slice s3 x.back.length s6, .int .i64 x.dir, .bool x.fin, .bool x.bad, .bool x.closed] 52) = w0 at *
  refine (alive16 _).mono ?_
  rintro _ w1 ⟨rfl, hB⟩
  replace HW := hide (HW.out.trans (hB.mono HW.out.size))
  replace HS := hide (HS.out.below hB)
  clear hB
  have cl := conv_lit15 w1 #[.int .u8 111, .int .u8 110, .int .u8 101, .int .u8 32, .int .u8 116, .int .u8 119, .int .u8 111, .int .u8 32, .int .u8 116, .int .u8 104, .int .u8 114, .int .u8 101, .int .u8 101] 13 13 rfl
  have hb1 := lit_bys15 w1 oneThree #[.int .u8 111, .int .u8 110, .int .u8 101, .int .u8 32, .int .u8 116, .int .u8 119, .int .u8 111, .int .u8 32, .int .u8 116, .int .u8 104, .int .u8 114, .int .u8 101, .int .u8 101] 13 (13, 14) rfl rfl
  have hB := (Below.refl _ w1).alloc (Nat.le_refl _) (Obj.cells #[.int .u8 111, .int .u8 110, .int .u8 101, .int .u8 32, .int .u8 116, .int .u8 119, .int .u8 111, .int .u8 32, .int .u8 116, .int .u8 104, .int .u8 114, .int .u8 101, .int .u8 101] 5 (13, 14))
  have HMk := hide (fun W (h : PltIn W boP (.slice (some ⟨w1.heap.size, 0, none⟩) 13 13) (.slice none 0 0) (.slice none 0 0) (.slice none 0 0) (.slice none 0 0)) => make_growing_g boP _ _ _ _ _ W h (by kernel_rfl))
  have HM := hide (HMk.out _ ⟨⟨_, _, rfl, hb1, Nat.le_refl _⟩, rows_ans (.inl ⟨rfl, rfl⟩), rows_ints (.inl ⟨rfl, rfl⟩), .inl ⟨rfl, rfl⟩, .inl ⟨rfl, rfl⟩⟩)
  replace HW := hide (HW.out.trans (hB.mono HW.out.size))
  replace HS := hide (HS.out.below hB)
  clear hB hb1 HMk
  go_wp2_with fail
  clear cl
  generalize w1.alloc (Obj.cells #[.int .u8 111, .int .u8 110, .int .u8 101, .int .u8 32, .int .u8 116, .int .u8 119, .int .u8 111, .int .u8 32, .int .u8 116, .int .u8 104, .int .u8 114, .int .u8 101, .int .u8 101] 5 (13, 14)) = w2 at *
  refine HM.out.mono ?_
  rintro _ w3 ⟨hB, h2⟩
  clear HM
  have z3 := hB.size
  have zw : w.heap.size ≤ w2.heap.size := HW.out.size
  replace HW := hide (HW.out.trans (hB.mono HW.out.size))
  replace HS := hide (HS.out.below hB)
  clear hB
  rcases h2 with ⟨h2, -⟩ | ⟨mb, hmb, rfl, gq, s0, O, hM0, hA, hO⟩
  · exact absurd bo_gre h2
  have HM0 := hide hM0
  have HMl : Hid (mb < w3.heap.size) := hide (World.block_lt_of_cell? _ _ HM0.out)
  have HOl : Hid (∀ j, O j → mb + 1 ≤ j ∧ j < w3.heap.size) := hide hO
  have HA := hide hA
  clear hM0 hA hO
  have HGv := hide (fun W (hs : SIn W (fun _ => True) x (.slice s1 x.out.length s4) (.slice s2 x.inn.length s5) (.slice s3 x.back.length s6)) => given_any x _ _ _ _ W hs ho hi hb)
  obtain ⟨c0, c1, c2, c3, c4, c5, c6, c7, c8, c9, c10⟩ := HS.out.cs
  go_wp2_with fail
  clear c0 c1 c2 c3 c4 c5 c6 c7 c8 c9 c10
  refine (HGv.out _ (HI0.out.below HW.out)).mono ?_
  rintro _ w4 ⟨o1, i1, b1, rfl, y1, y2, y3, hB, hAp⟩
  obtain ⟨g1, g4, rfl⟩ := owns_slice y1
  obtain ⟨g2, g5, rfl⟩ := owns_slice y2
  obtain ⟨g3, g6, rfl⟩ := owns_slice y3
  have HX : Hid (Own3 w3.heap.size w4 x (.slice g1 x.out.length g4) (.slice g2 x.inn.length g5) (.slice g3 x.back.length g6)) := hide ⟨y1, y2, y3, hAp⟩
  have HXl := hide HX.out.lt
  have HXu : Hid (Ub w4.heap.size (.slice g1 x.out.length g4) (.slice g2 x.inn.length g5) (.slice g3 x.back.length g6)) := hide ⟨fun k e => (HXl.out.1 k e).2, fun k e => (HXl.out.2.1 k e).2, fun k e => (HXl.out.2.2 k e).2⟩
  have z4 := hB.size
  replace HW := hide (HW.out.trans (hB.mono HW.out.size))
  replace HS := hide (HS.out.below hB)
  replace HM0 := hide ((hB.cell (World.block_lt_of_cell? _ _ HM0.out)).trans HM0.out)
  replace HA := hide ((gmem_o gq s0).keep HA.out (fun j _ hl => hB.block j hl) hB.size)
  clear y1 y2 y3 hB hAp HGv HI0
  have hA := recv_below w4 (Obj.cells #[.bool x.rd, .bool x.wt, .int .i64 x.mode, .int .i64 x.size, .slice g1 x.out.length g4, .slice g2 x.inn.length g5, .slice g3 x.back.length g6, .int .i64 x.dir, .bool x.fin, .bool x.bad, .bool x.closed] 58)
  have HG := hide (StAt.new w4 x (.slice g1 x.out.length g4) (.slice g2 x.inn.length g5) (.slice g3 x.back.length g6))
  replace HW := hide (HW.out.trans (hA.mono HW.out.size))
  replace HS := hide (HS.out.below hA)
  replace HM0 := hide ((hA.cell (World.block_lt_of_cell? _ _ HM0.out)).trans HM0.out)
  replace HA := hide ((gmem_o gq s0).keep HA.out (fun j _ hl => hA.block j hl) hA.size)
  replace HX := hide (HX.out.below hA)
  clear hA
  have z5 : w4.heap.size < (w4.alloc (Obj.cells #[.bool x.rd, .bool x.wt, .int .i64 x.mode, .int .i64 x.size, .slice g1 x.out.length g4, .slice g2 x.inn.length g5, .slice g3 x.back.length g6, .int .i64 x.dir, .bool x.fin, .bool x.bad, .bool x.closed] 58)).heap.size := HG.out.lt
  go_upto_region 7 with fail
  generalize w4.alloc (Obj.cells #[.bool x.rd, .bool x.wt, .int .i64 x.mode, .int .i64 x.size, .slice g1 x.out.length g4, .slice g2 x.inn.length g5, .slice g3 x.back.length g6, .int .i64 x.dir, .bool x.fin, .bool x.bad, .bool x.closed] 58) = w5 at *
  obtain ⟨c0, c1, c2, c3, c4, c5, c6, c7, c8, c9, c10⟩ := HG.out.cs
  go_wp2_with fail
  clear c0 c1 c2 c3 c4 c5 c6 c7 c8 c9 c10
  refine (bread_nil x _ _ _ _ _ _ size count w5 HX.out.sin ho hi hb).mono ?_
  rintro _ w6 ⟨a1, a2, a3, k1, k2, k3, rfl, hB⟩
  have z6 := hB.size
  replace HW := hide (HW.out.trans (hB.mono HW.out.size))
  replace HS := hide (HS.out.below hB)
  replace HM0 := hide ((hB.cell (World.block_lt_of_cell? _ _ HM0.out)).trans HM0.out)
  replace HA := hide ((gmem_o gq s0).keep HA.out (fun j _ hl => hB.block j hl) hB.size)
  replace HX := hide (HX.out.below hB)
  replace HG := hide (HG.out.below hB)
  clear hB
  have hA := recv_below w6 (Obj.cells #[.bool x.rd, .bool x.wt, .int .i64 x.mode, .int .i64 x.size, .slice a1 x.out.length k1, .slice a2 x.inn.length k2, .slice a3 x.back.length k3, .int .i64 x.dir, .bool x.fin, .bool x.bad, .bool x.closed] 58)
  have z7 := hA.size
  replace HW := hide (HW.out.trans (hA.mono HW.out.size))
  replace HS := hide (HS.out.below hA)
  replace HM0 := hide ((hA.cell (World.block_lt_of_cell? _ _ HM0.out)).trans HM0.out)
  replace HA := hide ((gmem_o gq s0).keep HA.out (fun j _ hl => hA.block j hl) hA.size)
  replace HX := hide (HX.out.below hA)
  replace HG := hide (HG.out.below hA)
  clear hA
  go_upto_region 8 with fail
  generalize w6.alloc (Obj.cells #[.bool x.rd, .bool x.wt, .int .i64 x.mode, .int .i64 x.size, .slice a1 x.out.length k1, .slice a2 x.inn.length k2, .slice a3 x.back.length k3, .int .i64 x.dir, .bool x.fin, .bool x.bad, .bool x.closed] 58) = w7 at *
  obtain ⟨c0, c1, c2, c3, c4, c5, c6, c7, c8, c9, c10⟩ := HG.out.cs
  go_wp2_with fail
  clear c0 c1 c2 c3 c4 c5 c6 c7 c8 c9 c10
  refine (bwrite_nil x _ _ _ _ _ _ size count w7 HX.out.sin ho hi hb).mono ?_
  rintro _ w8 ⟨a1, a2, a3, k1, k2, k3, rfl, hB⟩
  have z8 := hB.size
  replace HW := hide (HW.out.trans (hB.mono HW.out.size))
  replace HS := hide (HS.out.below hB)
  replace HM0 := hide ((hB.cell (World.block_lt_of_cell? _ _ HM0.out)).trans HM0.out)
  replace HA := hide ((gmem_o gq s0).keep HA.out (fun j _ hl => hB.block j hl) hB.size)
  replace HX := hide (HX.out.below hB)
  replace HG := hide (HG.out.below hB)
  clear hB
  have hA := recv_below w8 (Obj.cells #[.bool x.rd, .bool x.wt, .int .i64 x.mode, .int .i64 x.size, .slice a1 x.out.length k1, .slice a2 x.inn.length k2, .slice a3 x.back.length k3, .int .i64 x.dir, .bool x.fin, .bool x.bad, .bool x.closed] 58)
  have z9 := hA.size
  replace HW := hide (HW.out.trans (hA.mono HW.out.size))
  replace HS := hide (HS.out.below hA)
  replace HM0 := hide ((hA.cell (World.block_lt_of_cell? _ _ HM0.out)).trans HM0.out)
  replace HA := hide ((gmem_o gq s0).keep HA.out (fun j _ hl => hA.block j hl) hA.size)
  replace HX := hide (HX.out.below hA)
  replace HG := hide (HG.out.below hA)
  clear hA
  go_upto_region 9 with fail
  generalize w8.alloc (Obj.cells #[.bool x.rd, .bool x.wt, .int .i64 x.mode, .int .i64 x.size, .slice a1 x.out.length k1, .slice a2 x.inn.length k2, .slice a3 x.back.length k3, .int .i64 x.dir, .bool x.fin, .bool x.bad, .bool x.closed] 58) = w9 at *
  obtain ⟨r, hr⟩ : ∃ r, r = x.refuse false := ⟨_, rfl⟩
  rw [← hr]
  have HR : Hid (r = if x.may = true then 2 else 51) := hide (by
    rw [hr]
    unfold SS.refuse
    by_cases hm : x.may = true
    · rw [if_neg (by simp [hm]), if_pos rfl, if_pos hm]
    · rw [if_pos (by simpa using hm), if_neg hm])
  clear hr
  have HCk := hide (rcheck11_any x s1 s2 s3 s4 s5 s6 w9 hi hb)
  go_cut [17] (fun v17 wx => v17 = .int .i64 2 ∧ wx = w9)
  case first =>
    go_wp2
    go_meet
    exact ⟨rfl, rfl⟩
  case rest =>
  obtain ⟨rfl, hq0⟩ := hcut
  rw [hq0]
  clear hq0
  apply_assumption
  refine wp_seq_k ?_
  intro K9 hK9
  go_cut [17] (fun v17 wx => v17 = .int .i64 r ∧ Hid (Below w9.heap.size w9 wx))
  case first =>
    obtain ⟨c0, c1, c2, c3, c4, c5, c6, c7, c8, c9, c10⟩ := HS.out.cs
    by_cases hm : x.may = true
    case' pos =>
      have hr2 : r = 2 := by rw [HR.out, if_pos hm]
      rw [if_pos hm] at HCk
    case' neg =>
      have hr2 : r = 51 := by rw [HR.out, if_neg hm]
      rw [if_neg hm] at HCk
    all_goals
      have HR2 := hide hr2
      clear hr2 hm
      go_wp2_with fail
      refine HCk.out.mono ?_
      rintro _ w12 ⟨rfl, hB⟩
      have HB := hide hB
      clear hB
      go_wp2
      go_meet
      exact ⟨by rw [HR2.out], HB⟩
  case rest =>
  obtain ⟨rfl, HBc⟩ := hcut
  obtain ⟨w12, hq⟩ : ∃ W, W = wc := ⟨_, rfl⟩
  rw [← hq] at HBc ⊢
  clear hq HCk HR
  have z12 := HBc.out.size
  replace HW := hide (HW.out.trans (HBc.out.mono HW.out.size))
  replace HS := hide (HS.out.below HBc.out)
  replace HM0 := hide ((HBc.out.cell (World.block_lt_of_cell? _ _ HM0.out)).trans HM0.out)
  replace HA := hide ((gmem_o gq s0).keep HA.out (fun j _ hl => HBc.out.block j hl) HBc.out.size)
  replace HX := hide (HX.out.below HBc.out)
  replace HG := hide (HG.out.below HBc.out)
  clear HBc HS
  have hmb3 : mb < w3.heap.size := HMl.out
  have hng : ¬ O w4.heap.size := fun e => by have := (HOl.out _ e).2; omega
  have hnm : ¬ O mb := fun e => by have := (HOl.out _ e).1; omega
  have HOw : Hid (∀ j, O j → j < w12.heap.size) := hide (fun j e => by have := (HOl.out j e).2; omega)
  have HP := hide (fun (W : World) (hW : Below w12.heap.size w12 W) => bread_any (gro_raw gq) (fun s => gmem_o gq s) (bears_true msR) _ _ _ _ _ _ size count (HX.out.below hW).sin ((gmem_o gq s0).keep HA.out (fun j _ hl => hW.block j hl) hW.size) (fun j e => Nat.lt_of_lt_of_le (HOw.out j e) hW.size) trivial ho hi hb)
  have HLy := hide (And.intro (bread_lens msR x s0 size count (L := 140737488351232) (by omega) ho hi hb) (bread_len msR x s0 size count))
  generalize x.bread msR s0 size count = X at *
  obtain ⟨y, acc, vy, ey, sy⟩ := X
  simp only at HP HLy
  have hgl := HG.out.lt
  have hml : mb < w12.heap.size := World.block_lt_of_cell? _ _ HM0.out
  have HSn : Hid (∀ W W', Below w12.heap.size w12 W → Turned O W W' → StAt W' w4.heap.size x (.slice g1 x.out.length g4) (.slice g2 x.inn.length g5) (.slice g3 x.back.length g6) ∧ W'.cell? ⟨mb, 0, none⟩ = some (.iface 77 (.pointer (some ⟨gq, 0, none⟩)))) := hide (fun W W' hW hT => ⟨(hT.block _ (Nat.lt_of_lt_of_le hgl hW.size) hng).trans (HG.out.below hW), hT.cell ((hW.cell (p := ⟨mb, 0, none⟩) hml).trans HM0.out) hnm⟩)
  have HSt : Hid (∀ W W', StAt W w4.heap.size x (.slice g1 x.out.length g4) (.slice g2 x.inn.length g5) (.slice g3 x.back.length g6) ∧ W.cell? ⟨mb, 0, none⟩ = some (.iface 77 (.pointer (some ⟨gq, 0, none⟩))) → Turned (fun k => k = w12.heap.size) W W' → StAt W' w4.heap.size x (.slice g1 x.out.length g4) (.slice g2 x.inn.length g5) (.slice g3 x.back.length g6) ∧ W'.cell? ⟨mb, 0, none⟩ = some (.iface 77 (.pointer (some ⟨gq, 0, none⟩)))) := hide (fun W W' h hT => ⟨(hT.block _ h.1.lt (by omega)).trans h.1, hT.cell h.2 (by show ¬ mb = w12.heap.size; omega)⟩)
  go_upto_region 12 with fail
  go_cut [18, 19] (fun p18 u19 wx => ∃ (gy : Nat) (O1 : Nat → Prop) (a1 a2 a3 : Option Addr) (k1 k2 k3 : Nat) (u1 : Option Addr) (u2 : Nat), p18 = .pointer (some ⟨gy, 0, none⟩) ∧ u19 = .slice u1 acc.length u2 ∧ Hid (GotG (fun w O S => MemAt w O gq S) w12.drew O O1 wx gy (y, acc, ey, sy) (.slice a1 y.out.length k1) (.slice a2 y.inn.length k2) (.slice a3 y.back.length k3) (.slice u1 acc.length u2)))
  case first =>
    refine wp_region_noPanic ?_
    refine wp_region_held_drew (S := fun W => StAt W w4.heap.size x (.slice g1 x.out.length g4) (.slice g2 x.inn.length g5) (.slice g3 x.back.length g6) ∧ W.cell? ⟨mb, 0, none⟩ = some (.iface 77 (.pointer (some ⟨gq, 0, none⟩)))) (by kernel_rfl) (⟨HG.out.below (Below.refl _ _).drew, HM0.out⟩) (fun hHeld => ?_)
    refine wpAnyH_take (i := 0) (oi := ?_) (v := ?_) ?_ (by kernel_rfl) (by kernel_rfl) (by kernel_rfl) (fun _ _ _ h => (h : False).elim) (Or.inl ⟨?_, ?_⟩) hHeld ?_
    rotate_left 2
    · (simp only [List.getElem?_toArray, List.getElem?_cons_zero]; rfl)
    · rfl
    · (intro W hSw; obtain ⟨hq1, hq2⟩ := hSw; obtain ⟨m0, m1, m2, m3, m4, m5, m6, m7, m8, m9, m10⟩ := hq1.cs; go_simp <;> with_reducible rfl)
    try simp only [Act.put, List.setIfInBounds_toArray, List.set_cons_zero, List.set_cons_succ]
    refine wpAnyH_take (i := 1) (oi := ?_) (v := ?_) ?_ (by kernel_rfl) (by kernel_rfl) (by kernel_rfl) (fun _ _ _ h => (h : False).elim) (Or.inl ⟨?_, ?_⟩) hHeld ?_
    rotate_left 2
    · (simp only [List.getElem?_toArray, List.getElem?_cons_zero, List.getElem?_cons_succ]; rfl)
    · rfl
    · (intro W hSw; obtain ⟨hq1, hq2⟩ := hSw; obtain ⟨m0, m1, m2, m3, m4, m5, m6, m7, m8, m9, m10⟩ := hq1.cs; go_simp <;> with_reducible rfl)
    try simp only [Act.put, List.setIfInBounds_toArray, List.set_cons_zero, List.set_cons_succ]
    refine wpAnyH_take (i := 2) (oi := ?_) (v := ?_) ?_ (by kernel_rfl) (by kernel_rfl) (by kernel_rfl) (fun _ _ _ h => (h : False).elim) (Or.inl ⟨?_, ?_⟩) hHeld ?_
    rotate_left 2
    · (simp only [List.getElem?_toArray, List.getElem?_cons_zero, List.getElem?_cons_succ]; rfl)
    · rfl
    · (intro W hSw; obtain ⟨hq1, hq2⟩ := hSw; obtain ⟨m0, m1, m2, m3, m4, m5, m6, m7, m8, m9, m10⟩ := hq1.cs; go_simp <;> with_reducible rfl)
    try simp only [Act.put, List.setIfInBounds_toArray, List.set_cons_zero, List.set_cons_succ]
    refine wpAnyH_take (i := 3) (oi := ?_) (v := ?_) ?_ (by kernel_rfl) (by kernel_rfl) (by kernel_rfl) (fun _ _ _ h => (h : False).elim) (Or.inl ⟨?_, ?_⟩) hHeld ?_
    rotate_left 2
    · (simp only [List.getElem?_toArray, List.getElem?_cons_zero, List.getElem?_cons_succ]; rfl)
    · rfl
    · (intro W hSw; obtain ⟨hq1, hq2⟩ := hSw; obtain ⟨m0, m1, m2, m3, m4, m5, m6, m7, m8, m9, m10⟩ := hq1.cs; go_simp <;> with_reducible rfl)
    try simp only [Act.put, List.setIfInBounds_toArray, List.set_cons_zero, List.set_cons_succ]
    refine wpAnyH_take (i := 4) (oi := ?_) (v := ?_) ?_ (by kernel_rfl) (by kernel_rfl) (by kernel_rfl) (fun _ _ _ h => (h : False).elim) (Or.inl ⟨?_, ?_⟩) hHeld ?_
    rotate_left 2
    · (simp only [List.getElem?_toArray, List.getElem?_cons_zero, List.getElem?_cons_succ]; rfl)
    · rfl
    · (intro W hSw; obtain ⟨hq1, hq2⟩ := hSw; obtain ⟨m0, m1, m2, m3, m4, m5, m6, m7, m8, m9, m10⟩ := hq1.cs; go_simp <;> with_reducible rfl)
    try simp only [Act.put, List.setIfInBounds_toArray, List.set_cons_zero, List.set_cons_succ]
    refine wpAnyH_take (i := 5) (oi := ?_) (v := ?_) ?_ (by kernel_rfl) (by kernel_rfl) (by kernel_rfl) (fun _ _ _ h => (h : False).elim) (Or.inl ⟨?_, ?_⟩) hHeld ?_
    rotate_left 2
    · (simp only [List.getElem?_toArray, List.getElem?_cons_zero, List.getElem?_cons_succ]; rfl)
    · rfl
    · (intro W hSw; obtain ⟨hq1, hq2⟩ := hSw; obtain ⟨m0, m1, m2, m3, m4, m5, m6, m7, m8, m9, m10⟩ := hq1.cs; go_simp <;> with_reducible rfl)
    try simp only [Act.put, List.setIfInBounds_toArray, List.set_cons_zero, List.set_cons_succ]
    refine wpAnyH_take (i := 6) (oi := ?_) (v := ?_) ?_ (by kernel_rfl) (by kernel_rfl) (by kernel_rfl) (fun _ _ _ h => (h : False).elim) (Or.inl ⟨?_, ?_⟩) hHeld ?_
    rotate_left 2
    · (simp only [List.getElem?_toArray, List.getElem?_cons_zero, List.getElem?_cons_succ]; rfl)
    · rfl
    · (intro W hSw; obtain ⟨hq1, hq2⟩ := hSw; obtain ⟨m0, m1, m2, m3, m4, m5, m6, m7, m8, m9, m10⟩ := hq1.cs; go_simp <;> with_reducible rfl)
    try simp only [Act.put, List.setIfInBounds_toArray, List.set_cons_zero, List.set_cons_succ]
    refine wpAnyH_ready (rs := [7, 13]) (by kernel_rfl) (by simp) ?_
    refine AllReadyH.cons (o := ?_) ?_ (fun K' hK => ?_) (AllReadyH.cons (o := ?_) ?_ (fun K' hK => ?_) AllReadyH.nil)
    rotate_left 1
    · (simp only [List.getElem?_toArray, List.getElem?_cons_zero, List.getElem?_cons_succ]; rfl)
    · go_simp
      go_at_call 36
      refine (HP.out _ ((Below.refl _ _).drew)).mono ?_
      rintro _ w5' ⟨o', i', b'', uu, rfl, hS⟩
      obtain ⟨a1, k1, rfl, -⟩ := hS.choose_spec.1.1.so
      obtain ⟨a2, k2, rfl, -⟩ := hS.choose_spec.1.1.si
      obtain ⟨a3, k3, rfl, -⟩ := hS.choose_spec.1.1.sb
      have hT5 : Turned _ w12.drew w5' := hS.choose_spec.1.2.2.2.2
      obtain ⟨u1, u2, rfl⟩ := owns_slice hS.choose_spec.2.1
      have HS5 := hide hS
      clear hS
      have h9 := HSn.out _ w5' ((Below.refl _ _).drew) hT5
      refine hK.out _ _ (h9) (fun hHeld2 => ?_)
      clear hK K' hHeld
      have hHeld := hHeld2
      clear hHeld2
      try simp only [Act.put, List.setIfInBounds_toArray, List.set_cons_zero, List.set_cons_succ]
      refine wpAnyH_take (i := 8) (oi := ?_) (v := ?_) ?_ (by kernel_rfl) (by kernel_rfl) (by kernel_rfl) (fun _ _ _ h => (h : False).elim) (Or.inl ⟨?_, ?_⟩) hHeld ?_
      rotate_left 2
      · (simp only [List.getElem?_toArray, List.getElem?_cons_zero, List.getElem?_cons_succ]; rfl)
      · rfl
      · (intro W hSw; obtain ⟨hq1, hq2⟩ := hSw; obtain ⟨m0, m1, m2, m3, m4, m5, m6, m7, m8, m9, m10⟩ := hq1.cs; go_simp <;> with_reducible rfl)
      try simp only [Act.put, List.setIfInBounds_toArray, List.set_cons_zero, List.set_cons_succ]
      refine wpAnyH_take (i := 9) (oi := ?_) (v := ?_) ?_ (by kernel_rfl) (by kernel_rfl) (by kernel_rfl) (fun _ _ _ h => (h : False).elim) (Or.inl ⟨?_, ?_⟩) hHeld ?_
      rotate_left 2
      · (simp only [List.getElem?_toArray, List.getElem?_cons_zero, List.getElem?_cons_succ]; rfl)
      · rfl
      · (intro W hSw; obtain ⟨hq1, hq2⟩ := hSw; obtain ⟨m0, m1, m2, m3, m4, m5, m6, m7, m8, m9, m10⟩ := hq1.cs; go_simp <;> with_reducible rfl)
      try simp only [Act.put, List.setIfInBounds_toArray, List.set_cons_zero, List.set_cons_succ]
      refine wpAnyH_take (i := 10) (oi := ?_) (v := ?_) ?_ (by kernel_rfl) (by kernel_rfl) (by kernel_rfl) (fun _ _ _ h => (h : False).elim) (Or.inl ⟨?_, ?_⟩) hHeld ?_
      rotate_left 2
      · (simp only [List.getElem?_toArray, List.getElem?_cons_zero, List.getElem?_cons_succ]; rfl)
      · rfl
      · (intro W hSw; obtain ⟨hq1, hq2⟩ := hSw; obtain ⟨m0, m1, m2, m3, m4, m5, m6, m7, m8, m9, m10⟩ := hq1.cs; go_simp <;> with_reducible rfl)
      try simp only [Act.put, List.setIfInBounds_toArray, List.set_cons_zero, List.set_cons_succ]
      refine wpAnyH_take (i := 11) (oi := ?_) (v := ?_) ?_ (by kernel_rfl) (by kernel_rfl) (by kernel_rfl) (fun _ _ _ h => (h : False).elim) (Or.inl ⟨?_, ?_⟩) hHeld ?_
      rotate_left 2
      · (simp only [List.getElem?_toArray, List.getElem?_cons_zero, List.getElem?_cons_succ]; rfl)
      · rfl
      · (intro W hSw; obtain ⟨hq1, hq2⟩ := hSw; obtain ⟨m0, m1, m2, m3, m4, m5, m6, m7, m8, m9, m10⟩ := hq1.cs; go_simp <;> with_reducible rfl)
      try simp only [Act.put, List.setIfInBounds_toArray, List.set_cons_zero, List.set_cons_succ]
      refine wpAnyH_take (i := 12) (oi := ?_) (v := ?_) ?_ (by kernel_rfl) (by kernel_rfl) (by kernel_rfl) (fun _ _ _ h => (h : False).elim) (Or.inl ⟨?_, ?_⟩) hHeld ?_
      rotate_left 2
      · (simp only [List.getElem?_toArray, List.getElem?_cons_zero, List.getElem?_cons_succ]; rfl)
      · rfl
      · (intro W hSw; obtain ⟨hq1, hq2⟩ := hSw; obtain ⟨m0, m1, m2, m3, m4, m5, m6, m7, m8, m9, m10⟩ := hq1.cs; go_simp <;> with_reducible rfl)
      try simp only [Act.put, List.setIfInBounds_toArray, List.set_cons_zero, List.set_cons_succ]
      refine wpAnyH_ready (rs := [13]) (by kernel_rfl) (by simp) ?_
      refine AllReadyH.cons (o := ?_) ?_ (fun K' hK => ?_) AllReadyH.nil
      rotate_left 1
      · (simp only [List.getElem?_toArray, List.getElem?_cons_zero, List.getElem?_cons_succ]; rfl)
      go_simp
      refine hK.out _ _ (⟨h9.1.below (recv_below w5' (Obj.cells #[.bool false, .bool false, .int .i64 0, .int .i64 0, .slice none 0 0, .slice none 0 0, .slice none 0 0, .int .i64 0, .bool false, .bool false, .bool false] 58)), ((recv_below w5' (Obj.cells #[.bool false, .bool false, .int .i64 0, .int .i64 0, .slice none 0 0, .slice none 0 0, .slice none 0 0, .int .i64 0, .bool false, .bool false, .bool false] 58)).cell (p := ⟨mb, 0, none⟩) (World.block_lt_of_cell? w5' _ h9.2)).trans h9.2⟩) (fun hHeld2 => ?_)
      clear hK K' hHeld
      have hHeld := hHeld2
      clear hHeld2
      try simp only [Act.put, List.setIfInBounds_toArray, List.set_cons_zero, List.set_cons_succ]
      refine wpAnyH_ready (rs := [14]) (by kernel_rfl) (by simp) ?_
      refine AllReadyH.cons (o := ?_) ?_ (fun K' hK => ?_) AllReadyH.nil
      rotate_left 1
      · (simp only [List.getElem?_toArray, List.getElem?_cons_zero, List.getElem?_cons_succ]; rfl)
      go_simp
      refine hK.out _ _ (⟨h9.1.below (recv_below w5' (Obj.cells #[.bool y.rd, .bool y.wt, .int .i64 y.mode, .int .i64 y.size, .slice a1 y.out.length k1, .slice a2 y.inn.length k2, .slice a3 y.back.length k3, .int .i64 y.dir, .bool y.fin, .bool y.bad, .bool y.closed] 58)), ((recv_below w5' (Obj.cells #[.bool y.rd, .bool y.wt, .int .i64 y.mode, .int .i64 y.size, .slice a1 y.out.length k1, .slice a2 y.inn.length k2, .slice a3 y.back.length k3, .int .i64 y.dir, .bool y.fin, .bool y.bad, .bool y.closed] 58)).cell (p := ⟨mb, 0, none⟩) (World.block_lt_of_cell? w5' _ h9.2)).trans h9.2⟩) (fun hHeld2 => ?_)
      clear hK K' hHeld
      have hHeld := hHeld2
      clear hHeld2
      try simp only [Act.put, List.setIfInBounds_toArray, List.set_cons_zero, List.set_cons_succ]
      refine wpAnyH_take (i := 15) (oi := ?_) (v := ?_) ?_ (by kernel_rfl) (by kernel_rfl) (by kernel_rfl) (fun _ _ _ h => (h : False).elim) (Or.inl ⟨?_, ?_⟩) hHeld ?_
      rotate_left 2
      · (simp only [List.getElem?_toArray, List.getElem?_cons_zero, List.getElem?_cons_succ]; rfl)
      · rfl
      · (intro W hSw; obtain ⟨hq1, hq2⟩ := hSw; obtain ⟨m0, m1, m2, m3, m4, m5, m6, m7, m8, m9, m10⟩ := hq1.cs; go_simp <;> with_reducible rfl)
      try simp only [Act.put, List.setIfInBounds_toArray, List.set_cons_zero, List.set_cons_succ]
      refine wpAnyH_take (i := 16) (oi := ?_) (v := ?_) ?_ (by kernel_rfl) (by kernel_rfl) (by kernel_rfl) (fun _ _ _ h => (h : False).elim) (Or.inl ⟨?_, ?_⟩) hHeld ?_
      rotate_left 2
      · (simp only [List.getElem?_toArray, List.getElem?_cons_zero, List.getElem?_cons_succ]; rfl)
      · rfl
      · (intro W hSw; obtain ⟨hq1, hq2⟩ := hSw; obtain ⟨m0, m1, m2, m3, m4, m5, m6, m7, m8, m9, m10⟩ := hq1.cs; go_simp <;> with_reducible rfl)
      try simp only [Act.put, List.setIfInBounds_toArray, List.set_cons_zero, List.set_cons_succ]
      refine wpAnyH_take (i := 17) (oi := ?_) (v := ?_) ?_ (by kernel_rfl) (by kernel_rfl) (by kernel_rfl) (fun _ _ _ h => (h : False).elim) (Or.inl ⟨?_, ?_⟩) hHeld ?_
      rotate_left 2
      · (simp only [List.getElem?_toArray, List.getElem?_cons_zero, List.getElem?_cons_succ]; rfl)
      · rfl
      · (intro W hSw; obtain ⟨hq1, hq2⟩ := hSw; obtain ⟨m0, m1, m2, m3, m4, m5, m6, m7, m8, m9, m10⟩ := hq1.cs; go_simp <;> with_reducible rfl)
      try simp only [Act.put, List.setIfInBounds_toArray, List.set_cons_zero, List.set_cons_succ]
      refine wpAnyH_done (by kernel_rfl) ?_ _
      refine NoPanic.normal ?_
      clear hHeld h9 hT5
      go_wp2
      go_meet
      obtain ⟨O', hg⟩ := GotG.behind (fun s => gmem_o gq s) HS5.out
      exact ⟨_, O', _, _, _, _, _, _, _, _, rfl, rfl, hide hg⟩
    rotate_left 1
    · (simp only [List.getElem?_toArray, List.getElem?_cons_zero, List.getElem?_cons_succ]; rfl)
    · go_simp
      refine hK.out _ _ (HSn.out _ _ ((Below.refl _ w12).alloc (Nat.le_refl _) (Obj.cells #[.bool false, .bool false, .int .i64 0, .int .i64 0, .slice none 0 0, .slice none 0 0, .slice none 0 0, .int .i64 0, .bool false, .bool false, .bool false] 58)).drew (Turned.refl _ _)) (fun hHeld2 => ?_)
      clear hK K' hHeld
      have hHeld := hHeld2
      clear hHeld2
      try simp only [Act.put, List.setIfInBounds_toArray, List.set_cons_zero, List.set_cons_succ]
      refine wpAnyH_ready (rs := [7]) (by kernel_rfl) (by simp) ?_
      refine AllReadyH.cons (o := ?_) ?_ (fun K' hK => ?_) AllReadyH.nil
      rotate_left 1
      · (simp only [List.getElem?_toArray, List.getElem?_cons_zero, List.getElem?_cons_succ]; rfl)
      go_simp
      go_at_call 36
      refine (HP.out _ (((Below.refl _ w12).alloc (Nat.le_refl _) (Obj.cells #[.bool false, .bool false, .int .i64 0, .int .i64 0, .slice none 0 0, .slice none 0 0, .slice none 0 0, .int .i64 0, .bool false, .bool false, .bool false] 58)).drew)).mono ?_
      rintro _ w5' ⟨o', i', b'', uu, rfl, hS⟩
      obtain ⟨a1, k1, rfl, -⟩ := hS.choose_spec.1.1.so
      obtain ⟨a2, k2, rfl, -⟩ := hS.choose_spec.1.1.si
      obtain ⟨a3, k3, rfl, -⟩ := hS.choose_spec.1.1.sb
      have hT5 : Turned _ (w12.alloc (Obj.cells #[.bool false, .bool false, .int .i64 0, .int .i64 0, .slice none 0 0, .slice none 0 0, .slice none 0 0, .int .i64 0, .bool false, .bool false, .bool false] 58)).drew w5' := hS.choose_spec.1.2.2.2.2
      obtain ⟨u1, u2, rfl⟩ := owns_slice hS.choose_spec.2.1
      have HS5 := hide hS
      clear hS
      have h9 := HSn.out _ w5' (((Below.refl _ w12).alloc (Nat.le_refl _) (Obj.cells #[.bool false, .bool false, .int .i64 0, .int .i64 0, .slice none 0 0, .slice none 0 0, .slice none 0 0, .int .i64 0, .bool false, .bool false, .bool false] 58)).drew) hT5
      refine hK.out _ _ (h9) (fun hHeld2 => ?_)
      clear hK K' hHeld
      have hHeld := hHeld2
      clear hHeld2
      try simp only [Act.put, List.setIfInBounds_toArray, List.set_cons_zero, List.set_cons_succ]
      refine wpAnyH_take (i := 8) (oi := ?_) (v := ?_) ?_ (by kernel_rfl) (by kernel_rfl) (by kernel_rfl) (fun _ _ _ h => (h : False).elim) (Or.inl ⟨?_, ?_⟩) hHeld ?_
      rotate_left 2
      · (simp only [List.getElem?_toArray, List.getElem?_cons_zero, List.getElem?_cons_succ]; rfl)
      · rfl
      · (intro W hSw; obtain ⟨hq1, hq2⟩ := hSw; obtain ⟨m0, m1, m2, m3, m4, m5, m6, m7, m8, m9, m10⟩ := hq1.cs; go_simp <;> with_reducible rfl)
      try simp only [Act.put, List.setIfInBounds_toArray, List.set_cons_zero, List.set_cons_succ]
      refine wpAnyH_take (i := 9) (oi := ?_) (v := ?_) ?_ (by kernel_rfl) (by kernel_rfl) (by kernel_rfl) (fun _ _ _ h => (h : False).elim) (Or.inl ⟨?_, ?_⟩) hHeld ?_
      rotate_left 2
      · (simp only [List.getElem?_toArray, List.getElem?_cons_zero, List.getElem?_cons_succ]; rfl)
      · rfl
      · (intro W hSw; obtain ⟨hq1, hq2⟩ := hSw; obtain ⟨m0, m1, m2, m3, m4, m5, m6, m7, m8, m9, m10⟩ := hq1.cs; go_simp <;> with_reducible rfl)
      try simp only [Act.put, List.setIfInBounds_toArray, List.set_cons_zero, List.set_cons_succ]
      refine wpAnyH_take (i := 10) (oi := ?_) (v := ?_) ?_ (by kernel_rfl) (by kernel_rfl) (by kernel_rfl) (fun _ _ _ h => (h : False).elim) (Or.inl ⟨?_, ?_⟩) hHeld ?_
      rotate_left 2
      · (simp only [List.getElem?_toArray, List.getElem?_cons_zero, List.getElem?_cons_succ]; rfl)
      · rfl
      · (intro W hSw; obtain ⟨hq1, hq2⟩ := hSw; obtain ⟨m0, m1, m2, m3, m4, m5, m6, m7, m8, m9, m10⟩ := hq1.cs; go_simp <;> with_reducible rfl)
      try simp only [Act.put, List.setIfInBounds_toArray, List.set_cons_zero, List.set_cons_succ]
      refine wpAnyH_take (i := 11) (oi := ?_) (v := ?_) ?_ (by kernel_rfl) (by kernel_rfl) (by kernel_rfl) (fun _ _ _ h => (h : False).elim) (Or.inl ⟨?_, ?_⟩) hHeld ?_
      rotate_left 2
      · (simp only [List.getElem?_toArray, List.getElem?_cons_zero, List.getElem?_cons_succ]; rfl)
      · rfl
      · (intro W hSw; obtain ⟨hq1, hq2⟩ := hSw; obtain ⟨m0, m1, m2, m3, m4, m5, m6, m7, m8, m9, m10⟩ := hq1.cs; go_simp <;> with_reducible rfl)
      try simp only [Act.put, List.setIfInBounds_toArray, List.set_cons_zero, List.set_cons_succ]
      refine wpAnyH_take (i := 12) (oi := ?_) (v := ?_) ?_ (by kernel_rfl) (by kernel_rfl) (by kernel_rfl) (fun _ _ _ h => (h : False).elim) (Or.inl ⟨?_, ?_⟩) hHeld ?_
      rotate_left 2
      · (simp only [List.getElem?_toArray, List.getElem?_cons_zero, List.getElem?_cons_succ]; rfl)
      · rfl
      · (intro W hSw; obtain ⟨hq1, hq2⟩ := hSw; obtain ⟨m0, m1, m2, m3, m4, m5, m6, m7, m8, m9, m10⟩ := hq1.cs; go_simp <;> with_reducible rfl)
      try simp only [Act.put, List.setIfInBounds_toArray, List.set_cons_zero, List.set_cons_succ]
      have hz9 : w5'.heap[w12.heap.size]? = some (Obj.cells #[.bool false, .bool false, .int .i64 0, .int .i64 0, .slice none 0 0, .slice none 0 0, .slice none 0 0, .int .i64 0, .bool false, .bool false, .bool false] 58) := (hT5.block w12.heap.size (by show _ < (w12.alloc (Obj.cells #[.bool false, .bool false, .int .i64 0, .int .i64 0, .slice none 0 0, .slice none 0 0, .slice none 0 0, .int .i64 0, .bool false, .bool false, .bool false] 58)).heap.size; rw [World.size_alloc]; omega) (fun e => by have := HOw.out _ e; omega)).trans (heap_alloc_new w12 (Obj.cells #[.bool false, .bool false, .int .i64 0, .int .i64 0, .slice none 0 0, .slice none 0 0, .slice none 0 0, .int .i64 0, .bool false, .bool false, .bool false] 58))
      obtain ⟨e1, e2⟩ := st_fill w5' w12.heap.size y (.slice a1 y.out.length k1) (.slice a2 y.inn.length k2) (.slice a3 y.back.length k3) hz9
      have HS9 := hide (HSt.out _ _ h9 e2)
      have u0' := frozen_of_row w5' w12.heap.size 0 _ _ hz9
      have u1' := frozen_of_row w5' w12.heap.size 1 _ _ hz9
      have u2' := frozen_of_row w5' w12.heap.size 2 _ _ hz9
      have u3' := frozen_of_row w5' w12.heap.size 3 _ _ hz9
      have u4' := frozen_of_row w5' w12.heap.size 4 _ _ hz9
      have u5' := frozen_of_row w5' w12.heap.size 5 _ _ hz9
      have u6' := frozen_of_row w5' w12.heap.size 6 _ _ hz9
      have u7' := frozen_of_row w5' w12.heap.size 7 _ _ hz9
      have u8' := frozen_of_row w5' w12.heap.size 8 _ _ hz9
      have u9' := frozen_of_row w5' w12.heap.size 9 _ _ hz9
      have u10' := frozen_of_row w5' w12.heap.size 10 _ _ hz9
      have z0' := cell_of_row w5' w12.heap.size 0 _ _ _ hz9
      have z1' := cell_of_row w5' w12.heap.size 1 _ _ _ hz9
      have z2' := cell_of_row w5' w12.heap.size 2 _ _ _ hz9
      have z3' := cell_of_row w5' w12.heap.size 3 _ _ _ hz9
      have z4' := cell_of_row w5' w12.heap.size 4 _ _ _ hz9
      have z5' := cell_of_row w5' w12.heap.size 5 _ _ _ hz9
      have z6' := cell_of_row w5' w12.heap.size 6 _ _ _ hz9
      have z7' := cell_of_row w5' w12.heap.size 7 _ _ _ hz9
      have z8' := cell_of_row w5' w12.heap.size 8 _ _ _ hz9
      have z9' := cell_of_row w5' w12.heap.size 9 _ _ _ hz9
      have z10' := cell_of_row w5' w12.heap.size 10 _ _ _ hz9
      simp at z0' z1' z2' z3' z4' z5' z6' z7' z8' z9' z10'
      clear e1 e2 hz9 hT5
      refine wpAnyH_ready (rs := [14]) (by kernel_rfl) (by simp) ?_
      refine AllReadyH.cons (o := ?_) ?_ (fun K' hK => ?_) AllReadyH.nil
      rotate_left 1
      · (simp only [List.getElem?_toArray, List.getElem?_cons_zero, List.getElem?_cons_succ]; rfl)
      go_simp
      refine hK.out _ _ (HS9.out) (fun hHeld2 => ?_)
      clear hK K' hHeld
      have hHeld := hHeld2
      clear hHeld2
      try simp only [Act.put, List.setIfInBounds_toArray, List.set_cons_zero, List.set_cons_succ]
      clear u0' z0' u1' z1' u2' z2' u3' z3' u4' z4' u5' z5' u6' z6' u7' z7' u8' z8' u9' z9' u10' z10'
      refine wpAnyH_take (i := 15) (oi := ?_) (v := ?_) ?_ (by kernel_rfl) (by kernel_rfl) (by kernel_rfl) (fun _ _ _ h => (h : False).elim) (Or.inl ⟨?_, ?_⟩) hHeld ?_
      rotate_left 2
      · (simp only [List.getElem?_toArray, List.getElem?_cons_zero, List.getElem?_cons_succ]; rfl)
      · rfl
      · (intro W hSw; obtain ⟨hq1, hq2⟩ := hSw; obtain ⟨m0, m1, m2, m3, m4, m5, m6, m7, m8, m9, m10⟩ := hq1.cs; go_simp <;> with_reducible rfl)
      try simp only [Act.put, List.setIfInBounds_toArray, List.set_cons_zero, List.set_cons_succ]
      refine wpAnyH_take (i := 16) (oi := ?_) (v := ?_) ?_ (by kernel_rfl) (by kernel_rfl) (by kernel_rfl) (fun _ _ _ h => (h : False).elim) (Or.inl ⟨?_, ?_⟩) hHeld ?_
      rotate_left 2
      · (simp only [List.getElem?_toArray, List.getElem?_cons_zero, List.getElem?_cons_succ]; rfl)
      · rfl
      · (intro W hSw; obtain ⟨hq1, hq2⟩ := hSw; obtain ⟨m0, m1, m2, m3, m4, m5, m6, m7, m8, m9, m10⟩ := hq1.cs; go_simp <;> with_reducible rfl)
      try simp only [Act.put, List.setIfInBounds_toArray, List.set_cons_zero, List.set_cons_succ]
      refine wpAnyH_take (i := 17) (oi := ?_) (v := ?_) ?_ (by kernel_rfl) (by kernel_rfl) (by kernel_rfl) (fun _ _ _ h => (h : False).elim) (Or.inl ⟨?_, ?_⟩) hHeld ?_
      rotate_left 2
      · (simp only [List.getElem?_toArray, List.getElem?_cons_zero, List.getElem?_cons_succ]; rfl)
      · rfl
      · (intro W hSw; obtain ⟨hq1, hq2⟩ := hSw; obtain ⟨m0, m1, m2, m3, m4, m5, m6, m7, m8, m9, m10⟩ := hq1.cs; go_simp <;> with_reducible rfl)
      try simp only [Act.put, List.setIfInBounds_toArray, List.set_cons_zero, List.set_cons_succ]
      refine wpAnyH_done (by kernel_rfl) ?_ _
      refine NoPanic.normal ?_
      clear hHeld h9
      go_wp2
      go_meet
      obtain ⟨O', hg⟩ := GotG.ahead (W0 := w12.drew) (fun s => gmem_o gq s) HS5.out HOw.out
      exact ⟨_, O', _, _, _, _, _, _, _, _, rfl, rfl, hide hg⟩
  case rest =>
  obtain ⟨gy, O1, v1, v2, v3, v4, v5, v6, u1, u2, rfl, rfl, HY⟩ := hcut
  obtain ⟨w13, hq⟩ : ∃ W, W = wc := ⟨_, rfl⟩
  rw [← hq] at HY ⊢
  clear hq HSn HSt HP
  have hTy := HY.out.got.t
  have z13 : w12.heap.size ≤ w13.heap.size := hTy.size
  have hmk : ∀ k, O k → mb + 1 ≤ k := fun k e => (HOl.out k e).1
  have hlo : ∀ k, w3.heap.size ≤ k → k < w12.heap.size → ¬ O k := fun k h1 _ e => by have := (HOl.out k e).2; omega
  replace HW := hide ((HW.out.trans ((Below.refl _ w12).drew.mono HW.out.size)).trans ((hTy.below (B := mb + 1) hmk (by show mb + 1 ≤ w12.heap.size; omega)).mono (by omega)))
  replace HX := hide (Own3.turned2 ⟨HX.out.below (Below.refl _ _).drew, HXu.out⟩ hTy (fun k h1 h2 => hlo k h1 (by omega))).1
  replace HG : Hid (StAt w13 w4.heap.size x (.slice g1 x.out.length g4) (.slice g2 x.inn.length g5) (.slice g3 x.back.length g6)) := hide ((hTy.block _ HG.out.lt (hlo _ (by omega) (by omega))).trans HG.out)
  have HYs := hide HY.out.got.st
  have HYl : Hid (SIn w13 (fun k => w12.heap.size ≤ k ∧ k < w13.heap.size) y (.slice v1 y.out.length v4) (.slice v2 y.inn.length v5) (.slice v3 y.back.length v6)) := hide (HY.out.got.ls.mono fun k e => ⟨e.1, e.2.2⟩)
  have HU := hide HY.out.row
  have HUo := hide HY.out.off
  have HUl : Hid (∀ k, (Value.slice u1 acc.length u2).ownBlock = some k → w12.heap.size ≤ k ∧ k < w13.heap.size) := hide HY.out.row.lt
  have hgy : w12.heap.size ≤ gy := HY.out.got.g0
  simp only at HYs HU HUo
  clear HY hTy hng hnm HOw hgl hml hmk hlo HA HM0 HOl HMl
  obtain ⟨c0, c1, c2, c3, c4, c5, c6, c7, c8, c9, c10⟩ := HYs.out.cs
  go_wp2_with fail
  clear c0 c1 c2 c3 c4 c5 c6 c7 c8 c9 c10
  refine (given_any y _ _ _ _ _ HYl.out HLy.out.1.1 HLy.out.1.2.1 HLy.out.1.2.2).mono ?_
  rintro _ w14 ⟨o1, i1, b1, rfl, y1, y2, y3, hB, hAp⟩
  obtain ⟨k1, k4, rfl⟩ := owns_slice y1
  obtain ⟨k2, k5, rfl⟩ := owns_slice y2
  obtain ⟨k3, k6, rfl⟩ := owns_slice y3
  have HK : Hid (Own3 w13.heap.size w14 y (.slice k1 y.out.length k4) (.slice k2 y.inn.length k5) (.slice k3 y.back.length k6)) := hide ⟨y1, y2, y3, hAp⟩
  have z14 := hB.size
  replace HW := hide (HW.out.trans (hB.mono HW.out.size))
  replace HX := hide (HX.out.below hB)
  replace HG := hide (HG.out.below hB)
  replace HYs := hide (HYs.out.below hB)
  replace HYl := hide (HYl.out.below hB)
  replace HU := hide (owns_below HU.out hB)
  clear y1 y2 y3 hB hAp
  have hA := recv_below w14 (Obj.cells #[.bool y.rd, .bool y.wt, .int .i64 y.mode, .int .i64 y.size, .slice k1 y.out.length k4, .slice k2 y.inn.length k5, .slice k3 y.back.length k6, .int .i64 y.dir, .bool y.fin, .bool y.bad, .bool y.closed] 58)
  have HD := hide (StAt.new w14 y (.slice k1 y.out.length k4) (.slice k2 y.inn.length k5) (.slice k3 y.back.length k6))
  replace HW := hide (HW.out.trans (hA.mono HW.out.size))
  replace HX := hide (HX.out.below hA)
  replace HG := hide (HG.out.below hA)
  replace HYs := hide (HYs.out.below hA)
  replace HYl := hide (HYl.out.below hA)
  replace HU := hide (owns_below HU.out hA)
  replace HK := hide (HK.out.below hA)
  clear hA
  go_upto_region 14 with fail
  generalize w14.alloc (Obj.cells #[.bool y.rd, .bool y.wt, .int .i64 y.mode, .int .i64 y.size, .slice k1 y.out.length k4, .slice k2 y.inn.length k5, .slice k3 y.back.length k6, .int .i64 y.dir, .bool y.fin, .bool y.bad, .bool y.closed] 58) = w16 at *
  have HAp := hide HX.out.2.2.2
  have HXo := hide HX.out.1
  have HXi := hide HX.out.2.1
  have HXb := hide HX.out.2.2.1
  clear HX
  have xx := HG.out.cs.2.2.2.2.2.1
  go_wp2_with fail
  clear xx
  refine (Kp_spoil_turn _ _ _ _ w16 HXi.out (Kp_bv_ints _) (by unfold maxLen; omega)).mono ?_
  rintro _ w17 ⟨rfl, hT⟩
  have hT0 : Turned (fun k => w3.heap.size ≤ k ∧ k < w4.heap.size) w16 w17 := hT.mono fun k e => HXl.out.2.1 k e
  replace HXo := hide (owns_turned HXo.out hT fun k e e2 => HAp.out.1 k e |>.1 e2)
  replace HXb := hide (owns_turned HXb.out hT fun k e e2 => HAp.out.2 k e2 e)
  replace HG : Hid (StAt w17 w4.heap.size x (.slice g1 x.out.length g4) (.slice g2 x.inn.length g5) (.slice g3 x.back.length g6)) := hide ((hT.block _ HG.out.lt fun e2 => by have := HXl.out.2.1 _ e2; omega).trans HG.out)
  have HT := hide hT0
  clear hT0
  clear hT HXi
  have xx := HG.out.cs.2.2.2.2.2.2.1
  go_wp2_with fail
  clear xx
  refine (Kp_spoil_turn _ _ _ _ w17 HXb.out (Kp_bv_ints _) (by unfold maxLen; omega)).mono ?_
  rintro _ w18 ⟨rfl, hT⟩
  have hT0 : Turned (fun k => w3.heap.size ≤ k ∧ k < w4.heap.size) w17 w18 := hT.mono fun k e => HXl.out.2.2 k e
  replace HXo := hide (owns_turned HXo.out hT fun k e e2 => HAp.out.1 k e |>.2 e2)
  replace HG : Hid (StAt w18 w4.heap.size x (.slice g1 x.out.length g4) (.slice g2 x.inn.length g5) (.slice g3 x.back.length g6)) := hide ((hT.block _ HG.out.lt fun e2 => by have := HXl.out.2.2 _ e2; omega).trans HG.out)
  replace HT := hide (HT.out.trans hT0 (fun _ _ e => e))
  clear hT0
  clear hT HXb
  clear HG HAp HXo
  have z19 : w16.heap.size ≤ w18.heap.size := HT.out.size
  have z3a : w4.heap.size ≤ w12.heap.size := by omega
  replace HYl := hide (HYl.out.turned HT.out fun k e1 _ e2 => by
    have e1 : w12.heap.size ≤ k ∧ k < w13.heap.size := e1
    have e2 : w3.heap.size ≤ k ∧ k < w4.heap.size := e2
    omega)
  have HKl := hide (HK.out.sin.turned HT.out fun k e1 _ e2 => by
    have e1 : w13.heap.size ≤ k ∧ _ := e1
    have e2 : w3.heap.size ≤ k ∧ k < w4.heap.size := e2
    omega)
  replace HU := hide (owns_turned HU.out HT.out fun k e e2 => by
    have e1 := HUl.out k e
    have e2 : w3.heap.size ≤ k ∧ k < w4.heap.size := e2
    omega)
  replace HYs : Hid (StAt w18 gy y (.slice v1 y.out.length v4) (.slice v2 y.inn.length v5) (.slice v3 y.back.length v6)) := hide ((HT.out.block _ HYs.out.lt fun e2 => by have e2 : w3.heap.size ≤ gy ∧ gy < w4.heap.size := e2; omega).trans HYs.out)
  replace HD : Hid (StAt w18 w14.heap.size y (.slice k1 y.out.length k4) (.slice k2 y.inn.length k5) (.slice k3 y.back.length k6)) := hide ((HT.out.block _ HD.out.lt fun e2 => by have e2 : w3.heap.size ≤ w14.heap.size ∧ w14.heap.size < w4.heap.size := e2; omega).trans HD.out)
  replace HW := hide (HW.out.trans (HT.out.below (B := w.heap.size) (fun k e2 => by have e2 : w3.heap.size ≤ k ∧ k < w4.heap.size := e2; omega) HW.out.size))
  clear HT HK HXl HXu
  go_wp2_with fail
  refine (Kp_spoil_turn _ _ _ _ w18 HU.out (Kp_bv_ints _) (by have := HLy.out.2; unfold maxLen; omega)).mono ?_
  rintro _ w21 ⟨rfl, hT⟩
  replace HYl := hide ((⟨HYl.out.so.turned hT (fun k e _ e2 => (HUo.out k e2).2.1 e), HYl.out.si.turned hT (fun k e _ e2 => (HUo.out k e2).2.2.1 e), HYl.out.sb.turned hT (fun k e _ e2 => (HUo.out k e2).2.2.2 e), HYl.out.po, HYl.out.pi, HYl.out.pb⟩ : SIn w21 (fun k => w12.heap.size ≤ k ∧ k < w13.heap.size) y (.slice v1 y.out.length v4) (.slice v2 y.inn.length v5) (.slice v3 y.back.length v6)))
  replace HKl := hide (HKl.out.turned hT fun k e1 _ e2 => by
    have e1 : w13.heap.size ≤ k ∧ _ := e1
    have e3 := HUl.out k e2
    omega)
  replace HYs : Hid (StAt w21 gy y (.slice v1 y.out.length v4) (.slice v2 y.inn.length v5) (.slice v3 y.back.length v6)) := hide ((hT.block _ HYs.out.lt fun e2 => (HUo.out gy e2).1 rfl).trans HYs.out)
  replace HD : Hid (StAt w21 w14.heap.size y (.slice k1 y.out.length k4) (.slice k2 y.inn.length k5) (.slice k3 y.back.length k6)) := hide ((hT.block _ HD.out.lt fun e2 => by have := HUl.out _ e2; omega).trans HD.out)
  replace HW := hide (HW.out.trans (hT.below (B := w.heap.size) (fun k e2 => by have := HUl.out k e2; omega) HW.out.size))
  clear hT HU HUo HUl
  obtain ⟨c0, c1, c2, c3, c4, c5, c6, c7, c8, c9, c10⟩ := HYs.out.cs
  obtain ⟨d0, d1, d2, d3, d4, d5, d6, d7, d8, d9, d10⟩ := HD.out.cs
  have hrr : (r == r) = true := by simp
  go_wp2_with (first | (go_at_call 39; refine (num16 _ _).mono ?_; rintro _ _ ⟨rfl, rfl⟩) | fail)
  clear c0 c1 c2 c3 c4 c5 c6 c7 c8 c9 c10
  clear d0 d1 d2 d3 d4 d5 d6 d7 d8 d9 d10
  refine (ssame_any y _ _ _ _ _ _ _ _ _ HYl.out HKl.out HLy.out.1.1 HLy.out.1.2.1 HLy.out.1.2.2).mono ?_
  rintro _ w22 ⟨rfl, hB⟩
  replace HW := hide (HW.out.trans (hB.mono HW.out.size))
  clear hB
  go_wp2
  go_ret
  exact ⟨rfl, HW.out⟩
end Go.Proofs.YtmlfcbbgelkbbaaGreat

/- A state that came in as an argument. -/
namespace Go.Proofs.YtmlfcbbgelkbbaaGreat
open Go.ChangeShapes Go.WideShapes Go.ChangeAt Go.RowKit Go.Deep

set_option maxRecDepth 100000 in
set_option maxHeartbeats 1000000 in
theorem state_cells {H : Type} {enc : TypeId × Value → H} {W : World} {base : Nat} {fuel : Nat} {cs : List Value} {d : DataW H} {p : List MemPlace}
    (h : DataW.trod enc Tryz.prog W base (fun _ => true) true fuel 52 cs = some (d, p)) : ∃ (x : SS) (o i b : Value), cs = [.bool x.rd, .bool x.wt, .int .i64 x.mode, .int .i64 x.size, o, i, b, .int .i64 x.dir, .bool x.fin, .bool x.bad, .bool x.closed] ∧ Sl W o x.out ∧ Sl W i x.inn ∧ Sl W b x.back ∧ ∃ d0 d1 d2 d3 d4 d5 d6 d7 d8 d9 d10, d = .agg [d0, d1, d2, d3, d4, d5, d6, d7, d8, d9, d10] ∧ Kp_DataOf d4 x.out ∧ Kp_DataOf d5 x.inn ∧ Kp_DataOf d6 x.back := by
  obtain ⟨xs, k, hk, hxy, hcl, hxl, hf⟩ := DataW.trod_struct Tryz.underlying52 h
  rw [show Tryz.prog.cellsOf 52 = 11 by kernel_rfl] at hcl
  match xs, hxl, cs, hcl with
  | [y0, y1, y2, y3, y4, y5, y6, y7, y8, y9, y10], _, [v0, v1, v2, v3, v4, v5, v6, v7, v8, v9, v10], _ =>
    have ci : Tryz.prog.cellsOf 3 = 1 := by kernel_rfl
    have cb : Tryz.prog.cellsOf 40 = 1 := by kernel_rfl
    have co : Tryz.prog.cellsOf 4 = 1 := by kernel_rfl
    have cu : Tryz.prog.cellsOf 5 = 1 := by kernel_rfl
    have g0 := hf 0 _ rfl
    have g1 := hf 1 _ rfl
    have g2 := hf 2 _ rfl
    have g3 := hf 3 _ rfl
    have g4 := hf 4 _ rfl
    have g5 := hf 5 _ rfl
    have g6 := hf 6 _ rfl
    have g7 := hf 7 _ rfl
    have g8 := hf 8 _ rfl
    have g9 := hf 9 _ rfl
    have g10 := hf 10 _ rfl
    simp [co] at g0 g1 g8 g9 g10
    simp [ci] at g2 g3 g7
    simp [cb] at g4 g5 g6
    obtain ⟨a0, h0, _⟩ := DataW.trod_bool Tryz.underlying4 g0
    obtain ⟨a1, h1, _⟩ := DataW.trod_bool Tryz.underlying4 g1
    obtain ⟨a2, h2, _⟩ := DataW.trod_int Tryz.underlying3 g2
    obtain ⟨a3, h3, _⟩ := DataW.trod_int Tryz.underlying3 g3
    obtain ⟨a7, h7, _⟩ := DataW.trod_int Tryz.underlying3 g7
    obtain ⟨a8, h8, _⟩ := DataW.trod_bool Tryz.underlying4 g8
    obtain ⟨a9, h9, _⟩ := DataW.trod_bool Tryz.underlying4 g9
    obtain ⟨a10, h10, _⟩ := DataW.trod_bool Tryz.underlying4 g10
    obtain rfl : v0 = .bool a0 := by simpa using h0
    obtain rfl : v1 = .bool a1 := by simpa using h1
    obtain rfl : v2 = .int .i64 a2 := by simpa using h2
    obtain rfl : v3 = .int .i64 a3 := by simpa using h3
    obtain rfl : v7 = .int .i64 a7 := by simpa using h7
    obtain rfl : v8 = .bool a8 := by simpa using h8
    obtain rfl : v9 = .bool a9 := by simpa using h9
    obtain rfl : v10 = .bool a10 := by simpa using h10
    obtain ⟨y4a, y4b⟩ := y4
    obtain ⟨y5a, y5b⟩ := y5
    obtain ⟨y6a, y6b⟩ := y6
    obtain ⟨x4, k4, D4⟩ := byc_arg Tryz.underlying40 Tryz.underlying5 cu g4
    obtain ⟨x5, k5, D5⟩ := byc_arg Tryz.underlying40 Tryz.underlying5 cu g5
    obtain ⟨x6, k6, D6⟩ := byc_arg Tryz.underlying40 Tryz.underlying5 cu g6
    simp only [Prod.mk.injEq] at hxy
    have sl : ∀ {v : Value} {l : List UInt8}, ByC W v l → Sl W v l := fun h => by
      obtain ⟨va, vc, rfl, h1, h2⟩ := h
      exact ⟨va, vc, rfl, h1, h2⟩
    exact ⟨⟨a0, a1, a2, a3, x4, x5, x6, a7, a8, a9, a10⟩, _, _, _, rfl, sl k4, sl k5, sl k6, ⟨_, _, _, _, y4a, y5a, y6a, _, _, _, _, by simpa using hxy.1, D4, D5, D6⟩⟩
end Go.Proofs.YtmlfcbbgelkbbaaGreat

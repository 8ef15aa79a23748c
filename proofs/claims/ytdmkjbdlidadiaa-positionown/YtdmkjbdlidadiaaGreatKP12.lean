/- What the proof stands on, part 12: the contracts of the program's calls that it reaches. -/
import Derived.Test.YtdmkjbdlidadiaaGreatKP11
import Derived.Deep.DeepCutAuto
import Derived.Deep.RegionLaw
import Derived.Deep.RegionWith
/- PositionOwn: the walk. -/
namespace Go.Proofs.YtdmkjbdlidadiaaGreat
open Go.RowKit

def poP : Plt := ⟨1, 0, List.replicate 60 0, [], [], [], [], 0, false⟩
theorem po_gre : grE poP.data = 0 := by decide
theorem zeros60 {w w1 : World} (h : w1.ownsRow w.heap.size 5 1 (.slice (some ⟨w.heap.size, 0, none⟩) 60 60) 60 (madeCells (Value.int .u8 0).cells (60 * 1)).toList) (hg : w.grownBy w1 none) :
    Bys w1 (.slice (some ⟨w.heap.size, 0, none⟩) 60 60) poP.data ∧ Below w.heap.size w w1 := by
  refine ⟨?_, (Below.refl _ w).grown hg (Nat.le_refl _) (fun k e => by cases e)⟩
  rw [made_cells] at h
  refine Bys.of_owns (base := w.heap.size) (l := List.replicate 60 0) ?_
  simpa [bv] using h
set_option linter.unusedSimpArgs false in
set_option maxRecDepth 100000 in
set_option maxHeartbeats 40000000 in
theorem pown_any14 (x : SS) (o i b : Value) (off wh : Int) (w : World) (h : SIn w (fun _ => True) x o i b) (ho : x.out.length ≤ 140737488351232) (hi : x.inn.length ≤ 140737488351232) (hb : x.back.length ≤ 140737488351232) (hoff : -9223372036854775808 ≤ off ∧ off ≤ 9223372036854775807) :
    Calls Tryz.prog 8 #[.agg #[.bool x.rd, .bool x.wt, .int .i64 x.mode, .int .i64 x.size, o, i, b, .int .i64 x.dir, .bool x.fin, .bool x.bad, .bool x.closed], .int .i64 off, .int .i64 wh] w fun e w' => e = .returned (.bool true) ∧ Below w.heap.size w w' := by
  have HI0 := hide h
  have HOf := hide hoff
  obtain ⟨s1, s4, rfl, -⟩ := h.so
  obtain ⟨s2, s5, rfl, -⟩ := h.si
  obtain ⟨s3, s6, rfl, -⟩ := h.sb
  clear h hoff
  obtain ⟨i0, hi0, hz0, hz1, hz2⟩ := info_parts Tryz.infoB
  go_enter Tryz.func8, Tryz.ntmps8
  have HW : Hid (Below w.heap.size w w) := hide (Below.refl _ _)
  have hA := recv_below w (Obj.cells #[.bool x.rd, .bool x.wt, .int .i64 x.mode, .int .i64 x.size, .slice s1 x.out.length s4, .slice s2 x.inn.length s5, .slice s3 x.back.length s6, .int .i64 x.dir, .bool x.fin, .bool x.bad, .bool x.closed] 52)
  have HS := hide (RSt.new w x (.slice s1 x.out.length s4) (.slice s2 x.inn.length s5) (.slice s3 x.back.length s6))
  replace HW := hide (HW.out.trans (hA.mono HW.out.size))
  clear hA
  obtain ⟨c0, c1, c2, c3, c4, c5, c6, c7, c8, c9, c10⟩ := HS.out.cs
  go_wp2_with fail
  clear c0 c1 c2 c3 c4 c5 c6 c7 c8 c9 c10
  generalize w.alloc (Obj.cells #[.bool x.rd, .bool x.wt, .int .i64 x.mode, .int .i64 x.size, .slice s1 x.out.length s4, .slice s2 x.inn.length s5, .slice s3 x.back.length s6, .int .i64 x.dir, .bool x.fin, .bool x.bad, .bool x.closed] 52) = w0 at *
  refine (alive14 _).mono ?_
  rintro _ w1 ⟨rfl, hB⟩
  replace HW := hide (HW.out.trans (hB.mono HW.out.size))
  replace HS := hide (HS.out.below hB)
  clear hB
  go_wp2_with (at_make; refine wpList_make_full _ rfl _ _ 40 rfl w1.heap.size 5 i0 (.int .u8 0) 1 Tryz.underlying40 hi0 hz0 hz1 _ _ _ _ 60 rfl rfl rfl rfl (by rw [hz2]; omega) (by unfold maxLen; omega) (Nat.le_refl _) ?_; intro w2 hown2 hgrow2; obtain ⟨hb1, hB⟩ := zeros60 hown2 hgrow2; clear hown2 hgrow2)
  have HM := hide (make_growing_g poP _ _ _ _ _ w2 (show PltIn _ poP (.slice (some ⟨w1.heap.size, 0, none⟩) 60 60) (.slice none 0 0) (.slice none 0 0) (.slice none 0 0) (.slice none 0 0) from ⟨⟨_, _, rfl, hb1, Nat.le_refl _⟩, rows_ans (.inl ⟨rfl, rfl⟩), rows_ints (.inl ⟨rfl, rfl⟩), .inl ⟨rfl, rfl⟩, .inl ⟨rfl, rfl⟩⟩) (by kernel_rfl) (show I64 0 from ⟨by decide, by decide⟩))
  replace HW := hide (HW.out.trans (hB.mono HW.out.size))
  replace HS := hide (HS.out.below hB)
  clear hB hb1
  refine HM.out.mono ?_
  rintro _ w3 ⟨hB, h2⟩
  clear HM
  have z3 := hB.size
  have zw : w.heap.size ≤ w2.heap.size := HW.out.size
  replace HW := hide (HW.out.trans (hB.mono HW.out.size))
  replace HS := hide (HS.out.below hB)
  clear hB
  rcases h2 with ⟨h2, -⟩ | ⟨mb, hmb, rfl, gq, s0, O, hM0, hA, hO⟩
  · exact absurd po_gre h2
  have HM0 := hide hM0
  have HMl : Hid (mb < w3.heap.size) := hide (World.block_lt_of_cell? _ _ HM0.out)
  have HOl : Hid (∀ j, O j → mb + 1 ≤ j ∧ j < w3.heap.size) := hide hO
  have HA := hide hA
  clear hM0 hA hO
  have HGv := hide (fun W (hs : SIn W (fun _ => True) x (.slice s1 x.out.length s4) (.slice s2 x.inn.length s5) (.slice s3 x.back.length s6)) => given_any x _ _ _ _ W hs ho hi hb)
  obtain ⟨c0, c1, c2, c3, c4, c5, c6, c7, c8, c9, c10⟩ := HS.out.cs
  go_wp2_with fail
  clear c0 c1 c2 c3 c4 c5 c6 c7 c8 c9 c10
  refine (HGv.out _ (HI0.out.below HW.out)).mono ?_
  rintro _ w4 ⟨o1, i1, b1, rfl, y1, y2, y3, hB, hAp⟩
  obtain ⟨g1, g4, rfl⟩ := owns_slice y1
  obtain ⟨g2, g5, rfl⟩ := owns_slice y2
  obtain ⟨g3, g6, rfl⟩ := owns_slice y3
  have HX : Hid (Own3 w3.heap.size w4 x (.slice g1 x.out.length g4) (.slice g2 x.inn.length g5) (.slice g3 x.back.length g6)) := hide ⟨y1, y2, y3, hAp⟩
  have HXl := hide HX.out.lt
  have HXu : Hid (Ub w4.heap.size (.slice g1 x.out.length g4) (.slice g2 x.inn.length g5) (.slice g3 x.back.length g6)) := hide ⟨fun k e => (HXl.out.1 k e).2, fun k e => (HXl.out.2.1 k e).2, fun k e => (HXl.out.2.2 k e).2⟩
  have z4 := hB.size
  replace HW := hide (HW.out.trans (hB.mono HW.out.size))
  replace HS := hide (HS.out.below hB)
  replace HM0 := hide ((hB.cell (World.block_lt_of_cell? _ _ HM0.out)).trans HM0.out)
  replace HA := hide ((gmem_o gq s0).keep HA.out (fun j _ hl => hB.block j hl) hB.size)
  clear y1 y2 y3 hB hAp HGv HI0
  have hA := recv_below w4 (Obj.cells #[.bool x.rd, .bool x.wt, .int .i64 x.mode, .int .i64 x.size, .slice g1 x.out.length g4, .slice g2 x.inn.length g5, .slice g3 x.back.length g6, .int .i64 x.dir, .bool x.fin, .bool x.bad, .bool x.closed] 58)
  have HG := hide (StAt.new w4 x (.slice g1 x.out.length g4) (.slice g2 x.inn.length g5) (.slice g3 x.back.length g6))
  replace HW := hide (HW.out.trans (hA.mono HW.out.size))
  replace HS := hide (HS.out.below hA)
  replace HM0 := hide ((hA.cell (World.block_lt_of_cell? _ _ HM0.out)).trans HM0.out)
  replace HA := hide ((gmem_o gq s0).keep HA.out (fun j _ hl => hA.block j hl) hA.size)
  replace HX := hide (HX.out.below hA)
  clear hA
  have z5 : w4.heap.size < (w4.alloc (Obj.cells #[.bool x.rd, .bool x.wt, .int .i64 x.mode, .int .i64 x.size, .slice g1 x.out.length g4, .slice g2 x.inn.length g5, .slice g3 x.back.length g6, .int .i64 x.dir, .bool x.fin, .bool x.bad, .bool x.closed] 58)).heap.size := HG.out.lt
  go_upto_region 7 with fail
  generalize w4.alloc (Obj.cells #[.bool x.rd, .bool x.wt, .int .i64 x.mode, .int .i64 x.size, .slice g1 x.out.length g4, .slice g2 x.inn.length g5, .slice g3 x.back.length g6, .int .i64 x.dir, .bool x.fin, .bool x.bad, .bool x.closed] 58) = w14 at *
  have hmb3 : mb < w3.heap.size := HMl.out
  have hng : ¬ O w4.heap.size := fun e => by have := (HOl.out _ e).2; omega
  have hnm : ¬ O mb := fun e => by have := (HOl.out _ e).1; omega
  have HOw : Hid (∀ j, O j → j < w14.heap.size) := hide (fun j e => by have := (HOl.out j e).2; omega)
  have HP := hide (fun (W : World) (hW : Below w14.heap.size w14 W) => ptell_any (gro_raw gq) (fun s => gmem_o gq s) (bears_true msR) (gro_seek gq) (bearsS_true _) (HX.out.below hW).sin ((gmem_o gq s0).keep HA.out (fun j _ hl => hW.block j hl) hW.size) (fun j e => Nat.lt_of_lt_of_le (HOw.out j e) hW.size) trivial ho hi hb)
  have HLy := hide (tell_lens msR MS.seek x s0 ho hi hb)
  generalize x.tell msR MS.seek s0 = X at *
  obtain ⟨y, cy, ey, sy⟩ := X
  simp only at HP HLy
  have hgl := HG.out.lt
  have hml : mb < w14.heap.size := World.block_lt_of_cell? _ _ HM0.out
  have HSn : Hid (∀ W W', Below w14.heap.size w14 W → Turned O W W' → StAt W' w4.heap.size x (.slice g1 x.out.length g4) (.slice g2 x.inn.length g5) (.slice g3 x.back.length g6) ∧ W'.cell? ⟨mb, 0, none⟩ = some (.iface 75 (.pointer (some ⟨gq, 0, none⟩)))) := hide (fun W W' hW hT => ⟨(hT.block _ (Nat.lt_of_lt_of_le hgl hW.size) hng).trans (HG.out.below hW), hT.cell ((hW.cell (p := ⟨mb, 0, none⟩) hml).trans HM0.out) hnm⟩)
  have HSt : Hid (∀ W W', StAt W w4.heap.size x (.slice g1 x.out.length g4) (.slice g2 x.inn.length g5) (.slice g3 x.back.length g6) ∧ W.cell? ⟨mb, 0, none⟩ = some (.iface 75 (.pointer (some ⟨gq, 0, none⟩))) → Turned (fun k => k = w14.heap.size) W W' → StAt W' w4.heap.size x (.slice g1 x.out.length g4) (.slice g2 x.inn.length g5) (.slice g3 x.back.length g6) ∧ W'.cell? ⟨mb, 0, none⟩ = some (.iface 75 (.pointer (some ⟨gq, 0, none⟩)))) := hide (fun W W' h hT => ⟨(hT.block _ h.1.lt (by omega)).trans h.1, hT.cell h.2 (by show ¬ mb = w14.heap.size; omega)⟩)
  go_cut [10] (fun p19 wx => ∃ (gy : Nat) (O1 : Nat → Prop) (a1 a2 a3 : Option Addr) (k1 k2 k3 : Nat), p19 = .pointer (some ⟨gy, 0, none⟩) ∧ Hid (Got (fun w O S => MemAt w O gq S) w14.drew O O1 wx gy y sy (.slice a1 y.out.length k1) (.slice a2 y.inn.length k2) (.slice a3 y.back.length k3)))
  case first =>
    refine wp_region_noPanic ?_
    refine wp_region_held_drew (S := fun W => StAt W w4.heap.size x (.slice g1 x.out.length g4) (.slice g2 x.inn.length g5) (.slice g3 x.back.length g6) ∧ W.cell? ⟨mb, 0, none⟩ = some (.iface 75 (.pointer (some ⟨gq, 0, none⟩)))) (by kernel_rfl) (⟨HG.out.below (Below.refl _ _).drew, HM0.out⟩) (fun hHeld => ?_)
    refine wpAnyH_take (i := 0) (oi := ?_) (v := ?_) ?_ (by kernel_rfl) (by kernel_rfl) (by kernel_rfl) (fun _ _ _ h => (h : False).elim) (Or.inl ⟨?_, ?_⟩) hHeld ?_
    rotate_left 2
    · (simp only [List.getElem?_toArray, List.getElem?_cons_zero]; rfl)
    · rfl
    · (intro W hSw; obtain ⟨hq1, hq2⟩ := hSw; obtain ⟨m0, m1, m2, m3, m4, m5, m6, m7, m8, m9, m10⟩ := hq1.cs; go_simp <;> with_reducible rfl)
    try simp only [Act.put, List.setIfInBounds_toArray, List.set_cons_zero, List.set_cons_succ]
    refine wpAnyH_take (i := 1) (oi := ?_) (v := ?_) ?_ (by kernel_rfl) (by kernel_rfl) (by kernel_rfl) (fun _ _ _ h => (h : False).elim) (Or.inl ⟨?_, ?_⟩) hHeld ?_
    rotate_left 2
    · (simp only [List.getElem?_toArray, List.getElem?_cons_zero, List.getElem?_cons_succ]; rfl)
    · rfl
    · (intro W hSw; obtain ⟨hq1, hq2⟩ := hSw; obtain ⟨m0, m1, m2, m3, m4, m5, m6, m7, m8, m9, m10⟩ := hq1.cs; go_simp <;> with_reducible rfl)
    try simp only [Act.put, List.setIfInBounds_toArray, List.set_cons_zero, List.set_cons_succ]
    refine wpAnyH_take (i := 2) (oi := ?_) (v := ?_) ?_ (by kernel_rfl) (by kernel_rfl) (by kernel_rfl) (fun _ _ _ h => (h : False).elim) (Or.inl ⟨?_, ?_⟩) hHeld ?_
    rotate_left 2
    · (simp only [List.getElem?_toArray, List.getElem?_cons_zero, List.getElem?_cons_succ]; rfl)
    · rfl
    · (intro W hSw; obtain ⟨hq1, hq2⟩ := hSw; obtain ⟨m0, m1, m2, m3, m4, m5, m6, m7, m8, m9, m10⟩ := hq1.cs; go_simp <;> with_reducible rfl)
    try simp only [Act.put, List.setIfInBounds_toArray, List.set_cons_zero, List.set_cons_succ]
    refine wpAnyH_take (i := 3) (oi := ?_) (v := ?_) ?_ (by kernel_rfl) (by kernel_rfl) (by kernel_rfl) (fun _ _ _ h => (h : False).elim) (Or.inl ⟨?_, ?_⟩) hHeld ?_
    rotate_left 2
    · (simp only [List.getElem?_toArray, List.getElem?_cons_zero, List.getElem?_cons_succ]; rfl)
    · rfl
    · (intro W hSw; obtain ⟨hq1, hq2⟩ := hSw; obtain ⟨m0, m1, m2, m3, m4, m5, m6, m7, m8, m9, m10⟩ := hq1.cs; go_simp <;> with_reducible rfl)
    try simp only [Act.put, List.setIfInBounds_toArray, List.set_cons_zero, List.set_cons_succ]
    refine wpAnyH_take (i := 4) (oi := ?_) (v := ?_) ?_ (by kernel_rfl) (by kernel_rfl) (by kernel_rfl) (fun _ _ _ h => (h : False).elim) (Or.inl ⟨?_, ?_⟩) hHeld ?_
    rotate_left 2
    · (simp only [List.getElem?_toArray, List.getElem?_cons_zero, List.getElem?_cons_succ]; rfl)
    · rfl
    · (intro W hSw; obtain ⟨hq1, hq2⟩ := hSw; obtain ⟨m0, m1, m2, m3, m4, m5, m6, m7, m8, m9, m10⟩ := hq1.cs; go_simp <;> with_reducible rfl)
    try simp only [Act.put, List.setIfInBounds_toArray, List.set_cons_zero, List.set_cons_succ]
    refine wpAnyH_ready (rs := [5, 10]) (by kernel_rfl) (by simp) ?_
    refine AllReadyH.cons (o := ?_) ?_ (fun K' hK => ?_) (AllReadyH.cons (o := ?_) ?_ (fun K' hK => ?_) AllReadyH.nil)
    rotate_left 1
    · (simp only [List.getElem?_toArray, List.getElem?_cons_zero, List.getElem?_cons_succ]; rfl)
    · go_simp
      go_at_call 38
      refine (HP.out _ ((Below.refl _ _).drew)).mono ?_
      rintro _ w5' ⟨o', i', b'', rfl, hS⟩
      obtain ⟨a1, k1, rfl, -⟩ := hS.choose_spec.1.so
      obtain ⟨a2, k2, rfl, -⟩ := hS.choose_spec.1.si
      obtain ⟨a3, k3, rfl, -⟩ := hS.choose_spec.1.sb
      have hT5 : Turned _ w14.drew w5' := (by obtain ⟨_, _, _, _, _, t⟩ := hS; exact t)
      have HS5 := hide hS
      clear hS
      have h9 := HSn.out _ w5' ((Below.refl _ _).drew) hT5
      refine hK.out _ _ (h9) (fun hHeld2 => ?_)
      clear hK K' hHeld
      have hHeld := hHeld2
      clear hHeld2
      try simp only [Act.put, List.setIfInBounds_toArray, List.set_cons_zero, List.set_cons_succ]
      refine wpAnyH_take (i := 6) (oi := ?_) (v := ?_) ?_ (by kernel_rfl) (by kernel_rfl) (by kernel_rfl) (fun _ _ _ h => (h : False).elim) (Or.inl ⟨?_, ?_⟩) hHeld ?_
      rotate_left 2
      · (simp only [List.getElem?_toArray, List.getElem?_cons_zero, List.getElem?_cons_succ]; rfl)
      · rfl
      · (intro W hSw; obtain ⟨hq1, hq2⟩ := hSw; obtain ⟨m0, m1, m2, m3, m4, m5, m6, m7, m8, m9, m10⟩ := hq1.cs; go_simp <;> with_reducible rfl)
      try simp only [Act.put, List.setIfInBounds_toArray, List.set_cons_zero, List.set_cons_succ]
      refine wpAnyH_take (i := 7) (oi := ?_) (v := ?_) ?_ (by kernel_rfl) (by kernel_rfl) (by kernel_rfl) (fun _ _ _ h => (h : False).elim) (Or.inl ⟨?_, ?_⟩) hHeld ?_
      rotate_left 2
      · (simp only [List.getElem?_toArray, List.getElem?_cons_zero, List.getElem?_cons_succ]; rfl)
      · rfl
      · (intro W hSw; obtain ⟨hq1, hq2⟩ := hSw; obtain ⟨m0, m1, m2, m3, m4, m5, m6, m7, m8, m9, m10⟩ := hq1.cs; go_simp <;> with_reducible rfl)
      try simp only [Act.put, List.setIfInBounds_toArray, List.set_cons_zero, List.set_cons_succ]
      refine wpAnyH_take (i := 8) (oi := ?_) (v := ?_) ?_ (by kernel_rfl) (by kernel_rfl) (by kernel_rfl) (fun _ _ _ h => (h : False).elim) (Or.inl ⟨?_, ?_⟩) hHeld ?_
      rotate_left 2
      · (simp only [List.getElem?_toArray, List.getElem?_cons_zero, List.getElem?_cons_succ]; rfl)
      · rfl
      · (intro W hSw; obtain ⟨hq1, hq2⟩ := hSw; obtain ⟨m0, m1, m2, m3, m4, m5, m6, m7, m8, m9, m10⟩ := hq1.cs; go_simp <;> with_reducible rfl)
      try simp only [Act.put, List.setIfInBounds_toArray, List.set_cons_zero, List.set_cons_succ]
      refine wpAnyH_take (i := 9) (oi := ?_) (v := ?_) ?_ (by kernel_rfl) (by kernel_rfl) (by kernel_rfl) (fun _ _ _ h => (h : False).elim) (Or.inl ⟨?_, ?_⟩) hHeld ?_
      rotate_left 2
      · (simp only [List.getElem?_toArray, List.getElem?_cons_zero, List.getElem?_cons_succ]; rfl)
      · rfl
      · (intro W hSw; obtain ⟨hq1, hq2⟩ := hSw; obtain ⟨m0, m1, m2, m3, m4, m5, m6, m7, m8, m9, m10⟩ := hq1.cs; go_simp <;> with_reducible rfl)
      try simp only [Act.put, List.setIfInBounds_toArray, List.set_cons_zero, List.set_cons_succ]
      refine wpAnyH_ready (rs := [10]) (by kernel_rfl) (by simp) ?_
      refine AllReadyH.cons (o := ?_) ?_ (fun K' hK => ?_) AllReadyH.nil
      rotate_left 1
      · (simp only [List.getElem?_toArray, List.getElem?_cons_zero, List.getElem?_cons_succ]; rfl)
      go_simp
      refine hK.out _ _ (⟨h9.1.below (recv_below w5' (Obj.cells #[.bool false, .bool false, .int .i64 0, .int .i64 0, .slice none 0 0, .slice none 0 0, .slice none 0 0, .int .i64 0, .bool false, .bool false, .bool false] 58)), ((recv_below w5' (Obj.cells #[.bool false, .bool false, .int .i64 0, .int .i64 0, .slice none 0 0, .slice none 0 0, .slice none 0 0, .int .i64 0, .bool false, .bool false, .bool false] 58)).cell (p := ⟨mb, 0, none⟩) (World.block_lt_of_cell? w5' _ h9.2)).trans h9.2⟩) (fun hHeld2 => ?_)
      clear hK K' hHeld
      have hHeld := hHeld2
      clear hHeld2
      try simp only [Act.put, List.setIfInBounds_toArray, List.set_cons_zero, List.set_cons_succ]
      refine wpAnyH_ready (rs := [11]) (by kernel_rfl) (by simp) ?_
      refine AllReadyH.cons (o := ?_) ?_ (fun K' hK => ?_) AllReadyH.nil
      rotate_left 1
      · (simp only [List.getElem?_toArray, List.getElem?_cons_zero, List.getElem?_cons_succ]; rfl)
      go_simp
      refine hK.out _ _ (⟨h9.1.below (recv_below w5' (Obj.cells #[.bool y.rd, .bool y.wt, .int .i64 y.mode, .int .i64 y.size, .slice a1 y.out.length k1, .slice a2 y.inn.length k2, .slice a3 y.back.length k3, .int .i64 y.dir, .bool y.fin, .bool y.bad, .bool y.closed] 58)), ((recv_below w5' (Obj.cells #[.bool y.rd, .bool y.wt, .int .i64 y.mode, .int .i64 y.size, .slice a1 y.out.length k1, .slice a2 y.inn.length k2, .slice a3 y.back.length k3, .int .i64 y.dir, .bool y.fin, .bool y.bad, .bool y.closed] 58)).cell (p := ⟨mb, 0, none⟩) (World.block_lt_of_cell? w5' _ h9.2)).trans h9.2⟩) (fun hHeld2 => ?_)
      clear hK K' hHeld
      have hHeld := hHeld2
      clear hHeld2
      try simp only [Act.put, List.setIfInBounds_toArray, List.set_cons_zero, List.set_cons_succ]
      refine wpAnyH_take (i := 12) (oi := ?_) (v := ?_) ?_ (by kernel_rfl) (by kernel_rfl) (by kernel_rfl) (fun _ _ _ h => (h : False).elim) (Or.inl ⟨?_, ?_⟩) hHeld ?_
      rotate_left 2
      · (simp only [List.getElem?_toArray, List.getElem?_cons_zero, List.getElem?_cons_succ]; rfl)
      · rfl
      · (intro W hSw; obtain ⟨hq1, hq2⟩ := hSw; obtain ⟨m0, m1, m2, m3, m4, m5, m6, m7, m8, m9, m10⟩ := hq1.cs; go_simp <;> with_reducible rfl)
      try simp only [Act.put, List.setIfInBounds_toArray, List.set_cons_zero, List.set_cons_succ]
      refine wpAnyH_take (i := 13) (oi := ?_) (v := ?_) ?_ (by kernel_rfl) (by kernel_rfl) (by kernel_rfl) (fun _ _ _ h => (h : False).elim) (Or.inl ⟨?_, ?_⟩) hHeld ?_
      rotate_left 2
      · (simp only [List.getElem?_toArray, List.getElem?_cons_zero, List.getElem?_cons_succ]; rfl)
      · rfl
      · (intro W hSw; obtain ⟨hq1, hq2⟩ := hSw; obtain ⟨m0, m1, m2, m3, m4, m5, m6, m7, m8, m9, m10⟩ := hq1.cs; go_simp <;> with_reducible rfl)
      try simp only [Act.put, List.setIfInBounds_toArray, List.set_cons_zero, List.set_cons_succ]
      refine wpAnyH_done (by kernel_rfl) ?_ _
      refine NoPanic.normal ?_
      clear hHeld h9 hT5
      go_wp2
      go_meet
      obtain ⟨O', hg⟩ := Got.behind (fun s => gmem_o gq s) HS5.out
      exact ⟨_, O', _, _, _, _, _, _, rfl, hide hg⟩
    rotate_left 1
    · (simp only [List.getElem?_toArray, List.getElem?_cons_zero, List.getElem?_cons_succ]; rfl)
    · go_simp
      refine hK.out _ _ (HSn.out _ _ ((Below.refl _ w14).alloc (Nat.le_refl _) (Obj.cells #[.bool false, .bool false, .int .i64 0, .int .i64 0, .slice none 0 0, .slice none 0 0, .slice none 0 0, .int .i64 0, .bool false, .bool false, .bool false] 58)).drew (Turned.refl _ _)) (fun hHeld2 => ?_)
      clear hK K' hHeld
      have hHeld := hHeld2
      clear hHeld2
      try simp only [Act.put, List.setIfInBounds_toArray, List.set_cons_zero, List.set_cons_succ]
      refine wpAnyH_ready (rs := [5]) (by kernel_rfl) (by simp) ?_
      refine AllReadyH.cons (o := ?_) ?_ (fun K' hK => ?_) AllReadyH.nil
      rotate_left 1
      · (simp only [List.getElem?_toArray, List.getElem?_cons_zero, List.getElem?_cons_succ]; rfl)
      go_simp
      go_at_call 38
      refine (HP.out _ (((Below.refl _ w14).alloc (Nat.le_refl _) (Obj.cells #[.bool false, .bool false, .int .i64 0, .int .i64 0, .slice none 0 0, .slice none 0 0, .slice none 0 0, .int .i64 0, .bool false, .bool false, .bool false] 58)).drew)).mono ?_
      rintro _ w5' ⟨o', i', b'', rfl, hS⟩
      obtain ⟨a1, k1, rfl, -⟩ := hS.choose_spec.1.so
      obtain ⟨a2, k2, rfl, -⟩ := hS.choose_spec.1.si
      obtain ⟨a3, k3, rfl, -⟩ := hS.choose_spec.1.sb
      have hT5 : Turned _ (w14.alloc (Obj.cells #[.bool false, .bool false, .int .i64 0, .int .i64 0, .slice none 0 0, .slice none 0 0, .slice none 0 0, .int .i64 0, .bool false, .bool false, .bool false] 58)).drew w5' := (by obtain ⟨_, _, _, _, _, t⟩ := hS; exact t)
      have HS5 := hide hS
      clear hS
      have h9 := HSn.out _ w5' (((Below.refl _ w14).alloc (Nat.le_refl _) (Obj.cells #[.bool false, .bool false, .int .i64 0, .int .i64 0, .slice none 0 0, .slice none 0 0, .slice none 0 0, .int .i64 0, .bool false, .bool false, .bool false] 58)).drew) hT5
      refine hK.out _ _ (h9) (fun hHeld2 => ?_)
      clear hK K' hHeld
      have hHeld := hHeld2
      clear hHeld2
      try simp only [Act.put, List.setIfInBounds_toArray, List.set_cons_zero, List.set_cons_succ]
      refine wpAnyH_take (i := 6) (oi := ?_) (v := ?_) ?_ (by kernel_rfl) (by kernel_rfl) (by kernel_rfl) (fun _ _ _ h => (h : False).elim) (Or.inl ⟨?_, ?_⟩) hHeld ?_
      rotate_left 2
      · (simp only [List.getElem?_toArray, List.getElem?_cons_zero, List.getElem?_cons_succ]; rfl)
      · rfl
      · (intro W hSw; obtain ⟨hq1, hq2⟩ := hSw; obtain ⟨m0, m1, m2, m3, m4, m5, m6, m7, m8, m9, m10⟩ := hq1.cs; go_simp <;> with_reducible rfl)
      try simp only [Act.put, List.setIfInBounds_toArray, List.set_cons_zero, List.set_cons_succ]
      refine wpAnyH_take (i := 7) (oi := ?_) (v := ?_) ?_ (by kernel_rfl) (by kernel_rfl) (by kernel_rfl) (fun _ _ _ h => (h : False).elim) (Or.inl ⟨?_, ?_⟩) hHeld ?_
      rotate_left 2
      · (simp only [List.getElem?_toArray, List.getElem?_cons_zero, List.getElem?_cons_succ]; rfl)
      · rfl
      · (intro W hSw; obtain ⟨hq1, hq2⟩ := hSw; obtain ⟨m0, m1, m2, m3, m4, m5, m6, m7, m8, m9, m10⟩ := hq1.cs; go_simp <;> with_reducible rfl)
      try simp only [Act.put, List.setIfInBounds_toArray, List.set_cons_zero, List.set_cons_succ]
      refine wpAnyH_take (i := 8) (oi := ?_) (v := ?_) ?_ (by kernel_rfl) (by kernel_rfl) (by kernel_rfl) (fun _ _ _ h => (h : False).elim) (Or.inl ⟨?_, ?_⟩) hHeld ?_
      rotate_left 2
      · (simp only [List.getElem?_toArray, List.getElem?_cons_zero, List.getElem?_cons_succ]; rfl)
      · rfl
      · (intro W hSw; obtain ⟨hq1, hq2⟩ := hSw; obtain ⟨m0, m1, m2, m3, m4, m5, m6, m7, m8, m9, m10⟩ := hq1.cs; go_simp <;> with_reducible rfl)
      try simp only [Act.put, List.setIfInBounds_toArray, List.set_cons_zero, List.set_cons_succ]
      refine wpAnyH_take (i := 9) (oi := ?_) (v := ?_) ?_ (by kernel_rfl) (by kernel_rfl) (by kernel_rfl) (fun _ _ _ h => (h : False).elim) (Or.inl ⟨?_, ?_⟩) hHeld ?_
      rotate_left 2
      · (simp only [List.getElem?_toArray, List.getElem?_cons_zero, List.getElem?_cons_succ]; rfl)
      · rfl
      · (intro W hSw; obtain ⟨hq1, hq2⟩ := hSw; obtain ⟨m0, m1, m2, m3, m4, m5, m6, m7, m8, m9, m10⟩ := hq1.cs; go_simp <;> with_reducible rfl)
      try simp only [Act.put, List.setIfInBounds_toArray, List.set_cons_zero, List.set_cons_succ]
      have hz9 : w5'.heap[w14.heap.size]? = some (Obj.cells #[.bool false, .bool false, .int .i64 0, .int .i64 0, .slice none 0 0, .slice none 0 0, .slice none 0 0, .int .i64 0, .bool false, .bool false, .bool false] 58) := (hT5.block w14.heap.size (by show _ < (w14.alloc (Obj.cells #[.bool false, .bool false, .int .i64 0, .int .i64 0, .slice none 0 0, .slice none 0 0, .slice none 0 0, .int .i64 0, .bool false, .bool false, .bool false] 58)).heap.size; rw [World.size_alloc]; omega) (fun e => by have := HOw.out _ e; omega)).trans (heap_alloc_new w14 (Obj.cells #[.bool false, .bool false, .int .i64 0, .int .i64 0, .slice none 0 0, .slice none 0 0, .slice none 0 0, .int .i64 0, .bool false, .bool false, .bool false] 58))
      obtain ⟨e1, e2⟩ := st_fill w5' w14.heap.size y (.slice a1 y.out.length k1) (.slice a2 y.inn.length k2) (.slice a3 y.back.length k3) hz9
      have HS9 := hide (HSt.out _ _ h9 e2)
      have u0' := frozen_of_row w5' w14.heap.size 0 _ _ hz9
      have u1' := frozen_of_row w5' w14.heap.size 1 _ _ hz9
      have u2' := frozen_of_row w5' w14.heap.size 2 _ _ hz9
      have u3' := frozen_of_row w5' w14.heap.size 3 _ _ hz9
      have u4' := frozen_of_row w5' w14.heap.size 4 _ _ hz9
      have u5' := frozen_of_row w5' w14.heap.size 5 _ _ hz9
      have u6' := frozen_of_row w5' w14.heap.size 6 _ _ hz9
      have u7' := frozen_of_row w5' w14.heap.size 7 _ _ hz9
      have u8' := frozen_of_row w5' w14.heap.size 8 _ _ hz9
      have u9' := frozen_of_row w5' w14.heap.size 9 _ _ hz9
      have u10' := frozen_of_row w5' w14.heap.size 10 _ _ hz9
      have z0' := cell_of_row w5' w14.heap.size 0 _ _ _ hz9
      have z1' := cell_of_row w5' w14.heap.size 1 _ _ _ hz9
      have z2' := cell_of_row w5' w14.heap.size 2 _ _ _ hz9
      have z3' := cell_of_row w5' w14.heap.size 3 _ _ _ hz9
      have z4' := cell_of_row w5' w14.heap.size 4 _ _ _ hz9
      have z5' := cell_of_row w5' w14.heap.size 5 _ _ _ hz9
      have z6' := cell_of_row w5' w14.heap.size 6 _ _ _ hz9
      have z7' := cell_of_row w5' w14.heap.size 7 _ _ _ hz9
      have z8' := cell_of_row w5' w14.heap.size 8 _ _ _ hz9
      have z9' := cell_of_row w5' w14.heap.size 9 _ _ _ hz9
      have z10' := cell_of_row w5' w14.heap.size 10 _ _ _ hz9
      simp at z0' z1' z2' z3' z4' z5' z6' z7' z8' z9' z10'
      clear e1 e2 hz9 hT5
      refine wpAnyH_ready (rs := [11]) (by kernel_rfl) (by simp) ?_
      refine AllReadyH.cons (o := ?_) ?_ (fun K' hK => ?_) AllReadyH.nil
      rotate_left 1
      · (simp only [List.getElem?_toArray, List.getElem?_cons_zero, List.getElem?_cons_succ]; rfl)
      go_simp
      refine hK.out _ _ (HS9.out) (fun hHeld2 => ?_)
      clear hK K' hHeld
      have hHeld := hHeld2
      clear hHeld2
      try simp only [Act.put, List.setIfInBounds_toArray, List.set_cons_zero, List.set_cons_succ]
      clear u0' z0' u1' z1' u2' z2' u3' z3' u4' z4' u5' z5' u6' z6' u7' z7' u8' z8' u9' z9' u10' z10'
      refine wpAnyH_take (i := 12) (oi := ?_) (v := ?_) ?_ (by kernel_rfl) (by kernel_rfl) (by kernel_rfl) (fun _ _ _ h => (h : False).elim) (Or.inl ⟨?_, ?_⟩) hHeld ?_
      rotate_left 2
      · (simp only [List.getElem?_toArray, List.getElem?_cons_zero, List.getElem?_cons_succ]; rfl)
      · rfl
      · (intro W hSw; obtain ⟨hq1, hq2⟩ := hSw; obtain ⟨m0, m1, m2, m3, m4, m5, m6, m7, m8, m9, m10⟩ := hq1.cs; go_simp <;> with_reducible rfl)
      try simp only [Act.put, List.setIfInBounds_toArray, List.set_cons_zero, List.set_cons_succ]
      refine wpAnyH_take (i := 13) (oi := ?_) (v := ?_) ?_ (by kernel_rfl) (by kernel_rfl) (by kernel_rfl) (fun _ _ _ h => (h : False).elim) (Or.inl ⟨?_, ?_⟩) hHeld ?_
      rotate_left 2
      · (simp only [List.getElem?_toArray, List.getElem?_cons_zero, List.getElem?_cons_succ]; rfl)
      · rfl
      · (intro W hSw; obtain ⟨hq1, hq2⟩ := hSw; obtain ⟨m0, m1, m2, m3, m4, m5, m6, m7, m8, m9, m10⟩ := hq1.cs; go_simp <;> with_reducible rfl)
      try simp only [Act.put, List.setIfInBounds_toArray, List.set_cons_zero, List.set_cons_succ]
      refine wpAnyH_done (by kernel_rfl) ?_ _
      refine NoPanic.normal ?_
      clear hHeld h9
      go_wp2
      go_meet
      obtain ⟨O', hg⟩ := Got.ahead (W0 := w14.drew) (fun s => gmem_o gq s) HS5.out HOw.out
      exact ⟨_, O', _, _, _, _, _, _, rfl, hide hg⟩
  case rest =>
  obtain ⟨gy, O1, u1, u2, u3, u4, u5, u6, rfl, HY⟩ := hcut
  obtain ⟨w15, hq⟩ : ∃ W, W = wc := ⟨_, rfl⟩
  subst hq
  clear HSn HSt HP
  have hTy := HY.out.t
  have z15 : w14.heap.size ≤ w15.heap.size := hTy.size
  have hmk : ∀ k, O k → mb + 1 ≤ k := fun k e => (HOl.out k e).1
  have hlo : ∀ k, w3.heap.size ≤ k → k < w14.heap.size → ¬ O k := fun k h1 _ e => by have := (HOl.out k e).2; omega
  replace HW := hide ((HW.out.trans ((Below.refl _ w14).drew.mono HW.out.size)).trans ((hTy.below (B := mb + 1) hmk (by show mb + 1 ≤ w14.heap.size; omega)).mono (by omega)))
  replace HS : Hid (RSt w15 w.heap.size x (.slice s1 x.out.length s4) (.slice s2 x.inn.length s5) (.slice s3 x.back.length s6)) := hide ((hTy.block _ (Array.getElem?_eq_some_iff.1 HS.out).1 (fun e => by have := hmk _ e; omega)).trans HS.out)
  replace HX := hide (Own3.turned2 ⟨HX.out.below (Below.refl _ _).drew, HXu.out⟩ hTy (fun k h1 h2 => hlo k h1 (by omega))).1
  replace HG : Hid (StAt w15 w4.heap.size x (.slice g1 x.out.length g4) (.slice g2 x.inn.length g5) (.slice g3 x.back.length g6)) := hide ((hTy.block _ HG.out.lt (hlo _ (by omega) (by omega))).trans HG.out)
  replace HM0 : Hid (w15.cell? ⟨mb, 0, none⟩ = some (.iface 75 (.pointer (some ⟨gq, 0, none⟩)))) := hide (hTy.cell HM0.out hnm)
  have HA1 := hide HY.out.raw
  have HYs := hide HY.out.st
  have HYl : Hid (SIn w15 (fun k => w14.heap.size ≤ k ∧ ¬ O1 k ∧ k < w15.heap.size) y (.slice u1 y.out.length u4) (.slice u2 y.inn.length u5) (.slice u3 y.back.length u6)) := hide HY.out.ls
  have HO1 : Hid (∀ k, O1 k → O k ∨ w14.heap.size ≤ k) := hide HY.out.oo
  have HOw1 := hide HY.out.ol
  have hgy1 : ¬ O1 gy := HY.out.og
  have hgy : w14.heap.size ≤ gy := HY.out.g0
  have hmk1 : ∀ k, O1 k → mb + 1 ≤ k := fun k e => (HO1.out k e).elim (hmk k) (fun e => by omega)
  have hlo1 : ∀ k, w3.heap.size ≤ k → k < w14.heap.size → ¬ O1 k := fun k h1 h2 e => (HO1.out k e).elim (hlo k h1 h2) (fun e => by omega)
  have hng1 : ¬ O1 w4.heap.size := hlo1 _ (by omega) (by omega)
  have hnm1 : ¬ O1 mb := fun e => by have := hmk1 _ e; omega
  clear HA HY hTy hng hnm HOw hgl hml
  have HP := hide (fun (W : World) (hW : Below w15.heap.size w15 W) => pseek_any (gro_raw gq) (fun s => gmem_o gq s) (bears_true msR) (gro_seek gq) (bearsS_true _) off wh (HX.out.below hW).sin ((gmem_o gq sy).keep HA1.out (fun j _ hl => hW.block j hl) hW.size) (fun j e => Nat.lt_of_lt_of_le (HOw1.out j e) hW.size) trivial ho hi hb HOf.out)
  have HLz := hide (seek_lens msR MS.seek x sy off wh ho hi hb)
  generalize x.seek msR MS.seek sy off wh = X at *
  obtain ⟨zs, cz, ez, sz⟩ := X
  simp only at HP HLz
  have hng := hng1
  have hnm := hnm1
  have hgl := HG.out.lt
  have hml : mb < w15.heap.size := World.block_lt_of_cell? _ _ HM0.out
  have HSn : Hid (∀ W W', Below w15.heap.size w15 W → Turned O1 W W' → StAt W' w4.heap.size x (.slice g1 x.out.length g4) (.slice g2 x.inn.length g5) (.slice g3 x.back.length g6) ∧ W'.cell? ⟨mb, 0, none⟩ = some (.iface 75 (.pointer (some ⟨gq, 0, none⟩)))) := hide (fun W W' hW hT => ⟨(hT.block _ (Nat.lt_of_lt_of_le hgl hW.size) hng).trans (HG.out.below hW), hT.cell ((hW.cell (p := ⟨mb, 0, none⟩) hml).trans HM0.out) hnm⟩)
  have HSt : Hid (∀ W W', StAt W w4.heap.size x (.slice g1 x.out.length g4) (.slice g2 x.inn.length g5) (.slice g3 x.back.length g6) ∧ W.cell? ⟨mb, 0, none⟩ = some (.iface 75 (.pointer (some ⟨gq, 0, none⟩))) → Turned (fun k => k = w15.heap.size) W W' → StAt W' w4.heap.size x (.slice g1 x.out.length g4) (.slice g2 x.inn.length g5) (.slice g3 x.back.length g6) ∧ W'.cell? ⟨mb, 0, none⟩ = some (.iface 75 (.pointer (some ⟨gq, 0, none⟩)))) := hide (fun W W' h hT => ⟨(hT.block _ h.1.lt (by omega)).trans h.1, hT.cell h.2 (by show ¬ mb = w15.heap.size; omega)⟩)
  go_upto_region 8 with fail
  go_cut [13] (fun p22 wx => ∃ (gz : Nat) (O2 : Nat → Prop) (a1 a2 a3 : Option Addr) (k1 k2 k3 : Nat), p22 = .pointer (some ⟨gz, 0, none⟩) ∧ Hid (Got (fun w O S => MemAt w O gq S) w15.drew O1 O2 wx gz zs sz (.slice a1 zs.out.length k1) (.slice a2 zs.inn.length k2) (.slice a3 zs.back.length k3)))
  case first =>
    refine wp_region_noPanic ?_
    refine wp_region_held_drew (S := fun W => StAt W w4.heap.size x (.slice g1 x.out.length g4) (.slice g2 x.inn.length g5) (.slice g3 x.back.length g6) ∧ W.cell? ⟨mb, 0, none⟩ = some (.iface 75 (.pointer (some ⟨gq, 0, none⟩)))) (by kernel_rfl) (⟨HG.out.below (Below.refl _ _).drew, HM0.out⟩) (fun hHeld => ?_)
    refine wpAnyH_take (i := 0) (oi := ?_) (v := ?_) ?_ (by kernel_rfl) (by kernel_rfl) (by kernel_rfl) (fun _ _ _ h => (h : False).elim) (Or.inl ⟨?_, ?_⟩) hHeld ?_
    rotate_left 2
    · (simp only [List.getElem?_toArray, List.getElem?_cons_zero]; rfl)
    · rfl
    · (intro W hSw; obtain ⟨hq1, hq2⟩ := hSw; obtain ⟨m0, m1, m2, m3, m4, m5, m6, m7, m8, m9, m10⟩ := hq1.cs; go_simp <;> with_reducible rfl)
    try simp only [Act.put, List.setIfInBounds_toArray, List.set_cons_zero, List.set_cons_succ]
    refine wpAnyH_take (i := 1) (oi := ?_) (v := ?_) ?_ (by kernel_rfl) (by kernel_rfl) (by kernel_rfl) (fun _ _ _ h => (h : False).elim) (Or.inl ⟨?_, ?_⟩) hHeld ?_
    rotate_left 2
    · (simp only [List.getElem?_toArray, List.getElem?_cons_zero, List.getElem?_cons_succ]; rfl)
    · rfl
    · (intro W hSw; obtain ⟨hq1, hq2⟩ := hSw; obtain ⟨m0, m1, m2, m3, m4, m5, m6, m7, m8, m9, m10⟩ := hq1.cs; go_simp <;> with_reducible rfl)
    try simp only [Act.put, List.setIfInBounds_toArray, List.set_cons_zero, List.set_cons_succ]
    refine wpAnyH_take (i := 2) (oi := ?_) (v := ?_) ?_ (by kernel_rfl) (by kernel_rfl) (by kernel_rfl) (fun _ _ _ h => (h : False).elim) (Or.inl ⟨?_, ?_⟩) hHeld ?_
    rotate_left 2
    · (simp only [List.getElem?_toArray, List.getElem?_cons_zero, List.getElem?_cons_succ]; rfl)
    · rfl
    · (intro W hSw; obtain ⟨hq1, hq2⟩ := hSw; obtain ⟨m0, m1, m2, m3, m4, m5, m6, m7, m8, m9, m10⟩ := hq1.cs; go_simp <;> with_reducible rfl)
    try simp only [Act.put, List.setIfInBounds_toArray, List.set_cons_zero, List.set_cons_succ]
    refine wpAnyH_take (i := 3) (oi := ?_) (v := ?_) ?_ (by kernel_rfl) (by kernel_rfl) (by kernel_rfl) (fun _ _ _ h => (h : False).elim) (Or.inl ⟨?_, ?_⟩) hHeld ?_
    rotate_left 2
    · (simp only [List.getElem?_toArray, List.getElem?_cons_zero, List.getElem?_cons_succ]; rfl)
    · rfl
    · (intro W hSw; obtain ⟨hq1, hq2⟩ := hSw; obtain ⟨m0, m1, m2, m3, m4, m5, m6, m7, m8, m9, m10⟩ := hq1.cs; go_simp <;> with_reducible rfl)
    try simp only [Act.put, List.setIfInBounds_toArray, List.set_cons_zero, List.set_cons_succ]
    refine wpAnyH_take (i := 4) (oi := ?_) (v := ?_) ?_ (by kernel_rfl) (by kernel_rfl) (by kernel_rfl) (fun _ _ _ h => (h : False).elim) (Or.inl ⟨?_, ?_⟩) hHeld ?_
    rotate_left 2
    · (simp only [List.getElem?_toArray, List.getElem?_cons_zero, List.getElem?_cons_succ]; rfl)
    · rfl
    · (intro W hSw; obtain ⟨hq1, hq2⟩ := hSw; obtain ⟨m0, m1, m2, m3, m4, m5, m6, m7, m8, m9, m10⟩ := hq1.cs; go_simp <;> with_reducible rfl)
    try simp only [Act.put, List.setIfInBounds_toArray, List.set_cons_zero, List.set_cons_succ]
    refine wpAnyH_take (i := 5) (oi := ?_) (v := ?_) ?_ (by kernel_rfl) (by kernel_rfl) (by kernel_rfl) (fun _ _ _ h => (h : False).elim) (Or.inl ⟨?_, ?_⟩) hHeld ?_
    rotate_left 2
    · (simp only [List.getElem?_toArray, List.getElem?_cons_zero, List.getElem?_cons_succ]; rfl)
    · rfl
    · (intro W hSw; obtain ⟨hq1, hq2⟩ := hSw; obtain ⟨m0, m1, m2, m3, m4, m5, m6, m7, m8, m9, m10⟩ := hq1.cs; go_simp <;> with_reducible rfl)
    try simp only [Act.put, List.setIfInBounds_toArray, List.set_cons_zero, List.set_cons_succ]
    refine wpAnyH_take (i := 6) (oi := ?_) (v := ?_) ?_ (by kernel_rfl) (by kernel_rfl) (by kernel_rfl) (fun _ _ _ h => (h : False).elim) (Or.inl ⟨?_, ?_⟩) hHeld ?_
    rotate_left 2
    · (simp only [List.getElem?_toArray, List.getElem?_cons_zero, List.getElem?_cons_succ]; rfl)
    · rfl
    · (intro W hSw; obtain ⟨hq1, hq2⟩ := hSw; obtain ⟨m0, m1, m2, m3, m4, m5, m6, m7, m8, m9, m10⟩ := hq1.cs; go_simp <;> with_reducible rfl)
    try simp only [Act.put, List.setIfInBounds_toArray, List.set_cons_zero, List.set_cons_succ]
    refine wpAnyH_ready (rs := [7, 12]) (by kernel_rfl) (by simp) ?_
    refine AllReadyH.cons (o := ?_) ?_ (fun K' hK => ?_) (AllReadyH.cons (o := ?_) ?_ (fun K' hK => ?_) AllReadyH.nil)
    rotate_left 1
    · (simp only [List.getElem?_toArray, List.getElem?_cons_zero, List.getElem?_cons_succ]; rfl)
    · go_simp
      go_at_call 43
      refine (HP.out _ ((Below.refl _ _).drew)).mono ?_
      rintro _ w5' ⟨o', i', b'', rfl, hS⟩
      obtain ⟨a1, k1, rfl, -⟩ := hS.choose_spec.1.so
      obtain ⟨a2, k2, rfl, -⟩ := hS.choose_spec.1.si
      obtain ⟨a3, k3, rfl, -⟩ := hS.choose_spec.1.sb
      have hT5 : Turned _ w15.drew w5' := (by obtain ⟨_, _, _, _, _, t⟩ := hS; exact t)
      have HS5 := hide hS
      clear hS
      have h9 := HSn.out _ w5' ((Below.refl _ _).drew) hT5
      refine hK.out _ _ (h9) (fun hHeld2 => ?_)
      clear hK K' hHeld
      have hHeld := hHeld2
      clear hHeld2
      try simp only [Act.put, List.setIfInBounds_toArray, List.set_cons_zero, List.set_cons_succ]
      refine wpAnyH_take (i := 8) (oi := ?_) (v := ?_) ?_ (by kernel_rfl) (by kernel_rfl) (by kernel_rfl) (fun _ _ _ h => (h : False).elim) (Or.inl ⟨?_, ?_⟩) hHeld ?_
      rotate_left 2
      · (simp only [List.getElem?_toArray, List.getElem?_cons_zero, List.getElem?_cons_succ]; rfl)
      · rfl
      · (intro W hSw; obtain ⟨hq1, hq2⟩ := hSw; obtain ⟨m0, m1, m2, m3, m4, m5, m6, m7, m8, m9, m10⟩ := hq1.cs; go_simp <;> with_reducible rfl)
      try simp only [Act.put, List.setIfInBounds_toArray, List.set_cons_zero, List.set_cons_succ]
      refine wpAnyH_take (i := 9) (oi := ?_) (v := ?_) ?_ (by kernel_rfl) (by kernel_rfl) (by kernel_rfl) (fun _ _ _ h => (h : False).elim) (Or.inl ⟨?_, ?_⟩) hHeld ?_
      rotate_left 2
      · (simp only [List.getElem?_toArray, List.getElem?_cons_zero, List.getElem?_cons_succ]; rfl)
      · rfl
      · (intro W hSw; obtain ⟨hq1, hq2⟩ := hSw; obtain ⟨m0, m1, m2, m3, m4, m5, m6, m7, m8, m9, m10⟩ := hq1.cs; go_simp <;> with_reducible rfl)
      try simp only [Act.put, List.setIfInBounds_toArray, List.set_cons_zero, List.set_cons_succ]
      refine wpAnyH_take (i := 10) (oi := ?_) (v := ?_) ?_ (by kernel_rfl) (by kernel_rfl) (by kernel_rfl) (fun _ _ _ h => (h : False).elim) (Or.inl ⟨?_, ?_⟩) hHeld ?_
      rotate_left 2
      · (simp only [List.getElem?_toArray, List.getElem?_cons_zero, List.getElem?_cons_succ]; rfl)
      · rfl
      · (intro W hSw; obtain ⟨hq1, hq2⟩ := hSw; obtain ⟨m0, m1, m2, m3, m4, m5, m6, m7, m8, m9, m10⟩ := hq1.cs; go_simp <;> with_reducible rfl)
      try simp only [Act.put, List.setIfInBounds_toArray, List.set_cons_zero, List.set_cons_succ]
      refine wpAnyH_take (i := 11) (oi := ?_) (v := ?_) ?_ (by kernel_rfl) (by kernel_rfl) (by kernel_rfl) (fun _ _ _ h => (h : False).elim) (Or.inl ⟨?_, ?_⟩) hHeld ?_
      rotate_left 2
      · (simp only [List.getElem?_toArray, List.getElem?_cons_zero, List.getElem?_cons_succ]; rfl)
      · rfl
      · (intro W hSw; obtain ⟨hq1, hq2⟩ := hSw; obtain ⟨m0, m1, m2, m3, m4, m5, m6, m7, m8, m9, m10⟩ := hq1.cs; go_simp <;> with_reducible rfl)
      try simp only [Act.put, List.setIfInBounds_toArray, List.set_cons_zero, List.set_cons_succ]
      refine wpAnyH_ready (rs := [12]) (by kernel_rfl) (by simp) ?_
      refine AllReadyH.cons (o := ?_) ?_ (fun K' hK => ?_) AllReadyH.nil
      rotate_left 1
      · (simp only [List.getElem?_toArray, List.getElem?_cons_zero, List.getElem?_cons_succ]; rfl)
      go_simp
      refine hK.out _ _ (⟨h9.1.below (recv_below w5' (Obj.cells #[.bool false, .bool false, .int .i64 0, .int .i64 0, .slice none 0 0, .slice none 0 0, .slice none 0 0, .int .i64 0, .bool false, .bool false, .bool false] 58)), ((recv_below w5' (Obj.cells #[.bool false, .bool false, .int .i64 0, .int .i64 0, .slice none 0 0, .slice none 0 0, .slice none 0 0, .int .i64 0, .bool false, .bool false, .bool false] 58)).cell (p := ⟨mb, 0, none⟩) (World.block_lt_of_cell? w5' _ h9.2)).trans h9.2⟩) (fun hHeld2 => ?_)
      clear hK K' hHeld
      have hHeld := hHeld2
      clear hHeld2
      try simp only [Act.put, List.setIfInBounds_toArray, List.set_cons_zero, List.set_cons_succ]
      refine wpAnyH_ready (rs := [13]) (by kernel_rfl) (by simp) ?_
      refine AllReadyH.cons (o := ?_) ?_ (fun K' hK => ?_) AllReadyH.nil
      rotate_left 1
      · (simp only [List.getElem?_toArray, List.getElem?_cons_zero, List.getElem?_cons_succ]; rfl)
      go_simp
      refine hK.out _ _ (⟨h9.1.below (recv_below w5' (Obj.cells #[.bool zs.rd, .bool zs.wt, .int .i64 zs.mode, .int .i64 zs.size, .slice a1 zs.out.length k1, .slice a2 zs.inn.length k2, .slice a3 zs.back.length k3, .int .i64 zs.dir, .bool zs.fin, .bool zs.bad, .bool zs.closed] 58)), ((recv_below w5' (Obj.cells #[.bool zs.rd, .bool zs.wt, .int .i64 zs.mode, .int .i64 zs.size, .slice a1 zs.out.length k1, .slice a2 zs.inn.length k2, .slice a3 zs.back.length k3, .int .i64 zs.dir, .bool zs.fin, .bool zs.bad, .bool zs.closed] 58)).cell (p := ⟨mb, 0, none⟩) (World.block_lt_of_cell? w5' _ h9.2)).trans h9.2⟩) (fun hHeld2 => ?_)
      clear hK K' hHeld
      have hHeld := hHeld2
      clear hHeld2
      try simp only [Act.put, List.setIfInBounds_toArray, List.set_cons_zero, List.set_cons_succ]
      refine wpAnyH_take (i := 14) (oi := ?_) (v := ?_) ?_ (by kernel_rfl) (by kernel_rfl) (by kernel_rfl) (fun _ _ _ h => (h : False).elim) (Or.inl ⟨?_, ?_⟩) hHeld ?_
      rotate_left 2
      · (simp only [List.getElem?_toArray, List.getElem?_cons_zero, List.getElem?_cons_succ]; rfl)
      · rfl
      · (intro W hSw; obtain ⟨hq1, hq2⟩ := hSw; obtain ⟨m0, m1, m2, m3, m4, m5, m6, m7, m8, m9, m10⟩ := hq1.cs; go_simp <;> with_reducible rfl)
      try simp only [Act.put, List.setIfInBounds_toArray, List.set_cons_zero, List.set_cons_succ]
      refine wpAnyH_take (i := 15) (oi := ?_) (v := ?_) ?_ (by kernel_rfl) (by kernel_rfl) (by kernel_rfl) (fun _ _ _ h => (h : False).elim) (Or.inl ⟨?_, ?_⟩) hHeld ?_
      rotate_left 2
      · (simp only [List.getElem?_toArray, List.getElem?_cons_zero, List.getElem?_cons_succ]; rfl)
      · rfl
      · (intro W hSw; obtain ⟨hq1, hq2⟩ := hSw; obtain ⟨m0, m1, m2, m3, m4, m5, m6, m7, m8, m9, m10⟩ := hq1.cs; go_simp <;> with_reducible rfl)
      try simp only [Act.put, List.setIfInBounds_toArray, List.set_cons_zero, List.set_cons_succ]
      refine wpAnyH_done (by kernel_rfl) ?_ _
      refine NoPanic.normal ?_
      clear hHeld h9 hT5
      go_wp2
      go_meet
      obtain ⟨O', hg⟩ := Got.behind (fun s => gmem_o gq s) HS5.out
      exact ⟨_, O', _, _, _, _, _, _, rfl, hide hg⟩
    rotate_left 1
    · (simp only [List.getElem?_toArray, List.getElem?_cons_zero, List.getElem?_cons_succ]; rfl)
    · go_simp
      refine hK.out _ _ (HSn.out _ _ ((Below.refl _ w15).alloc (Nat.le_refl _) (Obj.cells #[.bool false, .bool false, .int .i64 0, .int .i64 0, .slice none 0 0, .slice none 0 0, .slice none 0 0, .int .i64 0, .bool false, .bool false, .bool false] 58)).drew (Turned.refl _ _)) (fun hHeld2 => ?_)
      clear hK K' hHeld
      have hHeld := hHeld2
      clear hHeld2
      try simp only [Act.put, List.setIfInBounds_toArray, List.set_cons_zero, List.set_cons_succ]
      refine wpAnyH_ready (rs := [7]) (by kernel_rfl) (by simp) ?_
      refine AllReadyH.cons (o := ?_) ?_ (fun K' hK => ?_) AllReadyH.nil
      rotate_left 1
      · (simp only [List.getElem?_toArray, List.getElem?_cons_zero, List.getElem?_cons_succ]; rfl)
      go_simp
      go_at_call 43
      refine (HP.out _ (((Below.refl _ w15).alloc (Nat.le_refl _) (Obj.cells #[.bool false, .bool false, .int .i64 0, .int .i64 0, .slice none 0 0, .slice none 0 0, .slice none 0 0, .int .i64 0, .bool false, .bool false, .bool false] 58)).drew)).mono ?_
      rintro _ w5' ⟨o', i', b'', rfl, hS⟩
      obtain ⟨a1, k1, rfl, -⟩ := hS.choose_spec.1.so
      obtain ⟨a2, k2, rfl, -⟩ := hS.choose_spec.1.si
      obtain ⟨a3, k3, rfl, -⟩ := hS.choose_spec.1.sb
      have hT5 : Turned _ (w15.alloc (Obj.cells #[.bool false, .bool false, .int .i64 0, .int .i64 0, .slice none 0 0, .slice none 0 0, .slice none 0 0, .int .i64 0, .bool false, .bool false, .bool false] 58)).drew w5' := (by obtain ⟨_, _, _, _, _, t⟩ := hS; exact t)
      have HS5 := hide hS
      clear hS
      have h9 := HSn.out _ w5' (((Below.refl _ w15).alloc (Nat.le_refl _) (Obj.cells #[.bool false, .bool false, .int .i64 0, .int .i64 0, .slice none 0 0, .slice none 0 0, .slice none 0 0, .int .i64 0, .bool false, .bool false, .bool false] 58)).drew) hT5
      refine hK.out _ _ (h9) (fun hHeld2 => ?_)
      clear hK K' hHeld
      have hHeld := hHeld2
      clear hHeld2
      try simp only [Act.put, List.setIfInBounds_toArray, List.set_cons_zero, List.set_cons_succ]
      refine wpAnyH_take (i := 8) (oi := ?_) (v := ?_) ?_ (by kernel_rfl) (by kernel_rfl) (by kernel_rfl) (fun _ _ _ h => (h : False).elim) (Or.inl ⟨?_, ?_⟩) hHeld ?_
      rotate_left 2
      · (simp only [List.getElem?_toArray, List.getElem?_cons_zero, List.getElem?_cons_succ]; rfl)
      · rfl
      · (intro W hSw; obtain ⟨hq1, hq2⟩ := hSw; obtain ⟨m0, m1, m2, m3, m4, m5, m6, m7, m8, m9, m10⟩ := hq1.cs; go_simp <;> with_reducible rfl)
      try simp only [Act.put, List.setIfInBounds_toArray, List.set_cons_zero, List.set_cons_succ]
      refine wpAnyH_take (i := 9) (oi := ?_) (v := ?_) ?_ (by kernel_rfl) (by kernel_rfl) (by kernel_rfl) (fun _ _ _ h => (h : False).elim) (Or.inl ⟨?_, ?_⟩) hHeld ?_
      rotate_left 2
      · (simp only [List.getElem?_toArray, List.getElem?_cons_zero, List.getElem?_cons_succ]; rfl)
      · rfl
      · (intro W hSw; obtain ⟨hq1, hq2⟩ := hSw; obtain ⟨m0, m1, m2, m3, m4, m5, m6, m7, m8, m9, m10⟩ := hq1.cs; go_simp <;> with_reducible rfl)
      try simp only [Act.put, List.setIfInBounds_toArray, List.set_cons_zero, List.set_cons_succ]
      refine wpAnyH_take (i := 10) (oi := ?_) (v := ?_) ?_ (by kernel_rfl) (by kernel_rfl) (by kernel_rfl) (fun _ _ _ h => (h : False).elim) (Or.inl ⟨?_, ?_⟩) hHeld ?_
      rotate_left 2
      · (simp only [List.getElem?_toArray, List.getElem?_cons_zero, List.getElem?_cons_succ]; rfl)
      · rfl
      · (intro W hSw; obtain ⟨hq1, hq2⟩ := hSw; obtain ⟨m0, m1, m2, m3, m4, m5, m6, m7, m8, m9, m10⟩ := hq1.cs; go_simp <;> with_reducible rfl)
      try simp only [Act.put, List.setIfInBounds_toArray, List.set_cons_zero, List.set_cons_succ]
      refine wpAnyH_take (i := 11) (oi := ?_) (v := ?_) ?_ (by kernel_rfl) (by kernel_rfl) (by kernel_rfl) (fun _ _ _ h => (h : False).elim) (Or.inl ⟨?_, ?_⟩) hHeld ?_
      rotate_left 2
      · (simp only [List.getElem?_toArray, List.getElem?_cons_zero, List.getElem?_cons_succ]; rfl)
      · rfl
      · (intro W hSw; obtain ⟨hq1, hq2⟩ := hSw; obtain ⟨m0, m1, m2, m3, m4, m5, m6, m7, m8, m9, m10⟩ := hq1.cs; go_simp <;> with_reducible rfl)
      try simp only [Act.put, List.setIfInBounds_toArray, List.set_cons_zero, List.set_cons_succ]
      have hz9 : w5'.heap[w15.heap.size]? = some (Obj.cells #[.bool false, .bool false, .int .i64 0, .int .i64 0, .slice none 0 0, .slice none 0 0, .slice none 0 0, .int .i64 0, .bool false, .bool false, .bool false] 58) := (hT5.block w15.heap.size (by show _ < (w15.alloc (Obj.cells #[.bool false, .bool false, .int .i64 0, .int .i64 0, .slice none 0 0, .slice none 0 0, .slice none 0 0, .int .i64 0, .bool false, .bool false, .bool false] 58)).heap.size; rw [World.size_alloc]; omega) (fun e => by have := HOw1.out _ e; omega)).trans (heap_alloc_new w15 (Obj.cells #[.bool false, .bool false, .int .i64 0, .int .i64 0, .slice none 0 0, .slice none 0 0, .slice none 0 0, .int .i64 0, .bool false, .bool false, .bool false] 58))
      obtain ⟨e1, e2⟩ := st_fill w5' w15.heap.size zs (.slice a1 zs.out.length k1) (.slice a2 zs.inn.length k2) (.slice a3 zs.back.length k3) hz9
      have HS9 := hide (HSt.out _ _ h9 e2)
      have u0' := frozen_of_row w5' w15.heap.size 0 _ _ hz9
      have u1' := frozen_of_row w5' w15.heap.size 1 _ _ hz9
      have u2' := frozen_of_row w5' w15.heap.size 2 _ _ hz9
      have u3' := frozen_of_row w5' w15.heap.size 3 _ _ hz9
      have u4' := frozen_of_row w5' w15.heap.size 4 _ _ hz9
      have u5' := frozen_of_row w5' w15.heap.size 5 _ _ hz9
      have u6' := frozen_of_row w5' w15.heap.size 6 _ _ hz9
      have u7' := frozen_of_row w5' w15.heap.size 7 _ _ hz9
      have u8' := frozen_of_row w5' w15.heap.size 8 _ _ hz9
      have u9' := frozen_of_row w5' w15.heap.size 9 _ _ hz9
      have u10' := frozen_of_row w5' w15.heap.size 10 _ _ hz9
      have z0' := cell_of_row w5' w15.heap.size 0 _ _ _ hz9
      have z1' := cell_of_row w5' w15.heap.size 1 _ _ _ hz9
      have z2' := cell_of_row w5' w15.heap.size 2 _ _ _ hz9
      have z3' := cell_of_row w5' w15.heap.size 3 _ _ _ hz9
      have z4' := cell_of_row w5' w15.heap.size 4 _ _ _ hz9
      have z5' := cell_of_row w5' w15.heap.size 5 _ _ _ hz9
      have z6' := cell_of_row w5' w15.heap.size 6 _ _ _ hz9
      have z7' := cell_of_row w5' w15.heap.size 7 _ _ _ hz9
      have z8' := cell_of_row w5' w15.heap.size 8 _ _ _ hz9
      have z9' := cell_of_row w5' w15.heap.size 9 _ _ _ hz9
      have z10' := cell_of_row w5' w15.heap.size 10 _ _ _ hz9
      simp at z0' z1' z2' z3' z4' z5' z6' z7' z8' z9' z10'
      clear e1 e2 hz9 hT5
      refine wpAnyH_ready (rs := [13]) (by kernel_rfl) (by simp) ?_
      refine AllReadyH.cons (o := ?_) ?_ (fun K' hK => ?_) AllReadyH.nil
      rotate_left 1
      · (simp only [List.getElem?_toArray, List.getElem?_cons_zero, List.getElem?_cons_succ]; rfl)
      go_simp
      refine hK.out _ _ (HS9.out) (fun hHeld2 => ?_)
      clear hK K' hHeld
      have hHeld := hHeld2
      clear hHeld2
      try simp only [Act.put, List.setIfInBounds_toArray, List.set_cons_zero, List.set_cons_succ]
      clear u0' z0' u1' z1' u2' z2' u3' z3' u4' z4' u5' z5' u6' z6' u7' z7' u8' z8' u9' z9' u10' z10'
      refine wpAnyH_take (i := 14) (oi := ?_) (v := ?_) ?_ (by kernel_rfl) (by kernel_rfl) (by kernel_rfl) (fun _ _ _ h => (h : False).elim) (Or.inl ⟨?_, ?_⟩) hHeld ?_
      rotate_left 2
      · (simp only [List.getElem?_toArray, List.getElem?_cons_zero, List.getElem?_cons_succ]; rfl)
      · rfl
      · (intro W hSw; obtain ⟨hq1, hq2⟩ := hSw; obtain ⟨m0, m1, m2, m3, m4, m5, m6, m7, m8, m9, m10⟩ := hq1.cs; go_simp <;> with_reducible rfl)
      try simp only [Act.put, List.setIfInBounds_toArray, List.set_cons_zero, List.set_cons_succ]
      refine wpAnyH_take (i := 15) (oi := ?_) (v := ?_) ?_ (by kernel_rfl) (by kernel_rfl) (by kernel_rfl) (fun _ _ _ h => (h : False).elim) (Or.inl ⟨?_, ?_⟩) hHeld ?_
      rotate_left 2
      · (simp only [List.getElem?_toArray, List.getElem?_cons_zero, List.getElem?_cons_succ]; rfl)
      · rfl
      · (intro W hSw; obtain ⟨hq1, hq2⟩ := hSw; obtain ⟨m0, m1, m2, m3, m4, m5, m6, m7, m8, m9, m10⟩ := hq1.cs; go_simp <;> with_reducible rfl)
      try simp only [Act.put, List.setIfInBounds_toArray, List.set_cons_zero, List.set_cons_succ]
      refine wpAnyH_done (by kernel_rfl) ?_ _
      refine NoPanic.normal ?_
      clear hHeld h9
      go_wp2
      go_meet
      obtain ⟨O', hg⟩ := Got.ahead (W0 := w15.drew) (fun s => gmem_o gq s) HS5.out HOw1.out
      exact ⟨_, O', _, _, _, _, _, _, rfl, hide hg⟩
  case rest =>
  obtain ⟨gz, O2, v1, v2, v3, v4, v5, v6, rfl, HZ⟩ := hcut
  obtain ⟨w16, hq⟩ : ∃ W, W = wc := ⟨_, rfl⟩
  subst hq
  clear HSn HSt HP HM0 HA1
  have hTz := HZ.out.t
  have z16 : w15.heap.size ≤ w16.heap.size := hTz.size
  have hlo2 : ∀ k, w3.heap.size ≤ k → k < w14.heap.size → ¬ O1 k := hlo1
  replace HW := hide ((HW.out.trans ((Below.refl _ w15).drew.mono HW.out.size)).trans ((hTz.below (B := mb + 1) hmk1 (by show mb + 1 ≤ w15.heap.size; omega)).mono (by omega)))
  replace HS : Hid (RSt w16 w.heap.size x (.slice s1 x.out.length s4) (.slice s2 x.inn.length s5) (.slice s3 x.back.length s6)) := hide ((hTz.block _ (Array.getElem?_eq_some_iff.1 HS.out).1 (fun e => by have := hmk1 _ e; omega)).trans HS.out)
  replace HX := hide (Own3.turned2 ⟨HX.out.below (Below.refl _ _).drew, HXu.out⟩ hTz (fun k h1 h2 => hlo1 k h1 (by omega))).1
  replace HG : Hid (StAt w16 w4.heap.size x (.slice g1 x.out.length g4) (.slice g2 x.inn.length g5) (.slice g3 x.back.length g6)) := hide ((hTz.block _ HG.out.lt (hlo1 _ (by omega) (by omega))).trans HG.out)
  replace HYs : Hid (StAt w16 gy y (.slice u1 y.out.length u4) (.slice u2 y.inn.length u5) (.slice u3 y.back.length u6)) := hide ((hTz.block _ HYs.out.lt hgy1).trans HYs.out)
  replace HYl := hide ((HYl.out.below (Below.refl _ _).drew).turned hTz (fun k e _ => e.2.1))
  replace HYl := hide (HYl.out.mono (Q := fun k => w14.heap.size ≤ k ∧ k < w15.heap.size) (fun k e => ⟨e.1, e.2.2⟩))
  have HZs := hide HZ.out.st
  have HZl : Hid (SIn w16 (fun k => w15.heap.size ≤ k ∧ k < w16.heap.size) zs (.slice v1 zs.out.length v4) (.slice v2 zs.inn.length v5) (.slice v3 zs.back.length v6)) := hide (HZ.out.ls.mono fun k e => ⟨e.1, e.2.2⟩)
  have hgz : w15.heap.size ≤ gz := HZ.out.g0
  have hgyl : gy < w16.heap.size := HYs.out.lt
  have hgzl : gz < w16.heap.size := HZs.out.lt
  clear HZ hTz hlo1 hlo2 hmk1 hng1 hnm1 hng hnm HO1 HOw1 hgl hml hlo hmk HOl hgy1
  go_upto_region 9 with fail
  go_cut [16, 17] (fun p24 p25 wx => ∃ (g4 g5 : Nat) (k1 k2 k3 l1 l2 l3 : Option Addr) (k4 k5 k6 l4 l5 l6 : Nat), p24 = .pointer (some ⟨g4, 0, none⟩) ∧ p25 = .pointer (some ⟨g5, 0, none⟩) ∧ Hid (StAt wx g4 y (.slice k1 y.out.length k4) (.slice k2 y.inn.length k5) (.slice k3 y.back.length k6)) ∧ Hid (StAt wx g5 zs (.slice l1 zs.out.length l4) (.slice l2 zs.inn.length l5) (.slice l3 zs.back.length l6)) ∧ Hid (Own3 w16.heap.size wx y (.slice k1 y.out.length k4) (.slice k2 y.inn.length k5) (.slice k3 y.back.length k6)) ∧ Hid (Own3 w16.heap.size wx zs (.slice l1 zs.out.length l4) (.slice l2 zs.inn.length l5) (.slice l3 zs.back.length l6)) ∧ Hid (Below w16.heap.size w16 wx) ∧ w16.heap.size ≤ g4 ∧ w16.heap.size ≤ g5)
  case first =>
    clear_value *
    refine wp_region_noPanic ?_
    refine wp_region_held_drew (S := fun W => StAt W gy y (.slice u1 y.out.length u4) (.slice u2 y.inn.length u5) (.slice u3 y.back.length u6) ∧ StAt W gz zs (.slice v1 zs.out.length v4) (.slice v2 zs.inn.length v5) (.slice v3 zs.back.length v6)) (by kernel_rfl) (⟨HYs.out.below (Below.refl _ _).drew, HZs.out.below (Below.refl _ _).drew⟩) (fun hHeld => ?_)
    refine wpAnyH_take (i := 0) (oi := ?_) (v := ?_) ?_ (by kernel_rfl) (by kernel_rfl) (by kernel_rfl) (fun _ _ _ h => (h : False).elim) (Or.inl ⟨?_, ?_⟩) hHeld ?_
    rotate_left 2
    · (simp only [List.getElem?_toArray, List.getElem?_cons_zero]; rfl)
    · rfl
    · (intro W hSw; obtain ⟨hq1, hq2⟩ := hSw; obtain ⟨m0, m1, m2, m3, m4, m5, m6, m7, m8, m9, m10⟩ := hq1.cs; obtain ⟨n0, n1, n2, n3, n4, n5, n6, n7, n8, n9, n10⟩ := hq2.cs; go_simp <;> with_reducible rfl)
    try simp only [Act.put, List.setIfInBounds_toArray, List.set_cons_zero, List.set_cons_succ]
    refine wpAnyH_take (i := 2) (oi := ?_) (v := ?_) ?_ (by kernel_rfl) (by kernel_rfl) (by kernel_rfl) (fun _ _ _ h => (h : False).elim) (Or.inl ⟨?_, ?_⟩) hHeld ?_
    rotate_left 2
    · (simp only [List.getElem?_toArray, List.getElem?_cons_zero, List.getElem?_cons_succ]; rfl)
    · rfl
    · (intro W hSw; obtain ⟨hq1, hq2⟩ := hSw; obtain ⟨m0, m1, m2, m3, m4, m5, m6, m7, m8, m9, m10⟩ := hq1.cs; obtain ⟨n0, n1, n2, n3, n4, n5, n6, n7, n8, n9, n10⟩ := hq2.cs; go_simp <;> with_reducible rfl)
    try simp only [Act.put, List.setIfInBounds_toArray, List.set_cons_zero, List.set_cons_succ]
    have HBc : Hid (Below w16.heap.size w16 w16.drew) := hide (Below.refl _ _).drew
    generalize w16.drew = W0 at *
    refine wpAnyH_ready (rs := [1, 4, 5]) (by kernel_rfl) (by simp) ?_
    refine AllReadyH.cons (o := ?_) ?_ (fun K' hK => ?_) (AllReadyH.cons (o := ?_) ?_ (fun K' hK => ?_) (AllReadyH.cons (o := ?_) ?_ (fun K' hK => ?_) AllReadyH.nil))
    rotate_left 1
    · (simp only [List.getElem?_toArray, List.getElem?_cons_zero, List.getElem?_cons_succ]; rfl)
    · go_simp
      go_at_call 21
      refine (given_any y _ _ _ _ _ (HYl.out.below HBc.out) HLy.out.1 HLy.out.2.1 HLy.out.2.2).mono ?_
      rintro _ W1 ⟨o1, i1, b1, rfl, y1, y2, y3, hB, hAp⟩
      obtain ⟨k1, k4, rfl⟩ := owns_slice y1
      obtain ⟨k2, k5, rfl⟩ := owns_slice y2
      obtain ⟨k3, k6, rfl⟩ := owns_slice y3
      have HK : Hid (Own3 w16.heap.size W1 y (.slice k1 y.out.length k4) (.slice k2 y.inn.length k5) (.slice k3 y.back.length k6)) := hide (Own3.mono ⟨y1, y2, y3, hAp⟩ HBc.out.size)
      replace HBc := hide (HBc.out.trans (hB.mono HBc.out.size))
      clear hB y1 y2 y3 hAp
      refine hK.out _ _ (⟨HYs.out.below HBc.out, HZs.out.below HBc.out⟩) (fun hHeld2 => ?_)
      clear hK K' hHeld
      have hHeld := hHeld2
      clear hHeld2
      try simp only [Act.put, List.setIfInBounds_toArray, List.set_cons_zero, List.set_cons_succ]
      refine wpAnyH_ready (rs := [3, 4, 5]) (by kernel_rfl) (by simp) ?_
      refine AllReadyH.cons (o := ?_) ?_ (fun K' hK => ?_) (AllReadyH.cons (o := ?_) ?_ (fun K' hK => ?_) (AllReadyH.cons (o := ?_) ?_ (fun K' hK => ?_) AllReadyH.nil))
      rotate_left 1
      · (simp only [List.getElem?_toArray, List.getElem?_cons_zero, List.getElem?_cons_succ]; rfl)
      · go_simp
        go_at_call 21
        refine (given_any zs _ _ _ _ _ (HZl.out.below HBc.out) HLz.out.1 HLz.out.2.1 HLz.out.2.2).mono ?_
        rintro _ W2 ⟨o1, i1, b1, rfl, y1, y2, y3, hB, hAp⟩
        obtain ⟨l1, l4, rfl⟩ := owns_slice y1
        obtain ⟨l2, l5, rfl⟩ := owns_slice y2
        obtain ⟨l3, l6, rfl⟩ := owns_slice y3
        have HL : Hid (Own3 w16.heap.size W2 zs (.slice l1 zs.out.length l4) (.slice l2 zs.inn.length l5) (.slice l3 zs.back.length l6)) := hide (Own3.mono ⟨y1, y2, y3, hAp⟩ HBc.out.size)
        replace HBc := hide (HBc.out.trans (hB.mono HBc.out.size))
        replace HK := hide (HK.out.below hB)
        clear hB y1 y2 y3 hAp
        refine hK.out _ _ (⟨HYs.out.below HBc.out, HZs.out.below HBc.out⟩) (fun hHeld2 => ?_)
        clear hK K' hHeld
        have hHeld := hHeld2
        clear hHeld2
        try simp only [Act.put, List.setIfInBounds_toArray, List.set_cons_zero, List.set_cons_succ]
        refine wpAnyH_ready (rs := [4, 5]) (by kernel_rfl) (by simp) ?_
        refine AllReadyH.cons (o := ?_) ?_ (fun K' hK => ?_) (AllReadyH.cons (o := ?_) ?_ (fun K' hK => ?_) AllReadyH.nil)
        rotate_left 1
        · (simp only [List.getElem?_toArray, List.getElem?_cons_zero, List.getElem?_cons_succ]; rfl)
        · go_simp
          have hA := recv_below W2 (Obj.cells #[.bool false, .bool false, .int .i64 0, .int .i64 0, .slice none 0 0, .slice none 0 0, .slice none 0 0, .int .i64 0, .bool false, .bool false, .bool false] 58)
          have HZ4 := hide (heap_alloc_new W2 (Obj.cells #[.bool false, .bool false, .int .i64 0, .int .i64 0, .slice none 0 0, .slice none 0 0, .slice none 0 0, .int .i64 0, .bool false, .bool false, .bool false] 58))
          have hg4 : w16.heap.size ≤ W2.heap.size := HBc.out.size
          replace HBc := hide (HBc.out.trans (hA.mono HBc.out.size))
          replace HK := hide (HK.out.below hA)
          replace HL := hide (HL.out.below hA)
          clear hA
          generalize W2.alloc (Obj.cells #[.bool false, .bool false, .int .i64 0, .int .i64 0, .slice none 0 0, .slice none 0 0, .slice none 0 0, .int .i64 0, .bool false, .bool false, .bool false] 58) = W3 at *
          refine hK.out _ _ (⟨HYs.out.below HBc.out, HZs.out.below HBc.out⟩) (fun hHeld2 => ?_)
          clear hK K' hHeld
          have hHeld := hHeld2
          clear hHeld2
          try simp only [Act.put, List.setIfInBounds_toArray, List.set_cons_zero, List.set_cons_succ]
          refine wpAnyH_ready (rs := [5]) (by kernel_rfl) (by simp) ?_
          refine AllReadyH.cons (o := ?_) ?_ (fun K' hK => ?_) AllReadyH.nil
          rotate_left 1
          · (simp only [List.getElem?_toArray, List.getElem?_cons_zero, List.getElem?_cons_succ]; rfl)
          · go_simp
            have hA := recv_below W3 (Obj.cells #[.bool false, .bool false, .int .i64 0, .int .i64 0, .slice none 0 0, .slice none 0 0, .slice none 0 0, .int .i64 0, .bool false, .bool false, .bool false] 58)
            have HZ5 := hide (heap_alloc_new W3 (Obj.cells #[.bool false, .bool false, .int .i64 0, .int .i64 0, .slice none 0 0, .slice none 0 0, .slice none 0 0, .int .i64 0, .bool false, .bool false, .bool false] 58))
            have hg5 : w16.heap.size ≤ W3.heap.size := HBc.out.size
            have hne : W2.heap.size < W3.heap.size := (Array.getElem?_eq_some_iff.1 HZ4.out).1
            replace HBc := hide (HBc.out.trans (hA.mono HBc.out.size))
            replace HK := hide (HK.out.below hA)
            replace HL := hide (HL.out.below hA)
            replace HZ4 : Hid ((W3.alloc (Obj.cells #[.bool false, .bool false, .int .i64 0, .int .i64 0, .slice none 0 0, .slice none 0 0, .slice none 0 0, .int .i64 0, .bool false, .bool false, .bool false] 58)).heap[W2.heap.size]? = some (Obj.cells #[.bool false, .bool false, .int .i64 0, .int .i64 0, .slice none 0 0, .slice none 0 0, .slice none 0 0, .int .i64 0, .bool false, .bool false, .bool false] 58)) := hide ((hA.block _ (Array.getElem?_eq_some_iff.1 HZ4.out).1).trans HZ4.out)
            clear hA
            generalize W3.alloc (Obj.cells #[.bool false, .bool false, .int .i64 0, .int .i64 0, .slice none 0 0, .slice none 0 0, .slice none 0 0, .int .i64 0, .bool false, .bool false, .bool false] 58) = W4 at *
            refine hK.out _ _ (⟨HYs.out.below HBc.out, HZs.out.below HBc.out⟩) (fun hHeld2 => ?_)
            clear hK K' hHeld
            have hHeld := hHeld2
            clear hHeld2
            try simp only [Act.put, List.setIfInBounds_toArray, List.set_cons_zero, List.set_cons_succ]
            have pf0 := frozen_of_row W4 W2.heap.size 0 _ _ HZ4.out
            have pf1 := frozen_of_row W4 W2.heap.size 1 _ _ HZ4.out
            have pf2 := frozen_of_row W4 W2.heap.size 2 _ _ HZ4.out
            have pf3 := frozen_of_row W4 W2.heap.size 3 _ _ HZ4.out
            have pf4 := frozen_of_row W4 W2.heap.size 4 _ _ HZ4.out
            have pf5 := frozen_of_row W4 W2.heap.size 5 _ _ HZ4.out
            have pf6 := frozen_of_row W4 W2.heap.size 6 _ _ HZ4.out
            have pf7 := frozen_of_row W4 W2.heap.size 7 _ _ HZ4.out
            have pf8 := frozen_of_row W4 W2.heap.size 8 _ _ HZ4.out
            have pf9 := frozen_of_row W4 W2.heap.size 9 _ _ HZ4.out
            have pf10 := frozen_of_row W4 W2.heap.size 10 _ _ HZ4.out
            have pc0 := cell_of_row W4 W2.heap.size 0 _ _ _ HZ4.out
            have pc1 := cell_of_row W4 W2.heap.size 1 _ _ _ HZ4.out
            have pc2 := cell_of_row W4 W2.heap.size 2 _ _ _ HZ4.out
            have pc3 := cell_of_row W4 W2.heap.size 3 _ _ _ HZ4.out
            have pc4 := cell_of_row W4 W2.heap.size 4 _ _ _ HZ4.out
            have pc5 := cell_of_row W4 W2.heap.size 5 _ _ _ HZ4.out
            have pc6 := cell_of_row W4 W2.heap.size 6 _ _ _ HZ4.out
            have pc7 := cell_of_row W4 W2.heap.size 7 _ _ _ HZ4.out
            have pc8 := cell_of_row W4 W2.heap.size 8 _ _ _ HZ4.out
            have pc9 := cell_of_row W4 W2.heap.size 9 _ _ _ HZ4.out
            have pc10 := cell_of_row W4 W2.heap.size 10 _ _ _ HZ4.out
            simp at pc0 pc1 pc2 pc3 pc4 pc5 pc6 pc7 pc8 pc9 pc10
            refine wpAnyH_ready (rs := [6]) (by kernel_rfl) (by simp) ?_
            refine AllReadyH.cons (o := ?_) ?_ (fun K' hK => ?_) AllReadyH.nil
            rotate_left 1
            · (simp only [List.getElem?_toArray, List.getElem?_cons_zero, List.getElem?_cons_succ]; rfl)
            · obtain ⟨e1, e2⟩ := st_fill W4 W2.heap.size y (.slice k1 y.out.length k4) (.slice k2 y.inn.length k5) (.slice k3 y.back.length k6) HZ4.out
              have HD4 := hide e1
              replace HBc := hide (HBc.out.trans (e2.below (B := w16.heap.size) (fun k e => by have e3 : k = W2.heap.size := e; omega) HBc.out.size))
              replace HK := hide (Own3.past HK.out e2 HZ4.out)
              replace HL := hide (Own3.past HL.out e2 HZ4.out)
              replace HZ5 := hide ((e2.block _ (Array.getElem?_eq_some_iff.1 HZ5.out).1 (by show ¬ _ = W2.heap.size; omega)).trans HZ5.out)
              clear HZ4 e1 e2
              go_simp
              clear pf0 pf1 pf2 pf3 pf4 pf5 pf6 pf7 pf8 pf9 pf10 pc0 pc1 pc2 pc3 pc4 pc5 pc6 pc7 pc8 pc9 pc10
              generalize ((((((((((W4.setCell ⟨W2.heap.size, 0, none⟩ (.bool y.rd)).setCell ⟨W2.heap.size, 1, none⟩ (.bool y.wt)).setCell ⟨W2.heap.size, 2, none⟩ (.int .i64 y.mode)).setCell ⟨W2.heap.size, 3, none⟩ (.int .i64 y.size)).setCell ⟨W2.heap.size, 4, none⟩ (.slice k1 y.out.length k4)).setCell ⟨W2.heap.size, 5, none⟩ (.slice k2 y.inn.length k5)).setCell ⟨W2.heap.size, 6, none⟩ (.slice k3 y.back.length k6)).setCell ⟨W2.heap.size, 7, none⟩ (.int .i64 y.dir)).setCell ⟨W2.heap.size, 8, none⟩ (.bool y.fin)).setCell ⟨W2.heap.size, 9, none⟩ (.bool y.bad)).setCell ⟨W2.heap.size, 10, none⟩ (.bool y.closed) = W5 at *
              refine hK.out _ _ (⟨HYs.out.below HBc.out, HZs.out.below HBc.out⟩) (fun hHeld2 => ?_)
              clear hK K' hHeld
              have hHeld := hHeld2
              clear hHeld2
              try simp only [Act.put, List.setIfInBounds_toArray, List.set_cons_zero, List.set_cons_succ]
              have rf0 := frozen_of_row W5 W3.heap.size 0 _ _ HZ5.out
              have rf1 := frozen_of_row W5 W3.heap.size 1 _ _ HZ5.out
              have rf2 := frozen_of_row W5 W3.heap.size 2 _ _ HZ5.out
              have rf3 := frozen_of_row W5 W3.heap.size 3 _ _ HZ5.out
              have rf4 := frozen_of_row W5 W3.heap.size 4 _ _ HZ5.out
              have rf5 := frozen_of_row W5 W3.heap.size 5 _ _ HZ5.out
              have rf6 := frozen_of_row W5 W3.heap.size 6 _ _ HZ5.out
              have rf7 := frozen_of_row W5 W3.heap.size 7 _ _ HZ5.out
              have rf8 := frozen_of_row W5 W3.heap.size 8 _ _ HZ5.out
              have rf9 := frozen_of_row W5 W3.heap.size 9 _ _ HZ5.out
              have rf10 := frozen_of_row W5 W3.heap.size 10 _ _ HZ5.out
              have rc0 := cell_of_row W5 W3.heap.size 0 _ _ _ HZ5.out
              have rc1 := cell_of_row W5 W3.heap.size 1 _ _ _ HZ5.out
              have rc2 := cell_of_row W5 W3.heap.size 2 _ _ _ HZ5.out
              have rc3 := cell_of_row W5 W3.heap.size 3 _ _ _ HZ5.out
              have rc4 := cell_of_row W5 W3.heap.size 4 _ _ _ HZ5.out
              have rc5 := cell_of_row W5 W3.heap.size 5 _ _ _ HZ5.out
              have rc6 := cell_of_row W5 W3.heap.size 6 _ _ _ HZ5.out
              have rc7 := cell_of_row W5 W3.heap.size 7 _ _ _ HZ5.out
              have rc8 := cell_of_row W5 W3.heap.size 8 _ _ _ HZ5.out
              have rc9 := cell_of_row W5 W3.heap.size 9 _ _ _ HZ5.out
              have rc10 := cell_of_row W5 W3.heap.size 10 _ _ _ HZ5.out
              simp at rc0 rc1 rc2 rc3 rc4 rc5 rc6 rc7 rc8 rc9 rc10
              refine wpAnyH_ready (rs := [7]) (by kernel_rfl) (by simp) ?_
              refine AllReadyH.cons (o := ?_) ?_ (fun K' hK => ?_) AllReadyH.nil
              rotate_left 1
              · (simp only [List.getElem?_toArray, List.getElem?_cons_zero, List.getElem?_cons_succ]; rfl)
              · obtain ⟨e1, e2⟩ := st_fill W5 W3.heap.size zs (.slice l1 zs.out.length l4) (.slice l2 zs.inn.length l5) (.slice l3 zs.back.length l6) HZ5.out
                have HD5 := hide e1
                replace HBc := hide (HBc.out.trans (e2.below (B := w16.heap.size) (fun k e => by have e3 : k = W3.heap.size := e; omega) HBc.out.size))
                replace HK := hide (Own3.past HK.out e2 HZ5.out)
                replace HL := hide (Own3.past HL.out e2 HZ5.out)
                replace HD4 := hide (StAt.turned1 HD4.out e2 (by omega))
                clear HZ5 e1 e2
                go_simp
                clear rf0 rf1 rf2 rf3 rf4 rf5 rf6 rf7 rf8 rf9 rf10 rc0 rc1 rc2 rc3 rc4 rc5 rc6 rc7 rc8 rc9 rc10
                generalize ((((((((((W5.setCell ⟨W3.heap.size, 0, none⟩ (.bool zs.rd)).setCell ⟨W3.heap.size, 1, none⟩ (.bool zs.wt)).setCell ⟨W3.heap.size, 2, none⟩ (.int .i64 zs.mode)).setCell ⟨W3.heap.size, 3, none⟩ (.int .i64 zs.size)).setCell ⟨W3.heap.size, 4, none⟩ (.slice l1 zs.out.length l4)).setCell ⟨W3.heap.size, 5, none⟩ (.slice l2 zs.inn.length l5)).setCell ⟨W3.heap.size, 6, none⟩ (.slice l3 zs.back.length l6)).setCell ⟨W3.heap.size, 7, none⟩ (.int .i64 zs.dir)).setCell ⟨W3.heap.size, 8, none⟩ (.bool zs.fin)).setCell ⟨W3.heap.size, 9, none⟩ (.bool zs.bad)).setCell ⟨W3.heap.size, 10, none⟩ (.bool zs.closed) = W6 at *
                refine hK.out _ _ (⟨HYs.out.below HBc.out, HZs.out.below HBc.out⟩) (fun hHeld2 => ?_)
                clear hK K' hHeld
                have hHeld := hHeld2
                clear hHeld2
                try simp only [Act.put, List.setIfInBounds_toArray, List.set_cons_zero, List.set_cons_succ]
                refine wpAnyH_done (by kernel_rfl) ?_ _
                refine NoPanic.normal ?_
                clear hHeld
                go_wp2
                go_meet
                exact ⟨_, _, _, _, _, _, _, _, _, _, _, _, _, _, rfl, rfl, HD4, HD5, HK, HL, HBc, by omega, by omega⟩
        rotate_left 1
        · (simp only [List.getElem?_toArray, List.getElem?_cons_zero, List.getElem?_cons_succ]; rfl)
        · go_simp
          have hA := recv_below W2 (Obj.cells #[.bool false, .bool false, .int .i64 0, .int .i64 0, .slice none 0 0, .slice none 0 0, .slice none 0 0, .int .i64 0, .bool false, .bool false, .bool false] 58)
          have HZ5 := hide (heap_alloc_new W2 (Obj.cells #[.bool false, .bool false, .int .i64 0, .int .i64 0, .slice none 0 0, .slice none 0 0, .slice none 0 0, .int .i64 0, .bool false, .bool false, .bool false] 58))
          have hg5 : w16.heap.size ≤ W2.heap.size := HBc.out.size
          replace HBc := hide (HBc.out.trans (hA.mono HBc.out.size))
          replace HK := hide (HK.out.below hA)
          replace HL := hide (HL.out.below hA)
          clear hA
          generalize W2.alloc (Obj.cells #[.bool false, .bool false, .int .i64 0, .int .i64 0, .slice none 0 0, .slice none 0 0, .slice none 0 0, .int .i64 0, .bool false, .bool false, .bool false] 58) = W7 at *
          refine hK.out _ _ (⟨HYs.out.below HBc.out, HZs.out.below HBc.out⟩) (fun hHeld2 => ?_)
          clear hK K' hHeld
          have hHeld := hHeld2
          clear hHeld2
          try simp only [Act.put, List.setIfInBounds_toArray, List.set_cons_zero, List.set_cons_succ]
          refine wpAnyH_ready (rs := [4]) (by kernel_rfl) (by simp) ?_
          refine AllReadyH.cons (o := ?_) ?_ (fun K' hK => ?_) AllReadyH.nil
          rotate_left 1
          · (simp only [List.getElem?_toArray, List.getElem?_cons_zero, List.getElem?_cons_succ]; rfl)
          · go_simp
            have hA := recv_below W7 (Obj.cells #[.bool false, .bool false, .int .i64 0, .int .i64 0, .slice none 0 0, .slice none 0 0, .slice none 0 0, .int .i64 0, .bool false, .bool false, .bool false] 58)
            have HZ4 := hide (heap_alloc_new W7 (Obj.cells #[.bool false, .bool false, .int .i64 0, .int .i64 0, .slice none 0 0, .slice none 0 0, .slice none 0 0, .int .i64 0, .bool false, .bool false, .bool false] 58))
            have hg4 : w16.heap.size ≤ W7.heap.size := HBc.out.size
            have hne : W2.heap.size < W7.heap.size := (Array.getElem?_eq_some_iff.1 HZ5.out).1
            replace HBc := hide (HBc.out.trans (hA.mono HBc.out.size))
            replace HK := hide (HK.out.below hA)
            replace HL := hide (HL.out.below hA)
            replace HZ5 : Hid ((W7.alloc (Obj.cells #[.bool false, .bool false, .int .i64 0, .int .i64 0, .slice none 0 0, .slice none 0 0, .slice none 0 0, .int .i64 0, .bool false, .bool false, .bool false] 58)).heap[W2.heap.size]? = some (Obj.cells #[.bool false, .bool false, .int .i64 0, .int .i64 0, .slice none 0 0, .slice none 0 0, .slice none 0 0, .int .i64 0, .bool false, .bool false, .bool false] 58)) := hide ((hA.block _ (Array.getElem?_eq_some_iff.1 HZ5.out).1).trans HZ5.out)
            clear hA
            generalize W7.alloc (Obj.cells #[.bool false, .bool false, .int .i64 0, .int .i64 0, .slice none 0 0, .slice none 0 0, .slice none 0 0, .int .i64 0, .bool false, .bool false, .bool false] 58) = W8 at *
            refine hK.out _ _ (⟨HYs.out.below HBc.out, HZs.out.below HBc.out⟩) (fun hHeld2 => ?_)
            clear hK K' hHeld
            have hHeld := hHeld2
            clear hHeld2
            try simp only [Act.put, List.setIfInBounds_toArray, List.set_cons_zero, List.set_cons_succ]
            have pf0 := frozen_of_row W8 W7.heap.size 0 _ _ HZ4.out
            have pf1 := frozen_of_row W8 W7.heap.size 1 _ _ HZ4.out
            have pf2 := frozen_of_row W8 W7.heap.size 2 _ _ HZ4.out
            have pf3 := frozen_of_row W8 W7.heap.size 3 _ _ HZ4.out
            have pf4 := frozen_of_row W8 W7.heap.size 4 _ _ HZ4.out
            have pf5 := frozen_of_row W8 W7.heap.size 5 _ _ HZ4.out
            have pf6 := frozen_of_row W8 W7.heap.size 6 _ _ HZ4.out
            have pf7 := frozen_of_row W8 W7.heap.size 7 _ _ HZ4.out
            have pf8 := frozen_of_row W8 W7.heap.size 8 _ _ HZ4.out
            have pf9 := frozen_of_row W8 W7.heap.size 9 _ _ HZ4.out
            have pf10 := frozen_of_row W8 W7.heap.size 10 _ _ HZ4.out
            have pc0 := cell_of_row W8 W7.heap.size 0 _ _ _ HZ4.out
            have pc1 := cell_of_row W8 W7.heap.size 1 _ _ _ HZ4.out
            have pc2 := cell_of_row W8 W7.heap.size 2 _ _ _ HZ4.out
            have pc3 := cell_of_row W8 W7.heap.size 3 _ _ _ HZ4.out
            have pc4 := cell_of_row W8 W7.heap.size 4 _ _ _ HZ4.out
            have pc5 := cell_of_row W8 W7.heap.size 5 _ _ _ HZ4.out
            have pc6 := cell_of_row W8 W7.heap.size 6 _ _ _ HZ4.out
            have pc7 := cell_of_row W8 W7.heap.size 7 _ _ _ HZ4.out
            have pc8 := cell_of_row W8 W7.heap.size 8 _ _ _ HZ4.out
            have pc9 := cell_of_row W8 W7.heap.size 9 _ _ _ HZ4.out
            have pc10 := cell_of_row W8 W7.heap.size 10 _ _ _ HZ4.out
            simp at pc0 pc1 pc2 pc3 pc4 pc5 pc6 pc7 pc8 pc9 pc10
            refine wpAnyH_ready (rs := [6]) (by kernel_rfl) (by simp) ?_
            refine AllReadyH.cons (o := ?_) ?_ (fun K' hK => ?_) AllReadyH.nil
            rotate_left 1
            · (simp only [List.getElem?_toArray, List.getElem?_cons_zero, List.getElem?_cons_succ]; rfl)
            · obtain ⟨e1, e2⟩ := st_fill W8 W7.heap.size y (.slice k1 y.out.length k4) (.slice k2 y.inn.length k5) (.slice k3 y.back.length k6) HZ4.out
              have HD4 := hide e1
              replace HBc := hide (HBc.out.trans (e2.below (B := w16.heap.size) (fun k e => by have e3 : k = W7.heap.size := e; omega) HBc.out.size))
              replace HK := hide (Own3.past HK.out e2 HZ4.out)
              replace HL := hide (Own3.past HL.out e2 HZ4.out)
              replace HZ5 := hide ((e2.block _ (Array.getElem?_eq_some_iff.1 HZ5.out).1 (by show ¬ _ = W7.heap.size; omega)).trans HZ5.out)
              clear HZ4 e1 e2
              go_simp
              clear pf0 pf1 pf2 pf3 pf4 pf5 pf6 pf7 pf8 pf9 pf10 pc0 pc1 pc2 pc3 pc4 pc5 pc6 pc7 pc8 pc9 pc10
              generalize ((((((((((W8.setCell ⟨W7.heap.size, 0, none⟩ (.bool y.rd)).setCell ⟨W7.heap.size, 1, none⟩ (.bool y.wt)).setCell ⟨W7.heap.size, 2, none⟩ (.int .i64 y.mode)).setCell ⟨W7.heap.size, 3, none⟩ (.int .i64 y.size)).setCell ⟨W7.heap.size, 4, none⟩ (.slice k1 y.out.length k4)).setCell ⟨W7.heap.size, 5, none⟩ (.slice k2 y.inn.length k5)).setCell ⟨W7.heap.size, 6, none⟩ (.slice k3 y.back.length k6)).setCell ⟨W7.heap.size, 7, none⟩ (.int .i64 y.dir)).setCell ⟨W7.heap.size, 8, none⟩ (.bool y.fin)).setCell ⟨W7.heap.size, 9, none⟩ (.bool y.bad)).setCell ⟨W7.heap.size, 10, none⟩ (.bool y.closed) = W9 at *
              refine hK.out _ _ (⟨HYs.out.below HBc.out, HZs.out.below HBc.out⟩) (fun hHeld2 => ?_)
              clear hK K' hHeld
              have hHeld := hHeld2
              clear hHeld2
              try simp only [Act.put, List.setIfInBounds_toArray, List.set_cons_zero, List.set_cons_succ]
              have rf0 := frozen_of_row W9 W2.heap.size 0 _ _ HZ5.out
              have rf1 := frozen_of_row W9 W2.heap.size 1 _ _ HZ5.out
              have rf2 := frozen_of_row W9 W2.heap.size 2 _ _ HZ5.out
              have rf3 := frozen_of_row W9 W2.heap.size 3 _ _ HZ5.out
              have rf4 := frozen_of_row W9 W2.heap.size 4 _ _ HZ5.out
              have rf5 := frozen_of_row W9 W2.heap.size 5 _ _ HZ5.out
              have rf6 := frozen_of_row W9 W2.heap.size 6 _ _ HZ5.out
              have rf7 := frozen_of_row W9 W2.heap.size 7 _ _ HZ5.out
              have rf8 := frozen_of_row W9 W2.heap.size 8 _ _ HZ5.out
              have rf9 := frozen_of_row W9 W2.heap.size 9 _ _ HZ5.out
              have rf10 := frozen_of_row W9 W2.heap.size 10 _ _ HZ5.out
              have rc0 := cell_of_row W9 W2.heap.size 0 _ _ _ HZ5.out
              have rc1 := cell_of_row W9 W2.heap.size 1 _ _ _ HZ5.out
              have rc2 := cell_of_row W9 W2.heap.size 2 _ _ _ HZ5.out
              have rc3 := cell_of_row W9 W2.heap.size 3 _ _ _ HZ5.out
              have rc4 := cell_of_row W9 W2.heap.size 4 _ _ _ HZ5.out
              have rc5 := cell_of_row W9 W2.heap.size 5 _ _ _ HZ5.out
              have rc6 := cell_of_row W9 W2.heap.size 6 _ _ _ HZ5.out
              have rc7 := cell_of_row W9 W2.heap.size 7 _ _ _ HZ5.out
              have rc8 := cell_of_row W9 W2.heap.size 8 _ _ _ HZ5.out
              have rc9 := cell_of_row W9 W2.heap.size 9 _ _ _ HZ5.out
              have rc10 := cell_of_row W9 W2.heap.size 10 _ _ _ HZ5.out
              simp at rc0 rc1 rc2 rc3 rc4 rc5 rc6 rc7 rc8 rc9 rc10
              refine wpAnyH_ready (rs := [7]) (by kernel_rfl) (by simp) ?_
              refine AllReadyH.cons (o := ?_) ?_ (fun K' hK => ?_) AllReadyH.nil
              rotate_left 1
              · (simp only [List.getElem?_toArray, List.getElem?_cons_zero, List.getElem?_cons_succ]; rfl)
              · obtain ⟨e1, e2⟩ := st_fill W9 W2.heap.size zs (.slice l1 zs.out.length l4) (.slice l2 zs.inn.length l5) (.slice l3 zs.back.length l6) HZ5.out
                have HD5 := hide e1
                replace HBc := hide (HBc.out.trans (e2.below (B := w16.heap.size) (fun k e => by have e3 : k = W2.heap.size := e; omega) HBc.out.size))
                replace HK := hide (Own3.past HK.out e2 HZ5.out)
                replace HL := hide (Own3.past HL.out e2 HZ5.out)
                replace HD4 := hide (StAt.turned1 HD4.out e2 (by omega))
                clear HZ5 e1 e2
                go_simp
                clear rf0 rf1 rf2 rf3 rf4 rf5 rf6 rf7 rf8 rf9 rf10 rc0 rc1 rc2 rc3 rc4 rc5 rc6 rc7 rc8 rc9 rc10
                generalize ((((((((((W9.setCell ⟨W2.heap.size, 0, none⟩ (.bool zs.rd)).setCell ⟨W2.heap.size, 1, none⟩ (.bool zs.wt)).setCell ⟨W2.heap.size, 2, none⟩ (.int .i64 zs.mode)).setCell ⟨W2.heap.size, 3, none⟩ (.int .i64 zs.size)).setCell ⟨W2.heap.size, 4, none⟩ (.slice l1 zs.out.length l4)).setCell ⟨W2.heap.size, 5, none⟩ (.slice l2 zs.inn.length l5)).setCell ⟨W2.heap.size, 6, none⟩ (.slice l3 zs.back.length l6)).setCell ⟨W2.heap.size, 7, none⟩ (.int .i64 zs.dir)).setCell ⟨W2.heap.size, 8, none⟩ (.bool zs.fin)).setCell ⟨W2.heap.size, 9, none⟩ (.bool zs.bad)).setCell ⟨W2.heap.size, 10, none⟩ (.bool zs.closed) = W10 at *
                refine hK.out _ _ (⟨HYs.out.below HBc.out, HZs.out.below HBc.out⟩) (fun hHeld2 => ?_)
                clear hK K' hHeld
                have hHeld := hHeld2
                clear hHeld2
                try simp only [Act.put, List.setIfInBounds_toArray, List.set_cons_zero, List.set_cons_succ]
                refine wpAnyH_done (by kernel_rfl) ?_ _
                refine NoPanic.normal ?_
                clear hHeld
                go_wp2
                go_meet
                exact ⟨_, _, _, _, _, _, _, _, _, _, _, _, _, _, rfl, rfl, HD4, HD5, HK, HL, HBc, by omega, by omega⟩
      rotate_left 1
      · (simp only [List.getElem?_toArray, List.getElem?_cons_zero, List.getElem?_cons_succ]; rfl)
      · go_simp
        have hA := recv_below W1 (Obj.cells #[.bool false, .bool false, .int .i64 0, .int .i64 0, .slice none 0 0, .slice none 0 0, .slice none 0 0, .int .i64 0, .bool false, .bool false, .bool false] 58)
        have HZ4 := hide (heap_alloc_new W1 (Obj.cells #[.bool false, .bool false, .int .i64 0, .int .i64 0, .slice none 0 0, .slice none 0 0, .slice none 0 0, .int .i64 0, .bool false, .bool false, .bool false] 58))
        have hg4 : w16.heap.size ≤ W1.heap.size := HBc.out.size
        replace HBc := hide (HBc.out.trans (hA.mono HBc.out.size))
        replace HK := hide (HK.out.below hA)
        clear hA
        generalize W1.alloc (Obj.cells #[.bool false, .bool false, .int .i64 0, .int .i64 0, .slice none 0 0, .slice none 0 0, .slice none 0 0, .int .i64 0, .bool false, .bool false, .bool false] 58) = W11 at *
        refine hK.out _ _ (⟨HYs.out.below HBc.out, HZs.out.below HBc.out⟩) (fun hHeld2 => ?_)
        clear hK K' hHeld
        have hHeld := hHeld2
        clear hHeld2
        try simp only [Act.put, List.setIfInBounds_toArray, List.set_cons_zero, List.set_cons_succ]
        refine wpAnyH_ready (rs := [3, 5]) (by kernel_rfl) (by simp) ?_
        refine AllReadyH.cons (o := ?_) ?_ (fun K' hK => ?_) (AllReadyH.cons (o := ?_) ?_ (fun K' hK => ?_) AllReadyH.nil)
        rotate_left 1
        · (simp only [List.getElem?_toArray, List.getElem?_cons_zero, List.getElem?_cons_succ]; rfl)
        · go_simp
          go_at_call 21
          refine (given_any zs _ _ _ _ _ (HZl.out.below HBc.out) HLz.out.1 HLz.out.2.1 HLz.out.2.2).mono ?_
          rintro _ W12 ⟨o1, i1, b1, rfl, y1, y2, y3, hB, hAp⟩
          obtain ⟨l1, l4, rfl⟩ := owns_slice y1
          obtain ⟨l2, l5, rfl⟩ := owns_slice y2
          obtain ⟨l3, l6, rfl⟩ := owns_slice y3
          have HL : Hid (Own3 w16.heap.size W12 zs (.slice l1 zs.out.length l4) (.slice l2 zs.inn.length l5) (.slice l3 zs.back.length l6)) := hide (Own3.mono ⟨y1, y2, y3, hAp⟩ HBc.out.size)
          replace HBc := hide (HBc.out.trans (hB.mono HBc.out.size))
          replace HK := hide (HK.out.below hB)
          replace HZ4 : Hid (W12.heap[W1.heap.size]? = some (Obj.cells #[.bool false, .bool false, .int .i64 0, .int .i64 0, .slice none 0 0, .slice none 0 0, .slice none 0 0, .int .i64 0, .bool false, .bool false, .bool false] 58)) := hide ((hB.block _ (Array.getElem?_eq_some_iff.1 HZ4.out).1).trans HZ4.out)
          clear hB y1 y2 y3 hAp
          refine hK.out _ _ (⟨HYs.out.below HBc.out, HZs.out.below HBc.out⟩) (fun hHeld2 => ?_)
          clear hK K' hHeld
          have hHeld := hHeld2
          clear hHeld2
          try simp only [Act.put, List.setIfInBounds_toArray, List.set_cons_zero, List.set_cons_succ]
          refine wpAnyH_ready (rs := [5]) (by kernel_rfl) (by simp) ?_
          refine AllReadyH.cons (o := ?_) ?_ (fun K' hK => ?_) AllReadyH.nil
          rotate_left 1
          · (simp only [List.getElem?_toArray, List.getElem?_cons_zero, List.getElem?_cons_succ]; rfl)
          · go_simp
            have hA := recv_below W12 (Obj.cells #[.bool false, .bool false, .int .i64 0, .int .i64 0, .slice none 0 0, .slice none 0 0, .slice none 0 0, .int .i64 0, .bool false, .bool false, .bool false] 58)
            have HZ5 := hide (heap_alloc_new W12 (Obj.cells #[.bool false, .bool false, .int .i64 0, .int .i64 0, .slice none 0 0, .slice none 0 0, .slice none 0 0, .int .i64 0, .bool false, .bool false, .bool false] 58))
            have hg5 : w16.heap.size ≤ W12.heap.size := HBc.out.size
            have hne : W1.heap.size < W12.heap.size := (Array.getElem?_eq_some_iff.1 HZ4.out).1
            replace HBc := hide (HBc.out.trans (hA.mono HBc.out.size))
            replace HK := hide (HK.out.below hA)
            replace HL := hide (HL.out.below hA)
            replace HZ4 : Hid ((W12.alloc (Obj.cells #[.bool false, .bool false, .int .i64 0, .int .i64 0, .slice none 0 0, .slice none 0 0, .slice none 0 0, .int .i64 0, .bool false, .bool false, .bool false] 58)).heap[W1.heap.size]? = some (Obj.cells #[.bool false, .bool false, .int .i64 0, .int .i64 0, .slice none 0 0, .slice none 0 0, .slice none 0 0, .int .i64 0, .bool false, .bool false, .bool false] 58)) := hide ((hA.block _ (Array.getElem?_eq_some_iff.1 HZ4.out).1).trans HZ4.out)
            clear hA
            generalize W12.alloc (Obj.cells #[.bool false, .bool false, .int .i64 0, .int .i64 0, .slice none 0 0, .slice none 0 0, .slice none 0 0, .int .i64 0, .bool false, .bool false, .bool false] 58) = W13 at *
            refine hK.out _ _ (⟨HYs.out.below HBc.out, HZs.out.below HBc.out⟩) (fun hHeld2 => ?_)
            clear hK K' hHeld
            have hHeld := hHeld2
            clear hHeld2
            try simp only [Act.put, List.setIfInBounds_toArray, List.set_cons_zero, List.set_cons_succ]
            have pf0 := frozen_of_row W13 W1.heap.size 0 _ _ HZ4.out
            have pf1 := frozen_of_row W13 W1.heap.size 1 _ _ HZ4.out
            have pf2 := frozen_of_row W13 W1.heap.size 2 _ _ HZ4.out
            have pf3 := frozen_of_row W13 W1.heap.size 3 _ _ HZ4.out
            have pf4 := frozen_of_row W13 W1.heap.size 4 _ _ HZ4.out
            have pf5 := frozen_of_row W13 W1.heap.size 5 _ _ HZ4.out
            have pf6 := frozen_of_row W13 W1.heap.size 6 _ _ HZ4.out
            have pf7 := frozen_of_row W13 W1.heap.size 7 _ _ HZ4.out
            have pf8 := frozen_of_row W13 W1.heap.size 8 _ _ HZ4.out
            have pf9 := frozen_of_row W13 W1.heap.size 9 _ _ HZ4.out
            have pf10 := frozen_of_row W13 W1.heap.size 10 _ _ HZ4.out
            have pc0 := cell_of_row W13 W1.heap.size 0 _ _ _ HZ4.out
            have pc1 := cell_of_row W13 W1.heap.size 1 _ _ _ HZ4.out
            have pc2 := cell_of_row W13 W1.heap.size 2 _ _ _ HZ4.out
            have pc3 := cell_of_row W13 W1.heap.size 3 _ _ _ HZ4.out
            have pc4 := cell_of_row W13 W1.heap.size 4 _ _ _ HZ4.out
            have pc5 := cell_of_row W13 W1.heap.size 5 _ _ _ HZ4.out
            have pc6 := cell_of_row W13 W1.heap.size 6 _ _ _ HZ4.out
            have pc7 := cell_of_row W13 W1.heap.size 7 _ _ _ HZ4.out
            have pc8 := cell_of_row W13 W1.heap.size 8 _ _ _ HZ4.out
            have pc9 := cell_of_row W13 W1.heap.size 9 _ _ _ HZ4.out
            have pc10 := cell_of_row W13 W1.heap.size 10 _ _ _ HZ4.out
            simp at pc0 pc1 pc2 pc3 pc4 pc5 pc6 pc7 pc8 pc9 pc10
            refine wpAnyH_ready (rs := [6]) (by kernel_rfl) (by simp) ?_
            refine AllReadyH.cons (o := ?_) ?_ (fun K' hK => ?_) AllReadyH.nil
            rotate_left 1
            · (simp only [List.getElem?_toArray, List.getElem?_cons_zero, List.getElem?_cons_succ]; rfl)
            · obtain ⟨e1, e2⟩ := st_fill W13 W1.heap.size y (.slice k1 y.out.length k4) (.slice k2 y.inn.length k5) (.slice k3 y.back.length k6) HZ4.out
              have HD4 := hide e1
              replace HBc := hide (HBc.out.trans (e2.below (B := w16.heap.size) (fun k e => by have e3 : k = W1.heap.size := e; omega) HBc.out.size))
              replace HK := hide (Own3.past HK.out e2 HZ4.out)
              replace HL := hide (Own3.past HL.out e2 HZ4.out)
              replace HZ5 := hide ((e2.block _ (Array.getElem?_eq_some_iff.1 HZ5.out).1 (by show ¬ _ = W1.heap.size; omega)).trans HZ5.out)
              clear HZ4 e1 e2
              go_simp
              clear pf0 pf1 pf2 pf3 pf4 pf5 pf6 pf7 pf8 pf9 pf10 pc0 pc1 pc2 pc3 pc4 pc5 pc6 pc7 pc8 pc9 pc10
              generalize ((((((((((W13.setCell ⟨W1.heap.size, 0, none⟩ (.bool y.rd)).setCell ⟨W1.heap.size, 1, none⟩ (.bool y.wt)).setCell ⟨W1.heap.size, 2, none⟩ (.int .i64 y.mode)).setCell ⟨W1.heap.size, 3, none⟩ (.int .i64 y.size)).setCell ⟨W1.heap.size, 4, none⟩ (.slice k1 y.out.length k4)).setCell ⟨W1.heap.size, 5, none⟩ (.slice k2 y.inn.length k5)).setCell ⟨W1.heap.size, 6, none⟩ (.slice k3 y.back.length k6)).setCell ⟨W1.heap.size, 7, none⟩ (.int .i64 y.dir)).setCell ⟨W1.heap.size, 8, none⟩ (.bool y.fin)).setCell ⟨W1.heap.size, 9, none⟩ (.bool y.bad)).setCell ⟨W1.heap.size, 10, none⟩ (.bool y.closed) = W14 at *
              refine hK.out _ _ (⟨HYs.out.below HBc.out, HZs.out.below HBc.out⟩) (fun hHeld2 => ?_)
              clear hK K' hHeld
              have hHeld := hHeld2
              clear hHeld2
              try simp only [Act.put, List.setIfInBounds_toArray, List.set_cons_zero, List.set_cons_succ]
              have rf0 := frozen_of_row W14 W12.heap.size 0 _ _ HZ5.out
              have rf1 := frozen_of_row W14 W12.heap.size 1 _ _ HZ5.out
              have rf2 := frozen_of_row W14 W12.heap.size 2 _ _ HZ5.out
              have rf3 := frozen_of_row W14 W12.heap.size 3 _ _ HZ5.out
              have rf4 := frozen_of_row W14 W12.heap.size 4 _ _ HZ5.out
              have rf5 := frozen_of_row W14 W12.heap.size 5 _ _ HZ5.out
              have rf6 := frozen_of_row W14 W12.heap.size 6 _ _ HZ5.out
              have rf7 := frozen_of_row W14 W12.heap.size 7 _ _ HZ5.out
              have rf8 := frozen_of_row W14 W12.heap.size 8 _ _ HZ5.out
              have rf9 := frozen_of_row W14 W12.heap.size 9 _ _ HZ5.out
              have rf10 := frozen_of_row W14 W12.heap.size 10 _ _ HZ5.out
              have rc0 := cell_of_row W14 W12.heap.size 0 _ _ _ HZ5.out
              have rc1 := cell_of_row W14 W12.heap.size 1 _ _ _ HZ5.out
              have rc2 := cell_of_row W14 W12.heap.size 2 _ _ _ HZ5.out
              have rc3 := cell_of_row W14 W12.heap.size 3 _ _ _ HZ5.out
              have rc4 := cell_of_row W14 W12.heap.size 4 _ _ _ HZ5.out
              have rc5 := cell_of_row W14 W12.heap.size 5 _ _ _ HZ5.out
              have rc6 := cell_of_row W14 W12.heap.size 6 _ _ _ HZ5.out
              have rc7 := cell_of_row W14 W12.heap.size 7 _ _ _ HZ5.out
              have rc8 := cell_of_row W14 W12.heap.size 8 _ _ _ HZ5.out
              have rc9 := cell_of_row W14 W12.heap.size 9 _ _ _ HZ5.out
              have rc10 := cell_of_row W14 W12.heap.size 10 _ _ _ HZ5.out
              simp at rc0 rc1 rc2 rc3 rc4 rc5 rc6 rc7 rc8 rc9 rc10
              refine wpAnyH_ready (rs := [7]) (by kernel_rfl) (by simp) ?_
              refine AllReadyH.cons (o := ?_) ?_ (fun K' hK => ?_) AllReadyH.nil
              rotate_left 1
              · (simp only [List.getElem?_toArray, List.getElem?_cons_zero, List.getElem?_cons_succ]; rfl)
              · obtain ⟨e1, e2⟩ := st_fill W14 W12.heap.size zs (.slice l1 zs.out.length l4) (.slice l2 zs.inn.length l5) (.slice l3 zs.back.length l6) HZ5.out
                have HD5 := hide e1
                replace HBc := hide (HBc.out.trans (e2.below (B := w16.heap.size) (fun k e => by have e3 : k = W12.heap.size := e; omega) HBc.out.size))
                replace HK := hide (Own3.past HK.out e2 HZ5.out)
                replace HL := hide (Own3.past HL.out e2 HZ5.out)
                replace HD4 := hide (StAt.turned1 HD4.out e2 (by omega))
                clear HZ5 e1 e2
                go_simp
                clear rf0 rf1 rf2 rf3 rf4 rf5 rf6 rf7 rf8 rf9 rf10 rc0 rc1 rc2 rc3 rc4 rc5 rc6 rc7 rc8 rc9 rc10
                generalize ((((((((((W14.setCell ⟨W12.heap.size, 0, none⟩ (.bool zs.rd)).setCell ⟨W12.heap.size, 1, none⟩ (.bool zs.wt)).setCell ⟨W12.heap.size, 2, none⟩ (.int .i64 zs.mode)).setCell ⟨W12.heap.size, 3, none⟩ (.int .i64 zs.size)).setCell ⟨W12.heap.size, 4, none⟩ (.slice l1 zs.out.length l4)).setCell ⟨W12.heap.size, 5, none⟩ (.slice l2 zs.inn.length l5)).setCell ⟨W12.heap.size, 6, none⟩ (.slice l3 zs.back.length l6)).setCell ⟨W12.heap.size, 7, none⟩ (.int .i64 zs.dir)).setCell ⟨W12.heap.size, 8, none⟩ (.bool zs.fin)).setCell ⟨W12.heap.size, 9, none⟩ (.bool zs.bad)).setCell ⟨W12.heap.size, 10, none⟩ (.bool zs.closed) = W15 at *
                refine hK.out _ _ (⟨HYs.out.below HBc.out, HZs.out.below HBc.out⟩) (fun hHeld2 => ?_)
                clear hK K' hHeld
                have hHeld := hHeld2
                clear hHeld2
                try simp only [Act.put, List.setIfInBounds_toArray, List.set_cons_zero, List.set_cons_succ]
                refine wpAnyH_done (by kernel_rfl) ?_ _
                refine NoPanic.normal ?_
                clear hHeld
                go_wp2
                go_meet
                exact ⟨_, _, _, _, _, _, _, _, _, _, _, _, _, _, rfl, rfl, HD4, HD5, HK, HL, HBc, by omega, by omega⟩
        rotate_left 1
        · (simp only [List.getElem?_toArray, List.getElem?_cons_zero, List.getElem?_cons_succ]; rfl)
        · go_simp
          have hA := recv_below W11 (Obj.cells #[.bool false, .bool false, .int .i64 0, .int .i64 0, .slice none 0 0, .slice none 0 0, .slice none 0 0, .int .i64 0, .bool false, .bool false, .bool false] 58)
          have HZ5 := hide (heap_alloc_new W11 (Obj.cells #[.bool false, .bool false, .int .i64 0, .int .i64 0, .slice none 0 0, .slice none 0 0, .slice none 0 0, .int .i64 0, .bool false, .bool false, .bool false] 58))
          have hg5 : w16.heap.size ≤ W11.heap.size := HBc.out.size
          have hne : W1.heap.size < W11.heap.size := (Array.getElem?_eq_some_iff.1 HZ4.out).1
          replace HBc := hide (HBc.out.trans (hA.mono HBc.out.size))
          replace HK := hide (HK.out.below hA)
          replace HZ4 : Hid ((W11.alloc (Obj.cells #[.bool false, .bool false, .int .i64 0, .int .i64 0, .slice none 0 0, .slice none 0 0, .slice none 0 0, .int .i64 0, .bool false, .bool false, .bool false] 58)).heap[W1.heap.size]? = some (Obj.cells #[.bool false, .bool false, .int .i64 0, .int .i64 0, .slice none 0 0, .slice none 0 0, .slice none 0 0, .int .i64 0, .bool false, .bool false, .bool false] 58)) := hide ((hA.block _ (Array.getElem?_eq_some_iff.1 HZ4.out).1).trans HZ4.out)
          clear hA
          generalize W11.alloc (Obj.cells #[.bool false, .bool false, .int .i64 0, .int .i64 0, .slice none 0 0, .slice none 0 0, .slice none 0 0, .int .i64 0, .bool false, .bool false, .bool false] 58) = W16 at *
          refine hK.out _ _ (⟨HYs.out.below HBc.out, HZs.out.below HBc.out⟩) (fun hHeld2 => ?_)
          clear hK K' hHeld
          have hHeld := hHeld2
          clear hHeld2
          try simp only [Act.put, List.setIfInBounds_toArray, List.set_cons_zero, List.set_cons_succ]
          refine wpAnyH_ready (rs := [3]) (by kernel_rfl) (by simp) ?_
          refine AllReadyH.cons (o := ?_) ?_ (fun K' hK => ?_) AllReadyH.nil
          rotate_left 1
          · (simp only [List.getElem?_toArray, List.getElem?_cons_zero, List.getElem?_cons_succ]; rfl)
          · go_simp
            go_at_call 21
            refine (given_any zs _ _ _ _ _ (HZl.out.below HBc.out) HLz.out.1 HLz.out.2.1 HLz.out.2.2).mono ?_
            rintro _ W17 ⟨o1, i1, b1, rfl, y1, y2, y3, hB, hAp⟩
            obtain ⟨l1, l4, rfl⟩ := owns_slice y1
            obtain ⟨l2, l5, rfl⟩ := owns_slice y2
            obtain ⟨l3, l6, rfl⟩ := owns_slice y3
            have HL : Hid (Own3 w16.heap.size W17 zs (.slice l1 zs.out.length l4) (.slice l2 zs.inn.length l5) (.slice l3 zs.back.length l6)) := hide (Own3.mono ⟨y1, y2, y3, hAp⟩ HBc.out.size)
            replace HBc := hide (HBc.out.trans (hB.mono HBc.out.size))
            replace HK := hide (HK.out.below hB)
            replace HZ4 : Hid (W17.heap[W1.heap.size]? = some (Obj.cells #[.bool false, .bool false, .int .i64 0, .int .i64 0, .slice none 0 0, .slice none 0 0, .slice none 0 0, .int .i64 0, .bool false, .bool false, .bool false] 58)) := hide ((hB.block _ (Array.getElem?_eq_some_iff.1 HZ4.out).1).trans HZ4.out)
            replace HZ5 : Hid (W17.heap[W11.heap.size]? = some (Obj.cells #[.bool false, .bool false, .int .i64 0, .int .i64 0, .slice none 0 0, .slice none 0 0, .slice none 0 0, .int .i64 0, .bool false, .bool false, .bool false] 58)) := hide ((hB.block _ (Array.getElem?_eq_some_iff.1 HZ5.out).1).trans HZ5.out)
            clear hB y1 y2 y3 hAp
            refine hK.out _ _ (⟨HYs.out.below HBc.out, HZs.out.below HBc.out⟩) (fun hHeld2 => ?_)
            clear hK K' hHeld
            have hHeld := hHeld2
            clear hHeld2
            try simp only [Act.put, List.setIfInBounds_toArray, List.set_cons_zero, List.set_cons_succ]
            have pf0 := frozen_of_row W17 W1.heap.size 0 _ _ HZ4.out
            have pf1 := frozen_of_row W17 W1.heap.size 1 _ _ HZ4.out
            have pf2 := frozen_of_row W17 W1.heap.size 2 _ _ HZ4.out
            have pf3 := frozen_of_row W17 W1.heap.size 3 _ _ HZ4.out
            have pf4 := frozen_of_row W17 W1.heap.size 4 _ _ HZ4.out
            have pf5 := frozen_of_row W17 W1.heap.size 5 _ _ HZ4.out
            have pf6 := frozen_of_row W17 W1.heap.size 6 _ _ HZ4.out
            have pf7 := frozen_of_row W17 W1.heap.size 7 _ _ HZ4.out
            have pf8 := frozen_of_row W17 W1.heap.size 8 _ _ HZ4.out
            have pf9 := frozen_of_row W17 W1.heap.size 9 _ _ HZ4.out
            have pf10 := frozen_of_row W17 W1.heap.size 10 _ _ HZ4.out
            have pc0 := cell_of_row W17 W1.heap.size 0 _ _ _ HZ4.out
            have pc1 := cell_of_row W17 W1.heap.size 1 _ _ _ HZ4.out
            have pc2 := cell_of_row W17 W1.heap.size 2 _ _ _ HZ4.out
            have pc3 := cell_of_row W17 W1.heap.size 3 _ _ _ HZ4.out
            have pc4 := cell_of_row W17 W1.heap.size 4 _ _ _ HZ4.out
            have pc5 := cell_of_row W17 W1.heap.size 5 _ _ _ HZ4.out
            have pc6 := cell_of_row W17 W1.heap.size 6 _ _ _ HZ4.out
            have pc7 := cell_of_row W17 W1.heap.size 7 _ _ _ HZ4.out
            have pc8 := cell_of_row W17 W1.heap.size 8 _ _ _ HZ4.out
            have pc9 := cell_of_row W17 W1.heap.size 9 _ _ _ HZ4.out
            have pc10 := cell_of_row W17 W1.heap.size 10 _ _ _ HZ4.out
            simp at pc0 pc1 pc2 pc3 pc4 pc5 pc6 pc7 pc8 pc9 pc10
            refine wpAnyH_ready (rs := [6]) (by kernel_rfl) (by simp) ?_
            refine AllReadyH.cons (o := ?_) ?_ (fun K' hK => ?_) AllReadyH.nil
            rotate_left 1
            · (simp only [List.getElem?_toArray, List.getElem?_cons_zero, List.getElem?_cons_succ]; rfl)
            · obtain ⟨e1, e2⟩ := st_fill W17 W1.heap.size y (.slice k1 y.out.length k4) (.slice k2 y.inn.length k5) (.slice k3 y.back.length k6) HZ4.out
              have HD4 := hide e1
              replace HBc := hide (HBc.out.trans (e2.below (B := w16.heap.size) (fun k e => by have e3 : k = W1.heap.size := e; omega) HBc.out.size))
              replace HK := hide (Own3.past HK.out e2 HZ4.out)
              replace HL := hide (Own3.past HL.out e2 HZ4.out)
              replace HZ5 := hide ((e2.block _ (Array.getElem?_eq_some_iff.1 HZ5.out).1 (by show ¬ _ = W1.heap.size; omega)).trans HZ5.out)
              clear HZ4 e1 e2
              go_simp
              clear pf0 pf1 pf2 pf3 pf4 pf5 pf6 pf7 pf8 pf9 pf10 pc0 pc1 pc2 pc3 pc4 pc5 pc6 pc7 pc8 pc9 pc10
              generalize ((((((((((W17.setCell ⟨W1.heap.size, 0, none⟩ (.bool y.rd)).setCell ⟨W1.heap.size, 1, none⟩ (.bool y.wt)).setCell ⟨W1.heap.size, 2, none⟩ (.int .i64 y.mode)).setCell ⟨W1.heap.size, 3, none⟩ (.int .i64 y.size)).setCell ⟨W1.heap.size, 4, none⟩ (.slice k1 y.out.length k4)).setCell ⟨W1.heap.size, 5, none⟩ (.slice k2 y.inn.length k5)).setCell ⟨W1.heap.size, 6, none⟩ (.slice k3 y.back.length k6)).setCell ⟨W1.heap.size, 7, none⟩ (.int .i64 y.dir)).setCell ⟨W1.heap.size, 8, none⟩ (.bool y.fin)).setCell ⟨W1.heap.size, 9, none⟩ (.bool y.bad)).setCell ⟨W1.heap.size, 10, none⟩ (.bool y.closed) = W18 at *
              refine hK.out _ _ (⟨HYs.out.below HBc.out, HZs.out.below HBc.out⟩) (fun hHeld2 => ?_)
              clear hK K' hHeld
              have hHeld := hHeld2
              clear hHeld2
              try simp only [Act.put, List.setIfInBounds_toArray, List.set_cons_zero, List.set_cons_succ]
              have rf0 := frozen_of_row W18 W11.heap.size 0 _ _ HZ5.out
              have rf1 := frozen_of_row W18 W11.heap.size 1 _ _ HZ5.out
              have rf2 := frozen_of_row W18 W11.heap.size 2 _ _ HZ5.out
              have rf3 := frozen_of_row W18 W11.heap.size 3 _ _ HZ5.out
              have rf4 := frozen_of_row W18 W11.heap.size 4 _ _ HZ5.out
              have rf5 := frozen_of_row W18 W11.heap.size 5 _ _ HZ5.out
              have rf6 := frozen_of_row W18 W11.heap.size 6 _ _ HZ5.out
              have rf7 := frozen_of_row W18 W11.heap.size 7 _ _ HZ5.out
              have rf8 := frozen_of_row W18 W11.heap.size 8 _ _ HZ5.out
              have rf9 := frozen_of_row W18 W11.heap.size 9 _ _ HZ5.out
              have rf10 := frozen_of_row W18 W11.heap.size 10 _ _ HZ5.out
              have rc0 := cell_of_row W18 W11.heap.size 0 _ _ _ HZ5.out
              have rc1 := cell_of_row W18 W11.heap.size 1 _ _ _ HZ5.out
              have rc2 := cell_of_row W18 W11.heap.size 2 _ _ _ HZ5.out
              have rc3 := cell_of_row W18 W11.heap.size 3 _ _ _ HZ5.out
              have rc4 := cell_of_row W18 W11.heap.size 4 _ _ _ HZ5.out
              have rc5 := cell_of_row W18 W11.heap.size 5 _ _ _ HZ5.out
              have rc6 := cell_of_row W18 W11.heap.size 6 _ _ _ HZ5.out
              have rc7 := cell_of_row W18 W11.heap.size 7 _ _ _ HZ5.out
              have rc8 := cell_of_row W18 W11.heap.size 8 _ _ _ HZ5.out
              have rc9 := cell_of_row W18 W11.heap.size 9 _ _ _ HZ5.out
              have rc10 := cell_of_row W18 W11.heap.size 10 _ _ _ HZ5.out
              simp at rc0 rc1 rc2 rc3 rc4 rc5 rc6 rc7 rc8 rc9 rc10
              refine wpAnyH_ready (rs := [7]) (by kernel_rfl) (by simp) ?_
              refine AllReadyH.cons (o := ?_) ?_ (fun K' hK => ?_) AllReadyH.nil
              rotate_left 1
              · (simp only [List.getElem?_toArray, List.getElem?_cons_zero, List.getElem?_cons_succ]; rfl)
              · obtain ⟨e1, e2⟩ := st_fill W18 W11.heap.size zs (.slice l1 zs.out.length l4) (.slice l2 zs.inn.length l5) (.slice l3 zs.back.length l6) HZ5.out
                have HD5 := hide e1
                replace HBc := hide (HBc.out.trans (e2.below (B := w16.heap.size) (fun k e => by have e3 : k = W11.heap.size := e; omega) HBc.out.size))
                replace HK := hide (Own3.past HK.out e2 HZ5.out)
                replace HL := hide (Own3.past HL.out e2 HZ5.out)
                replace HD4 := hide (StAt.turned1 HD4.out e2 (by omega))
                clear HZ5 e1 e2
                go_simp
                clear rf0 rf1 rf2 rf3 rf4 rf5 rf6 rf7 rf8 rf9 rf10 rc0 rc1 rc2 rc3 rc4 rc5 rc6 rc7 rc8 rc9 rc10
                generalize ((((((((((W18.setCell ⟨W11.heap.size, 0, none⟩ (.bool zs.rd)).setCell ⟨W11.heap.size, 1, none⟩ (.bool zs.wt)).setCell ⟨W11.heap.size, 2, none⟩ (.int .i64 zs.mode)).setCell ⟨W11.heap.size, 3, none⟩ (.int .i64 zs.size)).setCell ⟨W11.heap.size, 4, none⟩ (.slice l1 zs.out.length l4)).setCell ⟨W11.heap.size, 5, none⟩ (.slice l2 zs.inn.length l5)).setCell ⟨W11.heap.size, 6, none⟩ (.slice l3 zs.back.length l6)).setCell ⟨W11.heap.size, 7, none⟩ (.int .i64 zs.dir)).setCell ⟨W11.heap.size, 8, none⟩ (.bool zs.fin)).setCell ⟨W11.heap.size, 9, none⟩ (.bool zs.bad)).setCell ⟨W11.heap.size, 10, none⟩ (.bool zs.closed) = W19 at *
                refine hK.out _ _ (⟨HYs.out.below HBc.out, HZs.out.below HBc.out⟩) (fun hHeld2 => ?_)
                clear hK K' hHeld
                have hHeld := hHeld2
                clear hHeld2
                try simp only [Act.put, List.setIfInBounds_toArray, List.set_cons_zero, List.set_cons_succ]
                refine wpAnyH_done (by kernel_rfl) ?_ _
                refine NoPanic.normal ?_
                clear hHeld
                go_wp2
                go_meet
                exact ⟨_, _, _, _, _, _, _, _, _, _, _, _, _, _, rfl, rfl, HD4, HD5, HK, HL, HBc, by omega, by omega⟩
      rotate_left 1
      · (simp only [List.getElem?_toArray, List.getElem?_cons_zero, List.getElem?_cons_succ]; rfl)
      · go_simp
        have hA := recv_below W1 (Obj.cells #[.bool false, .bool false, .int .i64 0, .int .i64 0, .slice none 0 0, .slice none 0 0, .slice none 0 0, .int .i64 0, .bool false, .bool false, .bool false] 58)
        have HZ5 := hide (heap_alloc_new W1 (Obj.cells #[.bool false, .bool false, .int .i64 0, .int .i64 0, .slice none 0 0, .slice none 0 0, .slice none 0 0, .int .i64 0, .bool false, .bool false, .bool false] 58))
        have hg5 : w16.heap.size ≤ W1.heap.size := HBc.out.size
        replace HBc := hide (HBc.out.trans (hA.mono HBc.out.size))
        replace HK := hide (HK.out.below hA)
        clear hA
        generalize W1.alloc (Obj.cells #[.bool false, .bool false, .int .i64 0, .int .i64 0, .slice none 0 0, .slice none 0 0, .slice none 0 0, .int .i64 0, .bool false, .bool false, .bool false] 58) = W20 at *
        refine hK.out _ _ (⟨HYs.out.below HBc.out, HZs.out.below HBc.out⟩) (fun hHeld2 => ?_)
        clear hK K' hHeld
        have hHeld := hHeld2
        clear hHeld2
        try simp only [Act.put, List.setIfInBounds_toArray, List.set_cons_zero, List.set_cons_succ]
        refine wpAnyH_ready (rs := [3, 4]) (by kernel_rfl) (by simp) ?_
        refine AllReadyH.cons (o := ?_) ?_ (fun K' hK => ?_) (AllReadyH.cons (o := ?_) ?_ (fun K' hK => ?_) AllReadyH.nil)
        rotate_left 1
        · (simp only [List.getElem?_toArray, List.getElem?_cons_zero, List.getElem?_cons_succ]; rfl)
        · go_simp
          go_at_call 21
          refine (given_any zs _ _ _ _ _ (HZl.out.below HBc.out) HLz.out.1 HLz.out.2.1 HLz.out.2.2).mono ?_
          rintro _ W21 ⟨o1, i1, b1, rfl, y1, y2, y3, hB, hAp⟩
          obtain ⟨l1, l4, rfl⟩ := owns_slice y1
          obtain ⟨l2, l5, rfl⟩ := owns_slice y2
          obtain ⟨l3, l6, rfl⟩ := owns_slice y3
          have HL : Hid (Own3 w16.heap.size W21 zs (.slice l1 zs.out.length l4) (.slice l2 zs.inn.length l5) (.slice l3 zs.back.length l6)) := hide (Own3.mono ⟨y1, y2, y3, hAp⟩ HBc.out.size)
          replace HBc := hide (HBc.out.trans (hB.mono HBc.out.size))
          replace HK := hide (HK.out.below hB)
          replace HZ5 : Hid (W21.heap[W1.heap.size]? = some (Obj.cells #[.bool false, .bool false, .int .i64 0, .int .i64 0, .slice none 0 0, .slice none 0 0, .slice none 0 0, .int .i64 0, .bool false, .bool false, .bool false] 58)) := hide ((hB.block _ (Array.getElem?_eq_some_iff.1 HZ5.out).1).trans HZ5.out)
          clear hB y1 y2 y3 hAp
          refine hK.out _ _ (⟨HYs.out.below HBc.out, HZs.out.below HBc.out⟩) (fun hHeld2 => ?_)
          clear hK K' hHeld
          have hHeld := hHeld2
          clear hHeld2
          try simp only [Act.put, List.setIfInBounds_toArray, List.set_cons_zero, List.set_cons_succ]
          refine wpAnyH_ready (rs := [4]) (by kernel_rfl) (by simp) ?_
          refine AllReadyH.cons (o := ?_) ?_ (fun K' hK => ?_) AllReadyH.nil
          rotate_left 1
          · (simp only [List.getElem?_toArray, List.getElem?_cons_zero, List.getElem?_cons_succ]; rfl)
          · go_simp
            have hA := recv_below W21 (Obj.cells #[.bool false, .bool false, .int .i64 0, .int .i64 0, .slice none 0 0, .slice none 0 0, .slice none 0 0, .int .i64 0, .bool false, .bool false, .bool false] 58)
            have HZ4 := hide (heap_alloc_new W21 (Obj.cells #[.bool false, .bool false, .int .i64 0, .int .i64 0, .slice none 0 0, .slice none 0 0, .slice none 0 0, .int .i64 0, .bool false, .bool false, .bool false] 58))
            have hg4 : w16.heap.size ≤ W21.heap.size := HBc.out.size
            have hne : W1.heap.size < W21.heap.size := (Array.getElem?_eq_some_iff.1 HZ5.out).1
            replace HBc := hide (HBc.out.trans (hA.mono HBc.out.size))
            replace HK := hide (HK.out.below hA)
            replace HL := hide (HL.out.below hA)
            replace HZ5 : Hid ((W21.alloc (Obj.cells #[.bool false, .bool false, .int .i64 0, .int .i64 0, .slice none 0 0, .slice none 0 0, .slice none 0 0, .int .i64 0, .bool false, .bool false, .bool false] 58)).heap[W1.heap.size]? = some (Obj.cells #[.bool false, .bool false, .int .i64 0, .int .i64 0, .slice none 0 0, .slice none 0 0, .slice none 0 0, .int .i64 0, .bool false, .bool false, .bool false] 58)) := hide ((hA.block _ (Array.getElem?_eq_some_iff.1 HZ5.out).1).trans HZ5.out)
            clear hA
            generalize W21.alloc (Obj.cells #[.bool false, .bool false, .int .i64 0, .int .i64 0, .slice none 0 0, .slice none 0 0, .slice none 0 0, .int .i64 0, .bool false, .bool false, .bool false] 58) = W22 at *
            refine hK.out _ _ (⟨HYs.out.below HBc.out, HZs.out.below HBc.out⟩) (fun hHeld2 => ?_)
            clear hK K' hHeld
            have hHeld := hHeld2
            clear hHeld2
            try simp only [Act.put, List.setIfInBounds_toArray, List.set_cons_zero, List.set_cons_succ]
            have pf0 := frozen_of_row W22 W21.heap.size 0 _ _ HZ4.out
            have pf1 := frozen_of_row W22 W21.heap.size 1 _ _ HZ4.out
            have pf2 := frozen_of_row W22 W21.heap.size 2 _ _ HZ4.out
            have pf3 := frozen_of_row W22 W21.heap.size 3 _ _ HZ4.out
            have pf4 := frozen_of_row W22 W21.heap.size 4 _ _ HZ4.out
            have pf5 := frozen_of_row W22 W21.heap.size 5 _ _ HZ4.out
            have pf6 := frozen_of_row W22 W21.heap.size 6 _ _ HZ4.out
            have pf7 := frozen_of_row W22 W21.heap.size 7 _ _ HZ4.out
            have pf8 := frozen_of_row W22 W21.heap.size 8 _ _ HZ4.out
            have pf9 := frozen_of_row W22 W21.heap.size 9 _ _ HZ4.out
            have pf10 := frozen_of_row W22 W21.heap.size 10 _ _ HZ4.out
            have pc0 := cell_of_row W22 W21.heap.size 0 _ _ _ HZ4.out
            have pc1 := cell_of_row W22 W21.heap.size 1 _ _ _ HZ4.out
            have pc2 := cell_of_row W22 W21.heap.size 2 _ _ _ HZ4.out
            have pc3 := cell_of_row W22 W21.heap.size 3 _ _ _ HZ4.out
            have pc4 := cell_of_row W22 W21.heap.size 4 _ _ _ HZ4.out
            have pc5 := cell_of_row W22 W21.heap.size 5 _ _ _ HZ4.out
            have pc6 := cell_of_row W22 W21.heap.size 6 _ _ _ HZ4.out
            have pc7 := cell_of_row W22 W21.heap.size 7 _ _ _ HZ4.out
            have pc8 := cell_of_row W22 W21.heap.size 8 _ _ _ HZ4.out
            have pc9 := cell_of_row W22 W21.heap.size 9 _ _ _ HZ4.out
            have pc10 := cell_of_row W22 W21.heap.size 10 _ _ _ HZ4.out
            simp at pc0 pc1 pc2 pc3 pc4 pc5 pc6 pc7 pc8 pc9 pc10
            refine wpAnyH_ready (rs := [6]) (by kernel_rfl) (by simp) ?_
            refine AllReadyH.cons (o := ?_) ?_ (fun K' hK => ?_) AllReadyH.nil
            rotate_left 1
            · (simp only [List.getElem?_toArray, List.getElem?_cons_zero, List.getElem?_cons_succ]; rfl)
            · obtain ⟨e1, e2⟩ := st_fill W22 W21.heap.size y (.slice k1 y.out.length k4) (.slice k2 y.inn.length k5) (.slice k3 y.back.length k6) HZ4.out
              have HD4 := hide e1
              replace HBc := hide (HBc.out.trans (e2.below (B := w16.heap.size) (fun k e => by have e3 : k = W21.heap.size := e; omega) HBc.out.size))
              replace HK := hide (Own3.past HK.out e2 HZ4.out)
              replace HL := hide (Own3.past HL.out e2 HZ4.out)
              replace HZ5 := hide ((e2.block _ (Array.getElem?_eq_some_iff.1 HZ5.out).1 (by show ¬ _ = W21.heap.size; omega)).trans HZ5.out)
              clear HZ4 e1 e2
              go_simp
              clear pf0 pf1 pf2 pf3 pf4 pf5 pf6 pf7 pf8 pf9 pf10 pc0 pc1 pc2 pc3 pc4 pc5 pc6 pc7 pc8 pc9 pc10
              generalize ((((((((((W22.setCell ⟨W21.heap.size, 0, none⟩ (.bool y.rd)).setCell ⟨W21.heap.size, 1, none⟩ (.bool y.wt)).setCell ⟨W21.heap.size, 2, none⟩ (.int .i64 y.mode)).setCell ⟨W21.heap.size, 3, none⟩ (.int .i64 y.size)).setCell ⟨W21.heap.size, 4, none⟩ (.slice k1 y.out.length k4)).setCell ⟨W21.heap.size, 5, none⟩ (.slice k2 y.inn.length k5)).setCell ⟨W21.heap.size, 6, none⟩ (.slice k3 y.back.length k6)).setCell ⟨W21.heap.size, 7, none⟩ (.int .i64 y.dir)).setCell ⟨W21.heap.size, 8, none⟩ (.bool y.fin)).setCell ⟨W21.heap.size, 9, none⟩ (.bool y.bad)).setCell ⟨W21.heap.size, 10, none⟩ (.bool y.closed) = W23 at *
              refine hK.out _ _ (⟨HYs.out.below HBc.out, HZs.out.below HBc.out⟩) (fun hHeld2 => ?_)
              clear hK K' hHeld
              have hHeld := hHeld2
              clear hHeld2
              try simp only [Act.put, List.setIfInBounds_toArray, List.set_cons_zero, List.set_cons_succ]
              have rf0 := frozen_of_row W23 W1.heap.size 0 _ _ HZ5.out
              have rf1 := frozen_of_row W23 W1.heap.size 1 _ _ HZ5.out
              have rf2 := frozen_of_row W23 W1.heap.size 2 _ _ HZ5.out
              have rf3 := frozen_of_row W23 W1.heap.size 3 _ _ HZ5.out
              have rf4 := frozen_of_row W23 W1.heap.size 4 _ _ HZ5.out
              have rf5 := frozen_of_row W23 W1.heap.size 5 _ _ HZ5.out
              have rf6 := frozen_of_row W23 W1.heap.size 6 _ _ HZ5.out
              have rf7 := frozen_of_row W23 W1.heap.size 7 _ _ HZ5.out
              have rf8 := frozen_of_row W23 W1.heap.size 8 _ _ HZ5.out
              have rf9 := frozen_of_row W23 W1.heap.size 9 _ _ HZ5.out
              have rf10 := frozen_of_row W23 W1.heap.size 10 _ _ HZ5.out
              have rc0 := cell_of_row W23 W1.heap.size 0 _ _ _ HZ5.out
              have rc1 := cell_of_row W23 W1.heap.size 1 _ _ _ HZ5.out
              have rc2 := cell_of_row W23 W1.heap.size 2 _ _ _ HZ5.out
              have rc3 := cell_of_row W23 W1.heap.size 3 _ _ _ HZ5.out
              have rc4 := cell_of_row W23 W1.heap.size 4 _ _ _ HZ5.out
              have rc5 := cell_of_row W23 W1.heap.size 5 _ _ _ HZ5.out
              have rc6 := cell_of_row W23 W1.heap.size 6 _ _ _ HZ5.out
              have rc7 := cell_of_row W23 W1.heap.size 7 _ _ _ HZ5.out
              have rc8 := cell_of_row W23 W1.heap.size 8 _ _ _ HZ5.out
              have rc9 := cell_of_row W23 W1.heap.size 9 _ _ _ HZ5.out
              have rc10 := cell_of_row W23 W1.heap.size 10 _ _ _ HZ5.out
              simp at rc0 rc1 rc2 rc3 rc4 rc5 rc6 rc7 rc8 rc9 rc10
              refine wpAnyH_ready (rs := [7]) (by kernel_rfl) (by simp) ?_
              refine AllReadyH.cons (o := ?_) ?_ (fun K' hK => ?_) AllReadyH.nil
              rotate_left 1
              · (simp only [List.getElem?_toArray, List.getElem?_cons_zero, List.getElem?_cons_succ]; rfl)
              · obtain ⟨e1, e2⟩ := st_fill W23 W1.heap.size zs (.slice l1 zs.out.length l4) (.slice l2 zs.inn.length l5) (.slice l3 zs.back.length l6) HZ5.out
                have HD5 := hide e1
                replace HBc := hide (HBc.out.trans (e2.below (B := w16.heap.size) (fun k e => by have e3 : k = W1.heap.size := e; omega) HBc.out.size))
                replace HK := hide (Own3.past HK.out e2 HZ5.out)
                replace HL := hide (Own3.past HL.out e2 HZ5.out)
                replace HD4 := hide (StAt.turned1 HD4.out e2 (by omega))
                clear HZ5 e1 e2
                go_simp
                clear rf0 rf1 rf2 rf3 rf4 rf5 rf6 rf7 rf8 rf9 rf10 rc0 rc1 rc2 rc3 rc4 rc5 rc6 rc7 rc8 rc9 rc10
                generalize ((((((((((W23.setCell ⟨W1.heap.size, 0, none⟩ (.bool zs.rd)).setCell ⟨W1.heap.size, 1, none⟩ (.bool zs.wt)).setCell ⟨W1.heap.size, 2, none⟩ (.int .i64 zs.mode)).setCell ⟨W1.heap.size, 3, none⟩ (.int .i64 zs.size)).setCell ⟨W1.heap.size, 4, none⟩ (.slice l1 zs.out.length l4)).setCell ⟨W1.heap.size, 5, none⟩ (.slice l2 zs.inn.length l5)).setCell ⟨W1.heap.size, 6, none⟩ (.slice l3 zs.back.length l6)).setCell ⟨W1.heap.size, 7, none⟩ (.int .i64 zs.dir)).setCell ⟨W1.heap.size, 8, none⟩ (.bool zs.fin)).setCell ⟨W1.heap.size, 9, none⟩ (.bool zs.bad)).setCell ⟨W1.heap.size, 10, none⟩ (.bool zs.closed) = W24 at *
                refine hK.out _ _ (⟨HYs.out.below HBc.out, HZs.out.below HBc.out⟩) (fun hHeld2 => ?_)
                clear hK K' hHeld
                have hHeld := hHeld2
                clear hHeld2
                try simp only [Act.put, List.setIfInBounds_toArray, List.set_cons_zero, List.set_cons_succ]
                refine wpAnyH_done (by kernel_rfl) ?_ _
                refine NoPanic.normal ?_
                clear hHeld
                go_wp2
                go_meet
                exact ⟨_, _, _, _, _, _, _, _, _, _, _, _, _, _, rfl, rfl, HD4, HD5, HK, HL, HBc, by omega, by omega⟩
        rotate_left 1
        · (simp only [List.getElem?_toArray, List.getElem?_cons_zero, List.getElem?_cons_succ]; rfl)
        · go_simp
          have hA := recv_below W20 (Obj.cells #[.bool false, .bool false, .int .i64 0, .int .i64 0, .slice none 0 0, .slice none 0 0, .slice none 0 0, .int .i64 0, .bool false, .bool false, .bool false] 58)
          have HZ4 := hide (heap_alloc_new W20 (Obj.cells #[.bool false, .bool false, .int .i64 0, .int .i64 0, .slice none 0 0, .slice none 0 0, .slice none 0 0, .int .i64 0, .bool false, .bool false, .bool false] 58))
          have hg4 : w16.heap.size ≤ W20.heap.size := HBc.out.size
          have hne : W1.heap.size < W20.heap.size := (Array.getElem?_eq_some_iff.1 HZ5.out).1
          replace HBc := hide (HBc.out.trans (hA.mono HBc.out.size))
          replace HK := hide (HK.out.below hA)
          replace HZ5 : Hid ((W20.alloc (Obj.cells #[.bool false, .bool false, .int .i64 0, .int .i64 0, .slice none 0 0, .slice none 0 0, .slice none 0 0, .int .i64 0, .bool false, .bool false, .bool false] 58)).heap[W1.heap.size]? = some (Obj.cells #[.bool false, .bool false, .int .i64 0, .int .i64 0, .slice none 0 0, .slice none 0 0, .slice none 0 0, .int .i64 0, .bool false, .bool false, .bool false] 58)) := hide ((hA.block _ (Array.getElem?_eq_some_iff.1 HZ5.out).1).trans HZ5.out)
          clear hA
          generalize W20.alloc (Obj.cells #[.bool false, .bool false, .int .i64 0, .int .i64 0, .slice none 0 0, .slice none 0 0, .slice none 0 0, .int .i64 0, .bool false, .bool false, .bool false] 58) = W25 at *
          refine hK.out _ _ (⟨HYs.out.below HBc.out, HZs.out.below HBc.out⟩) (fun hHeld2 => ?_)
          clear hK K' hHeld
          have hHeld := hHeld2
          clear hHeld2
          try simp only [Act.put, List.setIfInBounds_toArray, List.set_cons_zero, List.set_cons_succ]
          refine wpAnyH_ready (rs := [3]) (by kernel_rfl) (by simp) ?_
          refine AllReadyH.cons (o := ?_) ?_ (fun K' hK => ?_) AllReadyH.nil
          rotate_left 1
          · (simp only [List.getElem?_toArray, List.getElem?_cons_zero, List.getElem?_cons_succ]; rfl)
          · go_simp
            go_at_call 21
            refine (given_any zs _ _ _ _ _ (HZl.out.below HBc.out) HLz.out.1 HLz.out.2.1 HLz.out.2.2).mono ?_
            rintro _ W26 ⟨o1, i1, b1, rfl, y1, y2, y3, hB, hAp⟩
            obtain ⟨l1, l4, rfl⟩ := owns_slice y1
            obtain ⟨l2, l5, rfl⟩ := owns_slice y2
            obtain ⟨l3, l6, rfl⟩ := owns_slice y3
            have HL : Hid (Own3 w16.heap.size W26 zs (.slice l1 zs.out.length l4) (.slice l2 zs.inn.length l5) (.slice l3 zs.back.length l6)) := hide (Own3.mono ⟨y1, y2, y3, hAp⟩ HBc.out.size)
            replace HBc := hide (HBc.out.trans (hB.mono HBc.out.size))
            replace HK := hide (HK.out.below hB)
            replace HZ4 : Hid (W26.heap[W20.heap.size]? = some (Obj.cells #[.bool false, .bool false, .int .i64 0, .int .i64 0, .slice none 0 0, .slice none 0 0, .slice none 0 0, .int .i64 0, .bool false, .bool false, .bool false] 58)) := hide ((hB.block _ (Array.getElem?_eq_some_iff.1 HZ4.out).1).trans HZ4.out)
            replace HZ5 : Hid (W26.heap[W1.heap.size]? = some (Obj.cells #[.bool false, .bool false, .int .i64 0, .int .i64 0, .slice none 0 0, .slice none 0 0, .slice none 0 0, .int .i64 0, .bool false, .bool false, .bool false] 58)) := hide ((hB.block _ (Array.getElem?_eq_some_iff.1 HZ5.out).1).trans HZ5.out)
            clear hB y1 y2 y3 hAp
            refine hK.out _ _ (⟨HYs.out.below HBc.out, HZs.out.below HBc.out⟩) (fun hHeld2 => ?_)
            clear hK K' hHeld
            have hHeld := hHeld2
            clear hHeld2
            try simp only [Act.put, List.setIfInBounds_toArray, List.set_cons_zero, List.set_cons_succ]
            have pf0 := frozen_of_row W26 W20.heap.size 0 _ _ HZ4.out
            have pf1 := frozen_of_row W26 W20.heap.size 1 _ _ HZ4.out
            have pf2 := frozen_of_row W26 W20.heap.size 2 _ _ HZ4.out
            have pf3 := frozen_of_row W26 W20.heap.size 3 _ _ HZ4.out
            have pf4 := frozen_of_row W26 W20.heap.size 4 _ _ HZ4.out
            have pf5 := frozen_of_row W26 W20.heap.size 5 _ _ HZ4.out
            have pf6 := frozen_of_row W26 W20.heap.size 6 _ _ HZ4.out
            have pf7 := frozen_of_row W26 W20.heap.size 7 _ _ HZ4.out
            have pf8 := frozen_of_row W26 W20.heap.size 8 _ _ HZ4.out
            have pf9 := frozen_of_row W26 W20.heap.size 9 _ _ HZ4.out
            have pf10 := frozen_of_row W26 W20.heap.size 10 _ _ HZ4.out
            have pc0 := cell_of_row W26 W20.heap.size 0 _ _ _ HZ4.out
            have pc1 := cell_of_row W26 W20.heap.size 1 _ _ _ HZ4.out
            have pc2 := cell_of_row W26 W20.heap.size 2 _ _ _ HZ4.out
            have pc3 := cell_of_row W26 W20.heap.size 3 _ _ _ HZ4.out
            have pc4 := cell_of_row W26 W20.heap.size 4 _ _ _ HZ4.out
            have pc5 := cell_of_row W26 W20.heap.size 5 _ _ _ HZ4.out
            have pc6 := cell_of_row W26 W20.heap.size 6 _ _ _ HZ4.out
            have pc7 := cell_of_row W26 W20.heap.size 7 _ _ _ HZ4.out
            have pc8 := cell_of_row W26 W20.heap.size 8 _ _ _ HZ4.out
            have pc9 := cell_of_row W26 W20.heap.size 9 _ _ _ HZ4.out
            have pc10 := cell_of_row W26 W20.heap.size 10 _ _ _ HZ4.out
            simp at pc0 pc1 pc2 pc3 pc4 pc5 pc6 pc7 pc8 pc9 pc10
            refine wpAnyH_ready (rs := [6]) (by kernel_rfl) (by simp) ?_
            refine AllReadyH.cons (o := ?_) ?_ (fun K' hK => ?_) AllReadyH.nil
            rotate_left 1
            · (simp only [List.getElem?_toArray, List.getElem?_cons_zero, List.getElem?_cons_succ]; rfl)
            · obtain ⟨e1, e2⟩ := st_fill W26 W20.heap.size y (.slice k1 y.out.length k4) (.slice k2 y.inn.length k5) (.slice k3 y.back.length k6) HZ4.out
              have HD4 := hide e1
              replace HBc := hide (HBc.out.trans (e2.below (B := w16.heap.size) (fun k e => by have e3 : k = W20.heap.size := e; omega) HBc.out.size))
              replace HK := hide (Own3.past HK.out e2 HZ4.out)
              replace HL := hide (Own3.past HL.out e2 HZ4.out)
              replace HZ5 := hide ((e2.block _ (Array.getElem?_eq_some_iff.1 HZ5.out).1 (by show ¬ _ = W20.heap.size; omega)).trans HZ5.out)
              clear HZ4 e1 e2
              go_simp
              clear pf0 pf1 pf2 pf3 pf4 pf5 pf6 pf7 pf8 pf9 pf10 pc0 pc1 pc2 pc3 pc4 pc5 pc6 pc7 pc8 pc9 pc10
              generalize ((((((((((W26.setCell ⟨W20.heap.size, 0, none⟩ (.bool y.rd)).setCell ⟨W20.heap.size, 1, none⟩ (.bool y.wt)).setCell ⟨W20.heap.size, 2, none⟩ (.int .i64 y.mode)).setCell ⟨W20.heap.size, 3, none⟩ (.int .i64 y.size)).setCell ⟨W20.heap.size, 4, none⟩ (.slice k1 y.out.length k4)).setCell ⟨W20.heap.size, 5, none⟩ (.slice k2 y.inn.length k5)).setCell ⟨W20.heap.size, 6, none⟩ (.slice k3 y.back.length k6)).setCell ⟨W20.heap.size, 7, none⟩ (.int .i64 y.dir)).setCell ⟨W20.heap.size, 8, none⟩ (.bool y.fin)).setCell ⟨W20.heap.size, 9, none⟩ (.bool y.bad)).setCell ⟨W20.heap.size, 10, none⟩ (.bool y.closed) = W27 at *
              refine hK.out _ _ (⟨HYs.out.below HBc.out, HZs.out.below HBc.out⟩) (fun hHeld2 => ?_)
              clear hK K' hHeld
              have hHeld := hHeld2
              clear hHeld2
              try simp only [Act.put, List.setIfInBounds_toArray, List.set_cons_zero, List.set_cons_succ]
              have rf0 := frozen_of_row W27 W1.heap.size 0 _ _ HZ5.out
              have rf1 := frozen_of_row W27 W1.heap.size 1 _ _ HZ5.out
              have rf2 := frozen_of_row W27 W1.heap.size 2 _ _ HZ5.out
              have rf3 := frozen_of_row W27 W1.heap.size 3 _ _ HZ5.out
              have rf4 := frozen_of_row W27 W1.heap.size 4 _ _ HZ5.out
              have rf5 := frozen_of_row W27 W1.heap.size 5 _ _ HZ5.out
              have rf6 := frozen_of_row W27 W1.heap.size 6 _ _ HZ5.out
              have rf7 := frozen_of_row W27 W1.heap.size 7 _ _ HZ5.out
              have rf8 := frozen_of_row W27 W1.heap.size 8 _ _ HZ5.out
              have rf9 := frozen_of_row W27 W1.heap.size 9 _ _ HZ5.out
              have rf10 := frozen_of_row W27 W1.heap.size 10 _ _ HZ5.out
              have rc0 := cell_of_row W27 W1.heap.size 0 _ _ _ HZ5.out
              have rc1 := cell_of_row W27 W1.heap.size 1 _ _ _ HZ5.out
              have rc2 := cell_of_row W27 W1.heap.size 2 _ _ _ HZ5.out
              have rc3 := cell_of_row W27 W1.heap.size 3 _ _ _ HZ5.out
              have rc4 := cell_of_row W27 W1.heap.size 4 _ _ _ HZ5.out
              have rc5 := cell_of_row W27 W1.heap.size 5 _ _ _ HZ5.out
              have rc6 := cell_of_row W27 W1.heap.size 6 _ _ _ HZ5.out
              have rc7 := cell_of_row W27 W1.heap.size 7 _ _ _ HZ5.out
              have rc8 := cell_of_row W27 W1.heap.size 8 _ _ _ HZ5.out
              have rc9 := cell_of_row W27 W1.heap.size 9 _ _ _ HZ5.out
              have rc10 := cell_of_row W27 W1.heap.size 10 _ _ _ HZ5.out
              simp at rc0 rc1 rc2 rc3 rc4 rc5 rc6 rc7 rc8 rc9 rc10
              refine wpAnyH_ready (rs := [7]) (by kernel_rfl) (by simp) ?_
              refine AllReadyH.cons (o := ?_) ?_ (fun K' hK => ?_) AllReadyH.nil
              rotate_left 1
              · (simp only [List.getElem?_toArray, List.getElem?_cons_zero, List.getElem?_cons_succ]; rfl)
              · obtain ⟨e1, e2⟩ := st_fill W27 W1.heap.size zs (.slice l1 zs.out.length l4) (.slice l2 zs.inn.length l5) (.slice l3 zs.back.length l6) HZ5.out
                have HD5 := hide e1
                replace HBc := hide (HBc.out.trans (e2.below (B := w16.heap.size) (fun k e => by have e3 : k = W1.heap.size := e; omega) HBc.out.size))
                replace HK := hide (Own3.past HK.out e2 HZ5.out)
                replace HL := hide (Own3.past HL.out e2 HZ5.out)
                replace HD4 := hide (StAt.turned1 HD4.out e2 (by omega))
                clear HZ5 e1 e2
                go_simp
                clear rf0 rf1 rf2 rf3 rf4 rf5 rf6 rf7 rf8 rf9 rf10 rc0 rc1 rc2 rc3 rc4 rc5 rc6 rc7 rc8 rc9 rc10
                generalize ((((((((((W27.setCell ⟨W1.heap.size, 0, none⟩ (.bool zs.rd)).setCell ⟨W1.heap.size, 1, none⟩ (.bool zs.wt)).setCell ⟨W1.heap.size, 2, none⟩ (.int .i64 zs.mode)).setCell ⟨W1.heap.size, 3, none⟩ (.int .i64 zs.size)).setCell ⟨W1.heap.size, 4, none⟩ (.slice l1 zs.out.length l4)).setCell ⟨W1.heap.size, 5, none⟩ (.slice l2 zs.inn.length l5)).setCell ⟨W1.heap.size, 6, none⟩ (.slice l3 zs.back.length l6)).setCell ⟨W1.heap.size, 7, none⟩ (.int .i64 zs.dir)).setCell ⟨W1.heap.size, 8, none⟩ (.bool zs.fin)).setCell ⟨W1.heap.size, 9, none⟩ (.bool zs.bad)).setCell ⟨W1.heap.size, 10, none⟩ (.bool zs.closed) = W28 at *
                refine hK.out _ _ (⟨HYs.out.below HBc.out, HZs.out.below HBc.out⟩) (fun hHeld2 => ?_)
                clear hK K' hHeld
                have hHeld := hHeld2
                clear hHeld2
                try simp only [Act.put, List.setIfInBounds_toArray, List.set_cons_zero, List.set_cons_succ]
                refine wpAnyH_done (by kernel_rfl) ?_ _
                refine NoPanic.normal ?_
                clear hHeld
                go_wp2
                go_meet
                exact ⟨_, _, _, _, _, _, _, _, _, _, _, _, _, _, rfl, rfl, HD4, HD5, HK, HL, HBc, by omega, by omega⟩
    rotate_left 1
    · (simp only [List.getElem?_toArray, List.getElem?_cons_zero, List.getElem?_cons_succ]; rfl)
    · go_simp
      have hA := recv_below W0 (Obj.cells #[.bool false, .bool false, .int .i64 0, .int .i64 0, .slice none 0 0, .slice none 0 0, .slice none 0 0, .int .i64 0, .bool false, .bool false, .bool false] 58)
      have HZ4 := hide (heap_alloc_new W0 (Obj.cells #[.bool false, .bool false, .int .i64 0, .int .i64 0, .slice none 0 0, .slice none 0 0, .slice none 0 0, .int .i64 0, .bool false, .bool false, .bool false] 58))
      have hg4 : w16.heap.size ≤ W0.heap.size := HBc.out.size
      replace HBc := hide (HBc.out.trans (hA.mono HBc.out.size))
      clear hA
      generalize W0.alloc (Obj.cells #[.bool false, .bool false, .int .i64 0, .int .i64 0, .slice none 0 0, .slice none 0 0, .slice none 0 0, .int .i64 0, .bool false, .bool false, .bool false] 58) = W29 at *
      refine hK.out _ _ (⟨HYs.out.below HBc.out, HZs.out.below HBc.out⟩) (fun hHeld2 => ?_)
      clear hK K' hHeld
      have hHeld := hHeld2
      clear hHeld2
      try simp only [Act.put, List.setIfInBounds_toArray, List.set_cons_zero, List.set_cons_succ]
      refine wpAnyH_ready (rs := [1, 5]) (by kernel_rfl) (by simp) ?_
      refine AllReadyH.cons (o := ?_) ?_ (fun K' hK => ?_) (AllReadyH.cons (o := ?_) ?_ (fun K' hK => ?_) AllReadyH.nil)
      rotate_left 1
      · (simp only [List.getElem?_toArray, List.getElem?_cons_zero, List.getElem?_cons_succ]; rfl)
      · go_simp
        go_at_call 21
        refine (given_any y _ _ _ _ _ (HYl.out.below HBc.out) HLy.out.1 HLy.out.2.1 HLy.out.2.2).mono ?_
        rintro _ W30 ⟨o1, i1, b1, rfl, y1, y2, y3, hB, hAp⟩
        obtain ⟨k1, k4, rfl⟩ := owns_slice y1
        obtain ⟨k2, k5, rfl⟩ := owns_slice y2
        obtain ⟨k3, k6, rfl⟩ := owns_slice y3
        have HK : Hid (Own3 w16.heap.size W30 y (.slice k1 y.out.length k4) (.slice k2 y.inn.length k5) (.slice k3 y.back.length k6)) := hide (Own3.mono ⟨y1, y2, y3, hAp⟩ HBc.out.size)
        replace HBc := hide (HBc.out.trans (hB.mono HBc.out.size))
        replace HZ4 : Hid (W30.heap[W0.heap.size]? = some (Obj.cells #[.bool false, .bool false, .int .i64 0, .int .i64 0, .slice none 0 0, .slice none 0 0, .slice none 0 0, .int .i64 0, .bool false, .bool false, .bool false] 58)) := hide ((hB.block _ (Array.getElem?_eq_some_iff.1 HZ4.out).1).trans HZ4.out)
        clear hB y1 y2 y3 hAp
        refine hK.out _ _ (⟨HYs.out.below HBc.out, HZs.out.below HBc.out⟩) (fun hHeld2 => ?_)
        clear hK K' hHeld
        have hHeld := hHeld2
        clear hHeld2
        try simp only [Act.put, List.setIfInBounds_toArray, List.set_cons_zero, List.set_cons_succ]
        refine wpAnyH_ready (rs := [3, 5]) (by kernel_rfl) (by simp) ?_
        refine AllReadyH.cons (o := ?_) ?_ (fun K' hK => ?_) (AllReadyH.cons (o := ?_) ?_ (fun K' hK => ?_) AllReadyH.nil)
        rotate_left 1
        · (simp only [List.getElem?_toArray, List.getElem?_cons_zero, List.getElem?_cons_succ]; rfl)
        · go_simp
          go_at_call 21
          refine (given_any zs _ _ _ _ _ (HZl.out.below HBc.out) HLz.out.1 HLz.out.2.1 HLz.out.2.2).mono ?_
          rintro _ W31 ⟨o1, i1, b1, rfl, y1, y2, y3, hB, hAp⟩
          obtain ⟨l1, l4, rfl⟩ := owns_slice y1
          obtain ⟨l2, l5, rfl⟩ := owns_slice y2
          obtain ⟨l3, l6, rfl⟩ := owns_slice y3
          have HL : Hid (Own3 w16.heap.size W31 zs (.slice l1 zs.out.length l4) (.slice l2 zs.inn.length l5) (.slice l3 zs.back.length l6)) := hide (Own3.mono ⟨y1, y2, y3, hAp⟩ HBc.out.size)
          replace HBc := hide (HBc.out.trans (hB.mono HBc.out.size))
          replace HK := hide (HK.out.below hB)
          replace HZ4 : Hid (W31.heap[W0.heap.size]? = some (Obj.cells #[.bool false, .bool false, .int .i64 0, .int .i64 0, .slice none 0 0, .slice none 0 0, .slice none 0 0, .int .i64 0, .bool false, .bool false, .bool false] 58)) := hide ((hB.block _ (Array.getElem?_eq_some_iff.1 HZ4.out).1).trans HZ4.out)
          clear hB y1 y2 y3 hAp
          refine hK.out _ _ (⟨HYs.out.below HBc.out, HZs.out.below HBc.out⟩) (fun hHeld2 => ?_)
          clear hK K' hHeld
          have hHeld := hHeld2
          clear hHeld2
          try simp only [Act.put, List.setIfInBounds_toArray, List.set_cons_zero, List.set_cons_succ]
          refine wpAnyH_ready (rs := [5]) (by kernel_rfl) (by simp) ?_
          refine AllReadyH.cons (o := ?_) ?_ (fun K' hK => ?_) AllReadyH.nil
          rotate_left 1
          · (simp only [List.getElem?_toArray, List.getElem?_cons_zero, List.getElem?_cons_succ]; rfl)
          · go_simp
            have hA := recv_below W31 (Obj.cells #[.bool false, .bool false, .int .i64 0, .int .i64 0, .slice none 0 0, .slice none 0 0, .slice none 0 0, .int .i64 0, .bool false, .bool false, .bool false] 58)
            have HZ5 := hide (heap_alloc_new W31 (Obj.cells #[.bool false, .bool false, .int .i64 0, .int .i64 0, .slice none 0 0, .slice none 0 0, .slice none 0 0, .int .i64 0, .bool false, .bool false, .bool false] 58))
            have hg5 : w16.heap.size ≤ W31.heap.size := HBc.out.size
            have hne : W0.heap.size < W31.heap.size := (Array.getElem?_eq_some_iff.1 HZ4.out).1
            replace HBc := hide (HBc.out.trans (hA.mono HBc.out.size))
            replace HK := hide (HK.out.below hA)
            replace HL := hide (HL.out.below hA)
            replace HZ4 : Hid ((W31.alloc (Obj.cells #[.bool false, .bool false, .int .i64 0, .int .i64 0, .slice none 0 0, .slice none 0 0, .slice none 0 0, .int .i64 0, .bool false, .bool false, .bool false] 58)).heap[W0.heap.size]? = some (Obj.cells #[.bool false, .bool false, .int .i64 0, .int .i64 0, .slice none 0 0, .slice none 0 0, .slice none 0 0, .int .i64 0, .bool false, .bool false, .bool false] 58)) := hide ((hA.block _ (Array.getElem?_eq_some_iff.1 HZ4.out).1).trans HZ4.out)
            clear hA
            generalize W31.alloc (Obj.cells #[.bool false, .bool false, .int .i64 0, .int .i64 0, .slice none 0 0, .slice none 0 0, .slice none 0 0, .int .i64 0, .bool false, .bool false, .bool false] 58) = W32 at *
            refine hK.out _ _ (⟨HYs.out.below HBc.out, HZs.out.below HBc.out⟩) (fun hHeld2 => ?_)
            clear hK K' hHeld
            have hHeld := hHeld2
            clear hHeld2
            try simp only [Act.put, List.setIfInBounds_toArray, List.set_cons_zero, List.set_cons_succ]
            have pf0 := frozen_of_row W32 W0.heap.size 0 _ _ HZ4.out
            have pf1 := frozen_of_row W32 W0.heap.size 1 _ _ HZ4.out
            have pf2 := frozen_of_row W32 W0.heap.size 2 _ _ HZ4.out
            have pf3 := frozen_of_row W32 W0.heap.size 3 _ _ HZ4.out
            have pf4 := frozen_of_row W32 W0.heap.size 4 _ _ HZ4.out
            have pf5 := frozen_of_row W32 W0.heap.size 5 _ _ HZ4.out
            have pf6 := frozen_of_row W32 W0.heap.size 6 _ _ HZ4.out
            have pf7 := frozen_of_row W32 W0.heap.size 7 _ _ HZ4.out
            have pf8 := frozen_of_row W32 W0.heap.size 8 _ _ HZ4.out
            have pf9 := frozen_of_row W32 W0.heap.size 9 _ _ HZ4.out
            have pf10 := frozen_of_row W32 W0.heap.size 10 _ _ HZ4.out
            have pc0 := cell_of_row W32 W0.heap.size 0 _ _ _ HZ4.out
            have pc1 := cell_of_row W32 W0.heap.size 1 _ _ _ HZ4.out
            have pc2 := cell_of_row W32 W0.heap.size 2 _ _ _ HZ4.out
            have pc3 := cell_of_row W32 W0.heap.size 3 _ _ _ HZ4.out
            have pc4 := cell_of_row W32 W0.heap.size 4 _ _ _ HZ4.out
            have pc5 := cell_of_row W32 W0.heap.size 5 _ _ _ HZ4.out
            have pc6 := cell_of_row W32 W0.heap.size 6 _ _ _ HZ4.out
            have pc7 := cell_of_row W32 W0.heap.size 7 _ _ _ HZ4.out
            have pc8 := cell_of_row W32 W0.heap.size 8 _ _ _ HZ4.out
            have pc9 := cell_of_row W32 W0.heap.size 9 _ _ _ HZ4.out
            have pc10 := cell_of_row W32 W0.heap.size 10 _ _ _ HZ4.out
            simp at pc0 pc1 pc2 pc3 pc4 pc5 pc6 pc7 pc8 pc9 pc10
            refine wpAnyH_ready (rs := [6]) (by kernel_rfl) (by simp) ?_
            refine AllReadyH.cons (o := ?_) ?_ (fun K' hK => ?_) AllReadyH.nil
            rotate_left 1
            · (simp only [List.getElem?_toArray, List.getElem?_cons_zero, List.getElem?_cons_succ]; rfl)
            · obtain ⟨e1, e2⟩ := st_fill W32 W0.heap.size y (.slice k1 y.out.length k4) (.slice k2 y.inn.length k5) (.slice k3 y.back.length k6) HZ4.out
              have HD4 := hide e1
              replace HBc := hide (HBc.out.trans (e2.below (B := w16.heap.size) (fun k e => by have e3 : k = W0.heap.size := e; omega) HBc.out.size))
              replace HK := hide (Own3.past HK.out e2 HZ4.out)
              replace HL := hide (Own3.past HL.out e2 HZ4.out)
              replace HZ5 := hide ((e2.block _ (Array.getElem?_eq_some_iff.1 HZ5.out).1 (by show ¬ _ = W0.heap.size; omega)).trans HZ5.out)
              clear HZ4 e1 e2
              go_simp
              clear pf0 pf1 pf2 pf3 pf4 pf5 pf6 pf7 pf8 pf9 pf10 pc0 pc1 pc2 pc3 pc4 pc5 pc6 pc7 pc8 pc9 pc10
              generalize ((((((((((W32.setCell ⟨W0.heap.size, 0, none⟩ (.bool y.rd)).setCell ⟨W0.heap.size, 1, none⟩ (.bool y.wt)).setCell ⟨W0.heap.size, 2, none⟩ (.int .i64 y.mode)).setCell ⟨W0.heap.size, 3, none⟩ (.int .i64 y.size)).setCell ⟨W0.heap.size, 4, none⟩ (.slice k1 y.out.length k4)).setCell ⟨W0.heap.size, 5, none⟩ (.slice k2 y.inn.length k5)).setCell ⟨W0.heap.size, 6, none⟩ (.slice k3 y.back.length k6)).setCell ⟨W0.heap.size, 7, none⟩ (.int .i64 y.dir)).setCell ⟨W0.heap.size, 8, none⟩ (.bool y.fin)).setCell ⟨W0.heap.size, 9, none⟩ (.bool y.bad)).setCell ⟨W0.heap.size, 10, none⟩ (.bool y.closed) = W33 at *
              refine hK.out _ _ (⟨HYs.out.below HBc.out, HZs.out.below HBc.out⟩) (fun hHeld2 => ?_)
              clear hK K' hHeld
              have hHeld := hHeld2
              clear hHeld2
              try simp only [Act.put, List.setIfInBounds_toArray, List.set_cons_zero, List.set_cons_succ]
              have rf0 := frozen_of_row W33 W31.heap.size 0 _ _ HZ5.out
              have rf1 := frozen_of_row W33 W31.heap.size 1 _ _ HZ5.out
              have rf2 := frozen_of_row W33 W31.heap.size 2 _ _ HZ5.out
              have rf3 := frozen_of_row W33 W31.heap.size 3 _ _ HZ5.out
              have rf4 := frozen_of_row W33 W31.heap.size 4 _ _ HZ5.out
              have rf5 := frozen_of_row W33 W31.heap.size 5 _ _ HZ5.out
              have rf6 := frozen_of_row W33 W31.heap.size 6 _ _ HZ5.out
              have rf7 := frozen_of_row W33 W31.heap.size 7 _ _ HZ5.out
              have rf8 := frozen_of_row W33 W31.heap.size 8 _ _ HZ5.out
              have rf9 := frozen_of_row W33 W31.heap.size 9 _ _ HZ5.out
              have rf10 := frozen_of_row W33 W31.heap.size 10 _ _ HZ5.out
              have rc0 := cell_of_row W33 W31.heap.size 0 _ _ _ HZ5.out
              have rc1 := cell_of_row W33 W31.heap.size 1 _ _ _ HZ5.out
              have rc2 := cell_of_row W33 W31.heap.size 2 _ _ _ HZ5.out
              have rc3 := cell_of_row W33 W31.heap.size 3 _ _ _ HZ5.out
              have rc4 := cell_of_row W33 W31.heap.size 4 _ _ _ HZ5.out
              have rc5 := cell_of_row W33 W31.heap.size 5 _ _ _ HZ5.out
              have rc6 := cell_of_row W33 W31.heap.size 6 _ _ _ HZ5.out
              have rc7 := cell_of_row W33 W31.heap.size 7 _ _ _ HZ5.out
              have rc8 := cell_of_row W33 W31.heap.size 8 _ _ _ HZ5.out
              have rc9 := cell_of_row W33 W31.heap.size 9 _ _ _ HZ5.out
              have rc10 := cell_of_row W33 W31.heap.size 10 _ _ _ HZ5.out
              simp at rc0 rc1 rc2 rc3 rc4 rc5 rc6 rc7 rc8 rc9 rc10
              refine wpAnyH_ready (rs := [7]) (by kernel_rfl) (by simp) ?_
              refine AllReadyH.cons (o := ?_) ?_ (fun K' hK => ?_) AllReadyH.nil
              rotate_left 1
              · (simp only [List.getElem?_toArray, List.getElem?_cons_zero, List.getElem?_cons_succ]; rfl)
              · obtain ⟨e1, e2⟩ := st_fill W33 W31.heap.size zs (.slice l1 zs.out.length l4) (.slice l2 zs.inn.length l5) (.slice l3 zs.back.length l6) HZ5.out
                have HD5 := hide e1
                replace HBc := hide (HBc.out.trans (e2.below (B := w16.heap.size) (fun k e => by have e3 : k = W31.heap.size := e; omega) HBc.out.size))
                replace HK := hide (Own3.past HK.out e2 HZ5.out)
                replace HL := hide (Own3.past HL.out e2 HZ5.out)
                replace HD4 := hide (StAt.turned1 HD4.out e2 (by omega))
                clear HZ5 e1 e2
                go_simp
                clear rf0 rf1 rf2 rf3 rf4 rf5 rf6 rf7 rf8 rf9 rf10 rc0 rc1 rc2 rc3 rc4 rc5 rc6 rc7 rc8 rc9 rc10
                generalize ((((((((((W33.setCell ⟨W31.heap.size, 0, none⟩ (.bool zs.rd)).setCell ⟨W31.heap.size, 1, none⟩ (.bool zs.wt)).setCell ⟨W31.heap.size, 2, none⟩ (.int .i64 zs.mode)).setCell ⟨W31.heap.size, 3, none⟩ (.int .i64 zs.size)).setCell ⟨W31.heap.size, 4, none⟩ (.slice l1 zs.out.length l4)).setCell ⟨W31.heap.size, 5, none⟩ (.slice l2 zs.inn.length l5)).setCell ⟨W31.heap.size, 6, none⟩ (.slice l3 zs.back.length l6)).setCell ⟨W31.heap.size, 7, none⟩ (.int .i64 zs.dir)).setCell ⟨W31.heap.size, 8, none⟩ (.bool zs.fin)).setCell ⟨W31.heap.size, 9, none⟩ (.bool zs.bad)).setCell ⟨W31.heap.size, 10, none⟩ (.bool zs.closed) = W34 at *
                refine hK.out _ _ (⟨HYs.out.below HBc.out, HZs.out.below HBc.out⟩) (fun hHeld2 => ?_)
                clear hK K' hHeld
                have hHeld := hHeld2
                clear hHeld2
                try simp only [Act.put, List.setIfInBounds_toArray, List.set_cons_zero, List.set_cons_succ]
                refine wpAnyH_done (by kernel_rfl) ?_ _
                refine NoPanic.normal ?_
                clear hHeld
                go_wp2
                go_meet
                exact ⟨_, _, _, _, _, _, _, _, _, _, _, _, _, _, rfl, rfl, HD4, HD5, HK, HL, HBc, by omega, by omega⟩
        rotate_left 1
        · (simp only [List.getElem?_toArray, List.getElem?_cons_zero, List.getElem?_cons_succ]; rfl)
        · go_simp
          have hA := recv_below W30 (Obj.cells #[.bool false, .bool false, .int .i64 0, .int .i64 0, .slice none 0 0, .slice none 0 0, .slice none 0 0, .int .i64 0, .bool false, .bool false, .bool false] 58)
          have HZ5 := hide (heap_alloc_new W30 (Obj.cells #[.bool false, .bool false, .int .i64 0, .int .i64 0, .slice none 0 0, .slice none 0 0, .slice none 0 0, .int .i64 0, .bool false, .bool false, .bool false] 58))
          have hg5 : w16.heap.size ≤ W30.heap.size := HBc.out.size
          have hne : W0.heap.size < W30.heap.size := (Array.getElem?_eq_some_iff.1 HZ4.out).1
          replace HBc := hide (HBc.out.trans (hA.mono HBc.out.size))
          replace HK := hide (HK.out.below hA)
          replace HZ4 : Hid ((W30.alloc (Obj.cells #[.bool false, .bool false, .int .i64 0, .int .i64 0, .slice none 0 0, .slice none 0 0, .slice none 0 0, .int .i64 0, .bool false, .bool false, .bool false] 58)).heap[W0.heap.size]? = some (Obj.cells #[.bool false, .bool false, .int .i64 0, .int .i64 0, .slice none 0 0, .slice none 0 0, .slice none 0 0, .int .i64 0, .bool false, .bool false, .bool false] 58)) := hide ((hA.block _ (Array.getElem?_eq_some_iff.1 HZ4.out).1).trans HZ4.out)
          clear hA
          generalize W30.alloc (Obj.cells #[.bool false, .bool false, .int .i64 0, .int .i64 0, .slice none 0 0, .slice none 0 0, .slice none 0 0, .int .i64 0, .bool false, .bool false, .bool false] 58) = W35 at *
          refine hK.out _ _ (⟨HYs.out.below HBc.out, HZs.out.below HBc.out⟩) (fun hHeld2 => ?_)
          clear hK K' hHeld
          have hHeld := hHeld2
          clear hHeld2
          try simp only [Act.put, List.setIfInBounds_toArray, List.set_cons_zero, List.set_cons_succ]
          refine wpAnyH_ready (rs := [3]) (by kernel_rfl) (by simp) ?_
          refine AllReadyH.cons (o := ?_) ?_ (fun K' hK => ?_) AllReadyH.nil
          rotate_left 1
          · (simp only [List.getElem?_toArray, List.getElem?_cons_zero, List.getElem?_cons_succ]; rfl)
          · go_simp
            go_at_call 21
            refine (given_any zs _ _ _ _ _ (HZl.out.below HBc.out) HLz.out.1 HLz.out.2.1 HLz.out.2.2).mono ?_
            rintro _ W36 ⟨o1, i1, b1, rfl, y1, y2, y3, hB, hAp⟩
            obtain ⟨l1, l4, rfl⟩ := owns_slice y1
            obtain ⟨l2, l5, rfl⟩ := owns_slice y2
            obtain ⟨l3, l6, rfl⟩ := owns_slice y3
            have HL : Hid (Own3 w16.heap.size W36 zs (.slice l1 zs.out.length l4) (.slice l2 zs.inn.length l5) (.slice l3 zs.back.length l6)) := hide (Own3.mono ⟨y1, y2, y3, hAp⟩ HBc.out.size)
            replace HBc := hide (HBc.out.trans (hB.mono HBc.out.size))
            replace HK := hide (HK.out.below hB)
            replace HZ4 : Hid (W36.heap[W0.heap.size]? = some (Obj.cells #[.bool false, .bool false, .int .i64 0, .int .i64 0, .slice none 0 0, .slice none 0 0, .slice none 0 0, .int .i64 0, .bool false, .bool false, .bool false] 58)) := hide ((hB.block _ (Array.getElem?_eq_some_iff.1 HZ4.out).1).trans HZ4.out)
            replace HZ5 : Hid (W36.heap[W30.heap.size]? = some (Obj.cells #[.bool false, .bool false, .int .i64 0, .int .i64 0, .slice none 0 0, .slice none 0 0, .slice none 0 0, .int .i64 0, .bool false, .bool false, .bool false] 58)) := hide ((hB.block _ (Array.getElem?_eq_some_iff.1 HZ5.out).1).trans HZ5.out)
            clear hB y1 y2 y3 hAp
            refine hK.out _ _ (⟨HYs.out.below HBc.out, HZs.out.below HBc.out⟩) (fun hHeld2 => ?_)
            clear hK K' hHeld
            have hHeld := hHeld2
            clear hHeld2
            try simp only [Act.put, List.setIfInBounds_toArray, List.set_cons_zero, List.set_cons_succ]
            have pf0 := frozen_of_row W36 W0.heap.size 0 _ _ HZ4.out
            have pf1 := frozen_of_row W36 W0.heap.size 1 _ _ HZ4.out
            have pf2 := frozen_of_row W36 W0.heap.size 2 _ _ HZ4.out
            have pf3 := frozen_of_row W36 W0.heap.size 3 _ _ HZ4.out
            have pf4 := frozen_of_row W36 W0.heap.size 4 _ _ HZ4.out
            have pf5 := frozen_of_row W36 W0.heap.size 5 _ _ HZ4.out
            have pf6 := frozen_of_row W36 W0.heap.size 6 _ _ HZ4.out
            have pf7 := frozen_of_row W36 W0.heap.size 7 _ _ HZ4.out
            have pf8 := frozen_of_row W36 W0.heap.size 8 _ _ HZ4.out
            have pf9 := frozen_of_row W36 W0.heap.size 9 _ _ HZ4.out
            have pf10 := frozen_of_row W36 W0.heap.size 10 _ _ HZ4.out
            have pc0 := cell_of_row W36 W0.heap.size 0 _ _ _ HZ4.out
            have pc1 := cell_of_row W36 W0.heap.size 1 _ _ _ HZ4.out
            have pc2 := cell_of_row W36 W0.heap.size 2 _ _ _ HZ4.out
            have pc3 := cell_of_row W36 W0.heap.size 3 _ _ _ HZ4.out
            have pc4 := cell_of_row W36 W0.heap.size 4 _ _ _ HZ4.out
            have pc5 := cell_of_row W36 W0.heap.size 5 _ _ _ HZ4.out
            have pc6 := cell_of_row W36 W0.heap.size 6 _ _ _ HZ4.out
            have pc7 := cell_of_row W36 W0.heap.size 7 _ _ _ HZ4.out
            have pc8 := cell_of_row W36 W0.heap.size 8 _ _ _ HZ4.out
            have pc9 := cell_of_row W36 W0.heap.size 9 _ _ _ HZ4.out
            have pc10 := cell_of_row W36 W0.heap.size 10 _ _ _ HZ4.out
            simp at pc0 pc1 pc2 pc3 pc4 pc5 pc6 pc7 pc8 pc9 pc10
            refine wpAnyH_ready (rs := [6]) (by kernel_rfl) (by simp) ?_
            refine AllReadyH.cons (o := ?_) ?_ (fun K' hK => ?_) AllReadyH.nil
            rotate_left 1
            · (simp only [List.getElem?_toArray, List.getElem?_cons_zero, List.getElem?_cons_succ]; rfl)
            · obtain ⟨e1, e2⟩ := st_fill W36 W0.heap.size y (.slice k1 y.out.length k4) (.slice k2 y.inn.length k5) (.slice k3 y.back.length k6) HZ4.out
              have HD4 := hide e1
              replace HBc := hide (HBc.out.trans (e2.below (B := w16.heap.size) (fun k e => by have e3 : k = W0.heap.size := e; omega) HBc.out.size))
              replace HK := hide (Own3.past HK.out e2 HZ4.out)
              replace HL := hide (Own3.past HL.out e2 HZ4.out)
              replace HZ5 := hide ((e2.block _ (Array.getElem?_eq_some_iff.1 HZ5.out).1 (by show ¬ _ = W0.heap.size; omega)).trans HZ5.out)
              clear HZ4 e1 e2
              go_simp
              clear pf0 pf1 pf2 pf3 pf4 pf5 pf6 pf7 pf8 pf9 pf10 pc0 pc1 pc2 pc3 pc4 pc5 pc6 pc7 pc8 pc9 pc10
              generalize ((((((((((W36.setCell ⟨W0.heap.size, 0, none⟩ (.bool y.rd)).setCell ⟨W0.heap.size, 1, none⟩ (.bool y.wt)).setCell ⟨W0.heap.size, 2, none⟩ (.int .i64 y.mode)).setCell ⟨W0.heap.size, 3, none⟩ (.int .i64 y.size)).setCell ⟨W0.heap.size, 4, none⟩ (.slice k1 y.out.length k4)).setCell ⟨W0.heap.size, 5, none⟩ (.slice k2 y.inn.length k5)).setCell ⟨W0.heap.size, 6, none⟩ (.slice k3 y.back.length k6)).setCell ⟨W0.heap.size, 7, none⟩ (.int .i64 y.dir)).setCell ⟨W0.heap.size, 8, none⟩ (.bool y.fin)).setCell ⟨W0.heap.size, 9, none⟩ (.bool y.bad)).setCell ⟨W0.heap.size, 10, none⟩ (.bool y.closed) = W37 at *
              refine hK.out _ _ (⟨HYs.out.below HBc.out, HZs.out.below HBc.out⟩) (fun hHeld2 => ?_)
              clear hK K' hHeld
              have hHeld := hHeld2
              clear hHeld2
              try simp only [Act.put, List.setIfInBounds_toArray, List.set_cons_zero, List.set_cons_succ]
              have rf0 := frozen_of_row W37 W30.heap.size 0 _ _ HZ5.out
              have rf1 := frozen_of_row W37 W30.heap.size 1 _ _ HZ5.out
              have rf2 := frozen_of_row W37 W30.heap.size 2 _ _ HZ5.out
              have rf3 := frozen_of_row W37 W30.heap.size 3 _ _ HZ5.out
              have rf4 := frozen_of_row W37 W30.heap.size 4 _ _ HZ5.out
              have rf5 := frozen_of_row W37 W30.heap.size 5 _ _ HZ5.out
              have rf6 := frozen_of_row W37 W30.heap.size 6 _ _ HZ5.out
              have rf7 := frozen_of_row W37 W30.heap.size 7 _ _ HZ5.out
              have rf8 := frozen_of_row W37 W30.heap.size 8 _ _ HZ5.out
              have rf9 := frozen_of_row W37 W30.heap.size 9 _ _ HZ5.out
              have rf10 := frozen_of_row W37 W30.heap.size 10 _ _ HZ5.out
              have rc0 := cell_of_row W37 W30.heap.size 0 _ _ _ HZ5.out
              have rc1 := cell_of_row W37 W30.heap.size 1 _ _ _ HZ5.out
              have rc2 := cell_of_row W37 W30.heap.size 2 _ _ _ HZ5.out
              have rc3 := cell_of_row W37 W30.heap.size 3 _ _ _ HZ5.out
              have rc4 := cell_of_row W37 W30.heap.size 4 _ _ _ HZ5.out
              have rc5 := cell_of_row W37 W30.heap.size 5 _ _ _ HZ5.out
              have rc6 := cell_of_row W37 W30.heap.size 6 _ _ _ HZ5.out
              have rc7 := cell_of_row W37 W30.heap.size 7 _ _ _ HZ5.out
              have rc8 := cell_of_row W37 W30.heap.size 8 _ _ _ HZ5.out
              have rc9 := cell_of_row W37 W30.heap.size 9 _ _ _ HZ5.out
              have rc10 := cell_of_row W37 W30.heap.size 10 _ _ _ HZ5.out
              simp at rc0 rc1 rc2 rc3 rc4 rc5 rc6 rc7 rc8 rc9 rc10
              refine wpAnyH_ready (rs := [7]) (by kernel_rfl) (by simp) ?_
              refine AllReadyH.cons (o := ?_) ?_ (fun K' hK => ?_) AllReadyH.nil
              rotate_left 1
              · (simp only [List.getElem?_toArray, List.getElem?_cons_zero, List.getElem?_cons_succ]; rfl)
              · obtain ⟨e1, e2⟩ := st_fill W37 W30.heap.size zs (.slice l1 zs.out.length l4) (.slice l2 zs.inn.length l5) (.slice l3 zs.back.length l6) HZ5.out
                have HD5 := hide e1
                replace HBc := hide (HBc.out.trans (e2.below (B := w16.heap.size) (fun k e => by have e3 : k = W30.heap.size := e; omega) HBc.out.size))
                replace HK := hide (Own3.past HK.out e2 HZ5.out)
                replace HL := hide (Own3.past HL.out e2 HZ5.out)
                replace HD4 := hide (StAt.turned1 HD4.out e2 (by omega))
                clear HZ5 e1 e2
                go_simp
                clear rf0 rf1 rf2 rf3 rf4 rf5 rf6 rf7 rf8 rf9 rf10 rc0 rc1 rc2 rc3 rc4 rc5 rc6 rc7 rc8 rc9 rc10
                generalize ((((((((((W37.setCell ⟨W30.heap.size, 0, none⟩ (.bool zs.rd)).setCell ⟨W30.heap.size, 1, none⟩ (.bool zs.wt)).setCell ⟨W30.heap.size, 2, none⟩ (.int .i64 zs.mode)).setCell ⟨W30.heap.size, 3, none⟩ (.int .i64 zs.size)).setCell ⟨W30.heap.size, 4, none⟩ (.slice l1 zs.out.length l4)).setCell ⟨W30.heap.size, 5, none⟩ (.slice l2 zs.inn.length l5)).setCell ⟨W30.heap.size, 6, none⟩ (.slice l3 zs.back.length l6)).setCell ⟨W30.heap.size, 7, none⟩ (.int .i64 zs.dir)).setCell ⟨W30.heap.size, 8, none⟩ (.bool zs.fin)).setCell ⟨W30.heap.size, 9, none⟩ (.bool zs.bad)).setCell ⟨W30.heap.size, 10, none⟩ (.bool zs.closed) = W38 at *
                refine hK.out _ _ (⟨HYs.out.below HBc.out, HZs.out.below HBc.out⟩) (fun hHeld2 => ?_)
                clear hK K' hHeld
                have hHeld := hHeld2
                clear hHeld2
                try simp only [Act.put, List.setIfInBounds_toArray, List.set_cons_zero, List.set_cons_succ]
                refine wpAnyH_done (by kernel_rfl) ?_ _
                refine NoPanic.normal ?_
                clear hHeld
                go_wp2
                go_meet
                exact ⟨_, _, _, _, _, _, _, _, _, _, _, _, _, _, rfl, rfl, HD4, HD5, HK, HL, HBc, by omega, by omega⟩
      rotate_left 1
      · (simp only [List.getElem?_toArray, List.getElem?_cons_zero, List.getElem?_cons_succ]; rfl)
      · go_simp
        have hA := recv_below W29 (Obj.cells #[.bool false, .bool false, .int .i64 0, .int .i64 0, .slice none 0 0, .slice none 0 0, .slice none 0 0, .int .i64 0, .bool false, .bool false, .bool false] 58)
        have HZ5 := hide (heap_alloc_new W29 (Obj.cells #[.bool false, .bool false, .int .i64 0, .int .i64 0, .slice none 0 0, .slice none 0 0, .slice none 0 0, .int .i64 0, .bool false, .bool false, .bool false] 58))
        have hg5 : w16.heap.size ≤ W29.heap.size := HBc.out.size
        have hne : W0.heap.size < W29.heap.size := (Array.getElem?_eq_some_iff.1 HZ4.out).1
        replace HBc := hide (HBc.out.trans (hA.mono HBc.out.size))
        replace HZ4 : Hid ((W29.alloc (Obj.cells #[.bool false, .bool false, .int .i64 0, .int .i64 0, .slice none 0 0, .slice none 0 0, .slice none 0 0, .int .i64 0, .bool false, .bool false, .bool false] 58)).heap[W0.heap.size]? = some (Obj.cells #[.bool false, .bool false, .int .i64 0, .int .i64 0, .slice none 0 0, .slice none 0 0, .slice none 0 0, .int .i64 0, .bool false, .bool false, .bool false] 58)) := hide ((hA.block _ (Array.getElem?_eq_some_iff.1 HZ4.out).1).trans HZ4.out)
        clear hA
        generalize W29.alloc (Obj.cells #[.bool false, .bool false, .int .i64 0, .int .i64 0, .slice none 0 0, .slice none 0 0, .slice none 0 0, .int .i64 0, .bool false, .bool false, .bool false] 58) = W39 at *
        refine hK.out _ _ (⟨HYs.out.below HBc.out, HZs.out.below HBc.out⟩) (fun hHeld2 => ?_)
        clear hK K' hHeld
        have hHeld := hHeld2
        clear hHeld2
        try simp only [Act.put, List.setIfInBounds_toArray, List.set_cons_zero, List.set_cons_succ]
        refine wpAnyH_ready (rs := [1]) (by kernel_rfl) (by simp) ?_
        refine AllReadyH.cons (o := ?_) ?_ (fun K' hK => ?_) AllReadyH.nil
        rotate_left 1
        · (simp only [List.getElem?_toArray, List.getElem?_cons_zero, List.getElem?_cons_succ]; rfl)
        · go_simp
          go_at_call 21
          refine (given_any y _ _ _ _ _ (HYl.out.below HBc.out) HLy.out.1 HLy.out.2.1 HLy.out.2.2).mono ?_
          rintro _ W40 ⟨o1, i1, b1, rfl, y1, y2, y3, hB, hAp⟩
          obtain ⟨k1, k4, rfl⟩ := owns_slice y1
          obtain ⟨k2, k5, rfl⟩ := owns_slice y2
          obtain ⟨k3, k6, rfl⟩ := owns_slice y3
          have HK : Hid (Own3 w16.heap.size W40 y (.slice k1 y.out.length k4) (.slice k2 y.inn.length k5) (.slice k3 y.back.length k6)) := hide (Own3.mono ⟨y1, y2, y3, hAp⟩ HBc.out.size)
          replace HBc := hide (HBc.out.trans (hB.mono HBc.out.size))
          replace HZ4 : Hid (W40.heap[W0.heap.size]? = some (Obj.cells #[.bool false, .bool false, .int .i64 0, .int .i64 0, .slice none 0 0, .slice none 0 0, .slice none 0 0, .int .i64 0, .bool false, .bool false, .bool false] 58)) := hide ((hB.block _ (Array.getElem?_eq_some_iff.1 HZ4.out).1).trans HZ4.out)
          replace HZ5 : Hid (W40.heap[W29.heap.size]? = some (Obj.cells #[.bool false, .bool false, .int .i64 0, .int .i64 0, .slice none 0 0, .slice none 0 0, .slice none 0 0, .int .i64 0, .bool false, .bool false, .bool false] 58)) := hide ((hB.block _ (Array.getElem?_eq_some_iff.1 HZ5.out).1).trans HZ5.out)
          clear hB y1 y2 y3 hAp
          refine hK.out _ _ (⟨HYs.out.below HBc.out, HZs.out.below HBc.out⟩) (fun hHeld2 => ?_)
          clear hK K' hHeld
          have hHeld := hHeld2
          clear hHeld2
          try simp only [Act.put, List.setIfInBounds_toArray, List.set_cons_zero, List.set_cons_succ]
          refine wpAnyH_ready (rs := [3]) (by kernel_rfl) (by simp) ?_
          refine AllReadyH.cons (o := ?_) ?_ (fun K' hK => ?_) AllReadyH.nil
          rotate_left 1
          · (simp only [List.getElem?_toArray, List.getElem?_cons_zero, List.getElem?_cons_succ]; rfl)
          · go_simp
            go_at_call 21
            refine (given_any zs _ _ _ _ _ (HZl.out.below HBc.out) HLz.out.1 HLz.out.2.1 HLz.out.2.2).mono ?_
            rintro _ W41 ⟨o1, i1, b1, rfl, y1, y2, y3, hB, hAp⟩
            obtain ⟨l1, l4, rfl⟩ := owns_slice y1
            obtain ⟨l2, l5, rfl⟩ := owns_slice y2
            obtain ⟨l3, l6, rfl⟩ := owns_slice y3
            have HL : Hid (Own3 w16.heap.size W41 zs (.slice l1 zs.out.length l4) (.slice l2 zs.inn.length l5) (.slice l3 zs.back.length l6)) := hide (Own3.mono ⟨y1, y2, y3, hAp⟩ HBc.out.size)
            replace HBc := hide (HBc.out.trans (hB.mono HBc.out.size))
            replace HK := hide (HK.out.below hB)
            replace HZ4 : Hid (W41.heap[W0.heap.size]? = some (Obj.cells #[.bool false, .bool false, .int .i64 0, .int .i64 0, .slice none 0 0, .slice none 0 0, .slice none 0 0, .int .i64 0, .bool false, .bool false, .bool false] 58)) := hide ((hB.block _ (Array.getElem?_eq_some_iff.1 HZ4.out).1).trans HZ4.out)
            replace HZ5 : Hid (W41.heap[W29.heap.size]? = some (Obj.cells #[.bool false, .bool false, .int .i64 0, .int .i64 0, .slice none 0 0, .slice none 0 0, .slice none 0 0, .int .i64 0, .bool false, .bool false, .bool false] 58)) := hide ((hB.block _ (Array.getElem?_eq_some_iff.1 HZ5.out).1).trans HZ5.out)
            clear hB y1 y2 y3 hAp
            refine hK.out _ _ (⟨HYs.out.below HBc.out, HZs.out.below HBc.out⟩) (fun hHeld2 => ?_)
            clear hK K' hHeld
            have hHeld := hHeld2
            clear hHeld2
            try simp only [Act.put, List.setIfInBounds_toArray, List.set_cons_zero, List.set_cons_succ]
            have pf0 := frozen_of_row W41 W0.heap.size 0 _ _ HZ4.out
            have pf1 := frozen_of_row W41 W0.heap.size 1 _ _ HZ4.out
            have pf2 := frozen_of_row W41 W0.heap.size 2 _ _ HZ4.out
            have pf3 := frozen_of_row W41 W0.heap.size 3 _ _ HZ4.out
            have pf4 := frozen_of_row W41 W0.heap.size 4 _ _ HZ4.out
            have pf5 := frozen_of_row W41 W0.heap.size 5 _ _ HZ4.out
            have pf6 := frozen_of_row W41 W0.heap.size 6 _ _ HZ4.out
            have pf7 := frozen_of_row W41 W0.heap.size 7 _ _ HZ4.out
            have pf8 := frozen_of_row W41 W0.heap.size 8 _ _ HZ4.out
            have pf9 := frozen_of_row W41 W0.heap.size 9 _ _ HZ4.out
            have pf10 := frozen_of_row W41 W0.heap.size 10 _ _ HZ4.out
            have pc0 := cell_of_row W41 W0.heap.size 0 _ _ _ HZ4.out
            have pc1 := cell_of_row W41 W0.heap.size 1 _ _ _ HZ4.out
            have pc2 := cell_of_row W41 W0.heap.size 2 _ _ _ HZ4.out
            have pc3 := cell_of_row W41 W0.heap.size 3 _ _ _ HZ4.out
            have pc4 := cell_of_row W41 W0.heap.size 4 _ _ _ HZ4.out
            have pc5 := cell_of_row W41 W0.heap.size 5 _ _ _ HZ4.out
            have pc6 := cell_of_row W41 W0.heap.size 6 _ _ _ HZ4.out
            have pc7 := cell_of_row W41 W0.heap.size 7 _ _ _ HZ4.out
            have pc8 := cell_of_row W41 W0.heap.size 8 _ _ _ HZ4.out
            have pc9 := cell_of_row W41 W0.heap.size 9 _ _ _ HZ4.out
            have pc10 := cell_of_row W41 W0.heap.size 10 _ _ _ HZ4.out
            simp at pc0 pc1 pc2 pc3 pc4 pc5 pc6 pc7 pc8 pc9 pc10
            refine wpAnyH_ready (rs := [6]) (by kernel_rfl) (by simp) ?_
            refine AllReadyH.cons (o := ?_) ?_ (fun K' hK => ?_) AllReadyH.nil
            rotate_left 1
            · (simp only [List.getElem?_toArray, List.getElem?_cons_zero, List.getElem?_cons_succ]; rfl)
            · obtain ⟨e1, e2⟩ := st_fill W41 W0.heap.size y (.slice k1 y.out.length k4) (.slice k2 y.inn.length k5) (.slice k3 y.back.length k6) HZ4.out
              have HD4 := hide e1
              replace HBc := hide (HBc.out.trans (e2.below (B := w16.heap.size) (fun k e => by have e3 : k = W0.heap.size := e; omega) HBc.out.size))
              replace HK := hide (Own3.past HK.out e2 HZ4.out)
              replace HL := hide (Own3.past HL.out e2 HZ4.out)
              replace HZ5 := hide ((e2.block _ (Array.getElem?_eq_some_iff.1 HZ5.out).1 (by show ¬ _ = W0.heap.size; omega)).trans HZ5.out)
              clear HZ4 e1 e2
              go_simp
              clear pf0 pf1 pf2 pf3 pf4 pf5 pf6 pf7 pf8 pf9 pf10 pc0 pc1 pc2 pc3 pc4 pc5 pc6 pc7 pc8 pc9 pc10
              generalize ((((((((((W41.setCell ⟨W0.heap.size, 0, none⟩ (.bool y.rd)).setCell ⟨W0.heap.size, 1, none⟩ (.bool y.wt)).setCell ⟨W0.heap.size, 2, none⟩ (.int .i64 y.mode)).setCell ⟨W0.heap.size, 3, none⟩ (.int .i64 y.size)).setCell ⟨W0.heap.size, 4, none⟩ (.slice k1 y.out.length k4)).setCell ⟨W0.heap.size, 5, none⟩ (.slice k2 y.inn.length k5)).setCell ⟨W0.heap.size, 6, none⟩ (.slice k3 y.back.length k6)).setCell ⟨W0.heap.size, 7, none⟩ (.int .i64 y.dir)).setCell ⟨W0.heap.size, 8, none⟩ (.bool y.fin)).setCell ⟨W0.heap.size, 9, none⟩ (.bool y.bad)).setCell ⟨W0.heap.size, 10, none⟩ (.bool y.closed) = W42 at *
              refine hK.out _ _ (⟨HYs.out.below HBc.out, HZs.out.below HBc.out⟩) (fun hHeld2 => ?_)
              clear hK K' hHeld
              have hHeld := hHeld2
              clear hHeld2
              try simp only [Act.put, List.setIfInBounds_toArray, List.set_cons_zero, List.set_cons_succ]
              have rf0 := frozen_of_row W42 W29.heap.size 0 _ _ HZ5.out
              have rf1 := frozen_of_row W42 W29.heap.size 1 _ _ HZ5.out
              have rf2 := frozen_of_row W42 W29.heap.size 2 _ _ HZ5.out
              have rf3 := frozen_of_row W42 W29.heap.size 3 _ _ HZ5.out
              have rf4 := frozen_of_row W42 W29.heap.size 4 _ _ HZ5.out
              have rf5 := frozen_of_row W42 W29.heap.size 5 _ _ HZ5.out
              have rf6 := frozen_of_row W42 W29.heap.size 6 _ _ HZ5.out
              have rf7 := frozen_of_row W42 W29.heap.size 7 _ _ HZ5.out
              have rf8 := frozen_of_row W42 W29.heap.size 8 _ _ HZ5.out
              have rf9 := frozen_of_row W42 W29.heap.size 9 _ _ HZ5.out
              have rf10 := frozen_of_row W42 W29.heap.size 10 _ _ HZ5.out
              have rc0 := cell_of_row W42 W29.heap.size 0 _ _ _ HZ5.out
              have rc1 := cell_of_row W42 W29.heap.size 1 _ _ _ HZ5.out
              have rc2 := cell_of_row W42 W29.heap.size 2 _ _ _ HZ5.out
              have rc3 := cell_of_row W42 W29.heap.size 3 _ _ _ HZ5.out
              have rc4 := cell_of_row W42 W29.heap.size 4 _ _ _ HZ5.out
              have rc5 := cell_of_row W42 W29.heap.size 5 _ _ _ HZ5.out
              have rc6 := cell_of_row W42 W29.heap.size 6 _ _ _ HZ5.out
              have rc7 := cell_of_row W42 W29.heap.size 7 _ _ _ HZ5.out
              have rc8 := cell_of_row W42 W29.heap.size 8 _ _ _ HZ5.out
              have rc9 := cell_of_row W42 W29.heap.size 9 _ _ _ HZ5.out
              have rc10 := cell_of_row W42 W29.heap.size 10 _ _ _ HZ5.out
              simp at rc0 rc1 rc2 rc3 rc4 rc5 rc6 rc7 rc8 rc9 rc10
              refine wpAnyH_ready (rs := [7]) (by kernel_rfl) (by simp) ?_
              refine AllReadyH.cons (o := ?_) ?_ (fun K' hK => ?_) AllReadyH.nil
              rotate_left 1
              · (simp only [List.getElem?_toArray, List.getElem?_cons_zero, List.getElem?_cons_succ]; rfl)
              · obtain ⟨e1, e2⟩ := st_fill W42 W29.heap.size zs (.slice l1 zs.out.length l4) (.slice l2 zs.inn.length l5) (.slice l3 zs.back.length l6) HZ5.out
                have HD5 := hide e1
                replace HBc := hide (HBc.out.trans (e2.below (B := w16.heap.size) (fun k e => by have e3 : k = W29.heap.size := e; omega) HBc.out.size))
                replace HK := hide (Own3.past HK.out e2 HZ5.out)
                replace HL := hide (Own3.past HL.out e2 HZ5.out)
                replace HD4 := hide (StAt.turned1 HD4.out e2 (by omega))
                clear HZ5 e1 e2
                go_simp
                clear rf0 rf1 rf2 rf3 rf4 rf5 rf6 rf7 rf8 rf9 rf10 rc0 rc1 rc2 rc3 rc4 rc5 rc6 rc7 rc8 rc9 rc10
                generalize ((((((((((W42.setCell ⟨W29.heap.size, 0, none⟩ (.bool zs.rd)).setCell ⟨W29.heap.size, 1, none⟩ (.bool zs.wt)).setCell ⟨W29.heap.size, 2, none⟩ (.int .i64 zs.mode)).setCell ⟨W29.heap.size, 3, none⟩ (.int .i64 zs.size)).setCell ⟨W29.heap.size, 4, none⟩ (.slice l1 zs.out.length l4)).setCell ⟨W29.heap.size, 5, none⟩ (.slice l2 zs.inn.length l5)).setCell ⟨W29.heap.size, 6, none⟩ (.slice l3 zs.back.length l6)).setCell ⟨W29.heap.size, 7, none⟩ (.int .i64 zs.dir)).setCell ⟨W29.heap.size, 8, none⟩ (.bool zs.fin)).setCell ⟨W29.heap.size, 9, none⟩ (.bool zs.bad)).setCell ⟨W29.heap.size, 10, none⟩ (.bool zs.closed) = W43 at *
                refine hK.out _ _ (⟨HYs.out.below HBc.out, HZs.out.below HBc.out⟩) (fun hHeld2 => ?_)
                clear hK K' hHeld
                have hHeld := hHeld2
                clear hHeld2
                try simp only [Act.put, List.setIfInBounds_toArray, List.set_cons_zero, List.set_cons_succ]
                refine wpAnyH_done (by kernel_rfl) ?_ _
                refine NoPanic.normal ?_
                clear hHeld
                go_wp2
                go_meet
                exact ⟨_, _, _, _, _, _, _, _, _, _, _, _, _, _, rfl, rfl, HD4, HD5, HK, HL, HBc, by omega, by omega⟩
    rotate_left 1
    · (simp only [List.getElem?_toArray, List.getElem?_cons_zero, List.getElem?_cons_succ]; rfl)
    · go_simp
      have hA := recv_below W0 (Obj.cells #[.bool false, .bool false, .int .i64 0, .int .i64 0, .slice none 0 0, .slice none 0 0, .slice none 0 0, .int .i64 0, .bool false, .bool false, .bool false] 58)
      have HZ5 := hide (heap_alloc_new W0 (Obj.cells #[.bool false, .bool false, .int .i64 0, .int .i64 0, .slice none 0 0, .slice none 0 0, .slice none 0 0, .int .i64 0, .bool false, .bool false, .bool false] 58))
      have hg5 : w16.heap.size ≤ W0.heap.size := HBc.out.size
      replace HBc := hide (HBc.out.trans (hA.mono HBc.out.size))
      clear hA
      generalize W0.alloc (Obj.cells #[.bool false, .bool false, .int .i64 0, .int .i64 0, .slice none 0 0, .slice none 0 0, .slice none 0 0, .int .i64 0, .bool false, .bool false, .bool false] 58) = W44 at *
      refine hK.out _ _ (⟨HYs.out.below HBc.out, HZs.out.below HBc.out⟩) (fun hHeld2 => ?_)
      clear hK K' hHeld
      have hHeld := hHeld2
      clear hHeld2
      try simp only [Act.put, List.setIfInBounds_toArray, List.set_cons_zero, List.set_cons_succ]
      refine wpAnyH_ready (rs := [1, 4]) (by kernel_rfl) (by simp) ?_
      refine AllReadyH.cons (o := ?_) ?_ (fun K' hK => ?_) (AllReadyH.cons (o := ?_) ?_ (fun K' hK => ?_) AllReadyH.nil)
      rotate_left 1
      · (simp only [List.getElem?_toArray, List.getElem?_cons_zero, List.getElem?_cons_succ]; rfl)
      · go_simp
        go_at_call 21
        refine (given_any y _ _ _ _ _ (HYl.out.below HBc.out) HLy.out.1 HLy.out.2.1 HLy.out.2.2).mono ?_
        rintro _ W45 ⟨o1, i1, b1, rfl, y1, y2, y3, hB, hAp⟩
        obtain ⟨k1, k4, rfl⟩ := owns_slice y1
        obtain ⟨k2, k5, rfl⟩ := owns_slice y2
        obtain ⟨k3, k6, rfl⟩ := owns_slice y3
        have HK : Hid (Own3 w16.heap.size W45 y (.slice k1 y.out.length k4) (.slice k2 y.inn.length k5) (.slice k3 y.back.length k6)) := hide (Own3.mono ⟨y1, y2, y3, hAp⟩ HBc.out.size)
        replace HBc := hide (HBc.out.trans (hB.mono HBc.out.size))
        replace HZ5 : Hid (W45.heap[W0.heap.size]? = some (Obj.cells #[.bool false, .bool false, .int .i64 0, .int .i64 0, .slice none 0 0, .slice none 0 0, .slice none 0 0, .int .i64 0, .bool false, .bool false, .bool false] 58)) := hide ((hB.block _ (Array.getElem?_eq_some_iff.1 HZ5.out).1).trans HZ5.out)
        clear hB y1 y2 y3 hAp
        refine hK.out _ _ (⟨HYs.out.below HBc.out, HZs.out.below HBc.out⟩) (fun hHeld2 => ?_)
        clear hK K' hHeld
        have hHeld := hHeld2
        clear hHeld2
        try simp only [Act.put, List.setIfInBounds_toArray, List.set_cons_zero, List.set_cons_succ]
        refine wpAnyH_ready (rs := [3, 4]) (by kernel_rfl) (by simp) ?_
        refine AllReadyH.cons (o := ?_) ?_ (fun K' hK => ?_) (AllReadyH.cons (o := ?_) ?_ (fun K' hK => ?_) AllReadyH.nil)
        rotate_left 1
        · (simp only [List.getElem?_toArray, List.getElem?_cons_zero, List.getElem?_cons_succ]; rfl)
        · go_simp
          go_at_call 21
          refine (given_any zs _ _ _ _ _ (HZl.out.below HBc.out) HLz.out.1 HLz.out.2.1 HLz.out.2.2).mono ?_
          rintro _ W46 ⟨o1, i1, b1, rfl, y1, y2, y3, hB, hAp⟩
          obtain ⟨l1, l4, rfl⟩ := owns_slice y1
          obtain ⟨l2, l5, rfl⟩ := owns_slice y2
          obtain ⟨l3, l6, rfl⟩ := owns_slice y3
          have HL : Hid (Own3 w16.heap.size W46 zs (.slice l1 zs.out.length l4) (.slice l2 zs.inn.length l5) (.slice l3 zs.back.length l6)) := hide (Own3.mono ⟨y1, y2, y3, hAp⟩ HBc.out.size)
          replace HBc := hide (HBc.out.trans (hB.mono HBc.out.size))
          replace HK := hide (HK.out.below hB)
          replace HZ5 : Hid (W46.heap[W0.heap.size]? = some (Obj.cells #[.bool false, .bool false, .int .i64 0, .int .i64 0, .slice none 0 0, .slice none 0 0, .slice none 0 0, .int .i64 0, .bool false, .bool false, .bool false] 58)) := hide ((hB.block _ (Array.getElem?_eq_some_iff.1 HZ5.out).1).trans HZ5.out)
          clear hB y1 y2 y3 hAp
          refine hK.out _ _ (⟨HYs.out.below HBc.out, HZs.out.below HBc.out⟩) (fun hHeld2 => ?_)
          clear hK K' hHeld
          have hHeld := hHeld2
          clear hHeld2
          try simp only [Act.put, List.setIfInBounds_toArray, List.set_cons_zero, List.set_cons_succ]
          refine wpAnyH_ready (rs := [4]) (by kernel_rfl) (by simp) ?_
          refine AllReadyH.cons (o := ?_) ?_ (fun K' hK => ?_) AllReadyH.nil
          rotate_left 1
          · (simp only [List.getElem?_toArray, List.getElem?_cons_zero, List.getElem?_cons_succ]; rfl)
          · go_simp
            have hA := recv_below W46 (Obj.cells #[.bool false, .bool false, .int .i64 0, .int .i64 0, .slice none 0 0, .slice none 0 0, .slice none 0 0, .int .i64 0, .bool false, .bool false, .bool false] 58)
            have HZ4 := hide (heap_alloc_new W46 (Obj.cells #[.bool false, .bool false, .int .i64 0, .int .i64 0, .slice none 0 0, .slice none 0 0, .slice none 0 0, .int .i64 0, .bool false, .bool false, .bool false] 58))
            have hg4 : w16.heap.size ≤ W46.heap.size := HBc.out.size
            have hne : W0.heap.size < W46.heap.size := (Array.getElem?_eq_some_iff.1 HZ5.out).1
            replace HBc := hide (HBc.out.trans (hA.mono HBc.out.size))
            replace HK := hide (HK.out.below hA)
            replace HL := hide (HL.out.below hA)
            replace HZ5 : Hid ((W46.alloc (Obj.cells #[.bool false, .bool false, .int .i64 0, .int .i64 0, .slice none 0 0, .slice none 0 0, .slice none 0 0, .int .i64 0, .bool false, .bool false, .bool false] 58)).heap[W0.heap.size]? = some (Obj.cells #[.bool false, .bool false, .int .i64 0, .int .i64 0, .slice none 0 0, .slice none 0 0, .slice none 0 0, .int .i64 0, .bool false, .bool false, .bool false] 58)) := hide ((hA.block _ (Array.getElem?_eq_some_iff.1 HZ5.out).1).trans HZ5.out)
            clear hA
            generalize W46.alloc (Obj.cells #[.bool false, .bool false, .int .i64 0, .int .i64 0, .slice none 0 0, .slice none 0 0, .slice none 0 0, .int .i64 0, .bool false, .bool false, .bool false] 58) = W47 at *
            refine hK.out _ _ (⟨HYs.out.below HBc.out, HZs.out.below HBc.out⟩) (fun hHeld2 => ?_)
            clear hK K' hHeld
            have hHeld := hHeld2
            clear hHeld2
            try simp only [Act.put, List.setIfInBounds_toArray, List.set_cons_zero, List.set_cons_succ]
            have pf0 := frozen_of_row W47 W46.heap.size 0 _ _ HZ4.out
            have pf1 := frozen_of_row W47 W46.heap.size 1 _ _ HZ4.out
            have pf2 := frozen_of_row W47 W46.heap.size 2 _ _ HZ4.out
            have pf3 := frozen_of_row W47 W46.heap.size 3 _ _ HZ4.out
            have pf4 := frozen_of_row W47 W46.heap.size 4 _ _ HZ4.out
            have pf5 := frozen_of_row W47 W46.heap.size 5 _ _ HZ4.out
            have pf6 := frozen_of_row W47 W46.heap.size 6 _ _ HZ4.out
            have pf7 := frozen_of_row W47 W46.heap.size 7 _ _ HZ4.out
            have pf8 := frozen_of_row W47 W46.heap.size 8 _ _ HZ4.out
            have pf9 := frozen_of_row W47 W46.heap.size 9 _ _ HZ4.out
            have pf10 := frozen_of_row W47 W46.heap.size 10 _ _ HZ4.out
            have pc0 := cell_of_row W47 W46.heap.size 0 _ _ _ HZ4.out
            have pc1 := cell_of_row W47 W46.heap.size 1 _ _ _ HZ4.out
            have pc2 := cell_of_row W47 W46.heap.size 2 _ _ _ HZ4.out
            have pc3 := cell_of_row W47 W46.heap.size 3 _ _ _ HZ4.out
            have pc4 := cell_of_row W47 W46.heap.size 4 _ _ _ HZ4.out
            have pc5 := cell_of_row W47 W46.heap.size 5 _ _ _ HZ4.out
            have pc6 := cell_of_row W47 W46.heap.size 6 _ _ _ HZ4.out
            have pc7 := cell_of_row W47 W46.heap.size 7 _ _ _ HZ4.out
            have pc8 := cell_of_row W47 W46.heap.size 8 _ _ _ HZ4.out
            have pc9 := cell_of_row W47 W46.heap.size 9 _ _ _ HZ4.out
            have pc10 := cell_of_row W47 W46.heap.size 10 _ _ _ HZ4.out
            simp at pc0 pc1 pc2 pc3 pc4 pc5 pc6 pc7 pc8 pc9 pc10
            refine wpAnyH_ready (rs := [6]) (by kernel_rfl) (by simp) ?_
            refine AllReadyH.cons (o := ?_) ?_ (fun K' hK => ?_) AllReadyH.nil
            rotate_left 1
            · (simp only [List.getElem?_toArray, List.getElem?_cons_zero, List.getElem?_cons_succ]; rfl)
            · obtain ⟨e1, e2⟩ := st_fill W47 W46.heap.size y (.slice k1 y.out.length k4) (.slice k2 y.inn.length k5) (.slice k3 y.back.length k6) HZ4.out
              have HD4 := hide e1
              replace HBc := hide (HBc.out.trans (e2.below (B := w16.heap.size) (fun k e => by have e3 : k = W46.heap.size := e; omega) HBc.out.size))
              replace HK := hide (Own3.past HK.out e2 HZ4.out)
              replace HL := hide (Own3.past HL.out e2 HZ4.out)
              replace HZ5 := hide ((e2.block _ (Array.getElem?_eq_some_iff.1 HZ5.out).1 (by show ¬ _ = W46.heap.size; omega)).trans HZ5.out)
              clear HZ4 e1 e2
              go_simp
              clear pf0 pf1 pf2 pf3 pf4 pf5 pf6 pf7 pf8 pf9 pf10 pc0 pc1 pc2 pc3 pc4 pc5 pc6 pc7 pc8 pc9 pc10
              generalize ((((((((((W47.setCell ⟨W46.heap.size, 0, none⟩ (.bool y.rd)).setCell ⟨W46.heap.size, 1, none⟩ (.bool y.wt)).setCell ⟨W46.heap.size, 2, none⟩ (.int .i64 y.mode)).setCell ⟨W46.heap.size, 3, none⟩ (.int .i64 y.size)).setCell ⟨W46.heap.size, 4, none⟩ (.slice k1 y.out.length k4)).setCell ⟨W46.heap.size, 5, none⟩ (.slice k2 y.inn.length k5)).setCell ⟨W46.heap.size, 6, none⟩ (.slice k3 y.back.length k6)).setCell ⟨W46.heap.size, 7, none⟩ (.int .i64 y.dir)).setCell ⟨W46.heap.size, 8, none⟩ (.bool y.fin)).setCell ⟨W46.heap.size, 9, none⟩ (.bool y.bad)).setCell ⟨W46.heap.size, 10, none⟩ (.bool y.closed) = W48 at *
              refine hK.out _ _ (⟨HYs.out.below HBc.out, HZs.out.below HBc.out⟩) (fun hHeld2 => ?_)
              clear hK K' hHeld
              have hHeld := hHeld2
              clear hHeld2
              try simp only [Act.put, List.setIfInBounds_toArray, List.set_cons_zero, List.set_cons_succ]
              have rf0 := frozen_of_row W48 W0.heap.size 0 _ _ HZ5.out
              have rf1 := frozen_of_row W48 W0.heap.size 1 _ _ HZ5.out
              have rf2 := frozen_of_row W48 W0.heap.size 2 _ _ HZ5.out
              have rf3 := frozen_of_row W48 W0.heap.size 3 _ _ HZ5.out
              have rf4 := frozen_of_row W48 W0.heap.size 4 _ _ HZ5.out
              have rf5 := frozen_of_row W48 W0.heap.size 5 _ _ HZ5.out
              have rf6 := frozen_of_row W48 W0.heap.size 6 _ _ HZ5.out
              have rf7 := frozen_of_row W48 W0.heap.size 7 _ _ HZ5.out
              have rf8 := frozen_of_row W48 W0.heap.size 8 _ _ HZ5.out
              have rf9 := frozen_of_row W48 W0.heap.size 9 _ _ HZ5.out
              have rf10 := frozen_of_row W48 W0.heap.size 10 _ _ HZ5.out
              have rc0 := cell_of_row W48 W0.heap.size 0 _ _ _ HZ5.out
              have rc1 := cell_of_row W48 W0.heap.size 1 _ _ _ HZ5.out
              have rc2 := cell_of_row W48 W0.heap.size 2 _ _ _ HZ5.out
              have rc3 := cell_of_row W48 W0.heap.size 3 _ _ _ HZ5.out
              have rc4 := cell_of_row W48 W0.heap.size 4 _ _ _ HZ5.out
              have rc5 := cell_of_row W48 W0.heap.size 5 _ _ _ HZ5.out
              have rc6 := cell_of_row W48 W0.heap.size 6 _ _ _ HZ5.out
              have rc7 := cell_of_row W48 W0.heap.size 7 _ _ _ HZ5.out
              have rc8 := cell_of_row W48 W0.heap.size 8 _ _ _ HZ5.out
              have rc9 := cell_of_row W48 W0.heap.size 9 _ _ _ HZ5.out
              have rc10 := cell_of_row W48 W0.heap.size 10 _ _ _ HZ5.out
              simp at rc0 rc1 rc2 rc3 rc4 rc5 rc6 rc7 rc8 rc9 rc10
              refine wpAnyH_ready (rs := [7]) (by kernel_rfl) (by simp) ?_
              refine AllReadyH.cons (o := ?_) ?_ (fun K' hK => ?_) AllReadyH.nil
              rotate_left 1
              · (simp only [List.getElem?_toArray, List.getElem?_cons_zero, List.getElem?_cons_succ]; rfl)
              · obtain ⟨e1, e2⟩ := st_fill W48 W0.heap.size zs (.slice l1 zs.out.length l4) (.slice l2 zs.inn.length l5) (.slice l3 zs.back.length l6) HZ5.out
                have HD5 := hide e1
                replace HBc := hide (HBc.out.trans (e2.below (B := w16.heap.size) (fun k e => by have e3 : k = W0.heap.size := e; omega) HBc.out.size))
                replace HK := hide (Own3.past HK.out e2 HZ5.out)
                replace HL := hide (Own3.past HL.out e2 HZ5.out)
                replace HD4 := hide (StAt.turned1 HD4.out e2 (by omega))
                clear HZ5 e1 e2
                go_simp
                clear rf0 rf1 rf2 rf3 rf4 rf5 rf6 rf7 rf8 rf9 rf10 rc0 rc1 rc2 rc3 rc4 rc5 rc6 rc7 rc8 rc9 rc10
                generalize ((((((((((W48.setCell ⟨W0.heap.size, 0, none⟩ (.bool zs.rd)).setCell ⟨W0.heap.size, 1, none⟩ (.bool zs.wt)).setCell ⟨W0.heap.size, 2, none⟩ (.int .i64 zs.mode)).setCell ⟨W0.heap.size, 3, none⟩ (.int .i64 zs.size)).setCell ⟨W0.heap.size, 4, none⟩ (.slice l1 zs.out.length l4)).setCell ⟨W0.heap.size, 5, none⟩ (.slice l2 zs.inn.length l5)).setCell ⟨W0.heap.size, 6, none⟩ (.slice l3 zs.back.length l6)).setCell ⟨W0.heap.size, 7, none⟩ (.int .i64 zs.dir)).setCell ⟨W0.heap.size, 8, none⟩ (.bool zs.fin)).setCell ⟨W0.heap.size, 9, none⟩ (.bool zs.bad)).setCell ⟨W0.heap.size, 10, none⟩ (.bool zs.closed) = W49 at *
                refine hK.out _ _ (⟨HYs.out.below HBc.out, HZs.out.below HBc.out⟩) (fun hHeld2 => ?_)
                clear hK K' hHeld
                have hHeld := hHeld2
                clear hHeld2
                try simp only [Act.put, List.setIfInBounds_toArray, List.set_cons_zero, List.set_cons_succ]
                refine wpAnyH_done (by kernel_rfl) ?_ _
                refine NoPanic.normal ?_
                clear hHeld
                go_wp2
                go_meet
                exact ⟨_, _, _, _, _, _, _, _, _, _, _, _, _, _, rfl, rfl, HD4, HD5, HK, HL, HBc, by omega, by omega⟩
        rotate_left 1
        · (simp only [List.getElem?_toArray, List.getElem?_cons_zero, List.getElem?_cons_succ]; rfl)
        · go_simp
          have hA := recv_below W45 (Obj.cells #[.bool false, .bool false, .int .i64 0, .int .i64 0, .slice none 0 0, .slice none 0 0, .slice none 0 0, .int .i64 0, .bool false, .bool false, .bool false] 58)
          have HZ4 := hide (heap_alloc_new W45 (Obj.cells #[.bool false, .bool false, .int .i64 0, .int .i64 0, .slice none 0 0, .slice none 0 0, .slice none 0 0, .int .i64 0, .bool false, .bool false, .bool false] 58))
          have hg4 : w16.heap.size ≤ W45.heap.size := HBc.out.size
          have hne : W0.heap.size < W45.heap.size := (Array.getElem?_eq_some_iff.1 HZ5.out).1
          replace HBc := hide (HBc.out.trans (hA.mono HBc.out.size))
          replace HK := hide (HK.out.below hA)
          replace HZ5 : Hid ((W45.alloc (Obj.cells #[.bool false, .bool false, .int .i64 0, .int .i64 0, .slice none 0 0, .slice none 0 0, .slice none 0 0, .int .i64 0, .bool false, .bool false, .bool false] 58)).heap[W0.heap.size]? = some (Obj.cells #[.bool false, .bool false, .int .i64 0, .int .i64 0, .slice none 0 0, .slice none 0 0, .slice none 0 0, .int .i64 0, .bool false, .bool false, .bool false] 58)) := hide ((hA.block _ (Array.getElem?_eq_some_iff.1 HZ5.out).1).trans HZ5.out)
          clear hA
          generalize W45.alloc (Obj.cells #[.bool false, .bool false, .int .i64 0, .int .i64 0, .slice none 0 0, .slice none 0 0, .slice none 0 0, .int .i64 0, .bool false, .bool false, .bool false] 58) = W50 at *
          refine hK.out _ _ (⟨HYs.out.below HBc.out, HZs.out.below HBc.out⟩) (fun hHeld2 => ?_)
          clear hK K' hHeld
          have hHeld := hHeld2
          clear hHeld2
          try simp only [Act.put, List.setIfInBounds_toArray, List.set_cons_zero, List.set_cons_succ]
          refine wpAnyH_ready (rs := [3]) (by kernel_rfl) (by simp) ?_
          refine AllReadyH.cons (o := ?_) ?_ (fun K' hK => ?_) AllReadyH.nil
          rotate_left 1
          · (simp only [List.getElem?_toArray, List.getElem?_cons_zero, List.getElem?_cons_succ]; rfl)
          · go_simp
            go_at_call 21
            refine (given_any zs _ _ _ _ _ (HZl.out.below HBc.out) HLz.out.1 HLz.out.2.1 HLz.out.2.2).mono ?_
            rintro _ W51 ⟨o1, i1, b1, rfl, y1, y2, y3, hB, hAp⟩
            obtain ⟨l1, l4, rfl⟩ := owns_slice y1
            obtain ⟨l2, l5, rfl⟩ := owns_slice y2
            obtain ⟨l3, l6, rfl⟩ := owns_slice y3
            have HL : Hid (Own3 w16.heap.size W51 zs (.slice l1 zs.out.length l4) (.slice l2 zs.inn.length l5) (.slice l3 zs.back.length l6)) := hide (Own3.mono ⟨y1, y2, y3, hAp⟩ HBc.out.size)
            replace HBc := hide (HBc.out.trans (hB.mono HBc.out.size))
            replace HK := hide (HK.out.below hB)
            replace HZ4 : Hid (W51.heap[W45.heap.size]? = some (Obj.cells #[.bool false, .bool false, .int .i64 0, .int .i64 0, .slice none 0 0, .slice none 0 0, .slice none 0 0, .int .i64 0, .bool false, .bool false, .bool false] 58)) := hide ((hB.block _ (Array.getElem?_eq_some_iff.1 HZ4.out).1).trans HZ4.out)
            replace HZ5 : Hid (W51.heap[W0.heap.size]? = some (Obj.cells #[.bool false, .bool false, .int .i64 0, .int .i64 0, .slice none 0 0, .slice none 0 0, .slice none 0 0, .int .i64 0, .bool false, .bool false, .bool false] 58)) := hide ((hB.block _ (Array.getElem?_eq_some_iff.1 HZ5.out).1).trans HZ5.out)
            clear hB y1 y2 y3 hAp
            refine hK.out _ _ (⟨HYs.out.below HBc.out, HZs.out.below HBc.out⟩) (fun hHeld2 => ?_)
            clear hK K' hHeld
            have hHeld := hHeld2
            clear hHeld2
            try simp only [Act.put, List.setIfInBounds_toArray, List.set_cons_zero, List.set_cons_succ]
            have pf0 := frozen_of_row W51 W45.heap.size 0 _ _ HZ4.out
            have pf1 := frozen_of_row W51 W45.heap.size 1 _ _ HZ4.out
            have pf2 := frozen_of_row W51 W45.heap.size 2 _ _ HZ4.out
            have pf3 := frozen_of_row W51 W45.heap.size 3 _ _ HZ4.out
            have pf4 := frozen_of_row W51 W45.heap.size 4 _ _ HZ4.out
            have pf5 := frozen_of_row W51 W45.heap.size 5 _ _ HZ4.out
            have pf6 := frozen_of_row W51 W45.heap.size 6 _ _ HZ4.out
            have pf7 := frozen_of_row W51 W45.heap.size 7 _ _ HZ4.out
            have pf8 := frozen_of_row W51 W45.heap.size 8 _ _ HZ4.out
            have pf9 := frozen_of_row W51 W45.heap.size 9 _ _ HZ4.out
            have pf10 := frozen_of_row W51 W45.heap.size 10 _ _ HZ4.out
            have pc0 := cell_of_row W51 W45.heap.size 0 _ _ _ HZ4.out
            have pc1 := cell_of_row W51 W45.heap.size 1 _ _ _ HZ4.out
            have pc2 := cell_of_row W51 W45.heap.size 2 _ _ _ HZ4.out
            have pc3 := cell_of_row W51 W45.heap.size 3 _ _ _ HZ4.out
            have pc4 := cell_of_row W51 W45.heap.size 4 _ _ _ HZ4.out
            have pc5 := cell_of_row W51 W45.heap.size 5 _ _ _ HZ4.out
            have pc6 := cell_of_row W51 W45.heap.size 6 _ _ _ HZ4.out
            have pc7 := cell_of_row W51 W45.heap.size 7 _ _ _ HZ4.out
            have pc8 := cell_of_row W51 W45.heap.size 8 _ _ _ HZ4.out
            have pc9 := cell_of_row W51 W45.heap.size 9 _ _ _ HZ4.out
            have pc10 := cell_of_row W51 W45.heap.size 10 _ _ _ HZ4.out
            simp at pc0 pc1 pc2 pc3 pc4 pc5 pc6 pc7 pc8 pc9 pc10
            refine wpAnyH_ready (rs := [6]) (by kernel_rfl) (by simp) ?_
            refine AllReadyH.cons (o := ?_) ?_ (fun K' hK => ?_) AllReadyH.nil
            rotate_left 1
            · (simp only [List.getElem?_toArray, List.getElem?_cons_zero, List.getElem?_cons_succ]; rfl)
            · obtain ⟨e1, e2⟩ := st_fill W51 W45.heap.size y (.slice k1 y.out.length k4) (.slice k2 y.inn.length k5) (.slice k3 y.back.length k6) HZ4.out
              have HD4 := hide e1
              replace HBc := hide (HBc.out.trans (e2.below (B := w16.heap.size) (fun k e => by have e3 : k = W45.heap.size := e; omega) HBc.out.size))
              replace HK := hide (Own3.past HK.out e2 HZ4.out)
              replace HL := hide (Own3.past HL.out e2 HZ4.out)
              replace HZ5 := hide ((e2.block _ (Array.getElem?_eq_some_iff.1 HZ5.out).1 (by show ¬ _ = W45.heap.size; omega)).trans HZ5.out)
              clear HZ4 e1 e2
              go_simp
              clear pf0 pf1 pf2 pf3 pf4 pf5 pf6 pf7 pf8 pf9 pf10 pc0 pc1 pc2 pc3 pc4 pc5 pc6 pc7 pc8 pc9 pc10
              generalize ((((((((((W51.setCell ⟨W45.heap.size, 0, none⟩ (.bool y.rd)).setCell ⟨W45.heap.size, 1, none⟩ (.bool y.wt)).setCell ⟨W45.heap.size, 2, none⟩ (.int .i64 y.mode)).setCell ⟨W45.heap.size, 3, none⟩ (.int .i64 y.size)).setCell ⟨W45.heap.size, 4, none⟩ (.slice k1 y.out.length k4)).setCell ⟨W45.heap.size, 5, none⟩ (.slice k2 y.inn.length k5)).setCell ⟨W45.heap.size, 6, none⟩ (.slice k3 y.back.length k6)).setCell ⟨W45.heap.size, 7, none⟩ (.int .i64 y.dir)).setCell ⟨W45.heap.size, 8, none⟩ (.bool y.fin)).setCell ⟨W45.heap.size, 9, none⟩ (.bool y.bad)).setCell ⟨W45.heap.size, 10, none⟩ (.bool y.closed) = W52 at *
              refine hK.out _ _ (⟨HYs.out.below HBc.out, HZs.out.below HBc.out⟩) (fun hHeld2 => ?_)
              clear hK K' hHeld
              have hHeld := hHeld2
              clear hHeld2
              try simp only [Act.put, List.setIfInBounds_toArray, List.set_cons_zero, List.set_cons_succ]
              have rf0 := frozen_of_row W52 W0.heap.size 0 _ _ HZ5.out
              have rf1 := frozen_of_row W52 W0.heap.size 1 _ _ HZ5.out
              have rf2 := frozen_of_row W52 W0.heap.size 2 _ _ HZ5.out
              have rf3 := frozen_of_row W52 W0.heap.size 3 _ _ HZ5.out
              have rf4 := frozen_of_row W52 W0.heap.size 4 _ _ HZ5.out
              have rf5 := frozen_of_row W52 W0.heap.size 5 _ _ HZ5.out
              have rf6 := frozen_of_row W52 W0.heap.size 6 _ _ HZ5.out
              have rf7 := frozen_of_row W52 W0.heap.size 7 _ _ HZ5.out
              have rf8 := frozen_of_row W52 W0.heap.size 8 _ _ HZ5.out
              have rf9 := frozen_of_row W52 W0.heap.size 9 _ _ HZ5.out
              have rf10 := frozen_of_row W52 W0.heap.size 10 _ _ HZ5.out
              have rc0 := cell_of_row W52 W0.heap.size 0 _ _ _ HZ5.out
              have rc1 := cell_of_row W52 W0.heap.size 1 _ _ _ HZ5.out
              have rc2 := cell_of_row W52 W0.heap.size 2 _ _ _ HZ5.out
              have rc3 := cell_of_row W52 W0.heap.size 3 _ _ _ HZ5.out
              have rc4 := cell_of_row W52 W0.heap.size 4 _ _ _ HZ5.out
              have rc5 := cell_of_row W52 W0.heap.size 5 _ _ _ HZ5.out
              have rc6 := cell_of_row W52 W0.heap.size 6 _ _ _ HZ5.out
              have rc7 := cell_of_row W52 W0.heap.size 7 _ _ _ HZ5.out
              have rc8 := cell_of_row W52 W0.heap.size 8 _ _ _ HZ5.out
              have rc9 := cell_of_row W52 W0.heap.size 9 _ _ _ HZ5.out
              have rc10 := cell_of_row W52 W0.heap.size 10 _ _ _ HZ5.out
              simp at rc0 rc1 rc2 rc3 rc4 rc5 rc6 rc7 rc8 rc9 rc10
              refine wpAnyH_ready (rs := [7]) (by kernel_rfl) (by simp) ?_
              refine AllReadyH.cons (o := ?_) ?_ (fun K' hK => ?_) AllReadyH.nil
              rotate_left 1
              · (simp only [List.getElem?_toArray, List.getElem?_cons_zero, List.getElem?_cons_succ]; rfl)
              · obtain ⟨e1, e2⟩ := st_fill W52 W0.heap.size zs (.slice l1 zs.out.length l4) (.slice l2 zs.inn.length l5) (.slice l3 zs.back.length l6) HZ5.out
                have HD5 := hide e1
                replace HBc := hide (HBc.out.trans (e2.below (B := w16.heap.size) (fun k e => by have e3 : k = W0.heap.size := e; omega) HBc.out.size))
                replace HK := hide (Own3.past HK.out e2 HZ5.out)
                replace HL := hide (Own3.past HL.out e2 HZ5.out)
                replace HD4 := hide (StAt.turned1 HD4.out e2 (by omega))
                clear HZ5 e1 e2
                go_simp
                clear rf0 rf1 rf2 rf3 rf4 rf5 rf6 rf7 rf8 rf9 rf10 rc0 rc1 rc2 rc3 rc4 rc5 rc6 rc7 rc8 rc9 rc10
                generalize ((((((((((W52.setCell ⟨W0.heap.size, 0, none⟩ (.bool zs.rd)).setCell ⟨W0.heap.size, 1, none⟩ (.bool zs.wt)).setCell ⟨W0.heap.size, 2, none⟩ (.int .i64 zs.mode)).setCell ⟨W0.heap.size, 3, none⟩ (.int .i64 zs.size)).setCell ⟨W0.heap.size, 4, none⟩ (.slice l1 zs.out.length l4)).setCell ⟨W0.heap.size, 5, none⟩ (.slice l2 zs.inn.length l5)).setCell ⟨W0.heap.size, 6, none⟩ (.slice l3 zs.back.length l6)).setCell ⟨W0.heap.size, 7, none⟩ (.int .i64 zs.dir)).setCell ⟨W0.heap.size, 8, none⟩ (.bool zs.fin)).setCell ⟨W0.heap.size, 9, none⟩ (.bool zs.bad)).setCell ⟨W0.heap.size, 10, none⟩ (.bool zs.closed) = W53 at *
                refine hK.out _ _ (⟨HYs.out.below HBc.out, HZs.out.below HBc.out⟩) (fun hHeld2 => ?_)
                clear hK K' hHeld
                have hHeld := hHeld2
                clear hHeld2
                try simp only [Act.put, List.setIfInBounds_toArray, List.set_cons_zero, List.set_cons_succ]
                refine wpAnyH_done (by kernel_rfl) ?_ _
                refine NoPanic.normal ?_
                clear hHeld
                go_wp2
                go_meet
                exact ⟨_, _, _, _, _, _, _, _, _, _, _, _, _, _, rfl, rfl, HD4, HD5, HK, HL, HBc, by omega, by omega⟩
      rotate_left 1
      · (simp only [List.getElem?_toArray, List.getElem?_cons_zero, List.getElem?_cons_succ]; rfl)
      · go_simp
        have hA := recv_below W44 (Obj.cells #[.bool false, .bool false, .int .i64 0, .int .i64 0, .slice none 0 0, .slice none 0 0, .slice none 0 0, .int .i64 0, .bool false, .bool false, .bool false] 58)
        have HZ4 := hide (heap_alloc_new W44 (Obj.cells #[.bool false, .bool false, .int .i64 0, .int .i64 0, .slice none 0 0, .slice none 0 0, .slice none 0 0, .int .i64 0, .bool false, .bool false, .bool false] 58))
        have hg4 : w16.heap.size ≤ W44.heap.size := HBc.out.size
        have hne : W0.heap.size < W44.heap.size := (Array.getElem?_eq_some_iff.1 HZ5.out).1
        replace HBc := hide (HBc.out.trans (hA.mono HBc.out.size))
        replace HZ5 : Hid ((W44.alloc (Obj.cells #[.bool false, .bool false, .int .i64 0, .int .i64 0, .slice none 0 0, .slice none 0 0, .slice none 0 0, .int .i64 0, .bool false, .bool false, .bool false] 58)).heap[W0.heap.size]? = some (Obj.cells #[.bool false, .bool false, .int .i64 0, .int .i64 0, .slice none 0 0, .slice none 0 0, .slice none 0 0, .int .i64 0, .bool false, .bool false, .bool false] 58)) := hide ((hA.block _ (Array.getElem?_eq_some_iff.1 HZ5.out).1).trans HZ5.out)
        clear hA
        generalize W44.alloc (Obj.cells #[.bool false, .bool false, .int .i64 0, .int .i64 0, .slice none 0 0, .slice none 0 0, .slice none 0 0, .int .i64 0, .bool false, .bool false, .bool false] 58) = W54 at *
        refine hK.out _ _ (⟨HYs.out.below HBc.out, HZs.out.below HBc.out⟩) (fun hHeld2 => ?_)
        clear hK K' hHeld
        have hHeld := hHeld2
        clear hHeld2
        try simp only [Act.put, List.setIfInBounds_toArray, List.set_cons_zero, List.set_cons_succ]
        refine wpAnyH_ready (rs := [1]) (by kernel_rfl) (by simp) ?_
        refine AllReadyH.cons (o := ?_) ?_ (fun K' hK => ?_) AllReadyH.nil
        rotate_left 1
        · (simp only [List.getElem?_toArray, List.getElem?_cons_zero, List.getElem?_cons_succ]; rfl)
        · go_simp
          go_at_call 21
          refine (given_any y _ _ _ _ _ (HYl.out.below HBc.out) HLy.out.1 HLy.out.2.1 HLy.out.2.2).mono ?_
          rintro _ W55 ⟨o1, i1, b1, rfl, y1, y2, y3, hB, hAp⟩
          obtain ⟨k1, k4, rfl⟩ := owns_slice y1
          obtain ⟨k2, k5, rfl⟩ := owns_slice y2
          obtain ⟨k3, k6, rfl⟩ := owns_slice y3
          have HK : Hid (Own3 w16.heap.size W55 y (.slice k1 y.out.length k4) (.slice k2 y.inn.length k5) (.slice k3 y.back.length k6)) := hide (Own3.mono ⟨y1, y2, y3, hAp⟩ HBc.out.size)
          replace HBc := hide (HBc.out.trans (hB.mono HBc.out.size))
          replace HZ4 : Hid (W55.heap[W44.heap.size]? = some (Obj.cells #[.bool false, .bool false, .int .i64 0, .int .i64 0, .slice none 0 0, .slice none 0 0, .slice none 0 0, .int .i64 0, .bool false, .bool false, .bool false] 58)) := hide ((hB.block _ (Array.getElem?_eq_some_iff.1 HZ4.out).1).trans HZ4.out)
          replace HZ5 : Hid (W55.heap[W0.heap.size]? = some (Obj.cells #[.bool false, .bool false, .int .i64 0, .int .i64 0, .slice none 0 0, .slice none 0 0, .slice none 0 0, .int .i64 0, .bool false, .bool false, .bool false] 58)) := hide ((hB.block _ (Array.getElem?_eq_some_iff.1 HZ5.out).1).trans HZ5.out)
          clear hB y1 y2 y3 hAp
          refine hK.out _ _ (⟨HYs.out.below HBc.out, HZs.out.below HBc.out⟩) (fun hHeld2 => ?_)
          clear hK K' hHeld
          have hHeld := hHeld2
          clear hHeld2
          try simp only [Act.put, List.setIfInBounds_toArray, List.set_cons_zero, List.set_cons_succ]
          refine wpAnyH_ready (rs := [3]) (by kernel_rfl) (by simp) ?_
          refine AllReadyH.cons (o := ?_) ?_ (fun K' hK => ?_) AllReadyH.nil
          rotate_left 1
          · (simp only [List.getElem?_toArray, List.getElem?_cons_zero, List.getElem?_cons_succ]; rfl)
          · go_simp
            go_at_call 21
            refine (given_any zs _ _ _ _ _ (HZl.out.below HBc.out) HLz.out.1 HLz.out.2.1 HLz.out.2.2).mono ?_
            rintro _ W56 ⟨o1, i1, b1, rfl, y1, y2, y3, hB, hAp⟩
            obtain ⟨l1, l4, rfl⟩ := owns_slice y1
            obtain ⟨l2, l5, rfl⟩ := owns_slice y2
            obtain ⟨l3, l6, rfl⟩ := owns_slice y3
            have HL : Hid (Own3 w16.heap.size W56 zs (.slice l1 zs.out.length l4) (.slice l2 zs.inn.length l5) (.slice l3 zs.back.length l6)) := hide (Own3.mono ⟨y1, y2, y3, hAp⟩ HBc.out.size)
            replace HBc := hide (HBc.out.trans (hB.mono HBc.out.size))
            replace HK := hide (HK.out.below hB)
            replace HZ4 : Hid (W56.heap[W44.heap.size]? = some (Obj.cells #[.bool false, .bool false, .int .i64 0, .int .i64 0, .slice none 0 0, .slice none 0 0, .slice none 0 0, .int .i64 0, .bool false, .bool false, .bool false] 58)) := hide ((hB.block _ (Array.getElem?_eq_some_iff.1 HZ4.out).1).trans HZ4.out)
            replace HZ5 : Hid (W56.heap[W0.heap.size]? = some (Obj.cells #[.bool false, .bool false, .int .i64 0, .int .i64 0, .slice none 0 0, .slice none 0 0, .slice none 0 0, .int .i64 0, .bool false, .bool false, .bool false] 58)) := hide ((hB.block _ (Array.getElem?_eq_some_iff.1 HZ5.out).1).trans HZ5.out)
            clear hB y1 y2 y3 hAp
            refine hK.out _ _ (⟨HYs.out.below HBc.out, HZs.out.below HBc.out⟩) (fun hHeld2 => ?_)
            clear hK K' hHeld
            have hHeld := hHeld2
            clear hHeld2
            try simp only [Act.put, List.setIfInBounds_toArray, List.set_cons_zero, List.set_cons_succ]
            have pf0 := frozen_of_row W56 W44.heap.size 0 _ _ HZ4.out
            have pf1 := frozen_of_row W56 W44.heap.size 1 _ _ HZ4.out
            have pf2 := frozen_of_row W56 W44.heap.size 2 _ _ HZ4.out
            have pf3 := frozen_of_row W56 W44.heap.size 3 _ _ HZ4.out
            have pf4 := frozen_of_row W56 W44.heap.size 4 _ _ HZ4.out
            have pf5 := frozen_of_row W56 W44.heap.size 5 _ _ HZ4.out
            have pf6 := frozen_of_row W56 W44.heap.size 6 _ _ HZ4.out
            have pf7 := frozen_of_row W56 W44.heap.size 7 _ _ HZ4.out
            have pf8 := frozen_of_row W56 W44.heap.size 8 _ _ HZ4.out
            have pf9 := frozen_of_row W56 W44.heap.size 9 _ _ HZ4.out
            have pf10 := frozen_of_row W56 W44.heap.size 10 _ _ HZ4.out
            have pc0 := cell_of_row W56 W44.heap.size 0 _ _ _ HZ4.out
            have pc1 := cell_of_row W56 W44.heap.size 1 _ _ _ HZ4.out
            have pc2 := cell_of_row W56 W44.heap.size 2 _ _ _ HZ4.out
            have pc3 := cell_of_row W56 W44.heap.size 3 _ _ _ HZ4.out
            have pc4 := cell_of_row W56 W44.heap.size 4 _ _ _ HZ4.out
            have pc5 := cell_of_row W56 W44.heap.size 5 _ _ _ HZ4.out
            have pc6 := cell_of_row W56 W44.heap.size 6 _ _ _ HZ4.out
            have pc7 := cell_of_row W56 W44.heap.size 7 _ _ _ HZ4.out
            have pc8 := cell_of_row W56 W44.heap.size 8 _ _ _ HZ4.out
            have pc9 := cell_of_row W56 W44.heap.size 9 _ _ _ HZ4.out
            have pc10 := cell_of_row W56 W44.heap.size 10 _ _ _ HZ4.out
            simp at pc0 pc1 pc2 pc3 pc4 pc5 pc6 pc7 pc8 pc9 pc10
            refine wpAnyH_ready (rs := [6]) (by kernel_rfl) (by simp) ?_
            refine AllReadyH.cons (o := ?_) ?_ (fun K' hK => ?_) AllReadyH.nil
            rotate_left 1
            · (simp only [List.getElem?_toArray, List.getElem?_cons_zero, List.getElem?_cons_succ]; rfl)
            · obtain ⟨e1, e2⟩ := st_fill W56 W44.heap.size y (.slice k1 y.out.length k4) (.slice k2 y.inn.length k5) (.slice k3 y.back.length k6) HZ4.out
              have HD4 := hide e1
              replace HBc := hide (HBc.out.trans (e2.below (B := w16.heap.size) (fun k e => by have e3 : k = W44.heap.size := e; omega) HBc.out.size))
              replace HK := hide (Own3.past HK.out e2 HZ4.out)
              replace HL := hide (Own3.past HL.out e2 HZ4.out)
              replace HZ5 := hide ((e2.block _ (Array.getElem?_eq_some_iff.1 HZ5.out).1 (by show ¬ _ = W44.heap.size; omega)).trans HZ5.out)
              clear HZ4 e1 e2
              go_simp
              clear pf0 pf1 pf2 pf3 pf4 pf5 pf6 pf7 pf8 pf9 pf10 pc0 pc1 pc2 pc3 pc4 pc5 pc6 pc7 pc8 pc9 pc10
              generalize ((((((((((W56.setCell ⟨W44.heap.size, 0, none⟩ (.bool y.rd)).setCell ⟨W44.heap.size, 1, none⟩ (.bool y.wt)).setCell ⟨W44.heap.size, 2, none⟩ (.int .i64 y.mode)).setCell ⟨W44.heap.size, 3, none⟩ (.int .i64 y.size)).setCell ⟨W44.heap.size, 4, none⟩ (.slice k1 y.out.length k4)).setCell ⟨W44.heap.size, 5, none⟩ (.slice k2 y.inn.length k5)).setCell ⟨W44.heap.size, 6, none⟩ (.slice k3 y.back.length k6)).setCell ⟨W44.heap.size, 7, none⟩ (.int .i64 y.dir)).setCell ⟨W44.heap.size, 8, none⟩ (.bool y.fin)).setCell ⟨W44.heap.size, 9, none⟩ (.bool y.bad)).setCell ⟨W44.heap.size, 10, none⟩ (.bool y.closed) = W57 at *
              refine hK.out _ _ (⟨HYs.out.below HBc.out, HZs.out.below HBc.out⟩) (fun hHeld2 => ?_)
              clear hK K' hHeld
              have hHeld := hHeld2
              clear hHeld2
              try simp only [Act.put, List.setIfInBounds_toArray, List.set_cons_zero, List.set_cons_succ]
              have rf0 := frozen_of_row W57 W0.heap.size 0 _ _ HZ5.out
              have rf1 := frozen_of_row W57 W0.heap.size 1 _ _ HZ5.out
              have rf2 := frozen_of_row W57 W0.heap.size 2 _ _ HZ5.out
              have rf3 := frozen_of_row W57 W0.heap.size 3 _ _ HZ5.out
              have rf4 := frozen_of_row W57 W0.heap.size 4 _ _ HZ5.out
              have rf5 := frozen_of_row W57 W0.heap.size 5 _ _ HZ5.out
              have rf6 := frozen_of_row W57 W0.heap.size 6 _ _ HZ5.out
              have rf7 := frozen_of_row W57 W0.heap.size 7 _ _ HZ5.out
              have rf8 := frozen_of_row W57 W0.heap.size 8 _ _ HZ5.out
              have rf9 := frozen_of_row W57 W0.heap.size 9 _ _ HZ5.out
              have rf10 := frozen_of_row W57 W0.heap.size 10 _ _ HZ5.out
              have rc0 := cell_of_row W57 W0.heap.size 0 _ _ _ HZ5.out
              have rc1 := cell_of_row W57 W0.heap.size 1 _ _ _ HZ5.out
              have rc2 := cell_of_row W57 W0.heap.size 2 _ _ _ HZ5.out
              have rc3 := cell_of_row W57 W0.heap.size 3 _ _ _ HZ5.out
              have rc4 := cell_of_row W57 W0.heap.size 4 _ _ _ HZ5.out
              have rc5 := cell_of_row W57 W0.heap.size 5 _ _ _ HZ5.out
              have rc6 := cell_of_row W57 W0.heap.size 6 _ _ _ HZ5.out
              have rc7 := cell_of_row W57 W0.heap.size 7 _ _ _ HZ5.out
              have rc8 := cell_of_row W57 W0.heap.size 8 _ _ _ HZ5.out
              have rc9 := cell_of_row W57 W0.heap.size 9 _ _ _ HZ5.out
              have rc10 := cell_of_row W57 W0.heap.size 10 _ _ _ HZ5.out
              simp at rc0 rc1 rc2 rc3 rc4 rc5 rc6 rc7 rc8 rc9 rc10
              refine wpAnyH_ready (rs := [7]) (by kernel_rfl) (by simp) ?_
              refine AllReadyH.cons (o := ?_) ?_ (fun K' hK => ?_) AllReadyH.nil
              rotate_left 1
              · (simp only [List.getElem?_toArray, List.getElem?_cons_zero, List.getElem?_cons_succ]; rfl)
              · obtain ⟨e1, e2⟩ := st_fill W57 W0.heap.size zs (.slice l1 zs.out.length l4) (.slice l2 zs.inn.length l5) (.slice l3 zs.back.length l6) HZ5.out
                have HD5 := hide e1
                replace HBc := hide (HBc.out.trans (e2.below (B := w16.heap.size) (fun k e => by have e3 : k = W0.heap.size := e; omega) HBc.out.size))
                replace HK := hide (Own3.past HK.out e2 HZ5.out)
                replace HL := hide (Own3.past HL.out e2 HZ5.out)
                replace HD4 := hide (StAt.turned1 HD4.out e2 (by omega))
                clear HZ5 e1 e2
                go_simp
                clear rf0 rf1 rf2 rf3 rf4 rf5 rf6 rf7 rf8 rf9 rf10 rc0 rc1 rc2 rc3 rc4 rc5 rc6 rc7 rc8 rc9 rc10
                generalize ((((((((((W57.setCell ⟨W0.heap.size, 0, none⟩ (.bool zs.rd)).setCell ⟨W0.heap.size, 1, none⟩ (.bool zs.wt)).setCell ⟨W0.heap.size, 2, none⟩ (.int .i64 zs.mode)).setCell ⟨W0.heap.size, 3, none⟩ (.int .i64 zs.size)).setCell ⟨W0.heap.size, 4, none⟩ (.slice l1 zs.out.length l4)).setCell ⟨W0.heap.size, 5, none⟩ (.slice l2 zs.inn.length l5)).setCell ⟨W0.heap.size, 6, none⟩ (.slice l3 zs.back.length l6)).setCell ⟨W0.heap.size, 7, none⟩ (.int .i64 zs.dir)).setCell ⟨W0.heap.size, 8, none⟩ (.bool zs.fin)).setCell ⟨W0.heap.size, 9, none⟩ (.bool zs.bad)).setCell ⟨W0.heap.size, 10, none⟩ (.bool zs.closed) = W58 at *
                refine hK.out _ _ (⟨HYs.out.below HBc.out, HZs.out.below HBc.out⟩) (fun hHeld2 => ?_)
                clear hK K' hHeld
                have hHeld := hHeld2
                clear hHeld2
                try simp only [Act.put, List.setIfInBounds_toArray, List.set_cons_zero, List.set_cons_succ]
                refine wpAnyH_done (by kernel_rfl) ?_ _
                refine NoPanic.normal ?_
                clear hHeld
                go_wp2
                go_meet
                exact ⟨_, _, _, _, _, _, _, _, _, _, _, _, _, _, rfl, rfl, HD4, HD5, HK, HL, HBc, by omega, by omega⟩
  case rest =>
  obtain ⟨q4, q5, k1, k2, k3, l1, l2, l3, k4, k5, k6, l4, l5, l6, rfl, rfl, HD4, HD5, HK, HL, HBc, hg4, hg5⟩ := hcut
  obtain ⟨w18, hq⟩ : ∃ W, W = wc := ⟨_, rfl⟩
  subst hq
  have z18 : w16.heap.size ≤ w18.heap.size := HBc.out.size
  replace HW := hide (HW.out.trans (HBc.out.mono HW.out.size))
  replace HS := hide (HS.out.below HBc.out)
  replace HX := hide (HX.out.below HBc.out)
  replace HG := hide (HG.out.below HBc.out)
  replace HYs := hide (HYs.out.below HBc.out)
  replace HYl := hide (HYl.out.below HBc.out)
  replace HZs := hide (HZs.out.below HBc.out)
  replace HZl := hide (HZl.out.below HBc.out)
  clear HBc HS
  have HAp := hide HX.out.2.2.2
  have HXo := hide HX.out.1
  have HXi := hide HX.out.2.1
  have HXb := hide HX.out.2.2.1
  have x4 := HG.out.cs.2.2.2.2.1
  clear HX
  go_wp2_with fail
  clear x4
  refine (Kp_spoil_turn _ _ _ _ w18 HXo.out (Kp_bv_ints _) (by unfold maxLen; omega)).mono ?_
  rintro _ w19 ⟨rfl, hT⟩
  have HT : Hid (Turned (fun k => w3.heap.size ≤ k ∧ k < w4.heap.size) w18 w19) := hide (hT.mono fun k e => HXl.out.1 k e)
  replace HXi := hide (owns_turned HXi.out hT fun k e e2 => (HAp.out.1 k e2).1 e)
  replace HXb := hide (owns_turned HXb.out hT fun k e e2 => (HAp.out.1 k e2).2 e)
  replace HG : Hid (StAt w19 w4.heap.size x (.slice g1 x.out.length g4) (.slice g2 x.inn.length g5) (.slice g3 x.back.length g6)) := hide ((hT.block _ HG.out.lt fun e2 => by have := HXl.out.1 _ e2; omega).trans HG.out)
  clear hT HXo
  have x5 := HG.out.cs.2.2.2.2.2.1
  go_wp2_with fail
  clear x5
  refine (Kp_spoil_turn _ _ _ _ w19 HXi.out (Kp_bv_ints _) (by unfold maxLen; omega)).mono ?_
  rintro _ w20 ⟨rfl, hT⟩
  replace HT := hide (HT.out.trans (hT.mono fun k e => (HXl.out.2.1 k e : (fun k => w3.heap.size ≤ k ∧ k < w4.heap.size) k)) (fun _ _ e => e))
  replace HXb := hide (owns_turned HXb.out hT fun k e e2 => HAp.out.2 k e2 e)
  replace HG : Hid (StAt w20 w4.heap.size x (.slice g1 x.out.length g4) (.slice g2 x.inn.length g5) (.slice g3 x.back.length g6)) := hide ((hT.block _ HG.out.lt fun e2 => by have := HXl.out.2.1 _ e2; omega).trans HG.out)
  clear hT HXi
  have x6 := HG.out.cs.2.2.2.2.2.2.1
  go_wp2_with fail
  clear x6
  refine (Kp_spoil_turn _ _ _ _ w20 HXb.out (Kp_bv_ints _) (by unfold maxLen; omega)).mono ?_
  rintro _ w21 ⟨rfl, hT⟩
  replace HT := hide (HT.out.trans (hT.mono fun k e => (HXl.out.2.2 k e : (fun k => w3.heap.size ≤ k ∧ k < w4.heap.size) k)) (fun _ _ e => e))
  clear hT HXb HG HAp
  have z21 : w18.heap.size ≤ w21.heap.size := HT.out.size
  have zz : w4.heap.size ≤ w14.heap.size := by omega
  replace HYl := hide (HYl.out.turned HT.out fun k e1 _ e2 => by
    have e1 : w14.heap.size ≤ k ∧ k < w15.heap.size := e1
    have e2 : w3.heap.size ≤ k ∧ k < w4.heap.size := e2
    omega)
  replace HZl := hide (HZl.out.turned HT.out fun k e1 _ e2 => by
    have e1 : w15.heap.size ≤ k ∧ k < w16.heap.size := e1
    have e2 : w3.heap.size ≤ k ∧ k < w4.heap.size := e2
    omega)
  have HKl := hide (HK.out.sin.turned HT.out fun k e1 _ e2 => by
    have e1 : w16.heap.size ≤ k ∧ k < w18.heap.size := e1
    have e2 : w3.heap.size ≤ k ∧ k < w4.heap.size := e2
    omega)
  have HLl := hide (HL.out.sin.turned HT.out fun k e1 _ e2 => by
    have e1 : w16.heap.size ≤ k ∧ k < w18.heap.size := e1
    have e2 : w3.heap.size ≤ k ∧ k < w4.heap.size := e2
    omega)
  replace HYs : Hid (StAt w21 gy y (.slice u1 y.out.length u4) (.slice u2 y.inn.length u5) (.slice u3 y.back.length u6)) := hide ((HT.out.block _ HYs.out.lt fun e2 => by have e2 : w3.heap.size ≤ gy ∧ gy < w4.heap.size := e2; omega).trans HYs.out)
  replace HZs : Hid (StAt w21 gz zs (.slice v1 zs.out.length v4) (.slice v2 zs.inn.length v5) (.slice v3 zs.back.length v6)) := hide ((HT.out.block _ HZs.out.lt fun e2 => by have e2 : w3.heap.size ≤ gz ∧ gz < w4.heap.size := e2; omega).trans HZs.out)
  replace HD4 : Hid (StAt w21 q4 y (.slice k1 y.out.length k4) (.slice k2 y.inn.length k5) (.slice k3 y.back.length k6)) := hide ((HT.out.block _ HD4.out.lt fun e2 => by have e2 : w3.heap.size ≤ q4 ∧ q4 < w4.heap.size := e2; omega).trans HD4.out)
  replace HD5 : Hid (StAt w21 q5 zs (.slice l1 zs.out.length l4) (.slice l2 zs.inn.length l5) (.slice l3 zs.back.length l6)) := hide ((HT.out.block _ HD5.out.lt fun e2 => by have e2 : w3.heap.size ≤ q5 ∧ q5 < w4.heap.size := e2; omega).trans HD5.out)
  replace HW := hide (HW.out.trans (HT.out.below (B := w.heap.size) (fun k e2 => by have e2 : w3.heap.size ≤ k ∧ k < w4.heap.size := e2; omega) HW.out.size))
  clear HT HK HL HXl HXu
  obtain ⟨c0, c1, c2, c3, c4, c5, c6, c7, c8, c9, c10⟩ := HYs.out.cs
  obtain ⟨d0, d1, d2, d3, d4, d5, d6, d7, d8, d9, d10⟩ := HD4.out.cs
  go_wp2_with fail
  clear c0 c1 c2 c3 c4 c5 c6 c7 c8 c9 c10
  clear d0 d1 d2 d3 d4 d5 d6 d7 d8 d9 d10
  refine (ssame_any y _ _ _ _ _ _ _ _ _ HYl.out HKl.out HLy.out.1 HLy.out.2.1 HLy.out.2.2).mono ?_
  rintro _ w22 ⟨rfl, hB⟩
  replace HW := hide (HW.out.trans (hB.mono HW.out.size))
  replace HZs := hide (HZs.out.below hB)
  replace HZl := hide (HZl.out.below hB)
  replace HD5 := hide (HD5.out.below hB)
  replace HLl := hide (HLl.out.below hB)
  clear hB HYs HD4 HYl HKl
  obtain ⟨c0, c1, c2, c3, c4, c5, c6, c7, c8, c9, c10⟩ := HZs.out.cs
  obtain ⟨d0, d1, d2, d3, d4, d5, d6, d7, d8, d9, d10⟩ := HD5.out.cs
  go_wp2_with fail
  clear c0 c1 c2 c3 c4 c5 c6 c7 c8 c9 c10
  clear d0 d1 d2 d3 d4 d5 d6 d7 d8 d9 d10
  refine (ssame_any zs _ _ _ _ _ _ _ _ _ HZl.out HLl.out HLz.out.1 HLz.out.2.1 HLz.out.2.2).mono ?_
  rintro _ w23 ⟨rfl, hB⟩
  replace HW := hide (HW.out.trans (hB.mono HW.out.size))
  clear hB
  go_wp2
  go_ret
  exact ⟨rfl, HW.out⟩
end Go.Proofs.YtdmkjbdlidadiaaGreat

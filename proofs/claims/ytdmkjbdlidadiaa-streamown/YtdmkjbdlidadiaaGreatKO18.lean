/- What the proof stands on, part 18: the contracts of the program's calls that it reaches. -/
import Derived.Test.YtdmkjbdlidadiaaGreatKO17
import Derived.Deep.DeepCutAuto
import Derived.Deep.LoopGhost
import Derived.Deep.RegionLaw
import Derived.Deep.RegionWith
/- StreamOwn: the walk. -/
namespace Go.Proofs.YtdmkjbdlidadiaaGreat
open Go.RowKit

def soP : Plt := ⟨1, 0, [97, 98, 99], [], [], [], [], 0, false⟩
theorem so_gre : grE soP.data = 0 := by decide
theorem so_pan : soP.pan = false := by kernel_rfl
set_option linter.unusedSimpArgs false in
set_option maxRecDepth 100000 in
set_option maxHeartbeats 40000000 in
theorem sown_any (x : SS) (o i b : Value) (c : UInt8) (w : World) (h : SIn w (fun _ => True) x o i b) (ho : x.out.length ≤ 140737488351232) (hi : x.inn.length ≤ 140737488351232) (hb : x.back.length ≤ 140737488351232) :
    Calls Tryz.prog 5 #[.agg #[.bool x.rd, .bool x.wt, .int .i64 x.mode, .int .i64 x.size, o, i, b, .int .i64 x.dir, .bool x.fin, .bool x.bad, .bool x.closed], .int .u8 (c.toNat : Int)] w fun e w' => e = .returned (.bool true) ∧ Below w.heap.size w w' := by
  have HI0 := hide h
  obtain ⟨s1, s4, rfl, -⟩ := h.so
  obtain ⟨s2, s5, rfl, -⟩ := h.si
  obtain ⟨s3, s6, rfl, -⟩ := h.sb
  clear h
  have hqr : ((if x.may = true then (0 : Int) else 51) = 0 ∧ x.refuse false = 2) ∨ ((if x.may = true then (0 : Int) else 51) = 51 ∧ x.refuse false = 51) := by
    unfold SS.refuse
    cases x.may
    · exact .inr ⟨rfl, rfl⟩
    · exact .inl ⟨rfl, rfl⟩
  have HN0 := hide (fun (W : World) (P : Nat → Prop) (o i b : Value) (hs : SIn W P x o i b) => sPut_nil c hs ho hi hb)
  have HN1 := hide (fun (W : World) (P : Nat → Prop) (o i b : Value) (hs : SIn W P x o i b) => sGet_nil hs ho hi hb)
  have HN2 := hide (fun (W : World) (P : Nat → Prop) (o i b : Value) (hs : SIn W P x o i b) => sFlush_nil hs ho hi hb)
  have HN3 := hide (fun (W : World) (P : Nat → Prop) (o i b : Value) (hs : SIn W P x o i b) => sClose_nil hs ho hi hb)
  have HCk := hide (fun (W : World) (oa ia ba : Option Addr) (oc ic bc : Nat) => rcheck11_any x oa ia ba oc ic bc W hi hb)
  generalize x.refuse false = r at *
  generalize (if x.may = true then (0 : Int) else 51) = q at *
  have HQR := hide hqr
  clear hqr
  go_enter Tryz.func5, Tryz.ntmps5
  have HW : Hid (Below w.heap.size w w) := hide (Below.refl _ _)
  have hA := recv_below w (Obj.cells #[.bool x.rd, .bool x.wt, .int .i64 x.mode, .int .i64 x.size, .slice s1 x.out.length s4, .slice s2 x.inn.length s5, .slice s3 x.back.length s6, .int .i64 x.dir, .bool x.fin, .bool x.bad, .bool x.closed] 52)
  have HS := hide (RSt.new w x (.slice s1 x.out.length s4) (.slice s2 x.inn.length s5) (.slice s3 x.back.length s6))
  replace HW := hide (HW.out.trans (hA.mono HW.out.size))
  clear hA
  obtain ⟨c0, c1, c2, c3, c4, c5, c6, c7, c8, c9, c10⟩ := HS.out.cs
  go_wp2_with fail
  clear c0 c1 c2 c3 c4 c5 c6 c7 c8 c9 c10
  generalize w.alloc (Obj.cells #[.bool x.rd, .bool x.wt, .int .i64 x.mode, .int .i64 x.size, .slice s1 x.out.length s4, .slice s2 x.inn.length s5, .slice s3 x.back.length s6, .int .i64 x.dir, .bool x.fin, .bool x.bad, .bool x.closed] 52) = w0 at *
  refine (salive_any _).mono ?_
  rintro _ w1 ⟨rfl, hB⟩
  replace HW := hide (HW.out.trans (hB.mono HW.out.size))
  replace HS := hide (HS.out.below hB)
  clear hB
  have cl := conv_lit w1 #[.int .u8 97, .int .u8 98, .int .u8 99] 3 w1.heap.size 3 rfl rfl
  simp only [Nat.reduceAdd] at cl
  have hb1 := Te_lit_bys w1 [97, 98, 99] #[.int .u8 97, .int .u8 98, .int .u8 99] 3 w1.heap.size (3, 4) rfl rfl rfl
  have hB := recv_below w1 (Obj.cells #[.int .u8 97, .int .u8 98, .int .u8 99] 5 (3, 4))
  have HM := hide (make_growing_e soP _ _ _ _ _ _ (show PltIn _ soP (.slice (some ⟨w1.heap.size, 0, none⟩) 3 3) (.slice none 0 0) (.slice none 0 0) (.slice none 0 0) (.slice none 0 0) from ⟨⟨_, _, rfl, hb1, Nat.le_refl _⟩, rows_ans (.inl ⟨rfl, rfl⟩), rows_ints (.inl ⟨rfl, rfl⟩), .inl ⟨rfl, rfl⟩, .inl ⟨rfl, rfl⟩⟩) (by kernel_rfl) (show I64 0 from ⟨by decide, by decide⟩))
  replace HW := hide (HW.out.trans (hB.mono HW.out.size))
  replace HS := hide (HS.out.below hB)
  clear hB hb1
  go_wp2_with fail
  clear cl
  generalize w1.alloc (Obj.cells #[.int .u8 97, .int .u8 98, .int .u8 99] 5 (3, 4)) = w2 at *
  refine HM.out.mono ?_
  rintro _ w3 ⟨hB, h2⟩
  clear HM
  have z3 := hB.size
  have zw : w.heap.size ≤ w2.heap.size := HW.out.size
  replace HW := hide (HW.out.trans (hB.mono HW.out.size))
  replace HS := hide (HS.out.below hB)
  clear hB
  rcases h2 with ⟨h2, -⟩ | ⟨mb, hmb, rfl, hMd⟩
  · exact absurd so_gre h2
  obtain ⟨σ, D, T, v, gp, fr, fw, fs, A, B, ok, Md, s0, K, hPP, hMd, -, hMc, -, G, hG, hGs⟩ := hMd
  have HG2 : Hid (G 4 s0) := hide (ok_down hG.less s0 4 _ (by decide) (hGs so_pan))
  have HBe := hide hG
  have HM0 := hide (hMc w3 hMd).1
  have HMl : Hid (mb < w3.heap.size) := hide (World.block_lt_of_cell? _ _ HM0.out)
  obtain ⟨O, Q, hA, -, hO, -⟩ := hPP
  have HOl : Hid (∀ j, O j → mb + 1 ≤ j ∧ j < w3.heap.size) := hide (fun j e => ⟨(hO j e).1, (hO j e).2.1⟩)
  have HA := hide hA
  clear hMd hMc hG hGs hA hO Q
  have HGv := hide (fun W (hs : SIn W (fun _ => True) x (.slice s1 x.out.length s4) (.slice s2 x.inn.length s5) (.slice s3 x.back.length s6)) => given_any x _ _ _ _ W hs ho hi hb)
  obtain ⟨c0, c1, c2, c3, c4, c5, c6, c7, c8, c9, c10⟩ := HS.out.cs
  go_wp2_with fail
  clear c0 c1 c2 c3 c4 c5 c6 c7 c8 c9 c10
  refine (HGv.out _ (HI0.out.below HW.out)).mono ?_
  rintro _ w4 ⟨o1, i1, b1, rfl, y1, y2, y3, hB, hAp⟩
  obtain ⟨g1, g4, rfl⟩ := owns_slice y1
  obtain ⟨g2, g5, rfl⟩ := owns_slice y2
  obtain ⟨g3, g6, rfl⟩ := owns_slice y3
  have HX : Hid (Own3 w3.heap.size w4 x (.slice g1 x.out.length g4) (.slice g2 x.inn.length g5) (.slice g3 x.back.length g6)) := hide ⟨y1, y2, y3, hAp⟩
  have HXl := hide HX.out.lt
  have HXu : Hid (Ub w4.heap.size (.slice g1 x.out.length g4) (.slice g2 x.inn.length g5) (.slice g3 x.back.length g6)) := hide ⟨fun k e => (HXl.out.1 k e).2, fun k e => (HXl.out.2.1 k e).2, fun k e => (HXl.out.2.2 k e).2⟩
  have z4 := hB.size
  replace HW := hide (HW.out.trans (hB.mono HW.out.size))
  replace HS := hide (HS.out.below hB)
  replace HM0 := hide ((hB.cell (World.block_lt_of_cell? _ _ HM0.out)).trans HM0.out)
  replace HA := hide ((K.oA s0).keep HA.out (fun j _ hl => hB.block j hl) hB.size)
  clear y1 y2 y3 hB hAp HGv
  have hA := recv_below w4 (Obj.cells #[.bool x.rd, .bool x.wt, .int .i64 x.mode, .int .i64 x.size, .slice g1 x.out.length g4, .slice g2 x.inn.length g5, .slice g3 x.back.length g6, .int .i64 x.dir, .bool x.fin, .bool x.bad, .bool x.closed] 58)
  have HG := hide (StAt.new w4 x (.slice g1 x.out.length g4) (.slice g2 x.inn.length g5) (.slice g3 x.back.length g6))
  replace HW := hide (HW.out.trans (hA.mono HW.out.size))
  replace HS := hide (HS.out.below hA)
  replace HM0 := hide ((hA.cell (World.block_lt_of_cell? _ _ HM0.out)).trans HM0.out)
  replace HA := hide ((K.oA s0).keep HA.out (fun j _ hl => hA.block j hl) hA.size)
  replace HX := hide (HX.out.below hA)
  clear hA
  have z5 : w4.heap.size < (w4.alloc (Obj.cells #[.bool x.rd, .bool x.wt, .int .i64 x.mode, .int .i64 x.size, .slice g1 x.out.length g4, .slice g2 x.inn.length g5, .slice g3 x.back.length g6, .int .i64 x.dir, .bool x.fin, .bool x.bad, .bool x.closed] 58)).heap.size := HG.out.lt
  obtain ⟨c0, c1, c2, c3, c4, c5, c6, c7, c8, c9, c10⟩ := HG.out.cs
  go_wp2_with fail
  clear c0 c1 c2 c3 c4 c5 c6 c7 c8 c9 c10
  generalize w4.alloc (Obj.cells #[.bool x.rd, .bool x.wt, .int .i64 x.mode, .int .i64 x.size, .slice g1 x.out.length g4, .slice g2 x.inn.length g5, .slice g3 x.back.length g6, .int .i64 x.dir, .bool x.fin, .bool x.bad, .bool x.closed] 58) = w5 at *
  refine (HN0.out _ _ _ _ _ HX.out.sin).mono ?_
  rintro _ w6 ⟨na1, na2, na3, na4, na5, na6, rfl, hB⟩
  have z6 := hB.size
  replace HW := hide (HW.out.trans (hB.mono HW.out.size))
  replace HS := hide (HS.out.below hB)
  replace HM0 := hide ((hB.cell (World.block_lt_of_cell? _ _ HM0.out)).trans HM0.out)
  replace HA := hide ((K.oA s0).keep HA.out (fun j _ hl => hB.block j hl) hB.size)
  replace HX := hide (HX.out.below hB)
  replace HG := hide (HG.out.below hB)
  clear hB HN0
  have hA := recv_below w6 (Obj.cells #[.bool x.rd, .bool x.wt, .int .i64 x.mode, .int .i64 x.size, .slice na1 x.out.length na4, .slice na2 x.inn.length na5, .slice na3 x.back.length na6, .int .i64 x.dir, .bool x.fin, .bool x.bad, .bool x.closed] 58)
  have HZ0 := hide (StAt.new w6 x (.slice na1 x.out.length na4) (.slice na2 x.inn.length na5) (.slice na3 x.back.length na6))
  replace HW := hide (HW.out.trans (hA.mono HW.out.size))
  replace HS := hide (HS.out.below hA)
  replace HM0 := hide ((hA.cell (World.block_lt_of_cell? _ _ HM0.out)).trans HM0.out)
  replace HA := hide ((K.oA s0).keep HA.out (fun j _ hl => hA.block j hl) hA.size)
  replace HX := hide (HX.out.below hA)
  replace HG := hide (HG.out.below hA)
  clear hA
  clear HZ0
  have z7 := (recv_below w6 (Obj.cells #[.bool x.rd, .bool x.wt, .int .i64 x.mode, .int .i64 x.size, .slice na1 x.out.length na4, .slice na2 x.inn.length na5, .slice na3 x.back.length na6, .int .i64 x.dir, .bool x.fin, .bool x.bad, .bool x.closed] 58)).size
  obtain ⟨c0, c1, c2, c3, c4, c5, c6, c7, c8, c9, c10⟩ := HG.out.cs
  go_wp2_with fail
  clear c0 c1 c2 c3 c4 c5 c6 c7 c8 c9 c10
  generalize w6.alloc (Obj.cells #[.bool x.rd, .bool x.wt, .int .i64 x.mode, .int .i64 x.size, .slice na1 x.out.length na4, .slice na2 x.inn.length na5, .slice na3 x.back.length na6, .int .i64 x.dir, .bool x.fin, .bool x.bad, .bool x.closed] 58) = w7 at *
  refine (HN1.out _ _ _ _ _ HX.out.sin).mono ?_
  rintro _ w8 ⟨nb1, nb2, nb3, nb4, nb5, nb6, rfl, hB⟩
  have z8 := hB.size
  replace HW := hide (HW.out.trans (hB.mono HW.out.size))
  replace HS := hide (HS.out.below hB)
  replace HM0 := hide ((hB.cell (World.block_lt_of_cell? _ _ HM0.out)).trans HM0.out)
  replace HA := hide ((K.oA s0).keep HA.out (fun j _ hl => hB.block j hl) hB.size)
  replace HX := hide (HX.out.below hB)
  replace HG := hide (HG.out.below hB)
  clear hB HN1
  have hA := recv_below w8 (Obj.cells #[.bool x.rd, .bool x.wt, .int .i64 x.mode, .int .i64 x.size, .slice nb1 x.out.length nb4, .slice nb2 x.inn.length nb5, .slice nb3 x.back.length nb6, .int .i64 x.dir, .bool x.fin, .bool x.bad, .bool x.closed] 58)
  have HZ1 := hide (StAt.new w8 x (.slice nb1 x.out.length nb4) (.slice nb2 x.inn.length nb5) (.slice nb3 x.back.length nb6))
  replace HW := hide (HW.out.trans (hA.mono HW.out.size))
  replace HS := hide (HS.out.below hA)
  replace HM0 := hide ((hA.cell (World.block_lt_of_cell? _ _ HM0.out)).trans HM0.out)
  replace HA := hide ((K.oA s0).keep HA.out (fun j _ hl => hA.block j hl) hA.size)
  replace HX := hide (HX.out.below hA)
  replace HG := hide (HG.out.below hA)
  clear hA
  clear HZ1
  have z9 := (recv_below w8 (Obj.cells #[.bool x.rd, .bool x.wt, .int .i64 x.mode, .int .i64 x.size, .slice nb1 x.out.length nb4, .slice nb2 x.inn.length nb5, .slice nb3 x.back.length nb6, .int .i64 x.dir, .bool x.fin, .bool x.bad, .bool x.closed] 58)).size
  obtain ⟨c0, c1, c2, c3, c4, c5, c6, c7, c8, c9, c10⟩ := HG.out.cs
  go_wp2_with fail
  clear c0 c1 c2 c3 c4 c5 c6 c7 c8 c9 c10
  generalize w8.alloc (Obj.cells #[.bool x.rd, .bool x.wt, .int .i64 x.mode, .int .i64 x.size, .slice nb1 x.out.length nb4, .slice nb2 x.inn.length nb5, .slice nb3 x.back.length nb6, .int .i64 x.dir, .bool x.fin, .bool x.bad, .bool x.closed] 58) = w9 at *
  refine (HN2.out _ _ _ _ _ HX.out.sin).mono ?_
  rintro _ w10 ⟨nc1, nc2, nc3, nc4, nc5, nc6, rfl, hB⟩
  have z10 := hB.size
  replace HW := hide (HW.out.trans (hB.mono HW.out.size))
  replace HS := hide (HS.out.below hB)
  replace HM0 := hide ((hB.cell (World.block_lt_of_cell? _ _ HM0.out)).trans HM0.out)
  replace HA := hide ((K.oA s0).keep HA.out (fun j _ hl => hB.block j hl) hB.size)
  replace HX := hide (HX.out.below hB)
  replace HG := hide (HG.out.below hB)
  clear hB HN2
  have hA := recv_below w10 (Obj.cells #[.bool x.rd, .bool x.wt, .int .i64 x.mode, .int .i64 x.size, .slice nc1 x.out.length nc4, .slice nc2 x.inn.length nc5, .slice nc3 x.back.length nc6, .int .i64 x.dir, .bool x.fin, .bool x.bad, .bool x.closed] 58)
  have HZ2 := hide (StAt.new w10 x (.slice nc1 x.out.length nc4) (.slice nc2 x.inn.length nc5) (.slice nc3 x.back.length nc6))
  replace HW := hide (HW.out.trans (hA.mono HW.out.size))
  replace HS := hide (HS.out.below hA)
  replace HM0 := hide ((hA.cell (World.block_lt_of_cell? _ _ HM0.out)).trans HM0.out)
  replace HA := hide ((K.oA s0).keep HA.out (fun j _ hl => hA.block j hl) hA.size)
  replace HX := hide (HX.out.below hA)
  replace HG := hide (HG.out.below hA)
  clear hA
  clear HZ2
  have z11 := (recv_below w10 (Obj.cells #[.bool x.rd, .bool x.wt, .int .i64 x.mode, .int .i64 x.size, .slice nc1 x.out.length nc4, .slice nc2 x.inn.length nc5, .slice nc3 x.back.length nc6, .int .i64 x.dir, .bool x.fin, .bool x.bad, .bool x.closed] 58)).size
  obtain ⟨c0, c1, c2, c3, c4, c5, c6, c7, c8, c9, c10⟩ := HG.out.cs
  go_wp2_with fail
  clear c0 c1 c2 c3 c4 c5 c6 c7 c8 c9 c10
  generalize w10.alloc (Obj.cells #[.bool x.rd, .bool x.wt, .int .i64 x.mode, .int .i64 x.size, .slice nc1 x.out.length nc4, .slice nc2 x.inn.length nc5, .slice nc3 x.back.length nc6, .int .i64 x.dir, .bool x.fin, .bool x.bad, .bool x.closed] 58) = w11 at *
  refine (HN3.out _ _ _ _ _ HX.out.sin).mono ?_
  rintro _ w12 ⟨nd1, nd2, nd3, nd4, nd5, nd6, rfl, hB⟩
  have z12 := hB.size
  replace HW := hide (HW.out.trans (hB.mono HW.out.size))
  replace HS := hide (HS.out.below hB)
  replace HM0 := hide ((hB.cell (World.block_lt_of_cell? _ _ HM0.out)).trans HM0.out)
  replace HA := hide ((K.oA s0).keep HA.out (fun j _ hl => hB.block j hl) hB.size)
  replace HX := hide (HX.out.below hB)
  replace HG := hide (HG.out.below hB)
  clear hB HN3
  have hA := recv_below w12 (Obj.cells #[.bool x.rd, .bool x.wt, .int .i64 x.mode, .int .i64 x.size, .slice nd1 x.out.length nd4, .slice nd2 x.inn.length nd5, .slice nd3 x.back.length nd6, .int .i64 x.dir, .bool x.fin, .bool x.bad, .bool x.closed] 58)
  have HZ3 := hide (StAt.new w12 x (.slice nd1 x.out.length nd4) (.slice nd2 x.inn.length nd5) (.slice nd3 x.back.length nd6))
  replace HW := hide (HW.out.trans (hA.mono HW.out.size))
  replace HS := hide (HS.out.below hA)
  replace HM0 := hide ((hA.cell (World.block_lt_of_cell? _ _ HM0.out)).trans HM0.out)
  replace HA := hide ((K.oA s0).keep HA.out (fun j _ hl => hA.block j hl) hA.size)
  replace HX := hide (HX.out.below hA)
  replace HG := hide (HG.out.below hA)
  clear hA
  clear HZ3
  have z13 := (recv_below w12 (Obj.cells #[.bool x.rd, .bool x.wt, .int .i64 x.mode, .int .i64 x.size, .slice nd1 x.out.length nd4, .slice nd2 x.inn.length nd5, .slice nd3 x.back.length nd6, .int .i64 x.dir, .bool x.fin, .bool x.bad, .bool x.closed] 58)).size
  obtain ⟨c0, c1, c2, c3, c4, c5, c6, c7, c8, c9, c10⟩ := HS.out.cs
  go_wp2_with fail
  clear c0 c1 c2 c3 c4 c5 c6 c7 c8 c9 c10
  generalize w12.alloc (Obj.cells #[.bool x.rd, .bool x.wt, .int .i64 x.mode, .int .i64 x.size, .slice nd1 x.out.length nd4, .slice nd2 x.inn.length nd5, .slice nd3 x.back.length nd6, .int .i64 x.dir, .bool x.fin, .bool x.bad, .bool x.closed] 58) = w13 at *
  refine (HCk.out _ _ _ _ _ _ _).mono ?_
  rintro _ w14 ⟨rfl, hB⟩
  have z14 := hB.size
  replace HW := hide (HW.out.trans (hB.mono HW.out.size))
  replace HS := hide (HS.out.below hB)
  replace HM0 := hide ((hB.cell (World.block_lt_of_cell? _ _ HM0.out)).trans HM0.out)
  replace HA := hide ((K.oA s0).keep HA.out (fun j _ hl => hB.block j hl) hB.size)
  replace HX := hide (HX.out.below hB)
  replace HG := hide (HG.out.below hB)
  clear hB HCk
  go_upto_if 65 with fail
  go_cut [18] (fun s18 wx => s18 = .int .i64 r ∧ wx = w14)
  case first =>
    rcases HQR.out with ⟨rfl, rfl⟩ | ⟨rfl, rfl⟩
    all_goals
      go_wp2
      go_meet
      exact ⟨rfl, rfl⟩
  case rest =>
  obtain ⟨rfl, hwc⟩ := hcut
  rw [hwc]
  clear hwc HQR
  obtain ⟨c0, c1, c2, c3, c4, c5, c6, c7, c8, c9, c10⟩ := HG.out.cs
  go_upto_region 15 with (first | (go_at_call 22; refine (num_st _ _).mono ?_; rintro _ _ ⟨rfl, rfl⟩) | fail)
  clear c0 c1 c2 c3 c4 c5 c6 c7 c8 c9 c10
  have hmb3 : mb < w3.heap.size := HMl.out
  have hng : ¬ O w4.heap.size := fun e => by have := (HOl.out _ e).2; omega
  have hnm : ¬ O mb := fun e => by have := (HOl.out _ e).1; omega
  have HOw : Hid (∀ j, O j → j < w14.heap.size) := hide (fun j e => by have := (HOl.out j e).2; omega)
  have HP := hide (fun (W : World) (hW : Below w14.heap.size w14 W) => sGet_any (pk_raw K) (fun s => K.oA s) HBe.out (HX.out.below hW).sin ((K.oA s0).keep HA.out (fun j _ hl => hW.block j hl) hW.size) (fun j e => Nat.lt_of_lt_of_le (HOw.out j e) hW.size) (ok_down HBe.out.less s0 2 4 (by decide) HG2.out) ho hi hb)
  have HLy : Hid ((x.get D.raw s0).1.out.length ≤ 140737488351232 ∧ (x.get D.raw s0).1.inn.length ≤ 140737488351232 ∧ (x.get D.raw s0).1.back.length ≤ 140737488351232) := hide (may_lens (by decide) (fun h => (get_may D.raw s0 h).1) (get_not D.raw s0) ho hi hb)
  have HGy := hide (get_bear HBe.out (n := 2) x HG2.out)
  generalize x.get D.raw s0 = X at *
  obtain ⟨y, cy, ey, sy⟩ := X
  simp only at HP HLy HGy
  have hgl := HG.out.lt
  have hml : mb < w14.heap.size := World.block_lt_of_cell? _ _ HM0.out
  have HSn : Hid (∀ W W', Below w14.heap.size w14 W → Turned O W W' → StAt W' w4.heap.size x (.slice g1 x.out.length g4) (.slice g2 x.inn.length g5) (.slice g3 x.back.length g6) ∧ W'.cell? ⟨mb, 0, none⟩ = some (.iface T v)) := hide (fun W W' hW hT => ⟨(hT.block _ (Nat.lt_of_lt_of_le hgl hW.size) hng).trans (HG.out.below hW), hT.cell ((hW.cell (p := ⟨mb, 0, none⟩) hml).trans HM0.out) hnm⟩)
  have HSt : Hid (∀ W W', StAt W w4.heap.size x (.slice g1 x.out.length g4) (.slice g2 x.inn.length g5) (.slice g3 x.back.length g6) ∧ W.cell? ⟨mb, 0, none⟩ = some (.iface T v) → Turned (fun k => k = w14.heap.size) W W' → StAt W' w4.heap.size x (.slice g1 x.out.length g4) (.slice g2 x.inn.length g5) (.slice g3 x.back.length g6) ∧ W'.cell? ⟨mb, 0, none⟩ = some (.iface T v)) := hide (fun W W' h hT => ⟨(hT.block _ h.1.lt (by omega)).trans h.1, hT.cell h.2 (by show ¬ mb = w14.heap.size; omega)⟩)
  go_cut [19] (fun p19 wx => ∃ (gy : Nat) (O1 : Nat → Prop) (a1 a2 a3 : Option Addr) (k1 k2 k3 : Nat), p19 = .pointer (some ⟨gy, 0, none⟩) ∧ Hid (Got (fun w O s => A s w O) w14.drew O O1 wx gy y sy (.slice a1 y.out.length k1) (.slice a2 y.inn.length k2) (.slice a3 y.back.length k3)))
  case first =>
    refine wp_region_noPanic ?_
    refine wp_region_held_drew (S := fun W => StAt W w4.heap.size x (.slice g1 x.out.length g4) (.slice g2 x.inn.length g5) (.slice g3 x.back.length g6) ∧ W.cell? ⟨mb, 0, none⟩ = some (.iface T v)) (by kernel_rfl) (⟨HG.out.below (Below.refl _ _).drew, HM0.out⟩) (fun hHeld => ?_)
    refine wpAnyH_take (i := 0) (oi := ?_) (v := ?_) ?_ (by kernel_rfl) (by kernel_rfl) (by kernel_rfl) (fun _ _ _ h => (h : False).elim) (Or.inl ⟨?_, ?_⟩) hHeld ?_
    rotate_left 2
    · (simp only [List.getElem?_toArray, List.getElem?_cons_zero]; rfl)
    · rfl
    · (intro W hSw; obtain ⟨hq1, hq2⟩ := hSw; obtain ⟨m0, m1, m2, m3, m4, m5, m6, m7, m8, m9, m10⟩ := hq1.cs; go_simp <;> with_reducible rfl)
    try simp only [Act.put, List.setIfInBounds_toArray, List.set_cons_zero, List.set_cons_succ]
    refine wpAnyH_take (i := 1) (oi := ?_) (v := ?_) ?_ (by kernel_rfl) (by kernel_rfl) (by kernel_rfl) (fun _ _ _ h => (h : False).elim) (Or.inl ⟨?_, ?_⟩) hHeld ?_
    rotate_left 2
    · (simp only [List.getElem?_toArray, List.getElem?_cons_zero, List.getElem?_cons_succ]; rfl)
    · rfl
    · (intro W hSw; obtain ⟨hq1, hq2⟩ := hSw; obtain ⟨m0, m1, m2, m3, m4, m5, m6, m7, m8, m9, m10⟩ := hq1.cs; go_simp <;> with_reducible rfl)
    try simp only [Act.put, List.setIfInBounds_toArray, List.set_cons_zero, List.set_cons_succ]
    refine wpAnyH_take (i := 2) (oi := ?_) (v := ?_) ?_ (by kernel_rfl) (by kernel_rfl) (by kernel_rfl) (fun _ _ _ h => (h : False).elim) (Or.inl ⟨?_, ?_⟩) hHeld ?_
    rotate_left 2
    · (simp only [List.getElem?_toArray, List.getElem?_cons_zero, List.getElem?_cons_succ]; rfl)
    · rfl
    · (intro W hSw; obtain ⟨hq1, hq2⟩ := hSw; obtain ⟨m0, m1, m2, m3, m4, m5, m6, m7, m8, m9, m10⟩ := hq1.cs; go_simp <;> with_reducible rfl)
    try simp only [Act.put, List.setIfInBounds_toArray, List.set_cons_zero, List.set_cons_succ]
    refine wpAnyH_take (i := 3) (oi := ?_) (v := ?_) ?_ (by kernel_rfl) (by kernel_rfl) (by kernel_rfl) (fun _ _ _ h => (h : False).elim) (Or.inl ⟨?_, ?_⟩) hHeld ?_
    rotate_left 2
    · (simp only [List.getElem?_toArray, List.getElem?_cons_zero, List.getElem?_cons_succ]; rfl)
    · rfl
    · (intro W hSw; obtain ⟨hq1, hq2⟩ := hSw; obtain ⟨m0, m1, m2, m3, m4, m5, m6, m7, m8, m9, m10⟩ := hq1.cs; go_simp <;> with_reducible rfl)
    try simp only [Act.put, List.setIfInBounds_toArray, List.set_cons_zero, List.set_cons_succ]
    refine wpAnyH_take (i := 4) (oi := ?_) (v := ?_) ?_ (by kernel_rfl) (by kernel_rfl) (by kernel_rfl) (fun _ _ _ h => (h : False).elim) (Or.inl ⟨?_, ?_⟩) hHeld ?_
    rotate_left 2
    · (simp only [List.getElem?_toArray, List.getElem?_cons_zero, List.getElem?_cons_succ]; rfl)
    · rfl
    · (intro W hSw; obtain ⟨hq1, hq2⟩ := hSw; obtain ⟨m0, m1, m2, m3, m4, m5, m6, m7, m8, m9, m10⟩ := hq1.cs; go_simp <;> with_reducible rfl)
    try simp only [Act.put, List.setIfInBounds_toArray, List.set_cons_zero, List.set_cons_succ]
    refine wpAnyH_ready (rs := [5, 10]) (by kernel_rfl) (by simp) ?_
    refine AllReadyH.cons (o := ?_) ?_ (fun K' hK => ?_) (AllReadyH.cons (o := ?_) ?_ (fun K' hK => ?_) AllReadyH.nil)
    rotate_left 1
    · (simp only [List.getElem?_toArray, List.getElem?_cons_zero, List.getElem?_cons_succ]; rfl)
    · go_simp
      go_at_call 29
      refine (HP.out _ ((Below.refl _ _).drew)).mono ?_
      rintro _ w5' ⟨o', i', b'', rfl, hS⟩
      obtain ⟨a1, k1, rfl, -⟩ := hS.choose_spec.1.so
      obtain ⟨a2, k2, rfl, -⟩ := hS.choose_spec.1.si
      obtain ⟨a3, k3, rfl, -⟩ := hS.choose_spec.1.sb
      have hT5 : Turned _ w14.drew w5' := (by obtain ⟨_, _, _, _, _, t⟩ := hS; exact t)
      have HS5 := hide hS
      clear hS
      have h9 := HSn.out _ w5' ((Below.refl _ _).drew) hT5
      refine hK.out _ _ (h9) (fun hHeld2 => ?_)
      clear hK K' hHeld
      have hHeld := hHeld2
      clear hHeld2
      try simp only [Act.put, List.setIfInBounds_toArray, List.set_cons_zero, List.set_cons_succ]
      refine wpAnyH_take (i := 6) (oi := ?_) (v := ?_) ?_ (by kernel_rfl) (by kernel_rfl) (by kernel_rfl) (fun _ _ _ h => (h : False).elim) (Or.inl ⟨?_, ?_⟩) hHeld ?_
      rotate_left 2
      · (simp only [List.getElem?_toArray, List.getElem?_cons_zero, List.getElem?_cons_succ]; rfl)
      · rfl
      · (intro W hSw; obtain ⟨hq1, hq2⟩ := hSw; obtain ⟨m0, m1, m2, m3, m4, m5, m6, m7, m8, m9, m10⟩ := hq1.cs; go_simp <;> with_reducible rfl)
      try simp only [Act.put, List.setIfInBounds_toArray, List.set_cons_zero, List.set_cons_succ]
      refine wpAnyH_take (i := 7) (oi := ?_) (v := ?_) ?_ (by kernel_rfl) (by kernel_rfl) (by kernel_rfl) (fun _ _ _ h => (h : False).elim) (Or.inl ⟨?_, ?_⟩) hHeld ?_
      rotate_left 2
      · (simp only [List.getElem?_toArray, List.getElem?_cons_zero, List.getElem?_cons_succ]; rfl)
      · rfl
      · (intro W hSw; obtain ⟨hq1, hq2⟩ := hSw; obtain ⟨m0, m1, m2, m3, m4, m5, m6, m7, m8, m9, m10⟩ := hq1.cs; go_simp <;> with_reducible rfl)
      try simp only [Act.put, List.setIfInBounds_toArray, List.set_cons_zero, List.set_cons_succ]
      refine wpAnyH_take (i := 8) (oi := ?_) (v := ?_) ?_ (by kernel_rfl) (by kernel_rfl) (by kernel_rfl) (fun _ _ _ h => (h : False).elim) (Or.inl ⟨?_, ?_⟩) hHeld ?_
      rotate_left 2
      · (simp only [List.getElem?_toArray, List.getElem?_cons_zero, List.getElem?_cons_succ]; rfl)
      · rfl
      · (intro W hSw; obtain ⟨hq1, hq2⟩ := hSw; obtain ⟨m0, m1, m2, m3, m4, m5, m6, m7, m8, m9, m10⟩ := hq1.cs; go_simp <;> with_reducible rfl)
      try simp only [Act.put, List.setIfInBounds_toArray, List.set_cons_zero, List.set_cons_succ]
      refine wpAnyH_take (i := 9) (oi := ?_) (v := ?_) ?_ (by kernel_rfl) (by kernel_rfl) (by kernel_rfl) (fun _ _ _ h => (h : False).elim) (Or.inl ⟨?_, ?_⟩) hHeld ?_
      rotate_left 2
      · (simp only [List.getElem?_toArray, List.getElem?_cons_zero, List.getElem?_cons_succ]; rfl)
      · rfl
      · (intro W hSw; obtain ⟨hq1, hq2⟩ := hSw; obtain ⟨m0, m1, m2, m3, m4, m5, m6, m7, m8, m9, m10⟩ := hq1.cs; go_simp <;> with_reducible rfl)
      try simp only [Act.put, List.setIfInBounds_toArray, List.set_cons_zero, List.set_cons_succ]
      refine wpAnyH_ready (rs := [10]) (by kernel_rfl) (by simp) ?_
      refine AllReadyH.cons (o := ?_) ?_ (fun K' hK => ?_) AllReadyH.nil
      rotate_left 1
      · (simp only [List.getElem?_toArray, List.getElem?_cons_zero, List.getElem?_cons_succ]; rfl)
      go_simp
      refine hK.out _ _ (⟨h9.1.below (recv_below w5' (Obj.cells #[.bool false, .bool false, .int .i64 0, .int .i64 0, .slice none 0 0, .slice none 0 0, .slice none 0 0, .int .i64 0, .bool false, .bool false, .bool false] 58)), ((recv_below w5' (Obj.cells #[.bool false, .bool false, .int .i64 0, .int .i64 0, .slice none 0 0, .slice none 0 0, .slice none 0 0, .int .i64 0, .bool false, .bool false, .bool false] 58)).cell (p := ⟨mb, 0, none⟩) (World.block_lt_of_cell? w5' _ h9.2)).trans h9.2⟩) (fun hHeld2 => ?_)
      clear hK K' hHeld
      have hHeld := hHeld2
      clear hHeld2
      try simp only [Act.put, List.setIfInBounds_toArray, List.set_cons_zero, List.set_cons_succ]
      refine wpAnyH_ready (rs := [11]) (by kernel_rfl) (by simp) ?_
      refine AllReadyH.cons (o := ?_) ?_ (fun K' hK => ?_) AllReadyH.nil
      rotate_left 1
      · (simp only [List.getElem?_toArray, List.getElem?_cons_zero, List.getElem?_cons_succ]; rfl)
      go_simp
      refine hK.out _ _ (⟨h9.1.below (recv_below w5' (Obj.cells #[.bool y.rd, .bool y.wt, .int .i64 y.mode, .int .i64 y.size, .slice a1 y.out.length k1, .slice a2 y.inn.length k2, .slice a3 y.back.length k3, .int .i64 y.dir, .bool y.fin, .bool y.bad, .bool y.closed] 58)), ((recv_below w5' (Obj.cells #[.bool y.rd, .bool y.wt, .int .i64 y.mode, .int .i64 y.size, .slice a1 y.out.length k1, .slice a2 y.inn.length k2, .slice a3 y.back.length k3, .int .i64 y.dir, .bool y.fin, .bool y.bad, .bool y.closed] 58)).cell (p := ⟨mb, 0, none⟩) (World.block_lt_of_cell? w5' _ h9.2)).trans h9.2⟩) (fun hHeld2 => ?_)
      clear hK K' hHeld
      have hHeld := hHeld2
      clear hHeld2
      try simp only [Act.put, List.setIfInBounds_toArray, List.set_cons_zero, List.set_cons_succ]
      refine wpAnyH_take (i := 12) (oi := ?_) (v := ?_) ?_ (by kernel_rfl) (by kernel_rfl) (by kernel_rfl) (fun _ _ _ h => (h : False).elim) (Or.inl ⟨?_, ?_⟩) hHeld ?_
      rotate_left 2
      · (simp only [List.getElem?_toArray, List.getElem?_cons_zero, List.getElem?_cons_succ]; rfl)
      · rfl
      · (intro W hSw; obtain ⟨hq1, hq2⟩ := hSw; obtain ⟨m0, m1, m2, m3, m4, m5, m6, m7, m8, m9, m10⟩ := hq1.cs; go_simp <;> with_reducible rfl)
      try simp only [Act.put, List.setIfInBounds_toArray, List.set_cons_zero, List.set_cons_succ]
      refine wpAnyH_take (i := 13) (oi := ?_) (v := ?_) ?_ (by kernel_rfl) (by kernel_rfl) (by kernel_rfl) (fun _ _ _ h => (h : False).elim) (Or.inl ⟨?_, ?_⟩) hHeld ?_
      rotate_left 2
      · (simp only [List.getElem?_toArray, List.getElem?_cons_zero, List.getElem?_cons_succ]; rfl)
      · rfl
      · (intro W hSw; obtain ⟨hq1, hq2⟩ := hSw; obtain ⟨m0, m1, m2, m3, m4, m5, m6, m7, m8, m9, m10⟩ := hq1.cs; go_simp <;> with_reducible rfl)
      try simp only [Act.put, List.setIfInBounds_toArray, List.set_cons_zero, List.set_cons_succ]
      refine wpAnyH_done (by kernel_rfl) ?_ _
      refine NoPanic.normal ?_
      clear hHeld h9 hT5
      go_wp2
      go_meet
      obtain ⟨O', hg⟩ := Got.behind (fun s => K.oA s) HS5.out
      exact ⟨_, O', _, _, _, _, _, _, rfl, hide hg⟩
    rotate_left 1
    · (simp only [List.getElem?_toArray, List.getElem?_cons_zero, List.getElem?_cons_succ]; rfl)
    · go_simp
      refine hK.out _ _ (HSn.out _ _ ((Below.refl _ w14).alloc (Nat.le_refl _) (Obj.cells #[.bool false, .bool false, .int .i64 0, .int .i64 0, .slice none 0 0, .slice none 0 0, .slice none 0 0, .int .i64 0, .bool false, .bool false, .bool false] 58)).drew (Turned.refl _ _)) (fun hHeld2 => ?_)
      clear hK K' hHeld
      have hHeld := hHeld2
      clear hHeld2
      try simp only [Act.put, List.setIfInBounds_toArray, List.set_cons_zero, List.set_cons_succ]
      refine wpAnyH_ready (rs := [5]) (by kernel_rfl) (by simp) ?_
      refine AllReadyH.cons (o := ?_) ?_ (fun K' hK => ?_) AllReadyH.nil
      rotate_left 1
      · (simp only [List.getElem?_toArray, List.getElem?_cons_zero, List.getElem?_cons_succ]; rfl)
      go_simp
      go_at_call 29
      refine (HP.out _ (((Below.refl _ w14).alloc (Nat.le_refl _) (Obj.cells #[.bool false, .bool false, .int .i64 0, .int .i64 0, .slice none 0 0, .slice none 0 0, .slice none 0 0, .int .i64 0, .bool false, .bool false, .bool false] 58)).drew)).mono ?_
      rintro _ w5' ⟨o', i', b'', rfl, hS⟩
      obtain ⟨a1, k1, rfl, -⟩ := hS.choose_spec.1.so
      obtain ⟨a2, k2, rfl, -⟩ := hS.choose_spec.1.si
      obtain ⟨a3, k3, rfl, -⟩ := hS.choose_spec.1.sb
      have hT5 : Turned _ (w14.alloc (Obj.cells #[.bool false, .bool false, .int .i64 0, .int .i64 0, .slice none 0 0, .slice none 0 0, .slice none 0 0, .int .i64 0, .bool false, .bool false, .bool false] 58)).drew w5' := (by obtain ⟨_, _, _, _, _, t⟩ := hS; exact t)
      have HS5 := hide hS
      clear hS
      have h9 := HSn.out _ w5' (((Below.refl _ w14).alloc (Nat.le_refl _) (Obj.cells #[.bool false, .bool false, .int .i64 0, .int .i64 0, .slice none 0 0, .slice none 0 0, .slice none 0 0, .int .i64 0, .bool false, .bool false, .bool false] 58)).drew) hT5
      refine hK.out _ _ (h9) (fun hHeld2 => ?_)
      clear hK K' hHeld
      have hHeld := hHeld2
      clear hHeld2
      try simp only [Act.put, List.setIfInBounds_toArray, List.set_cons_zero, List.set_cons_succ]
      refine wpAnyH_take (i := 6) (oi := ?_) (v := ?_) ?_ (by kernel_rfl) (by kernel_rfl) (by kernel_rfl) (fun _ _ _ h => (h : False).elim) (Or.inl ⟨?_, ?_⟩) hHeld ?_
      rotate_left 2
      · (simp only [List.getElem?_toArray, List.getElem?_cons_zero, List.getElem?_cons_succ]; rfl)
      · rfl
      · (intro W hSw; obtain ⟨hq1, hq2⟩ := hSw; obtain ⟨m0, m1, m2, m3, m4, m5, m6, m7, m8, m9, m10⟩ := hq1.cs; go_simp <;> with_reducible rfl)
      try simp only [Act.put, List.setIfInBounds_toArray, List.set_cons_zero, List.set_cons_succ]
      refine wpAnyH_take (i := 7) (oi := ?_) (v := ?_) ?_ (by kernel_rfl) (by kernel_rfl) (by kernel_rfl) (fun _ _ _ h => (h : False).elim) (Or.inl ⟨?_, ?_⟩) hHeld ?_
      rotate_left 2
      · (simp only [List.getElem?_toArray, List.getElem?_cons_zero, List.getElem?_cons_succ]; rfl)
      · rfl
      · (intro W hSw; obtain ⟨hq1, hq2⟩ := hSw; obtain ⟨m0, m1, m2, m3, m4, m5, m6, m7, m8, m9, m10⟩ := hq1.cs; go_simp <;> with_reducible rfl)
      try simp only [Act.put, List.setIfInBounds_toArray, List.set_cons_zero, List.set_cons_succ]
      refine wpAnyH_take (i := 8) (oi := ?_) (v := ?_) ?_ (by kernel_rfl) (by kernel_rfl) (by kernel_rfl) (fun _ _ _ h => (h : False).elim) (Or.inl ⟨?_, ?_⟩) hHeld ?_
      rotate_left 2
      · (simp only [List.getElem?_toArray, List.getElem?_cons_zero, List.getElem?_cons_succ]; rfl)
      · rfl
      · (intro W hSw; obtain ⟨hq1, hq2⟩ := hSw; obtain ⟨m0, m1, m2, m3, m4, m5, m6, m7, m8, m9, m10⟩ := hq1.cs; go_simp <;> with_reducible rfl)
      try simp only [Act.put, List.setIfInBounds_toArray, List.set_cons_zero, List.set_cons_succ]
      refine wpAnyH_take (i := 9) (oi := ?_) (v := ?_) ?_ (by kernel_rfl) (by kernel_rfl) (by kernel_rfl) (fun _ _ _ h => (h : False).elim) (Or.inl ⟨?_, ?_⟩) hHeld ?_
      rotate_left 2
      · (simp only [List.getElem?_toArray, List.getElem?_cons_zero, List.getElem?_cons_succ]; rfl)
      · rfl
      · (intro W hSw; obtain ⟨hq1, hq2⟩ := hSw; obtain ⟨m0, m1, m2, m3, m4, m5, m6, m7, m8, m9, m10⟩ := hq1.cs; go_simp <;> with_reducible rfl)
      try simp only [Act.put, List.setIfInBounds_toArray, List.set_cons_zero, List.set_cons_succ]
      have hz9 : w5'.heap[w14.heap.size]? = some (Obj.cells #[.bool false, .bool false, .int .i64 0, .int .i64 0, .slice none 0 0, .slice none 0 0, .slice none 0 0, .int .i64 0, .bool false, .bool false, .bool false] 58) := (hT5.block w14.heap.size (by show _ < (w14.alloc (Obj.cells #[.bool false, .bool false, .int .i64 0, .int .i64 0, .slice none 0 0, .slice none 0 0, .slice none 0 0, .int .i64 0, .bool false, .bool false, .bool false] 58)).heap.size; rw [World.size_alloc]; omega) (fun e => by have := HOw.out _ e; omega)).trans (heap_alloc_new w14 (Obj.cells #[.bool false, .bool false, .int .i64 0, .int .i64 0, .slice none 0 0, .slice none 0 0, .slice none 0 0, .int .i64 0, .bool false, .bool false, .bool false] 58))
      obtain ⟨e1, e2⟩ := st_fill w5' w14.heap.size y (.slice a1 y.out.length k1) (.slice a2 y.inn.length k2) (.slice a3 y.back.length k3) hz9
      have HS9 := hide (HSt.out _ _ h9 e2)
      have u0' := frozen_of_row w5' w14.heap.size 0 _ _ hz9
      have u1' := frozen_of_row w5' w14.heap.size 1 _ _ hz9
      have u2' := frozen_of_row w5' w14.heap.size 2 _ _ hz9
      have u3' := frozen_of_row w5' w14.heap.size 3 _ _ hz9
      have u4' := frozen_of_row w5' w14.heap.size 4 _ _ hz9
      have u5' := frozen_of_row w5' w14.heap.size 5 _ _ hz9
      have u6' := frozen_of_row w5' w14.heap.size 6 _ _ hz9
      have u7' := frozen_of_row w5' w14.heap.size 7 _ _ hz9
      have u8' := frozen_of_row w5' w14.heap.size 8 _ _ hz9
      have u9' := frozen_of_row w5' w14.heap.size 9 _ _ hz9
      have u10' := frozen_of_row w5' w14.heap.size 10 _ _ hz9
      have z0' := cell_of_row w5' w14.heap.size 0 _ _ _ hz9
      have z1' := cell_of_row w5' w14.heap.size 1 _ _ _ hz9
      have z2' := cell_of_row w5' w14.heap.size 2 _ _ _ hz9
      have z3' := cell_of_row w5' w14.heap.size 3 _ _ _ hz9
      have z4' := cell_of_row w5' w14.heap.size 4 _ _ _ hz9
      have z5' := cell_of_row w5' w14.heap.size 5 _ _ _ hz9
      have z6' := cell_of_row w5' w14.heap.size 6 _ _ _ hz9
      have z7' := cell_of_row w5' w14.heap.size 7 _ _ _ hz9
      have z8' := cell_of_row w5' w14.heap.size 8 _ _ _ hz9
      have z9' := cell_of_row w5' w14.heap.size 9 _ _ _ hz9
      have z10' := cell_of_row w5' w14.heap.size 10 _ _ _ hz9
      simp at z0' z1' z2' z3' z4' z5' z6' z7' z8' z9' z10'
      clear e1 e2 hz9 hT5
      refine wpAnyH_ready (rs := [11]) (by kernel_rfl) (by simp) ?_
      refine AllReadyH.cons (o := ?_) ?_ (fun K' hK => ?_) AllReadyH.nil
      rotate_left 1
      · (simp only [List.getElem?_toArray, List.getElem?_cons_zero, List.getElem?_cons_succ]; rfl)
      go_simp
      refine hK.out _ _ (HS9.out) (fun hHeld2 => ?_)
      clear hK K' hHeld
      have hHeld := hHeld2
      clear hHeld2
      try simp only [Act.put, List.setIfInBounds_toArray, List.set_cons_zero, List.set_cons_succ]
      clear u0' z0' u1' z1' u2' z2' u3' z3' u4' z4' u5' z5' u6' z6' u7' z7' u8' z8' u9' z9' u10' z10'
      refine wpAnyH_take (i := 12) (oi := ?_) (v := ?_) ?_ (by kernel_rfl) (by kernel_rfl) (by kernel_rfl) (fun _ _ _ h => (h : False).elim) (Or.inl ⟨?_, ?_⟩) hHeld ?_
      rotate_left 2
      · (simp only [List.getElem?_toArray, List.getElem?_cons_zero, List.getElem?_cons_succ]; rfl)
      · rfl
      · (intro W hSw; obtain ⟨hq1, hq2⟩ := hSw; obtain ⟨m0, m1, m2, m3, m4, m5, m6, m7, m8, m9, m10⟩ := hq1.cs; go_simp <;> with_reducible rfl)
      try simp only [Act.put, List.setIfInBounds_toArray, List.set_cons_zero, List.set_cons_succ]
      refine wpAnyH_take (i := 13) (oi := ?_) (v := ?_) ?_ (by kernel_rfl) (by kernel_rfl) (by kernel_rfl) (fun _ _ _ h => (h : False).elim) (Or.inl ⟨?_, ?_⟩) hHeld ?_
      rotate_left 2
      · (simp only [List.getElem?_toArray, List.getElem?_cons_zero, List.getElem?_cons_succ]; rfl)
      · rfl
      · (intro W hSw; obtain ⟨hq1, hq2⟩ := hSw; obtain ⟨m0, m1, m2, m3, m4, m5, m6, m7, m8, m9, m10⟩ := hq1.cs; go_simp <;> with_reducible rfl)
      try simp only [Act.put, List.setIfInBounds_toArray, List.set_cons_zero, List.set_cons_succ]
      refine wpAnyH_done (by kernel_rfl) ?_ _
      refine NoPanic.normal ?_
      clear hHeld h9
      go_wp2
      go_meet
      obtain ⟨O', hg⟩ := Got.ahead (W0 := w14.drew) (fun s => K.oA s) HS5.out HOw.out
      exact ⟨_, O', _, _, _, _, _, _, rfl, hide hg⟩
  case rest =>
  obtain ⟨gy, O1, u1, u2, u3, u4, u5, u6, rfl, HY⟩ := hcut
  obtain ⟨w15, hq⟩ : ∃ W, W = wc := ⟨_, rfl⟩
  subst hq
  clear HSn HSt HP
  have hTy := HY.out.t
  have z15 : w14.heap.size ≤ w15.heap.size := hTy.size
  have hmk : ∀ k, O k → mb + 1 ≤ k := fun k e => (HOl.out k e).1
  have hlo : ∀ k, w3.heap.size ≤ k → k < w14.heap.size → ¬ O k := fun k h1 _ e => by have := (HOl.out k e).2; omega
  replace HW := hide ((HW.out.trans ((Below.refl _ w14).drew.mono HW.out.size)).trans ((hTy.below (B := mb + 1) hmk (by show mb + 1 ≤ w14.heap.size; omega)).mono (by omega)))
  replace HS : Hid (RSt w15 w.heap.size x (.slice s1 x.out.length s4) (.slice s2 x.inn.length s5) (.slice s3 x.back.length s6)) := hide ((hTy.block _ (Array.getElem?_eq_some_iff.1 HS.out).1 (fun e => by have := hmk _ e; omega)).trans HS.out)
  replace HX := hide (Own3.turned2 ⟨HX.out.below (Below.refl _ _).drew, HXu.out⟩ hTy (fun k h1 h2 => hlo k h1 (by omega))).1
  replace HG : Hid (StAt w15 w4.heap.size x (.slice g1 x.out.length g4) (.slice g2 x.inn.length g5) (.slice g3 x.back.length g6)) := hide ((hTy.block _ HG.out.lt (hlo _ (by omega) (by omega))).trans HG.out)
  replace HM0 : Hid (w15.cell? ⟨mb, 0, none⟩ = some (.iface T v)) := hide (hTy.cell HM0.out hnm)
  have HA1 := hide HY.out.raw
  have HYs := hide HY.out.st
  have HYl : Hid (SIn w15 (fun k => w14.heap.size ≤ k ∧ ¬ O1 k ∧ k < w15.heap.size) y (.slice u1 y.out.length u4) (.slice u2 y.inn.length u5) (.slice u3 y.back.length u6)) := hide HY.out.ls
  have HO1 : Hid (∀ k, O1 k → O k ∨ w14.heap.size ≤ k) := hide HY.out.oo
  have HOw1 := hide HY.out.ol
  have hgy1 : ¬ O1 gy := HY.out.og
  have hgy : w14.heap.size ≤ gy := HY.out.g0
  have hmk1 : ∀ k, O1 k → mb + 1 ≤ k := fun k e => (HO1.out k e).elim (hmk k) (fun e => by omega)
  have hlo1 : ∀ k, w3.heap.size ≤ k → k < w14.heap.size → ¬ O1 k := fun k h1 h2 e => (HO1.out k e).elim (hlo k h1 h2) (fun e => by omega)
  have hng1 : ¬ O1 w4.heap.size := hlo1 _ (by omega) (by omega)
  have hnm1 : ¬ O1 mb := fun e => by have := hmk1 _ e; omega
  clear HA HY hTy hng hnm HOw hgl hml
  have HP := hide (fun (W : World) (hW : Below w15.heap.size w15 W) => sPut_any (pk_raw K) (fun s => K.oA s) HBe.out c (HX.out.below hW).sin ((K.oA sy).keep HA1.out (fun j _ hl => hW.block j hl) hW.size) (fun j e => Nat.lt_of_lt_of_le (HOw1.out j e) hW.size) HGy.out ho hi hb)
  have HLz : Hid ((x.put D.raw sy c).1.out.length ≤ 140737488351232 ∧ (x.put D.raw sy c).1.inn.length ≤ 140737488351232 ∧ (x.put D.raw sy c).1.back.length ≤ 140737488351232) := hide (may_lens (by decide) (fun h => (put_may D.raw sy c h).1) (put_not D.raw sy c) ho hi hb)
  generalize x.put D.raw sy c = X at *
  obtain ⟨zs, ez, sz⟩ := X
  simp only at HP HLz
  have hng := hng1
  have hnm := hnm1
  have hgl := HG.out.lt
  have hml : mb < w15.heap.size := World.block_lt_of_cell? _ _ HM0.out
  have HSn : Hid (∀ W W', Below w15.heap.size w15 W → Turned O1 W W' → StAt W' w4.heap.size x (.slice g1 x.out.length g4) (.slice g2 x.inn.length g5) (.slice g3 x.back.length g6) ∧ W'.cell? ⟨mb, 0, none⟩ = some (.iface T v)) := hide (fun W W' hW hT => ⟨(hT.block _ (Nat.lt_of_lt_of_le hgl hW.size) hng).trans (HG.out.below hW), hT.cell ((hW.cell (p := ⟨mb, 0, none⟩) hml).trans HM0.out) hnm⟩)
  have HSt : Hid (∀ W W', StAt W w4.heap.size x (.slice g1 x.out.length g4) (.slice g2 x.inn.length g5) (.slice g3 x.back.length g6) ∧ W.cell? ⟨mb, 0, none⟩ = some (.iface T v) → Turned (fun k => k = w15.heap.size) W W' → StAt W' w4.heap.size x (.slice g1 x.out.length g4) (.slice g2 x.inn.length g5) (.slice g3 x.back.length g6) ∧ W'.cell? ⟨mb, 0, none⟩ = some (.iface T v)) := hide (fun W W' h hT => ⟨(hT.block _ h.1.lt (by omega)).trans h.1, hT.cell h.2 (by show ¬ mb = w15.heap.size; omega)⟩)
  obtain ⟨c0, c1, c2, c3, c4, c5, c6, c7, c8, c9, c10⟩ := HG.out.cs
  go_upto_region 16 with fail
  clear c0 c1 c2 c3 c4 c5 c6 c7 c8 c9 c10
  go_cut [22] (fun p22 wx => ∃ (gz : Nat) (O2 : Nat → Prop) (a1 a2 a3 : Option Addr) (k1 k2 k3 : Nat), p22 = .pointer (some ⟨gz, 0, none⟩) ∧ Hid (Got (fun w O s => A s w O) w15.drew O1 O2 wx gz zs sz (.slice a1 zs.out.length k1) (.slice a2 zs.inn.length k2) (.slice a3 zs.back.length k3)))
  case first =>
    refine wp_region_noPanic ?_
    refine wp_region_held_drew (S := fun W => StAt W w4.heap.size x (.slice g1 x.out.length g4) (.slice g2 x.inn.length g5) (.slice g3 x.back.length g6) ∧ W.cell? ⟨mb, 0, none⟩ = some (.iface T v)) (by kernel_rfl) (⟨HG.out.below (Below.refl _ _).drew, HM0.out⟩) (fun hHeld => ?_)
    refine wpAnyH_take (i := 0) (oi := ?_) (v := ?_) ?_ (by kernel_rfl) (by kernel_rfl) (by kernel_rfl) (fun _ _ _ h => (h : False).elim) (Or.inl ⟨?_, ?_⟩) hHeld ?_
    rotate_left 2
    · (simp only [List.getElem?_toArray, List.getElem?_cons_zero]; rfl)
    · rfl
    · (intro W hSw; obtain ⟨hq1, hq2⟩ := hSw; obtain ⟨m0, m1, m2, m3, m4, m5, m6, m7, m8, m9, m10⟩ := hq1.cs; go_simp <;> with_reducible rfl)
    try simp only [Act.put, List.setIfInBounds_toArray, List.set_cons_zero, List.set_cons_succ]
    refine wpAnyH_take (i := 1) (oi := ?_) (v := ?_) ?_ (by kernel_rfl) (by kernel_rfl) (by kernel_rfl) (fun _ _ _ h => (h : False).elim) (Or.inl ⟨?_, ?_⟩) hHeld ?_
    rotate_left 2
    · (simp only [List.getElem?_toArray, List.getElem?_cons_zero, List.getElem?_cons_succ]; rfl)
    · rfl
    · (intro W hSw; obtain ⟨hq1, hq2⟩ := hSw; obtain ⟨m0, m1, m2, m3, m4, m5, m6, m7, m8, m9, m10⟩ := hq1.cs; go_simp <;> with_reducible rfl)
    try simp only [Act.put, List.setIfInBounds_toArray, List.set_cons_zero, List.set_cons_succ]
    refine wpAnyH_take (i := 2) (oi := ?_) (v := ?_) ?_ (by kernel_rfl) (by kernel_rfl) (by kernel_rfl) (fun _ _ _ h => (h : False).elim) (Or.inl ⟨?_, ?_⟩) hHeld ?_
    rotate_left 2
    · (simp only [List.getElem?_toArray, List.getElem?_cons_zero, List.getElem?_cons_succ]; rfl)
    · rfl
    · (intro W hSw; obtain ⟨hq1, hq2⟩ := hSw; obtain ⟨m0, m1, m2, m3, m4, m5, m6, m7, m8, m9, m10⟩ := hq1.cs; go_simp <;> with_reducible rfl)
    try simp only [Act.put, List.setIfInBounds_toArray, List.set_cons_zero, List.set_cons_succ]
    refine wpAnyH_take (i := 3) (oi := ?_) (v := ?_) ?_ (by kernel_rfl) (by kernel_rfl) (by kernel_rfl) (fun _ _ _ h => (h : False).elim) (Or.inl ⟨?_, ?_⟩) hHeld ?_
    rotate_left 2
    · (simp only [List.getElem?_toArray, List.getElem?_cons_zero, List.getElem?_cons_succ]; rfl)
    · rfl
    · (intro W hSw; obtain ⟨hq1, hq2⟩ := hSw; obtain ⟨m0, m1, m2, m3, m4, m5, m6, m7, m8, m9, m10⟩ := hq1.cs; go_simp <;> with_reducible rfl)
    try simp only [Act.put, List.setIfInBounds_toArray, List.set_cons_zero, List.set_cons_succ]
    refine wpAnyH_take (i := 4) (oi := ?_) (v := ?_) ?_ (by kernel_rfl) (by kernel_rfl) (by kernel_rfl) (fun _ _ _ h => (h : False).elim) (Or.inl ⟨?_, ?_⟩) hHeld ?_
    rotate_left 2
    · (simp only [List.getElem?_toArray, List.getElem?_cons_zero, List.getElem?_cons_succ]; rfl)
    · rfl
    · (intro W hSw; obtain ⟨hq1, hq2⟩ := hSw; obtain ⟨m0, m1, m2, m3, m4, m5, m6, m7, m8, m9, m10⟩ := hq1.cs; go_simp <;> with_reducible rfl)
    try simp only [Act.put, List.setIfInBounds_toArray, List.set_cons_zero, List.set_cons_succ]
    refine wpAnyH_take (i := 5) (oi := ?_) (v := ?_) ?_ (by kernel_rfl) (by kernel_rfl) (by kernel_rfl) (fun _ _ _ h => (h : False).elim) (Or.inl ⟨?_, ?_⟩) hHeld ?_
    rotate_left 2
    · (simp only [List.getElem?_toArray, List.getElem?_cons_zero, List.getElem?_cons_succ]; rfl)
    · rfl
    · (intro W hSw; obtain ⟨hq1, hq2⟩ := hSw; obtain ⟨m0, m1, m2, m3, m4, m5, m6, m7, m8, m9, m10⟩ := hq1.cs; go_simp <;> with_reducible rfl)
    try simp only [Act.put, List.setIfInBounds_toArray, List.set_cons_zero, List.set_cons_succ]
    refine wpAnyH_ready (rs := [6, 10]) (by kernel_rfl) (by simp) ?_
    refine AllReadyH.cons (o := ?_) ?_ (fun K' hK => ?_) (AllReadyH.cons (o := ?_) ?_ (fun K' hK => ?_) AllReadyH.nil)
    rotate_left 1
    · (simp only [List.getElem?_toArray, List.getElem?_cons_zero, List.getElem?_cons_succ]; rfl)
    · go_simp
      go_at_call 28
      refine (HP.out _ ((Below.refl _ _).drew)).mono ?_
      rintro _ w5' ⟨o', i', b'', rfl, hS⟩
      obtain ⟨a1, k1, rfl, -⟩ := hS.choose_spec.1.so
      obtain ⟨a2, k2, rfl, -⟩ := hS.choose_spec.1.si
      obtain ⟨a3, k3, rfl, -⟩ := hS.choose_spec.1.sb
      have hT5 : Turned _ w15.drew w5' := (by obtain ⟨_, _, _, _, _, t⟩ := hS; exact t)
      have HS5 := hide hS
      clear hS
      have h9 := HSn.out _ w5' ((Below.refl _ _).drew) hT5
      refine hK.out _ _ (h9) (fun hHeld2 => ?_)
      clear hK K' hHeld
      have hHeld := hHeld2
      clear hHeld2
      try simp only [Act.put, List.setIfInBounds_toArray, List.set_cons_zero, List.set_cons_succ]
      refine wpAnyH_take (i := 7) (oi := ?_) (v := ?_) ?_ (by kernel_rfl) (by kernel_rfl) (by kernel_rfl) (fun _ _ _ h => (h : False).elim) (Or.inl ⟨?_, ?_⟩) hHeld ?_
      rotate_left 2
      · (simp only [List.getElem?_toArray, List.getElem?_cons_zero, List.getElem?_cons_succ]; rfl)
      · rfl
      · (intro W hSw; obtain ⟨hq1, hq2⟩ := hSw; obtain ⟨m0, m1, m2, m3, m4, m5, m6, m7, m8, m9, m10⟩ := hq1.cs; go_simp <;> with_reducible rfl)
      try simp only [Act.put, List.setIfInBounds_toArray, List.set_cons_zero, List.set_cons_succ]
      refine wpAnyH_take (i := 8) (oi := ?_) (v := ?_) ?_ (by kernel_rfl) (by kernel_rfl) (by kernel_rfl) (fun _ _ _ h => (h : False).elim) (Or.inl ⟨?_, ?_⟩) hHeld ?_
      rotate_left 2
      · (simp only [List.getElem?_toArray, List.getElem?_cons_zero, List.getElem?_cons_succ]; rfl)
      · rfl
      · (intro W hSw; obtain ⟨hq1, hq2⟩ := hSw; obtain ⟨m0, m1, m2, m3, m4, m5, m6, m7, m8, m9, m10⟩ := hq1.cs; go_simp <;> with_reducible rfl)
      try simp only [Act.put, List.setIfInBounds_toArray, List.set_cons_zero, List.set_cons_succ]
      refine wpAnyH_take (i := 9) (oi := ?_) (v := ?_) ?_ (by kernel_rfl) (by kernel_rfl) (by kernel_rfl) (fun _ _ _ h => (h : False).elim) (Or.inl ⟨?_, ?_⟩) hHeld ?_
      rotate_left 2
      · (simp only [List.getElem?_toArray, List.getElem?_cons_zero, List.getElem?_cons_succ]; rfl)
      · rfl
      · (intro W hSw; obtain ⟨hq1, hq2⟩ := hSw; obtain ⟨m0, m1, m2, m3, m4, m5, m6, m7, m8, m9, m10⟩ := hq1.cs; go_simp <;> with_reducible rfl)
      try simp only [Act.put, List.setIfInBounds_toArray, List.set_cons_zero, List.set_cons_succ]
      refine wpAnyH_ready (rs := [10]) (by kernel_rfl) (by simp) ?_
      refine AllReadyH.cons (o := ?_) ?_ (fun K' hK => ?_) AllReadyH.nil
      rotate_left 1
      · (simp only [List.getElem?_toArray, List.getElem?_cons_zero, List.getElem?_cons_succ]; rfl)
      go_simp
      refine hK.out _ _ (⟨h9.1.below (recv_below w5' (Obj.cells #[.bool false, .bool false, .int .i64 0, .int .i64 0, .slice none 0 0, .slice none 0 0, .slice none 0 0, .int .i64 0, .bool false, .bool false, .bool false] 58)), ((recv_below w5' (Obj.cells #[.bool false, .bool false, .int .i64 0, .int .i64 0, .slice none 0 0, .slice none 0 0, .slice none 0 0, .int .i64 0, .bool false, .bool false, .bool false] 58)).cell (p := ⟨mb, 0, none⟩) (World.block_lt_of_cell? w5' _ h9.2)).trans h9.2⟩) (fun hHeld2 => ?_)
      clear hK K' hHeld
      have hHeld := hHeld2
      clear hHeld2
      try simp only [Act.put, List.setIfInBounds_toArray, List.set_cons_zero, List.set_cons_succ]
      refine wpAnyH_ready (rs := [11]) (by kernel_rfl) (by simp) ?_
      refine AllReadyH.cons (o := ?_) ?_ (fun K' hK => ?_) AllReadyH.nil
      rotate_left 1
      · (simp only [List.getElem?_toArray, List.getElem?_cons_zero, List.getElem?_cons_succ]; rfl)
      go_simp
      refine hK.out _ _ (⟨h9.1.below (recv_below w5' (Obj.cells #[.bool zs.rd, .bool zs.wt, .int .i64 zs.mode, .int .i64 zs.size, .slice a1 zs.out.length k1, .slice a2 zs.inn.length k2, .slice a3 zs.back.length k3, .int .i64 zs.dir, .bool zs.fin, .bool zs.bad, .bool zs.closed] 58)), ((recv_below w5' (Obj.cells #[.bool zs.rd, .bool zs.wt, .int .i64 zs.mode, .int .i64 zs.size, .slice a1 zs.out.length k1, .slice a2 zs.inn.length k2, .slice a3 zs.back.length k3, .int .i64 zs.dir, .bool zs.fin, .bool zs.bad, .bool zs.closed] 58)).cell (p := ⟨mb, 0, none⟩) (World.block_lt_of_cell? w5' _ h9.2)).trans h9.2⟩) (fun hHeld2 => ?_)
      clear hK K' hHeld
      have hHeld := hHeld2
      clear hHeld2
      try simp only [Act.put, List.setIfInBounds_toArray, List.set_cons_zero, List.set_cons_succ]
      refine wpAnyH_take (i := 12) (oi := ?_) (v := ?_) ?_ (by kernel_rfl) (by kernel_rfl) (by kernel_rfl) (fun _ _ _ h => (h : False).elim) (Or.inl ⟨?_, ?_⟩) hHeld ?_
      rotate_left 2
      · (simp only [List.getElem?_toArray, List.getElem?_cons_zero, List.getElem?_cons_succ]; rfl)
      · rfl
      · (intro W hSw; obtain ⟨hq1, hq2⟩ := hSw; obtain ⟨m0, m1, m2, m3, m4, m5, m6, m7, m8, m9, m10⟩ := hq1.cs; go_simp <;> with_reducible rfl)
      try simp only [Act.put, List.setIfInBounds_toArray, List.set_cons_zero, List.set_cons_succ]
      refine wpAnyH_done (by kernel_rfl) ?_ _
      refine NoPanic.normal ?_
      clear hHeld h9 hT5
      go_wp2
      go_meet
      obtain ⟨O', hg⟩ := Got.behind (fun s => K.oA s) HS5.out
      exact ⟨_, O', _, _, _, _, _, _, rfl, hide hg⟩
    rotate_left 1
    · (simp only [List.getElem?_toArray, List.getElem?_cons_zero, List.getElem?_cons_succ]; rfl)
    · go_simp
      refine hK.out _ _ (HSn.out _ _ ((Below.refl _ w15).alloc (Nat.le_refl _) (Obj.cells #[.bool false, .bool false, .int .i64 0, .int .i64 0, .slice none 0 0, .slice none 0 0, .slice none 0 0, .int .i64 0, .bool false, .bool false, .bool false] 58)).drew (Turned.refl _ _)) (fun hHeld2 => ?_)
      clear hK K' hHeld
      have hHeld := hHeld2
      clear hHeld2
      try simp only [Act.put, List.setIfInBounds_toArray, List.set_cons_zero, List.set_cons_succ]
      refine wpAnyH_ready (rs := [6]) (by kernel_rfl) (by simp) ?_
      refine AllReadyH.cons (o := ?_) ?_ (fun K' hK => ?_) AllReadyH.nil
      rotate_left 1
      · (simp only [List.getElem?_toArray, List.getElem?_cons_zero, List.getElem?_cons_succ]; rfl)
      go_simp
      go_at_call 28
      refine (HP.out _ (((Below.refl _ w15).alloc (Nat.le_refl _) (Obj.cells #[.bool false, .bool false, .int .i64 0, .int .i64 0, .slice none 0 0, .slice none 0 0, .slice none 0 0, .int .i64 0, .bool false, .bool false, .bool false] 58)).drew)).mono ?_
      rintro _ w5' ⟨o', i', b'', rfl, hS⟩
      obtain ⟨a1, k1, rfl, -⟩ := hS.choose_spec.1.so
      obtain ⟨a2, k2, rfl, -⟩ := hS.choose_spec.1.si
      obtain ⟨a3, k3, rfl, -⟩ := hS.choose_spec.1.sb
      have hT5 : Turned _ (w15.alloc (Obj.cells #[.bool false, .bool false, .int .i64 0, .int .i64 0, .slice none 0 0, .slice none 0 0, .slice none 0 0, .int .i64 0, .bool false, .bool false, .bool false] 58)).drew w5' := (by obtain ⟨_, _, _, _, _, t⟩ := hS; exact t)
      have HS5 := hide hS
      clear hS
      have h9 := HSn.out _ w5' (((Below.refl _ w15).alloc (Nat.le_refl _) (Obj.cells #[.bool false, .bool false, .int .i64 0, .int .i64 0, .slice none 0 0, .slice none 0 0, .slice none 0 0, .int .i64 0, .bool false, .bool false, .bool false] 58)).drew) hT5
      refine hK.out _ _ (h9) (fun hHeld2 => ?_)
      clear hK K' hHeld
      have hHeld := hHeld2
      clear hHeld2
      try simp only [Act.put, List.setIfInBounds_toArray, List.set_cons_zero, List.set_cons_succ]
      refine wpAnyH_take (i := 7) (oi := ?_) (v := ?_) ?_ (by kernel_rfl) (by kernel_rfl) (by kernel_rfl) (fun _ _ _ h => (h : False).elim) (Or.inl ⟨?_, ?_⟩) hHeld ?_
      rotate_left 2
      · (simp only [List.getElem?_toArray, List.getElem?_cons_zero, List.getElem?_cons_succ]; rfl)
      · rfl
      · (intro W hSw; obtain ⟨hq1, hq2⟩ := hSw; obtain ⟨m0, m1, m2, m3, m4, m5, m6, m7, m8, m9, m10⟩ := hq1.cs; go_simp <;> with_reducible rfl)
      try simp only [Act.put, List.setIfInBounds_toArray, List.set_cons_zero, List.set_cons_succ]
      refine wpAnyH_take (i := 8) (oi := ?_) (v := ?_) ?_ (by kernel_rfl) (by kernel_rfl) (by kernel_rfl) (fun _ _ _ h => (h : False).elim) (Or.inl ⟨?_, ?_⟩) hHeld ?_
      rotate_left 2
      · (simp only [List.getElem?_toArray, List.getElem?_cons_zero, List.getElem?_cons_succ]; rfl)
      · rfl
      · (intro W hSw; obtain ⟨hq1, hq2⟩ := hSw; obtain ⟨m0, m1, m2, m3, m4, m5, m6, m7, m8, m9, m10⟩ := hq1.cs; go_simp <;> with_reducible rfl)
      try simp only [Act.put, List.setIfInBounds_toArray, List.set_cons_zero, List.set_cons_succ]
      refine wpAnyH_take (i := 9) (oi := ?_) (v := ?_) ?_ (by kernel_rfl) (by kernel_rfl) (by kernel_rfl) (fun _ _ _ h => (h : False).elim) (Or.inl ⟨?_, ?_⟩) hHeld ?_
      rotate_left 2
      · (simp only [List.getElem?_toArray, List.getElem?_cons_zero, List.getElem?_cons_succ]; rfl)
      · rfl
      · (intro W hSw; obtain ⟨hq1, hq2⟩ := hSw; obtain ⟨m0, m1, m2, m3, m4, m5, m6, m7, m8, m9, m10⟩ := hq1.cs; go_simp <;> with_reducible rfl)
      try simp only [Act.put, List.setIfInBounds_toArray, List.set_cons_zero, List.set_cons_succ]
      have hz9 : w5'.heap[w15.heap.size]? = some (Obj.cells #[.bool false, .bool false, .int .i64 0, .int .i64 0, .slice none 0 0, .slice none 0 0, .slice none 0 0, .int .i64 0, .bool false, .bool false, .bool false] 58) := (hT5.block w15.heap.size (by show _ < (w15.alloc (Obj.cells #[.bool false, .bool false, .int .i64 0, .int .i64 0, .slice none 0 0, .slice none 0 0, .slice none 0 0, .int .i64 0, .bool false, .bool false, .bool false] 58)).heap.size; rw [World.size_alloc]; omega) (fun e => by have := HOw1.out _ e; omega)).trans (heap_alloc_new w15 (Obj.cells #[.bool false, .bool false, .int .i64 0, .int .i64 0, .slice none 0 0, .slice none 0 0, .slice none 0 0, .int .i64 0, .bool false, .bool false, .bool false] 58))
      obtain ⟨e1, e2⟩ := st_fill w5' w15.heap.size zs (.slice a1 zs.out.length k1) (.slice a2 zs.inn.length k2) (.slice a3 zs.back.length k3) hz9
      have HS9 := hide (HSt.out _ _ h9 e2)
      have u0' := frozen_of_row w5' w15.heap.size 0 _ _ hz9
      have u1' := frozen_of_row w5' w15.heap.size 1 _ _ hz9
      have u2' := frozen_of_row w5' w15.heap.size 2 _ _ hz9
      have u3' := frozen_of_row w5' w15.heap.size 3 _ _ hz9
      have u4' := frozen_of_row w5' w15.heap.size 4 _ _ hz9
      have u5' := frozen_of_row w5' w15.heap.size 5 _ _ hz9
      have u6' := frozen_of_row w5' w15.heap.size 6 _ _ hz9
      have u7' := frozen_of_row w5' w15.heap.size 7 _ _ hz9
      have u8' := frozen_of_row w5' w15.heap.size 8 _ _ hz9
      have u9' := frozen_of_row w5' w15.heap.size 9 _ _ hz9
      have u10' := frozen_of_row w5' w15.heap.size 10 _ _ hz9
      have z0' := cell_of_row w5' w15.heap.size 0 _ _ _ hz9
      have z1' := cell_of_row w5' w15.heap.size 1 _ _ _ hz9
      have z2' := cell_of_row w5' w15.heap.size 2 _ _ _ hz9
      have z3' := cell_of_row w5' w15.heap.size 3 _ _ _ hz9
      have z4' := cell_of_row w5' w15.heap.size 4 _ _ _ hz9
      have z5' := cell_of_row w5' w15.heap.size 5 _ _ _ hz9
      have z6' := cell_of_row w5' w15.heap.size 6 _ _ _ hz9
      have z7' := cell_of_row w5' w15.heap.size 7 _ _ _ hz9
      have z8' := cell_of_row w5' w15.heap.size 8 _ _ _ hz9
      have z9' := cell_of_row w5' w15.heap.size 9 _ _ _ hz9
      have z10' := cell_of_row w5' w15.heap.size 10 _ _ _ hz9
      simp at z0' z1' z2' z3' z4' z5' z6' z7' z8' z9' z10'
      clear e1 e2 hz9 hT5
      refine wpAnyH_ready (rs := [11]) (by kernel_rfl) (by simp) ?_
      refine AllReadyH.cons (o := ?_) ?_ (fun K' hK => ?_) AllReadyH.nil
      rotate_left 1
      · (simp only [List.getElem?_toArray, List.getElem?_cons_zero, List.getElem?_cons_succ]; rfl)
      go_simp
      refine hK.out _ _ (HS9.out) (fun hHeld2 => ?_)
      clear hK K' hHeld
      have hHeld := hHeld2
      clear hHeld2
      try simp only [Act.put, List.setIfInBounds_toArray, List.set_cons_zero, List.set_cons_succ]
      clear u0' z0' u1' z1' u2' z2' u3' z3' u4' z4' u5' z5' u6' z6' u7' z7' u8' z8' u9' z9' u10' z10'
      refine wpAnyH_take (i := 12) (oi := ?_) (v := ?_) ?_ (by kernel_rfl) (by kernel_rfl) (by kernel_rfl) (fun _ _ _ h => (h : False).elim) (Or.inl ⟨?_, ?_⟩) hHeld ?_
      rotate_left 2
      · (simp only [List.getElem?_toArray, List.getElem?_cons_zero, List.getElem?_cons_succ]; rfl)
      · rfl
      · (intro W hSw; obtain ⟨hq1, hq2⟩ := hSw; obtain ⟨m0, m1, m2, m3, m4, m5, m6, m7, m8, m9, m10⟩ := hq1.cs; go_simp <;> with_reducible rfl)
      try simp only [Act.put, List.setIfInBounds_toArray, List.set_cons_zero, List.set_cons_succ]
      refine wpAnyH_done (by kernel_rfl) ?_ _
      refine NoPanic.normal ?_
      clear hHeld h9
      go_wp2
      go_meet
      obtain ⟨O', hg⟩ := Got.ahead (W0 := w15.drew) (fun s => K.oA s) HS5.out HOw1.out
      exact ⟨_, O', _, _, _, _, _, _, rfl, hide hg⟩
  case rest =>
  obtain ⟨gz, O2, v1, v2, v3, v4, v5, v6, rfl, HZ⟩ := hcut
  obtain ⟨w16, hq⟩ : ∃ W, W = wc := ⟨_, rfl⟩
  subst hq
  clear HSn HSt HP HM0 HA1
  have hTz := HZ.out.t
  have z16 : w15.heap.size ≤ w16.heap.size := hTz.size
  have hlo2 : ∀ k, w3.heap.size ≤ k → k < w14.heap.size → ¬ O1 k := hlo1
  replace HW := hide ((HW.out.trans ((Below.refl _ w15).drew.mono HW.out.size)).trans ((hTz.below (B := mb + 1) hmk1 (by show mb + 1 ≤ w15.heap.size; omega)).mono (by omega)))
  replace HS : Hid (RSt w16 w.heap.size x (.slice s1 x.out.length s4) (.slice s2 x.inn.length s5) (.slice s3 x.back.length s6)) := hide ((hTz.block _ (Array.getElem?_eq_some_iff.1 HS.out).1 (fun e => by have := hmk1 _ e; omega)).trans HS.out)
  replace HX := hide (Own3.turned2 ⟨HX.out.below (Below.refl _ _).drew, HXu.out⟩ hTz (fun k h1 h2 => hlo1 k h1 (by omega))).1
  replace HG : Hid (StAt w16 w4.heap.size x (.slice g1 x.out.length g4) (.slice g2 x.inn.length g5) (.slice g3 x.back.length g6)) := hide ((hTz.block _ HG.out.lt (hlo1 _ (by omega) (by omega))).trans HG.out)
  replace HYs : Hid (StAt w16 gy y (.slice u1 y.out.length u4) (.slice u2 y.inn.length u5) (.slice u3 y.back.length u6)) := hide ((hTz.block _ HYs.out.lt hgy1).trans HYs.out)
  replace HYl := hide ((HYl.out.below (Below.refl _ _).drew).turned hTz (fun k e _ => e.2.1))
  replace HYl := hide (HYl.out.mono (Q := fun k => w14.heap.size ≤ k ∧ k < w15.heap.size) (fun k e => ⟨e.1, e.2.2⟩))
  have HZs := hide HZ.out.st
  have HZl : Hid (SIn w16 (fun k => w15.heap.size ≤ k ∧ k < w16.heap.size) zs (.slice v1 zs.out.length v4) (.slice v2 zs.inn.length v5) (.slice v3 zs.back.length v6)) := hide (HZ.out.ls.mono fun k e => ⟨e.1, e.2.2⟩)
  have hgz : w15.heap.size ≤ gz := HZ.out.g0
  have hgyl : gy < w16.heap.size := HYs.out.lt
  have hgzl : gz < w16.heap.size := HZs.out.lt
  clear HZ hTz hlo1 hlo2 hmk1 hng1 hnm1 hng hnm HO1 HOw1 hgl hml hlo hmk HBe HG2 HGy HOl hgy1
  obtain ⟨c0, c1, c2, c3, c4, c5, c6, c7, c8, c9, c10⟩ := HG.out.cs
  obtain ⟨d0, d1, d2, d3, d4, d5, d6, d7, d8, d9, d10⟩ := HS.out.cs
  go_wp2_with fail
  clear c0 c1 c2 c3 c4 c5 c6 c7 c8 c9 c10
  clear d0 d1 d2 d3 d4 d5 d6 d7 d8 d9 d10
  refine (ssame_any x _ _ _ _ _ _ _ _ _ HX.out.sin (HI0.out.below HW.out) ho hi hb).mono ?_
  rintro _ w17 ⟨rfl, hB⟩
  have z17 := hB.size
  replace HW := hide (HW.out.trans (hB.mono HW.out.size))
  replace HS := hide (HS.out.below hB)
  replace HX := hide (HX.out.below hB)
  replace HG := hide (HG.out.below hB)
  replace HYs := hide (HYs.out.below hB)
  replace HYl := hide (HYl.out.below hB)
  replace HZs := hide (HZs.out.below hB)
  replace HZl := hide (HZl.out.below hB)
  clear hB HI0
  obtain ⟨c0, c1, c2, c3, c4, c5, c6, c7, c8, c9, c10⟩ := HYs.out.cs
  obtain ⟨d0, d1, d2, d3, d4, d5, d6, d7, d8, d9, d10⟩ := HZs.out.cs
  go_upto_region 19 with fail
  clear c0 c1 c2 c3 c4 c5 c6 c7 c8 c9 c10
  clear d0 d1 d2 d3 d4 d5 d6 d7 d8 d9 d10
  go_cut [24, 25] (fun p24 p25 wx => ∃ (g4 g5 : Nat) (k1 k2 k3 l1 l2 l3 : Option Addr) (k4 k5 k6 l4 l5 l6 : Nat), p24 = .pointer (some ⟨g4, 0, none⟩) ∧ p25 = .pointer (some ⟨g5, 0, none⟩) ∧ Hid (StAt wx g4 y (.slice k1 y.out.length k4) (.slice k2 y.inn.length k5) (.slice k3 y.back.length k6)) ∧ Hid (StAt wx g5 zs (.slice l1 zs.out.length l4) (.slice l2 zs.inn.length l5) (.slice l3 zs.back.length l6)) ∧ Hid (Own3 w17.heap.size wx y (.slice k1 y.out.length k4) (.slice k2 y.inn.length k5) (.slice k3 y.back.length k6)) ∧ Hid (Own3 w17.heap.size wx zs (.slice l1 zs.out.length l4) (.slice l2 zs.inn.length l5) (.slice l3 zs.back.length l6)) ∧ Hid (Below w17.heap.size w17 wx) ∧ w17.heap.size ≤ g4 ∧ w17.heap.size ≤ g5)
  case first =>
    rename_i K9 a9 J9 K8 hJ9 hK9
    exact @so_r19 x c w w4 w14 w15 w16 w17 s1 s2 s3 u1 u2 u3 v1 v2 v3 g1 g2 g3 s4 s5 s6 u4 u5 u6 v4 v5 v6 g4 g5 g6 mb gy gz r y zs u9 u11 u14 u16 u20 u21 u23 u26 u27 u28 u29 u30 u31 u32 u33 u34 u35 u36 u37 u38 u39 u40 u41 u42 u43 u44 u45 u46 u47 u48 u49 u50 u51 u52 u53 u54 u55 u56 u57 u58 u59 u60 u61 u62 u63 u64 u65 u66 u67 u68 u69 u70 u71 u72 u73 u74 u75 u76 u77 u78 u79 u80 u81 u82 u83 u84 u85 u86 u87 u88 u89 u90 u91 u92 u93 u94 u95 u96 u97 u98 u99 u100 u101 u102 u103 u104 u105 u106 u107 u112 u113 u114 u115 u116 u117 u118 u119 u120 u121 u122 u123 u124 u125 u126 u127 u128 u129 u130 u131 u132 J9 K8 _ z17 hgyl hgzl HYs HYl HZs HZl HLy HLz hJ9 hK9
  case rest =>
  obtain ⟨q4, q5, k1, k2, k3, l1, l2, l3, k4, k5, k6, l4, l5, l6, rfl, rfl, HD4, HD5, HK, HL, HBc, hg4, hg5⟩ := hcut
  obtain ⟨w18, hq⟩ : ∃ W, W = wc := ⟨_, rfl⟩
  subst hq
  have z18 : w17.heap.size ≤ w18.heap.size := HBc.out.size
  replace HW := hide (HW.out.trans (HBc.out.mono HW.out.size))
  replace HS := hide (HS.out.below HBc.out)
  replace HX := hide (HX.out.below HBc.out)
  replace HG := hide (HG.out.below HBc.out)
  replace HYs := hide (HYs.out.below HBc.out)
  replace HYl := hide (HYl.out.below HBc.out)
  replace HZs := hide (HZs.out.below HBc.out)
  replace HZl := hide (HZl.out.below HBc.out)
  clear HBc HS
  have HAp := hide HX.out.2.2.2
  have HXo := hide HX.out.1
  have HXi := hide HX.out.2.1
  have HXb := hide HX.out.2.2.1
  have x4 := HG.out.cs.2.2.2.2.1
  clear HX
  go_wp2_with fail
  clear x4
  refine (Kp_spoil_turn _ _ _ _ w18 HXo.out (Kp_bv_ints _) (by unfold maxLen; omega)).mono ?_
  rintro _ w19 ⟨rfl, hT⟩
  have HT : Hid (Turned (fun k => w3.heap.size ≤ k ∧ k < w4.heap.size) w18 w19) := hide (hT.mono fun k e => HXl.out.1 k e)
  replace HXi := hide (owns_turned HXi.out hT fun k e e2 => (HAp.out.1 k e2).1 e)
  replace HXb := hide (owns_turned HXb.out hT fun k e e2 => (HAp.out.1 k e2).2 e)
  replace HG : Hid (StAt w19 w4.heap.size x (.slice g1 x.out.length g4) (.slice g2 x.inn.length g5) (.slice g3 x.back.length g6)) := hide ((hT.block _ HG.out.lt fun e2 => by have := HXl.out.1 _ e2; omega).trans HG.out)
  clear hT HXo
  have x5 := HG.out.cs.2.2.2.2.2.1
  go_wp2_with fail
  clear x5
  refine (Kp_spoil_turn _ _ _ _ w19 HXi.out (Kp_bv_ints _) (by unfold maxLen; omega)).mono ?_
  rintro _ w20 ⟨rfl, hT⟩
  replace HT := hide (HT.out.trans (hT.mono fun k e => (HXl.out.2.1 k e : (fun k => w3.heap.size ≤ k ∧ k < w4.heap.size) k)) (fun _ _ e => e))
  replace HXb := hide (owns_turned HXb.out hT fun k e e2 => HAp.out.2 k e2 e)
  replace HG : Hid (StAt w20 w4.heap.size x (.slice g1 x.out.length g4) (.slice g2 x.inn.length g5) (.slice g3 x.back.length g6)) := hide ((hT.block _ HG.out.lt fun e2 => by have := HXl.out.2.1 _ e2; omega).trans HG.out)
  clear hT HXi
  have x6 := HG.out.cs.2.2.2.2.2.2.1
  go_wp2_with fail
  clear x6
  refine (Kp_spoil_turn _ _ _ _ w20 HXb.out (Kp_bv_ints _) (by unfold maxLen; omega)).mono ?_
  rintro _ w21 ⟨rfl, hT⟩
  replace HT := hide (HT.out.trans (hT.mono fun k e => (HXl.out.2.2 k e : (fun k => w3.heap.size ≤ k ∧ k < w4.heap.size) k)) (fun _ _ e => e))
  clear hT HXb HG HAp
  have z21 : w18.heap.size ≤ w21.heap.size := HT.out.size
  have zz : w4.heap.size ≤ w14.heap.size := by omega
  replace HYl := hide (HYl.out.turned HT.out fun k e1 _ e2 => by
    have e1 : w14.heap.size ≤ k ∧ k < w15.heap.size := e1
    have e2 : w3.heap.size ≤ k ∧ k < w4.heap.size := e2
    omega)
  replace HZl := hide (HZl.out.turned HT.out fun k e1 _ e2 => by
    have e1 : w15.heap.size ≤ k ∧ k < w16.heap.size := e1
    have e2 : w3.heap.size ≤ k ∧ k < w4.heap.size := e2
    omega)
  have HKl := hide (HK.out.sin.turned HT.out fun k e1 _ e2 => by
    have e1 : w17.heap.size ≤ k ∧ k < w18.heap.size := e1
    have e2 : w3.heap.size ≤ k ∧ k < w4.heap.size := e2
    omega)
  have HLl := hide (HL.out.sin.turned HT.out fun k e1 _ e2 => by
    have e1 : w17.heap.size ≤ k ∧ k < w18.heap.size := e1
    have e2 : w3.heap.size ≤ k ∧ k < w4.heap.size := e2
    omega)
  replace HYs : Hid (StAt w21 gy y (.slice u1 y.out.length u4) (.slice u2 y.inn.length u5) (.slice u3 y.back.length u6)) := hide ((HT.out.block _ HYs.out.lt fun e2 => by have e2 : w3.heap.size ≤ gy ∧ gy < w4.heap.size := e2; omega).trans HYs.out)
  replace HZs : Hid (StAt w21 gz zs (.slice v1 zs.out.length v4) (.slice v2 zs.inn.length v5) (.slice v3 zs.back.length v6)) := hide ((HT.out.block _ HZs.out.lt fun e2 => by have e2 : w3.heap.size ≤ gz ∧ gz < w4.heap.size := e2; omega).trans HZs.out)
  replace HD4 : Hid (StAt w21 q4 y (.slice k1 y.out.length k4) (.slice k2 y.inn.length k5) (.slice k3 y.back.length k6)) := hide ((HT.out.block _ HD4.out.lt fun e2 => by have e2 : w3.heap.size ≤ q4 ∧ q4 < w4.heap.size := e2; omega).trans HD4.out)
  replace HD5 : Hid (StAt w21 q5 zs (.slice l1 zs.out.length l4) (.slice l2 zs.inn.length l5) (.slice l3 zs.back.length l6)) := hide ((HT.out.block _ HD5.out.lt fun e2 => by have e2 : w3.heap.size ≤ q5 ∧ q5 < w4.heap.size := e2; omega).trans HD5.out)
  replace HW := hide (HW.out.trans (HT.out.below (B := w.heap.size) (fun k e2 => by have e2 : w3.heap.size ≤ k ∧ k < w4.heap.size := e2; omega) HW.out.size))
  clear HT HK HL HXl HXu
  obtain ⟨c0, c1, c2, c3, c4, c5, c6, c7, c8, c9, c10⟩ := HYs.out.cs
  obtain ⟨d0, d1, d2, d3, d4, d5, d6, d7, d8, d9, d10⟩ := HD4.out.cs
  go_wp2_with fail
  clear c0 c1 c2 c3 c4 c5 c6 c7 c8 c9 c10
  clear d0 d1 d2 d3 d4 d5 d6 d7 d8 d9 d10
  refine (ssame_any y _ _ _ _ _ _ _ _ _ HYl.out HKl.out HLy.out.1 HLy.out.2.1 HLy.out.2.2).mono ?_
  rintro _ w22 ⟨rfl, hB⟩
  replace HW := hide (HW.out.trans (hB.mono HW.out.size))
  replace HZs := hide (HZs.out.below hB)
  replace HZl := hide (HZl.out.below hB)
  replace HD5 := hide (HD5.out.below hB)
  replace HLl := hide (HLl.out.below hB)
  clear hB HYs HD4 HYl HKl
  obtain ⟨c0, c1, c2, c3, c4, c5, c6, c7, c8, c9, c10⟩ := HZs.out.cs
  obtain ⟨d0, d1, d2, d3, d4, d5, d6, d7, d8, d9, d10⟩ := HD5.out.cs
  go_wp2_with fail
  clear c0 c1 c2 c3 c4 c5 c6 c7 c8 c9 c10
  clear d0 d1 d2 d3 d4 d5 d6 d7 d8 d9 d10
  refine (ssame_any zs _ _ _ _ _ _ _ _ _ HZl.out HLl.out HLz.out.1 HLz.out.2.1 HLz.out.2.2).mono ?_
  rintro _ w23 ⟨rfl, hB⟩
  replace HW := hide (HW.out.trans (hB.mono HW.out.size))
  clear hB
  go_wp2
  go_ret
  exact ⟨rfl, HW.out⟩
end Go.Proofs.YtdmkjbdlidadiaaGreat

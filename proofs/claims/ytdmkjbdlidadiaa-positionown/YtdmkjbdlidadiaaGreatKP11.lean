/- What the proof stands on, part 11: the contracts of the program's calls that it reaches. -/
import Derived.Test.YtdmkjbdlidadiaaGreatKP10
import Derived.KernelRfl
import Derived.Lib.SlBytesConst
/- Position: the law's num, alive. -/
namespace Go.Proofs.YtdmkjbdlidadiaaGreat
open Go.RowKit

theorem num14 (e : Int) (w : World) : Calls Tryz.prog 40 #[.int .i64 e] w fun r w' => r = .returned (.int .i64 e) ∧ w = w' := by
  go_enter Tryz.func40, Tryz.ntmps40
  go_wp2
  go_ret
  exact ⟨rfl, rfl⟩
theorem lit_bys14 (w : World) (l : List UInt8) (cs : Array Value) (n : Nat) (fr : Nat × Nat) (hn : n = l.length) (hcs : cs.toList = l.map bv) : Bys (w.alloc (Obj.cells cs 5 fr)) (.slice (some ⟨w.heap.size, 0, none⟩) n n) l := by
  subst hn
  by_cases h0 : l.length = 0
  · exact .inr (.inl ⟨_, _, by rw [h0], List.length_eq_zero_iff.1 h0⟩)
  · refine .inr (.inr ⟨w.heap.size, 0, l.length, rfl, by omega, fun j hj => ?_⟩)
    rw [cell_of_row _ w.heap.size _ cs _ fr (heap_alloc_new w _)]
    have h1 : cs.toList[0 + j]? = (l.map bv)[j]? := by rw [hcs, Nat.zero_add]
    rw [Array.getElem?_toList] at h1
    rw [h1]
    simp [List.getD_eq_getElem?_getD, List.getElem?_eq_getElem hj, bv]
theorem conv_lit14 (w : World) (C : Array Value) (n m : Nat) (hm : C.size = m) : (convert 40 40 (.slice (some ⟨w.heap.size, 0, none⟩) n n)).run Tryz.prog (w.alloc (.cells C 5)) = .ok (.slice (some ⟨w.heap.size, 0, none⟩) n n) (w.alloc (.cells C 5 (m, m + 1))) := by
  subst hm
  exact Lib.run_convert_bytes_const w 40 5 C n n Tryz.underlying40 Tryz.underlying5
def hel : List UInt8 := [104, 101, 108, 108, 111]
def qA : SS := ⟨true, true, 3, 4, [], [101, 108, 108], [], 1, false, false, false⟩
def qB : SS := ⟨true, true, 3, 4, [], [], [], 0, false, false, false⟩
def qC : SS := ⟨true, true, 3, 4, [], [108, 111], [], 1, false, false, false⟩
theorem q_a : (xRW 3 4).get msR ⟨hel, 1048576, 0⟩ = (qA, 104, 0, ⟨hel, 1048576, 4⟩) := by kernel_rfl
theorem q_b : qA.tell msR MS.seek ⟨hel, 1048576, 4⟩ = (qA, 1, 0, ⟨hel, 1048576, 4⟩) := by kernel_rfl
theorem q_c : qA.seek msR MS.seek ⟨hel, 1048576, 4⟩ 1 1 = (qB, 2, 0, ⟨hel, 1048576, 2⟩) := by kernel_rfl
theorem q_d : qB.get msR ⟨hel, 1048576, 2⟩ = (qC, 108, 0, ⟨hel, 1048576, 5⟩) := by kernel_rfl
set_option maxRecDepth 100000 in
set_option maxHeartbeats 8000000 in
theorem alive14 (w : World) : Calls Tryz.prog 37 #[] w fun e w' => e = .returned (.bool true) ∧ Below w.heap.size w w' := by
  have cl := conv_lit14 w #[.int .u8 104, .int .u8 101, .int .u8 108, .int .u8 108, .int .u8 111] 5 5 rfl
  have hb3 := lit_bys14 w hel #[.int .u8 104, .int .u8 101, .int .u8 108, .int .u8 108, .int .u8 111] 5 (5, 6) rfl rfl
  have hBl := (Below.refl _ w).alloc (Nat.le_refl _) (Obj.cells #[.int .u8 104, .int .u8 101, .int .u8 108, .int .u8 108, .int .u8 111] 5 (5, 6))
  have HN1 := hide (newGrowing_good _ hel _ hb3 (by decide))
  have HBl := hide hBl
  have hN := fun W => sNew_any moRW 3 4 W
  rw [new_RW, if_pos (by decide), if_pos (by decide)] at hN
  simp only at hN
  unfold mv at hN
  have HN := hide hN
  clear hN hb3 hBl
  go_enter Tryz.func37, Tryz.ntmps37
  go_wp2_with fail
  generalize w.alloc (Obj.cells #[.int .u8 104, .int .u8 101, .int .u8 108, .int .u8 108, .int .u8 111] 5 (5, 6)) = w0 at *
  refine HN1.out.mono ?_
  rintro _ w1 ⟨g, rfl, hM, hB⟩
  have HM := hide hM
  have HB := hide (HBl.out.trans (hB.mono HBl.out.size))
  have hz0 := HBl.out.size
  clear hM hB HN1 cl
  go_wp2_with fail
  refine (HN.out _).mono ?_
  rintro _ w2 ⟨rfl, hB2⟩
  have HM2 := hide (HM.out.below hB2)
  have HB2 := hide (HB.out.trans (hB2.mono HB.out.size))
  clear hB2 HM HB
  have HS2 := hide (StAt.new w2 (xRW 3 4) (.slice none 0 0) (.slice none 0 0) (.slice none 0 0))
  have HB3 := hide (recv_below w2 (Obj.cells #[.bool (xRW 3 4).rd, .bool (xRW 3 4).wt, .int .i64 (xRW 3 4).mode, .int .i64 (xRW 3 4).size, .slice none 0 0, .slice none 0 0, .slice none 0 0, .int .i64 (xRW 3 4).dir, .bool (xRW 3 4).fin, .bool (xRW 3 4).bad, .bool (xRW 3 4).closed] 58))
  have HLV : Hid (LV (fun w O S => MemAt w O g S) (w2.alloc (Obj.cells #[.bool (xRW 3 4).rd, .bool (xRW 3 4).wt, .int .i64 (xRW 3 4).mode, .int .i64 (xRW 3 4).size, .slice none 0 0, .slice none 0 0, .slice none 0 0, .int .i64 (xRW 3 4).dir, .bool (xRW 3 4).fin, .bool (xRW 3 4).bad, .bool (xRW 3 4).closed] 58)) w.heap.size w2.heap.size (fun k => w0.heap.size ≤ k ∧ k < w2.heap.size) (xRW 3 4) ⟨hel, 1048576, 0⟩ (.slice none 0 0) (.slice none 0 0) (.slice none 0 0)) := hide
    ⟨HS2.out, SIn.nils0 rfl rfl rfl, HM2.out.trim.below HB3.out, fun j e => Nat.lt_of_lt_of_le e.2 HB3.out.size, fun j e => by have := e.1; omega, fun e => by omega, HB2.out.size⟩
  have HTT : Hid (Turned (fun k => w.heap.size ≤ k) w (w2.alloc (Obj.cells #[.bool (xRW 3 4).rd, .bool (xRW 3 4).wt, .int .i64 (xRW 3 4).mode, .int .i64 (xRW 3 4).size, .slice none 0 0, .slice none 0 0, .slice none 0 0, .int .i64 (xRW 3 4).dir, .bool (xRW 3 4).fin, .bool (xRW 3 4).bad, .bool (xRW 3 4).closed] 58))) := hide ((Turned.of_below HB2.out).trans (Turned.of_below (S := fun k => w.heap.size ≤ k) HB3.out) (fun _ _ e => e))
  have hp := sGet_any (gro_raw g) (fun s => gmem_o g s) (bears_true msR) HLV.out.ls HLV.out.raw HLV.out.ol trivial (by decide) (by decide) (by decide)
  rw [q_a] at hp
  simp only at hp
  have HP := hide hp
  clear hp
  go_wp2_with (first | (go_at_call 40; refine (num14 _ _).mono ?_; rintro _ _ ⟨rfl, rfl⟩) | fail)
  generalize w2.alloc (Obj.cells #[.bool (xRW 3 4).rd, .bool (xRW 3 4).wt, .int .i64 (xRW 3 4).mode, .int .i64 (xRW 3 4).size, .slice none 0 0, .slice none 0 0, .slice none 0 0, .int .i64 (xRW 3 4).dir, .bool (xRW 3 4).fin, .bool (xRW 3 4).bad, .bool (xRW 3 4).closed] 58) = w3 at *
  have HSZ := hide HTT.out.size
  clear HS2 HB3 HM2 HN
  generalize w2.heap.size = gv at *
  refine HP.out.mono ?_
  rintro _ w4 ⟨o', i', b', rfl, hS⟩
  obtain ⟨a1, a4, rfl, -⟩ := hS.choose_spec.1.so
  obtain ⟨a2, a5, rfl, -⟩ := hS.choose_spec.1.si
  obtain ⟨a3, a6, rfl, -⟩ := hS.choose_spec.1.sb
  obtain ⟨hst, ⟨O4, hl⟩, ht⟩ := LV.next (fun s => gmem_o g s) HLV.out HSZ.out hS
  have HLn := hide hl
  have HTn := hide (HTT.out.trans ht (fun _ _ e => e))
  obtain ⟨c0, c1, c2, c3, c4, c5, c6, c7, c8, c9, c10⟩ := hst.cs
  have f0 := hst.soft 0
  have f1 := hst.soft 1
  have f2 := hst.soft 2
  have f3 := hst.soft 3
  have f4 := hst.soft 4
  have f5 := hst.soft 5
  have f6 := hst.soft 6
  have f7 := hst.soft 7
  have f8 := hst.soft 8
  have f9 := hst.soft 9
  have f10 := hst.soft 10
  clear hS hst hl ht HP
  unfold filled at HLn HTn
  have hp := ptell_any (gro_raw g) (fun s => gmem_o g s) (bears_true msR) (gro_seek g) (bearsS_true _) HLn.out.ls HLn.out.raw HLn.out.ol trivial (by decide) (by decide) (by decide)
  rw [q_b] at hp
  simp only at hp
  have HP := hide hp
  clear hp
  go_wp2_with (first | (go_at_call 40; refine (num14 _ _).mono ?_; rintro _ _ ⟨rfl, rfl⟩) | fail)
  generalize (((((((((((w4.setCell ⟨gv, 0, none⟩ (.bool qA.rd)).setCell ⟨gv, 1, none⟩ (.bool qA.wt)).setCell ⟨gv, 2, none⟩ (.int .i64 qA.mode)).setCell ⟨gv, 3, none⟩ (.int .i64 qA.size)).setCell ⟨gv, 4, none⟩ (.slice a1 qA.out.length a4)).setCell ⟨gv, 5, none⟩ (.slice a2 qA.inn.length a5)).setCell ⟨gv, 6, none⟩ (.slice a3 qA.back.length a6)).setCell ⟨gv, 7, none⟩ (.int .i64 qA.dir)).setCell ⟨gv, 8, none⟩ (.bool qA.fin)).setCell ⟨gv, 9, none⟩ (.bool qA.bad)).setCell ⟨gv, 10, none⟩ (.bool qA.closed)) = w5 at *
  clear c0 c1 c2 c3 c4 c5 c6 c7 c8 c9 c10 f0 f1 f2 f3 f4 f5 f6 f7 f8 f9 f10 HLV HTT HSZ
  have HLV := HLn
  have HTT := HTn
  have HSZ := hide HTT.out.size
  clear HLn HTn
  refine HP.out.mono ?_
  rintro _ w6 ⟨o', i', b', rfl, hS⟩
  obtain ⟨b1, b4, rfl, -⟩ := hS.choose_spec.1.so
  obtain ⟨b2, b5, rfl, -⟩ := hS.choose_spec.1.si
  obtain ⟨b3, b6, rfl, -⟩ := hS.choose_spec.1.sb
  obtain ⟨hst, ⟨O6, hl⟩, ht⟩ := LV.next (fun s => gmem_o g s) HLV.out HSZ.out hS
  have HLn := hide hl
  have HTn := hide (HTT.out.trans ht (fun _ _ e => e))
  obtain ⟨c0, c1, c2, c3, c4, c5, c6, c7, c8, c9, c10⟩ := hst.cs
  have f0 := hst.soft 0
  have f1 := hst.soft 1
  have f2 := hst.soft 2
  have f3 := hst.soft 3
  have f4 := hst.soft 4
  have f5 := hst.soft 5
  have f6 := hst.soft 6
  have f7 := hst.soft 7
  have f8 := hst.soft 8
  have f9 := hst.soft 9
  have f10 := hst.soft 10
  clear hS hst hl ht HP
  unfold filled at HLn HTn
  have hp := pseek_any (gro_raw g) (fun s => gmem_o g s) (bears_true msR) (gro_seek g) (bearsS_true _) 1 1 HLn.out.ls HLn.out.raw HLn.out.ol trivial (by decide) (by decide) (by decide) (by decide)
  rw [q_c] at hp
  simp only at hp
  have HP := hide hp
  clear hp
  go_wp2_with (first | (go_at_call 40; refine (num14 _ _).mono ?_; rintro _ _ ⟨rfl, rfl⟩) | fail)
  generalize (((((((((((w6.setCell ⟨gv, 0, none⟩ (.bool qA.rd)).setCell ⟨gv, 1, none⟩ (.bool qA.wt)).setCell ⟨gv, 2, none⟩ (.int .i64 qA.mode)).setCell ⟨gv, 3, none⟩ (.int .i64 qA.size)).setCell ⟨gv, 4, none⟩ (.slice b1 qA.out.length b4)).setCell ⟨gv, 5, none⟩ (.slice b2 qA.inn.length b5)).setCell ⟨gv, 6, none⟩ (.slice b3 qA.back.length b6)).setCell ⟨gv, 7, none⟩ (.int .i64 qA.dir)).setCell ⟨gv, 8, none⟩ (.bool qA.fin)).setCell ⟨gv, 9, none⟩ (.bool qA.bad)).setCell ⟨gv, 10, none⟩ (.bool qA.closed)) = w7 at *
  clear c0 c1 c2 c3 c4 c5 c6 c7 c8 c9 c10 f0 f1 f2 f3 f4 f5 f6 f7 f8 f9 f10 HLV HTT HSZ
  have HLV := HLn
  have HTT := HTn
  have HSZ := hide HTT.out.size
  clear HLn HTn
  refine HP.out.mono ?_
  rintro _ w8 ⟨o', i', b', rfl, hS⟩
  obtain ⟨d1, d4, rfl, -⟩ := hS.choose_spec.1.so
  obtain ⟨d2, d5, rfl, -⟩ := hS.choose_spec.1.si
  obtain ⟨d3, d6, rfl, -⟩ := hS.choose_spec.1.sb
  obtain ⟨hst, ⟨O8, hl⟩, ht⟩ := LV.next (fun s => gmem_o g s) HLV.out HSZ.out hS
  have HLn := hide hl
  have HTn := hide (HTT.out.trans ht (fun _ _ e => e))
  obtain ⟨c0, c1, c2, c3, c4, c5, c6, c7, c8, c9, c10⟩ := hst.cs
  have f0 := hst.soft 0
  have f1 := hst.soft 1
  have f2 := hst.soft 2
  have f3 := hst.soft 3
  have f4 := hst.soft 4
  have f5 := hst.soft 5
  have f6 := hst.soft 6
  have f7 := hst.soft 7
  have f8 := hst.soft 8
  have f9 := hst.soft 9
  have f10 := hst.soft 10
  clear hS hst hl ht HP
  unfold filled at HLn HTn
  have hp := sGet_any (gro_raw g) (fun s => gmem_o g s) (bears_true msR) HLn.out.ls HLn.out.raw HLn.out.ol trivial (by decide) (by decide) (by decide)
  rw [q_d] at hp
  simp only at hp
  have HP := hide hp
  clear hp
  go_wp2_with (first | (go_at_call 40; refine (num14 _ _).mono ?_; rintro _ _ ⟨rfl, rfl⟩) | fail)
  generalize (((((((((((w8.setCell ⟨gv, 0, none⟩ (.bool qB.rd)).setCell ⟨gv, 1, none⟩ (.bool qB.wt)).setCell ⟨gv, 2, none⟩ (.int .i64 qB.mode)).setCell ⟨gv, 3, none⟩ (.int .i64 qB.size)).setCell ⟨gv, 4, none⟩ (.slice d1 qB.out.length d4)).setCell ⟨gv, 5, none⟩ (.slice d2 qB.inn.length d5)).setCell ⟨gv, 6, none⟩ (.slice d3 qB.back.length d6)).setCell ⟨gv, 7, none⟩ (.int .i64 qB.dir)).setCell ⟨gv, 8, none⟩ (.bool qB.fin)).setCell ⟨gv, 9, none⟩ (.bool qB.bad)).setCell ⟨gv, 10, none⟩ (.bool qB.closed)) = w9 at *
  clear c0 c1 c2 c3 c4 c5 c6 c7 c8 c9 c10 f0 f1 f2 f3 f4 f5 f6 f7 f8 f9 f10 HLV HTT HSZ
  have HLV := HLn
  have HTT := HTn
  have HSZ := hide HTT.out.size
  clear HLn HTn
  refine HP.out.mono ?_
  rintro _ w10 ⟨o', i', b', rfl, hS⟩
  obtain ⟨e1, e4, rfl, -⟩ := hS.choose_spec.1.so
  obtain ⟨e2, e5, rfl, -⟩ := hS.choose_spec.1.si
  obtain ⟨e3, e6, rfl, -⟩ := hS.choose_spec.1.sb
  have HT10 : Hid (Turned (fun k => w.heap.size ≤ k) w w10) := hide (by
    obtain ⟨_, _, _, _, _, t⟩ := hS
    exact HTT.out.trans (t.mono fun k e => HLV.out.ob k e) (fun _ _ e => e))
  clear hS
  go_wp2_with (first | (go_at_call 40; refine (num14 _ _).mono ?_; rintro _ _ ⟨rfl, rfl⟩) | fail)
  go_ret
  exact ⟨rfl, (HT10.out.below (B := w.heap.size) (fun _ e => e) (Nat.le_refl _)).trans ((recv_below w10 _).mono HT10.out.size)⟩
end Go.Proofs.YtdmkjbdlidadiaaGreat

/- A pipe with both ends, the page's example, and a pipe that no call made. -/
namespace Go.Proofs.YtdmkjbdlidadiaaGreat
open Go.RowKit

theorem made_cells (n : Nat) : (madeCells (Value.int .u8 0).cells (n * 1)).toList = List.replicate n (.int .u8 0) := by
  apply List.ext_getElem?
  intro j
  by_cases hj : j < n
  · simp [madeCells, Value.cells, hj, Nat.mod_one]
  · simp [madeCells, Value.cells, hj]
end Go.Proofs.YtdmkjbdlidadiaaGreat

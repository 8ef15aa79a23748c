/- What the proof stands on, part 12: the contracts of the program's calls that it reaches. -/
import Derived.Test.YtndleeafkepdjaaGreatKW11
import Derived.KernelRfl
import Derived.Lib.SlBytesConst
/- Lines: the law's num, alive. -/
namespace Go.Proofs.YtndleeafkepdjaaGreat
open Go.RowKit

theorem Hel.kept {W W' : World} {B : Nat} {O : Nat → Prop} {g : Nat} {o i b v : Value} {l : List UInt8} (h : Hel W B O g o i b v l) (t : Turned O W W') : ∃ base, W'.ownsRow base 5 1 v l.length (l.map bv) := ⟨B, owns_turned h.own t (fun k e e' => (h.off k e).1 e')⟩
theorem num15 (e : Int) (w : World) : Calls Tryz.prog 32 #[.int .i64 e] w fun r w' => r = .returned (.int .i64 e) ∧ w = w' := by
  go_enter Tryz.func32, Tryz.ntmps32
  go_wp2
  go_ret
  exact ⟨rfl, rfl⟩
theorem lit_bys15 (w : World) (l : List UInt8) (cs : Array Value) (n : Nat) (fr : Nat × Nat) (hn : n = l.length) (hcs : cs.toList = l.map bv) : Bys (w.alloc (Obj.cells cs 5 fr)) (.slice (some ⟨w.heap.size, 0, none⟩) n n) l := by
  subst hn
  by_cases h0 : l.length = 0
  · exact .inr (.inl ⟨_, _, by rw [h0], List.length_eq_zero_iff.1 h0⟩)
  · refine .inr (.inr ⟨w.heap.size, 0, l.length, rfl, by omega, fun j hj => ?_⟩)
    rw [cell_of_row _ w.heap.size _ cs _ fr (heap_alloc_new w _)]
    have h1 : cs.toList[0 + j]? = (l.map bv)[j]? := by rw [hcs, Nat.zero_add]
    rw [Array.getElem?_toList] at h1
    rw [h1]
    simp [List.getD_eq_getElem?_getD, List.getElem?_eq_getElem hj, bv]
theorem conv_lit15 (w : World) (C : Array Value) (n m : Nat) (hm : C.size = m) : (convert 40 40 (.slice (some ⟨w.heap.size, 0, none⟩) n n)).run Tryz.prog (w.alloc (.cells C 5)) = .ok (.slice (some ⟨w.heap.size, 0, none⟩) n n) (w.alloc (.cells C 5 (m, m + 1))) := by
  subst hm
  exact Lib.run_convert_bytes_const w 40 5 C n n Tryz.underlying40 Tryz.underlying5
def abcd : List UInt8 := [97, 98, 10, 99, 100]
def qlA : SS := ⟨true, false, 3, 4, [], [99], [], 1, false, false, false⟩
def qlB : SS := ⟨true, false, 3, 4, [], [], [], 1, false, false, false⟩
def qlC : SS := ⟨true, false, 3, 4, [], [], [], 1, true, false, false⟩
theorem ql_a : (xR 3 4).until rdRm ⟨abcd, abcd.length, 0⟩ 10 9 = (qlA, [97, 98, 10], 0, ⟨abcd, abcd.length, 4⟩) := by kernel_rfl
theorem ql_b : qlA.until rdRm ⟨abcd, abcd.length, 4⟩ 10 1 = (qlB, [99], 0, ⟨abcd, abcd.length, 4⟩) := by kernel_rfl
theorem ql_c : qlB.until rdRm ⟨abcd, abcd.length, 4⟩ 10 9 = (qlC, [100], 0, ⟨abcd, abcd.length, 5⟩) := by kernel_rfl
theorem ql_d : qlC.until rdRm ⟨abcd, abcd.length, 5⟩ 10 9 = (qlC, [], 111, ⟨abcd, abcd.length, 5⟩) := by kernel_rfl
set_option maxRecDepth 100000 in
set_option maxHeartbeats 8000000 in
theorem alive15 (w : World) : Calls Tryz.prog 25 #[] w fun e w' => e = .returned (.bool true) ∧ Below w.heap.size w w' := by
  have cl := conv_lit15 w #[.int .u8 97, .int .u8 98, .int .u8 10, .int .u8 99, .int .u8 100] 5 5 rfl
  have hb3 := lit_bys15 w abcd #[.int .u8 97, .int .u8 98, .int .u8 10, .int .u8 99, .int .u8 100] 5 (5, 6) rfl rfl
  have hBl := (Below.refl _ w).alloc (Nat.le_refl _) (Obj.cells #[.int .u8 97, .int .u8 98, .int .u8 10, .int .u8 99, .int .u8 100] 5 (5, 6))
  have HN1 := hide (newReader_good _ abcd _ hb3 (by decide))
  have HBl := hide hBl
  have hN := fun W => sNew_any moR 3 4 W
  rw [new_R, if_pos (by decide), if_pos (by decide)] at hN
  simp only at hN
  unfold mv at hN
  have HN := hide hN
  clear hN hb3 hBl
  go_enter Tryz.func25, Tryz.ntmps25
  go_wp2_with fail
  generalize w.alloc (Obj.cells #[.int .u8 97, .int .u8 98, .int .u8 10, .int .u8 99, .int .u8 100] 5 (5, 6)) = w0 at *
  refine HN1.out.mono ?_
  rintro _ w1 ⟨g, rfl, hM, hB⟩
  have HM := hide hM
  have HB := hide (HBl.out.trans (hB.mono HBl.out.size))
  have hz0 := HBl.out.size
  clear hM hB HN1 cl
  go_wp2_with fail
  refine (HN.out _).mono ?_
  rintro _ w2 ⟨rfl, hB2⟩
  have HM2 := hide (HM.out.below hB2)
  have HB2 := hide (HB.out.trans (hB2.mono HB.out.size))
  clear hB2 HM HB
  have HS2 := hide (StAt.new w2 (xR 3 4) (.slice none 0 0) (.slice none 0 0) (.slice none 0 0))
  have HB3 := hide (recv_below w2 (Obj.cells #[.bool (xR 3 4).rd, .bool (xR 3 4).wt, .int .i64 (xR 3 4).mode, .int .i64 (xR 3 4).size, .slice none 0 0, .slice none 0 0, .slice none 0 0, .int .i64 (xR 3 4).dir, .bool (xR 3 4).fin, .bool (xR 3 4).bad, .bool (xR 3 4).closed] 55))
  have HLV : Hid (LV (fun w O S => MemAt w O g S) (w2.alloc (Obj.cells #[.bool (xR 3 4).rd, .bool (xR 3 4).wt, .int .i64 (xR 3 4).mode, .int .i64 (xR 3 4).size, .slice none 0 0, .slice none 0 0, .slice none 0 0, .int .i64 (xR 3 4).dir, .bool (xR 3 4).fin, .bool (xR 3 4).bad, .bool (xR 3 4).closed] 55)) w.heap.size w2.heap.size (fun k => w0.heap.size ≤ k ∧ k < w2.heap.size) (xR 3 4) ⟨abcd, abcd.length, 0⟩ (.slice none (xR 3 4).out.length 0) (.slice none (xR 3 4).inn.length 0) (.slice none (xR 3 4).back.length 0)) := hide
    ⟨HS2.out, SIn.nils0 rfl rfl rfl, HM2.out.trim.below HB3.out, fun j e => Nat.lt_of_lt_of_le e.2 HB3.out.size, fun j e => by have := e.1; omega, fun e => by omega, HB2.out.size⟩
  have HTT : Hid (Turned (fun k => w.heap.size ≤ k) w (w2.alloc (Obj.cells #[.bool (xR 3 4).rd, .bool (xR 3 4).wt, .int .i64 (xR 3 4).mode, .int .i64 (xR 3 4).size, .slice none 0 0, .slice none 0 0, .slice none 0 0, .int .i64 (xR 3 4).dir, .bool (xR 3 4).fin, .bool (xR 3 4).bad, .bool (xR 3 4).closed] 55))) := hide ((Turned.of_below HB2.out).trans (Turned.of_below (S := fun k => w.heap.size ≤ k) HB3.out) (fun _ _ e => e))
  have hp := lget_any (rdr_raw g) (fun s => gmem_o g s) (bears_true rdRm) _ _ _ _ _ _ 9 HLV.out.ls HLV.out.raw HLV.out.ol trivial (by decide) (by decide) (by decide)
  rw [ql_a] at hp
  simp only at hp
  have HP := hide hp
  clear hp
  go_wp2_with (first | (go_at_call 32; refine (num15 _ _).mono ?_; rintro _ _ ⟨rfl, rfl⟩) | fail)
  generalize w2.alloc (Obj.cells #[.bool (xR 3 4).rd, .bool (xR 3 4).wt, .int .i64 (xR 3 4).mode, .int .i64 (xR 3 4).size, .slice none 0 0, .slice none 0 0, .slice none 0 0, .int .i64 (xR 3 4).dir, .bool (xR 3 4).fin, .bool (xR 3 4).bad, .bool (xR 3 4).closed] 55) = w3 at *
  have HSZ := hide HTT.out.size
  clear HS2 HB3 HM2 HN
  generalize w2.heap.size = gv at *
  refine HP.out.mono ?_
  rintro _ w4 ⟨o', i', b', uu, rfl, hS⟩
  obtain ⟨a1, a4, rfl, -⟩ := hS.choose_spec.1.1.so
  obtain ⟨a2, a5, rfl, -⟩ := hS.choose_spec.1.1.si
  obtain ⟨a3, a6, rfl, -⟩ := hS.choose_spec.1.1.sb
  obtain ⟨r1, r2, hu0⟩ := owns_slice hS.choose_spec.2.1
  have hu1 : uu = .slice r1 3 r2 := hu0
  subst hu1
  obtain ⟨hst, ht, O4, hl, hu, hk⟩ := LV.nextG (fun s => gmem_o g s) HLV.out HSZ.out hS
  simp only at hl hu ht hk
  have HLn := hide hl
  have HTn := hide (HTT.out.trans ht (fun _ _ e => e))
  have Hr := hide hu
  obtain ⟨c0, c1, c2, c3, c4, c5, c6, c7, c8, c9, c10⟩ := hst.cs
  have f0 := hst.soft 0
  have f1 := hst.soft 1
  have f2 := hst.soft 2
  have f3 := hst.soft 3
  have f4 := hst.soft 4
  have f5 := hst.soft 5
  have f6 := hst.soft 6
  have f7 := hst.soft 7
  have f8 := hst.soft 8
  have f9 := hst.soft 9
  have f10 := hst.soft 10
  clear hS hst hl ht hu hk hu0 HP
  unfold filled at HLn HTn Hr
  have hp := lget_any (rdr_raw g) (fun s => gmem_o g s) (bears_true rdRm) _ _ _ _ _ _ 1 HLn.out.ls HLn.out.raw HLn.out.ol trivial (by decide) (by decide) (by decide)
  rw [ql_b] at hp
  simp only at hp
  have HP := hide hp
  clear hp
  go_wp2_with (first | (go_at_call 32; refine (num15 _ _).mono ?_; rintro _ _ ⟨rfl, rfl⟩) | fail)
  generalize (((((((((((w4.setCell ⟨gv, 0, none⟩ (.bool qlA.rd)).setCell ⟨gv, 1, none⟩ (.bool qlA.wt)).setCell ⟨gv, 2, none⟩ (.int .i64 qlA.mode)).setCell ⟨gv, 3, none⟩ (.int .i64 qlA.size)).setCell ⟨gv, 4, none⟩ (.slice a1 qlA.out.length a4)).setCell ⟨gv, 5, none⟩ (.slice a2 qlA.inn.length a5)).setCell ⟨gv, 6, none⟩ (.slice a3 qlA.back.length a6)).setCell ⟨gv, 7, none⟩ (.int .i64 qlA.dir)).setCell ⟨gv, 8, none⟩ (.bool qlA.fin)).setCell ⟨gv, 9, none⟩ (.bool qlA.bad)).setCell ⟨gv, 10, none⟩ (.bool qlA.closed)) = w5 at *
  clear c0 c1 c2 c3 c4 c5 c6 c7 c8 c9 c10 f0 f1 f2 f3 f4 f5 f6 f7 f8 f9 f10 HLV HTT HSZ
  have HLV := HLn
  have HTT := HTn
  have HSZ := hide HTT.out.size
  clear HLn HTn
  refine HP.out.mono ?_
  rintro _ w6 ⟨o', i', b', uu, rfl, hS⟩
  obtain ⟨b1, b4, rfl, -⟩ := hS.choose_spec.1.1.so
  obtain ⟨b2, b5, rfl, -⟩ := hS.choose_spec.1.1.si
  obtain ⟨b3, b6, rfl, -⟩ := hS.choose_spec.1.1.sb
  obtain ⟨s1, s2, hu0⟩ := owns_slice hS.choose_spec.2.1
  have hu1 : uu = .slice s1 1 s2 := hu0
  subst hu1
  obtain ⟨hst, ht, O6, hl, hu, hk⟩ := LV.nextG (fun s => gmem_o g s) HLV.out HSZ.out hS
  simp only at hl hu ht hk
  have HLn := hide hl
  have HTn := hide (HTT.out.trans ht (fun _ _ e => e))
  have Hs := hide hu
  have Hr := hide (hk _ _ Hr.out).1
  obtain ⟨c0, c1, c2, c3, c4, c5, c6, c7, c8, c9, c10⟩ := hst.cs
  have f0 := hst.soft 0
  have f1 := hst.soft 1
  have f2 := hst.soft 2
  have f3 := hst.soft 3
  have f4 := hst.soft 4
  have f5 := hst.soft 5
  have f6 := hst.soft 6
  have f7 := hst.soft 7
  have f8 := hst.soft 8
  have f9 := hst.soft 9
  have f10 := hst.soft 10
  clear hS hst hl ht hu hk hu0 HP
  unfold filled at HLn HTn Hs Hr
  have hp := lget_any (rdr_raw g) (fun s => gmem_o g s) (bears_true rdRm) _ _ _ _ _ _ 9 HLn.out.ls HLn.out.raw HLn.out.ol trivial (by decide) (by decide) (by decide)
  rw [ql_c] at hp
  simp only at hp
  have HP := hide hp
  clear hp
  go_wp2_with (first | (go_at_call 32; refine (num15 _ _).mono ?_; rintro _ _ ⟨rfl, rfl⟩) | fail)
  generalize (((((((((((w6.setCell ⟨gv, 0, none⟩ (.bool qlB.rd)).setCell ⟨gv, 1, none⟩ (.bool qlB.wt)).setCell ⟨gv, 2, none⟩ (.int .i64 qlB.mode)).setCell ⟨gv, 3, none⟩ (.int .i64 qlB.size)).setCell ⟨gv, 4, none⟩ (.slice b1 qlB.out.length b4)).setCell ⟨gv, 5, none⟩ (.slice b2 qlB.inn.length b5)).setCell ⟨gv, 6, none⟩ (.slice b3 qlB.back.length b6)).setCell ⟨gv, 7, none⟩ (.int .i64 qlB.dir)).setCell ⟨gv, 8, none⟩ (.bool qlB.fin)).setCell ⟨gv, 9, none⟩ (.bool qlB.bad)).setCell ⟨gv, 10, none⟩ (.bool qlB.closed)) = w7 at *
  clear c0 c1 c2 c3 c4 c5 c6 c7 c8 c9 c10 f0 f1 f2 f3 f4 f5 f6 f7 f8 f9 f10 HLV HTT HSZ
  have HLV := HLn
  have HTT := HTn
  have HSZ := hide HTT.out.size
  clear HLn HTn
  refine HP.out.mono ?_
  rintro _ w8 ⟨o', i', b', uu, rfl, hS⟩
  obtain ⟨d1, d4, rfl, -⟩ := hS.choose_spec.1.1.so
  obtain ⟨d2, d5, rfl, -⟩ := hS.choose_spec.1.1.si
  obtain ⟨d3, d6, rfl, -⟩ := hS.choose_spec.1.1.sb
  obtain ⟨t1, t2, hu0⟩ := owns_slice hS.choose_spec.2.1
  have hu1 : uu = .slice t1 1 t2 := hu0
  subst hu1
  obtain ⟨hst, ht, O8, hl, hu, hk⟩ := LV.nextG (fun s => gmem_o g s) HLV.out HSZ.out hS
  simp only at hl hu ht hk
  have HLn := hide hl
  have HTn := hide (HTT.out.trans ht (fun _ _ e => e))
  have Ht := hide hu
  have Hr := hide (hk _ _ Hr.out).1
  have Hs := hide (hk _ _ Hs.out).1
  obtain ⟨c0, c1, c2, c3, c4, c5, c6, c7, c8, c9, c10⟩ := hst.cs
  have f0 := hst.soft 0
  have f1 := hst.soft 1
  have f2 := hst.soft 2
  have f3 := hst.soft 3
  have f4 := hst.soft 4
  have f5 := hst.soft 5
  have f6 := hst.soft 6
  have f7 := hst.soft 7
  have f8 := hst.soft 8
  have f9 := hst.soft 9
  have f10 := hst.soft 10
  clear hS hst hl ht hu hk hu0 HP
  unfold filled at HLn HTn Ht Hr Hs
  have hp := lget_any (rdr_raw g) (fun s => gmem_o g s) (bears_true rdRm) _ _ _ _ _ _ 9 HLn.out.ls HLn.out.raw HLn.out.ol trivial (by decide) (by decide) (by decide)
  rw [ql_d] at hp
  simp only at hp
  have HP := hide hp
  clear hp
  go_wp2_with (first | (go_at_call 32; refine (num15 _ _).mono ?_; rintro _ _ ⟨rfl, rfl⟩) | fail)
  generalize (((((((((((w8.setCell ⟨gv, 0, none⟩ (.bool qlC.rd)).setCell ⟨gv, 1, none⟩ (.bool qlC.wt)).setCell ⟨gv, 2, none⟩ (.int .i64 qlC.mode)).setCell ⟨gv, 3, none⟩ (.int .i64 qlC.size)).setCell ⟨gv, 4, none⟩ (.slice d1 qlC.out.length d4)).setCell ⟨gv, 5, none⟩ (.slice d2 qlC.inn.length d5)).setCell ⟨gv, 6, none⟩ (.slice d3 qlC.back.length d6)).setCell ⟨gv, 7, none⟩ (.int .i64 qlC.dir)).setCell ⟨gv, 8, none⟩ (.bool qlC.fin)).setCell ⟨gv, 9, none⟩ (.bool qlC.bad)).setCell ⟨gv, 10, none⟩ (.bool qlC.closed)) = w9 at *
  clear c0 c1 c2 c3 c4 c5 c6 c7 c8 c9 c10 f0 f1 f2 f3 f4 f5 f6 f7 f8 f9 f10 HLV HTT HSZ
  have HLV := HLn
  have HTT := HTn
  have HSZ := hide HTT.out.size
  clear HLn HTn
  refine HP.out.mono ?_
  rintro _ w10 ⟨o', i', b', uu, rfl, hS⟩
  obtain ⟨e1, e4, rfl, -⟩ := hS.choose_spec.1.1.so
  obtain ⟨e2, e5, rfl, -⟩ := hS.choose_spec.1.1.si
  obtain ⟨e3, e6, rfl, -⟩ := hS.choose_spec.1.1.sb
  have ht : Turned _ w9 w10 := hS.choose_spec.1.2.2.2.2
  have HT10 : Hid (Turned (fun k => w.heap.size ≤ k) w w10) := hide (HTT.out.trans (ht.mono fun k e => HLV.out.ob k e) (fun _ _ e => e))
  obtain ⟨_, k1⟩ := Hr.out.kept ht
  obtain ⟨_, k2⟩ := Hs.out.kept ht
  obtain ⟨_, k3⟩ := Ht.out.kept ht
  have m1 : (convert 40 9 (.slice r1 3 r2)).run Tryz.prog (w10.alloc (Obj.cells #[.bool qlC.rd, .bool qlC.wt, .int .i64 qlC.mode, .int .i64 qlC.size, .slice e1 qlC.out.length e4, .slice e2 qlC.inn.length e5, .slice e3 qlC.back.length e6, .int .i64 qlC.dir, .bool qlC.fin, .bool qlC.bad, .bool qlC.closed] 55)) = .ok (.string ⟨#[97, 98, 10]⟩) (w10.alloc (Obj.cells #[.bool qlC.rd, .bool qlC.wt, .int .i64 qlC.mode, .int .i64 qlC.size, .slice e1 qlC.out.length e4, .slice e2 qlC.inn.length e5, .slice e3 qlC.back.length e6, .int .i64 qlC.dir, .bool qlC.fin, .bool qlC.bad, .bool qlC.closed] 55)) := owns_string (l := [97, 98, 10]) (owns_below k1 (recv_below w10 _))
  have m2 : (convert 40 9 (.slice s1 1 s2)).run Tryz.prog (w10.alloc (Obj.cells #[.bool qlC.rd, .bool qlC.wt, .int .i64 qlC.mode, .int .i64 qlC.size, .slice e1 qlC.out.length e4, .slice e2 qlC.inn.length e5, .slice e3 qlC.back.length e6, .int .i64 qlC.dir, .bool qlC.fin, .bool qlC.bad, .bool qlC.closed] 55)) = .ok (.string ⟨#[99]⟩) (w10.alloc (Obj.cells #[.bool qlC.rd, .bool qlC.wt, .int .i64 qlC.mode, .int .i64 qlC.size, .slice e1 qlC.out.length e4, .slice e2 qlC.inn.length e5, .slice e3 qlC.back.length e6, .int .i64 qlC.dir, .bool qlC.fin, .bool qlC.bad, .bool qlC.closed] 55)) := owns_string (l := [99]) (owns_below k2 (recv_below w10 _))
  have m3 : (convert 40 9 (.slice t1 1 t2)).run Tryz.prog (w10.alloc (Obj.cells #[.bool qlC.rd, .bool qlC.wt, .int .i64 qlC.mode, .int .i64 qlC.size, .slice e1 qlC.out.length e4, .slice e2 qlC.inn.length e5, .slice e3 qlC.back.length e6, .int .i64 qlC.dir, .bool qlC.fin, .bool qlC.bad, .bool qlC.closed] 55)) = .ok (.string ⟨#[100]⟩) (w10.alloc (Obj.cells #[.bool qlC.rd, .bool qlC.wt, .int .i64 qlC.mode, .int .i64 qlC.size, .slice e1 qlC.out.length e4, .slice e2 qlC.inn.length e5, .slice e3 qlC.back.length e6, .int .i64 qlC.dir, .bool qlC.fin, .bool qlC.bad, .bool qlC.closed] 55)) := owns_string (l := [100]) (owns_below k3 (recv_below w10 _))
  clear hS ht k1 k2 k3 Hr Hs Ht HLV HTT HSZ HP
  go_wp2_with (first | (go_at_call 32; refine (num15 _ _).mono ?_; rintro _ _ ⟨rfl, rfl⟩) | fail)
  go_ret
  exact ⟨rfl, (HT10.out.below (B := w.heap.size) (fun _ e => e) (Nat.le_refl _)).trans ((recv_below w10 _).mono HT10.out.size)⟩
end Go.Proofs.YtndleeafkepdjaaGreat

/- Lines: Until, Get, All, Put over a nil Raw. -/
namespace Go.Proofs.YtndleeafkepdjaaGreat
open Go.RowKit

theorem refuse_nil (x : SS) : x.refuse false ≠ 0 := by
  unfold SS.refuse
  split
  · decide
  · rw [if_pos rfl]
    decide
theorem grefuse_nil (x : SS) (limit least most : Int) : x.grefuse false limit least most = x.refuse false := by
  unfold SS.grefuse
  rw [if_pos (refuse_nil x)]
theorem prefuse_nil (x : SS) (n : Nat) (most : Int) : x.prefuse false n most = x.refuse false := by
  unfold SS.prefuse
  rw [if_pos (refuse_nil x)]
theorem three_allocs (w : World) (A B C : Obj) : Below w.heap.size w (((w.alloc A).alloc B).alloc C) ∧ (((w.alloc A).alloc B).alloc C).heap[w.heap.size]? = some A ∧ (((w.alloc A).alloc B).alloc C).heap[w.heap.size + 1]? = some B ∧ (((w.alloc A).alloc B).alloc C).heap[w.heap.size + 1 + 1]? = some C ∧ w.heap.size + 1 + 1 < (((w.alloc A).alloc B).alloc C).heap.size := by
  have s1 : (w.alloc A).heap.size = w.heap.size + 1 := Array.size_push ..
  have s2 : ((w.alloc A).alloc B).heap.size = w.heap.size + 1 + 1 := (Array.size_push ..).trans (by rw [s1])
  have s3 : (((w.alloc A).alloc B).alloc C).heap.size = w.heap.size + 1 + 1 + 1 := (Array.size_push ..).trans (by rw [s2])
  have b1 := (Below.refl _ w).alloc (Nat.le_refl _) A
  have b2 := (Below.refl _ (w.alloc A)).alloc (Nat.le_refl _) B
  have b3 := (Below.refl _ ((w.alloc A).alloc B)).alloc (Nat.le_refl _) C
  have h1 := heap_alloc_new w A
  have h2 := heap_alloc_new (w.alloc A) B
  have h3 := heap_alloc_new ((w.alloc A).alloc B) C
  rw [s1] at h2
  rw [s2] at h3
  exact ⟨(b1.trans (b2.mono b1.size)).trans (b3.mono (by omega)), (b3.block _ (by omega)).trans ((b2.block _ (by omega)).trans h1), (b3.block _ (by omega)).trans h2, h3, by omega⟩
theorem two_allocs (w : World) (A B : Obj) : Below w.heap.size w ((w.alloc A).alloc B) ∧ ((w.alloc A).alloc B).heap[w.heap.size]? = some A ∧ ((w.alloc A).alloc B).heap[w.heap.size + 1]? = some B ∧ w.heap.size + 1 < ((w.alloc A).alloc B).heap.size := by
  have s1 : (w.alloc A).heap.size = w.heap.size + 1 := Array.size_push ..
  have s2 : ((w.alloc A).alloc B).heap.size = w.heap.size + 1 + 1 := (Array.size_push ..).trans (by rw [s1])
  have b1 := (Below.refl _ w).alloc (Nat.le_refl _) A
  have b2 := (Below.refl _ (w.alloc A)).alloc (Nat.le_refl _) B
  have h1 := heap_alloc_new w A
  have h2 := heap_alloc_new (w.alloc A) B
  rw [s1] at h2
  exact ⟨b1.trans (b2.mono b1.size), (b2.block _ (by omega)).trans h1, h2, by omega⟩
set_option maxRecDepth 100000 in
set_option maxHeartbeats 4000000 in
theorem luntil_nil (x : SS) (oa ia ba : Option Addr) (oc ic bc : Nat) {P : Nat → Prop} (d : UInt8) (limit : Int) (w : World) (h : SIn w P x (.slice oa x.out.length oc) (.slice ia x.inn.length ic) (.slice ba x.back.length bc)) (ho : x.out.length ≤ 140737488351232) (hi : x.inn.length ≤ 140737488351232) (hb : x.back.length ≤ 140737488351232) :
    Calls Tryz.prog 107 #[.agg #[.bool x.rd, .bool x.wt, .int .i64 x.mode, .int .i64 x.size, .slice oa x.out.length oc, .slice ia x.inn.length ic, .slice ba x.back.length bc, .int .i64 x.dir, .bool x.fin, .bool x.bad, .bool x.closed], .nilIface, .int .u8 (d.toNat : Int), .int .i64 limit] w fun e w' => ∃ (a1 a2 a3 : Option Addr) (k1 k2 k3 : Nat), e = .returned (.tuple #[.agg #[.bool x.rd, .bool x.wt, .int .i64 x.mode, .int .i64 x.size, .slice a1 x.out.length k1, .slice a2 x.inn.length k2, .slice a3 x.back.length k3, .int .i64 x.dir, .bool x.fin, .bool x.bad, .bool x.closed], .slice none 0 0, .int .i64 (x.refuse false)]) ∧ Below w.heap.size w w' := by
  have HF := hide (four_allocs w (Obj.cells #[.bool x.rd, .bool x.wt, .int .i64 x.mode, .int .i64 x.size, .slice oa x.out.length oc, .slice ia x.inn.length ic, .slice ba x.back.length bc, .int .i64 x.dir, .bool x.fin, .bool x.bad, .bool x.closed] 55) (Obj.cells #[.int .u8 (d.toNat : Int)] 5) (Obj.cells #[.int .i64 limit] 3) (Obj.cells #[.bool false, .bool false, .int .i64 0, .int .i64 0, .slice none 0 0, .slice none 0 0, .slice none 0 0, .int .i64 0, .bool false, .bool false, .bool false] 55))
  have HRf := fun W => getRefusal_nil x oa ia ba oc ic bc limit 1 65536 W hi hb
  rw [grefuse_nil] at HRf
  have HR := hide HRf
  have HI := hide h
  have HL := hide (And.intro ho (And.intro hi hb))
  have hr := refuse_nil x
  generalize x.refuse false = r at *
  have hb1 : (r == 0) = false := by simp [hr]
  have hb2 : (r != 0) = true := by simp [hr]
  have hl := cell_of_row _ (w.heap.size + 1 + 1) 0 _ _ _ HF.out.2.2.2.1
  clear HRf h ho hi hb hr
  go_enter Tryz.func107, Tryz.ntmps107
  go_wp2_with fail
  generalize ((((w.alloc (Obj.cells #[.bool x.rd, .bool x.wt, .int .i64 x.mode, .int .i64 x.size, .slice oa x.out.length oc, .slice ia x.inn.length ic, .slice ba x.back.length bc, .int .i64 x.dir, .bool x.fin, .bool x.bad, .bool x.closed] 55)).alloc (Obj.cells #[.int .u8 (d.toNat : Int)] 5)).alloc (Obj.cells #[.int .i64 limit] 3)).alloc (Obj.cells #[.bool false, .bool false, .int .i64 0, .int .i64 0, .slice none 0 0, .slice none 0 0, .slice none 0 0, .int .i64 0, .bool false, .bool false, .bool false] 55)) = w0 at *
  refine (HR.out w0).mono ?_
  rintro _ w1 ⟨rfl, hB1⟩
  have hz := HF.out.2.2.2.2.2
  have HB1 := hide (HF.out.1.trans (hB1.mono HF.out.1.size))
  have HX1 : Hid (StAt w1 w.heap.size x (.slice oa x.out.length oc) (.slice ia x.inn.length ic) (.slice ba x.back.length bc)) := hide ((hB1.block _ (by omega)).trans HF.out.2.1)
  have HZ1 : Hid (w1.heap[w.heap.size + 1 + 1 + 1]? = some (Obj.cells #[.bool false, .bool false, .int .i64 0, .int .i64 0, .slice none 0 0, .slice none 0 0, .slice none 0 0, .int .i64 0, .bool false, .bool false, .bool false] 55)) := hide ((hB1.block _ hz).trans HF.out.2.2.2.2.1)
  have hz1 : w.heap.size + 1 + 1 + 1 < w1.heap.size := Nat.lt_of_lt_of_le hz hB1.size
  have HC := hide (lcopied_any x _ _ _ P w1 (HI.out.below HB1.out) HL.out.1 HL.out.2.1 HL.out.2.2)
  obtain ⟨c0, c1, c2, c3, c4, c5, c6, c7, c8, c9, c10⟩ := HX1.out.cs
  have hl1 := (hB1.cell (World.block_lt_of_cell? _ _ hl)).trans hl
  clear hB1 HF HR hz hl hl1
  go_wp2_with fail
  refine HC.out.mono ?_
  rintro _ w3 ⟨o3, i3, b3, rfl, h1, h2, h3, hB3, -⟩
  obtain ⟨oa3, oc3, rfl⟩ := owns_slice h1
  obtain ⟨ia3, ic3, rfl⟩ := owns_slice h2
  obtain ⟨ba3, bc3, rfl⟩ := owns_slice h3
  have HZ3 : Hid (w3.heap[w.heap.size + 1 + 1 + 1]? = some (Obj.cells #[.bool false, .bool false, .int .i64 0, .int .i64 0, .slice none 0 0, .slice none 0 0, .slice none 0 0, .int .i64 0, .bool false, .bool false, .bool false] 55)) := hide ((hB3.block _ hz1).trans HZ1.out)
  have HB3 := hide (HB1.out.trans (hB3.mono HB1.out.size))
  clear h1 h2 h3 hB3 HC c0 c1 c2 c3 c4 c5 c6 c7 c8 c9 c10
  have f0 := frozen_of_row w3 (w.heap.size + 1 + 1 + 1) 0 _ _ HZ3.out
  have f1 := frozen_of_row w3 (w.heap.size + 1 + 1 + 1) 1 _ _ HZ3.out
  have f2 := frozen_of_row w3 (w.heap.size + 1 + 1 + 1) 2 _ _ HZ3.out
  have f3 := frozen_of_row w3 (w.heap.size + 1 + 1 + 1) 3 _ _ HZ3.out
  have f4 := frozen_of_row w3 (w.heap.size + 1 + 1 + 1) 4 _ _ HZ3.out
  have f5 := frozen_of_row w3 (w.heap.size + 1 + 1 + 1) 5 _ _ HZ3.out
  have f6 := frozen_of_row w3 (w.heap.size + 1 + 1 + 1) 6 _ _ HZ3.out
  have f7 := frozen_of_row w3 (w.heap.size + 1 + 1 + 1) 7 _ _ HZ3.out
  have f8 := frozen_of_row w3 (w.heap.size + 1 + 1 + 1) 8 _ _ HZ3.out
  have f9 := frozen_of_row w3 (w.heap.size + 1 + 1 + 1) 9 _ _ HZ3.out
  have f10 := frozen_of_row w3 (w.heap.size + 1 + 1 + 1) 10 _ _ HZ3.out
  have d0 := cell_of_row w3 (w.heap.size + 1 + 1 + 1) 0 _ _ _ HZ3.out
  have d1 := cell_of_row w3 (w.heap.size + 1 + 1 + 1) 1 _ _ _ HZ3.out
  have d2 := cell_of_row w3 (w.heap.size + 1 + 1 + 1) 2 _ _ _ HZ3.out
  have d3 := cell_of_row w3 (w.heap.size + 1 + 1 + 1) 3 _ _ _ HZ3.out
  have d4 := cell_of_row w3 (w.heap.size + 1 + 1 + 1) 4 _ _ _ HZ3.out
  have d5 := cell_of_row w3 (w.heap.size + 1 + 1 + 1) 5 _ _ _ HZ3.out
  have d6 := cell_of_row w3 (w.heap.size + 1 + 1 + 1) 6 _ _ _ HZ3.out
  have d7 := cell_of_row w3 (w.heap.size + 1 + 1 + 1) 7 _ _ _ HZ3.out
  have d8 := cell_of_row w3 (w.heap.size + 1 + 1 + 1) 8 _ _ _ HZ3.out
  have d9 := cell_of_row w3 (w.heap.size + 1 + 1 + 1) 9 _ _ _ HZ3.out
  have d10 := cell_of_row w3 (w.heap.size + 1 + 1 + 1) 10 _ _ _ HZ3.out
  simp at d0 d1 d2 d3 d4 d5 d6 d7 d8 d9 d10
  obtain ⟨e1, e2⟩ := st_fill w3 (w.heap.size + 1 + 1 + 1) x (.slice oa3 x.out.length oc3) (.slice ia3 x.inn.length ic3) (.slice ba3 x.back.length bc3) HZ3.out
  have HE1 := hide e1
  have HE2 := hide (HB3.out.trans (e2.below (B := w.heap.size) (fun k e => by have e' : k = w.heap.size + 1 + 1 + 1 := e; omega) HB3.out.size))
  clear e1 e2
  go_wp2
  refine bodyPost_ret (res_three rfl _ (w.heap.size + 1 + 1 + 1) rfl x _ _ _ HE1.out) rfl ?_
  exact ⟨_, _, _, _, _, _, rfl, HE2.out⟩
set_option maxRecDepth 100000 in
set_option maxHeartbeats 4000000 in
theorem lall_nil (x : SS) (oa ia ba : Option Addr) (oc ic bc : Nat) {P : Nat → Prop} (limit : Int) (w : World) (h : SIn w P x (.slice oa x.out.length oc) (.slice ia x.inn.length ic) (.slice ba x.back.length bc)) (ho : x.out.length ≤ 140737488351232) (hi : x.inn.length ≤ 140737488351232) (hb : x.back.length ≤ 140737488351232) :
    Calls Tryz.prog 28 #[.agg #[.bool x.rd, .bool x.wt, .int .i64 x.mode, .int .i64 x.size, .slice oa x.out.length oc, .slice ia x.inn.length ic, .slice ba x.back.length bc, .int .i64 x.dir, .bool x.fin, .bool x.bad, .bool x.closed], .nilIface, .int .i64 limit] w fun e w' => ∃ (a1 a2 a3 : Option Addr) (k1 k2 k3 : Nat), e = .returned (.tuple #[.agg #[.bool x.rd, .bool x.wt, .int .i64 x.mode, .int .i64 x.size, .slice a1 x.out.length k1, .slice a2 x.inn.length k2, .slice a3 x.back.length k3, .int .i64 x.dir, .bool x.fin, .bool x.bad, .bool x.closed], .slice none 0 0, .int .i64 (x.refuse false)]) ∧ Below w.heap.size w w' := by
  have HF := hide (three_allocs w (Obj.cells #[.bool x.rd, .bool x.wt, .int .i64 x.mode, .int .i64 x.size, .slice oa x.out.length oc, .slice ia x.inn.length ic, .slice ba x.back.length bc, .int .i64 x.dir, .bool x.fin, .bool x.bad, .bool x.closed] 55) (Obj.cells #[.int .i64 limit] 3) (Obj.cells #[.bool false, .bool false, .int .i64 0, .int .i64 0, .slice none 0 0, .slice none 0 0, .slice none 0 0, .int .i64 0, .bool false, .bool false, .bool false] 55))
  have HRf := fun W => getRefusal_nil x oa ia ba oc ic bc limit 0 1048576 W hi hb
  rw [grefuse_nil] at HRf
  have HR := hide HRf
  have HI := hide h
  have HL := hide (And.intro ho (And.intro hi hb))
  have hr := refuse_nil x
  generalize x.refuse false = r at *
  have hb1 : (r == 0) = false := by simp [hr]
  have hb2 : (r != 0) = true := by simp [hr]
  have hl := cell_of_row _ (w.heap.size + 1) 0 _ _ _ HF.out.2.2.1
  clear HRf h ho hi hb hr
  go_enter Tryz.func28, Tryz.ntmps28
  go_wp2_with fail
  generalize (((w.alloc (Obj.cells #[.bool x.rd, .bool x.wt, .int .i64 x.mode, .int .i64 x.size, .slice oa x.out.length oc, .slice ia x.inn.length ic, .slice ba x.back.length bc, .int .i64 x.dir, .bool x.fin, .bool x.bad, .bool x.closed] 55)).alloc (Obj.cells #[.int .i64 limit] 3)).alloc (Obj.cells #[.bool false, .bool false, .int .i64 0, .int .i64 0, .slice none 0 0, .slice none 0 0, .slice none 0 0, .int .i64 0, .bool false, .bool false, .bool false] 55)) = w0 at *
  refine (HR.out w0).mono ?_
  rintro _ w1 ⟨rfl, hB1⟩
  have hz := HF.out.2.2.2.2
  have HB1 := hide (HF.out.1.trans (hB1.mono HF.out.1.size))
  have HX1 : Hid (StAt w1 w.heap.size x (.slice oa x.out.length oc) (.slice ia x.inn.length ic) (.slice ba x.back.length bc)) := hide ((hB1.block _ (by omega)).trans HF.out.2.1)
  have HZ1 : Hid (w1.heap[w.heap.size + 1 + 1]? = some (Obj.cells #[.bool false, .bool false, .int .i64 0, .int .i64 0, .slice none 0 0, .slice none 0 0, .slice none 0 0, .int .i64 0, .bool false, .bool false, .bool false] 55)) := hide ((hB1.block _ hz).trans HF.out.2.2.2.1)
  have hz1 : w.heap.size + 1 + 1 < w1.heap.size := Nat.lt_of_lt_of_le hz hB1.size
  have HC := hide (lcopied_any x _ _ _ P w1 (HI.out.below HB1.out) HL.out.1 HL.out.2.1 HL.out.2.2)
  obtain ⟨c0, c1, c2, c3, c4, c5, c6, c7, c8, c9, c10⟩ := HX1.out.cs
  have hl1 := (hB1.cell (World.block_lt_of_cell? _ _ hl)).trans hl
  clear hB1 HF HR hz hl hl1
  go_wp2_with fail
  refine HC.out.mono ?_
  rintro _ w3 ⟨o3, i3, b3, rfl, h1, h2, h3, hB3, -⟩
  obtain ⟨oa3, oc3, rfl⟩ := owns_slice h1
  obtain ⟨ia3, ic3, rfl⟩ := owns_slice h2
  obtain ⟨ba3, bc3, rfl⟩ := owns_slice h3
  have HZ3 : Hid (w3.heap[w.heap.size + 1 + 1]? = some (Obj.cells #[.bool false, .bool false, .int .i64 0, .int .i64 0, .slice none 0 0, .slice none 0 0, .slice none 0 0, .int .i64 0, .bool false, .bool false, .bool false] 55)) := hide ((hB3.block _ hz1).trans HZ1.out)
  have HB3 := hide (HB1.out.trans (hB3.mono HB1.out.size))
  clear h1 h2 h3 hB3 HC c0 c1 c2 c3 c4 c5 c6 c7 c8 c9 c10
  have f0 := frozen_of_row w3 (w.heap.size + 1 + 1) 0 _ _ HZ3.out
  have f1 := frozen_of_row w3 (w.heap.size + 1 + 1) 1 _ _ HZ3.out
  have f2 := frozen_of_row w3 (w.heap.size + 1 + 1) 2 _ _ HZ3.out
  have f3 := frozen_of_row w3 (w.heap.size + 1 + 1) 3 _ _ HZ3.out
  have f4 := frozen_of_row w3 (w.heap.size + 1 + 1) 4 _ _ HZ3.out
  have f5 := frozen_of_row w3 (w.heap.size + 1 + 1) 5 _ _ HZ3.out
  have f6 := frozen_of_row w3 (w.heap.size + 1 + 1) 6 _ _ HZ3.out
  have f7 := frozen_of_row w3 (w.heap.size + 1 + 1) 7 _ _ HZ3.out
  have f8 := frozen_of_row w3 (w.heap.size + 1 + 1) 8 _ _ HZ3.out
  have f9 := frozen_of_row w3 (w.heap.size + 1 + 1) 9 _ _ HZ3.out
  have f10 := frozen_of_row w3 (w.heap.size + 1 + 1) 10 _ _ HZ3.out
  have d0 := cell_of_row w3 (w.heap.size + 1 + 1) 0 _ _ _ HZ3.out
  have d1 := cell_of_row w3 (w.heap.size + 1 + 1) 1 _ _ _ HZ3.out
  have d2 := cell_of_row w3 (w.heap.size + 1 + 1) 2 _ _ _ HZ3.out
  have d3 := cell_of_row w3 (w.heap.size + 1 + 1) 3 _ _ _ HZ3.out
  have d4 := cell_of_row w3 (w.heap.size + 1 + 1) 4 _ _ _ HZ3.out
  have d5 := cell_of_row w3 (w.heap.size + 1 + 1) 5 _ _ _ HZ3.out
  have d6 := cell_of_row w3 (w.heap.size + 1 + 1) 6 _ _ _ HZ3.out
  have d7 := cell_of_row w3 (w.heap.size + 1 + 1) 7 _ _ _ HZ3.out
  have d8 := cell_of_row w3 (w.heap.size + 1 + 1) 8 _ _ _ HZ3.out
  have d9 := cell_of_row w3 (w.heap.size + 1 + 1) 9 _ _ _ HZ3.out
  have d10 := cell_of_row w3 (w.heap.size + 1 + 1) 10 _ _ _ HZ3.out
  simp at d0 d1 d2 d3 d4 d5 d6 d7 d8 d9 d10
  obtain ⟨e1, e2⟩ := st_fill w3 (w.heap.size + 1 + 1) x (.slice oa3 x.out.length oc3) (.slice ia3 x.inn.length ic3) (.slice ba3 x.back.length bc3) HZ3.out
  have HE1 := hide e1
  have HE2 := hide (HB3.out.trans (e2.below (B := w.heap.size) (fun k e => by have e' : k = w.heap.size + 1 + 1 := e; omega) HB3.out.size))
  clear e1 e2
  go_wp2
  refine bodyPost_ret (res_three rfl _ (w.heap.size + 1 + 1) rfl x _ _ _ HE1.out) rfl ?_
  exact ⟨_, _, _, _, _, _, rfl, HE2.out⟩
set_option maxRecDepth 100000 in
set_option maxHeartbeats 4000000 in
theorem lput_nil (x : SS) (oa ia ba : Option Addr) (oc ic bc : Nat) {P : Nat → Prop}  (w : World) (h : SIn w P x (.slice oa x.out.length oc) (.slice ia x.inn.length ic) (.slice ba x.back.length bc)) (ho : x.out.length ≤ 140737488351232) (hi : x.inn.length ≤ 140737488351232) (hb : x.back.length ≤ 140737488351232) :
    Calls Tryz.prog 29 #[.agg #[.bool x.rd, .bool x.wt, .int .i64 x.mode, .int .i64 x.size, .slice oa x.out.length oc, .slice ia x.inn.length ic, .slice ba x.back.length bc, .int .i64 x.dir, .bool x.fin, .bool x.bad, .bool x.closed], .nilIface, .slice none 0 0] w fun e w' => ∃ (a1 a2 a3 : Option Addr) (k1 k2 k3 : Nat), e = .returned (.tuple #[.agg #[.bool x.rd, .bool x.wt, .int .i64 x.mode, .int .i64 x.size, .slice a1 x.out.length k1, .slice a2 x.inn.length k2, .slice a3 x.back.length k3, .int .i64 x.dir, .bool x.fin, .bool x.bad, .bool x.closed], .int .i64 0, .int .i64 (x.refuse false)]) ∧ Below w.heap.size w w' := by
  have HF := hide (two_allocs w (Obj.cells #[.bool x.rd, .bool x.wt, .int .i64 x.mode, .int .i64 x.size, .slice oa x.out.length oc, .slice ia x.inn.length ic, .slice ba x.back.length bc, .int .i64 x.dir, .bool x.fin, .bool x.bad, .bool x.closed] 55) (Obj.cells #[.bool false, .bool false, .int .i64 0, .int .i64 0, .slice none 0 0, .slice none 0 0, .slice none 0 0, .int .i64 0, .bool false, .bool false, .bool false] 55))
  have HRf := fun W => putRefusal_nil x oa ia ba oc ic bc none 0 0 1048576 W hi hb
  rw [prefuse_nil] at HRf
  have HR := hide HRf
  have HI := hide h
  have HL := hide (And.intro ho (And.intro hi hb))
  have hr := refuse_nil x
  generalize x.refuse false = r at *
  have hb1 : (r == 0) = false := by simp [hr]
  have hb2 : (r != 0) = true := by simp [hr]

  clear HRf h ho hi hb hr
  go_enter Tryz.func29, Tryz.ntmps29
  go_wp2_with fail
  generalize ((w.alloc (Obj.cells #[.bool x.rd, .bool x.wt, .int .i64 x.mode, .int .i64 x.size, .slice oa x.out.length oc, .slice ia x.inn.length ic, .slice ba x.back.length bc, .int .i64 x.dir, .bool x.fin, .bool x.bad, .bool x.closed] 55)).alloc (Obj.cells #[.bool false, .bool false, .int .i64 0, .int .i64 0, .slice none 0 0, .slice none 0 0, .slice none 0 0, .int .i64 0, .bool false, .bool false, .bool false] 55)) = w0 at *
  refine (HR.out w0).mono ?_
  rintro _ w1 ⟨rfl, hB1⟩
  have hz := HF.out.2.2.2
  have HB1 := hide (HF.out.1.trans (hB1.mono HF.out.1.size))
  have HX1 : Hid (StAt w1 w.heap.size x (.slice oa x.out.length oc) (.slice ia x.inn.length ic) (.slice ba x.back.length bc)) := hide ((hB1.block _ (by omega)).trans HF.out.2.1)
  have HZ1 : Hid (w1.heap[w.heap.size + 1]? = some (Obj.cells #[.bool false, .bool false, .int .i64 0, .int .i64 0, .slice none 0 0, .slice none 0 0, .slice none 0 0, .int .i64 0, .bool false, .bool false, .bool false] 55)) := hide ((hB1.block _ hz).trans HF.out.2.2.1)
  have hz1 : w.heap.size + 1 < w1.heap.size := Nat.lt_of_lt_of_le hz hB1.size
  have HC := hide (lcopied_any x _ _ _ P w1 (HI.out.below HB1.out) HL.out.1 HL.out.2.1 HL.out.2.2)
  obtain ⟨c0, c1, c2, c3, c4, c5, c6, c7, c8, c9, c10⟩ := HX1.out.cs
  clear hB1 HF HR hz
  go_wp2_with fail
  refine HC.out.mono ?_
  rintro _ w3 ⟨o3, i3, b3, rfl, h1, h2, h3, hB3, -⟩
  obtain ⟨oa3, oc3, rfl⟩ := owns_slice h1
  obtain ⟨ia3, ic3, rfl⟩ := owns_slice h2
  obtain ⟨ba3, bc3, rfl⟩ := owns_slice h3
  have HZ3 : Hid (w3.heap[w.heap.size + 1]? = some (Obj.cells #[.bool false, .bool false, .int .i64 0, .int .i64 0, .slice none 0 0, .slice none 0 0, .slice none 0 0, .int .i64 0, .bool false, .bool false, .bool false] 55)) := hide ((hB3.block _ hz1).trans HZ1.out)
  have HB3 := hide (HB1.out.trans (hB3.mono HB1.out.size))
  clear h1 h2 h3 hB3 HC c0 c1 c2 c3 c4 c5 c6 c7 c8 c9 c10
  have f0 := frozen_of_row w3 (w.heap.size + 1) 0 _ _ HZ3.out
  have f1 := frozen_of_row w3 (w.heap.size + 1) 1 _ _ HZ3.out
  have f2 := frozen_of_row w3 (w.heap.size + 1) 2 _ _ HZ3.out
  have f3 := frozen_of_row w3 (w.heap.size + 1) 3 _ _ HZ3.out
  have f4 := frozen_of_row w3 (w.heap.size + 1) 4 _ _ HZ3.out
  have f5 := frozen_of_row w3 (w.heap.size + 1) 5 _ _ HZ3.out
  have f6 := frozen_of_row w3 (w.heap.size + 1) 6 _ _ HZ3.out
  have f7 := frozen_of_row w3 (w.heap.size + 1) 7 _ _ HZ3.out
  have f8 := frozen_of_row w3 (w.heap.size + 1) 8 _ _ HZ3.out
  have f9 := frozen_of_row w3 (w.heap.size + 1) 9 _ _ HZ3.out
  have f10 := frozen_of_row w3 (w.heap.size + 1) 10 _ _ HZ3.out
  have d0 := cell_of_row w3 (w.heap.size + 1) 0 _ _ _ HZ3.out
  have d1 := cell_of_row w3 (w.heap.size + 1) 1 _ _ _ HZ3.out
  have d2 := cell_of_row w3 (w.heap.size + 1) 2 _ _ _ HZ3.out
  have d3 := cell_of_row w3 (w.heap.size + 1) 3 _ _ _ HZ3.out
  have d4 := cell_of_row w3 (w.heap.size + 1) 4 _ _ _ HZ3.out
  have d5 := cell_of_row w3 (w.heap.size + 1) 5 _ _ _ HZ3.out
  have d6 := cell_of_row w3 (w.heap.size + 1) 6 _ _ _ HZ3.out
  have d7 := cell_of_row w3 (w.heap.size + 1) 7 _ _ _ HZ3.out
  have d8 := cell_of_row w3 (w.heap.size + 1) 8 _ _ _ HZ3.out
  have d9 := cell_of_row w3 (w.heap.size + 1) 9 _ _ _ HZ3.out
  have d10 := cell_of_row w3 (w.heap.size + 1) 10 _ _ _ HZ3.out
  simp at d0 d1 d2 d3 d4 d5 d6 d7 d8 d9 d10
  obtain ⟨e1, e2⟩ := st_fill w3 (w.heap.size + 1) x (.slice oa3 x.out.length oc3) (.slice ia3 x.inn.length ic3) (.slice ba3 x.back.length bc3) HZ3.out
  have HE1 := hide e1
  have HE2 := hide (HB3.out.trans (e2.below (B := w.heap.size) (fun k e => by have e' : k = w.heap.size + 1 := e; omega) HB3.out.size))
  clear e1 e2
  go_wp2
  refine bodyPost_ret (res_three rfl _ (w.heap.size + 1) rfl x _ _ _ HE1.out) rfl ?_
  exact ⟨_, _, _, _, _, _, rfl, HE2.out⟩
set_option maxRecDepth 100000 in
set_option maxHeartbeats 4000000 in
theorem lget_nil (x : SS) (oa ia ba : Option Addr) (oc ic bc : Nat) {P : Nat → Prop} (limit : Int) (w : World) (h : SIn w P x (.slice oa x.out.length oc) (.slice ia x.inn.length ic) (.slice ba x.back.length bc)) (ho : x.out.length ≤ 140737488351232) (hi : x.inn.length ≤ 140737488351232) (hb : x.back.length ≤ 140737488351232) :
    Calls Tryz.prog 27 #[.agg #[.bool x.rd, .bool x.wt, .int .i64 x.mode, .int .i64 x.size, .slice oa x.out.length oc, .slice ia x.inn.length ic, .slice ba x.back.length bc, .int .i64 x.dir, .bool x.fin, .bool x.bad, .bool x.closed], .nilIface, .int .i64 limit] w fun e w' => ∃ (a1 a2 a3 : Option Addr) (k1 k2 k3 : Nat), e = .returned (.tuple #[.agg #[.bool x.rd, .bool x.wt, .int .i64 x.mode, .int .i64 x.size, .slice a1 x.out.length k1, .slice a2 x.inn.length k2, .slice a3 x.back.length k3, .int .i64 x.dir, .bool x.fin, .bool x.bad, .bool x.closed], .slice none 0 0, .int .i64 (x.refuse false)]) ∧ Below w.heap.size w w' := by
  have HF := hide (two_allocs w (Obj.cells #[.bool x.rd, .bool x.wt, .int .i64 x.mode, .int .i64 x.size, .slice oa x.out.length oc, .slice ia x.inn.length ic, .slice ba x.back.length bc, .int .i64 x.dir, .bool x.fin, .bool x.bad, .bool x.closed] 55) (Obj.cells #[.bool false, .bool false, .int .i64 0, .int .i64 0, .slice none 0 0, .slice none 0 0, .slice none 0 0, .int .i64 0, .bool false, .bool false, .bool false] 55))
  have hU := luntil_nil x oa ia ba oc ic bc 10 limit _ (h.below HF.out.1) ho hi hb
  rw [show (((10 : UInt8).toNat : Nat) : Int) = 10 from rfl] at hU
  have HU := hide hU
  clear h ho hi hb hU
  generalize x.refuse false = r at *
  go_enter Tryz.func27, Tryz.ntmps27
  go_wp2_with fail
  generalize ((w.alloc (Obj.cells #[.bool x.rd, .bool x.wt, .int .i64 x.mode, .int .i64 x.size, .slice oa x.out.length oc, .slice ia x.inn.length ic, .slice ba x.back.length bc, .int .i64 x.dir, .bool x.fin, .bool x.bad, .bool x.closed] 55)).alloc (Obj.cells #[.bool false, .bool false, .int .i64 0, .int .i64 0, .slice none 0 0, .slice none 0 0, .slice none 0 0, .int .i64 0, .bool false, .bool false, .bool false] 55)) = w0 at *
  refine HU.out.mono ?_
  rintro _ w3 ⟨a1, a2, a3, k1, k2, k3, rfl, hB3⟩
  have hz := HF.out.2.2.2
  have HZ3 : Hid (w3.heap[w.heap.size + 1]? = some (Obj.cells #[.bool false, .bool false, .int .i64 0, .int .i64 0, .slice none 0 0, .slice none 0 0, .slice none 0 0, .int .i64 0, .bool false, .bool false, .bool false] 55)) := hide ((hB3.block _ hz).trans HF.out.2.2.1)
  have HB3 := hide (HF.out.1.trans (hB3.mono HF.out.1.size))
  clear hB3 HF HU hz
  have f0 := frozen_of_row w3 (w.heap.size + 1) 0 _ _ HZ3.out
  have f1 := frozen_of_row w3 (w.heap.size + 1) 1 _ _ HZ3.out
  have f2 := frozen_of_row w3 (w.heap.size + 1) 2 _ _ HZ3.out
  have f3 := frozen_of_row w3 (w.heap.size + 1) 3 _ _ HZ3.out
  have f4 := frozen_of_row w3 (w.heap.size + 1) 4 _ _ HZ3.out
  have f5 := frozen_of_row w3 (w.heap.size + 1) 5 _ _ HZ3.out
  have f6 := frozen_of_row w3 (w.heap.size + 1) 6 _ _ HZ3.out
  have f7 := frozen_of_row w3 (w.heap.size + 1) 7 _ _ HZ3.out
  have f8 := frozen_of_row w3 (w.heap.size + 1) 8 _ _ HZ3.out
  have f9 := frozen_of_row w3 (w.heap.size + 1) 9 _ _ HZ3.out
  have f10 := frozen_of_row w3 (w.heap.size + 1) 10 _ _ HZ3.out
  have d0 := cell_of_row w3 (w.heap.size + 1) 0 _ _ _ HZ3.out
  have d1 := cell_of_row w3 (w.heap.size + 1) 1 _ _ _ HZ3.out
  have d2 := cell_of_row w3 (w.heap.size + 1) 2 _ _ _ HZ3.out
  have d3 := cell_of_row w3 (w.heap.size + 1) 3 _ _ _ HZ3.out
  have d4 := cell_of_row w3 (w.heap.size + 1) 4 _ _ _ HZ3.out
  have d5 := cell_of_row w3 (w.heap.size + 1) 5 _ _ _ HZ3.out
  have d6 := cell_of_row w3 (w.heap.size + 1) 6 _ _ _ HZ3.out
  have d7 := cell_of_row w3 (w.heap.size + 1) 7 _ _ _ HZ3.out
  have d8 := cell_of_row w3 (w.heap.size + 1) 8 _ _ _ HZ3.out
  have d9 := cell_of_row w3 (w.heap.size + 1) 9 _ _ _ HZ3.out
  have d10 := cell_of_row w3 (w.heap.size + 1) 10 _ _ _ HZ3.out
  simp at d0 d1 d2 d3 d4 d5 d6 d7 d8 d9 d10
  obtain ⟨e1, e2⟩ := st_fill w3 (w.heap.size + 1) x (.slice a1 x.out.length k1) (.slice a2 x.inn.length k2) (.slice a3 x.back.length k3) HZ3.out
  have HE1 := hide e1
  have HE2 := hide (HB3.out.trans (e2.below (B := w.heap.size) (fun k e => by have e' : k = w.heap.size + 1 := e; omega) HB3.out.size))
  clear e1 e2
  go_wp2
  refine bodyPost_ret (res_three rfl _ (w.heap.size + 1) rfl x _ _ _ HE1.out) rfl ?_
  exact ⟨_, _, _, _, _, _, rfl, HE2.out⟩
end Go.Proofs.YtndleeafkepdjaaGreat

/- LinesOwn: what a call that tells bytes gave, in a new variable; how long the lists are that follow. -/
namespace Go.Proofs.YtndleeafkepdjaaGreat
open Go.RowKit

theorem gat_may {S : Type} (D : RawD S) (stop : List UInt8 → Bool) : ∀ (n : Nat) (x : SS) (s : S) (acc : List UInt8), x.may = true → (gat D stop n x s acc).1.may = true ∧ (gat D stop n x s acc).2.1.length ≤ acc.length + n
  | 0, x, s, acc, h => ⟨h, by show acc.length ≤ _; omega⟩
  | n + 1, x, s, acc, h => by
    have hg := (get_may D s h).1
    have ih := gat_may D stop n (x.get D s).1 (x.get D s).2.2.2 (acc ++ [(x.get D s).2.1]) hg
    unfold gat
    split
    · exact ⟨h, by show acc.length ≤ _; omega⟩
    · split
      · exact ⟨hg, by show acc.length ≤ _; omega⟩
      · exact ⟨ih.1, by have := ih.2; simp only [List.length_append, List.length_cons, List.length_nil] at this; omega⟩
theorem until_lens {S : Type} (D : RawD S) (x : SS) (s : S) (d : UInt8) (limit : Int) {L : Nat} (hL : 65536 ≤ L) (ho : x.out.length ≤ L) (hi : x.inn.length ≤ L) (hb : x.back.length ≤ L) : ((x.until D s d limit).1.out.length ≤ L ∧ (x.until D s d limit).1.inn.length ≤ L ∧ (x.until D s d limit).1.back.length ≤ L) ∧ (x.until D s d limit).2.1.length ≤ 65537 := by
  unfold SS.until
  by_cases hr : x.grefuse true limit 1 65536 ≠ 0
  · rw [if_pos hr]
    exact ⟨⟨ho, hi, hb⟩, by simp⟩
  · rw [if_neg hr]
    have hr0 : x.grefuse true limit 1 65536 = 0 := by simpa using hr
    have hm : x.may = true ∧ limit ≤ 65536 := by
      unfold SS.grefuse at hr0
      by_cases h0 : x.refuse true = 0
      · rw [if_neg (by simp [h0])] at hr0
        refine ⟨(refuse_may h0).1, ?_⟩
        by_cases h1 : limit < 1 ∨ 65536 < limit
        · rw [if_pos h1] at hr0; omega
        · omega
      · rw [if_pos h0] at hr0; exact absurd hr0 h0
    obtain ⟨g1, g2⟩ := gat_may D (stopU d limit) (limit.toNat + 1) x s [] hm.1
    obtain ⟨m1, m2, m3, m4, m5, m6, m7, m8⟩ := may_buf g1
    simp only
    refine ⟨⟨by omega, by omega, by omega⟩, ?_⟩
    have := g2
    simp only [List.length_nil] at this
    omega
structure GotG {S : Type} (At : World → (Nat → Prop) → S → Prop) (W0 : World) (O O' : Nat → Prop) (W : World) (g : Nat) (R : SS × List UInt8 × Int × S) (o i b u : Value) : Prop where
  got : Got At W0 O O' W g R.1 R.2.2.2 o i b
  row : W.ownsRow W0.heap.size 5 1 u R.2.1.length (R.2.1.map bv)
  off : ∀ k, u.ownBlock = some k → k ≠ g ∧ o.ownBlock ≠ some k ∧ i.ownBlock ≠ some k ∧ b.ownBlock ≠ some k
theorem GOut.sout {S : Type} {At : World → (Nat → Prop) → S → Prop} {w w' : World} {O : Nat → Prop} {R : SS × List UInt8 × Int × S} {o i b u : Value} (h : GOut At w O R o i b u w') : SOut At w O R.1 R.2.2.2 o i b w' := ⟨h.choose, h.choose_spec.1⟩
theorem GotG.behind {S : Type} {At : World → (Nat → Prop) → S → Prop} (hT : ∀ s, OAt (fun w O => At w O s)) {W0 W1 : World} {O : Nat → Prop} {R : SS × List UInt8 × Int × S} {o i b u : Value} (h : GOut At W0 O R o i b u W1) : ∃ O', GotG At W0 O O' (W1.alloc (Obj.cells #[.bool R.1.rd, .bool R.1.wt, .int .i64 R.1.mode, .int .i64 R.1.size, o, i, b, .int .i64 R.1.dir, .bool R.1.fin, .bool R.1.bad, .bool R.1.closed] 55)) W1.heap.size R o i b u := by
  obtain ⟨O', hg⟩ := Got.behind hT h.sout
  have h6 := h.choose_spec.2.1
  exact ⟨O', hg, owns_below h6 (recv_below W1 _), fun k e => ⟨by have := (h6.lt k e).2; omega, (h.choose_spec.2.2 k e).2⟩⟩
theorem GotG.ahead {S : Type} {At : World → (Nat → Prop) → S → Prop} (hT : ∀ s, OAt (fun w O => At w O s)) {W0 W1 : World} {O : Nat → Prop} {R : SS × List UInt8 × Int × S} {o i b u : Value} (h : GOut At (W0.alloc (Obj.cells #[.bool false, .bool false, .int .i64 0, .int .i64 0, .slice none 0 0, .slice none 0 0, .slice none 0 0, .int .i64 0, .bool false, .bool false, .bool false] 55)) O R o i b u W1) (hO : ∀ j, O j → j < W0.heap.size) : ∃ O', GotG At W0 O O' ((((((((((((W1.setCell ⟨W0.heap.size, 0, none⟩ (.bool R.1.rd)).setCell ⟨W0.heap.size, 1, none⟩ (.bool R.1.wt)).setCell ⟨W0.heap.size, 2, none⟩ (.int .i64 R.1.mode)).setCell ⟨W0.heap.size, 3, none⟩ (.int .i64 R.1.size)).setCell ⟨W0.heap.size, 4, none⟩ (o)).setCell ⟨W0.heap.size, 5, none⟩ (i)).setCell ⟨W0.heap.size, 6, none⟩ (b)).setCell ⟨W0.heap.size, 7, none⟩ (.int .i64 R.1.dir)).setCell ⟨W0.heap.size, 8, none⟩ (.bool R.1.fin)).setCell ⟨W0.heap.size, 9, none⟩ (.bool R.1.bad)).setCell ⟨W0.heap.size, 10, none⟩ (.bool R.1.closed))) W0.heap.size R o i b u := by
  obtain ⟨O', hg⟩ := Got.ahead hT h.sout hO
  have h6 := h.choose_spec.2.1
  have hzs : (W0.alloc (Obj.cells #[.bool false, .bool false, .int .i64 0, .int .i64 0, .slice none 0 0, .slice none 0 0, .slice none 0 0, .int .i64 0, .bool false, .bool false, .bool false] 55)).heap.size = W0.heap.size + 1 := World.size_alloc ..
  have ht : Turned O (W0.alloc (Obj.cells #[.bool false, .bool false, .int .i64 0, .int .i64 0, .slice none 0 0, .slice none 0 0, .slice none 0 0, .int .i64 0, .bool false, .bool false, .bool false] 55)) W1 := h.choose_spec.1.2.2.2.2
  have hz9 : W1.heap[W0.heap.size]? = some (Obj.cells #[.bool false, .bool false, .int .i64 0, .int .i64 0, .slice none 0 0, .slice none 0 0, .slice none 0 0, .int .i64 0, .bool false, .bool false, .bool false] 55) := (ht.block W0.heap.size (by omega) (fun e => by have := hO _ e; omega)).trans (heap_alloc_new W0 _)
  obtain ⟨-, e2⟩ := st_fill W1 W0.heap.size R.1 o i b hz9
  exact ⟨O', hg, owns_mono (owns_turned h6 e2 (fun k e e' => by have e3 : k = W0.heap.size := e'; have := (h6.lt k e).1; omega)) (by omega), fun k e => ⟨by have := (h6.lt k e).1; omega, (h.choose_spec.2.2 k e).2⟩⟩
end Go.Proofs.YtndleeafkepdjaaGreat

/- A pipe with both ends, the page's example, and a pipe that no call made. -/
namespace Go.Proofs.YtndleeafkepdjaaGreat
open Go.RowKit

end Go.Proofs.YtndleeafkepdjaaGreat

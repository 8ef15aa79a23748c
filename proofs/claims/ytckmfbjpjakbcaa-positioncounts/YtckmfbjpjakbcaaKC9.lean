/- What the proof stands on, part 9: the contracts of the program's calls that it reaches. -/
import Derived.Test.YtckmfbjpjakbcaaKC8
import Derived.KernelRfl
import Derived.Lib.SlBytesConst
import Derived.ProofKit
import Derived.OpenShut
import Derived.ChangeArms
import Derived.ChangeSlices
import Derived.SizedLaws
import Derived.Deep.Slices
import Derived.Deep.DeepCutAuto
/- Position over memory that grows: values. -/
namespace Go.Proofs.Ytckmfbjpjakbcaa
open Go.RowKit

theorem bearsS_true {S : Type} (K : SkV S) : BearsS K (fun _ => True) (fun _ _ => True) := fun _ _ _ _ _ => ⟨trivial, trivial⟩
theorem gro_seek (g : Nat) : RawS MS.seek 24 (.pointer (some ⟨g, 0, none⟩)) 94 (fun _ => True) (fun w O S => MemAt w O g S) where
  mseek w := by kernel_rfl
  cseek a w := by kernel_rfl
  seek o wh h _ _ := gmseek_any _ g _ o wh _ h
  told {w O s} o wh h := by
    have hk := h.ok
    unfold MS.seek
    split
    · exact ⟨Int.le_refl _, by simp only; omega⟩
    split
    · exact ⟨Int.le_refl _, by simp only; omega⟩
    · simp only
      omega
def moRW : Mo := ⟨true, true, false, false, false, false, false, false⟩
theorem chk_moRW : chkM moRW = 0 := by decide
def xRW (mode size : Int) : SS := ⟨true, true, mode, size, [], [], [], 0, false, false, false⟩
theorem new_RW (mode size : Int) : SS.new moRW mode size = if 1 ≤ mode ∧ mode ≤ 3 then (if 1 ≤ size ∧ size ≤ 65536 then (xRW mode size, 0) else (ss0, 4)) else (ss0, 1) := by
  unfold SS.new
  rw [if_pos chk_moRW]
  rfl
structure RdS (x : SS) (S : MS) (l : List UInt8) (k : Nat) : Prop where
  rd : x.rd = true
  m1 : 1 ≤ x.mode
  m3 : x.mode ≤ 3
  s1 : 1 ≤ x.size
  s2 : x.size ≤ 65536
  out : x.out = []
  back : x.back = []
  closed : x.closed = false
  dir : x.dir = 1 ∨ (x.dir = 0 ∧ x.inn = [])
  il : x.inn.length ≤ 65536
  lq : S.l = l
  room : S.room = 1048576
  ll : l.length ≤ 1048576
  kl : k ≤ l.length
  pl : S.pl = k + x.inn.length
  ple : S.pl ≤ l.length
  inn : x.inn = (l.drop k).take x.inn.length
  fin : x.fin = true → k = l.length
theorem RdS.may {x : SS} {S : MS} {l : List UInt8} {k : Nat} (h : RdS x S l k) : x.may = true := by
  refine (may_iff x).2 ⟨h.m1, h.m3, h.s1, h.s2, by rw [h.out]; have := h.s1; simp; omega, fun _ => by rw [h.out]; rfl, h.il, by rw [h.back]; simp, ?_⟩
  rcases h.dir with e | ⟨e, e2⟩
  · exact .inr (.inl ⟨e, h.rd, by rw [h.out]; rfl, h.closed⟩)
  · exact .inl ⟨e, by rw [h.out]; rfl, by rw [e2, h.back]; rfl⟩
theorem RdS.refuse {x : SS} {S : MS} {l : List UInt8} {k : Nat} (h : RdS x S l k) : x.refuse true = 0 := by
  unfold SS.refuse
  rw [if_neg (by simp [h.may]), if_neg (by simp), if_neg (by simp [h.closed])]
theorem RdS.noRead {x : SS} {S : MS} {l : List UInt8} {k : Nat} (h : RdS x S l k) : x.noRead = 0 := by
  unfold SS.noRead
  rw [if_neg (by simp [h.refuse]), if_neg (by simp [h.rd]), if_neg (by rcases h.dir with e | e <;> omega)]
theorem RdS.deliver {x : SS} {S : MS} {l : List UInt8} {k : Nat} (h : RdS x S l k) : x.deliver msR S = (x, 0, S) := by
  unfold SS.deliver
  have h1 : putV msR x.out (putF x.out) S 0 0 = (0, 0, S) := putV_done _ _ _ _ _ _ (by rw [h.out]; simp)
  rw [h1]
  unfold SS.mark
  simp
theorem ms_some (S : MS) (n : Nat) (h1 : 1 ≤ n) (h2 : n ≤ 1048576) : someV msR n 8192 S = (piece S.l S.pl n, 0, ⟨S.l, S.room, S.pl + (piece S.l S.pl n).length⟩) := by
  have hr : msR.read S n = (piece S.l S.pl n, 0, ⟨S.l, S.room, S.pl + (piece S.l S.pl n).length⟩) := by
    show S.read (n : Int) = _
    unfold MS.read
    rw [if_pos (by unfold inR; simp; omega), Int.toNat_natCast]
  rw [show (8192 : Nat) = 8191 + 1 from rfl, someV_next msR n 8191 S hr, if_neg (by omega), if_neg (by rw [piece_len]; omega), if_pos rfl]
set_option linter.unusedSimpArgs false in
theorem RdS.get {x : SS} {S : MS} {l : List UInt8} {k : Nat} (h : RdS x S l k) : RdS (x.get msR S).1 (x.get msR S).2.2.2 l (min (k + 1) l.length) ∧ (x.get msR S).2.2.1 = (if k < l.length then 0 else 111) ∧ (k < l.length → (x.get msR S).2.1 = l.getD k 0) ∧ (x.get msR S).1.wt = x.wt := by
  have hk := h.kl
  have hp := h.pl
  have hpe := h.ple
  have hll := h.ll
  unfold SS.get
  rw [if_pos h.noRead]
  unfold SS.get1
  simp only
  rw [if_neg (by rw [h.back]; simp)]
  by_cases hi : 0 < x.inn.length
  · rw [if_pos hi]
    have hkl : k < l.length := by omega
    have hin := h.inn
    have hm : min (k + 1) l.length = k + 1 := by omega
    rw [hm]
    refine ⟨⟨h.rd, h.m1, h.m3, h.s1, h.s2, h.out, h.back, h.closed, .inl rfl, by simp only [List.length_drop]; have := h.il; omega, h.lq, h.room, hll, by omega, by simp only [List.length_drop]; omega, hpe, ?_, fun e => by have := h.fin e; omega⟩, by rw [if_pos hkl], fun _ => ?_, rfl⟩
    · simp only [List.length_drop]
      conv => lhs; rw [hin]
      rw [List.drop_take, List.drop_drop]
    · simp only
      rw [hin]
      simp only [List.getD_eq_getElem?_getD]
      rw [List.getElem?_take_of_lt hi, List.getElem?_drop]
      simp
  rw [if_neg hi]
  have hi0 : x.inn.length = 0 := by omega
  have hie : x.inn = [] := List.length_eq_zero_iff.1 hi0
  by_cases hf : x.fin = true
  · rw [if_pos hf]
    have hkl := h.fin hf
    have hm : min (k + 1) l.length = k := by omega
    rw [hm]
    exact ⟨⟨h.rd, h.m1, h.m3, h.s1, h.s2, h.out, h.back, h.closed, .inl rfl, h.il, h.lq, h.room, hll, hk, hp, hpe, h.inn, fun _ => hkl⟩, by rw [if_neg (by omega)], fun e => by omega, rfl⟩
  rw [if_neg hf]
  have hmost : 1 ≤ x.most ∧ x.most ≤ 65536 := by
    have h1 := h.s1
    have h2 := h.s2
    unfold SS.most
    split <;> omega
  have hms : (SS.most { rd := x.rd, wt := x.wt, mode := x.mode, size := x.size, out := x.out, inn := x.inn, back := x.back, dir := 1, fin := x.fin, bad := x.bad, closed := x.closed }) = x.most := rfl
  rw [hms, ms_some S x.most hmost.1 (by omega)]
  simp only
  rw [if_neg (by simp)]
  have hpl : S.pl = k := by omega
  rw [h.lq, hpl]
  have hlen := piece_len l k x.most
  by_cases hkl : k < l.length
  · have hm : min (k + 1) l.length = k + 1 := by omega
    rw [if_neg (by omega), hm]
    refine ⟨⟨h.rd, h.m1, h.m3, h.s1, h.s2, h.out, h.back, h.closed, .inl rfl, by simp only [List.length_drop]; omega, rfl, h.room, hll, by omega, by simp only [List.length_drop]; omega, by simp only; omega, ?_, fun e => absurd e hf⟩, by rw [if_pos hkl], fun _ => ?_, rfl⟩
    · simp only [List.length_drop]
      unfold piece
      rw [List.drop_take, List.drop_drop, List.take_eq_take_iff, List.length_take, List.length_drop, List.length_drop]
      omega
    · simp only [List.getD_eq_getElem?_getD]
      unfold piece
      rw [List.getElem?_take_of_lt (by omega), List.getElem?_drop]
      simp
  · have hm : min (k + 1) l.length = k := by omega
    rw [if_pos (by omega), hm]
    exact ⟨⟨h.rd, h.m1, h.m3, h.s1, h.s2, h.out, h.back, h.closed, .inl rfl, h.il, rfl, h.room, hll, hk, by simp only; omega, by simp only; omega, h.inn, fun _ => by omega⟩, by rw [if_neg hkl], fun e => absurd e hkl, rfl⟩
theorem RdS.tell {x : SS} {S : MS} {l : List UInt8} {k : Nat} (h : RdS x S l k) : x.tell msR MS.seek S = (x, (k : Int), 0, S) := by
  have hk := h.kl
  have hp := h.pl
  have hpe := h.ple
  have hll := h.ll
  have hr := h.room
  unfold SS.tell
  rw [if_neg (by simp [h.refuse]), h.deliver]
  simp only
  rw [if_neg (by simp)]
  unfold SS.told
  have hs : MS.seek S 0 1 = ((S.pl : Int), 0, S) := by
    unfold MS.seek MS.from
    rw [if_neg (by omega), if_pos rfl, if_neg (by omega)]
    simp
  have hh : x.hold = x.inn.length := by unfold SS.hold; rw [h.back]; simp
  rw [hs, hh]
  simp only
  rw [if_neg (by simp), if_neg (by omega)]
  simp only [Prod.mk.injEq, true_and, and_true]
  omega
end Go.Proofs.Ytckmfbjpjakbcaa

/- Position: the law's num, alive. -/
namespace Go.Proofs.Ytckmfbjpjakbcaa
open Go.RowKit

theorem num14 (e : Int) (w : World) : Calls Try.prog 8 #[.int .i64 e] w fun r w' => r = .returned (.int .i64 e) ∧ w = w' := by
  go_enter Try.func8, Try.ntmps8
  go_wp2
  go_ret
  exact ⟨rfl, rfl⟩
theorem lit_bys14 (w : World) (l : List UInt8) (cs : Array Value) (n : Nat) (fr : Nat × Nat) (hn : n = l.length) (hcs : cs.toList = l.map bv) : Bys (w.alloc (Obj.cells cs 5 fr)) (.slice (some ⟨w.heap.size, 0, none⟩) n n) l := by
  subst hn
  by_cases h0 : l.length = 0
  · exact .inr (.inl ⟨_, _, by rw [h0], List.length_eq_zero_iff.1 h0⟩)
  · refine .inr (.inr ⟨w.heap.size, 0, l.length, rfl, by omega, fun j hj => ?_⟩)
    rw [cell_of_row _ w.heap.size _ cs _ fr (heap_alloc_new w _)]
    have h1 : cs.toList[0 + j]? = (l.map bv)[j]? := by rw [hcs, Nat.zero_add]
    rw [Array.getElem?_toList] at h1
    rw [h1]
    simp [List.getD_eq_getElem?_getD, List.getElem?_eq_getElem hj, bv]
theorem conv_lit14 (w : World) (C : Array Value) (n m : Nat) (hm : C.size = m) : (convert 22 22 (.slice (some ⟨w.heap.size, 0, none⟩) n n)).run Try.prog (w.alloc (.cells C 5)) = .ok (.slice (some ⟨w.heap.size, 0, none⟩) n n) (w.alloc (.cells C 5 (m, m + 1))) := by
  subst hm
  exact Lib.run_convert_bytes_const w 22 5 C n n Try.underlying22 Try.underlying5
def hel : List UInt8 := [104, 101, 108, 108, 111]
def qA : SS := ⟨true, true, 3, 4, [], [101, 108, 108], [], 1, false, false, false⟩
def qB : SS := ⟨true, true, 3, 4, [], [], [], 0, false, false, false⟩
def qC : SS := ⟨true, true, 3, 4, [], [108, 111], [], 1, false, false, false⟩
theorem q_a : (xRW 3 4).get msR ⟨hel, 1048576, 0⟩ = (qA, 104, 0, ⟨hel, 1048576, 4⟩) := by kernel_rfl
theorem q_b : qA.tell msR MS.seek ⟨hel, 1048576, 4⟩ = (qA, 1, 0, ⟨hel, 1048576, 4⟩) := by kernel_rfl
theorem q_c : qA.seek msR MS.seek ⟨hel, 1048576, 4⟩ 1 1 = (qB, 2, 0, ⟨hel, 1048576, 2⟩) := by kernel_rfl
theorem q_d : qB.get msR ⟨hel, 1048576, 2⟩ = (qC, 108, 0, ⟨hel, 1048576, 5⟩) := by kernel_rfl
set_option maxRecDepth 100000 in
set_option maxHeartbeats 8000000 in
theorem alive14 (w : World) : Calls Try.prog 5 #[] w fun e w' => e = .returned (.bool true) ∧ Below w.heap.size w w' := by
  have cl := conv_lit14 w #[.int .u8 104, .int .u8 101, .int .u8 108, .int .u8 108, .int .u8 111] 5 5 rfl
  have hb3 := lit_bys14 w hel #[.int .u8 104, .int .u8 101, .int .u8 108, .int .u8 108, .int .u8 111] 5 (5, 6) rfl rfl
  have hBl := (Below.refl _ w).alloc (Nat.le_refl _) (Obj.cells #[.int .u8 104, .int .u8 101, .int .u8 108, .int .u8 108, .int .u8 111] 5 (5, 6))
  have HN1 := hide (newGrowing_good _ hel _ hb3 (by decide))
  have HBl := hide hBl
  have hN := fun W => sNew_any moRW 3 4 W
  rw [new_RW, if_pos (by decide), if_pos (by decide)] at hN
  simp only at hN
  unfold mv at hN
  have HN := hide hN
  clear hN hb3 hBl
  go_enter Try.func5, Try.ntmps5
  go_wp2_with fail
  generalize w.alloc (Obj.cells #[.int .u8 104, .int .u8 101, .int .u8 108, .int .u8 108, .int .u8 111] 5 (5, 6)) = w0 at *
  refine HN1.out.mono ?_
  rintro _ w1 ⟨g, rfl, hM, hB⟩
  have HM := hide hM
  have HB := hide (HBl.out.trans (hB.mono HBl.out.size))
  have hz0 := HBl.out.size
  clear hM hB HN1 cl
  go_wp2_with fail
  refine (HN.out _).mono ?_
  rintro _ w2 ⟨rfl, hB2⟩
  have HM2 := hide (HM.out.below hB2)
  have HB2 := hide (HB.out.trans (hB2.mono HB.out.size))
  clear hB2 HM HB
  have HS2 := hide (StAt.new w2 (xRW 3 4) (.slice none 0 0) (.slice none 0 0) (.slice none 0 0))
  have HB3 := hide (recv_below w2 (Obj.cells #[.bool (xRW 3 4).rd, .bool (xRW 3 4).wt, .int .i64 (xRW 3 4).mode, .int .i64 (xRW 3 4).size, .slice none 0 0, .slice none 0 0, .slice none 0 0, .int .i64 (xRW 3 4).dir, .bool (xRW 3 4).fin, .bool (xRW 3 4).bad, .bool (xRW 3 4).closed] 29))
  have HLV : Hid (LV (fun w O S => MemAt w O g S) (w2.alloc (Obj.cells #[.bool (xRW 3 4).rd, .bool (xRW 3 4).wt, .int .i64 (xRW 3 4).mode, .int .i64 (xRW 3 4).size, .slice none 0 0, .slice none 0 0, .slice none 0 0, .int .i64 (xRW 3 4).dir, .bool (xRW 3 4).fin, .bool (xRW 3 4).bad, .bool (xRW 3 4).closed] 29)) w.heap.size w2.heap.size (fun k => w0.heap.size ≤ k ∧ k < w2.heap.size) (xRW 3 4) ⟨hel, 1048576, 0⟩ (.slice none 0 0) (.slice none 0 0) (.slice none 0 0)) := hide
    ⟨HS2.out, SIn.nils0 rfl rfl rfl, HM2.out.trim.below HB3.out, fun j e => Nat.lt_of_lt_of_le e.2 HB3.out.size, fun j e => by have := e.1; omega, fun e => by omega, HB2.out.size⟩
  have HTT : Hid (Turned (fun k => w.heap.size ≤ k) w (w2.alloc (Obj.cells #[.bool (xRW 3 4).rd, .bool (xRW 3 4).wt, .int .i64 (xRW 3 4).mode, .int .i64 (xRW 3 4).size, .slice none 0 0, .slice none 0 0, .slice none 0 0, .int .i64 (xRW 3 4).dir, .bool (xRW 3 4).fin, .bool (xRW 3 4).bad, .bool (xRW 3 4).closed] 29))) := hide ((Turned.of_below HB2.out).trans (Turned.of_below (S := fun k => w.heap.size ≤ k) HB3.out) (fun _ _ e => e))
  have hp := sGet_any (gro_raw g) (fun s => gmem_o g s) (bears_true msR) HLV.out.ls HLV.out.raw HLV.out.ol trivial (by decide) (by decide) (by decide)
  rw [q_a] at hp
  simp only at hp
  have HP := hide hp
  clear hp
  go_wp2_with (first | (go_at_call 8; refine (num14 _ _).mono ?_; rintro _ _ ⟨rfl, rfl⟩) | fail)
  generalize w2.alloc (Obj.cells #[.bool (xRW 3 4).rd, .bool (xRW 3 4).wt, .int .i64 (xRW 3 4).mode, .int .i64 (xRW 3 4).size, .slice none 0 0, .slice none 0 0, .slice none 0 0, .int .i64 (xRW 3 4).dir, .bool (xRW 3 4).fin, .bool (xRW 3 4).bad, .bool (xRW 3 4).closed] 29) = w3 at *
  have HSZ := hide HTT.out.size
  clear HS2 HB3 HM2 HN
  generalize w2.heap.size = gv at *
  refine HP.out.mono ?_
  rintro _ w4 ⟨o', i', b', rfl, hS⟩
  obtain ⟨a1, a4, rfl, -⟩ := hS.choose_spec.1.so
  obtain ⟨a2, a5, rfl, -⟩ := hS.choose_spec.1.si
  obtain ⟨a3, a6, rfl, -⟩ := hS.choose_spec.1.sb
  obtain ⟨hst, ⟨O4, hl⟩, ht⟩ := LV.next (fun s => gmem_o g s) HLV.out HSZ.out hS
  have HLn := hide hl
  have HTn := hide (HTT.out.trans ht (fun _ _ e => e))
  obtain ⟨c0, c1, c2, c3, c4, c5, c6, c7, c8, c9, c10⟩ := hst.cs
  have f0 := hst.soft 0
  have f1 := hst.soft 1
  have f2 := hst.soft 2
  have f3 := hst.soft 3
  have f4 := hst.soft 4
  have f5 := hst.soft 5
  have f6 := hst.soft 6
  have f7 := hst.soft 7
  have f8 := hst.soft 8
  have f9 := hst.soft 9
  have f10 := hst.soft 10
  clear hS hst hl ht HP
  unfold filled at HLn HTn
  have hp := ptell_any (gro_raw g) (fun s => gmem_o g s) (bears_true msR) (gro_seek g) (bearsS_true _) HLn.out.ls HLn.out.raw HLn.out.ol trivial (by decide) (by decide) (by decide)
  rw [q_b] at hp
  simp only at hp
  have HP := hide hp
  clear hp
  go_wp2_with (first | (go_at_call 8; refine (num14 _ _).mono ?_; rintro _ _ ⟨rfl, rfl⟩) | fail)
  generalize (((((((((((w4.setCell ⟨gv, 0, none⟩ (.bool qA.rd)).setCell ⟨gv, 1, none⟩ (.bool qA.wt)).setCell ⟨gv, 2, none⟩ (.int .i64 qA.mode)).setCell ⟨gv, 3, none⟩ (.int .i64 qA.size)).setCell ⟨gv, 4, none⟩ (.slice a1 qA.out.length a4)).setCell ⟨gv, 5, none⟩ (.slice a2 qA.inn.length a5)).setCell ⟨gv, 6, none⟩ (.slice a3 qA.back.length a6)).setCell ⟨gv, 7, none⟩ (.int .i64 qA.dir)).setCell ⟨gv, 8, none⟩ (.bool qA.fin)).setCell ⟨gv, 9, none⟩ (.bool qA.bad)).setCell ⟨gv, 10, none⟩ (.bool qA.closed)) = w5 at *
  clear c0 c1 c2 c3 c4 c5 c6 c7 c8 c9 c10 f0 f1 f2 f3 f4 f5 f6 f7 f8 f9 f10 HLV HTT HSZ
  have HLV := HLn
  have HTT := HTn
  have HSZ := hide HTT.out.size
  clear HLn HTn
  refine HP.out.mono ?_
  rintro _ w6 ⟨o', i', b', rfl, hS⟩
  obtain ⟨b1, b4, rfl, -⟩ := hS.choose_spec.1.so
  obtain ⟨b2, b5, rfl, -⟩ := hS.choose_spec.1.si
  obtain ⟨b3, b6, rfl, -⟩ := hS.choose_spec.1.sb
  obtain ⟨hst, ⟨O6, hl⟩, ht⟩ := LV.next (fun s => gmem_o g s) HLV.out HSZ.out hS
  have HLn := hide hl
  have HTn := hide (HTT.out.trans ht (fun _ _ e => e))
  obtain ⟨c0, c1, c2, c3, c4, c5, c6, c7, c8, c9, c10⟩ := hst.cs
  have f0 := hst.soft 0
  have f1 := hst.soft 1
  have f2 := hst.soft 2
  have f3 := hst.soft 3
  have f4 := hst.soft 4
  have f5 := hst.soft 5
  have f6 := hst.soft 6
  have f7 := hst.soft 7
  have f8 := hst.soft 8
  have f9 := hst.soft 9
  have f10 := hst.soft 10
  clear hS hst hl ht HP
  unfold filled at HLn HTn
  have hp := pseek_any (gro_raw g) (fun s => gmem_o g s) (bears_true msR) (gro_seek g) (bearsS_true _) 1 1 HLn.out.ls HLn.out.raw HLn.out.ol trivial (by decide) (by decide) (by decide) (by decide)
  rw [q_c] at hp
  simp only at hp
  have HP := hide hp
  clear hp
  go_wp2_with (first | (go_at_call 8; refine (num14 _ _).mono ?_; rintro _ _ ⟨rfl, rfl⟩) | fail)
  generalize (((((((((((w6.setCell ⟨gv, 0, none⟩ (.bool qA.rd)).setCell ⟨gv, 1, none⟩ (.bool qA.wt)).setCell ⟨gv, 2, none⟩ (.int .i64 qA.mode)).setCell ⟨gv, 3, none⟩ (.int .i64 qA.size)).setCell ⟨gv, 4, none⟩ (.slice b1 qA.out.length b4)).setCell ⟨gv, 5, none⟩ (.slice b2 qA.inn.length b5)).setCell ⟨gv, 6, none⟩ (.slice b3 qA.back.length b6)).setCell ⟨gv, 7, none⟩ (.int .i64 qA.dir)).setCell ⟨gv, 8, none⟩ (.bool qA.fin)).setCell ⟨gv, 9, none⟩ (.bool qA.bad)).setCell ⟨gv, 10, none⟩ (.bool qA.closed)) = w7 at *
  clear c0 c1 c2 c3 c4 c5 c6 c7 c8 c9 c10 f0 f1 f2 f3 f4 f5 f6 f7 f8 f9 f10 HLV HTT HSZ
  have HLV := HLn
  have HTT := HTn
  have HSZ := hide HTT.out.size
  clear HLn HTn
  refine HP.out.mono ?_
  rintro _ w8 ⟨o', i', b', rfl, hS⟩
  obtain ⟨d1, d4, rfl, -⟩ := hS.choose_spec.1.so
  obtain ⟨d2, d5, rfl, -⟩ := hS.choose_spec.1.si
  obtain ⟨d3, d6, rfl, -⟩ := hS.choose_spec.1.sb
  obtain ⟨hst, ⟨O8, hl⟩, ht⟩ := LV.next (fun s => gmem_o g s) HLV.out HSZ.out hS
  have HLn := hide hl
  have HTn := hide (HTT.out.trans ht (fun _ _ e => e))
  obtain ⟨c0, c1, c2, c3, c4, c5, c6, c7, c8, c9, c10⟩ := hst.cs
  have f0 := hst.soft 0
  have f1 := hst.soft 1
  have f2 := hst.soft 2
  have f3 := hst.soft 3
  have f4 := hst.soft 4
  have f5 := hst.soft 5
  have f6 := hst.soft 6
  have f7 := hst.soft 7
  have f8 := hst.soft 8
  have f9 := hst.soft 9
  have f10 := hst.soft 10
  clear hS hst hl ht HP
  unfold filled at HLn HTn
  have hp := sGet_any (gro_raw g) (fun s => gmem_o g s) (bears_true msR) HLn.out.ls HLn.out.raw HLn.out.ol trivial (by decide) (by decide) (by decide)
  rw [q_d] at hp
  simp only at hp
  have HP := hide hp
  clear hp
  go_wp2_with (first | (go_at_call 8; refine (num14 _ _).mono ?_; rintro _ _ ⟨rfl, rfl⟩) | fail)
  generalize (((((((((((w8.setCell ⟨gv, 0, none⟩ (.bool qB.rd)).setCell ⟨gv, 1, none⟩ (.bool qB.wt)).setCell ⟨gv, 2, none⟩ (.int .i64 qB.mode)).setCell ⟨gv, 3, none⟩ (.int .i64 qB.size)).setCell ⟨gv, 4, none⟩ (.slice d1 qB.out.length d4)).setCell ⟨gv, 5, none⟩ (.slice d2 qB.inn.length d5)).setCell ⟨gv, 6, none⟩ (.slice d3 qB.back.length d6)).setCell ⟨gv, 7, none⟩ (.int .i64 qB.dir)).setCell ⟨gv, 8, none⟩ (.bool qB.fin)).setCell ⟨gv, 9, none⟩ (.bool qB.bad)).setCell ⟨gv, 10, none⟩ (.bool qB.closed)) = w9 at *
  clear c0 c1 c2 c3 c4 c5 c6 c7 c8 c9 c10 f0 f1 f2 f3 f4 f5 f6 f7 f8 f9 f10 HLV HTT HSZ
  have HLV := HLn
  have HTT := HTn
  have HSZ := hide HTT.out.size
  clear HLn HTn
  refine HP.out.mono ?_
  rintro _ w10 ⟨o', i', b', rfl, hS⟩
  obtain ⟨e1, e4, rfl, -⟩ := hS.choose_spec.1.so
  obtain ⟨e2, e5, rfl, -⟩ := hS.choose_spec.1.si
  obtain ⟨e3, e6, rfl, -⟩ := hS.choose_spec.1.sb
  have HT10 : Hid (Turned (fun k => w.heap.size ≤ k) w w10) := hide (by
    obtain ⟨_, _, _, _, _, t⟩ := hS
    exact HTT.out.trans (t.mono fun k e => HLV.out.ob k e) (fun _ _ e => e))
  clear hS
  go_wp2_with (first | (go_at_call 8; refine (num14 _ _).mono ?_; rintro _ _ ⟨rfl, rfl⟩) | fail)
  go_ret
  exact ⟨rfl, (HT10.out.below (B := w.heap.size) (fun _ e => e) (Nat.le_refl _)).trans ((recv_below w10 _).mono HT10.out.size)⟩
end Go.Proofs.Ytckmfbjpjakbcaa

/- Bytes that came in as an argument: what a walk is told of them. -/
namespace Go.Proofs.Ytckmfbjpjakbcaa
open Go.ChangeShapes Go.WideShapes Go.ChangeAt Go.RowKit

theorem bytes_arg {H : Type} {enc : TypeId × Value → H} {P : Program} {W : World} {base : Nat} {a : Option Addr} {len cap fuel t e : Nat} {d : DataW H} {p : List MemPlace}
    (ht : P.underlying t = some (.slice e)) (he : P.underlying e = some (.int .u8)) (hc : P.cellsOf e = 1)
    (hf : DataW.trod enc P W base (fun _ => true) true fuel t (Value.slice a len cap).cells.toList = some (d, p)) :
    ∃ l : List UInt8, Bys W (.slice a len cap) l ∧ ((d = .nil ∧ l = []) ∨ ∃ elems spare : List (DataW H), d = .slice elems spare ∧ l.length = elems.length) := by
  rcases open_ints ht he hc hf with ⟨hcs, hd⟩ | ⟨x, n, c, zs, hcs, _, hl, hm, hz, hx, hcell, hwz⟩
  · simp [Value.cells] at hcs
    obtain ⟨rfl, rfl, rfl⟩ := hcs
    exact ⟨[], .inl ⟨rfl, rfl⟩, .inl ⟨(Prod.mk.inj hd).1, rfl⟩⟩
  · simp [Value.cells] at hcs
    obtain ⟨rfl, rfl, rfl⟩ := hcs
    simp only [if_true] at hz
    have hlen : ((zs.take len).map fun n => UInt8.ofNat n.toNat).length = len := by rw [List.length_map, List.length_take]; omega
    refine ⟨(zs.take len).map fun n => UInt8.ofNat n.toNat, ?_, .inr ⟨_, _, (Prod.mk.inj hx).1, by simp [lits]⟩⟩
    by_cases h0 : len = 0
    · subst h0
      exact .inr (.inl ⟨x, cap, rfl, by simp⟩)
    · obtain ⟨b, off, spot⟩ := x
      have hspot : spot = none := by simpa [Addr.add] using World.cell?_spot (hcell 0 (by omega))
      subst hspot
      refine .inr (.inr ⟨b, off, cap, by rw [hlen], by rw [hlen]; omega, fun j hj => ?_⟩)
      rw [hlen] at hj
      have h1 := hcell j (by omega)
      have hadd : (⟨b, off, none⟩ : Addr).add j = ⟨b, off + j, none⟩ := by unfold Addr.add; split <;> simp_all
      rw [hadd] at h1
      rw [h1]
      have hjz : j < zs.length := by omega
      have hb := bounds_u8 (hwz zs[j] (List.getElem_mem hjz))
      simp only [List.getD_eq_getElem?_getD, List.getElem?_map, List.getElem?_take, if_pos hj, List.getElem?_eq_getElem hjz, Option.map_some, Option.getD_some]
      rw [UInt8.toNat_ofNat_of_lt' (by show _ < 256; omega), Int.toNat_of_nonneg hb.1]

end Go.Proofs.Ytckmfbjpjakbcaa

/- Bytes, and steps, that came in as an argument: what a walk is told of them. -/
namespace Go.Proofs.Ytckmfbjpjakbcaa
open Go.ChangeShapes Go.WideShapes Go.ChangeAt Go.RowKit Go.Deep

end Go.Proofs.Ytckmfbjpjakbcaa

/- PositionCounts: values; a variable that stays while its Raw goes on. -/
namespace Go.Proofs.Ytckmfbjpjakbcaa
open Go.RowKit

theorem LV.keepS {S : Type} {At : World → (Nat → Prop) → S → Prop} {w w1 : World} {B g : Nat} {O : Nat → Prop} {x x' : SS} {s s' : S} {o i b o' i' b' : Value} (h : LV At w B g O x s o i b) (hB : B ≤ w.heap.size) (hS : SOut At w O x' s' o' i' b' w1) :
    ∃ O', LV At w1 B g O' x s' o i b ∧ SIn w1 (fun k => B ≤ k ∧ ¬ O' k) x' o' i' b' ∧ Turned (fun k => B ≤ k) w w1 ∧ (∀ k, k < w.heap.size → ¬ O k → ¬ O' k) ∧ Turned O w w1 := by
  obtain ⟨O', h1, h2, h3, h4, h5⟩ := hS
  have hz := h5.size
  have hg := h.st.lt
  have no : ∀ k, k < w.heap.size → ¬ O k → ¬ O' k := fun k hk hno e => (h4 k e).elim hno (fun e => by omega)
  exact ⟨O', ⟨(h5.block g hg h.og).trans h.st, (h.ls.turned h5 fun k e _ => e.2.1).mono fun k e => ⟨e.1, no k e.2.2.2 e.2.1, e.2.2.1, by have := e.2.2.2; omega⟩, h2, h3, fun j e => (h4 j e).elim (h.ob j) (fun e => by omega), no g hg h.og, h.gB⟩, h1.mono fun k e => ⟨by have := e.1; omega, e.2.1⟩, h5.mono fun k e => h.ob k e, no, h5⟩
theorem LV.nextA {S : Type} {At : World → (Nat → Prop) → S → Prop} (hT : ∀ s, OAt (fun w O => At w O s)) {w w1 : World} {B g : Nat} {O : Nat → Prop} {x x' : SS} {s s' : S} {o i b o' i' b' : Value} (h : LV At w B g O x s o i b) (hB : B ≤ w.heap.size) (hS : SOut At w O x' s' o' i' b' w1) :
    StAt w1 g x o i b ∧ (∃ O', LV At (filled w1 g x' o' i' b') B g O' x' s' o' i' b' ∧ ∀ k, k < w.heap.size → ¬ O k → ¬ O' k) ∧ Turned (fun k => B ≤ k) w (filled w1 g x' o' i' b') ∧ Turned (fun k => O k ∨ k = g) w (filled w1 g x' o' i' b') := by
  obtain ⟨O', h1, h2, h3, h4, h5⟩ := hS
  have hg := h.st.lt
  have hst : StAt w1 g x o i b := (h5.block g hg h.og).trans h.st
  obtain ⟨e1, e2⟩ := st_fill2 w1 g x x' o i b o' i' b' hst
  have hz := h5.size
  refine ⟨hst, ⟨O', LV.next1 hT h hB O' h1 h2 h3 h4 h5, fun k hk hno e => (h4 k e).elim hno (fun e => by omega)⟩, (h5.mono fun k e => h.ob k e).trans (e2.mono fun k e => (by have := h.gB; have e' : k = g := e; omega : B ≤ k)) (fun _ _ e => e), (h5.mono fun k e => (.inl e : O k ∨ k = g)).trans (e2.mono fun k e => (.inr e : O k ∨ k = g)) (fun _ _ e => e)⟩
def Apart (W : World) (O : Nat → Prop) (gv : Nat) (v : Value) (L : List UInt8) : Prop := Bys W v L ∧ ∀ k, v.ownBlock = some k → k < W.heap.size → ¬ O k ∧ k ≠ gv
theorem Apart.turned {W W' : World} {O O' : Nat → Prop} {gv : Nat} {v : Value} {L : List UInt8} (h : Apart W O gv v L) (hT : Turned (fun k => O k ∨ k = gv) W W') (hO : ∀ k, k < W.heap.size → ¬ O k → ¬ O' k) (hl : ∀ k, v.ownBlock = some k → k < W.heap.size) : Apart W' O' gv v L :=
  ⟨h.1.turned hT (fun k e hk he => (h.2 k e hk).elim (fun h1 h2 => he.elim h1 h2)), fun k e _ => ⟨hO k (hl k e) (h.2 k e (hl k e)).1, (h.2 k e (hl k e)).2⟩⟩
theorem bys_first14 {W : World} {va : Option Addr} {vc : Nat} {t : List UInt8} (h : Bys W (.slice va t.length vc) t) (m : Nat) (hm : m ≤ t.length) : Bys W (.slice va m vc) (t.take m) := by
  by_cases h0 : 0 < t.length
  · obtain ⟨_, yb, yo, rfl, _, _⟩ := bys_block h h0
    simpa using bys_cut h 0 m vc (by omega)
  · obtain rfl : m = t.length := by omega
    rw [List.take_of_length_le (Nat.le_refl _)]
    exact h
theorem ms_put2 (l : List UInt8) (p : Nat) (bs : List UInt8) (h0 : bs ≠ []) (h : p + bs.length ≤ 1048576) : putV msR bs (putF bs) ⟨l, 1048576, p⟩ 0 0 = (bs.length, 0, ⟨lay l p bs, 1048576, p + bs.length⟩) := by
  have hpos : 0 < bs.length := List.length_pos_iff.2 h0
  have hw : msR.write ⟨l, 1048576, p⟩ (bs.drop 0) = ((bs.length : Int), 0, ⟨lay l p bs, 1048576, p + bs.length⟩) := by
    show MS.write _ (bs.drop 0) = _
    unfold MS.write
    rw [List.drop_zero, if_neg (by omega), if_neg h0, if_neg (by simp only; omega)]
    simp only
    rw [Nat.min_eq_left (by omega), List.take_length]
  obtain ⟨k, hk⟩ : ∃ k, putF bs = k + 1 := ⟨putF bs - 1, by unfold putF; omega⟩
  rw [hk, putV_next msR bs k _ 0 0 hw, if_pos hpos, if_neg (by omega), if_neg (by omega), if_pos rfl, putV_done _ _ _ _ _ _ (by omega)]
  simp
structure WrS (x : SS) (S : MS) (l : List UInt8) (k : Nat) : Prop where
  rd : x.rd = true
  wt : x.wt = true
  m1 : 1 ≤ x.mode
  m3 : x.mode ≤ 3
  s1 : 1 ≤ x.size
  s2 : x.size ≤ 65536
  out : x.out = []
  inn : x.inn = []
  back : x.back = []
  closed : x.closed = false
  fin : x.fin = false
  dir : x.dir = 2 ∨ x.dir = 0
  S : S = ⟨l, 1048576, k⟩
theorem wr_may14 {x : SS} (h1 : x.wt = true) (h2 : 1 ≤ x.mode) (h3 : x.mode ≤ 3) (h4 : 1 ≤ x.size) (h5 : x.size ≤ 65536) (h6 : (x.out.length : Int) ≤ x.size) (h7 : x.mode = 1 → x.out.length = 0) (h8 : x.inn = []) (h9 : x.back = []) (h10 : x.closed = false) (h11 : x.dir = 2 ∨ (x.dir = 0 ∧ x.out = [])) : x.refuse true = 0 := by
  have hm : x.may = true := (may_iff x).2 ⟨h2, h3, h4, h5, h6, h7, by rw [h8]; simp, by rw [h9]; simp, by
    rcases h11 with e | ⟨e, e2⟩
    · exact .inr (.inr ⟨e, h1, by rw [h8, h9]; rfl, h10⟩)
    · exact .inl ⟨e, by rw [e2]; rfl, by rw [h8, h9]; rfl⟩⟩
  unfold SS.refuse
  rw [if_neg (by simp [hm]), if_neg (by simp), if_neg (by simp [h10])]
theorem WrS.refuse {x : SS} {S : MS} {l : List UInt8} {k : Nat} (h : WrS x S l k) : x.refuse true = 0 :=
  wr_may14 h.wt h.m1 h.m3 h.s1 h.s2 (by rw [h.out]; have := h.s1; simp; omega) (fun _ => by rw [h.out]; rfl) h.inn h.back h.closed (h.dir.imp id (fun e => ⟨e, h.out⟩))
theorem ms_here (l : List UInt8) (k : Nat) (hk : k ≤ 1048576) : MS.seek ⟨l, 1048576, k⟩ 0 1 = ((k : Int), 0, ⟨l, 1048576, k⟩) := by
  unfold MS.seek MS.from
  rw [if_neg (by omega), if_pos rfl, if_neg (by simp only; omega)]
  simp
theorem WrS.put_tell {x : SS} {S : MS} {l : List UInt8} {k : Nat} (h : WrS x S l k) (c : UInt8) (hk : k < 1048576) :
    (x.put msR S c).2.1 = 0 ∧ (x.put msR S c).1.out.length ≤ 1 ∧ (x.put msR S c).1.inn = [] ∧ (x.put msR S c).1.back = [] ∧ ((x.put msR S c).1.tell msR MS.seek (x.put msR S c).2.2).2.1 = (k : Int) + 1 ∧ ((x.put msR S c).1.tell msR MS.seek (x.put msR S c).2.2).2.2.1 = 0 ∧
      WrS ((x.put msR S c).1.tell msR MS.seek (x.put msR S c).2.2).1 ((x.put msR S c).1.tell msR MS.seek (x.put msR S c).2.2).2.2.2 (lay l k [c]) (k + 1) := by
  have hs1 := h.s1
  have hnw : x.noWrite = 0 := by
    unfold SS.noWrite
    rw [if_neg (by simp [h.refuse]), if_neg (by simp [h.wt]), if_neg (fun e => by rcases h.dir with d | d <;> omega)]
  have hpt : putV msR [c] (putF [c]) S 0 0 = (1, 0, ⟨lay l k [c], 1048576, k + 1⟩) := by rw [h.S]; exact ms_put2 l k [c] (by simp) (by simp; omega)
  -- what Tell does of a state with at most that byte held
  have key : ∀ (y : SS) (T : MS), y.rd = true → y.wt = true → 1 ≤ y.mode → y.mode ≤ 3 → 1 ≤ y.size → y.size ≤ 65536 → y.inn = [] → y.back = [] → y.closed = false → y.fin = false → y.dir = 2 → ((y.out = [] ∧ T = ⟨lay l k [c], 1048576, k + 1⟩) ∨ (y.out = [c] ∧ y.mode ≠ 1 ∧ T = S)) →
      (y.tell msR MS.seek T).2.1 = (k : Int) + 1 ∧ (y.tell msR MS.seek T).2.2.1 = 0 ∧ WrS (y.tell msR MS.seek T).1 (y.tell msR MS.seek T).2.2.2 (lay l k [c]) (k + 1) := by
    intro y T a1 a2 a3 a4 a5 a6 a7 a8 a9 a10 a11 a12
    have hd : y.deliver msR T = ({ y with out := [] }, 0, ⟨lay l k [c], 1048576, k + 1⟩) := by
      unfold SS.deliver
      rcases a12 with ⟨e1, e2⟩ | ⟨e1, -, e2⟩
      · rw [e1, putV_done _ _ _ _ _ _ (by simp), e2]
        unfold SS.mark
        simp
      · rw [e1, e2, hpt]
        unfold SS.mark
        simp
    have hrf : y.refuse true = 0 := wr_may14 a2 a3 a4 a5 a6 (by rcases a12 with ⟨e, -⟩ | ⟨e, -, -⟩ <;> rw [e] <;> simp <;> omega) (fun e => by rcases a12 with ⟨e1, -⟩ | ⟨-, e1, -⟩; rw [e1]; rfl; exact absurd e e1) a7 a8 a9 (.inl a11)
    unfold SS.tell
    rw [if_neg (by simp [hrf]), hd]
    simp only
    rw [if_neg (by simp)]
    unfold SS.told
    have hh : (SS.hold { rd := y.rd, wt := y.wt, mode := y.mode, size := y.size, out := [], inn := y.inn, back := y.back, dir := y.dir, fin := y.fin, bad := y.bad, closed := y.closed }) = 0 := by unfold SS.hold; simp only; rw [a7, a8]; rfl
    rw [ms_here _ _ (by omega), hh]
    simp only
    rw [if_neg (by simp), if_neg (by omega)]
    exact ⟨by simp only; omega, rfl, a1, a2, a3, a4, a5, a6, rfl, a7, a8, a9, a10, .inl a11, rfl⟩
  unfold SS.put
  rw [if_pos hnw]
  unfold SS.put1
  by_cases hm : x.mode = 1
  · rw [if_pos hm, hpt]
    unfold SS.mark
    rw [if_pos (.inl rfl)]
    exact ⟨rfl, by simp only; rw [h.out]; simp, h.inn, h.back, key _ _ h.rd h.wt h.m1 h.m3 h.s1 h.s2 h.inn h.back h.closed h.fin rfl (.inl ⟨h.out, rfl⟩)⟩
  rw [if_neg hm]
  rw [if_neg (by simp only; rw [h.out]; simp; omega)]
  unfold SS.lay
  simp only
  have ho : x.out ++ [c] = [c] := by rw [h.out]; rfl
  rw [ho]
  split
  · have hd : (SS.deliver msR { rd := x.rd, wt := x.wt, mode := x.mode, size := x.size, out := [c], inn := x.inn, back := x.back, dir := 2, fin := x.fin, bad := x.bad, closed := x.closed } S) = (⟨x.rd, x.wt, x.mode, x.size, [], x.inn, x.back, 2, x.fin, x.bad, x.closed⟩, 0, ⟨lay l k [c], 1048576, k + 1⟩) := by
      unfold SS.deliver
      simp only
      rw [hpt]
      unfold SS.mark
      simp
    rw [hd]
    exact ⟨rfl, by simp, h.inn, h.back, key _ _ h.rd h.wt h.m1 h.m3 h.s1 h.s2 h.inn h.back h.closed h.fin rfl (.inl ⟨rfl, rfl⟩)⟩
  · exact ⟨rfl, by simp, h.inn, h.back, key _ _ h.rd h.wt h.m1 h.m3 h.s1 h.s2 h.inn h.back h.closed h.fin rfl (.inr ⟨rfl, hm, rfl⟩)⟩
theorem WrS.seek0 {x : SS} {S : MS} {l : List UInt8} {k : Nat} (h : WrS x S l k) (_ : k ≤ 1048576) (hl : l.length ≤ 1048576) : x.seek msR MS.seek S 0 0 = (x.bare, 0, 0, ⟨l, 1048576, 0⟩) ∧ RdS x.bare ⟨l, 1048576, 0⟩ l 0 := by
  constructor
  · unfold SS.seek
    have hd : x.deliver msR S = (x, 0, S) := by
      unfold SS.deliver
      have h1 : putV msR x.out (putF x.out) S 0 0 = (0, 0, S) := putV_done _ _ _ _ _ _ (by rw [h.out]; simp)
      rw [h1]
      unfold SS.mark
      simp
    rw [if_neg (by simp [h.refuse]), if_neg (by omega), hd]
    simp only
    rw [if_neg (by simp)]
    have hs : MS.seek S 0 0 = (0, 0, ⟨l, 1048576, 0⟩) := by
      rw [h.S]
      unfold MS.seek MS.from
      simp only
      rw [if_neg (by omega), if_neg (by decide : ¬ (0 : Int) = 1), if_neg (by decide : ¬ (0 : Int) = 2), if_neg (by omega)]
      simp
    have hm : movedV MS.seek S x.hold 0 0 = (0, 0, ⟨l, 1048576, 0⟩) := by
      unfold movedV
      rw [if_pos (by decide), hs]
    unfold SS.sought
    rw [hm]
    simp
  · exact ⟨h.rd, h.m1, h.m3, h.s1, h.s2, rfl, rfl, h.closed, .inr ⟨rfl, rfl⟩, by simp [SS.bare], rfl, rfl, hl, Nat.zero_le _, rfl, Nat.zero_le _, by simp [SS.bare], fun e => by simp [SS.bare] at e⟩
theorem lay_next (t p : List UInt8) (i : Nat) (hi : i < p.length) : lay (p.take i ++ t.drop i) i [p.getD i 0] = p.take (i + 1) ++ t.drop (i + 1) := by
  have hl : (p.take i).length = i := by rw [List.length_take]; omega
  unfold lay
  rw [if_neg (by simp)]
  unfold grow
  have h1 : List.take i (p.take i ++ t.drop i ++ List.replicate (i + [p.getD i 0].length - (p.take i ++ t.drop i).length) 0) = p.take i := by
    rw [List.append_assoc, List.take_append_of_le_length (by omega), List.take_of_length_le (by omega)]
  have h2 : List.drop (i + [p.getD i 0].length) (p.take i ++ t.drop i ++ List.replicate (i + [p.getD i 0].length - (p.take i ++ t.drop i).length) 0) = t.drop (i + 1) := by
    rw [List.append_assoc, List.drop_append, List.drop_eq_nil_of_le (by rw [hl]; simp), List.nil_append, hl]
    simp only [List.length_singleton, List.length_append, hl, List.length_drop]
    rw [show i + 1 - i = 1 by omega, List.drop_append, List.drop_drop]
    have hz : ∀ (n m : Nat), n ≤ m → List.drop m (List.replicate n (0 : UInt8)) = [] := fun n m h => List.drop_eq_nil_of_le (by simp only [List.length_replicate]; exact h)
    rw [hz _ _ (by simp only [List.length_drop]; omega), List.append_nil]
  rw [h1, h2]
  have h3 : p.take (i + 1) = p.take i ++ [p.getD i 0] := by
    rw [List.take_add_one, List.getElem?_eq_getElem hi, List.getD_eq_getElem?_getD, List.getElem?_eq_getElem hi]
    rfl
  rw [h3, List.append_assoc]
theorem laid_len (t p : List UInt8) (i : Nat) (hi : i ≤ p.length) : (p.take i ++ t.drop i).length = max t.length i := by
  rw [List.length_append, List.length_take, List.length_drop]
  omega
theorem wr_new (mode size : Int) (l : List UInt8) (h : (1 ≤ mode ∧ mode ≤ 3) ∧ (1 ≤ size ∧ size ≤ 65536)) : WrS (xRW mode size) ⟨l, 1048576, 0⟩ l 0 :=
  ⟨rfl, rfl, h.1.1, h.1.2, h.2.1, h.2.2, rfl, rfl, rfl, rfl, rfl, .inr rfl, rfl⟩
end Go.Proofs.Ytckmfbjpjakbcaa

/- PositionTells: the walk. -/
namespace Go.Proofs.Ytckmfbjpjakbcaa
open Go.RowKit

theorem tmod14 (x k : Int) (hk : 0 < k) : -k < x.tmod k ∧ x.tmod k < k := by
  have h2 : ∀ y : Int, 0 ≤ y → 0 ≤ y.tmod k ∧ y.tmod k < k := fun y h => by
    rw [Int.tmod_eq_emod_of_nonneg h]
    exact ⟨Int.emod_nonneg _ (by omega), Int.emod_lt_of_pos _ hk⟩
  rcases Int.le_total 0 x with h | h
  · have := h2 x h; omega
  · have h3 := h2 (-x) (by omega)
    rw [Int.neg_tmod] at h3
    omega
theorem rem14 (full k : Int) (hk : 0 < k) (hk2 : k ≤ 1048576) : ∃ m : Nat, (wrap64 (full.tmod k + k)).tmod k = (m : Int) ∧ (m : Int) < k := by
  have h1 := tmod14 full k hk
  have h2 : wrap64 (full.tmod k + k) = full.tmod k + k := by unfold wrap64; omega
  rw [h2, Int.tmod_eq_emod_of_nonneg (by omega)]
  have h3 := Int.emod_nonneg (full.tmod k + k) (b := k) (by omega)
  have h4 := Int.emod_lt_of_pos (full.tmod k + k) hk
  exact ⟨((full.tmod k + k) % k).toNat, by omega, by omega⟩
theorem bys_len14 {W : World} {a : Option Addr} {n c : Nat} {l : List UInt8} (h : Bys W (.slice a n c) l) : n = l.length := by
  obtain ⟨_, _, e, -⟩ := bys_form h
  cases e
  rfl
end Go.Proofs.Ytckmfbjpjakbcaa

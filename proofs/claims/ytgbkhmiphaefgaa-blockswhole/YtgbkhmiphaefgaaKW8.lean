/- What the proof stands on, part 8: the contracts of the program's calls that it reaches. -/
import Derived.Test.YtgbkhmiphaefgaaKW7
import Derived.KernelRfl
import Derived.Lib.SlBytesConst
import Derived.Deep.DeepCutAuto
import Derived.ProofKit
import Derived.OpenShut
import Derived.ChangeArms
import Derived.ChangeSlices
import Derived.SizedLaws
import Derived.Deep.Slices
import Derived.Lib.MinMax
/- Lines over a memory that is read: values, and the memory as a Raw. -/
namespace Go.Proofs.Ytgbkhmiphaefgaa
open Go.RowKit

def rdRm : RawD MS := ⟨fun S n => S.read n, fun S _ => (0, 65, S)⟩
theorem rdr_rawP (g : Nat) : RawP rdRm 43 (.pointer (some ⟨g, 0, none⟩)) 114 115 (fun _ => True) (fun _ => True) (fun w O S => MemAt w O g S) where
  mread w := by kernel_rfl
  mwrite w := by kernel_rfl
  cread a w := by kernel_rfl
  cwrite a w := by kernel_rfl
  keep h hk _ := h.keep hk
  few {w O s} n h := by
    have := h.ok
    show (s.read n).1.length ≤ _
    unfold MS.read
    split
    · have := piece_le s.l s.pl (n : Int).toNat
      simp only
      omega
    · simp
  read n h _ _ _ := (rmread_any _ g _ n _ h).mono fun _ _ e => view_own e
  write bs a c h _ hb hc _ _ hap := (rmwrite_any _ g _ _ _ h).mono fun _ w' e => ⟨e.1, _, e.2 ▸ h, fun _ e => .inl e, e.2 ▸ Turned.refl _ _⟩
theorem rdr_raw (g : Nat) : RawM rdRm 43 (.pointer (some ⟨g, 0, none⟩)) 114 115 (fun _ => True) (fun _ => True) (fun w O S => MemAt w O g S) := (rdr_rawP g).gen
structure RdR (x : SS) (S : MS) (l : List UInt8) (k : Nat) : Prop where
  rd : x.rd = true
  m1 : 1 ≤ x.mode
  m3 : x.mode ≤ 3
  s1 : 1 ≤ x.size
  s2 : x.size ≤ 65536
  out : x.out = []
  back : x.back = []
  closed : x.closed = false
  dir : x.dir = 1 ∨ (x.dir = 0 ∧ x.inn = [])
  il : x.inn.length ≤ 65536
  lq : S.l = l
  ll : l.length ≤ 1048576
  kl : k ≤ l.length
  pl : S.pl = k + x.inn.length
  ple : S.pl ≤ l.length
  inn : x.inn = (l.drop k).take x.inn.length
  fin : x.fin = true → k = l.length
theorem RdR.may {x : SS} {S : MS} {l : List UInt8} {k : Nat} (h : RdR x S l k) : x.may = true := by
  refine (may_iff x).2 ⟨h.m1, h.m3, h.s1, h.s2, by rw [h.out]; have := h.s1; simp; omega, fun _ => by rw [h.out]; rfl, h.il, by rw [h.back]; simp, ?_⟩
  rcases h.dir with e | ⟨e, e2⟩
  · exact .inr (.inl ⟨e, h.rd, by rw [h.out]; rfl, h.closed⟩)
  · exact .inl ⟨e, by rw [h.out]; rfl, by rw [e2, h.back]; rfl⟩
theorem RdR.refuse {x : SS} {S : MS} {l : List UInt8} {k : Nat} (h : RdR x S l k) : x.refuse true = 0 := by
  unfold SS.refuse
  rw [if_neg (by simp [h.may]), if_neg (by simp), if_neg (by simp [h.closed])]
theorem RdR.noRead {x : SS} {S : MS} {l : List UInt8} {k : Nat} (h : RdR x S l k) : x.noRead = 0 := by
  unfold SS.noRead
  rw [if_neg (by simp [h.refuse]), if_neg (by simp [h.rd]), if_neg (by rcases h.dir with e | e <;> omega)]
theorem rs_some (S : MS) (n : Nat) (h1 : 1 ≤ n) (h2 : n ≤ 1048576) : someV rdRm n 8192 S = (piece S.l S.pl n, 0, ⟨S.l, S.room, S.pl + (piece S.l S.pl n).length⟩) := by
  have hr : rdRm.read S n = (piece S.l S.pl n, 0, ⟨S.l, S.room, S.pl + (piece S.l S.pl n).length⟩) := by
    show S.read (n : Int) = _
    unfold MS.read
    rw [if_pos (by unfold inR; simp; omega), Int.toNat_natCast]
  rw [show (8192 : Nat) = 8191 + 1 from rfl, someV_next rdRm n 8191 S hr, if_neg (by omega), if_neg (by rw [piece_len]; omega), if_pos rfl]
set_option linter.unusedSimpArgs false in
theorem RdR.get {x : SS} {S : MS} {l : List UInt8} {k : Nat} (h : RdR x S l k) : RdR (x.get rdRm S).1 (x.get rdRm S).2.2.2 l (min (k + 1) l.length) ∧ (x.get rdRm S).2.2.1 = (if k < l.length then 0 else 111) ∧ (k < l.length → (x.get rdRm S).2.1 = l.getD k 0) ∧ (x.get rdRm S).1.wt = x.wt := by
  have hk := h.kl
  have hp := h.pl
  have hpe := h.ple
  have hll := h.ll
  unfold SS.get
  rw [if_pos h.noRead]
  unfold SS.get1
  simp only
  rw [if_neg (by rw [h.back]; simp)]
  by_cases hi : 0 < x.inn.length
  · rw [if_pos hi]
    have hkl : k < l.length := by omega
    have hin := h.inn
    have hm : min (k + 1) l.length = k + 1 := by omega
    rw [hm]
    refine ⟨⟨h.rd, h.m1, h.m3, h.s1, h.s2, h.out, h.back, h.closed, .inl rfl, by simp only [List.length_drop]; have := h.il; omega, h.lq, hll, by omega, by simp only [List.length_drop]; omega, hpe, ?_, fun e => by have := h.fin e; omega⟩, by rw [if_pos hkl], fun _ => ?_, rfl⟩
    · simp only [List.length_drop]
      conv => lhs; rw [hin]
      rw [List.drop_take, List.drop_drop]
    · simp only
      rw [hin]
      simp only [List.getD_eq_getElem?_getD]
      rw [List.getElem?_take_of_lt hi, List.getElem?_drop]
      simp
  rw [if_neg hi]
  have hi0 : x.inn.length = 0 := by omega
  have hie : x.inn = [] := List.length_eq_zero_iff.1 hi0
  by_cases hf : x.fin = true
  · rw [if_pos hf]
    have hkl := h.fin hf
    have hm : min (k + 1) l.length = k := by omega
    rw [hm]
    exact ⟨⟨h.rd, h.m1, h.m3, h.s1, h.s2, h.out, h.back, h.closed, .inl rfl, h.il, h.lq, hll, hk, hp, hpe, h.inn, fun _ => hkl⟩, by rw [if_neg (by omega)], fun e => by omega, rfl⟩
  rw [if_neg hf]
  have hmost : 1 ≤ x.most ∧ x.most ≤ 65536 := by
    have h1 := h.s1
    have h2 := h.s2
    unfold SS.most
    split <;> omega
  have hms : (SS.most { rd := x.rd, wt := x.wt, mode := x.mode, size := x.size, out := x.out, inn := x.inn, back := x.back, dir := 1, fin := x.fin, bad := x.bad, closed := x.closed }) = x.most := rfl
  rw [hms, rs_some S x.most hmost.1 (by omega)]
  simp only
  rw [if_neg (by simp)]
  have hpl : S.pl = k := by omega
  rw [h.lq, hpl]
  have hlen := piece_len l k x.most
  by_cases hkl : k < l.length
  · have hm : min (k + 1) l.length = k + 1 := by omega
    rw [if_neg (by omega), hm]
    refine ⟨⟨h.rd, h.m1, h.m3, h.s1, h.s2, h.out, h.back, h.closed, .inl rfl, by simp only [List.length_drop]; omega, rfl, hll, by omega, by simp only [List.length_drop]; omega, by simp only; omega, ?_, fun e => absurd e hf⟩, by rw [if_pos hkl], fun _ => ?_, rfl⟩
    · simp only [List.length_drop]
      unfold piece
      rw [List.drop_take, List.drop_drop, List.take_eq_take_iff, List.length_take, List.length_drop, List.length_drop]
      omega
    · simp only [List.getD_eq_getElem?_getD]
      unfold piece
      rw [List.getElem?_take_of_lt (by omega), List.getElem?_drop]
      simp
  · have hm : min (k + 1) l.length = k := by omega
    rw [if_pos (by omega), hm]
    exact ⟨⟨h.rd, h.m1, h.m3, h.s1, h.s2, h.out, h.back, h.closed, .inl rfl, h.il, rfl, hll, hk, by simp only; omega, by simp only; omega, h.inn, fun _ => by omega⟩, by rw [if_neg hkl], fun e => absurd e hkl, rfl⟩
end Go.Proofs.Ytgbkhmiphaefgaa

/- Lines: the law's num, alive. -/
namespace Go.Proofs.Ytgbkhmiphaefgaa
open Go.RowKit

theorem lit_bys15 (w : World) (l : List UInt8) (cs : Array Value) (n : Nat) (fr : Nat × Nat) (hn : n = l.length) (hcs : cs.toList = l.map bv) : Bys (w.alloc (Obj.cells cs 5 fr)) (.slice (some ⟨w.heap.size, 0, none⟩) n n) l := by
  subst hn
  by_cases h0 : l.length = 0
  · exact .inr (.inl ⟨_, _, by rw [h0], List.length_eq_zero_iff.1 h0⟩)
  · refine .inr (.inr ⟨w.heap.size, 0, l.length, rfl, by omega, fun j hj => ?_⟩)
    rw [cell_of_row _ w.heap.size _ cs _ fr (heap_alloc_new w _)]
    have h1 : cs.toList[0 + j]? = (l.map bv)[j]? := by rw [hcs, Nat.zero_add]
    rw [Array.getElem?_toList] at h1
    rw [h1]
    simp [List.getD_eq_getElem?_getD, List.getElem?_eq_getElem hj, bv]
theorem conv_lit15 (w : World) (C : Array Value) (n m : Nat) (hm : C.size = m) : (convert 30 30 (.slice (some ⟨w.heap.size, 0, none⟩) n n)).run Try.prog (w.alloc (.cells C 5)) = .ok (.slice (some ⟨w.heap.size, 0, none⟩) n n) (w.alloc (.cells C 5 (m, m + 1))) := by
  subst hm
  exact Lib.run_convert_bytes_const w 30 5 C n n Try.underlying30 Try.underlying5
end Go.Proofs.Ytgbkhmiphaefgaa

/- LinesJoin: the walk. -/
namespace Go.Proofs.Ytgbkhmiphaefgaa
open Go.RowKit

theorem tmod15 (x k : Int) (hk : 0 < k) : -k < x.tmod k ∧ x.tmod k < k := by
  have h2 : ∀ y : Int, 0 ≤ y → 0 ≤ y.tmod k ∧ y.tmod k < k := fun y h => by
    rw [Int.tmod_eq_emod_of_nonneg h]
    exact ⟨Int.emod_nonneg _ (by omega), Int.emod_lt_of_pos _ hk⟩
  rcases Int.le_total 0 x with h | h
  · have := h2 x h; omega
  · have h3 := h2 (-x) (by omega)
    rw [Int.neg_tmod] at h3
    omega
theorem rem15 (full k : Int) (hk : 0 < k) (hk2 : k ≤ 1048576) : ∃ m : Nat, (wrap64 (full.tmod k + k)).tmod k = (m : Int) ∧ (m : Int) < k := by
  have h1 := tmod15 full k hk
  have h2 : wrap64 (full.tmod k + k) = full.tmod k + k := by unfold wrap64; omega
  rw [h2, Int.tmod_eq_emod_of_nonneg (by omega)]
  have h3 := Int.emod_nonneg (full.tmod k + k) (b := k) (by omega)
  have h4 := Int.emod_lt_of_pos (full.tmod k + k) hk
  exact ⟨((full.tmod k + k) % k).toNat, by omega, by omega⟩
theorem bys_len15 {W : World} {a : Option Addr} {n c : Nat} {l : List UInt8} (h : Bys W (.slice a n c) l) : n = l.length := by
  obtain ⟨_, _, e, -⟩ := bys_form h
  cases e
  rfl
theorem rr_new (mode size : Int) (l : List UInt8) (h : (1 ≤ mode ∧ mode ≤ 3) ∧ (1 ≤ size ∧ size ≤ 65536)) (hl : l.length ≤ 1048576) : RdR (xR mode size) ⟨l, l.length, 0⟩ l 0 :=
  ⟨rfl, h.1.1, h.1.2, h.2.1, h.2.2, rfl, rfl, rfl, .inr ⟨rfl, rfl⟩, by simp [xR], rfl, hl, Nat.zero_le _, rfl, Nat.zero_le _, by simp [xR], fun e => by simp [xR] at e⟩
theorem RdR.lens {x : SS} {S : MS} {l : List UInt8} {k : Nat} (h : RdR x S l k) : x.out.length ≤ 140737488351232 ∧ x.inn.length ≤ 140737488351232 ∧ x.back.length ≤ 140737488351232 := ⟨by rw [h.out]; simp, Nat.le_trans h.il (by decide), by rw [h.back]; simp⟩

end Go.Proofs.Ytgbkhmiphaefgaa

/- LinesGrow: the walk. -/
namespace Go.Proofs.Ytgbkhmiphaefgaa
open Go.RowKit

theorem bys_first15 {W : World} {va : Option Addr} {vc : Nat} {t : List UInt8} (h : Bys W (.slice va t.length vc) t) (m : Nat) (hm : m ≤ t.length) : Bys W (.slice va m vc) (t.take m) := by
  by_cases h0 : 0 < t.length
  · obtain ⟨_, yb, yo, rfl, _, _⟩ := bys_block h h0
    simpa using bys_cut h 0 m vc (by omega)
  · obtain rfl : m = t.length := by omega
    rw [List.take_of_length_le (Nat.le_refl _)]
    exact h

end Go.Proofs.Ytgbkhmiphaefgaa

/- Blocks: what Read tells over a memory that is read. -/
namespace Go.Proofs.Ytgbkhmiphaefgaa
open Go.RowKit

theorem gat_rdN {l : List UInt8} (N : Nat) : ∀ (n k : Nat) (x : SS) (S : MS) (acc : List UInt8), RdR x S l k → acc.length + n = N + 1 → acc.length ≤ N →
    (gat rdRm (stopN N) n x S acc).2.1 = acc ++ (l.drop k).take (N - acc.length) ∧ (gat rdRm (stopN N) n x S acc).2.2.1 = (if N - acc.length ≤ l.length - k then 0 else 111) ∧ ∃ m, RdR (gat rdRm (stopN N) n x S acc).1 (gat rdRm (stopN N) n x S acc).2.2.2 l m := by
  intro n
  induction n with
  | zero => intro k x S acc h h1 h2; omega
  | succ n ih =>
    intro k x S acc h h1 h2
    by_cases hs : acc.length = N
    · have hst : stopN N acc = true := by unfold stopN; rw [decide_eq_true hs]
      rw [gat_stop _ _ _ _ _ _ hst]
      refine ⟨by rw [hs]; simp, by rw [if_pos (by omega)], k, h⟩
    · have hst : stopN N acc = false := by unfold stopN; rw [decide_eq_false hs]
      obtain ⟨g1, g2, g3, -⟩ := h.get
      by_cases hk : k < l.length
      · rw [if_pos hk] at g2
        rw [show min (k + 1) l.length = k + 1 by omega] at g1
        have g3 := g3 hk
        rw [gat_next _ _ _ _ _ _ hst g2, g3]
        have hd : l.drop k = l.getD k 0 :: l.drop (k + 1) := by
          rw [List.drop_eq_getElem_cons hk, List.getD_eq_getElem?_getD, List.getElem?_eq_getElem hk]
          rfl
        obtain ⟨m1, m2, m3⟩ := ih (k + 1) _ _ (acc ++ [l.getD k 0]) g1 (by simp only [List.length_append, List.length_cons, List.length_nil]; omega) (by simp only [List.length_append, List.length_cons, List.length_nil]; omega)
        simp only [List.length_append, List.length_cons, List.length_nil] at m1 m2
        refine ⟨?_, ?_, m3⟩
        · rw [m1, hd, show N - acc.length = N - (acc.length + (0 + 1)) + 1 by omega, List.take_succ_cons, List.append_assoc]
          rfl
        · rw [m2]
          by_cases h5 : N - acc.length ≤ l.length - k
          · rw [if_pos h5, if_pos (by omega)]
          · rw [if_neg h5, if_neg (by omega)]
      · rw [if_neg hk] at g2
        have hkl := h.kl
        have hke : k = l.length := by omega
        rw [gat_err _ _ _ _ _ _ hst (by rw [g2]; decide), g2]
        refine ⟨?_, by rw [if_neg (by omega)], _, g1⟩
        rw [hke, List.drop_length]
        simp
theorem bytesV_small {size count : Nat} (h1 : 0 < size) (h2 : size * count ≤ 1048576) : bytesV size count = (((size * count : Nat) : Int), 0) := by
  unfold bytesV
  rw [if_neg (by omega), if_neg]
  · simp
  · intro h
    have h4 : ((size * count : Nat) : Int) ≤ 1048576 := Int.ofNat_le.2 h2
    rw [Int.natCast_mul] at h4
    have h3 : (count : Int) ≤ 1048576 / (size : Int) := Int.le_ediv_of_mul_le (by omega) (by rw [Int.mul_comm]; exact h4)
    omega
theorem RdR.bread {x : SS} {S : MS} {l : List UInt8} (h : RdR x S l 0) {size count : Nat} (h1 : 0 < size) (h2 : size * count ≤ 1048576) :
    (x.bread rdRm S size count).2.1 = l.take (size * count) ∧ (x.bread rdRm S size count).2.2.1 = wholeV (min (size * count) l.length) size ∧ (x.bread rdRm S size count).2.2.2.1 = (if size * count ≤ l.length then 0 else 111) := by
  have hw : x.bwant true size count = (((size * count : Nat) : Int), 0) := by
    unfold SS.bwant
    rw [if_neg (by simp [h.refuse]), bytesV_small h1 h2]
  obtain ⟨m1, m2, -⟩ := gat_rdN (l := l) (size * count) (size * count + 1) 0 x S [] h (Nat.zero_add _) (Nat.zero_le _)
  unfold SS.bread
  rw [hw, if_neg (by simp)]
  simp only [Int.toNat_natCast, List.length_nil, Nat.sub_zero, List.drop_zero, List.nil_append] at m1 m2 ⊢
  refine ⟨m1, ?_, m2⟩
  rw [m1, List.length_take]
end Go.Proofs.Ytgbkhmiphaefgaa

/- Blocks: the law's num, alive. -/
namespace Go.Proofs.Ytgbkhmiphaefgaa
open Go.RowKit

theorem num16 (e : Int) (w : World) : Calls Try.prog 8 #[.int .i64 e] w fun r w' => r = .returned (.int .i64 e) ∧ w = w' := by
  go_enter Try.func8, Try.ntmps8
  go_wp2
  go_ret
  exact ⟨rfl, rfl⟩
def hello : List UInt8 := [104, 101, 108, 108, 111]
def qhX : SS := ⟨true, false, 3, 4, [], [], [], 1, true, false, false⟩
theorem qh_a : (xR 3 4).bread rdRm ⟨hello, hello.length, 0⟩ 2 3 = (qhX, [104, 101, 108, 108, 111], 2, 111, ⟨hello, hello.length, 5⟩) := by kernel_rfl
theorem by_big : bytesV 1099511627776 1099511627776 = (0, 4) := by kernel_rfl
set_option maxRecDepth 100000 in
set_option maxHeartbeats 8000000 in
theorem alive16 (w : World) : Calls Try.prog 9 #[] w fun e w' => e = .returned (.bool true) ∧ Below w.heap.size w w' := by
  have cl := conv_lit15 w #[.int .u8 104, .int .u8 101, .int .u8 108, .int .u8 108, .int .u8 111] 5 5 rfl
  have hb3 := lit_bys15 w hello #[.int .u8 104, .int .u8 101, .int .u8 108, .int .u8 108, .int .u8 111] 5 (5, 6) rfl rfl
  have hBl := (Below.refl _ w).alloc (Nat.le_refl _) (Obj.cells #[.int .u8 104, .int .u8 101, .int .u8 108, .int .u8 108, .int .u8 111] 5 (5, 6))
  have HN1 := hide (newReader_good _ hello _ hb3 (by decide))
  have HBl := hide hBl
  have hN := fun W => sNew_any moR 3 4 W
  rw [new_R, if_pos (by decide), if_pos (by decide)] at hN
  simp only at hN
  unfold mv at hN
  have HN := hide hN
  have hY := fun W => bbytes_any 1099511627776 1099511627776 W
  rw [by_big] at hY
  simp only at hY
  have HY := hide hY
  clear hN hb3 hBl hY
  go_enter Try.func9, Try.ntmps9
  go_wp2_with fail
  generalize w.alloc (Obj.cells #[.int .u8 104, .int .u8 101, .int .u8 108, .int .u8 108, .int .u8 111] 5 (5, 6)) = w0 at *
  refine HN1.out.mono ?_
  rintro _ w1 ⟨g, rfl, hM, hB⟩
  have HM := hide hM
  have HB := hide (HBl.out.trans (hB.mono HBl.out.size))
  have hz0 := HBl.out.size
  clear hM hB HN1 cl
  go_wp2_with fail
  refine (HN.out _).mono ?_
  rintro _ w2 ⟨rfl, hB2⟩
  have HM2 := hide (HM.out.below hB2)
  have HB2 := hide (HB.out.trans (hB2.mono HB.out.size))
  clear hB2 HM HB
  have HS2 := hide (StAt.new w2 (xR 3 4) (.slice none 0 0) (.slice none 0 0) (.slice none 0 0))
  have HB3 := hide (recv_below w2 (Obj.cells #[.bool (xR 3 4).rd, .bool (xR 3 4).wt, .int .i64 (xR 3 4).mode, .int .i64 (xR 3 4).size, .slice none 0 0, .slice none 0 0, .slice none 0 0, .int .i64 (xR 3 4).dir, .bool (xR 3 4).fin, .bool (xR 3 4).bad, .bool (xR 3 4).closed] 35))
  have HLV : Hid (LV (fun w O S => MemAt w O g S) (w2.alloc (Obj.cells #[.bool (xR 3 4).rd, .bool (xR 3 4).wt, .int .i64 (xR 3 4).mode, .int .i64 (xR 3 4).size, .slice none 0 0, .slice none 0 0, .slice none 0 0, .int .i64 (xR 3 4).dir, .bool (xR 3 4).fin, .bool (xR 3 4).bad, .bool (xR 3 4).closed] 35)) w.heap.size w2.heap.size (fun k => w0.heap.size ≤ k ∧ k < w2.heap.size) (xR 3 4) ⟨hello, hello.length, 0⟩ (.slice none (xR 3 4).out.length 0) (.slice none (xR 3 4).inn.length 0) (.slice none (xR 3 4).back.length 0)) := hide
    ⟨HS2.out, SIn.nils0 rfl rfl rfl, HM2.out.trim.below HB3.out, fun j e => Nat.lt_of_lt_of_le e.2 HB3.out.size, fun j e => by have := e.1; omega, fun e => by omega, HB2.out.size⟩
  have HTT : Hid (Turned (fun k => w.heap.size ≤ k) w (w2.alloc (Obj.cells #[.bool (xR 3 4).rd, .bool (xR 3 4).wt, .int .i64 (xR 3 4).mode, .int .i64 (xR 3 4).size, .slice none 0 0, .slice none 0 0, .slice none 0 0, .int .i64 (xR 3 4).dir, .bool (xR 3 4).fin, .bool (xR 3 4).bad, .bool (xR 3 4).closed] 35))) := hide ((Turned.of_below HB2.out).trans (Turned.of_below (S := fun k => w.heap.size ≤ k) HB3.out) (fun _ _ e => e))
  have hp := bread_any (rdr_raw g) (fun s => gmem_o g s) (bears_true rdRm) _ _ _ _ _ _ 2 3 HLV.out.ls HLV.out.raw HLV.out.ol trivial (by decide) (by decide) (by decide)
  rw [qh_a] at hp
  simp only at hp
  have HP := hide hp
  clear hp
  go_wp2_with (first | (go_at_call 8; refine (num16 _ _).mono ?_; rintro _ _ ⟨rfl, rfl⟩) | fail)
  generalize w2.alloc (Obj.cells #[.bool (xR 3 4).rd, .bool (xR 3 4).wt, .int .i64 (xR 3 4).mode, .int .i64 (xR 3 4).size, .slice none 0 0, .slice none 0 0, .slice none 0 0, .int .i64 (xR 3 4).dir, .bool (xR 3 4).fin, .bool (xR 3 4).bad, .bool (xR 3 4).closed] 35) = w3 at *
  have HSZ := hide HTT.out.size
  clear HS2 HB3 HM2 HN
  generalize w2.heap.size = gv at *
  refine HP.out.mono ?_
  rintro _ w10 ⟨o', i', b', uu, rfl, hS⟩
  obtain ⟨e1, e4, rfl, -⟩ := hS.choose_spec.1.1.so
  obtain ⟨e2, e5, rfl, -⟩ := hS.choose_spec.1.1.si
  obtain ⟨e3, e6, rfl, -⟩ := hS.choose_spec.1.1.sb
  obtain ⟨r1, r2, hu0⟩ := owns_slice hS.choose_spec.2.1
  have hu1 : uu = .slice r1 5 r2 := hu0
  subst hu1
  have ht : Turned _ w3 w10 := hS.choose_spec.1.2.2.2.2
  have HT10 : Hid (Turned (fun k => w.heap.size ≤ k) w w10) := hide (HTT.out.trans (ht.mono fun k e => HLV.out.ob k e) (fun _ _ e => e))
  have HB11 := recv_below w10 (Obj.cells #[.bool qhX.rd, .bool qhX.wt, .int .i64 qhX.mode, .int .i64 qhX.size, .slice e1 qhX.out.length e4, .slice e2 qhX.inn.length e5, .slice e3 qhX.back.length e6, .int .i64 qhX.dir, .bool qhX.fin, .bool qhX.bad, .bool qhX.closed] 35)
  have m1 : (convert 30 9 (.slice r1 5 r2)).run Try.prog (w10.alloc (Obj.cells #[.bool qhX.rd, .bool qhX.wt, .int .i64 qhX.mode, .int .i64 qhX.size, .slice e1 qhX.out.length e4, .slice e2 qhX.inn.length e5, .slice e3 qhX.back.length e6, .int .i64 qhX.dir, .bool qhX.fin, .bool qhX.bad, .bool qhX.closed] 35)) = .ok (.string ⟨#[104, 101, 108, 108, 111]⟩) (w10.alloc (Obj.cells #[.bool qhX.rd, .bool qhX.wt, .int .i64 qhX.mode, .int .i64 qhX.size, .slice e1 qhX.out.length e4, .slice e2 qhX.inn.length e5, .slice e3 qhX.back.length e6, .int .i64 qhX.dir, .bool qhX.fin, .bool qhX.bad, .bool qhX.closed] 35)) := owns_string (l := [104, 101, 108, 108, 111]) (owns_below hS.choose_spec.2.1 HB11)
  have HB12 := hide HB11
  clear hS ht hu0 HLV HTT HSZ HP HB11
  go_wp2_with fail
  refine (HY.out _).mono ?_
  rintro _ _ ⟨rfl, rfl⟩
  go_wp2_with (first | (go_at_call 8; refine (num16 _ _).mono ?_; rintro _ _ ⟨rfl, rfl⟩) | fail)
  go_ret
  exact ⟨rfl, (HT10.out.below (B := w.heap.size) (fun _ e => e) (Nat.le_refl _)).trans (HB12.out.mono HT10.out.size)⟩
end Go.Proofs.Ytgbkhmiphaefgaa

/- Bytes that came in as an argument: what a walk is told of them. -/
namespace Go.Proofs.Ytgbkhmiphaefgaa
open Go.ChangeShapes Go.WideShapes Go.ChangeAt Go.RowKit

end Go.Proofs.Ytgbkhmiphaefgaa

/- Bytes, and steps, that came in as an argument: what a walk is told of them. -/
namespace Go.Proofs.Ytgbkhmiphaefgaa
open Go.ChangeShapes Go.WideShapes Go.ChangeAt Go.RowKit Go.Deep

theorem bytes_arg2 {H : Type} {enc : TypeId × Value → H} {P : Program} {W : World} {base : Nat} {a : Option Addr} {len cap fuel t e : Nat} {d : DataW H} {p : List MemPlace}
    (ht : P.underlying t = some (.slice e)) (he : P.underlying e = some (.int .u8)) (hc : P.cellsOf e = 1)
    (hf : DataW.trod enc P W base (fun _ => true) true fuel t (Value.slice a len cap).cells.toList = some (d, p)) :
    ∃ l : List UInt8, Bys W (.slice a len cap) l ∧ l.length ≤ cap ∧ ((d = .nil ∧ l = []) ∨ ∃ elems spare : List (DataW H), d = .slice elems spare ∧ l.length = elems.length) := by
  rcases open_ints ht he hc hf with ⟨hcs, hd⟩ | ⟨x, n, c, zs, hcs, _, hl, hm, hz, hx, hcell, hwz⟩
  · simp [Value.cells] at hcs
    obtain ⟨rfl, rfl, rfl⟩ := hcs
    exact ⟨[], .inl ⟨rfl, rfl⟩, by simp, .inl ⟨(Prod.mk.inj hd).1, rfl⟩⟩
  · simp [Value.cells] at hcs
    obtain ⟨rfl, rfl, rfl⟩ := hcs
    simp only [if_true] at hz
    have hlen : ((zs.take len).map fun n => UInt8.ofNat n.toNat).length = len := by rw [List.length_map, List.length_take]; omega
    refine ⟨(zs.take len).map fun n => UInt8.ofNat n.toNat, ?_, by rw [hlen]; exact hl, .inr ⟨_, _, (Prod.mk.inj hx).1, by simp [lits]⟩⟩
    by_cases h0 : len = 0
    · subst h0
      exact .inr (.inl ⟨x, cap, rfl, by simp⟩)
    · obtain ⟨b, off, spot⟩ := x
      have hspot : spot = none := by simpa [Addr.add] using World.cell?_spot (hcell 0 (by omega))
      subst hspot
      refine .inr (.inr ⟨b, off, cap, by rw [hlen], by rw [hlen]; omega, fun j hj => ?_⟩)
      rw [hlen] at hj
      have h1 := hcell j (by omega)
      have hadd : (⟨b, off, none⟩ : Addr).add j = ⟨b, off + j, none⟩ := by unfold Addr.add; split <;> simp_all
      rw [hadd] at h1
      rw [h1]
      have hjz : j < zs.length := by omega
      have hb := bounds_u8 (hwz zs[j] (List.getElem_mem hjz))
      simp only [List.getD_eq_getElem?_getD, List.getElem?_map, List.getElem?_take, if_pos hj, List.getElem?_eq_getElem hjz, Option.map_some, Option.getD_some]
      rw [UInt8.toNat_ofNat_of_lt' (by show _ < 256; omega), Int.toNat_of_nonneg hb.1]



end Go.Proofs.Ytgbkhmiphaefgaa

/- BlocksWhole: the walk. -/
namespace Go.Proofs.Ytgbkhmiphaefgaa
open Go.RowKit

set_option maxRecDepth 100000 in
set_option maxHeartbeats 8000000 in
theorem lwhole_any (ta : Option Addr) (tc : Nat) (l : List UInt8) (size count mode buffer : Int) (w : World) (hX : Bys w (.slice ta l.length tc) l) (hXl : l.length ≤ 140737488351232) (htc : l.length ≤ tc) :
    Calls Try.prog 5 #[.slice ta l.length tc, .int .i64 size, .int .i64 count, .int .i64 mode, .int .i64 buffer] w fun e w' => e = .returned (.bool true) ∧ Below w.heap.size w w' := by
  have HX := hide hX
  have HTc := hide htc
  clear hX htc
  go_enter Try.func5, Try.ntmps5
  go_wp2_with fail
  refine (alive16 _).mono ?_
  rintro _ w1 ⟨rfl, hB1⟩
  have HB1 := hide hB1
  clear hB1
  have hM := fun W => sNew_any moR mode buffer W
  by_cases hl : 1048576 < l.length
  case pos =>
    have HNg := hide (newReader_long (.slice ta l.length tc) l w1 (HX.out.below HB1.out) hl)
    generalize SS.new moR mode buffer = q at *
    obtain ⟨qx, qe⟩ := q
    unfold mv at hM
    simp only at hM
    have HM := hide hM
    clear hM
    go_wp2_with fail
    refine HNg.out.mono ?_
    rintro _ w2 ⟨rfl, hB2⟩
    have HB2 := hide (HB1.out.trans (hB2.mono HB1.out.size))
    clear hB2
    go_wp2_with fail
    refine (HM.out _).mono ?_
    rintro _ w3 ⟨rfl, hB3⟩
    have HB3 := hide (HB2.out.trans (hB3.mono HB2.out.size))
    clear hB3
    go_wp2_with (first | (go_at_call 8; refine (num16 _ _).mono ?_; rintro _ _ ⟨rfl, rfl⟩) | fail)
    go_ret
    exact ⟨rfl, HB3.out.trans ((recv_below w3 _).mono HB3.out.size)⟩
  have HNg := hide (newReader_good (.slice ta l.length tc) l w1 (HX.out.below HB1.out) (by omega))
  rw [new_R] at hM
  unfold mv at hM
  go_wp2_with fail
  refine HNg.out.mono ?_
  rintro _ w2 ⟨g, rfl, hMm, hB2⟩
  have HM2 := hide hMm
  have HB2 := hide (HB1.out.trans (hB2.mono HB1.out.size))
  have hz12 := HB1.out.size
  clear hB2 hMm HNg
  by_cases hok : (1 ≤ mode ∧ mode ≤ 3) ∧ (1 ≤ buffer ∧ buffer ≤ 65536)
  case neg =>
    obtain ⟨q, hq, hq0⟩ : ∃ q : SS × Int, (if 1 ≤ mode ∧ mode ≤ 3 then (if 1 ≤ buffer ∧ buffer ≤ 65536 then (xR mode buffer, 0) else (ss0, 4)) else (ss0, 1)) = q ∧ q.2 ≠ 0 := by
      refine ⟨_, rfl, ?_⟩
      by_cases h1 : 1 ≤ mode ∧ mode ≤ 3
      · rw [if_pos h1, if_neg (fun h2 => hok ⟨h1, h2⟩)]; decide
      · rw [if_neg h1]; decide
    rw [hq] at hM
    obtain ⟨qx, qe⟩ := q
    simp only at hM hq0
    have HM := hide hM
    have hb1 : (qe == 0) = false := by simp [hq0]
    have hb2 : (qe != 0) = true := by simp [hq0]
    clear hM hq hq0 hok
    go_wp2_with fail
    refine (HM.out _).mono ?_
    rintro _ w3 ⟨rfl, hB3⟩
    have HB3 := hide (HB2.out.trans (hB3.mono HB2.out.size))
    clear hB3
    go_wp2_with (first | (go_at_call 8; refine (num16 _ _).mono ?_; rintro _ _ ⟨rfl, rfl⟩) | fail)
    go_ret
    exact ⟨rfl, HB3.out.trans ((recv_below w3 _).mono HB3.out.size)⟩
  rw [if_pos hok.1, if_pos hok.2] at hM
  simp only at hM
  have HM := hide hM
  clear hM
  go_wp2_with fail
  refine (HM.out _).mono ?_
  rintro _ w3 ⟨rfl, hB3⟩
  have HM3 := hide (HM2.out.below hB3)
  have HB3 := hide (HB2.out.trans (hB3.mono HB2.out.size))
  clear hB3 HM HM2 HB2
  have HS3 := hide (StAt.new w3 (xR mode buffer) (.slice none 0 0) (.slice none 0 0) (.slice none 0 0))
  have HB4 := hide (recv_below w3 (Obj.cells #[.bool (xR mode buffer).rd, .bool (xR mode buffer).wt, .int .i64 (xR mode buffer).mode, .int .i64 (xR mode buffer).size, .slice none 0 0, .slice none 0 0, .slice none 0 0, .int .i64 (xR mode buffer).dir, .bool (xR mode buffer).fin, .bool (xR mode buffer).bad, .bool (xR mode buffer).closed] 35))
  have HLV : Hid (LV (fun w O S => MemAt w O g S) (w3.alloc (Obj.cells #[.bool (xR mode buffer).rd, .bool (xR mode buffer).wt, .int .i64 (xR mode buffer).mode, .int .i64 (xR mode buffer).size, .slice none 0 0, .slice none 0 0, .slice none 0 0, .int .i64 (xR mode buffer).dir, .bool (xR mode buffer).fin, .bool (xR mode buffer).bad, .bool (xR mode buffer).closed] 35)) w.heap.size w3.heap.size (fun k => w1.heap.size ≤ k ∧ k < w3.heap.size) (xR mode buffer) ⟨l, l.length, 0⟩ (.slice none (xR mode buffer).out.length 0) (.slice none (xR mode buffer).inn.length 0) (.slice none (xR mode buffer).back.length 0)) := hide
    ⟨HS3.out, SIn.nils0 rfl rfl rfl, HM3.out.trim.below HB4.out, fun j e => Nat.lt_of_lt_of_le e.2 HB4.out.size, fun j e => by have := e.1; omega, fun e => by omega, HB3.out.size⟩
  have HTT : Hid (Turned (fun k => w.heap.size ≤ k) w (w3.alloc (Obj.cells #[.bool (xR mode buffer).rd, .bool (xR mode buffer).wt, .int .i64 (xR mode buffer).mode, .int .i64 (xR mode buffer).size, .slice none 0 0, .slice none 0 0, .slice none 0 0, .int .i64 (xR mode buffer).dir, .bool (xR mode buffer).fin, .bool (xR mode buffer).bad, .bool (xR mode buffer).closed] 35))) := hide ((Turned.of_below HB3.out).trans (Turned.of_below (S := fun k => w.heap.size ≤ k) HB4.out) (fun _ _ e => e))
  have HR0 := hide (rr_new mode buffer l hok (by omega))
  clear HS3 HB4 HM3 hok
  by_cases h3 : 2000 < l.length
  case pos =>
    have d3 : decide ((2000 : Int) < (l.length : Int)) = true := decide_eq_true (by omega)
    go_wp2_with (first | (go_at_call 8; refine (num16 _ _).mono ?_; rintro _ _ ⟨rfl, rfl⟩) | fail)
    go_ret
    exact ⟨rfl, HTT.out.below (B := w.heap.size) (fun _ e => e) (Nat.le_refl _)⟩
  have d3 : decide ((2000 : Int) < (l.length : Int)) = false := decide_eq_false (by omega)
  obtain ⟨m0, hm, hm9⟩ := rem15 size 40 (by decide) (by decide)
  obtain ⟨C, hc, hc9⟩ := rem15 count 200 (by decide) (by decide)
  obtain ⟨Z, hZ⟩ : ∃ Z, Z = m0 + 1 := ⟨_, rfl⟩
  have hm1 : wrap64 (1 + (m0 : Int)) = (Z : Int) := by rw [hZ]; unfold wrap64; omega
  have hZ1 : 1 ≤ Z ∧ Z ≤ 40 := by omega
  have hC1 : C ≤ 199 := by omega
  clear hZ hm9 hc9
  go_upto_region 8 with (first | (go_at_call 8; refine (num16 _ _).mono ?_; rintro _ _ ⟨rfl, rfl⟩) | fail)
  simp only [hm1]
  clear hm hm1 hc d3
  generalize w3.alloc (Obj.cells #[.bool (xR mode buffer).rd, .bool (xR mode buffer).wt, .int .i64 (xR mode buffer).mode, .int .i64 (xR mode buffer).size, .slice none 0 0, .slice none 0 0, .slice none 0 0, .int .i64 (xR mode buffer).dir, .bool (xR mode buffer).fin, .bool (xR mode buffer).bad, .bool (xR mode buffer).closed] 35) = w4 at *
  generalize w3.heap.size = gv at *
  have hZC : Z * C ≤ 7960 := Nat.le_trans (Nat.mul_le_mul hZ1.2 hC1) (by decide)
  obtain ⟨b1, b2, b3⟩ := HR0.out.bread (size := Z) (count := C) (by omega) (by omega)
  obtain ⟨M, hM⟩ : ∃ M, M = Z * C := ⟨_, rfl⟩
  have hMi : wrap64 ((Z : Int) * (C : Int)) = (M : Int) := by
    have h4 : ((Z * C : Nat) : Int) = (Z : Int) * (C : Int) := Int.natCast_mul Z C
    rw [← h4, ← hM]; unfold wrap64; omega
  have hp := bread_any (rdr_raw g) (fun s => gmem_o g s) (bears_true rdRm) _ _ _ _ _ _ (Z : Int) (C : Int) HLV.out.ls HLV.out.raw HLV.out.ol trivial HR0.out.lens.1 HR0.out.lens.2.1 HR0.out.lens.2.2
  generalize (xR mode buffer).bread rdRm ⟨l, l.length, 0⟩ (Z : Int) (C : Int) = q at *
  obtain ⟨x', acc, V, E, s'⟩ := q
  simp only at hp b1 b2 b3
  have HP := hide hp
  rw [← hM] at b1 b2 b3 hZC
  obtain ⟨K, hK⟩ : ∃ K, K = min M l.length := ⟨_, rfl⟩
  rw [← hK] at b2
  have hacl : acc.length = K := by rw [b1, List.length_take, hK]
  have hbt : acc = l.take K := by rw [b1, hK]; rcases Nat.le_total M l.length with h | h; rw [Nat.min_eq_left h]; rw [Nat.min_eq_right h, List.take_of_length_le h, List.take_length]
  have hV : V = ((K / Z : Nat) : Int) := by
    rw [b2]
    unfold wholeV
    by_cases h0 : K = 0
    · rw [if_pos h0, h0]; simp
    · rw [if_neg h0]; exact (Int.natCast_ediv K Z).symm
  have HAcc := hide (And.intro hbt hacl)
  have hKl : K ≤ l.length := by omega
  have hKi : min (M : Int) (l.length : Int) = (K : Int) := by omega
  have hKq : wrap64 ((K : Int) / (Z : Int)) = ((K / Z : Nat) : Int) := by
    have h4 : ((K / Z : Nat) : Int) = (K : Int) / (Z : Int) := Int.natCast_ediv K Z
    have h5 := Nat.div_le_self K Z
    rw [← h4]
    generalize K / Z = q at *
    clear h4
    unfold wrap64; omega
  have hE : ((K / Z : Nat) : Int) < (C : Int) ↔ ¬ M ≤ l.length := by
    rw [Int.ofNat_lt, Nat.div_lt_iff_lt_mul (by omega), Nat.mul_comm C Z, ← hM]
    omega
  have HE := hide (And.intro hE b3)
  have HZr := hide (And.intro hZ1 (And.intro hC1 (And.intro hM (And.intro hK (And.intro hKl (And.intro hZC (And.intro hKi hKq)))))))
  clear hp b1 b2 b3 hacl hbt hE hZ1 hC1 hM hK hKl hZC hKi hKq HR0
  obtain ⟨QN, hQN⟩ : ∃ QN : Nat, QN = K / Z := ⟨_, rfl⟩
  rw [← hQN] at hV HE HZr
  clear hQN
  subst hV
  have hMi2 := hMi
  clear hMi
  obtain ⟨c0, c1, c2, c3, c4, c5, c6, c7, c8, c9, c10⟩ := HLV.out.st.cs
  go_wp2_with fail
  clear c0 c1 c2 c3 c4 c5 c6 c7 c8 c9 c10
  refine HP.out.mono ?_
  rintro _ w5 ⟨o', i', b', u, rfl, hS⟩
  obtain ⟨e1, e4, rfl, -⟩ := hS.choose_spec.1.1.so
  obtain ⟨e2, e5, rfl, -⟩ := hS.choose_spec.1.1.si
  obtain ⟨e3, e6, rfl, -⟩ := hS.choose_spec.1.1.sb
  obtain ⟨ua, uc, rfl⟩ := owns_slice hS.choose_spec.2.1
  have ht : Turned _ w4 w5 := hS.choose_spec.1.2.2.2.2
  have hT5 := HTT.out.trans (ht.mono fun k e => HLV.out.ob k e) (fun _ _ e => e)
  have HB6 := hide (hT5.below (B := w.heap.size) (fun _ e => e) (Nat.le_refl _))
  have HB7 := hide (recv_below w5 (Obj.cells #[.bool x'.rd, .bool x'.wt, .int .i64 x'.mode, .int .i64 x'.size, .slice e1 x'.out.length e4, .slice e2 x'.inn.length e5, .slice e3 x'.back.length e6, .int .i64 x'.dir, .bool x'.fin, .bool x'.bad, .bool x'.closed] 35))
  have HU := hide (Bys.of_owns (owns_below hS.choose_spec.2.1 HB7.out))
  clear hS ht hT5 HLV HTT HP
  obtain ⟨hZ1, hC1, hM, hK, hKl, hZC, hKi, hKq⟩ := HZr.out
  have HSm := hide (same_any (.slice ua acc.length uc) (.slice ta K tc) acc (w5.alloc (Obj.cells #[.bool x'.rd, .bool x'.wt, .int .i64 x'.mode, .int .i64 x'.size, .slice e1 x'.out.length e4, .slice e2 x'.inn.length e5, .slice e3 x'.back.length e6, .int .i64 x'.dir, .bool x'.fin, .bool x'.bad, .bool x'.closed] 35)) (by exact HU.out) (by rw [HAcc.out.1]; exact bys_first15 (HX.out.below (HB6.out.trans (HB7.out.mono HB6.out.size))) K hKl) (by rw [HAcc.out.2]; unfold maxLen; omega))
  have hA2 := HAcc.out.2
  rw [hA2] at HSm ⊢
  clear hM hK hZ1 hC1 hA2
  have q1 : (K : Int) ≤ (tc : Int) := by have := HTc.out; omega
  clear hKl hZC
  have hZne : ¬ (Z : Int) = 0 := by have := HZr.out.1; omega
  have hZne2 : ((Z : Int) == 0) = false := by rw [beq_eq_false_iff_ne]; exact hZne
  by_cases hQC : QN < C
  · have HEx := hide (HE.out.1.1 (by omega))
    have hE2 : E = 111 := by rw [HE.out.2, if_neg HEx.out]
    subst hE2
    go_wp2_with (first | (go_at_call 8; refine (num16 _ _).mono ?_; rintro _ _ ⟨rfl, rfl⟩) | (go_at_call 17; refine HSm.out.mono ?_; rintro _ w9 ⟨rfl, hB9⟩) | fail)
    go_ret
    exact ⟨rfl, HB6.out.trans ((HB7.out.trans (hB9.mono HB7.out.size)).mono HB6.out.size)⟩
  · have hE2 : E = 0 := by rw [HE.out.2, if_pos (by have := HE.out.1; omega)]
    subst hE2
    go_wp2_with (first | (go_at_call 8; refine (num16 _ _).mono ?_; rintro _ _ ⟨rfl, rfl⟩) | (go_at_call 17; refine HSm.out.mono ?_; rintro _ w9 ⟨rfl, hB9⟩) | fail)
    go_ret
    exact ⟨rfl, HB6.out.trans ((HB7.out.trans (hB9.mono HB7.out.size)).mono HB6.out.size)⟩
theorem lwhole_fr (ta : Option Addr) (tn tc : Nat) (l : List UInt8) (size count mode buffer : Int) (w : World) (hX : Bys w (.slice ta tn tc) l) (hXl : l.length ≤ 140737488351232) (htc : l.length ≤ tc) :
    Calls Try.prog 5 #[.slice ta tn tc, .int .i64 size, .int .i64 count, .int .i64 mode, .int .i64 buffer] w fun e w' => e = .returned (.bool true) ∧ Below w.heap.size w w' := by
  obtain rfl := bys_len15 hX
  exact lwhole_any ta tc l size count mode buffer w hX hXl htc
end Go.Proofs.Ytgbkhmiphaefgaa

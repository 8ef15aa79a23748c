/- What the proof stands on, part 11: the contracts of the program's calls that it reaches. -/
import Derived.Test.YtgbkhmiphaefgaaKK10
import Derived.KernelRfl
import Derived.Lib.SlBytesConst
import Derived.Deep.DeepCutAuto
import Derived.ProofKit
import Derived.OpenShut
import Derived.ChangeArms
import Derived.ChangeSlices
import Derived.SizedLaws
import Derived.Deep.Slices
import Derived.Lib.BytesEntry
import Derived.Lib.MinMax
/- Lines over a memory that is read: values, and the memory as a Raw. -/
namespace Go.Proofs.Ytgbkhmiphaefgaa
open Go.RowKit

def rdRm : RawD MS := ⟨fun S n => S.read n, fun S _ => (0, 65, S)⟩
theorem rdr_rawP (g : Nat) : RawP rdRm 43 (.pointer (some ⟨g, 0, none⟩)) 114 115 (fun _ => True) (fun _ => True) (fun w O S => MemAt w O g S) where
  mread w := by kernel_rfl
  mwrite w := by kernel_rfl
  cread a w := by kernel_rfl
  cwrite a w := by kernel_rfl
  keep h hk _ := h.keep hk
  few {w O s} n h := by
    have := h.ok
    show (s.read n).1.length ≤ _
    unfold MS.read
    split
    · have := piece_le s.l s.pl (n : Int).toNat
      simp only
      omega
    · simp
  read n h _ _ _ := (rmread_any _ g _ n _ h).mono fun _ _ e => view_own e
  write bs a c h _ hb hc _ _ hap := (rmwrite_any _ g _ _ _ h).mono fun _ w' e => ⟨e.1, _, e.2 ▸ h, fun _ e => .inl e, e.2 ▸ Turned.refl _ _⟩
theorem rdr_raw (g : Nat) : RawM rdRm 43 (.pointer (some ⟨g, 0, none⟩)) 114 115 (fun _ => True) (fun _ => True) (fun w O S => MemAt w O g S) := (rdr_rawP g).gen
structure RdR (x : SS) (S : MS) (l : List UInt8) (k : Nat) : Prop where
  rd : x.rd = true
  m1 : 1 ≤ x.mode
  m3 : x.mode ≤ 3
  s1 : 1 ≤ x.size
  s2 : x.size ≤ 65536
  out : x.out = []
  back : x.back = []
  closed : x.closed = false
  dir : x.dir = 1 ∨ (x.dir = 0 ∧ x.inn = [])
  il : x.inn.length ≤ 65536
  lq : S.l = l
  ll : l.length ≤ 1048576
  kl : k ≤ l.length
  pl : S.pl = k + x.inn.length
  ple : S.pl ≤ l.length
  inn : x.inn = (l.drop k).take x.inn.length
  fin : x.fin = true → k = l.length
theorem RdR.may {x : SS} {S : MS} {l : List UInt8} {k : Nat} (h : RdR x S l k) : x.may = true := by
  refine (may_iff x).2 ⟨h.m1, h.m3, h.s1, h.s2, by rw [h.out]; have := h.s1; simp; omega, fun _ => by rw [h.out]; rfl, h.il, by rw [h.back]; simp, ?_⟩
  rcases h.dir with e | ⟨e, e2⟩
  · exact .inr (.inl ⟨e, h.rd, by rw [h.out]; rfl, h.closed⟩)
  · exact .inl ⟨e, by rw [h.out]; rfl, by rw [e2, h.back]; rfl⟩
theorem RdR.refuse {x : SS} {S : MS} {l : List UInt8} {k : Nat} (h : RdR x S l k) : x.refuse true = 0 := by
  unfold SS.refuse
  rw [if_neg (by simp [h.may]), if_neg (by simp), if_neg (by simp [h.closed])]
theorem RdR.noRead {x : SS} {S : MS} {l : List UInt8} {k : Nat} (h : RdR x S l k) : x.noRead = 0 := by
  unfold SS.noRead
  rw [if_neg (by simp [h.refuse]), if_neg (by simp [h.rd]), if_neg (by rcases h.dir with e | e <;> omega)]
theorem rs_some (S : MS) (n : Nat) (h1 : 1 ≤ n) (h2 : n ≤ 1048576) : someV rdRm n 8192 S = (piece S.l S.pl n, 0, ⟨S.l, S.room, S.pl + (piece S.l S.pl n).length⟩) := by
  have hr : rdRm.read S n = (piece S.l S.pl n, 0, ⟨S.l, S.room, S.pl + (piece S.l S.pl n).length⟩) := by
    show S.read (n : Int) = _
    unfold MS.read
    rw [if_pos (by unfold inR; simp; omega), Int.toNat_natCast]
  rw [show (8192 : Nat) = 8191 + 1 from rfl, someV_next rdRm n 8191 S hr, if_neg (by omega), if_neg (by rw [piece_len]; omega), if_pos rfl]
set_option linter.unusedSimpArgs false in
theorem RdR.get {x : SS} {S : MS} {l : List UInt8} {k : Nat} (h : RdR x S l k) : RdR (x.get rdRm S).1 (x.get rdRm S).2.2.2 l (min (k + 1) l.length) ∧ (x.get rdRm S).2.2.1 = (if k < l.length then 0 else 111) ∧ (k < l.length → (x.get rdRm S).2.1 = l.getD k 0) ∧ (x.get rdRm S).1.wt = x.wt := by
  have hk := h.kl
  have hp := h.pl
  have hpe := h.ple
  have hll := h.ll
  unfold SS.get
  rw [if_pos h.noRead]
  unfold SS.get1
  simp only
  rw [if_neg (by rw [h.back]; simp)]
  by_cases hi : 0 < x.inn.length
  · rw [if_pos hi]
    have hkl : k < l.length := by omega
    have hin := h.inn
    have hm : min (k + 1) l.length = k + 1 := by omega
    rw [hm]
    refine ⟨⟨h.rd, h.m1, h.m3, h.s1, h.s2, h.out, h.back, h.closed, .inl rfl, by simp only [List.length_drop]; have := h.il; omega, h.lq, hll, by omega, by simp only [List.length_drop]; omega, hpe, ?_, fun e => by have := h.fin e; omega⟩, by rw [if_pos hkl], fun _ => ?_, rfl⟩
    · simp only [List.length_drop]
      conv => lhs; rw [hin]
      rw [List.drop_take, List.drop_drop]
    · simp only
      rw [hin]
      simp only [List.getD_eq_getElem?_getD]
      rw [List.getElem?_take_of_lt hi, List.getElem?_drop]
      simp
  rw [if_neg hi]
  have hi0 : x.inn.length = 0 := by omega
  have hie : x.inn = [] := List.length_eq_zero_iff.1 hi0
  by_cases hf : x.fin = true
  · rw [if_pos hf]
    have hkl := h.fin hf
    have hm : min (k + 1) l.length = k := by omega
    rw [hm]
    exact ⟨⟨h.rd, h.m1, h.m3, h.s1, h.s2, h.out, h.back, h.closed, .inl rfl, h.il, h.lq, hll, hk, hp, hpe, h.inn, fun _ => hkl⟩, by rw [if_neg (by omega)], fun e => by omega, rfl⟩
  rw [if_neg hf]
  have hmost : 1 ≤ x.most ∧ x.most ≤ 65536 := by
    have h1 := h.s1
    have h2 := h.s2
    unfold SS.most
    split <;> omega
  have hms : (SS.most { rd := x.rd, wt := x.wt, mode := x.mode, size := x.size, out := x.out, inn := x.inn, back := x.back, dir := 1, fin := x.fin, bad := x.bad, closed := x.closed }) = x.most := rfl
  rw [hms, rs_some S x.most hmost.1 (by omega)]
  simp only
  rw [if_neg (by simp)]
  have hpl : S.pl = k := by omega
  rw [h.lq, hpl]
  have hlen := piece_len l k x.most
  by_cases hkl : k < l.length
  · have hm : min (k + 1) l.length = k + 1 := by omega
    rw [if_neg (by omega), hm]
    refine ⟨⟨h.rd, h.m1, h.m3, h.s1, h.s2, h.out, h.back, h.closed, .inl rfl, by simp only [List.length_drop]; omega, rfl, hll, by omega, by simp only [List.length_drop]; omega, by simp only; omega, ?_, fun e => absurd e hf⟩, by rw [if_pos hkl], fun _ => ?_, rfl⟩
    · simp only [List.length_drop]
      unfold piece
      rw [List.drop_take, List.drop_drop, List.take_eq_take_iff, List.length_take, List.length_drop, List.length_drop]
      omega
    · simp only [List.getD_eq_getElem?_getD]
      unfold piece
      rw [List.getElem?_take_of_lt (by omega), List.getElem?_drop]
      simp
  · have hm : min (k + 1) l.length = k := by omega
    rw [if_pos (by omega), hm]
    exact ⟨⟨h.rd, h.m1, h.m3, h.s1, h.s2, h.out, h.back, h.closed, .inl rfl, h.il, rfl, hll, hk, by simp only; omega, by simp only; omega, h.inn, fun _ => by omega⟩, by rw [if_neg hkl], fun e => absurd e hkl, rfl⟩
end Go.Proofs.Ytgbkhmiphaefgaa

/- Lines: the law's num, alive. -/
namespace Go.Proofs.Ytgbkhmiphaefgaa
open Go.RowKit

theorem lit_bys15 (w : World) (l : List UInt8) (cs : Array Value) (n : Nat) (fr : Nat × Nat) (hn : n = l.length) (hcs : cs.toList = l.map bv) : Bys (w.alloc (Obj.cells cs 5 fr)) (.slice (some ⟨w.heap.size, 0, none⟩) n n) l := by
  subst hn
  by_cases h0 : l.length = 0
  · exact .inr (.inl ⟨_, _, by rw [h0], List.length_eq_zero_iff.1 h0⟩)
  · refine .inr (.inr ⟨w.heap.size, 0, l.length, rfl, by omega, fun j hj => ?_⟩)
    rw [cell_of_row _ w.heap.size _ cs _ fr (heap_alloc_new w _)]
    have h1 : cs.toList[0 + j]? = (l.map bv)[j]? := by rw [hcs, Nat.zero_add]
    rw [Array.getElem?_toList] at h1
    rw [h1]
    simp [List.getD_eq_getElem?_getD, List.getElem?_eq_getElem hj, bv]
theorem conv_lit15 (w : World) (C : Array Value) (n m : Nat) (hm : C.size = m) : (convert 30 30 (.slice (some ⟨w.heap.size, 0, none⟩) n n)).run Try.prog (w.alloc (.cells C 5)) = .ok (.slice (some ⟨w.heap.size, 0, none⟩) n n) (w.alloc (.cells C 5 (m, m + 1))) := by
  subst hm
  exact Lib.run_convert_bytes_const w 30 5 C n n Try.underlying30 Try.underlying5
end Go.Proofs.Ytgbkhmiphaefgaa

/- LinesJoin: the walk. -/
namespace Go.Proofs.Ytgbkhmiphaefgaa
open Go.RowKit

theorem tmod15 (x k : Int) (hk : 0 < k) : -k < x.tmod k ∧ x.tmod k < k := by
  have h2 : ∀ y : Int, 0 ≤ y → 0 ≤ y.tmod k ∧ y.tmod k < k := fun y h => by
    rw [Int.tmod_eq_emod_of_nonneg h]
    exact ⟨Int.emod_nonneg _ (by omega), Int.emod_lt_of_pos _ hk⟩
  rcases Int.le_total 0 x with h | h
  · have := h2 x h; omega
  · have h3 := h2 (-x) (by omega)
    rw [Int.neg_tmod] at h3
    omega
theorem rem15 (full k : Int) (hk : 0 < k) (hk2 : k ≤ 1048576) : ∃ m : Nat, (wrap64 (full.tmod k + k)).tmod k = (m : Int) ∧ (m : Int) < k := by
  have h1 := tmod15 full k hk
  have h2 : wrap64 (full.tmod k + k) = full.tmod k + k := by unfold wrap64; omega
  rw [h2, Int.tmod_eq_emod_of_nonneg (by omega)]
  have h3 := Int.emod_nonneg (full.tmod k + k) (b := k) (by omega)
  have h4 := Int.emod_lt_of_pos (full.tmod k + k) hk
  exact ⟨((full.tmod k + k) % k).toNat, by omega, by omega⟩
theorem bys_len15 {W : World} {a : Option Addr} {n c : Nat} {l : List UInt8} (h : Bys W (.slice a n c) l) : n = l.length := by
  obtain ⟨_, _, e, -⟩ := bys_form h
  cases e
  rfl
theorem rr_new (mode size : Int) (l : List UInt8) (h : (1 ≤ mode ∧ mode ≤ 3) ∧ (1 ≤ size ∧ size ≤ 65536)) (hl : l.length ≤ 1048576) : RdR (xR mode size) ⟨l, l.length, 0⟩ l 0 :=
  ⟨rfl, h.1.1, h.1.2, h.2.1, h.2.2, rfl, rfl, rfl, .inr ⟨rfl, rfl⟩, by simp [xR], rfl, hl, Nat.zero_le _, rfl, Nat.zero_le _, by simp [xR], fun e => by simp [xR] at e⟩
end Go.Proofs.Ytgbkhmiphaefgaa

/- LinesGrow: the walk. -/
namespace Go.Proofs.Ytgbkhmiphaefgaa
open Go.RowKit

theorem bys_first15 {W : World} {va : Option Addr} {vc : Nat} {t : List UInt8} (h : Bys W (.slice va t.length vc) t) (m : Nat) (hm : m ≤ t.length) : Bys W (.slice va m vc) (t.take m) := by
  by_cases h0 : 0 < t.length
  · obtain ⟨_, yb, yo, rfl, _, _⟩ := bys_block h h0
    simpa using bys_cut h 0 m vc (by omega)
  · obtain rfl : m = t.length := by omega
    rw [List.take_of_length_le (Nat.le_refl _)]
    exact h

end Go.Proofs.Ytgbkhmiphaefgaa

/- Blocks: what Read tells over a memory that is read. -/
namespace Go.Proofs.Ytgbkhmiphaefgaa
open Go.RowKit

theorem gat_rdN {l : List UInt8} (N : Nat) : ∀ (n k : Nat) (x : SS) (S : MS) (acc : List UInt8), RdR x S l k → acc.length + n = N + 1 → acc.length ≤ N →
    (gat rdRm (stopN N) n x S acc).2.1 = acc ++ (l.drop k).take (N - acc.length) ∧ (gat rdRm (stopN N) n x S acc).2.2.1 = (if N - acc.length ≤ l.length - k then 0 else 111) ∧ ∃ m, RdR (gat rdRm (stopN N) n x S acc).1 (gat rdRm (stopN N) n x S acc).2.2.2 l m := by
  intro n
  induction n with
  | zero => intro k x S acc h h1 h2; omega
  | succ n ih =>
    intro k x S acc h h1 h2
    by_cases hs : acc.length = N
    · have hst : stopN N acc = true := by unfold stopN; rw [decide_eq_true hs]
      rw [gat_stop _ _ _ _ _ _ hst]
      refine ⟨by rw [hs]; simp, by rw [if_pos (by omega)], k, h⟩
    · have hst : stopN N acc = false := by unfold stopN; rw [decide_eq_false hs]
      obtain ⟨g1, g2, g3, -⟩ := h.get
      by_cases hk : k < l.length
      · rw [if_pos hk] at g2
        rw [show min (k + 1) l.length = k + 1 by omega] at g1
        have g3 := g3 hk
        rw [gat_next _ _ _ _ _ _ hst g2, g3]
        have hd : l.drop k = l.getD k 0 :: l.drop (k + 1) := by
          rw [List.drop_eq_getElem_cons hk, List.getD_eq_getElem?_getD, List.getElem?_eq_getElem hk]
          rfl
        obtain ⟨m1, m2, m3⟩ := ih (k + 1) _ _ (acc ++ [l.getD k 0]) g1 (by simp only [List.length_append, List.length_cons, List.length_nil]; omega) (by simp only [List.length_append, List.length_cons, List.length_nil]; omega)
        simp only [List.length_append, List.length_cons, List.length_nil] at m1 m2
        refine ⟨?_, ?_, m3⟩
        · rw [m1, hd, show N - acc.length = N - (acc.length + (0 + 1)) + 1 by omega, List.take_succ_cons, List.append_assoc]
          rfl
        · rw [m2]
          by_cases h5 : N - acc.length ≤ l.length - k
          · rw [if_pos h5, if_pos (by omega)]
          · rw [if_neg h5, if_neg (by omega)]
      · rw [if_neg hk] at g2
        have hkl := h.kl
        have hke : k = l.length := by omega
        rw [gat_err _ _ _ _ _ _ hst (by rw [g2]; decide), g2]
        refine ⟨?_, by rw [if_neg (by omega)], _, g1⟩
        rw [hke, List.drop_length]
        simp
theorem bytesV_small {size count : Nat} (h1 : 0 < size) (h2 : size * count ≤ 1048576) : bytesV size count = (((size * count : Nat) : Int), 0) := by
  unfold bytesV
  rw [if_neg (by omega), if_neg]
  · simp
  · intro h
    have h4 : ((size * count : Nat) : Int) ≤ 1048576 := Int.ofNat_le.2 h2
    rw [Int.natCast_mul] at h4
    have h3 : (count : Int) ≤ 1048576 / (size : Int) := Int.le_ediv_of_mul_le (by omega) (by rw [Int.mul_comm]; exact h4)
    omega
theorem RdR.bread {x : SS} {S : MS} {l : List UInt8} (h : RdR x S l 0) {size count : Nat} (h1 : 0 < size) (h2 : size * count ≤ 1048576) :
    (x.bread rdRm S size count).2.1 = l.take (size * count) ∧ (x.bread rdRm S size count).2.2.1 = wholeV (min (size * count) l.length) size ∧ (x.bread rdRm S size count).2.2.2.1 = (if size * count ≤ l.length then 0 else 111) := by
  have hw : x.bwant true size count = (((size * count : Nat) : Int), 0) := by
    unfold SS.bwant
    rw [if_neg (by simp [h.refuse]), bytesV_small h1 h2]
  obtain ⟨m1, m2, -⟩ := gat_rdN (l := l) (size * count) (size * count + 1) 0 x S [] h (Nat.zero_add _) (Nat.zero_le _)
  unfold SS.bread
  rw [hw, if_neg (by simp)]
  simp only [Int.toNat_natCast, List.length_nil, Nat.sub_zero, List.drop_zero, List.nil_append] at m1 m2 ⊢
  refine ⟨m1, ?_, m2⟩
  rw [m1, List.length_take]
end Go.Proofs.Ytgbkhmiphaefgaa

/- Blocks: the law's num, alive. -/
namespace Go.Proofs.Ytgbkhmiphaefgaa
open Go.RowKit

theorem num16 (e : Int) (w : World) : Calls Try.prog 8 #[.int .i64 e] w fun r w' => r = .returned (.int .i64 e) ∧ w = w' := by
  go_enter Try.func8, Try.ntmps8
  go_wp2
  go_ret
  exact ⟨rfl, rfl⟩
def hello : List UInt8 := [104, 101, 108, 108, 111]
def qhX : SS := ⟨true, false, 3, 4, [], [], [], 1, true, false, false⟩
theorem qh_a : (xR 3 4).bread rdRm ⟨hello, hello.length, 0⟩ 2 3 = (qhX, [104, 101, 108, 108, 111], 2, 111, ⟨hello, hello.length, 5⟩) := by kernel_rfl
theorem by_big : bytesV 1099511627776 1099511627776 = (0, 4) := by kernel_rfl
set_option maxRecDepth 100000 in
set_option maxHeartbeats 8000000 in
theorem alive16 (w : World) : Calls Try.prog 9 #[] w fun e w' => e = .returned (.bool true) ∧ Below w.heap.size w w' := by
  have cl := conv_lit15 w #[.int .u8 104, .int .u8 101, .int .u8 108, .int .u8 108, .int .u8 111] 5 5 rfl
  have hb3 := lit_bys15 w hello #[.int .u8 104, .int .u8 101, .int .u8 108, .int .u8 108, .int .u8 111] 5 (5, 6) rfl rfl
  have hBl := (Below.refl _ w).alloc (Nat.le_refl _) (Obj.cells #[.int .u8 104, .int .u8 101, .int .u8 108, .int .u8 108, .int .u8 111] 5 (5, 6))
  have HN1 := hide (newReader_good _ hello _ hb3 (by decide))
  have HBl := hide hBl
  have hN := fun W => sNew_any moR 3 4 W
  rw [new_R, if_pos (by decide), if_pos (by decide)] at hN
  simp only at hN
  unfold mv at hN
  have HN := hide hN
  have hY := fun W => bbytes_any 1099511627776 1099511627776 W
  rw [by_big] at hY
  simp only at hY
  have HY := hide hY
  clear hN hb3 hBl hY
  go_enter Try.func9, Try.ntmps9
  go_wp2_with fail
  generalize w.alloc (Obj.cells #[.int .u8 104, .int .u8 101, .int .u8 108, .int .u8 108, .int .u8 111] 5 (5, 6)) = w0 at *
  refine HN1.out.mono ?_
  rintro _ w1 ⟨g, rfl, hM, hB⟩
  have HM := hide hM
  have HB := hide (HBl.out.trans (hB.mono HBl.out.size))
  have hz0 := HBl.out.size
  clear hM hB HN1 cl
  go_wp2_with fail
  refine (HN.out _).mono ?_
  rintro _ w2 ⟨rfl, hB2⟩
  have HM2 := hide (HM.out.below hB2)
  have HB2 := hide (HB.out.trans (hB2.mono HB.out.size))
  clear hB2 HM HB
  have HS2 := hide (StAt.new w2 (xR 3 4) (.slice none 0 0) (.slice none 0 0) (.slice none 0 0))
  have HB3 := hide (recv_below w2 (Obj.cells #[.bool (xR 3 4).rd, .bool (xR 3 4).wt, .int .i64 (xR 3 4).mode, .int .i64 (xR 3 4).size, .slice none 0 0, .slice none 0 0, .slice none 0 0, .int .i64 (xR 3 4).dir, .bool (xR 3 4).fin, .bool (xR 3 4).bad, .bool (xR 3 4).closed] 35))
  have HLV : Hid (LV (fun w O S => MemAt w O g S) (w2.alloc (Obj.cells #[.bool (xR 3 4).rd, .bool (xR 3 4).wt, .int .i64 (xR 3 4).mode, .int .i64 (xR 3 4).size, .slice none 0 0, .slice none 0 0, .slice none 0 0, .int .i64 (xR 3 4).dir, .bool (xR 3 4).fin, .bool (xR 3 4).bad, .bool (xR 3 4).closed] 35)) w.heap.size w2.heap.size (fun k => w0.heap.size ≤ k ∧ k < w2.heap.size) (xR 3 4) ⟨hello, hello.length, 0⟩ (.slice none (xR 3 4).out.length 0) (.slice none (xR 3 4).inn.length 0) (.slice none (xR 3 4).back.length 0)) := hide
    ⟨HS2.out, SIn.nils0 rfl rfl rfl, HM2.out.trim.below HB3.out, fun j e => Nat.lt_of_lt_of_le e.2 HB3.out.size, fun j e => by have := e.1; omega, fun e => by omega, HB2.out.size⟩
  have HTT : Hid (Turned (fun k => w.heap.size ≤ k) w (w2.alloc (Obj.cells #[.bool (xR 3 4).rd, .bool (xR 3 4).wt, .int .i64 (xR 3 4).mode, .int .i64 (xR 3 4).size, .slice none 0 0, .slice none 0 0, .slice none 0 0, .int .i64 (xR 3 4).dir, .bool (xR 3 4).fin, .bool (xR 3 4).bad, .bool (xR 3 4).closed] 35))) := hide ((Turned.of_below HB2.out).trans (Turned.of_below (S := fun k => w.heap.size ≤ k) HB3.out) (fun _ _ e => e))
  have hp := bread_any (rdr_raw g) (fun s => gmem_o g s) (bears_true rdRm) _ _ _ _ _ _ 2 3 HLV.out.ls HLV.out.raw HLV.out.ol trivial (by decide) (by decide) (by decide)
  rw [qh_a] at hp
  simp only at hp
  have HP := hide hp
  clear hp
  go_wp2_with (first | (go_at_call 8; refine (num16 _ _).mono ?_; rintro _ _ ⟨rfl, rfl⟩) | fail)
  generalize w2.alloc (Obj.cells #[.bool (xR 3 4).rd, .bool (xR 3 4).wt, .int .i64 (xR 3 4).mode, .int .i64 (xR 3 4).size, .slice none 0 0, .slice none 0 0, .slice none 0 0, .int .i64 (xR 3 4).dir, .bool (xR 3 4).fin, .bool (xR 3 4).bad, .bool (xR 3 4).closed] 35) = w3 at *
  have HSZ := hide HTT.out.size
  clear HS2 HB3 HM2 HN
  generalize w2.heap.size = gv at *
  refine HP.out.mono ?_
  rintro _ w10 ⟨o', i', b', uu, rfl, hS⟩
  obtain ⟨e1, e4, rfl, -⟩ := hS.choose_spec.1.1.so
  obtain ⟨e2, e5, rfl, -⟩ := hS.choose_spec.1.1.si
  obtain ⟨e3, e6, rfl, -⟩ := hS.choose_spec.1.1.sb
  obtain ⟨r1, r2, hu0⟩ := owns_slice hS.choose_spec.2.1
  have hu1 : uu = .slice r1 5 r2 := hu0
  subst hu1
  have ht : Turned _ w3 w10 := hS.choose_spec.1.2.2.2.2
  have HT10 : Hid (Turned (fun k => w.heap.size ≤ k) w w10) := hide (HTT.out.trans (ht.mono fun k e => HLV.out.ob k e) (fun _ _ e => e))
  have HB11 := recv_below w10 (Obj.cells #[.bool qhX.rd, .bool qhX.wt, .int .i64 qhX.mode, .int .i64 qhX.size, .slice e1 qhX.out.length e4, .slice e2 qhX.inn.length e5, .slice e3 qhX.back.length e6, .int .i64 qhX.dir, .bool qhX.fin, .bool qhX.bad, .bool qhX.closed] 35)
  have m1 : (convert 30 9 (.slice r1 5 r2)).run Try.prog (w10.alloc (Obj.cells #[.bool qhX.rd, .bool qhX.wt, .int .i64 qhX.mode, .int .i64 qhX.size, .slice e1 qhX.out.length e4, .slice e2 qhX.inn.length e5, .slice e3 qhX.back.length e6, .int .i64 qhX.dir, .bool qhX.fin, .bool qhX.bad, .bool qhX.closed] 35)) = .ok (.string ⟨#[104, 101, 108, 108, 111]⟩) (w10.alloc (Obj.cells #[.bool qhX.rd, .bool qhX.wt, .int .i64 qhX.mode, .int .i64 qhX.size, .slice e1 qhX.out.length e4, .slice e2 qhX.inn.length e5, .slice e3 qhX.back.length e6, .int .i64 qhX.dir, .bool qhX.fin, .bool qhX.bad, .bool qhX.closed] 35)) := owns_string (l := [104, 101, 108, 108, 111]) (owns_below hS.choose_spec.2.1 HB11)
  have HB12 := hide HB11
  clear hS ht hu0 HLV HTT HSZ HP HB11
  go_wp2_with fail
  refine (HY.out _).mono ?_
  rintro _ _ ⟨rfl, rfl⟩
  go_wp2_with (first | (go_at_call 8; refine (num16 _ _).mono ?_; rintro _ _ ⟨rfl, rfl⟩) | fail)
  go_ret
  exact ⟨rfl, (HT10.out.below (B := w.heap.size) (fun _ e => e) (Nat.le_refl _)).trans (HB12.out.mono HT10.out.size)⟩
end Go.Proofs.Ytgbkhmiphaefgaa

/- Bytes that came in as an argument: what a walk is told of them. -/
namespace Go.Proofs.Ytgbkhmiphaefgaa
open Go.ChangeShapes Go.WideShapes Go.ChangeAt Go.RowKit

end Go.Proofs.Ytgbkhmiphaefgaa

/- Bytes, and steps, that came in as an argument: what a walk is told of them. -/
namespace Go.Proofs.Ytgbkhmiphaefgaa
open Go.ChangeShapes Go.WideShapes Go.ChangeAt Go.RowKit Go.Deep

theorem bytes_arg2 {H : Type} {enc : TypeId × Value → H} {P : Program} {W : World} {base : Nat} {a : Option Addr} {len cap fuel t e : Nat} {d : DataW H} {p : List MemPlace}
    (ht : P.underlying t = some (.slice e)) (he : P.underlying e = some (.int .u8)) (hc : P.cellsOf e = 1)
    (hf : DataW.trod enc P W base (fun _ => true) true fuel t (Value.slice a len cap).cells.toList = some (d, p)) :
    ∃ l : List UInt8, Bys W (.slice a len cap) l ∧ l.length ≤ cap ∧ ((d = .nil ∧ l = []) ∨ ∃ elems spare : List (DataW H), d = .slice elems spare ∧ l.length = elems.length) := by
  rcases open_ints ht he hc hf with ⟨hcs, hd⟩ | ⟨x, n, c, zs, hcs, _, hl, hm, hz, hx, hcell, hwz⟩
  · simp [Value.cells] at hcs
    obtain ⟨rfl, rfl, rfl⟩ := hcs
    exact ⟨[], .inl ⟨rfl, rfl⟩, by simp, .inl ⟨(Prod.mk.inj hd).1, rfl⟩⟩
  · simp [Value.cells] at hcs
    obtain ⟨rfl, rfl, rfl⟩ := hcs
    simp only [if_true] at hz
    have hlen : ((zs.take len).map fun n => UInt8.ofNat n.toNat).length = len := by rw [List.length_map, List.length_take]; omega
    refine ⟨(zs.take len).map fun n => UInt8.ofNat n.toNat, ?_, by rw [hlen]; exact hl, .inr ⟨_, _, (Prod.mk.inj hx).1, by simp [lits]⟩⟩
    by_cases h0 : len = 0
    · subst h0
      exact .inr (.inl ⟨x, cap, rfl, by simp⟩)
    · obtain ⟨b, off, spot⟩ := x
      have hspot : spot = none := by simpa [Addr.add] using World.cell?_spot (hcell 0 (by omega))
      subst hspot
      refine .inr (.inr ⟨b, off, cap, by rw [hlen], by rw [hlen]; omega, fun j hj => ?_⟩)
      rw [hlen] at hj
      have h1 := hcell j (by omega)
      have hadd : (⟨b, off, none⟩ : Addr).add j = ⟨b, off + j, none⟩ := by unfold Addr.add; split <;> simp_all
      rw [hadd] at h1
      rw [h1]
      have hjz : j < zs.length := by omega
      have hb := bounds_u8 (hwz zs[j] (List.getElem_mem hjz))
      simp only [List.getD_eq_getElem?_getD, List.getElem?_map, List.getElem?_take, if_pos hj, List.getElem?_eq_getElem hjz, Option.map_some, Option.getD_some]
      rw [UInt8.toNat_ofNat_of_lt' (by show _ < 256; omega), Int.toNat_of_nonneg hb.1]



end Go.Proofs.Ytgbkhmiphaefgaa

/- Lines: stream.Put over a buffer: Out is an own row. -/
namespace Go.Proofs.Ytgbkhmiphaefgaa
open Go.RowKit

theorem out_moreO {w : World} {O : Nat → Prop} {B g : Nat} {x : SS} {o i b : Value} (c : UInt8) (hl : SIn w (fun k => B ≤ k ∧ ¬ O k ∧ k ≠ g ∧ k < w.heap.size) x o i b) (ho : w.ownsRow B 5 1 o x.out.length (x.out.map bv)) (hn : x.out.length ≤ 65536) (hB : B ≤ w.heap.size) (hO : ∀ j, O j → j < w.heap.size) (hg : g < w.heap.size)
    (hi : x.inn = []) (hb : x.back = []) :
    ∃ a k w2, (Builtin.append_ #[30, 30] 30 #[o, .slice (some ⟨w.heap.size, 0, none⟩) 1 1]).run Try.prog (w.alloc (Obj.cells #[.int .u8 (c.toNat : Int)] 5)) = .ok (.slice a (x.out ++ [c]).length k) w2 ∧
      SIn w2 (fun k => B ≤ k ∧ ¬ O k ∧ k ≠ g ∧ k < w2.heap.size) { x with out := x.out ++ [c] } (.slice a (x.out ++ [c]).length k) i b ∧ Turned (fun k => B ≤ k ∧ ¬ O k ∧ k ≠ g) w w2 ∧ w2.ownsRow B 5 1 (.slice a (x.out ++ [c]).length k) (x.out ++ [c]).length ((x.out ++ [c]).map bv) := by
  have hBa := recv_below w (Obj.cells #[.int .u8 (c.toNat : Int)] 5)
  have hz : (w.alloc (Obj.cells #[.int .u8 (c.toNat : Int)] 5)).heap.size = w.heap.size + 1 := Array.size_push ..
  obtain ⟨s', w2, hrun, HO, hgr, hbl⟩ := run_append_bytes (w.alloc (Obj.cells #[.int .u8 (c.toNat : Int)] 5)) 30 B o (.slice (some ⟨w.heap.size, 0, none⟩) 1 1) x.out [c] (owns_below ho hBa) (one_bys (cell_one_new _ _ _ 0 _ rfl)) (by simp; omega) (by omega)
  obtain ⟨a, k, rfl⟩ := owns_slice HO.out
  have hz2 := hgr.size
  have hTu : Turned (fun k => o.ownBlock = some k) w w2 := (Turned.of_below hBa).grown hgr (fun k e => .inl e)
  refine ⟨a, k, w2, hrun, ⟨Sl.own HO.out, by rw [hi]; exact (hi ▸ hl.si).empty, by rw [hb]; exact (hb ▸ hl.sb).empty, fun k e => ?_, fun k e => ?_, fun k e => ?_⟩, hTu.mono fun k e => ⟨(hl.po k e).1, (hl.po k e).2.1, (hl.po k e).2.2.1⟩, HO.out⟩
  · rcases hbl with e' | e'
    · have := hl.po k (by rw [← e', e])
      exact ⟨this.1, this.2.1, this.2.2.1, by omega⟩
    · rw [e'] at e
      obtain rfl := Option.some.inj e
      rw [hz]
      exact ⟨by omega, fun e2 => by have := hO _ e2; omega, by omega, by have := (HO.out.lt _ e').2; omega⟩
  · have := hl.pi k e
    exact ⟨this.1, this.2.1, this.2.2.1, by omega⟩
  · have := hl.pb k e
    exact ⟨this.1, this.2.1, this.2.2.1, by omega⟩
structure LaidO {S : Type} (At : World → (Nat → Prop) → S → Prop) (w : World) (O : Nat → Prop) (s : S) (B g : Nat) (x : SS) (o i b r : Value) (c : UInt8) (L : List UInt8) (a : Option Addr) (k : Nat) (w2 : World) : Prop where
  len : L.length = x.out.length + 1
  eq : L = x.out ++ [c]
  run : (Builtin.append_ #[30, 30] 30 #[o, .slice (some ⟨w.heap.size, 0, none⟩) 1 1]).run Try.prog (w.alloc (Obj.cells #[.int .u8 (c.toNat : Int)] 5)) = .ok (.slice a L.length k) w2
  d4 : w2.cell? ⟨g, 4, none⟩ = some o
  g4 : w2.frozen? ⟨g, 4, none⟩ = false
  on : On At (w2.setCell ⟨g, 4, none⟩ (.slice a L.length k)) O s B g { x with out := L } (.slice a L.length k) i b r
  tu : Turned (fun k => O k ∨ B ≤ k) w (w2.setCell ⟨g, 4, none⟩ (.slice a L.length k))
  own : (w2.setCell ⟨g, 4, none⟩ (.slice a L.length k)).ownsRow B 5 1 (.slice a L.length k) L.length (L.map bv)
theorem laid_anyO {S : Type} {At : World → (Nat → Prop) → S → Prop} (hT : ∀ s, OAt (fun w O => At w O s)) {w : World} {O : Nat → Prop} {s : S} {B g : Nat} {x : SS} {o i b r : Value} (c : UInt8) (h : On At w O s B g x o i b r) (ho : w.ownsRow B 5 1 o x.out.length (x.out.map bv)) (hn : x.out.length ≤ 65536) (hB : B ≤ w.heap.size) (hi : x.inn = []) (hb : x.back = []) :
    ∃ L a k w2, LaidO At w O s B g x o i b r c L a k w2 := by
  obtain ⟨a, k, w2, hrun, hIn, hTu, hOw⟩ := out_moreO c h.ls ho hn hB h.ol h.way.lt hi hb
  have hz := hTu.size
  have hW := h.way.turned hTu (fun e => e.2.2 rfl)
  have hR := (hT s).keep h.raw (fun j e hj => hTu.block j hj (fun e' => e'.2.1 e)) hz
  refine ⟨x.out ++ [c], a, k, w2, by simp, rfl, hrun, hW.cs.2.2.2.2.1, hW.soft 4, ?_, ?_, ?_⟩
  · have hWy := hW.set (x' := { x with out := x.out ++ [c] }) (o' := .slice a (x.out ++ [c]).length k) (i' := i) (b' := b) 4 (.slice a (x.out ++ [c]).length k) rfl
    have hz3 : (w2.setCell ⟨g, 4, none⟩ (.slice a (x.out ++ [c]).length k)).heap.size = w2.heap.size := by simp [World.setCell]
    have hT3 : Turned (fun k => k = g) w2 (w2.setCell ⟨g, 4, none⟩ (.slice a (x.out ++ [c]).length k)) := (Turned.refl (fun k => k = g) w2).set (.inl rfl)
    exact ⟨hWy, (hIn.turned hT3 fun k e _ => e.2.2.1).mono fun k e => ⟨e.1, e.2.1, e.2.2.1, by rw [hz3]; exact e.2.2.2⟩, (hT s).keep hR (fun j e hj => hT3.block j hj (fun e' => h.og (e' ▸ e))) hT3.size, h.og, h.gB, fun j e => by rw [hz3]; exact Nat.lt_of_lt_of_le (h.ol j e) hz⟩
  · exact (hTu.mono fun k e => .inr e.1).set (.inl (.inr h.gB))
  · exact owns_turned hOw ((Turned.refl (fun k => k = g) w2).set (.inl rfl)) (fun k e e' => (hIn.po k e).2.2.1 e')
def WStepO {S : Type} (At : World → (Nat → Prop) → S → Prop) (w : World) (O : Nat → Prop) (B g : Nat) (r : Value) (x : SS) (e : Int) (s : S) (w' : World) : Prop := ∃ o i b O', On At w' O' s B g x o i b r ∧ (∀ k, O' k → O k ∨ w.heap.size ≤ k) ∧ Turned (fun k => O k ∨ B ≤ k) w w' ∧ (e = 0 → w'.ownsRow B 5 1 o x.out.length (x.out.map bv))
theorem own_none {W : World} {B : Nat} {l : List UInt8} (h : Sl W (.slice none 0 0) l) : W.ownsRow B 5 1 (.slice none 0 0) l.length (l.map bv) := by
  obtain ⟨a, c, e, -⟩ := h
  have h0 : l.length = 0 := (Value.slice.inj e).2.1.symm
  obtain rfl := List.length_eq_zero_iff.1 h0
  exact World.ownsRow_nil _ _ _ _
set_option maxRecDepth 100000 in
set_option maxHeartbeats 4000000 in
theorem put_layO {S : Type} {D : RawD S} {T : TypeId} {v : Value} {fr fw : FuncId} {rok wok : S → Prop} {At : World → (Nat → Prop) → S → Prop} (R : RawM D T v fr fw rok wok At) (hT : ∀ s, OAt (fun w O => At w O s)) {w : World} {O : Nat → Prop} {s : S} {B g : Nat} {x : SS} {o i b : Value} (c : UInt8) (h : On At w O s B g x o i b (.iface T v)) (ho : w.ownsRow B 5 1 o x.out.length (x.out.map bv)) (hB : B ≤ w.heap.size) (hm : ¬ x.mode = 1) (hs : x.size ≤ 65536) (hf : (x.out.length : Int) < x.size) (hi : x.inn = []) (hb : x.back = []) (hok : putOk D wok (x.out ++ [c]) (putF (x.out ++ [c])) s 0 0) :
    Calls Try.prog 54 #[.pointer (some ⟨g, 0, none⟩), .int .u8 (c.toNat : Int)] w fun en w' => en = .returned (.int .i64 (x.lay D s c).2.1) ∧ WStepO At w O B g (.iface T v) (x.lay D s c).1 (x.lay D s c).2.1 (x.lay D s c).2.2 w' := by
  obtain ⟨oa, oc, rfl, -⟩ := h.ls.so
  have hgB := h.gB
  have HF0 := hide (isFull_any x g oa oc i b _ w h.way)
  have hne : decide ((x.out.length : Int) = x.size) = false := decide_eq_false (by omega)
  rw [hne] at HF0
  have HOn := hide h
  obtain ⟨c0, c1, c2, c3, c4, c5, c6, c7, c8, c9, c10, c11⟩ := h.way.cs
  have hm1 : (x.mode == 1) = false := by simp [hm]
  generalize hq : x.lay D s c = q
  obtain ⟨qx, qe, qs⟩ := q
  unfold SS.lay at hq
  have HOw := hide ho
  clear h ho hne c0 c1 c3 c4 c5 c6 c7 c8 c9 c10 c11
  go_enter Try.func54, Try.ntmps54
  go_wp2_with fail
  refine HF0.out.mono ?_
  rintro _ w1 ⟨rfl, hB1⟩
  have HOn1 := hide (On.below hT HOn.out hB1)
  have HT1 := hide (Turned.of_below (S := fun k => O k ∨ B ≤ k) hB1)
  have hs1 := hB1.size
  have hOw1 := owns_below HOw.out hB1
  clear hB1 c2
  obtain ⟨L, a, k, w2, hL⟩ := laid_anyO hT c HOn1.out hOw1 (by omega) (by omega) hi hb
  have HL := hide hL
  have HLl := hide hL.len
  have HLe := hide hL.eq
  rw [← hL.eq] at hok
  rw [← hL.eq] at hq
  have HOk := hide hok
  clear hL hOw1 hok
  have HR := hide HL.out.run
  have c4 := HOn1.out.way.cs.2.2.2.2.1
  have d4 := HL.out.d4
  have g4 := HL.out.g4
  go_wp2_with (first | (at_builtin; refine Lib.wpList_append_run _ rfl _ _ _ _ rfl _ _ rfl rfl _ _ HR.out ?_) | fail)
  refine (isFull_any _ g _ _ i b _ _ HL.out.on.way).mono ?_
  rintro _ w3 ⟨rfl, hB3⟩
  have HOn3 := hide (On.below hT HL.out.on hB3)
  have HOw3 := hide (owns_below HL.out.own hB3)
  have HT3 := hide ((HT1.out.trans HL.out.tu (fun _ _ e => e)).trans (Turned.of_below hB3) (fun _ _ e => e))
  have hs3 := hB3.size
  clear hB3 c4 d4 g4
  by_cases hfull : ((x.out.length + 1 : Nat) : Int) = x.size
  · rw [if_pos (.inl hfull)] at hq
    have HQ := hide hq
    rw [show decide ((L.length : Int) = x.size) = true from decide_eq_true (by have := HLl.out; omega)]
    clear hq
    go_wp2_with fail
    refine (deliver_any R hT HOn3.out (by show L.length ≤ 65536; have := HLl.out; omega) HOk.out).mono ?_
    rintro _ w4 ⟨rfl, o', O', hO4, hnl, hO5, hT4⟩
    have HOn4 := hide hO4
    have HNl := hide hnl
    have HO5 : Hid (∀ k, O' k → O k ∨ w.heap.size ≤ k) := hide (fun k e => (hO5 k e).imp id (fun e => by have := HT3.out.size; omega))
    have HT4 := hide (HT3.out.trans hT4 (fun k _ e => e.imp id (fun e => by omega)))
    clear hO4 hO5 hT4 hnl
    rw [HQ.out] at HOn4 HNl ⊢
    go_wp2
    go_ret
    exact ⟨rfl, _, _, _, O', HOn4.out, HO5.out, HT4.out, fun e => by have h9 := HOn4.out.ls.so; rw [HNl.out e] at h9 ⊢; exact own_none h9⟩
  have hfd : decide ((L.length : Int) = x.size) = false := decide_eq_false (by have := HLl.out; omega)
  rw [hfd]
  obtain ⟨c0, c1, c2, c3, c4, c5, c6, c7, c8, c9, c10, c11⟩ := HOn3.out.way.cs
  by_cases hl2 : x.mode = 2
  · by_cases hc : c = 10
    · rw [if_pos (.inr ⟨hl2, hc⟩)] at hq
      have HQ := hide hq
      have hcc : ((c.toNat : Int) == 10) = true := by rw [hc]; rfl
      have hce : (c.toNat : Int) = 10 := by rw [hc]; rfl
      rw [hl2] at c2
      clear hq hc hfd hm1 hm
      go_wp2_with fail
      refine (deliver_any R hT HOn3.out (by show L.length ≤ 65536; have := HLl.out; omega) HOk.out).mono ?_
      rintro _ w4 ⟨rfl, o', O', hO4, hnl, hO5, hT4⟩
      have HOn4 := hide hO4
      have HNl := hide hnl
      have HO5 : Hid (∀ k, O' k → O k ∨ w.heap.size ≤ k) := hide (fun k e => (hO5 k e).imp id (fun e => by have := HT3.out.size; omega))
      have HT4 := hide (HT3.out.trans hT4 (fun k _ e => e.imp id (fun e => by omega)))
      clear hO4 hO5 hT4 hnl c0 c1 c2 c3 c4 c5 c6 c7 c8 c9 c10 c11
      rw [HQ.out] at HOn4 HNl ⊢
      go_wp2
      go_ret
      exact ⟨rfl, _, _, _, O', HOn4.out, HO5.out, HT4.out, fun e => by have h9 := HOn4.out.ls.so; rw [HNl.out e] at h9 ⊢; exact own_none h9⟩
    · rw [if_neg (fun e => e.elim hfull (fun e => hc e.2))] at hq
      obtain ⟨rfl, rfl, rfl⟩ : { x with out := L } = qx ∧ 0 = qe ∧ s = qs := by simpa using hq
      have hcn : ¬ (c.toNat : Int) = 10 := fun e => hc (UInt8.toNat_inj.1 (by show c.toNat = 10; omega))
      have hcc : ((c.toNat : Int) == 10) = false := by simp only [beq_eq_false_iff_ne]; exact hcn
      rw [hl2] at c2
      clear hq hc hfd hm1 hm
      go_wp2
      go_ret
      exact ⟨rfl, _, _, _, O, HOn3.out, fun _ e => .inl e, HT3.out, fun _ => HOw3.out⟩
  · rw [if_neg (fun e => e.elim hfull (fun e => hl2 e.1))] at hq
    obtain ⟨rfl, rfl, rfl⟩ : { x with out := L } = qx ∧ 0 = qe ∧ s = qs := by simpa using hq
    have hm2 : (x.mode == 2) = false := by simp [hl2]
    clear hq hfd
    go_wp2
    go_ret
    exact ⟨rfl, _, _, _, O, HOn3.out, fun _ e => .inl e, HT3.out, fun _ => HOw3.out⟩
set_option maxRecDepth 100000 in
set_option maxHeartbeats 4000000 in
theorem put_fullO {S : Type} {D : RawD S} {T : TypeId} {v : Value} {fr fw : FuncId} {rok wok : S → Prop} {At : World → (Nat → Prop) → S → Prop} (R : RawM D T v fr fw rok wok At) (hT : ∀ s, OAt (fun w O => At w O s)) {w : World} {O : Nat → Prop} {s : S} {B g : Nat} {x : SS} {o i b : Value} (c : UInt8) (h : On At w O s B g x o i b (.iface T v)) (ho : w.ownsRow B 5 1 o x.out.length (x.out.map bv)) (hB : B ≤ w.heap.size) (hm : ¬ x.mode = 1) (hs : x.size ≤ 65536) (hf : (x.out.length : Int) = x.size) (h1 : 1 ≤ x.size) (hi : x.inn = []) (hb : x.back = []) (hok0 : putOk D wok x.out (putF x.out) s 0 0) (hok : (x.deliver D s).2.1 = 0 → putOk D wok [c] (putF [c]) (x.deliver D s).2.2 0 0) :
    Calls Try.prog 54 #[.pointer (some ⟨g, 0, none⟩), .int .u8 (c.toNat : Int)] w fun en w' => en = .returned (.int .i64 ((if (x.deliver D s).2.1 = 0 then (x.deliver D s).1.lay D (x.deliver D s).2.2 c else x.deliver D s)).2.1) ∧ WStepO At w O B g (.iface T v) ((if (x.deliver D s).2.1 = 0 then (x.deliver D s).1.lay D (x.deliver D s).2.2 c else x.deliver D s)).1 ((if (x.deliver D s).2.1 = 0 then (x.deliver D s).1.lay D (x.deliver D s).2.2 c else x.deliver D s)).2.1 ((if (x.deliver D s).2.1 = 0 then (x.deliver D s).1.lay D (x.deliver D s).2.2 c else x.deliver D s)).2.2 w' := by
  obtain ⟨oa, oc, rfl, -⟩ := h.ls.so
  have hgB := h.gB
  have HF0 := hide (isFull_any x g oa oc i b _ w h.way)
  have hne : decide ((x.out.length : Int) = x.size) = true := decide_eq_true hf
  rw [hne] at HF0
  have HOn := hide h
  obtain ⟨c0, c1, c2, c3, c4, c5, c6, c7, c8, c9, c10, c11⟩ := h.way.cs
  have hm1 : (x.mode == 1) = false := by simp [hm]
  generalize hq : (if (x.deliver D s).2.1 = 0 then (x.deliver D s).1.lay D (x.deliver D s).2.2 c else x.deliver D s) = q
  obtain ⟨qx, qe, qs⟩ := q
  have HDel := hide (fun (W : World) (hW : Below w.heap.size w W) => deliver_any R hT (On.below hT h hW) (by omega) hok0)
  have HDok := hide (deliver_ok D x s)
  obtain ⟨dx, de, ds, hd⟩ : ∃ dx de ds, x.deliver D s = (dx, de, ds) := ⟨_, _, _, rfl⟩
  rw [hd] at hq hok HDel HDok
  simp only at hq hok HDel HDok
  clear h ho hne hd hok0 c0 c1 c3 c4 c5 c6 c7 c8 c9 c10 c11
  go_enter Try.func54, Try.ntmps54
  go_wp2_with fail
  refine HF0.out.mono ?_
  rintro _ w1 ⟨rfl, hB1⟩
  have hs1 := hB1.size
  have HB1 := hide hB1
  clear hB1 c2
  go_wp2_with fail
  refine (HDel.out _ HB1.out).mono ?_
  rintro _ w2 ⟨rfl, o', O', hO4, hnil, hO5, hT4⟩
  have HOn2 := hide hO4
  have hs2 := hT4.size
  have HO5 : Hid (∀ k, O' k → O k ∨ w.heap.size ≤ k) := hide (fun k e => (hO5 k e).imp id (fun e => by omega))
  have HT2 := hide ((Turned.of_below (S := fun k => O k ∨ B ≤ k) HB1.out).trans hT4 (fun k _ e => e.imp id (fun e => by omega)))
  clear hO4 hO5 hT4
  by_cases hde : de = 0
  case neg =>
    rw [if_neg hde] at hq
    obtain ⟨rfl, rfl, rfl⟩ : dx = qx ∧ de = qe ∧ ds = qs := by simpa using hq
    have hd1 : (de != 0) = true := by simp [hde]
    clear hq
    go_wp2
    go_ret
    exact ⟨rfl, _, _, _, O', HOn2.out, HO5.out, HT2.out, fun e => absurd e hde⟩
  rw [if_pos hde] at hq
  obtain rfl := hnil hde
  have hdx := HDok.out hde
  subst hde hdx
  unfold SS.lay at hq
  have hok := hok rfl
  clear hnil
  obtain ⟨L, a, k, w2x, hL⟩ := laid_anyO hT c HOn2.out (World.ownsRow_nil _ _ _ _) (by simp) (by omega) hi hb
  have HL := hide hL
  have HLl := hide hL.len
  have HLe := hide hL.eq
  rw [show ([c] : List UInt8) = L from hL.eq.symm] at hok
  rw [← hL.eq] at hq
  have HOk := hide hok
  clear hL hok
  have HR := hide HL.out.run
  have c4 := HOn2.out.way.cs.2.2.2.2.1
  have d4 := HL.out.d4
  have g4 := HL.out.g4
  go_wp2_with (first | (at_builtin; refine Lib.wpList_append_run _ rfl _ _ _ _ rfl _ _ rfl rfl _ _ HR.out ?_) | fail)
  refine (isFull_any _ g _ _ i b _ _ HL.out.on.way).mono ?_
  rintro _ w3 ⟨rfl, hB3⟩
  have HOn3 := hide (On.below hT HL.out.on hB3)
  have HOw3 := hide (owns_below HL.out.own hB3)
  have HT3 := hide ((HT2.out.trans HL.out.tu (fun k _ e => e.elim (fun e => (HO5.out k e).imp id (fun e => Nat.le_trans hB e)) .inr)).trans (Turned.of_below hB3) (fun _ _ e => e))
  have hs3 := hB3.size
  clear hB3 c4 d4 g4
  by_cases hfull : ((([] : List UInt8).length + 1 : Nat) : Int) = x.size
  · rw [if_pos (.inl hfull)] at hq
    have HQ := hide hq
    rw [show decide ((L.length : Int) = x.size) = true from decide_eq_true (by have := HLl.out; simp only [List.length_nil] at *; omega)]
    clear hq
    go_wp2_with fail
    refine (deliver_any R hT HOn3.out (by show L.length ≤ 65536; have := HLl.out; simp only [List.length_nil] at this; omega) HOk.out).mono ?_
    rintro _ w4 ⟨rfl, o2, O2, hO4, hnl, hO6, hT4⟩
    have HOn4 := hide hO4
    have HNl := hide hnl
    have HO6 : Hid (∀ k, O2 k → O k ∨ w.heap.size ≤ k) := hide (fun k e => (hO6 k e).elim (fun e => HO5.out k e) (fun e => .inr (by have := HT3.out.size; omega)))
    have HT4 := hide (HT3.out.trans hT4 (fun k _ e => e.elim (fun e => (HO5.out k e).imp id (fun e => Nat.le_trans hB e)) (fun e => .inr (by omega))))
    clear hO4 hO6 hT4 hnl
    rw [HQ.out] at HOn4 HNl ⊢
    go_wp2
    go_ret
    exact ⟨rfl, _, _, _, O2, HOn4.out, HO6.out, HT4.out, fun e => by have h9 := HOn4.out.ls.so; rw [HNl.out e] at h9 ⊢; exact own_none h9⟩
  have hfd : decide ((L.length : Int) = x.size) = false := decide_eq_false (by have := HLl.out; simp only [List.length_nil] at *; omega)
  rw [hfd]
  obtain ⟨c0, c1, c2, c3, c4, c5, c6, c7, c8, c9, c10, c11⟩ := HOn3.out.way.cs
  by_cases hl2 : x.mode = 2
  · by_cases hc : c = 10
    · rw [if_pos (.inr ⟨hl2, hc⟩)] at hq
      have HQ := hide hq
      have hcc : ((c.toNat : Int) == 10) = true := by rw [hc]; rfl
      have hce : (c.toNat : Int) = 10 := by rw [hc]; rfl
      rw [hl2] at c2
      clear hq hc hfd hm1 hm
      go_wp2_with fail
      refine (deliver_any R hT HOn3.out (by show L.length ≤ 65536; have := HLl.out; simp only [List.length_nil] at this; omega) HOk.out).mono ?_
      rintro _ w4 ⟨rfl, o2, O2, hO4, hnl, hO6, hT4⟩
      have HOn4 := hide hO4
      have HNl := hide hnl
      have HO6 : Hid (∀ k, O2 k → O k ∨ w.heap.size ≤ k) := hide (fun k e => (hO6 k e).elim (fun e => HO5.out k e) (fun e => .inr (by have := HT3.out.size; omega)))
      have HT4 := hide (HT3.out.trans hT4 (fun k _ e => e.elim (fun e => (HO5.out k e).imp id (fun e => Nat.le_trans hB e)) (fun e => .inr (by omega))))
      clear hO4 hO6 hT4 hnl c0 c1 c2 c3 c4 c5 c6 c7 c8 c9 c10 c11
      rw [HQ.out] at HOn4 HNl ⊢
      go_wp2
      go_ret
      exact ⟨rfl, _, _, _, O2, HOn4.out, HO6.out, HT4.out, fun e => by have h9 := HOn4.out.ls.so; rw [HNl.out e] at h9 ⊢; exact own_none h9⟩
    · rw [if_neg (fun e => e.elim hfull (fun e => hc e.2))] at hq
      obtain ⟨rfl, rfl, rfl⟩ : { x with out := L } = qx ∧ 0 = qe ∧ ds = qs := by simpa using hq
      have hcn : ¬ (c.toNat : Int) = 10 := fun e => hc (UInt8.toNat_inj.1 (by show c.toNat = 10; omega))
      have hcc : ((c.toNat : Int) == 10) = false := by simp only [beq_eq_false_iff_ne]; exact hcn
      rw [hl2] at c2
      clear hq hc hfd hm1 hm
      go_wp2
      go_ret
      exact ⟨rfl, _, _, _, O', HOn3.out, HO5.out, HT3.out, fun _ => HOw3.out⟩
  · rw [if_neg (fun e => e.elim hfull (fun e => hl2 e.1))] at hq
    obtain ⟨rfl, rfl, rfl⟩ : { x with out := L } = qx ∧ 0 = qe ∧ ds = qs := by simpa using hq
    have hm2 : (x.mode == 2) = false := by simp [hl2]
    clear hq hfd
    go_wp2
    go_ret
    exact ⟨rfl, _, _, _, O', HOn3.out, HO5.out, HT3.out, fun _ => HOw3.out⟩
theorem wput_anyO {S : Type} {D : RawD S} {T : TypeId} {v : Value} {fr fw : FuncId} {rok wok : S → Prop} {At : World → (Nat → Prop) → S → Prop} (R : RawM D T v fr fw rok wok At) (hT : ∀ s, OAt (fun w O => At w O s)) {G : Nat → S → Prop} (hG : Bears D rok wok G) {w : World} {O : Nat → Prop} {s : S} {B g : Nat} {x : SS} {o i b : Value} (c : UInt8) (h : On At w O s B g x o i b (.iface T v)) (ho : w.ownsRow B 5 1 o x.out.length (x.out.map bv)) (hB : B ≤ w.heap.size) (h1 : 1 ≤ x.size) (hs : x.size ≤ 65536) (hf : (x.out.length : Int) ≤ x.size) (hi : x.inn = []) (hb : x.back = []) (hg : G 2 s) (hm : ¬ x.mode = 1) :
    (Calls Try.prog 54 #[.pointer (some ⟨g, 0, none⟩), .int .u8 (c.toNat : Int)] w fun en w' => en = .returned (.int .i64 (x.put1 D s c).2.1) ∧ WStepO At w O B g (.iface T v) (x.put1 D s c).1 (x.put1 D s c).2.1 (x.put1 D s c).2.2 w') ∧ G 0 (x.put1 D s c).2.2 := by
  unfold SS.put1
  rw [if_neg hm]
  by_cases he : (x.out.length : Int) = x.size
  · rw [if_pos he]
    have h0 := hG.put 1 s x.out hg (by omega)
    have h2 := hG.put 0 (x.deliver D s).2.2 [c] h0.2 (by simp)
    refine ⟨put_fullO R hT c h ho hB hm hs he h1 hi hb h0.1 (fun _ => h2.1), ?_⟩
    by_cases hd : (x.deliver D s).2.1 = 0
    · rw [if_pos hd, deliver_ok D x s hd]
      unfold SS.lay
      split
      · exact h2.2
      · exact hG.less _ _ h0.2
    · rw [if_neg hd]
      exact hG.less _ _ h0.2
  · rw [if_neg he]
    have h0 := hG.put 1 s (x.out ++ [c]) hg (by simp; omega)
    refine ⟨put_layO R hT c h ho hB hm hs (by omega) hi hb h0.1, ?_⟩
    unfold SS.lay
    split
    · exact hG.less _ _ h0.2
    · exact hG.less _ _ (hG.less _ _ hg)
set_option maxRecDepth 100000 in
set_option maxHeartbeats 4000000 in
theorem sPut_anyO {S : Type} {D : RawD S} {T : TypeId} {v : Value} {fr fw : FuncId} {rok wok : S → Prop} {At : World → (Nat → Prop) → S → Prop} (R : RawM D T v fr fw rok wok At) (hT : ∀ s, OAt (fun w O => At w O s)) {G : Nat → S → Prop} (hG : Bears D rok wok G) {w : World} {O P : Nat → Prop} {s : S} {x : SS} {o i b : Value} (c : UInt8) (h : SIn w P x o i b) (hA : At w O s) (hO : ∀ j, O j → j < w.heap.size) (hg : G 2 s) (ho : x.out.length ≤ 140737488351232) (hi : x.inn.length ≤ 140737488351232) (hb : x.back.length ≤ 140737488351232) (hn : x.noWrite = 0) (hmo : ¬ x.mode = 1) :
    Calls Try.prog 38 #[.agg #[.bool x.rd, .bool x.wt, .int .i64 x.mode, .int .i64 x.size, o, i, b, .int .i64 x.dir, .bool x.fin, .bool x.bad, .bool x.closed], .iface T v, .int .u8 (c.toNat : Int)] w fun e w' => ∃ o' i' b', e = .returned (.tuple #[.agg #[.bool (x.put D s c).1.rd, .bool (x.put D s c).1.wt, .int .i64 (x.put D s c).1.mode, .int .i64 (x.put D s c).1.size, o', i', b', .int .i64 (x.put D s c).1.dir, .bool (x.put D s c).1.fin, .bool (x.put D s c).1.bad, .bool (x.put D s c).1.closed], .int .i64 (x.put D s c).2.1]) ∧ SOut At w O (x.put D s c).1 (x.put D s c).2.2 o' i' b' w' ∧ ((x.put D s c).2.1 = 0 → w'.ownsRow w.heap.size 5 1 o' (x.put D s c).1.out.length ((x.put D s c).1.out.map bv)) := by
  have HWx := hide (fun (W : World) (hW : Below w.heap.size w W) => onWay_any x o i b P (.iface T v) W (h.below hW) ho hi hb (.inr ⟨T, v, rfl⟩))
  obtain ⟨oa, oc, rfl, -⟩ := h.so
  obtain ⟨ia, ic, rfl, -⟩ := h.si
  obtain ⟨ba, bc, rfl, -⟩ := h.sb
  clear h
  generalize hq : x.put D s c = q
  obtain ⟨qx, qe, qs⟩ := q
  unfold SS.put at hq
  go_enter Try.func38, Try.ntmps38
  go_wp2_with fail
  have HB0 := hide ((recv_below w (Obj.cells #[.bool x.rd, .bool x.wt, .int .i64 x.mode, .int .i64 x.size, .slice oa x.out.length oc, .slice ia x.inn.length ic, .slice ba x.back.length bc, .int .i64 x.dir, .bool x.fin, .bool x.bad, .bool x.closed] 35)).trans ((recv_below (w.alloc (Obj.cells #[.bool x.rd, .bool x.wt, .int .i64 x.mode, .int .i64 x.size, .slice oa x.out.length oc, .slice ia x.inn.length ic, .slice ba x.back.length bc, .int .i64 x.dir, .bool x.fin, .bool x.bad, .bool x.closed] 35)) (Obj.cells #[.bool false, .bool false, .int .i64 0, .int .i64 0, .slice none 0 0, .slice none 0 0, .slice none 0 0, .int .i64 0, .bool false, .bool false, .bool false] 35)).mono (recv_below w (Obj.cells #[.bool x.rd, .bool x.wt, .int .i64 x.mode, .int .i64 x.size, .slice oa x.out.length oc, .slice ia x.inn.length ic, .slice ba x.back.length bc, .int .i64 x.dir, .bool x.fin, .bool x.bad, .bool x.closed] 35)).size))
  have HZ0 : Hid (((w.alloc (Obj.cells #[.bool x.rd, .bool x.wt, .int .i64 x.mode, .int .i64 x.size, .slice oa x.out.length oc, .slice ia x.inn.length ic, .slice ba x.back.length bc, .int .i64 x.dir, .bool x.fin, .bool x.bad, .bool x.closed] 35)).alloc (Obj.cells #[.bool false, .bool false, .int .i64 0, .int .i64 0, .slice none 0 0, .slice none 0 0, .slice none 0 0, .int .i64 0, .bool false, .bool false, .bool false] 35)).heap[w.heap.size + 1]? = some (Obj.cells #[.bool false, .bool false, .int .i64 0, .int .i64 0, .slice none 0 0, .slice none 0 0, .slice none 0 0, .int .i64 0, .bool false, .bool false, .bool false] 35)) := hide (by have := heap_alloc_new (w.alloc (Obj.cells #[.bool x.rd, .bool x.wt, .int .i64 x.mode, .int .i64 x.size, .slice oa x.out.length oc, .slice ia x.inn.length ic, .slice ba x.back.length bc, .int .i64 x.dir, .bool x.fin, .bool x.bad, .bool x.closed] 35)) (Obj.cells #[.bool false, .bool false, .int .i64 0, .int .i64 0, .slice none 0 0, .slice none 0 0, .slice none 0 0, .int .i64 0, .bool false, .bool false, .bool false] 35); rw [show (w.alloc (Obj.cells #[.bool x.rd, .bool x.wt, .int .i64 x.mode, .int .i64 x.size, .slice oa x.out.length oc, .slice ia x.inn.length ic, .slice ba x.back.length bc, .int .i64 x.dir, .bool x.fin, .bool x.bad, .bool x.closed] 35)).heap.size = w.heap.size + 1 from Array.size_push ..] at this; exact this)
  generalize (w.alloc (Obj.cells #[.bool x.rd, .bool x.wt, .int .i64 x.mode, .int .i64 x.size, .slice oa x.out.length oc, .slice ia x.inn.length ic, .slice ba x.back.length bc, .int .i64 x.dir, .bool x.fin, .bool x.bad, .bool x.closed] 35)).alloc (Obj.cells #[.bool false, .bool false, .int .i64 0, .int .i64 0, .slice none 0 0, .slice none 0 0, .slice none 0 0, .int .i64 0, .bool false, .bool false, .bool false] 35) = w0 at *
  have hz0 : w.heap.size + 1 < w0.heap.size := (Array.getElem?_eq_some_iff.1 HZ0.out).1
  refine (HWx.out _ HB0.out).mono ?_
  rintro _ w1 ⟨g, o1, i1, b1, rfl, y1, y2, y3, y4, y5, y6, hB1⟩
  obtain ⟨a1, k1, rfl⟩ := owns_slice y3
  obtain ⟨a2, k2, rfl⟩ := owns_slice y4
  obtain ⟨a3, k3, rfl⟩ := owns_slice y5
  have HOn1 := hide (On.begin hT ((hT s).keep hA (fun j _ hj => HB0.out.block j hj) HB0.out.size) (fun j e => Nat.lt_of_lt_of_le (hO j e) HB0.out.size) y1 y2 y3 y4 y5 y6 hB1)
  have HTu := hide (turnToWriting_any x g a1 a2 a3 k1 k2 k3 T v w1 y1 hi hb)
  have HOw := hide y3
  have HB1 := hide hB1
  have hz1 := hB1.size
  clear y1 y2 y3 y4 y5 y6 hB1 HWx
  go_wp2_with fail
  refine HTu.out.mono ?_
  rintro _ w2 ⟨rfl, hW2, hT2⟩
  rw [if_pos hn] at hq hW2
  rw [hn]
  have hOn2 := On.at hT HOn1.out hW2 hT2 (HOn1.out.ls.kin rfl rfl rfl)
  obtain ⟨m1, m2, m3, m4, m5, m6, m7, m8⟩ := may_buf (refuse_may (noWrite_may hn).1).1
  obtain ⟨n1, n2⟩ := noWrite_none hn
  have hown := owns_turned HOw.out hT2 (fun k e e' => (HOn1.out.ls.po k e).2.2.1 e')
  have hz2 := hT2.size
  have HP := hide (wput_anyO R hT hG c hOn2 hown (by omega) m3 m4 m5 n1 n2 hg hmo).1
  rw [hq] at HP
  have HT2 := hide (hT2.mono fun k e => (.inr (by have := HOn1.out.gB; omega) : O k ∨ w0.heap.size ≤ k))
  clear hOn2 hown hW2 hT2 hq m1 m2 m3 m4 m5 m6 m7 m8 n1 n2 hn
  go_wp2_with fail
  refine HP.out.mono ?_
  rintro _ w3 ⟨rfl, o3, i3, b3, O3, hOn3, hO3, hT3, hw3⟩
  obtain ⟨a4, k4, rfl, -⟩ := hOn3.ls.so
  obtain ⟨a5, k5, rfl, -⟩ := hOn3.ls.si
  obtain ⟨a6, k6, rfl, -⟩ := hOn3.ls.sb
  obtain ⟨c0, c1, c2, c3, c4, c5, c6, c7, c8, c9, c10, c11⟩ := hOn3.way.cs
  have hT13 := HT2.out.trans hT3 (fun _ _ e => e)
  have HF := hide (On.out hOn3 HB1.out (fun k e => (hO3 k e).imp id (fun e => by omega)) hT13)
  have HZ3 := hide ((hT13.block (w.heap.size + 1) (by omega) (fun e => by rcases e with e | e; exact absurd (hO _ e) (by omega); omega)).trans ((HB1.out.block (w.heap.size + 1) hz0).trans HZ0.out))
  have HW3 := hide hw3
  clear hOn3 hO3 hT3 hT13 hw3
  have z0 := cell_of_row w3 (w.heap.size + 1) 0 _ _ _ HZ3.out
  have z1 := cell_of_row w3 (w.heap.size + 1) 1 _ _ _ HZ3.out
  have z2 := cell_of_row w3 (w.heap.size + 1) 2 _ _ _ HZ3.out
  have z3 := cell_of_row w3 (w.heap.size + 1) 3 _ _ _ HZ3.out
  have z4 := cell_of_row w3 (w.heap.size + 1) 4 _ _ _ HZ3.out
  have z5 := cell_of_row w3 (w.heap.size + 1) 5 _ _ _ HZ3.out
  have z6 := cell_of_row w3 (w.heap.size + 1) 6 _ _ _ HZ3.out
  have z7 := cell_of_row w3 (w.heap.size + 1) 7 _ _ _ HZ3.out
  have z8 := cell_of_row w3 (w.heap.size + 1) 8 _ _ _ HZ3.out
  have z9 := cell_of_row w3 (w.heap.size + 1) 9 _ _ _ HZ3.out
  have z10 := cell_of_row w3 (w.heap.size + 1) 10 _ _ _ HZ3.out
  have u0 := frozen_of_row w3 (w.heap.size + 1) 0 _ _ HZ3.out
  have u1 := frozen_of_row w3 (w.heap.size + 1) 1 _ _ HZ3.out
  have u2 := frozen_of_row w3 (w.heap.size + 1) 2 _ _ HZ3.out
  have u3 := frozen_of_row w3 (w.heap.size + 1) 3 _ _ HZ3.out
  have u4 := frozen_of_row w3 (w.heap.size + 1) 4 _ _ HZ3.out
  have u5 := frozen_of_row w3 (w.heap.size + 1) 5 _ _ HZ3.out
  have u6 := frozen_of_row w3 (w.heap.size + 1) 6 _ _ HZ3.out
  have u7 := frozen_of_row w3 (w.heap.size + 1) 7 _ _ HZ3.out
  have u8 := frozen_of_row w3 (w.heap.size + 1) 8 _ _ HZ3.out
  have u9 := frozen_of_row w3 (w.heap.size + 1) 9 _ _ HZ3.out
  have u10 := frozen_of_row w3 (w.heap.size + 1) 10 _ _ HZ3.out
  simp at z0 z1 z2 z3 z4 z5 z6 z7 z8 z9 z10
  go_wp2
  obtain ⟨e1, e2⟩ := st_fill w3 (w.heap.size + 1) qx (.slice a4 qx.out.length k4) (.slice a5 qx.inn.length k5) (.slice a6 qx.back.length k6) HZ3.out
  refine bodyPost_ret (res_two rfl _ (w.heap.size + 1) rfl qx _ _ _ e1) rfl ?_
  exact ⟨_, _, _, rfl, SOut.fin hT HF.out HB0.out hz0 (Nat.le_succ _) hO e2, fun e => owns_mono (owns_turned (HW3.out e) e2 (fun k e3 e4 => by have := ((HW3.out e).lt k e3).1; have e4 : k = w.heap.size + 1 := e4; omega)) (by omega)⟩
end Go.Proofs.Ytgbkhmiphaefgaa

/- Lines: Put, as values. -/
namespace Go.Proofs.Ytgbkhmiphaefgaa
open Go.RowKit

def shutD {S : Type} (D : RawD S) : RawD S := ⟨D.read, fun s _ => (0, 52, s)⟩
theorem shut_put {S : Type} (D : RawD S) (s : S) (bs : List UInt8) (h : bs ≠ []) (n : Nat) : putV (shutD D) bs (n + 1) s 0 0 = (0, 52, s) := by
  have hl : 0 < bs.length := List.length_pos_iff.2 h
  have h9 : ¬ (bs.length : Int) < 0 := by omega
  unfold putV
  simp [shutD, hl, h9]
theorem putF_pos (bs : List UInt8) (h : bs ≠ []) : ∃ n, putF bs = n + 1 := by
  have hl : 0 < bs.length := List.length_pos_iff.2 h
  refine ⟨putF bs - 1, ?_⟩
  have : 0 < putF bs := by unfold putF; omega
  omega
theorem shut_all {S : Type} (D : RawD S) (s : S) (bs : List UInt8) (h : bs ≠ []) : putV (shutD D) bs (putF bs) s 0 0 = (0, 52, s) := by
  obtain ⟨n, hn⟩ := putF_pos bs h
  rw [hn, shut_put D s bs h n]
theorem shut_deliver {S : Type} (D : RawD S) (x : SS) (s : S) (h : x.out ≠ []) : x.deliver (shutD D) s = (x, 52, s) := by
  unfold SS.deliver
  rw [shut_all D s x.out h]
  rfl
theorem shut_says {S : Type} (D : RawD S) (x : SS) (s : S) (c : UInt8) (h : x.noWrite = 0) : ((x.put (shutD D) s c).2.1 = 0 ∨ (x.put (shutD D) s c).2.1 = 52) ∧ (x.put (shutD D) s c).2.2 = s ∧ (x.mode = 1 → (x.put (shutD D) s c).1 = { x with dir := 2 }) := by
  unfold SS.put
  rw [if_pos h]
  unfold SS.put1
  by_cases hm : x.mode = 1
  · rw [if_pos hm, shut_all D s [c] (by simp)]
    exact ⟨.inr rfl, rfl, fun _ => rfl⟩
  have hmay := (wr_may h).1
  obtain ⟨-, -, m3, -⟩ := may_buf hmay
  have hlay : ∀ y : SS, ((y.lay (shutD D) s c).2.1 = 0 ∨ (y.lay (shutD D) s c).2.1 = 52) ∧ (y.lay (shutD D) s c).2.2 = s := fun y => by
    unfold SS.lay
    split
    · rw [shut_deliver D _ s (by simp)]
      exact ⟨.inr rfl, rfl⟩
    · exact ⟨.inl rfl, rfl⟩
  rw [if_neg hm]
  split
  · rename_i hf
    have hf : (x.out.length : Int) = x.size := hf
    have hd := shut_deliver D { x with dir := 2 } s (fun e => by
      have e : x.out = [] := e
      rw [e] at hf
      have m3 : 1 ≤ x.size := m3
      simp at hf
      omega)
    rw [hd]
    rw [if_neg (by simp)]
    exact ⟨.inr rfl, rfl, fun e => absurd e hm⟩
  · exact ⟨(hlay _).1, (hlay _).2, fun e => absurd e hm⟩
theorem noWrite_odd (x : SS) : x.noWrite ≠ 52 := by
  unfold SS.noWrite SS.refuse
  repeat' split
  all_goals first | omega | decide
def puts {S : Type} (D : RawD S) : SS → S → List UInt8 → Nat → SS × Nat × Int × S
  | x, s, [], k => (x, k, 0, s)
  | x, s, c :: t, k => if (x.put D s c).2.1 = 0 then puts D (x.put D s c).1 (x.put D s c).2.2 t (k + 1) else ((x.put D s c).1, k + 1, (x.put D s c).2.1, (x.put D s c).2.2)
def SS.room {S : Type} (D : RawD S) (x : SS) (s : S) : SS × Int × S := if (x.out.length : Int) < x.size then (x, 0, s) else x.flush D s
def SS.through {S : Type} (D : RawD S) (x : SS) (s : S) (bs : List UInt8) : SS × Nat × Int × S :=
  if (x.room D s).2.1 = 0 then puts D (x.room D s).1 (x.room D s).2.2 bs 0 else ((x.room D s).1, 0, (x.room D s).2.1, (x.room D s).2.2)
def SS.once {S : Type} (D : RawD S) (x : SS) (s : S) (bs : List UInt8) : SS × Nat × Int × S :=
  (x.mark (putV D bs (putF bs) s 0 0).2.1, (putV D bs (putF bs) s 0 0).1, (putV D bs (putF bs) s 0 0).2.1, (putV D bs (putF bs) s 0 0).2.2)
structure Wg (x : SS) : Prop where
  may : x.may = true
  wt : x.wt = true
  dir : x.dir = 2
  mode : x.mode ≠ 1
theorem Wg.noWrite {x : SS} (h : Wg x) : x.noWrite = 0 := by
  obtain ⟨-, -, -, -, -, -, -, -, h9⟩ := (may_iff x).1 h.may
  have hc : x.closed = false := by
    rcases h9 with ⟨a, -⟩ | ⟨a, -⟩ | ⟨-, -, -, d⟩
    · rw [h.dir] at a; omega
    · rw [h.dir] at a; omega
    · exact d
  have hr : x.refuse true = 0 := by
    unfold SS.refuse
    rw [if_neg (by simp [h.may]), if_neg (by simp), if_neg (by simp [hc])]
  unfold SS.noWrite
  rw [if_neg (by simp [hr]), if_neg (by simp [h.wt]), if_neg (by rw [h.dir]; omega)]
theorem Wg.one {S : Type} (D : RawD S) {x : SS} (h : Wg x) (s : S) (c : UInt8) (hl : (x.out.length : Int) + 1 < x.size) (hn : x.mode = 2 → c ≠ 10) : x.put D s c = ({ x with out := x.out ++ [c] }, 0, s) ∧ Wg { x with out := x.out ++ [c] } := by
  have hx : ({ x with dir := 2 } : SS) = x := by obtain ⟨a, b, m, z, o, i, k, d, e, f, g⟩ := x; have := h.dir; simp only at this; subst this; rfl
  constructor
  · unfold SS.put
    rw [if_pos h.noWrite, hx]
    unfold SS.put1
    rw [if_neg h.mode, if_neg (by omega)]
    unfold SS.lay
    rw [if_neg (by
      rintro (e | ⟨e1, e2⟩)
      · omega
      · exact hn e1 e2)]
  · obtain ⟨h1, h2, h3, h4, h5, h6, h7, h8, h9⟩ := (may_iff x).1 h.may
    refine ⟨(may_iff _).2 ⟨h1, h2, h3, h4, by simp only [List.length_append, List.length_cons, List.length_nil]; omega, fun e => absurd e h.mode, h7, h8, ?_⟩, h.wt, h.dir, h.mode⟩
    rcases h9 with ⟨a, -⟩ | ⟨a, -⟩ | a
    · rw [h.dir] at a; omega
    · rw [h.dir] at a; omega
    · exact .inr (.inr a)
theorem puts_quiet {S : Type} (D : RawD S) (s : S) : ∀ (n : Nat) (x : SS) (t : List UInt8) (k : Nat), Wg x → n ≤ t.length → (x.out.length : Int) + n < x.size → (x.mode = 2 → (10 : UInt8) ∉ t.take n) →
    puts D x s t k = puts D { x with out := x.out ++ t.take n } s (t.drop n) (k + n) ∧ Wg { x with out := x.out ++ t.take n }
  | 0, x, t, k, h, _, _, _ => by
    simp only [List.take_zero, List.append_nil, List.drop_zero, Nat.add_zero]
    exact ⟨trivial, h⟩
  | n + 1, x, [], k, h, h1, _, _ => by simp at h1
  | n + 1, x, c :: t, k, h, h1, h2, h3 => by
    obtain ⟨e1, e2⟩ := h.one D s c (by omega) (fun e ec => h3 e (by rw [ec]; simp))
    have ih := puts_quiet D s n { x with out := x.out ++ [c] } t (k + 1) e2 (by simpa using h1) (by simp only [List.length_append, List.length_cons, List.length_nil]; omega) (fun e => fun hm => h3 e (by simp only [List.take_succ_cons, List.mem_cons]; exact .inr hm))
    simp only [List.take_succ_cons, List.drop_succ_cons]
    simp only [List.append_assoc, List.singleton_append] at ih
    refine ⟨?_, ih.2⟩
    rw [show k + (n + 1) = k + 1 + n by omega, ← ih.1]
    show (if (x.put D s c).2.1 = 0 then _ else _) = _
    rw [e1]
    rfl
end Go.Proofs.Ytgbkhmiphaefgaa

/- Buffers' modes, as values: which writes a text makes, how many reads there are. -/
namespace Go.Proofs.Ytgbkhmiphaefgaa

end Go.Proofs.Ytgbkhmiphaefgaa

/- Buffers' modes: what the small functions answer. -/
namespace Go.Proofs.Ytgbkhmiphaefgaa
open Go.RowKit

theorem bytesOf_map (l : List UInt8) : Lib.bytesOf (l.map fun c => (c.toNat : Int)) = l := by
  unfold Lib.bytesOf
  rw [List.map_map]
  conv => rhs; rw [← List.map_id l]
  apply List.map_congr_left
  intro c _
  simp
set_option maxHeartbeats 1000000 in
set_option maxRecDepth 100000 in
theorem bindex_any (b o c : Nat) (l : List UInt8) (w : World) (h : ∀ j, j < l.length → w.cell? ⟨b, o + j, none⟩ = some (.int .u8 ((l.getD j 0).toNat : Int))) :
    Calls Try.prog 82 #[.slice (some ⟨b, o, none⟩) l.length c, .int .u8 10] w fun e w' => e = .returned (.int .i64 (Lib.indexByte l 10)) ∧ w' = w := by
  have HR := hide (Lib.run_indexByteSlice (P := Try.prog) w b o l.length c (l.map fun c => (c.toNat : Int)) (by simp) (fun i hi => by
    rw [h i hi]
    congr 2
    simp [List.getD_eq_getElem?_getD, List.getElem?_eq_getElem hi]) 10)
  rw [bytesOf_map, show ((10 : Int).toNat.toUInt8) = (10 : UInt8) from rfl] at HR
  clear h
  go_enter Try.func82, Try.ntmps82
  go_wp2
  rw [run_callFunc_extern Try.func86 (by kernel_rfl) (by kernel_rfl) (by kernel_rfl) (e := Extern.BytealgIndexByte.indexByte) (by kernel_rfl), HR.out]
  simp only [Result.andThen]
  rw [Oper.upon_value]
  go_wp2
  go_ret
  exact ⟨rfl, rfl⟩

end Go.Proofs.Ytgbkhmiphaefgaa

/- Lines: quiet. -/
namespace Go.Proofs.Ytgbkhmiphaefgaa
open Go.RowKit

theorem idx_not : ∀ l : List UInt8, (Lib.indexByte l 10 < 0 → (10 : UInt8) ∉ l) ∧ (0 ≤ Lib.indexByte l 10 → (10 : UInt8) ∉ l.take (Lib.indexByte l 10).toNat ∧ Lib.indexByte l 10 ≤ (l.length : Int))
  | [] => ⟨fun _ => by simp, fun h => by simp [Lib.indexByte] at h⟩
  | c :: l => by
    obtain ⟨h1, h2⟩ := idx_not l
    have hg := Lib.indexByte_ge l 10
    unfold Lib.indexByte
    by_cases hc : c = 10
    · subst hc
      simp
      omega
    · have hc2 : (c == 10) = false := by simpa using hc
      rw [hc2]
      simp only [Bool.false_eq_true, if_false]
      by_cases hq : Lib.indexByte l 10 = -1
      · rw [hq]
        simp only [beq_self_eq_true, if_true]
        refine ⟨fun _ => ?_, fun h => by omega⟩
        simp only [List.mem_cons, not_or]
        exact ⟨fun e => hc e.symm, h1 (by omega)⟩
      · have hq2 : (Lib.indexByte l 10 == -1) = false := by simpa using hq
        rw [hq2]
        simp only [Bool.false_eq_true, if_false]
        refine ⟨fun h => by omega, fun _ => ?_⟩
        obtain ⟨h3, h4⟩ := h2 (by omega)
        rw [show (Lib.indexByte l 10 + 1).toNat = (Lib.indexByte l 10).toNat + 1 by omega, List.take_succ_cons]
        simp only [List.mem_cons, not_or, List.length_cons]
        exact ⟨⟨fun e => hc e.symm, h3⟩, by omega⟩
def quietN (x : SS) (t : List UInt8) : Nat := min t.length (x.size.toNat - 1 - x.out.length)
def quietV (x : SS) (t : List UInt8) : Nat := if x.mode = 2 ∧ 0 ≤ Lib.indexByte (t.take (quietN x t)) 10 then (Lib.indexByte (t.take (quietN x t)) 10).toNat else quietN x t
theorem quiet_is (x : SS) (t : List UInt8) (hl : (x.out.length : Int) < x.size) : quietV x t ≤ t.length ∧ (x.out.length : Int) + quietV x t < x.size ∧ (x.mode = 2 → (10 : UInt8) ∉ t.take (quietV x t)) := by
  have hn : quietN x t ≤ t.length ∧ (x.out.length : Int) + quietN x t < x.size := by unfold quietN; omega
  obtain ⟨h1, h2⟩ := idx_not (t.take (quietN x t))
  unfold quietV
  split
  · rename_i h
    obtain ⟨h3, h4⟩ := h2 h.2
    rw [List.length_take] at h4
    refine ⟨by omega, by omega, fun _ => ?_⟩
    rw [List.take_take, show min (Lib.indexByte (t.take (quietN x t)) 10).toNat (quietN x t) = (Lib.indexByte (t.take (quietN x t)) 10).toNat by omega] at h3
    exact h3
  · rename_i h
    refine ⟨hn.1, hn.2, fun e => h1 ?_⟩
    by_cases h0 : 0 ≤ Lib.indexByte (t.take (quietN x t)) 10
    · exact absurd ⟨e, h0⟩ h
    · omega
set_option maxRecDepth 100000 in
set_option maxHeartbeats 4000000 in
theorem quiet_any (x : SS) (oa : Option Addr) (oc : Nat) (i b : Value) (t : List UInt8) (tb tq tc : Nat) (w : World) (hs : x.size ≤ 65536) (hl : (x.out.length : Int) < x.size) (ht : t.length ≤ 1048576) (htc : t.length ≤ tc) (hc : ∀ j, j < t.length → w.cell? ⟨tb, tq + j, none⟩ = some (.int .u8 ((t.getD j 0).toNat : Int))) :
    Calls Try.prog 57 #[.agg #[.bool x.rd, .bool x.wt, .int .i64 x.mode, .int .i64 x.size, .slice oa x.out.length oc, i, b, .int .i64 x.dir, .bool x.fin, .bool x.bad, .bool x.closed], .slice (some ⟨tb, tq, none⟩) t.length tc] w fun e w' => e = .returned (.int .i64 (quietV x t)) ∧ Below w.heap.size w w' := by
  obtain ⟨n, hn⟩ : ∃ n, n = quietN x t := ⟨_, rfl⟩
  have hnl : n ≤ t.length ∧ (n : Int) ≤ x.size - 1 - x.out.length ∧ min (t.length : Int) (x.size - 1 - x.out.length) = (n : Int) := by rw [hn]; unfold quietN; omega
  obtain ⟨n1, n2, hm⟩ := hnl
  have e1 : wrap64 (x.size - 1) = x.size - 1 := by unfold wrap64; omega
  have e2 : wrap64 (x.size - 1 - x.out.length) = x.size - 1 - x.out.length := by unfold wrap64; omega
  have hB := recv_below w (Obj.cells #[.bool x.rd, .bool x.wt, .int .i64 x.mode, .int .i64 x.size, .slice oa x.out.length oc, i, b, .int .i64 x.dir, .bool x.fin, .bool x.bad, .bool x.closed] 35)
  have hlen : (t.take n).length = n := by rw [List.length_take]; omega
  have HI0 := bindex_any tb tq tc (t.take n) (w.alloc (Obj.cells #[.bool x.rd, .bool x.wt, .int .i64 x.mode, .int .i64 x.size, .slice oa x.out.length oc, i, b, .int .i64 x.dir, .bool x.fin, .bool x.bad, .bool x.closed] 35)) (fun j hj => by
    rw [hlen] at hj
    have h9 := hc j (by omega)
    rw [show (t.take n).getD j 0 = t.getD j 0 by rw [List.getD_eq_getElem?_getD, List.getD_eq_getElem?_getD, List.getElem?_take_of_lt hj]]
    exact (hB.cell (World.block_lt_of_cell? w _ h9)).trans h9)
  rw [hlen] at HI0
  have HI := hide HI0
  have HB := hide hB
  have hV : quietV x t = if x.mode = 2 ∧ 0 ≤ Lib.indexByte (t.take n) 10 then (Lib.indexByte (t.take n) 10).toNat else n := by unfold quietV; rw [hn]
  have hnc : (n : Int) ≤ (tc : Int) := by omega
  have hn0 : (0 : Int) ≤ (n : Int) := by omega
  obtain ⟨q, hq⟩ : ∃ q, q = Lib.indexByte (t.take n) 10 := ⟨_, rfl⟩
  rw [← hq] at hV HI
  generalize hr : quietV x t = r at *
  have HV := hide hV
  clear hV hr hn hlen HI0 hc hB hq n1 n2 ht htc hs hl
  by_cases h2 : x.mode = 2
  · have hm2 : (x.mode == 2) = true := by simp [h2]
    have hm3 : (x.mode != 2) = false := by simp [h2]
    by_cases h3 : 0 ≤ q
    · have HR : Hid (q = (r : Int)) := hide (by rw [HV.out, if_pos ⟨h2, h3⟩]; omega)
      have hq1 : decide ((0 : Int) ≤ q) = true := decide_eq_true h3
      clear HV h2
      go_enter Try.func57, Try.ntmps57
      go_wp2_with (first | (go_at_call 82; refine HI.out.mono ?_; rintro _ _ ⟨rfl, rfl⟩) | fail)
      go_ret
      exact ⟨ret_int HR.out, HB.out⟩
    · have HR : Hid ((n : Int) = (r : Int)) := hide (by rw [HV.out, if_neg (fun e => h3 e.2)])
      have hq1 : decide ((0 : Int) ≤ q) = false := decide_eq_false h3
      clear HV h2
      go_enter Try.func57, Try.ntmps57
      go_wp2_with (first | (go_at_call 82; refine HI.out.mono ?_; rintro _ _ ⟨rfl, rfl⟩) | fail)
      go_ret
      exact ⟨ret_int HR.out, HB.out⟩
  · have HR : Hid ((n : Int) = (r : Int)) := hide (by rw [HV.out, if_neg (fun e => h2 e.1)])
    have hm2 : (x.mode == 2) = false := by simp [h2]
    have hm3 : (x.mode != 2) = true := by simp [h2]
    clear HV
    go_enter Try.func57, Try.ntmps57
    go_wp2_with fail
    go_ret
    exact ⟨ret_int HR.out, HB.out⟩
end Go.Proofs.Ytgbkhmiphaefgaa

/- What the proof stands on, part 8: the contracts of the program's calls that it reaches. -/
import Derived.Test.YtmogciopaffccaaKG7
import Derived.KernelRfl
import Derived.Lib.SlBytesConst
import Derived.ProofKit
import Derived.OpenShut
import Derived.ChangeArms
import Derived.ChangeSlices
import Derived.SizedLaws
import Derived.Deep.Slices
import Derived.Deep.DeepCutAuto
/- Lines over a memory that is read: values, and the memory as a Raw. -/
namespace Go.Proofs.Ytmogciopaffccaa
open Go.RowKit

def rdR : RawD MS := ⟨fun S n => S.read n, fun S _ => (0, 65, S)⟩
theorem rdr_raw (g : Nat) : RawM rdR 24 (.pointer (some ⟨g, 0, none⟩)) 100 101 (fun _ => True) (fun _ => True) (fun w O S => MemAt w O g S) where
  mread w := by kernel_rfl
  mwrite w := by kernel_rfl
  cread a w := by kernel_rfl
  cwrite a w := by kernel_rfl
  keep h hk _ := h.keep hk
  few {w O s} n h := by
    have := h.ok
    show (s.read n).1.length ≤ _
    unfold MS.read
    split
    · have := piece_le s.l s.pl (n : Int).toNat
      simp only
      omega
    · simp
  read n h _ _ _ := (rmread_any _ g _ n _ h).mono fun _ _ e => view_own e
  write bs a c h _ hb hc _ _ hap := (rmwrite_any _ g _ _ _ h).mono fun _ w' e => ⟨e.1, _, e.2 ▸ h, fun _ e => .inl e, e.2 ▸ Turned.refl _ _⟩
structure RdR (x : SS) (S : MS) (l : List UInt8) (k : Nat) : Prop where
  rd : x.rd = true
  m1 : 1 ≤ x.mode
  m3 : x.mode ≤ 3
  s1 : 1 ≤ x.size
  s2 : x.size ≤ 65536
  out : x.out = []
  back : x.back = []
  closed : x.closed = false
  dir : x.dir = 1 ∨ (x.dir = 0 ∧ x.inn = [])
  il : x.inn.length ≤ 65536
  lq : S.l = l
  ll : l.length ≤ 1048576
  kl : k ≤ l.length
  pl : S.pl = k + x.inn.length
  ple : S.pl ≤ l.length
  inn : x.inn = (l.drop k).take x.inn.length
  fin : x.fin = true → k = l.length
theorem RdR.may {x : SS} {S : MS} {l : List UInt8} {k : Nat} (h : RdR x S l k) : x.may = true := by
  refine (may_iff x).2 ⟨h.m1, h.m3, h.s1, h.s2, by rw [h.out]; have := h.s1; simp; omega, fun _ => by rw [h.out]; rfl, h.il, by rw [h.back]; simp, ?_⟩
  rcases h.dir with e | ⟨e, e2⟩
  · exact .inr (.inl ⟨e, h.rd, by rw [h.out]; rfl, h.closed⟩)
  · exact .inl ⟨e, by rw [h.out]; rfl, by rw [e2, h.back]; rfl⟩
theorem RdR.refuse {x : SS} {S : MS} {l : List UInt8} {k : Nat} (h : RdR x S l k) : x.refuse true = 0 := by
  unfold SS.refuse
  rw [if_neg (by simp [h.may]), if_neg (by simp), if_neg (by simp [h.closed])]
theorem RdR.noRead {x : SS} {S : MS} {l : List UInt8} {k : Nat} (h : RdR x S l k) : x.noRead = 0 := by
  unfold SS.noRead
  rw [if_neg (by simp [h.refuse]), if_neg (by simp [h.rd]), if_neg (by rcases h.dir with e | e <;> omega)]
theorem rs_some (S : MS) (n : Nat) (h1 : 1 ≤ n) (h2 : n ≤ 1048576) : someV rdR n 8192 S = (piece S.l S.pl n, 0, ⟨S.l, S.room, S.pl + (piece S.l S.pl n).length⟩) := by
  have hr : rdR.read S n = (piece S.l S.pl n, 0, ⟨S.l, S.room, S.pl + (piece S.l S.pl n).length⟩) := by
    show S.read (n : Int) = _
    unfold MS.read
    rw [if_pos (by unfold inR; simp; omega), Int.toNat_natCast]
  rw [show (8192 : Nat) = 8191 + 1 from rfl, someV_next rdR n 8191 S hr, if_neg (by omega), if_neg (by rw [piece_len]; omega), if_pos rfl]
set_option linter.unusedSimpArgs false in
theorem RdR.get {x : SS} {S : MS} {l : List UInt8} {k : Nat} (h : RdR x S l k) : RdR (x.get rdR S).1 (x.get rdR S).2.2.2 l (min (k + 1) l.length) ∧ (x.get rdR S).2.2.1 = (if k < l.length then 0 else 111) ∧ (k < l.length → (x.get rdR S).2.1 = l.getD k 0) ∧ (x.get rdR S).1.wt = x.wt := by
  have hk := h.kl
  have hp := h.pl
  have hpe := h.ple
  have hll := h.ll
  unfold SS.get
  rw [if_pos h.noRead]
  unfold SS.get1
  simp only
  rw [if_neg (by rw [h.back]; simp)]
  by_cases hi : 0 < x.inn.length
  · rw [if_pos hi]
    have hkl : k < l.length := by omega
    have hin := h.inn
    have hm : min (k + 1) l.length = k + 1 := by omega
    rw [hm]
    refine ⟨⟨h.rd, h.m1, h.m3, h.s1, h.s2, h.out, h.back, h.closed, .inl rfl, by simp only [List.length_drop]; have := h.il; omega, h.lq, hll, by omega, by simp only [List.length_drop]; omega, hpe, ?_, fun e => by have := h.fin e; omega⟩, by rw [if_pos hkl], fun _ => ?_, rfl⟩
    · simp only [List.length_drop]
      conv => lhs; rw [hin]
      rw [List.drop_take, List.drop_drop]
    · simp only
      rw [hin]
      simp only [List.getD_eq_getElem?_getD]
      rw [List.getElem?_take_of_lt hi, List.getElem?_drop]
      simp
  rw [if_neg hi]
  have hi0 : x.inn.length = 0 := by omega
  have hie : x.inn = [] := List.length_eq_zero_iff.1 hi0
  by_cases hf : x.fin = true
  · rw [if_pos hf]
    have hkl := h.fin hf
    have hm : min (k + 1) l.length = k := by omega
    rw [hm]
    exact ⟨⟨h.rd, h.m1, h.m3, h.s1, h.s2, h.out, h.back, h.closed, .inl rfl, h.il, h.lq, hll, hk, hp, hpe, h.inn, fun _ => hkl⟩, by rw [if_neg (by omega)], fun e => by omega, rfl⟩
  rw [if_neg hf]
  have hmost : 1 ≤ x.most ∧ x.most ≤ 65536 := by
    have h1 := h.s1
    have h2 := h.s2
    unfold SS.most
    split <;> omega
  have hms : (SS.most { rd := x.rd, wt := x.wt, mode := x.mode, size := x.size, out := x.out, inn := x.inn, back := x.back, dir := 1, fin := x.fin, bad := x.bad, closed := x.closed }) = x.most := rfl
  rw [hms, rs_some S x.most hmost.1 (by omega)]
  simp only
  rw [if_neg (by simp)]
  have hpl : S.pl = k := by omega
  rw [h.lq, hpl]
  have hlen := piece_len l k x.most
  by_cases hkl : k < l.length
  · have hm : min (k + 1) l.length = k + 1 := by omega
    rw [if_neg (by omega), hm]
    refine ⟨⟨h.rd, h.m1, h.m3, h.s1, h.s2, h.out, h.back, h.closed, .inl rfl, by simp only [List.length_drop]; omega, rfl, hll, by omega, by simp only [List.length_drop]; omega, by simp only; omega, ?_, fun e => absurd e hf⟩, by rw [if_pos hkl], fun _ => ?_, rfl⟩
    · simp only [List.length_drop]
      unfold piece
      rw [List.drop_take, List.drop_drop, List.take_eq_take_iff, List.length_take, List.length_drop, List.length_drop]
      omega
    · simp only [List.getD_eq_getElem?_getD]
      unfold piece
      rw [List.getElem?_take_of_lt (by omega), List.getElem?_drop]
      simp
  · have hm : min (k + 1) l.length = k := by omega
    rw [if_pos (by omega), hm]
    exact ⟨⟨h.rd, h.m1, h.m3, h.s1, h.s2, h.out, h.back, h.closed, .inl rfl, h.il, rfl, hll, hk, by simp only; omega, by simp only; omega, h.inn, fun _ => by omega⟩, by rw [if_neg hkl], fun e => absurd e hkl, rfl⟩
theorem gat_rd {l : List UInt8} (d : UInt8) (limit : Int) (N : Nat) (hN : limit = (N : Int)) : ∀ (n k : Nat) (x : SS) (S : MS) (acc : List UInt8), RdR x S l k → acc.length + n = N + 1 → acc.length ≤ N → d ∉ acc →
    ∃ m, (gat rdR (stopU d limit) n x S acc).2.1 = acc ++ (l.drop k).take m ∧ RdR (gat rdR (stopU d limit) n x S acc).1 (gat rdR (stopU d limit) n x S acc).2.2.2 l (k + m) ∧ k + m ≤ l.length ∧ acc.length + m ≤ N ∧ (∀ j, j + 1 < m → l.getD (k + j) 0 ≠ d) ∧
      (((gat rdR (stopU d limit) n x S acc).2.2.1 = 0 ∧ (acc.length + m = N ∨ (0 < m ∧ l.getD (k + m - 1) 0 = d))) ∨ ((gat rdR (stopU d limit) n x S acc).2.2.1 = 111 ∧ k + m = l.length ∧ ∀ j, j < m → l.getD (k + j) 0 ≠ d)) := by
  intro n
  induction n with
  | zero => intro k x S acc h h1 h2 h3; omega
  | succ n ih =>
    intro k x S acc h h1 h2 h3
    have hlast : 0 < acc.length → acc.getD (acc.length - 1) 0 ≠ d := fun h0 e => h3 (by
      rw [← e, List.getD_eq_getElem?_getD, List.getElem?_eq_getElem (by omega)]
      exact List.getElem_mem _)
    by_cases hs : acc.length = N
    · have hst : stopU d limit acc = true := by unfold stopU; rw [decide_eq_true (by rw [hs, hN])]; rfl
      rw [gat_stop _ _ _ _ _ _ hst]
      refine ⟨0, by simp, h, h.kl, by omega, fun j e => by omega, .inl ⟨rfl, .inl (by omega)⟩⟩
    · have hst : stopU d limit acc = false := by
        unfold stopU
        rw [decide_eq_false (by omega), Bool.false_or]
        by_cases h0 : 0 < acc.length
        · rw [decide_eq_false (hlast h0), Bool.and_false]
        · rw [decide_eq_false h0, Bool.false_and]
      obtain ⟨g1, g2, g3, -⟩ := h.get
      by_cases hk : k < l.length
      · rw [if_pos hk] at g2
        rw [show min (k + 1) l.length = k + 1 by omega] at g1
        have g3 := g3 hk
        rw [gat_next _ _ _ _ _ _ hst g2, g3]
        have hd : l.drop k = l.getD k 0 :: l.drop (k + 1) := by
          rw [List.drop_eq_getElem_cons hk, List.getD_eq_getElem?_getD, List.getElem?_eq_getElem hk]
          rfl
        by_cases hc : l.getD k 0 = d
        · have hst2 : stopU d limit (acc ++ [l.getD k 0]) = true := by
            have hA : decide (0 < (acc ++ [l.getD k 0]).length) = true := decide_eq_true (by simp)
            have hB : decide ((acc ++ [l.getD k 0]).getD ((acc ++ [l.getD k 0]).length - 1) 0 = d) = true := decide_eq_true (by simpa using hc)
            unfold stopU
            rw [hA, hB]
            simp
          rw [gat_stop _ _ _ _ _ _ hst2]
          refine ⟨1, by rw [hd]; rfl, g1, by omega, by omega, fun j e => by omega, .inl ⟨rfl, .inr ⟨by omega, by simpa using hc⟩⟩⟩
        · obtain ⟨m, m1, m2, m3, m4, m5, m6⟩ := ih (k + 1) _ _ (acc ++ [l.getD k 0]) g1 (by simp only [List.length_append, List.length_cons, List.length_nil]; omega) (by simp only [List.length_append, List.length_cons, List.length_nil]; omega) (by
            intro e
            rcases List.mem_append.1 e with e | e
            · exact h3 e
            · exact hc (List.mem_singleton.1 e).symm)
          simp only [List.length_append, List.length_cons, List.length_nil] at m4 m6
          have hnd : ∀ j, j < m + 1 → (∀ i, i + 1 = j → i < m → l.getD (k + 1 + i) 0 ≠ d) → l.getD (k + j) 0 ≠ d := fun j hj hi => by
            cases j with
            | zero => exact hc
            | succ i =>
              have := hi i rfl (by omega)
              rwa [show k + 1 + i = k + (i + 1) by omega] at this
          refine ⟨m + 1, by rw [m1, hd]; simp, by rw [show k + (m + 1) = k + 1 + m by omega]; exact m2, by omega, by omega, fun j hj => hnd j (by omega) (fun i e1 e2 => m5 i (by omega)), ?_⟩
          rcases m6 with ⟨a, b⟩ | ⟨a, b, c⟩
          · refine .inl ⟨a, ?_⟩
            rcases b with b | ⟨b, c⟩
            · exact .inl (by omega)
            · exact .inr ⟨by omega, by rwa [show k + 1 + m - 1 = k + (m + 1) - 1 by omega] at c⟩
          · exact .inr ⟨a, by omega, fun j hj => hnd j hj (fun i _ e2 => c i e2)⟩
      · rw [if_neg hk] at g2
        rw [show min (k + 1) l.length = k by have := h.kl; omega] at g1
        rw [gat_err _ _ _ _ _ _ hst (by rw [g2]; decide), g2]
        exact ⟨0, by simp, g1, h.kl, by omega, fun j e => by omega, .inr ⟨rfl, by have := h.kl; omega, fun j e => by omega⟩⟩
theorem RdR.grefuse {x : SS} {S : MS} {l : List UInt8} {k : Nat} (h : RdR x S l k) (limit : Int) (h1 : 1 ≤ limit) (h2 : limit ≤ 65536) : x.grefuse true limit 1 65536 = 0 := by
  unfold SS.grefuse
  rw [h.refuse]
  simp
  omega
theorem RdR.until {x : SS} {S : MS} {l : List UInt8} {k : Nat} (h : RdR x S l k) (d : UInt8) (N : Nat) (h1 : 1 ≤ N) (h2 : N ≤ 65536) :
    ∃ m, (x.until rdR S d N).2.1 = (l.drop k).take m ∧ RdR (x.until rdR S d N).1 (x.until rdR S d N).2.2.2 l (k + m) ∧ k + m ≤ l.length ∧ m ≤ N ∧ (∀ j, j + 1 < m → l.getD (k + j) 0 ≠ d) ∧
      (k < l.length → 0 < m ∧ (x.until rdR S d N).2.2.1 = 0 ∧ (m < N → l.getD (k + m - 1) 0 ≠ d → k + m = l.length)) ∧ (k = l.length → m = 0 ∧ (x.until rdR S d N).2.2.1 = 111) := by
  unfold SS.until
  rw [if_neg (by rw [h.grefuse N (by omega) (by omega)]; simp)]
  simp only
  obtain ⟨m, m1, m2, m3, m4, m5, m6⟩ := gat_rd d (N : Int) N rfl (N + 1) k x S [] h (by simp) (by simp) (by simp)
  rw [Int.toNat_natCast]
  rw [List.nil_append] at m1
  simp only [List.length_nil, Nat.zero_add] at m4 m6
  have hl : ((l.drop k).take m).length = m := by rw [List.length_take, List.length_drop]; omega
  refine ⟨m, m1, m2, m3, m4, m5, fun hk => ?_, fun hk => ?_⟩
  · have hm : 0 < m := by rcases m6 with ⟨a, b | ⟨b, c⟩⟩ | ⟨a, b, c⟩ <;> omega
    refine ⟨hm, ?_, fun e1 e2 => ?_⟩
    · unfold endV
      rw [m1, hl]
      rcases m6 with ⟨a, -⟩ | ⟨a, -⟩
      · rw [a]; rfl
      · rw [a, if_pos ⟨rfl, hm⟩]
    · rcases m6 with ⟨a, b | ⟨b, c⟩⟩ | ⟨a, b, c⟩
      · omega
      · exact absurd c e2
      · exact b
  · have hm : m = 0 := by omega
    refine ⟨hm, ?_⟩
    unfold endV
    rw [m1, hl]
    rcases m6 with ⟨a, b | ⟨b, c⟩⟩ | ⟨a, b, c⟩
    · omega
    · omega
    · rw [a, if_neg (by omega)]
end Go.Proofs.Ytmogciopaffccaa

/- Lines: the law's num, alive. -/
namespace Go.Proofs.Ytmogciopaffccaa
open Go.RowKit

theorem Hel.kept {W W' : World} {B : Nat} {O : Nat → Prop} {g : Nat} {o i b v : Value} {l : List UInt8} (h : Hel W B O g o i b v l) (t : Turned O W W') : ∃ base, W'.ownsRow base 5 1 v l.length (l.map bv) := ⟨B, owns_turned h.own t (fun k e e' => (h.off k e).1 e')⟩
theorem num15 (e : Int) (w : World) : Calls Try.prog 9 #[.int .i64 e] w fun r w' => r = .returned (.int .i64 e) ∧ w = w' := by
  go_enter Try.func9, Try.ntmps9
  go_wp2
  go_ret
  exact ⟨rfl, rfl⟩
theorem lit_bys15 (w : World) (l : List UInt8) (cs : Array Value) (n : Nat) (fr : Nat × Nat) (hn : n = l.length) (hcs : cs.toList = l.map bv) : Bys (w.alloc (Obj.cells cs 5 fr)) (.slice (some ⟨w.heap.size, 0, none⟩) n n) l := by
  subst hn
  by_cases h0 : l.length = 0
  · exact .inr (.inl ⟨_, _, by rw [h0], List.length_eq_zero_iff.1 h0⟩)
  · refine .inr (.inr ⟨w.heap.size, 0, l.length, rfl, by omega, fun j hj => ?_⟩)
    rw [cell_of_row _ w.heap.size _ cs _ fr (heap_alloc_new w _)]
    have h1 : cs.toList[0 + j]? = (l.map bv)[j]? := by rw [hcs, Nat.zero_add]
    rw [Array.getElem?_toList] at h1
    rw [h1]
    simp [List.getD_eq_getElem?_getD, List.getElem?_eq_getElem hj, bv]
theorem conv_lit15 (w : World) (C : Array Value) (n m : Nat) (hm : C.size = m) : (convert 22 22 (.slice (some ⟨w.heap.size, 0, none⟩) n n)).run Try.prog (w.alloc (.cells C 5)) = .ok (.slice (some ⟨w.heap.size, 0, none⟩) n n) (w.alloc (.cells C 5 (m, m + 1))) := by
  subst hm
  exact Lib.run_convert_bytes_const w 22 5 C n n Try.underlying22 Try.underlying5
def abcd : List UInt8 := [97, 98, 10, 99, 100]
def qlA : SS := ⟨true, false, 3, 4, [], [99], [], 1, false, false, false⟩
def qlB : SS := ⟨true, false, 3, 4, [], [], [], 1, false, false, false⟩
def qlC : SS := ⟨true, false, 3, 4, [], [], [], 1, true, false, false⟩
theorem ql_a : (xR 3 4).until rdR ⟨abcd, abcd.length, 0⟩ 10 9 = (qlA, [97, 98, 10], 0, ⟨abcd, abcd.length, 4⟩) := by kernel_rfl
theorem ql_b : qlA.until rdR ⟨abcd, abcd.length, 4⟩ 10 1 = (qlB, [99], 0, ⟨abcd, abcd.length, 4⟩) := by kernel_rfl
theorem ql_c : qlB.until rdR ⟨abcd, abcd.length, 4⟩ 10 9 = (qlC, [100], 0, ⟨abcd, abcd.length, 5⟩) := by kernel_rfl
theorem ql_d : qlC.until rdR ⟨abcd, abcd.length, 5⟩ 10 9 = (qlC, [], 111, ⟨abcd, abcd.length, 5⟩) := by kernel_rfl
set_option maxRecDepth 100000 in
set_option maxHeartbeats 8000000 in
theorem alive15 (w : World) : Calls Try.prog 6 #[] w fun e w' => e = .returned (.bool true) ∧ Below w.heap.size w w' := by
  have cl := conv_lit15 w #[.int .u8 97, .int .u8 98, .int .u8 10, .int .u8 99, .int .u8 100] 5 5 rfl
  have hb3 := lit_bys15 w abcd #[.int .u8 97, .int .u8 98, .int .u8 10, .int .u8 99, .int .u8 100] 5 (5, 6) rfl rfl
  have hBl := (Below.refl _ w).alloc (Nat.le_refl _) (Obj.cells #[.int .u8 97, .int .u8 98, .int .u8 10, .int .u8 99, .int .u8 100] 5 (5, 6))
  have HN1 := hide (newReader_good _ abcd _ hb3 (by decide))
  have HBl := hide hBl
  have hN := fun W => sNew_any moR 3 4 W
  rw [new_R, if_pos (by decide), if_pos (by decide)] at hN
  simp only at hN
  unfold mv at hN
  have HN := hide hN
  clear hN hb3 hBl
  go_enter Try.func6, Try.ntmps6
  go_wp2_with fail
  generalize w.alloc (Obj.cells #[.int .u8 97, .int .u8 98, .int .u8 10, .int .u8 99, .int .u8 100] 5 (5, 6)) = w0 at *
  refine HN1.out.mono ?_
  rintro _ w1 ⟨g, rfl, hM, hB⟩
  have HM := hide hM
  have HB := hide (HBl.out.trans (hB.mono HBl.out.size))
  have hz0 := HBl.out.size
  clear hM hB HN1 cl
  go_wp2_with fail
  refine (HN.out _).mono ?_
  rintro _ w2 ⟨rfl, hB2⟩
  have HM2 := hide (HM.out.below hB2)
  have HB2 := hide (HB.out.trans (hB2.mono HB.out.size))
  clear hB2 HM HB
  have HS2 := hide (StAt.new w2 (xR 3 4) (.slice none 0 0) (.slice none 0 0) (.slice none 0 0))
  have HB3 := hide (recv_below w2 (Obj.cells #[.bool (xR 3 4).rd, .bool (xR 3 4).wt, .int .i64 (xR 3 4).mode, .int .i64 (xR 3 4).size, .slice none 0 0, .slice none 0 0, .slice none 0 0, .int .i64 (xR 3 4).dir, .bool (xR 3 4).fin, .bool (xR 3 4).bad, .bool (xR 3 4).closed] 29))
  have HLV : Hid (LV (fun w O S => MemAt w O g S) (w2.alloc (Obj.cells #[.bool (xR 3 4).rd, .bool (xR 3 4).wt, .int .i64 (xR 3 4).mode, .int .i64 (xR 3 4).size, .slice none 0 0, .slice none 0 0, .slice none 0 0, .int .i64 (xR 3 4).dir, .bool (xR 3 4).fin, .bool (xR 3 4).bad, .bool (xR 3 4).closed] 29)) w.heap.size w2.heap.size (fun k => w0.heap.size ≤ k ∧ k < w2.heap.size) (xR 3 4) ⟨abcd, abcd.length, 0⟩ (.slice none (xR 3 4).out.length 0) (.slice none (xR 3 4).inn.length 0) (.slice none (xR 3 4).back.length 0)) := hide
    ⟨HS2.out, SIn.nils0 rfl rfl rfl, HM2.out.trim.below HB3.out, fun j e => Nat.lt_of_lt_of_le e.2 HB3.out.size, fun j e => by have := e.1; omega, fun e => by omega, HB2.out.size⟩
  have HTT : Hid (Turned (fun k => w.heap.size ≤ k) w (w2.alloc (Obj.cells #[.bool (xR 3 4).rd, .bool (xR 3 4).wt, .int .i64 (xR 3 4).mode, .int .i64 (xR 3 4).size, .slice none 0 0, .slice none 0 0, .slice none 0 0, .int .i64 (xR 3 4).dir, .bool (xR 3 4).fin, .bool (xR 3 4).bad, .bool (xR 3 4).closed] 29))) := hide ((Turned.of_below HB2.out).trans (Turned.of_below (S := fun k => w.heap.size ≤ k) HB3.out) (fun _ _ e => e))
  have hp := lget_any (rdr_raw g) (fun s => gmem_o g s) (bears_true rdR) _ _ _ _ _ _ 9 HLV.out.ls HLV.out.raw HLV.out.ol trivial (by decide) (by decide) (by decide)
  rw [ql_a] at hp
  simp only at hp
  have HP := hide hp
  clear hp
  go_wp2_with (first | (go_at_call 9; refine (num15 _ _).mono ?_; rintro _ _ ⟨rfl, rfl⟩) | fail)
  generalize w2.alloc (Obj.cells #[.bool (xR 3 4).rd, .bool (xR 3 4).wt, .int .i64 (xR 3 4).mode, .int .i64 (xR 3 4).size, .slice none 0 0, .slice none 0 0, .slice none 0 0, .int .i64 (xR 3 4).dir, .bool (xR 3 4).fin, .bool (xR 3 4).bad, .bool (xR 3 4).closed] 29) = w3 at *
  have HSZ := hide HTT.out.size
  clear HS2 HB3 HM2 HN
  generalize w2.heap.size = gv at *
  refine HP.out.mono ?_
  rintro _ w4 ⟨o', i', b', uu, rfl, hS⟩
  obtain ⟨a1, a4, rfl, -⟩ := hS.choose_spec.1.1.so
  obtain ⟨a2, a5, rfl, -⟩ := hS.choose_spec.1.1.si
  obtain ⟨a3, a6, rfl, -⟩ := hS.choose_spec.1.1.sb
  obtain ⟨r1, r2, hu0⟩ := owns_slice hS.choose_spec.2.1
  have hu1 : uu = .slice r1 3 r2 := hu0
  subst hu1
  obtain ⟨hst, ht, O4, hl, hu, hk⟩ := LV.nextG (fun s => gmem_o g s) HLV.out HSZ.out hS
  simp only at hl hu ht hk
  have HLn := hide hl
  have HTn := hide (HTT.out.trans ht (fun _ _ e => e))
  have Hr := hide hu
  obtain ⟨c0, c1, c2, c3, c4, c5, c6, c7, c8, c9, c10⟩ := hst.cs
  have f0 := hst.soft 0
  have f1 := hst.soft 1
  have f2 := hst.soft 2
  have f3 := hst.soft 3
  have f4 := hst.soft 4
  have f5 := hst.soft 5
  have f6 := hst.soft 6
  have f7 := hst.soft 7
  have f8 := hst.soft 8
  have f9 := hst.soft 9
  have f10 := hst.soft 10
  clear hS hst hl ht hu hk hu0 HP
  unfold filled at HLn HTn Hr
  have hp := lget_any (rdr_raw g) (fun s => gmem_o g s) (bears_true rdR) _ _ _ _ _ _ 1 HLn.out.ls HLn.out.raw HLn.out.ol trivial (by decide) (by decide) (by decide)
  rw [ql_b] at hp
  simp only at hp
  have HP := hide hp
  clear hp
  go_wp2_with (first | (go_at_call 9; refine (num15 _ _).mono ?_; rintro _ _ ⟨rfl, rfl⟩) | fail)
  generalize (((((((((((w4.setCell ⟨gv, 0, none⟩ (.bool qlA.rd)).setCell ⟨gv, 1, none⟩ (.bool qlA.wt)).setCell ⟨gv, 2, none⟩ (.int .i64 qlA.mode)).setCell ⟨gv, 3, none⟩ (.int .i64 qlA.size)).setCell ⟨gv, 4, none⟩ (.slice a1 qlA.out.length a4)).setCell ⟨gv, 5, none⟩ (.slice a2 qlA.inn.length a5)).setCell ⟨gv, 6, none⟩ (.slice a3 qlA.back.length a6)).setCell ⟨gv, 7, none⟩ (.int .i64 qlA.dir)).setCell ⟨gv, 8, none⟩ (.bool qlA.fin)).setCell ⟨gv, 9, none⟩ (.bool qlA.bad)).setCell ⟨gv, 10, none⟩ (.bool qlA.closed)) = w5 at *
  clear c0 c1 c2 c3 c4 c5 c6 c7 c8 c9 c10 f0 f1 f2 f3 f4 f5 f6 f7 f8 f9 f10 HLV HTT HSZ
  have HLV := HLn
  have HTT := HTn
  have HSZ := hide HTT.out.size
  clear HLn HTn
  refine HP.out.mono ?_
  rintro _ w6 ⟨o', i', b', uu, rfl, hS⟩
  obtain ⟨b1, b4, rfl, -⟩ := hS.choose_spec.1.1.so
  obtain ⟨b2, b5, rfl, -⟩ := hS.choose_spec.1.1.si
  obtain ⟨b3, b6, rfl, -⟩ := hS.choose_spec.1.1.sb
  obtain ⟨s1, s2, hu0⟩ := owns_slice hS.choose_spec.2.1
  have hu1 : uu = .slice s1 1 s2 := hu0
  subst hu1
  obtain ⟨hst, ht, O6, hl, hu, hk⟩ := LV.nextG (fun s => gmem_o g s) HLV.out HSZ.out hS
  simp only at hl hu ht hk
  have HLn := hide hl
  have HTn := hide (HTT.out.trans ht (fun _ _ e => e))
  have Hs := hide hu
  have Hr := hide (hk _ _ Hr.out).1
  obtain ⟨c0, c1, c2, c3, c4, c5, c6, c7, c8, c9, c10⟩ := hst.cs
  have f0 := hst.soft 0
  have f1 := hst.soft 1
  have f2 := hst.soft 2
  have f3 := hst.soft 3
  have f4 := hst.soft 4
  have f5 := hst.soft 5
  have f6 := hst.soft 6
  have f7 := hst.soft 7
  have f8 := hst.soft 8
  have f9 := hst.soft 9
  have f10 := hst.soft 10
  clear hS hst hl ht hu hk hu0 HP
  unfold filled at HLn HTn Hs Hr
  have hp := lget_any (rdr_raw g) (fun s => gmem_o g s) (bears_true rdR) _ _ _ _ _ _ 9 HLn.out.ls HLn.out.raw HLn.out.ol trivial (by decide) (by decide) (by decide)
  rw [ql_c] at hp
  simp only at hp
  have HP := hide hp
  clear hp
  go_wp2_with (first | (go_at_call 9; refine (num15 _ _).mono ?_; rintro _ _ ⟨rfl, rfl⟩) | fail)
  generalize (((((((((((w6.setCell ⟨gv, 0, none⟩ (.bool qlB.rd)).setCell ⟨gv, 1, none⟩ (.bool qlB.wt)).setCell ⟨gv, 2, none⟩ (.int .i64 qlB.mode)).setCell ⟨gv, 3, none⟩ (.int .i64 qlB.size)).setCell ⟨gv, 4, none⟩ (.slice b1 qlB.out.length b4)).setCell ⟨gv, 5, none⟩ (.slice b2 qlB.inn.length b5)).setCell ⟨gv, 6, none⟩ (.slice b3 qlB.back.length b6)).setCell ⟨gv, 7, none⟩ (.int .i64 qlB.dir)).setCell ⟨gv, 8, none⟩ (.bool qlB.fin)).setCell ⟨gv, 9, none⟩ (.bool qlB.bad)).setCell ⟨gv, 10, none⟩ (.bool qlB.closed)) = w7 at *
  clear c0 c1 c2 c3 c4 c5 c6 c7 c8 c9 c10 f0 f1 f2 f3 f4 f5 f6 f7 f8 f9 f10 HLV HTT HSZ
  have HLV := HLn
  have HTT := HTn
  have HSZ := hide HTT.out.size
  clear HLn HTn
  refine HP.out.mono ?_
  rintro _ w8 ⟨o', i', b', uu, rfl, hS⟩
  obtain ⟨d1, d4, rfl, -⟩ := hS.choose_spec.1.1.so
  obtain ⟨d2, d5, rfl, -⟩ := hS.choose_spec.1.1.si
  obtain ⟨d3, d6, rfl, -⟩ := hS.choose_spec.1.1.sb
  obtain ⟨t1, t2, hu0⟩ := owns_slice hS.choose_spec.2.1
  have hu1 : uu = .slice t1 1 t2 := hu0
  subst hu1
  obtain ⟨hst, ht, O8, hl, hu, hk⟩ := LV.nextG (fun s => gmem_o g s) HLV.out HSZ.out hS
  simp only at hl hu ht hk
  have HLn := hide hl
  have HTn := hide (HTT.out.trans ht (fun _ _ e => e))
  have Ht := hide hu
  have Hr := hide (hk _ _ Hr.out).1
  have Hs := hide (hk _ _ Hs.out).1
  obtain ⟨c0, c1, c2, c3, c4, c5, c6, c7, c8, c9, c10⟩ := hst.cs
  have f0 := hst.soft 0
  have f1 := hst.soft 1
  have f2 := hst.soft 2
  have f3 := hst.soft 3
  have f4 := hst.soft 4
  have f5 := hst.soft 5
  have f6 := hst.soft 6
  have f7 := hst.soft 7
  have f8 := hst.soft 8
  have f9 := hst.soft 9
  have f10 := hst.soft 10
  clear hS hst hl ht hu hk hu0 HP
  unfold filled at HLn HTn Ht Hr Hs
  have hp := lget_any (rdr_raw g) (fun s => gmem_o g s) (bears_true rdR) _ _ _ _ _ _ 9 HLn.out.ls HLn.out.raw HLn.out.ol trivial (by decide) (by decide) (by decide)
  rw [ql_d] at hp
  simp only at hp
  have HP := hide hp
  clear hp
  go_wp2_with (first | (go_at_call 9; refine (num15 _ _).mono ?_; rintro _ _ ⟨rfl, rfl⟩) | fail)
  generalize (((((((((((w8.setCell ⟨gv, 0, none⟩ (.bool qlC.rd)).setCell ⟨gv, 1, none⟩ (.bool qlC.wt)).setCell ⟨gv, 2, none⟩ (.int .i64 qlC.mode)).setCell ⟨gv, 3, none⟩ (.int .i64 qlC.size)).setCell ⟨gv, 4, none⟩ (.slice d1 qlC.out.length d4)).setCell ⟨gv, 5, none⟩ (.slice d2 qlC.inn.length d5)).setCell ⟨gv, 6, none⟩ (.slice d3 qlC.back.length d6)).setCell ⟨gv, 7, none⟩ (.int .i64 qlC.dir)).setCell ⟨gv, 8, none⟩ (.bool qlC.fin)).setCell ⟨gv, 9, none⟩ (.bool qlC.bad)).setCell ⟨gv, 10, none⟩ (.bool qlC.closed)) = w9 at *
  clear c0 c1 c2 c3 c4 c5 c6 c7 c8 c9 c10 f0 f1 f2 f3 f4 f5 f6 f7 f8 f9 f10 HLV HTT HSZ
  have HLV := HLn
  have HTT := HTn
  have HSZ := hide HTT.out.size
  clear HLn HTn
  refine HP.out.mono ?_
  rintro _ w10 ⟨o', i', b', uu, rfl, hS⟩
  obtain ⟨e1, e4, rfl, -⟩ := hS.choose_spec.1.1.so
  obtain ⟨e2, e5, rfl, -⟩ := hS.choose_spec.1.1.si
  obtain ⟨e3, e6, rfl, -⟩ := hS.choose_spec.1.1.sb
  have ht : Turned _ w9 w10 := hS.choose_spec.1.2.2.2.2
  have HT10 : Hid (Turned (fun k => w.heap.size ≤ k) w w10) := hide (HTT.out.trans (ht.mono fun k e => HLV.out.ob k e) (fun _ _ e => e))
  obtain ⟨_, k1⟩ := Hr.out.kept ht
  obtain ⟨_, k2⟩ := Hs.out.kept ht
  obtain ⟨_, k3⟩ := Ht.out.kept ht
  have m1 : (convert 22 9 (.slice r1 3 r2)).run Try.prog (w10.alloc (Obj.cells #[.bool qlC.rd, .bool qlC.wt, .int .i64 qlC.mode, .int .i64 qlC.size, .slice e1 qlC.out.length e4, .slice e2 qlC.inn.length e5, .slice e3 qlC.back.length e6, .int .i64 qlC.dir, .bool qlC.fin, .bool qlC.bad, .bool qlC.closed] 29)) = .ok (.string ⟨#[97, 98, 10]⟩) (w10.alloc (Obj.cells #[.bool qlC.rd, .bool qlC.wt, .int .i64 qlC.mode, .int .i64 qlC.size, .slice e1 qlC.out.length e4, .slice e2 qlC.inn.length e5, .slice e3 qlC.back.length e6, .int .i64 qlC.dir, .bool qlC.fin, .bool qlC.bad, .bool qlC.closed] 29)) := owns_string (l := [97, 98, 10]) (owns_below k1 (recv_below w10 _))
  have m2 : (convert 22 9 (.slice s1 1 s2)).run Try.prog (w10.alloc (Obj.cells #[.bool qlC.rd, .bool qlC.wt, .int .i64 qlC.mode, .int .i64 qlC.size, .slice e1 qlC.out.length e4, .slice e2 qlC.inn.length e5, .slice e3 qlC.back.length e6, .int .i64 qlC.dir, .bool qlC.fin, .bool qlC.bad, .bool qlC.closed] 29)) = .ok (.string ⟨#[99]⟩) (w10.alloc (Obj.cells #[.bool qlC.rd, .bool qlC.wt, .int .i64 qlC.mode, .int .i64 qlC.size, .slice e1 qlC.out.length e4, .slice e2 qlC.inn.length e5, .slice e3 qlC.back.length e6, .int .i64 qlC.dir, .bool qlC.fin, .bool qlC.bad, .bool qlC.closed] 29)) := owns_string (l := [99]) (owns_below k2 (recv_below w10 _))
  have m3 : (convert 22 9 (.slice t1 1 t2)).run Try.prog (w10.alloc (Obj.cells #[.bool qlC.rd, .bool qlC.wt, .int .i64 qlC.mode, .int .i64 qlC.size, .slice e1 qlC.out.length e4, .slice e2 qlC.inn.length e5, .slice e3 qlC.back.length e6, .int .i64 qlC.dir, .bool qlC.fin, .bool qlC.bad, .bool qlC.closed] 29)) = .ok (.string ⟨#[100]⟩) (w10.alloc (Obj.cells #[.bool qlC.rd, .bool qlC.wt, .int .i64 qlC.mode, .int .i64 qlC.size, .slice e1 qlC.out.length e4, .slice e2 qlC.inn.length e5, .slice e3 qlC.back.length e6, .int .i64 qlC.dir, .bool qlC.fin, .bool qlC.bad, .bool qlC.closed] 29)) := owns_string (l := [100]) (owns_below k3 (recv_below w10 _))
  clear hS ht k1 k2 k3 Hr Hs Ht HLV HTT HSZ HP
  go_wp2_with (first | (go_at_call 9; refine (num15 _ _).mono ?_; rintro _ _ ⟨rfl, rfl⟩) | fail)
  go_ret
  exact ⟨rfl, (HT10.out.below (B := w.heap.size) (fun _ e => e) (Nat.le_refl _)).trans ((recv_below w10 _).mono HT10.out.size)⟩
end Go.Proofs.Ytmogciopaffccaa

/- Bytes that came in as an argument: what a walk is told of them. -/
namespace Go.Proofs.Ytmogciopaffccaa
open Go.ChangeShapes Go.WideShapes Go.ChangeAt Go.RowKit

theorem bytes_arg {H : Type} {enc : TypeId × Value → H} {P : Program} {W : World} {base : Nat} {a : Option Addr} {len cap fuel t e : Nat} {d : DataW H} {p : List MemPlace}
    (ht : P.underlying t = some (.slice e)) (he : P.underlying e = some (.int .u8)) (hc : P.cellsOf e = 1)
    (hf : DataW.trod enc P W base (fun _ => true) true fuel t (Value.slice a len cap).cells.toList = some (d, p)) :
    ∃ l : List UInt8, Bys W (.slice a len cap) l ∧ ((d = .nil ∧ l = []) ∨ ∃ elems spare : List (DataW H), d = .slice elems spare ∧ l.length = elems.length) := by
  rcases open_ints ht he hc hf with ⟨hcs, hd⟩ | ⟨x, n, c, zs, hcs, _, hl, hm, hz, hx, hcell, hwz⟩
  · simp [Value.cells] at hcs
    obtain ⟨rfl, rfl, rfl⟩ := hcs
    exact ⟨[], .inl ⟨rfl, rfl⟩, .inl ⟨(Prod.mk.inj hd).1, rfl⟩⟩
  · simp [Value.cells] at hcs
    obtain ⟨rfl, rfl, rfl⟩ := hcs
    simp only [if_true] at hz
    have hlen : ((zs.take len).map fun n => UInt8.ofNat n.toNat).length = len := by rw [List.length_map, List.length_take]; omega
    refine ⟨(zs.take len).map fun n => UInt8.ofNat n.toNat, ?_, .inr ⟨_, _, (Prod.mk.inj hx).1, by simp [lits]⟩⟩
    by_cases h0 : len = 0
    · subst h0
      exact .inr (.inl ⟨x, cap, rfl, by simp⟩)
    · obtain ⟨b, off, spot⟩ := x
      have hspot : spot = none := by simpa [Addr.add] using World.cell?_spot (hcell 0 (by omega))
      subst hspot
      refine .inr (.inr ⟨b, off, cap, by rw [hlen], by rw [hlen]; omega, fun j hj => ?_⟩)
      rw [hlen] at hj
      have h1 := hcell j (by omega)
      have hadd : (⟨b, off, none⟩ : Addr).add j = ⟨b, off + j, none⟩ := by unfold Addr.add; split <;> simp_all
      rw [hadd] at h1
      rw [h1]
      have hjz : j < zs.length := by omega
      have hb := bounds_u8 (hwz zs[j] (List.getElem_mem hjz))
      simp only [List.getD_eq_getElem?_getD, List.getElem?_map, List.getElem?_take, if_pos hj, List.getElem?_eq_getElem hjz, Option.map_some, Option.getD_some]
      rw [UInt8.toNat_ofNat_of_lt' (by show _ < 256; omega), Int.toNat_of_nonneg hb.1]

theorem one_le {H : Type} (d : DataW H) : 1 ≤ Rows.uptoBulk d := by
  cases d with
  | lit l => cases l <;> simp [Rows.uptoBulk]
  | nil => simp [Rows.uptoBulk]
  | ptr d => simp [Rows.uptoBulk]
  | slice elems spare => simp [Rows.uptoBulk]
  | agg parts => simp [Rows.uptoBulk]
  | iface t d => simp [Rows.uptoBulk]
  | map entries => simp [Rows.uptoBulk]
  | held h => simp [Rows.uptoBulk]
theorem bulk_length {H : Type} (l : List (DataW H)) : l.length ≤ Rows.uptoBulkAll l := by
  induction l with
  | nil => simp [Rows.uptoBulkAll]
  | cons x r ih => have := one_le x; simp only [Rows.uptoBulkAll, List.length_cons]; omega
theorem bulk_slice {H : Type} (elems spare : List (DataW H)) : elems.length + 1 ≤ Rows.uptoBulk (.slice elems spare) := by
  have h1 := bulk_length elems
  simp only [Rows.uptoBulk]
  omega
end Go.Proofs.Ytmogciopaffccaa

/- Bytes, and steps, that came in as an argument: what a walk is told of them. -/
namespace Go.Proofs.Ytmogciopaffccaa
open Go.ChangeShapes Go.WideShapes Go.ChangeAt Go.RowKit Go.Deep

end Go.Proofs.Ytmogciopaffccaa

/- LinesJoin: the walk. -/
namespace Go.Proofs.Ytmogciopaffccaa
open Go.RowKit

theorem tmod15 (x k : Int) (hk : 0 < k) : -k < x.tmod k ∧ x.tmod k < k := by
  have h2 : ∀ y : Int, 0 ≤ y → 0 ≤ y.tmod k ∧ y.tmod k < k := fun y h => by
    rw [Int.tmod_eq_emod_of_nonneg h]
    exact ⟨Int.emod_nonneg _ (by omega), Int.emod_lt_of_pos _ hk⟩
  rcases Int.le_total 0 x with h | h
  · have := h2 x h; omega
  · have h3 := h2 (-x) (by omega)
    rw [Int.neg_tmod] at h3
    omega
theorem rem15 (full k : Int) (hk : 0 < k) (hk2 : k ≤ 1048576) : ∃ m : Nat, (wrap64 (full.tmod k + k)).tmod k = (m : Int) ∧ (m : Int) < k := by
  have h1 := tmod15 full k hk
  have h2 : wrap64 (full.tmod k + k) = full.tmod k + k := by unfold wrap64; omega
  rw [h2, Int.tmod_eq_emod_of_nonneg (by omega)]
  have h3 := Int.emod_nonneg (full.tmod k + k) (b := k) (by omega)
  have h4 := Int.emod_lt_of_pos (full.tmod k + k) hk
  exact ⟨((full.tmod k + k) % k).toNat, by omega, by omega⟩
theorem bys_len15 {W : World} {a : Option Addr} {n c : Nat} {l : List UInt8} (h : Bys W (.slice a n c) l) : n = l.length := by
  obtain ⟨_, _, e, -⟩ := bys_form h
  cases e
  rfl
theorem rr_new (mode size : Int) (l : List UInt8) (h : (1 ≤ mode ∧ mode ≤ 3) ∧ (1 ≤ size ∧ size ≤ 65536)) (hl : l.length ≤ 1048576) : RdR (xR mode size) ⟨l, l.length, 0⟩ l 0 :=
  ⟨rfl, h.1.1, h.1.2, h.2.1, h.2.2, rfl, rfl, rfl, .inr ⟨rfl, rfl⟩, by simp [xR], rfl, hl, Nat.zero_le _, rfl, Nat.zero_le _, by simp [xR], fun e => by simp [xR] at e⟩
theorem RdR.lens {x : SS} {S : MS} {l : List UInt8} {k : Nat} (h : RdR x S l k) : x.out.length ≤ 140737488351232 ∧ x.inn.length ≤ 140737488351232 ∧ x.back.length ≤ 140737488351232 := ⟨by rw [h.out]; simp, Nat.le_trans h.il (by decide), by rw [h.back]; simp⟩
end Go.Proofs.Ytmogciopaffccaa

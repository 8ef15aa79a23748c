/- What the proof stands on, part 3: the contracts of the program's calls that it reaches. -/
import Derived.Test.YtcmfpafcipgejaaDoorKM2
import Derived.Test.YtcmfpafcipgejaaDoorRows
import Derived.Shelf.Strings.OnBuilder
import Derived.Shelf.Small.Wraps
import Derived.Shelf.Strings.Repeat
import Derived.Shelf.Strings.SlTrimAscii
import Derived.Lib.MinMax
import Derived.Deep.RegionHeld3
import Derived.Lib.AppendStr
import Derived.KernelRfl
/- Contracts of Go's library at this dump, laid by the kit's own command. -/
namespace Go.Proofs
open Go.Shelf Go.RowKit Go.Lib
def Tryd.lays161_ren : Go.Shelf.Ren := ⟨fun | 161 => 42 | 231 => 45 | 227 => 46 | 233 => 47 | 235 => 48 | 228 => 50 | 197 => 51 | 151 => 52 | 260 => 54 | 152 => 55 | 137 => 57 | 119 => 58 | 224 => 59 | 225 => 60 | 217 => 62 | 266 => 63 | n => n, fun | 9 => 9 | 4 => 4 | 3 => 3 | 5 => 5 | 117 => 85 | 116 => 84 | 0 => 0 | 124 => 88 | 105 => 90 | 21 => 21 | 119 => 98 | 46 => 99 | 139 => 102 | 138 => 101 | n => n, fun | 3 => 0 | 4 => 1 | n => n⟩
theorem Tryd.lays161 : Go.Proofs.Lays.n161 Tryd.prog Tryd.lays161_ren := {
  mixed := by kernel_rfl
  f119 := Tryd.func58.trans (congrArg some (by kernel_rfl))
  f137 := Tryd.func57.trans (congrArg some (by kernel_rfl))
  f151 := Tryd.func52.trans (congrArg some (by kernel_rfl))
  f152 := Tryd.func55.trans (congrArg some (by kernel_rfl))
  f161 := Tryd.func42.trans (congrArg some (by kernel_rfl))
  f197 := Tryd.func51.trans (congrArg some (by kernel_rfl))
  f217 := Tryd.func62.trans (congrArg some (by kernel_rfl))
  f224 := Tryd.func59.trans (congrArg some (by kernel_rfl))
  f225 := Tryd.func60.trans (congrArg some (by kernel_rfl))
  f227 := Tryd.func46.trans (congrArg some (by kernel_rfl))
  f228 := Tryd.func50.trans (congrArg some (by kernel_rfl))
  f231 := Tryd.func45.trans (congrArg some (by kernel_rfl))
  f233 := Tryd.func47.trans (congrArg some (by kernel_rfl))
  f235 := Tryd.func48.trans (congrArg some (by kernel_rfl))
  f260 := Tryd.func54.trans (congrArg some (by kernel_rfl))
  f266 := Tryd.func63.trans (congrArg some (by kernel_rfl))
  t0 := Tryd.underlying0
  a0 := Tryd.isAgg0
  z0 := Tryd.sizeOf0
  v0 := Tryd.zeroValue0
  t3 := Tryd.underlying3
  a3 := Tryd.isAgg3
  z3 := Tryd.sizeOf3
  v3 := Tryd.zeroValue3
  t4 := Tryd.underlying4
  a4 := Tryd.isAgg4
  z4 := Tryd.sizeOf4
  v4 := Tryd.zeroValue4
  t5 := Tryd.underlying5
  a5 := Tryd.isAgg5
  z5 := Tryd.sizeOf5
  v5 := Tryd.zeroValue5
  t9 := Tryd.underlying9
  a9 := Tryd.isAgg9
  z9 := Tryd.sizeOf9
  v9 := Tryd.zeroValue9
  t21 := Tryd.underlying21
  a21 := Tryd.isAgg21
  z21 := Tryd.sizeOf21
  v21 := Tryd.zeroValue21
  t46 := Tryd.underlying99
  a46 := Tryd.isAgg99
  z46 := Tryd.sizeOf99
  v46 := Tryd.zeroValue99
  t105 := Tryd.underlying90
  a105 := Tryd.isAgg90
  z105 := Tryd.sizeOf90
  v105 := Tryd.zeroValue90
  t116 := Tryd.underlying84
  a116 := Tryd.isAgg84
  z116 := Tryd.sizeOf84
  t117 := Tryd.underlying85
  a117 := Tryd.isAgg85
  z117 := Tryd.sizeOf85
  v117 := Tryd.zeroValue85
  t119 := Tryd.underlying98
  a119 := Tryd.isAgg98
  z119 := Tryd.sizeOf98
  t124 := Tryd.underlying88
  a124 := Tryd.isAgg88
  z124 := Tryd.sizeOf88
  v124 := Tryd.zeroValue88
  t138 := Tryd.underlying101
  a138 := Tryd.isAgg101
  z138 := Tryd.sizeOf101
  v138 := Tryd.zeroValue101
  t139 := Tryd.underlying102
  a139 := Tryd.isAgg102
  z139 := Tryd.sizeOf102
  v139 := Tryd.zeroValue102
  g3 := by kernel_rfl
  g4 := by kernel_rfl }
end Go.Proofs

/- Format: what a directive makes of strings: repeated, sign, precise, cut, wide, digits. -/
namespace Go.Proofs.YtcmfpafcipgejaaDoor
open Go.RowKit

end Go.Proofs.YtcmfpafcipgejaaDoor

/- Slices of anything that came in as an argument: what a walk is told of them, and their sizes. -/
namespace Go.Proofs.YtcmfpafcipgejaaDoor
open Go.ChangeShapes Go.WideShapes Go.ChangeAt Go.RowKit Go.Deep

end Go.Proofs.YtcmfpafcipgejaaDoor

/- Format: a slice of Args, as it comes in as an argument and as it is cut. -/
namespace Go.Proofs.YtcmfpafcipgejaaDoor
open Go.ChangeShapes Go.WideShapes Go.ChangeAt Go.RowKit

def N64 (d : Int) : Prop := -9223372036854775808 ≤ d ∧ d ≤ 9223372036854775807
end Go.Proofs.YtcmfpafcipgejaaDoor

/- Format: what a directive makes of an Arg: digits, isOf, shown. -/
namespace Go.Proofs.YtcmfpafcipgejaaDoor
open Go.RowKit

def agV (a : Ag) : Value := .agg #[.int .i64 a.kind, .int .i64 a.int, .int .u64 a.uint, .string a.text]
structure AgAt (W : World) (b : Nat) (a : Ag) : Prop where
  c0 : W.cell? ⟨b, 0, none⟩ = some (.int .i64 a.kind)
  c1 : W.cell? ⟨b, 1, none⟩ = some (.int .i64 a.int)
  c2 : W.cell? ⟨b, 2, none⟩ = some (.int .u64 a.uint)
  c3 : W.cell? ⟨b, 3, none⟩ = some (.string a.text)
theorem AgAt.new (w : World) (a : Ag) : AgAt (w.alloc (.cells #[.int .i64 a.kind, .int .i64 a.int, .int .u64 a.uint, .string a.text] 31)) w.heap.size a := by
  refine ⟨?_, ?_, ?_, ?_⟩ <;> (rw [cell_of_row _ w.heap.size _ _ _ _ (heap_alloc_new w _)]; rfl)
end Go.Proofs.YtcmfpafcipgejaaDoor

/- Format: shown: what a directive makes of an Arg. -/
namespace Go.Proofs.YtcmfpafcipgejaaDoor
open Go.RowKit

end Go.Proofs.YtcmfpafcipgejaaDoor

/- Format: parse: the directive that a pattern begins with. -/
namespace Go.Proofs.YtcmfpafcipgejaaDoor
open Go.RowKit

end Go.Proofs.YtcmfpafcipgejaaDoor

/- Format: isOf: does a verb show that Arg? -/
namespace Go.Proofs.YtcmfpafcipgejaaDoor
open Go.RowKit


end Go.Proofs.YtcmfpafcipgejaaDoor

/- Format: first: what a pattern's first bytes say. -/
namespace Go.Proofs.YtcmfpafcipgejaaDoor
open Go.RowKit

structure AH (W : World) (b o : Nat) (x : Ag) : Prop where
  c0 : W.cell? ⟨b, o, none⟩ = some (.int .i64 x.kind)
  c1 : W.cell? ⟨b, o + 1, none⟩ = some (.int .i64 x.int)
  c2 : W.cell? ⟨b, o + 2, none⟩ = some (.int .u64 x.uint)
  c3 : W.cell? ⟨b, o + 3, none⟩ = some (.string x.text)
structure AB (x : Ag) : Prop where
  kind : N64 x.kind
  int : N64 x.int
  lo : 0 ≤ x.uint
  hi : x.uint ≤ 18446744073709551615
  text : x.text.size ≤ maxLen
def AgsV (W : World) (v : Value) (l : List Ag) : Prop :=
  ∃ a c, v = .slice a l.length c ∧ l.length ≤ c ∧ (0 < l.length → ∃ b off, a = some ⟨b, off, none⟩ ∧ ∀ j (hj : j < l.length), AH W b (off + j * 4) l[j]) ∧ ∀ x ∈ l, AB x
end Go.Proofs.YtcmfpafcipgejaaDoor

/- Format: a pattern behind another one: what its first bytes say stays. -/
namespace Go.Proofs.YtcmfpafcipgejaaDoor
open Go.RowKit

end Go.Proofs.YtcmfpafcipgejaaDoor

/- Format: the text that a pattern makes of its Args. -/
namespace Go.Proofs.YtcmfpafcipgejaaDoor
open Go.RowKit

theorem str_dropE (s : ByteArray) (a : Nat) : (s.extract a s.size).data.toList = s.data.toList.drop a := by
  have hsz : s.data.toList.length = s.size := by rw [Array.length_toList]; rfl
  rw [ext_list, List.take_of_length_le (by rw [List.length_drop, hsz]; exact Nat.le_refl _)]
end Go.Proofs.YtcmfpafcipgejaaDoor

/- Format: the law's num; the Args that are made of values; alive. -/
namespace Go.Proofs.YtcmfpafcipgejaaDoor
open Go.RowKit

theorem res_ag {fn : Func} {p : Tmp} {w : World} (h : fn.results = #[.cell p 31]) (tmps : Array Value) (g : Nat) (hp : tmps.getD p undef = .pointer (some ⟨g, 0, none⟩)) {x : Ag} (hg : AH w g 0 x) :
    (results fn tmps).run Tryd.prog w = .ok (agV x) w := by
  obtain ⟨h0, h1, h2, h3⟩ := hg
  have hp' : tmps[p]?.getD undef = .pointer (some ⟨g, 0, none⟩) := by simpa using hp
  have a := Tryd.isAgg31
  have b := Tryd.sizeOf31
  have c0 := Tryd.isAgg3
  have c1 := Tryd.sizeOf3
  have c2 := Tryd.underlying3
  have d0 := Tryd.isAgg9
  have d1 := Tryd.sizeOf9
  have d2 := Tryd.underlying9
  have e0 := Tryd.isAgg29
  have e1 := Tryd.sizeOf29
  have e2 := Tryd.underlying29
  unfold agV
  simp only [results, h]
  simp only [loadVar]
  go_simp
theorem AgAt.ah {W : World} {g : Nat} {x : Ag} (h : AgAt W g x) : AH W g 0 x := ⟨h.c0, h.c1, h.c2, h.c3⟩
theorem fint_any (n : Int) (w : World) : Calls Tryd.prog 43 #[.int .i64 n] w fun e w' => e = .returned (agV ⟨1, n, 0, ⟨#[]⟩⟩) ∧ Below w.heap.size w w' := by
  go_enter Tryd.func43, Tryd.ntmps43
  go_wp2
  refine bodyPost_ret (res_ag rfl _ w.heap.size rfl (AgAt.new w ⟨1, n, 0, ⟨#[]⟩⟩).ah) rfl ?_
  exact ⟨rfl, fm_below _ _⟩
theorem fuint_any (n : Int) (w : World) : Calls Tryd.prog 37 #[.int .u64 n] w fun e w' => e = .returned (agV ⟨2, 0, n, ⟨#[]⟩⟩) ∧ Below w.heap.size w w' := by
  go_enter Tryd.func37, Tryd.ntmps37
  go_wp2
  refine bodyPost_ret (res_ag rfl _ w.heap.size rfl (AgAt.new w ⟨2, 0, n, ⟨#[]⟩⟩).ah) rfl ?_
  exact ⟨rfl, fm_below _ _⟩
theorem fbyte_any (n : Int) (h0 : 0 ≤ n) (h1 : n ≤ 255) (w : World) : Calls Tryd.prog 25 #[.int .u8 n] w fun e w' => e = .returned (agV ⟨3, 0, n, ⟨#[]⟩⟩) ∧ Below w.heap.size w w' := by
  have hw : IntKind.u64.wrap n = n := by rw [IntKind.wrap_u64]; omega
  go_enter Tryd.func25, Tryd.ntmps25
  go_wp2
  refine bodyPost_ret (res_ag rfl _ w.heap.size rfl (AgAt.new w ⟨3, 0, n, ⟨#[]⟩⟩).ah) rfl ?_
  exact ⟨rfl, fm_below _ _⟩
theorem ftext_any (s : ByteArray) (w : World) : Calls Tryd.prog 26 #[.string s] w fun e w' => e = .returned (agV ⟨4, 0, 0, s⟩) ∧ Below w.heap.size w w' := by
  go_enter Tryd.func26, Tryd.ntmps26
  go_wp2
  refine bodyPost_ret (res_ag rfl _ w.heap.size rfl (AgAt.new w ⟨4, 0, 0, s⟩).ah) rfl ?_
  exact ⟨rfl, fm_below _ _⟩
def agC (x : Ag) : List Value := [.int .i64 x.kind, .int .i64 x.int, .int .u64 x.uint, .string x.text]
theorem flat_get : ∀ (l : List Ag) (j : Nat) (hj : j < l.length) (i : Nat), i < 4 → (l.flatMap agC)[j * 4 + i]? = (agC l[j])[i]?
  | [], j, hj, _, _ => absurd hj (Nat.not_lt_zero j)
  | x :: l, 0, _, i, hi => by
    rw [List.flatMap_cons, List.getElem?_append_left (by show 0 * 4 + i < 4; omega), Nat.zero_mul, Nat.zero_add]
    rfl
  | x :: l, j + 1, hj, i, hi => by
    rw [List.flatMap_cons, List.getElem?_append_right (by show 4 ≤ _; omega), show (j + 1) * 4 + i - (agC x).length = j * 4 + i by show _ - 4 = _; omega]
    exact flat_get l j (Nat.lt_of_succ_lt_succ hj) i hi
end Go.Proofs.YtcmfpafcipgejaaDoor

/- Scan: what bytes that fit are worth. -/
namespace Go.Proofs.YtcmfpafcipgejaaDoor
open Go.RowKit
theorem trimLeft_any (s c : ByteArray) (w : World) (hc : c.size < 4294967281) (ha : ∀ (j : Nat) b, c.data.toList[j]? = some b → b.toNat < 128) :
    Calls Tryd.prog 42 #[.string s, .string c] w fun e w' => e = .returned (.string ⟨(Lib.trimLeftS s.data.toList c.data.toList).toArray⟩) ∧ Below w.heap.size w w' :=
  Any.strings_TrimLeft_laid Tryd.lays161 (by kernel_rfl) s c w hc ha
theorem drop_dig : ∀ t : List UInt8, Dgs t → t.head? ≠ some 48 → Lib.trimLeftS t [43, 45, 48] = t
  | [], _, _ => rfl
  | c :: r, h, h0 => by
    have hc := h c (List.mem_cons_self ..)
    have h1 : c ≠ 48 := by simpa using h0
    have h2 : c ≠ 43 := fun e => by rw [e] at hc; revert hc; decide
    have h3 : c ≠ 45 := fun e => by rw [e] at hc; revert hc; decide
    unfold Lib.trimLeftS
    rw [List.dropWhile_cons_of_neg]
    simp [h1, h2, h3]
theorem drop_zer (t : List UInt8) (h : Lib.trimLeftS t [43, 45, 48] = t) : ∀ z, Lib.trimLeftS (List.replicate z 48 ++ t) [43, 45, 48] = t
  | 0 => by simpa using h
  | z + 1 => by
    rw [List.replicate_succ, List.cons_append]
    unfold Lib.trimLeftS
    rw [List.dropWhile_cons_of_pos (by decide)]
    exact drop_zer t h z
theorem drop_sg {sg l t : List UInt8} (hs : sg = [] ∨ ∃ c, isSg c = true ∧ sg = [c]) (h : Lib.trimLeftS l [43, 45, 48] = t) : Lib.trimLeftS (sg ++ l) [43, 45, 48] = t := by
  rcases hs with rfl | ⟨c, hc, rfl⟩
  · exact h
  · unfold Lib.trimLeftS
    rw [List.cons_append, List.nil_append, List.dropWhile_cons_of_pos]
    · exact h
    · unfold isSg at hc
      have : c = 43 ∨ c = 45 := by
        rw [Bool.or_eq_true] at hc
        rcases hc with h | h
        · exact .inl (UInt8.toNat_inj.1 (by simpa using h))
        · exact .inr (UInt8.toNat_inj.1 (by simpa using h))
      rcases this with rfl | rfl <;> decide
def ArgB (W : World) (g : Nat) (x : Ag) : Prop := W.heap[g]? = some (.cells #[.int .i64 x.kind, .int .i64 x.int, .int .u64 x.uint, .string x.text] 31)
theorem ArgB.lt {W : World} {g : Nat} {x : Ag} (h : ArgB W g x) : g < W.heap.size := (Array.getElem?_eq_some_iff.1 h).1
theorem ArgB.soft {W : World} {g : Nat} {x : Ag} (h : ArgB W g x) (j : Nat) : W.frozen? ⟨g, j, none⟩ = false := frozen_of_row W g j _ _ h
theorem ArgB.ah {W : World} {g : Nat} {x : Ag} (h : ArgB W g x) : AH W g 0 x := ⟨cell_of_row W g 0 _ _ _ h, cell_of_row W g 1 _ _ _ h, cell_of_row W g 2 _ _ _ h, cell_of_row W g 3 _ _ _ h⟩
theorem ArgB.below {W W' : World} {g : Nat} {x : Ag} (h : ArgB W g x) (hB : Below W.heap.size W W') : ArgB W' g x := (hB.block g h.lt).trans h
theorem ArgB.new (w : World) : ArgB (w.alloc (Obj.cells #[.int .i64 0, .int .i64 0, .int .u64 0, .string ByteArray.empty] 31)) w.heap.size ag0 := heap_alloc_new w _
theorem ArgB.fill {w : World} {g : Nat} {y : Ag} (h : ArgB w g y) (k i u : Int) (t : ByteArray) : ArgB ((((w.setCell ⟨g, 0, none⟩ (.int .i64 k)).setCell ⟨g, 1, none⟩ (.int .i64 i)).setCell ⟨g, 2, none⟩ (.int .u64 u)).setCell ⟨g, 3, none⟩ (.string t)) g ⟨k, i, u, t⟩ := by
  have e0 := Go.heap_setCell_same _ g 0 _ _ (.int .i64 k) h
  simp only [List.setIfInBounds_toArray, List.set_cons_zero] at e0
  have e1 := Go.heap_setCell_same _ g 1 _ _ (.int .i64 i) e0
  simp only [List.setIfInBounds_toArray, List.set_cons_zero, List.set_cons_succ] at e1
  have e2 := Go.heap_setCell_same _ g 2 _ _ (.int .u64 u) e1
  simp only [List.setIfInBounds_toArray, List.set_cons_zero, List.set_cons_succ] at e2
  have e3 := Go.heap_setCell_same _ g 3 _ _ (.string t) e2
  simp only [List.setIfInBounds_toArray, List.set_cons_zero, List.set_cons_succ] at e3
  exact e3
theorem four_set {S : Nat → Prop} {w0 w : World} {g : Nat} (h : Turned S w0 w) (hg : S g ∨ w0.heap.size ≤ g) (a b c d : Value) : Turned S w0 ((((w.setCell ⟨g, 0, none⟩ a).setCell ⟨g, 1, none⟩ b).setCell ⟨g, 2, none⟩ c).setCell ⟨g, 3, none⟩ d) := (((h.set hg).set hg).set hg).set hg
theorem four_below {w0 W : World} (h : Below w0.heap.size w0 W) {g : Nat} (hg : w0.heap.size ≤ g) (a b c d : Value) : Below w0.heap.size w0 ((((W.setCell ⟨g, 0, none⟩ a).setCell ⟨g, 1, none⟩ b).setCell ⟨g, 2, none⟩ c).setCell ⟨g, 3, none⟩ d) :=
  (((h.setCell (p := ⟨g, 0, none⟩) hg _).setCell (p := ⟨g, 1, none⟩) hg _).setCell (p := ⟨g, 2, none⟩) hg _).setCell (p := ⟨g, 3, none⟩) hg _
theorem res_agp {fn : Func} {p u : Tmp} {w : World} (h : fn.results = #[.cell p 31, .tmp u]) (tmps : Array Value) (g : Nat) (hp : tmps.getD p undef = .pointer (some ⟨g, 0, none⟩)) {x : Ag} (hg : ArgB w g x) :
    (results fn tmps).run Tryd.prog w = .ok (.tuple #[agV x, tmps.getD u undef]) w := by
  obtain ⟨h0, h1, h2, h3⟩ := hg.ah
  have hp' : tmps[p]?.getD undef = .pointer (some ⟨g, 0, none⟩) := by simpa using hp
  have a := Tryd.isAgg31
  have b := Tryd.sizeOf31
  have c0 := Tryd.isAgg3
  have c1 := Tryd.sizeOf3
  have c2 := Tryd.underlying3
  have d0 := Tryd.isAgg9
  have d1 := Tryd.sizeOf9
  have d2 := Tryd.underlying9
  have e0 := Tryd.isAgg29
  have e1 := Tryd.sizeOf29
  have e2 := Tryd.underlying29
  unfold agV
  simp only [results, h]
  simp only [loadVar]
  go_simp
def pairV (x : Ag × Int) : Value := .tuple #[agV x.1, .int .i64 x.2]
set_option maxRecDepth 100000 in
set_option maxHeartbeats 4000000 in
theorem valuedInt_any (s : ByteArray) (w : World) (hs : s.size ≤ 4096) {sg ds : List UInt8} (hl : s.data.toList = sg ++ ds) (hsg : sg = [] ∨ ∃ c, isSg c = true ∧ sg = [c]) (hd : Dgs ds) (hn : ds ≠ []) :
    Calls Tryd.prog 36 #[.string s] w fun e w' => e = .returned (pairV (intA (intV s.data.toList))) ∧ Below w.heap.size w w' := by
  obtain ⟨z, t, ht, h0⟩ := zer_split ds
  have hdt : Dgs t := fun c hc => hd c (by rw [ht]; exact List.mem_append_right _ hc)
  have htr : Lib.trimLeftS s.data.toList [43, 45, 48] = t := by rw [hl, ht]; exact drop_sg hsg (drop_zer t (drop_dig t hdt h0) z)
  have HT := hide (fun W => trimLeft_any s ⟨#[43, 45, 48]⟩ W (by decide) (fun j b hb => by have := List.mem_of_getElem? hb; revert this; show b ∈ [43, 45, 48] → _; intro h; simp at h; rcases h with rfl | rfl | rfl <;> decide))
  have HA := ArgB.new w
  have HB0 := hide (fm_below w (Obj.cells #[.int .i64 0, .int .i64 0, .int .u64 0, .string ByteArray.empty] 31))
  rw [show (⟨#[43, 45, 48]⟩ : ByteArray).data.toList = [43, 45, 48] from rfl, htr] at HT
  rw [hl]
  rw [ht] at hn ⊢
  by_cases hte : t = []
  · subst hte
    rw [int_zero hsg hn]
    unfold pairV intA
    go_enter Tryd.func36, Tryd.ntmps36
    go_wp2_with fail
    refine (HT.out _).mono ?_
    rintro _ w1 ⟨rfl, hB⟩
    have HA1 := hide (HA.below hB)
    have HB1 := hide (HB0.out.trans (hB.mono HB0.out.size))
    clear hB HA
    go_wp2_with fail
    refine (fint_any 0 _).mono ?_
    rintro _ w2 ⟨rfl, hB⟩
    have HA2 := HA1.out.below hB
    have HB2 := hide (HB1.out.trans (hB.mono HB1.out.size))
    have HA2' := hide HA2
    have k0 := HA2.ah.c0
    have k1 := HA2.ah.c1
    have k2 := HA2.ah.c2
    have k3 := HA2.ah.c3
    have f0 := HA2.soft
    clear hB HA2
    unfold agV
    go_wp2
    refine bodyPost_ret (res_agp rfl _ w.heap.size rfl (HA2'.out.fill 1 0 0 ⟨#[]⟩)) rfl ?_
    exact ⟨rfl, four_below HB2.out (Nat.le_refl _) _ _ _ _⟩
  · have hs0 : 0 < s.size := by
      have : s.data.toList.length = s.size := by rw [Array.length_toList]; rfl
      rw [hl, List.length_append] at this
      have : 0 < ds.length := List.length_pos_iff.2 (by rw [ht]; exact hn)
      omega
    obtain ⟨X, hX⟩ : ∃ X : ByteArray, (⟨t.toArray⟩ : ByteArray) = X := ⟨_, rfl⟩
    have hXl : X.data.toList = t := by rw [← hX]
    rw [hX] at HT
    have hXs : X.size ≤ 4096 ∧ X.size ≠ 0 := by
      have h1 : X.data.toList.length = X.size := by rw [Array.length_toList]; rfl
      have h2 : s.data.toList.length = s.size := by rw [Array.length_toList]; rfl
      rw [hl, ht, List.length_append, List.length_append] at h2
      rw [hXl] at h1
      have : 0 < t.length := List.length_pos_iff.2 hte
      omega
    have hem := empty_no X hXs.2
    have hi : ((s[0].toNat : Int) == 45) = decide (sg = [45]) := by
      have h1 : s.data.toList[0]? = some s[0] := by
        rw [show s.data.toList[0]? = s.data[0]? from by simp, show s.data[0]? = s[0]? from rfl, getElem?_pos s 0 hs0]
      rw [hl] at h1
      rcases hsg with rfl | ⟨c, hc, rfl⟩
      · have h2 : s[0] ∈ ds := by
          rw [List.nil_append] at h1
          exact List.mem_of_getElem? h1
        have := hd _ h2
        rw [decide_eq_false (by simp)]
        simp
        omega
      · have h3 : s[0] = c := by
          have : some c = some s[0] := h1
          exact (Option.some.inj this).symm
        rw [h3, Bool.eq_iff_iff, beq_iff_eq, decide_eq_true_iff]
        exact ⟨fun e => by rw [show c = 45 from UInt8.toNat_inj.1 (show c.toNat = 45 by omega)], fun e => by cases e; rfl⟩
    have hne0 : (0 : Int) < (s.size : Int) := by omega
    have hfin : ∀ v e, PI (if sg = [45] then 45 :: t else t) v e → (e = 0 ∧ intV (sg ++ (List.replicate z 48 ++ t)) = some v) ∨ (e = 11 ∧ intV (sg ++ (List.replicate z 48 ++ t)) = none) := fun v e h => int_parse hsg hdt hte h0 h
    have HFin := hide hfin
    have HX := hide hXl
    have HHi := hide hi
    generalize intV (sg ++ (List.replicate z 48 ++ t)) = I at *
    have hxs := hXs.1
    clear hl hsg hd hn ht h0 hdt htr hte hX hXl hXs hfin
    have tail : ∀ (S : ByteArray) (w1 : World), S.size ≤ maxLen → S.data.toList = (if sg = [45] then 45 :: t else t) → True := fun _ _ _ _ => trivial
    clear tail
    by_cases hm : sg = [45]
    · subst hm
      rw [decide_eq_true rfl] at hi
      have HP := hide (fun W => parseInt_any (⟨#[45]⟩ ++ X) W (by unfold maxLen; rw [ByteArray.size_append]; show 1 + X.size ≤ _; omega))
      have hpl : (⟨#[45]⟩ ++ X : ByteArray).data.toList = 45 :: t := by rw [ByteArray.data_append, Array.toList_append, HX.out]; rfl
      rw [hpl] at HP
      have hsz : (⟨#[45]⟩ : ByteArray).size + X.size ≤ 9223372036854775807 := by show 1 + X.size ≤ _; omega
      have hsz2 : ¬ 9223372036854775807 < (⟨#[45]⟩ : ByteArray).size + X.size := by omega
      rw [if_pos rfl] at HFin
      clear hpl HHi
      go_enter Tryd.func36, Tryd.ntmps36
      go_wp2_with fail
      refine (HT.out _).mono ?_
      rintro _ w1 ⟨rfl, hB⟩
      have HA1 := hide (HA.below hB)
      have HB1 := hide (HB0.out.trans (hB.mono HB0.out.size))
      clear hB HA
      go_wp2_with fail
      refine (HP.out _).mono ?_
      rintro _ w2 ⟨⟨v, x, hp, rfl⟩, hB⟩
      have HA2 := hide (HA1.out.below hB)
      have HB2 := hide (HB1.out.trans (hB.mono HB1.out.size))
      have hI := HFin.out v x hp
      clear hB hp HP HT HFin
      rcases hI with ⟨rfl, hI⟩ | ⟨rfl, hI⟩
      · subst hI
        go_wp2_with fail
        refine (fint_any v _).mono ?_
        rintro _ w3 ⟨rfl, hB⟩
        have HA3 := HA2.out.below hB
        have HB3 := hide (HB2.out.trans (hB.mono HB2.out.size))
        have HA3' := hide HA3
        have k0 := HA3.ah.c0
        have k1 := HA3.ah.c1
        have k2 := HA3.ah.c2
        have k3 := HA3.ah.c3
        have f0 := HA3.soft
        clear hB HA3
        unfold agV
        go_wp2
        refine bodyPost_ret (res_agp rfl _ w.heap.size rfl (HA3'.out.fill 1 v 0 ⟨#[]⟩)) rfl ?_
        exact ⟨rfl, four_below HB3.out (Nat.le_refl _) _ _ _ _⟩
      · subst hI
        have k0 := HA2.out.ah.c0
        have k1 := HA2.out.ah.c1
        have k2 := HA2.out.ah.c2
        have k3 := HA2.out.ah.c3
        have f0 := HA2.out.soft
        go_wp2
        refine bodyPost_ret (res_agp rfl _ w.heap.size rfl (HA2.out.fill 0 0 0 ByteArray.empty)) rfl ?_
        exact ⟨rfl, four_below HB2.out (Nat.le_refl _) _ _ _ _⟩
    · rw [decide_eq_false hm] at hi
      have HP := hide (fun W => parseInt_any X W (by unfold maxLen; omega))
      rw [HX.out] at HP
      rw [if_neg hm] at HFin
      clear HHi
      go_enter Tryd.func36, Tryd.ntmps36
      go_wp2_with fail
      refine (HT.out _).mono ?_
      rintro _ w1 ⟨rfl, hB⟩
      have HA1 := hide (HA.below hB)
      have HB1 := hide (HB0.out.trans (hB.mono HB0.out.size))
      clear hB HA
      go_wp2_with fail
      refine (HP.out _).mono ?_
      rintro _ w2 ⟨⟨v, x, hp, rfl⟩, hB⟩
      have HA2 := hide (HA1.out.below hB)
      have HB2 := hide (HB1.out.trans (hB.mono HB1.out.size))
      have hI := HFin.out v x hp
      clear hB hp HP HT HFin
      rcases hI with ⟨rfl, hI⟩ | ⟨rfl, hI⟩
      · subst hI
        go_wp2_with fail
        refine (fint_any v _).mono ?_
        rintro _ w3 ⟨rfl, hB⟩
        have HA3 := HA2.out.below hB
        have HB3 := hide (HB2.out.trans (hB.mono HB2.out.size))
        have HA3' := hide HA3
        have k0 := HA3.ah.c0
        have k1 := HA3.ah.c1
        have k2 := HA3.ah.c2
        have k3 := HA3.ah.c3
        have f0 := HA3.soft
        clear hB HA3
        unfold agV
        go_wp2
        refine bodyPost_ret (res_agp rfl _ w.heap.size rfl (HA3'.out.fill 1 v 0 ⟨#[]⟩)) rfl ?_
        exact ⟨rfl, four_below HB3.out (Nat.le_refl _) _ _ _ _⟩
      · subst hI
        have k0 := HA2.out.ah.c0
        have k1 := HA2.out.ah.c1
        have k2 := HA2.out.ah.c2
        have k3 := HA2.out.ah.c3
        have f0 := HA2.out.soft
        go_wp2
        refine bodyPost_ret (res_agp rfl _ w.heap.size rfl (HA2.out.fill 0 0 0 ByteArray.empty)) rfl ?_
        exact ⟨rfl, four_below HB2.out (Nat.le_refl _) _ _ _ _⟩
end Go.Proofs.YtcmfpafcipgejaaDoor

/- Scan: the closure that a verb's bytes fit. -/
namespace Go.Proofs.YtcmfpafcipgejaaDoor
open Go.RowKit
theorem digits_any (b : Nat) (w : World) : Calls Tryd.prog 30 #[.int .i64 (b : Int)] w fun e w' => e = .returned (.func (.func 38) #[] #[.pointer (some ⟨w.heap.size, 0, none⟩)]) ∧ w' = w.alloc (Obj.cells #[.int .i64 (b : Int)] 3) := by
  go_enter Tryd.func30, Tryd.ntmps30
  go_wp2
  go_ret
  exact ⟨rfl, rfl⟩
theorem signed_any (k : FuncId) (cs : Array Value) (w : World) : Calls Tryd.prog 33 #[.func (.func k) #[] cs] w fun e w' => e = .returned (.func (.func 41) #[] #[.pointer (some ⟨w.heap.size + 1, 0, none⟩), .pointer (some ⟨w.heap.size, 0, none⟩)]) ∧ w' = (w.alloc (Obj.cells #[.func (.func k) #[] cs] 54)).alloc (Obj.cells #[.bool false] 4) := by
  go_enter Tryd.func33, Tryd.ntmps33
  go_wp2
  go_ret
  exact ⟨rfl, rfl⟩
def FitOf (v : UInt8) (w : World) (x : Value) (w' : World) : Prop := Below w.heap.size w w' ∧ ∃ ff caps F FK FAt, x = .func (.func ff) #[] caps ∧ FitM (fitV v) ff caps F FK FAt ∧ FAt w' false ∧ (∀ j, F j ∨ FK j → w.heap.size ≤ j ∧ j < w'.heap.size) ∧ ∀ j, FK j → ¬ F j
theorem fit_s {v : UInt8} (h : v.toNat = 115) : fitV v = fun q c => (!isBl c, q) := by
  funext q c
  unfold fitV
  rw [if_pos h]
theorem fit_d {v : UInt8} (h : v.toNat = 100) : fitV v = fun q c => ((!q && isSg c) || digB 10 c, true) := by
  funext q c
  unfold fitV
  rw [if_neg (by omega), if_pos h]
theorem fit_o {v : UInt8} (h : v.toNat ≠ 115) (h2 : v.toNat ≠ 100) : fitV v = fun q c => (digB (baseS v) c, q) := by
  funext q c
  unfold fitV
  rw [if_neg h, if_neg h2]
theorem baseS_bd (v : UInt8) : 2 ≤ baseS v ∧ baseS v ≤ 16 := by
  unfold baseS
  split
  · omega
  · split <;> omega
theorem sgn_new (w : World) : Below w.heap.size w (((w.alloc (Obj.cells #[.int .i64 10] 3)).alloc (Obj.cells #[.func (.func 38) #[] #[.pointer (some ⟨w.heap.size, 0, none⟩)]] 54)).alloc (Obj.cells #[.bool false] 4)) ∧ (((w.alloc (Obj.cells #[.int .i64 10] 3)).alloc (Obj.cells #[.func (.func 38) #[] #[.pointer (some ⟨w.heap.size, 0, none⟩)]] 54)).alloc (Obj.cells #[.bool false] 4)).heap.size = w.heap.size + 3 ∧ SgAt (w.heap.size + 1 + 1) (w.heap.size + 1) w.heap.size (((w.alloc (Obj.cells #[.int .i64 10] 3)).alloc (Obj.cells #[.func (.func 38) #[] #[.pointer (some ⟨w.heap.size, 0, none⟩)]] 54)).alloc (Obj.cells #[.bool false] 4)) false := by
  have z1 : (w.alloc (Obj.cells #[.int .i64 10] 3)).heap.size = w.heap.size + 1 := Array.size_push ..
  have z2 : ((w.alloc (Obj.cells #[.int .i64 10] 3)).alloc (Obj.cells #[.func (.func 38) #[] #[.pointer (some ⟨w.heap.size, 0, none⟩)]] 54)).heap.size = w.heap.size + 1 + 1 := by rw [← z1]; exact Array.size_push ..
  have z3 : (((w.alloc (Obj.cells #[.int .i64 10] 3)).alloc (Obj.cells #[.func (.func 38) #[] #[.pointer (some ⟨w.heap.size, 0, none⟩)]] 54)).alloc (Obj.cells #[.bool false] 4)).heap.size = w.heap.size + 1 + 1 + 1 := by rw [← z2]; exact Array.size_push ..
  have b1 := fm_below w (Obj.cells #[.int .i64 10] 3)
  have b2 := fm_below (w.alloc (Obj.cells #[.int .i64 10] 3)) (Obj.cells #[.func (.func 38) #[] #[.pointer (some ⟨w.heap.size, 0, none⟩)]] 54)
  have b3 := fm_below ((w.alloc (Obj.cells #[.int .i64 10] 3)).alloc (Obj.cells #[.func (.func 38) #[] #[.pointer (some ⟨w.heap.size, 0, none⟩)]] 54)) (Obj.cells #[.bool false] 4)
  have k1 := heap_alloc_new w (Obj.cells #[.int .i64 10] 3)
  have k2 := heap_alloc_new (w.alloc (Obj.cells #[.int .i64 10] 3)) (Obj.cells #[.func (.func 38) #[] #[.pointer (some ⟨w.heap.size, 0, none⟩)]] 54)
  have k3 := heap_alloc_new ((w.alloc (Obj.cells #[.int .i64 10] 3)).alloc (Obj.cells #[.func (.func 38) #[] #[.pointer (some ⟨w.heap.size, 0, none⟩)]] 54)) (Obj.cells #[.bool false] 4)
  rw [z1] at k2
  rw [z2] at k3
  have m1 := (b3.block w.heap.size (by omega)).trans ((b2.block w.heap.size (by omega)).trans k1)
  have m2 := (b3.block (w.heap.size + 1) (by omega)).trans k2
  refine ⟨(b1.trans (b2.mono (by omega))).trans (b3.mono (by omega)), z3, ?_, ?_, ?_, ?_⟩
  · exact cell_of_row _ (w.heap.size + 1 + 1) 0 _ _ _ k3
  · exact frozen_of_row _ (w.heap.size + 1 + 1) 0 _ _ k3
  · exact cell_of_row _ (w.heap.size + 1) 0 _ _ _ m2
  · exact cell_of_row _ w.heap.size 0 _ _ _ m1
set_option maxRecDepth 100000 in
set_option maxHeartbeats 2000000 in
theorem fitting_any (v : UInt8) (w : World) : Calls Tryd.prog 27 #[.int .u8 (v.toNat : Int)] w fun e w' => ∃ x, e = .returned x ∧ FitOf v w x w' := by
  by_cases h1 : v.toNat = 115
  · have h1' : (v.toNat : Int) = 115 := by omega
    have HF := hide (fit_s h1)
    rw [h1']
    clear h1 h1'
    go_enter Tryd.func27, Tryd.ntmps27
    go_wp2
    go_ret
    exact ⟨_, rfl, Below.refl _ _, _, _, none_, none_, calm, rfl, by rw [HF.out]; exact fitNotBl, trivial, fun _ e => e.elim False.elim False.elim, fun _ e => e.elim⟩
  · by_cases h2 : v.toNat = 100
    · have h2' : (v.toNat : Int) = 100 := by omega
      have HF := hide (fit_d h2)
      have HB := hide (baseOf_any v w)
      have hb : baseS v = 10 := by unfold baseS; rw [if_neg (by omega), if_neg (by omega)]
      rw [hb] at HB
      rw [h2'] at HB ⊢
      clear h1 h2 h2' hb
      go_enter Tryd.func27, Tryd.ntmps27
      go_wp2_with fail
      refine HB.out.mono ?_
      rintro _ _ ⟨rfl, rfl⟩
      go_wp2_with fail
      refine (digits_any 10 _).mono ?_
      rintro _ _ ⟨rfl, rfl⟩
      go_wp2_with fail
      refine (signed_any _ _ _).mono ?_
      rintro _ _ ⟨rfl, rfl⟩
      go_wp2
      go_ret
      obtain ⟨a1, a2, a3⟩ := sgn_new w
      exact ⟨_, rfl, a1, _, _, (fun j => j = w.heap.size + 1 + 1), (fun j => j = w.heap.size + 1 ∨ j = w.heap.size), _, rfl, by rw [HF.out]; exact fitSgn _ _ _ (by omega) (by omega), a3, fun j e => by
        rw [a2]
        rcases e with rfl | rfl | rfl <;> omega, fun j e e2 => by rcases e with e | e <;> omega⟩
    · have HF := hide (fit_o h1 h2)
      have h1' : ((v.toNat : Int) == 115) = false := by simp; omega
      have h2' : ((v.toNat : Int) == 100) = false := by simp; omega
      have HB := hide (baseOf_any v w)
      have hbd := hide (baseS_bd v)
      clear h1 h2
      go_enter Tryd.func27, Tryd.ntmps27
      go_wp2_with fail
      refine HB.out.mono ?_
      rintro _ _ ⟨rfl, rfl⟩
      go_wp2_with fail
      refine (digits_any _ _).mono ?_
      rintro _ _ ⟨rfl, rfl⟩
      go_wp2
      go_ret
      exact ⟨_, rfl, fm_below _ _, _, _, none_, (fun j => j = w.heap.size), _, rfl, by rw [HF.out]; exact fitDig _ hbd.out.1 hbd.out.2 w.heap.size, cell_of_row _ w.heap.size 0 _ _ _ (heap_alloc_new w _), fun j e => by
        rcases e with e | rfl
        · exact e.elim
        · exact ⟨Nat.le_refl _, size_new _ _⟩, fun _ _ e => e⟩
end Go.Proofs.YtcmfpafcipgejaaDoor

/- Scan: a pattern's parts. -/
namespace Go.Proofs.YtcmfpafcipgejaaDoor
open Go.RowKit
def ptV (p : Pt) : Value := .agg #[.int .u8 (p.verb.toNat : Int), .int .u8 (p.want.toNat : Int), .bool p.quiet, .int .i64 (p.wd : Int), .int .i64 (p.len : Int)]
theorem u8_int (c : UInt8) (k : Nat) : ((c.toNat : Int) == (k : Int)) = (c.toNat == k) := by
  rw [Bool.eq_iff_iff, beq_iff_eq, beq_iff_eq]; omega
set_option maxHeartbeats 2000000 in
theorem tells_any (p : Pt) (w : World) : Calls Tryd.prog 10 #[ptV p] w fun e w' => e = .returned (.bool p.tells) ∧ w' = w.alloc (Obj.cells #[.int .u8 (p.verb.toNat : Int), .int .u8 (p.want.toNat : Int), .bool p.quiet, .int .i64 (p.wd : Int), .int .i64 (p.len : Int)] 46) := by
  have h1 : ((p.verb.toNat : Int) != 32) = (p.verb.toNat != 32) := congrArg Bool.not (u8_int p.verb 32)
  have h2 : ((p.verb.toNat : Int) != 37) = (p.verb.toNat != 37) := congrArg Bool.not (u8_int p.verb 37)
  unfold Pt.tells ptV
  rw [← h1, ← h2]
  clear h1 h2
  cases hq : p.quiet
  all_goals
    by_cases h1 : ((p.verb.toNat : Int) != 32) = true
    · by_cases h2 : ((p.verb.toNat : Int) != 37) = true
      · go_enter Tryd.func10, Tryd.ntmps10
        go_wp2
        go_ret
        exact ⟨by simp_all, rfl⟩
      · have h2 : ((p.verb.toNat : Int) != 37) = false := by simpa using h2
        go_enter Tryd.func10, Tryd.ntmps10
        go_wp2
        go_ret
        exact ⟨by simp_all, rfl⟩
    · have h1 : ((p.verb.toNat : Int) != 32) = false := by simpa using h1
      go_enter Tryd.func10, Tryd.ntmps10
      go_wp2
      go_ret
      exact ⟨by simp_all, rfl⟩
set_option maxHeartbeats 2000000 in
theorem most_any (p : Pt) (w : World) : Calls Tryd.prog 23 #[ptV p] w fun e w' => e = .returned (.int .i64 (p.most : Int)) ∧ w' = w.alloc (Obj.cells #[.int .u8 (p.verb.toNat : Int), .int .u8 (p.want.toNat : Int), .bool p.quiet, .int .i64 (p.wd : Int), .int .i64 (p.len : Int)] 46) := by
  have e1 := u8_int p.verb 99
  unfold ptV
  by_cases h1 : 0 < p.wd
  · have h1' : (0 : Int) < (p.wd : Int) := by omega
    have hm : p.most = p.wd := by unfold Pt.most; rw [if_pos h1]
    rw [hm]
    clear e1 hm
    go_enter Tryd.func23, Tryd.ntmps23
    go_wp2
    go_ret
    exact ⟨rfl, rfl⟩
  · have h1' : ¬ (0 : Int) < (p.wd : Int) := by omega
    by_cases h2 : p.verb.toNat = 99
    · have hm : p.most = 1 := by unfold Pt.most; rw [if_neg h1, if_pos h2]
      have h3 : ((p.verb.toNat : Int) == 99) = true := by rw [show ((99 : Int)) = ((99 : Nat) : Int) from rfl, e1]; simp [h2]
      rw [hm]
      clear e1 hm h2
      go_enter Tryd.func23, Tryd.ntmps23
      go_wp2
      go_ret
      exact ⟨rfl, rfl⟩
    · have hm : p.most = 4096 := by unfold Pt.most; rw [if_neg h1, if_neg h2]
      have h3 : ((p.verb.toNat : Int) == 99) = false := by rw [show ((99 : Int)) = ((99 : Nat) : Int) from rfl, e1]; simp [h2]
      rw [hm]
      clear e1 hm h2
      go_enter Tryd.func23, Tryd.ntmps23
      go_wp2
      go_ret
      exact ⟨rfl, rfl⟩
theorem sIsVerb_any (c : UInt8) (a : Int) (w : World) : Calls Tryd.prog 19 #[.int .u8 (c.toNat : Int), .int .i64 a] w fun e w' => e = .returned (.bool (sv c.toNat || (c.toNat == 37 && a == 1))) ∧ w = w' := by
  have h : (sv c.toNat || (c.toNat == 37 && a == 1)) = (((((((c.toNat : Int) == 100 || (c.toNat : Int) == 117) || (c.toNat : Int) == 120) || (c.toNat : Int) == 111) || (c.toNat : Int) == 99) || (c.toNat : Int) == 115) || ((c.toNat : Int) == 37 && a == 1)) := by
    unfold sv
    rw [← u8_int c 100, ← u8_int c 117, ← u8_int c 120, ← u8_int c 111, ← u8_int c 99, ← u8_int c 115, ← u8_int c 37]
    rfl
  rw [h]
  clear h
  generalize (c.toNat : Int) = x
  rcases (show (x = 100 ∨ x = 117 ∨ x = 120 ∨ x = 111 ∨ x = 99 ∨ x = 115) ∨ (x ≠ 100 ∧ x ≠ 117 ∧ x ≠ 120 ∧ x ≠ 111 ∧ x ≠ 99 ∧ x ≠ 115) by omega) with h | ⟨h1, h2, h3, h4, h5, h6⟩
  · rcases h with rfl | rfl | rfl | rfl | rfl | rfl
    all_goals
      go_enter Tryd.func19, Tryd.ntmps19
      go_wp2
      go_ret
      exact ⟨rfl, rfl⟩
  · have h1' : (x == 100) = false := by simpa using h1
    have h2' : (x == 117) = false := by simpa using h2
    have h3' : (x == 120) = false := by simpa using h3
    have h4' : (x == 111) = false := by simpa using h4
    have h5' : (x == 99) = false := by simpa using h5
    have h6' : (x == 115) = false := by simpa using h6
    by_cases h7 : x = 37
    · subst h7
      go_enter Tryd.func19, Tryd.ntmps19
      go_wp2
      go_ret
      exact ⟨by simp, rfl⟩
    · have h7' : (x == 37) = false := by simpa using h7
      go_enter Tryd.func19, Tryd.ntmps19
      go_wp2
      go_ret
      exact ⟨by simp [h1', h2', h3', h4', h5', h6', h7'], rfl⟩
end Go.Proofs.YtcmfpafcipgejaaDoor

/- Scan: whether bytes are as many as must be; what they become. -/
namespace Go.Proofs.YtcmfpafcipgejaaDoor
open Go.RowKit
set_option maxHeartbeats 1000000 in
theorem hasLeast_any (a : Option Addr) (cp : Nat) (l : List UInt8) (v : UInt8) (w : World) (h : Bys w (.slice a l.length cp) l) :
    Calls Tryd.prog 28 #[.slice a l.length cp, .int .u8 (v.toNat : Int)] w fun e w' => e = .returned (.bool (leastV l v)) ∧ w = w' := by
  by_cases h1 : v.toNat = 100 ∧ l.length = 1
  · have hm : leastV l v = !isSg (l.getD 0 0) := by unfold leastV; rw [if_pos h1]
    rw [hm]
    obtain ⟨h1, h2⟩ := h1
    have ev : ((v.toNat : Int) == 100) = true := by simp; omega
    obtain ⟨-, qb, qo, rfl, hqb, hc⟩ := bys_block h (by omega)
    have hc0 := hc 0 (by omega)
    rw [Nat.add_zero] at hc0
    have e2 : ((l.length : Int) == 1) = true := by simp [h2]
    have e3 : (0 : Int) < (l.length : Int) := by omega
    have e3' : 0 < l.length := by omega
    have HS := hide (isSign_any (l.getD 0 0) w)
    generalize l.getD 0 0 = ch at *
    generalize isSg ch = sg at *
    clear h hc hm h1 h2
    cases sg
    all_goals
      go_enter Tryd.func28, Tryd.ntmps28
      go_wp2_with fail
      refine HS.out.mono ?_
      rintro _ _ ⟨rfl, rfl⟩
      go_wp2
      go_ret
      exact ⟨rfl, rfl⟩
  · have hm : leastV l v = decide (0 < l.length) := by unfold leastV; rw [if_neg h1]
    rw [hm]
    by_cases h2 : v.toNat = 100
    · have h3 : ¬ l.length = 1 := fun e => h1 ⟨h2, e⟩
      have e2 : ((l.length : Int) == 1) = false := by simp; omega
      have ev : ((v.toNat : Int) == 100) = true := by simp; omega
      clear h hm h1 h2
      go_enter Tryd.func28, Tryd.ntmps28
      go_wp2
      go_ret
      exact ⟨rfl, rfl⟩
    · have ev : ((v.toNat : Int) == 100) = false := by simp; omega
      clear h hm h1 h2
      go_enter Tryd.func28, Tryd.ntmps28
      go_wp2
      go_ret
      exact ⟨rfl, rfl⟩
def IntL (l : List UInt8) : Prop := ∃ sg ds, (sg = [] ∨ ∃ c, isSg c = true ∧ sg = [c]) ∧ l = sg ++ ds ∧ Dgs ds ∧ ds ≠ []
set_option maxRecDepth 100000 in
set_option maxHeartbeats 4000000 in
theorem valued_any (s : ByteArray) (v : UInt8) (w : World) (hs : s.size ≤ 4096) (hi : v.toNat = 100 → IntL s.data.toList) :
    Calls Tryd.prog 29 #[.string s, .int .u8 (v.toNat : Int)] w fun e w' => e = .returned (pairV (worthV s.data.toList v)) ∧ Below w.heap.size w w' := by
  have HA := ArgB.new w
  have HB0 := hide (fm_below w (Obj.cells #[.int .i64 0, .int .i64 0, .int .u64 0, .string ByteArray.empty] 31))
  by_cases h1 : v.toNat = 115
  · have e1 : (v.toNat : Int) = 115 := by omega
    have hw : worthV s.data.toList v = (⟨4, 0, 0, s⟩, 0) := by unfold worthV; rw [if_pos h1]
    rw [hw, e1]
    have HA1 := hide HA
    clear h1 e1 hw hi HA
    go_enter Tryd.func29, Tryd.ntmps29
    go_wp2_with fail
    refine (ftext_any s _).mono ?_
    rintro _ w2 ⟨rfl, hB⟩
    have HA2 := HA1.out.below hB
    have HB2 := hide (HB0.out.trans (hB.mono HB0.out.size))
    have HA2' := hide HA2
    have k0 := HA2.ah.c0
    have k1 := HA2.ah.c1
    have k2 := HA2.ah.c2
    have k3 := HA2.ah.c3
    have f0 := HA2.soft
    clear hB HA2
    unfold agV
    go_wp2
    refine bodyPost_ret (res_agp rfl _ w.heap.size rfl (HA2'.out.fill 4 0 0 s)) rfl ?_
    exact ⟨rfl, four_below HB2.out (Nat.le_refl _) _ _ _ _⟩
  · have n1 : ((v.toNat : Int) == 115) = false := by simp; omega
    by_cases h2 : v.toNat = 100
    · have e1 : (v.toNat : Int) = 100 := by omega
      obtain ⟨sg, ds, i1, i2, i3, i4⟩ := hi h2
      have HV := hide (fun W => valuedInt_any s W hs i2 i1 i3 i4)
      have hw : worthV s.data.toList v = intA (intV s.data.toList) := by unfold worthV; rw [if_neg h1, if_pos h2]
      rw [hw, e1]
      generalize intA (intV s.data.toList) = A at *
      obtain ⟨⟨ka, ia, ua, ta⟩, ea⟩ := A
      have HA1 := hide HA
      clear h1 h2 n1 e1 hw hi HA i1 i2 i3 i4
      go_enter Tryd.func29, Tryd.ntmps29
      go_wp2_with fail
      refine (HV.out _).mono ?_
      rintro _ w2 ⟨rfl, hB⟩
      have HA2 := HA1.out.below hB
      have HB2 := hide (HB0.out.trans (hB.mono HB0.out.size))
      have HA2' := hide HA2
      have k0 := HA2.ah.c0
      have k1 := HA2.ah.c1
      have k2 := HA2.ah.c2
      have k3 := HA2.ah.c3
      have f0 := HA2.soft
      clear hB HA2
      unfold pairV agV
      go_wp2
      refine bodyPost_ret (res_agp rfl _ w.heap.size rfl (HA2'.out.fill ka ia ua ta)) rfl ?_
      exact ⟨rfl, four_below HB2.out (Nat.le_refl _) _ _ _ _⟩
    · have n2 : ((v.toNat : Int) == 100) = false := by simp; omega
      have HBo := hide (fun W => baseOf_any v W)
      have HP := hide (fun W => parseBase_any s (baseS v : Int) W (by unfold maxLen; omega))
      have hw : worthV s.data.toList v = if (parseB (baseS v) s.data.toList).2.1 ≠ 0 then (ag0, 181) else (⟨2, 0, (parseB (baseS v) s.data.toList).1, ⟨#[]⟩⟩, 0) := by unfold worthV; rw [if_neg h1, if_neg h2]
      rw [hw]
      generalize parseB (baseS v) s.data.toList = P at *
      obtain ⟨p1, p2, p3⟩ := P
      have HA1 := hide HA
      simp only at HP ⊢
      clear h1 h2 hw hi HA
      by_cases he : p2 = 0
      · subst he
        rw [if_neg (by simp)]
        go_enter Tryd.func29, Tryd.ntmps29
        go_wp2_with fail
        refine (HBo.out _).mono ?_
        rintro _ _ ⟨rfl, rfl⟩
        go_wp2_with fail
        refine (HP.out _).mono ?_
        rintro _ _ ⟨rfl, rfl⟩
        go_wp2_with fail
        refine (fuint_any p1 _).mono ?_
        rintro _ w2 ⟨rfl, hB⟩
        have HA2 := HA1.out.below hB
        have HB2 := hide (HB0.out.trans (hB.mono HB0.out.size))
        have HA2' := hide HA2
        have k0 := HA2.ah.c0
        have k1 := HA2.ah.c1
        have k2 := HA2.ah.c2
        have k3 := HA2.ah.c3
        have f0 := HA2.soft
        clear hB HA2
        unfold agV
        go_wp2
        refine bodyPost_ret (res_agp rfl _ w.heap.size rfl (HA2'.out.fill 2 0 p1 ⟨#[]⟩)) rfl ?_
        exact ⟨rfl, four_below HB2.out (Nat.le_refl _) _ _ _ _⟩
      · rw [if_pos he]
        have he' : (p2 == 0) = false := by simp [he]
        have he2 : (p2 != 0) = true := by simp [he]
        have k0 := HA1.out.ah.c0
        have k1 := HA1.out.ah.c1
        have k2 := HA1.out.ah.c2
        have k3 := HA1.out.ah.c3
        have f0 := HA1.out.soft
        go_enter Tryd.func29, Tryd.ntmps29
        go_wp2_with fail
        refine (HBo.out _).mono ?_
        rintro _ _ ⟨rfl, rfl⟩
        go_wp2_with fail
        refine (HP.out _).mono ?_
        rintro _ _ ⟨rfl, rfl⟩
        go_wp2
        refine bodyPost_ret (res_agp rfl _ w.heap.size rfl HA1.out) rfl ?_
        exact ⟨rfl, HB0.out⟩
end Go.Proofs.YtcmfpafcipgejaaDoor

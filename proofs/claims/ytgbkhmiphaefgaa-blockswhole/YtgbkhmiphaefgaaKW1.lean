/- What the proof stands on, part 1: the contracts of the program's calls that it reaches. -/
import Derived.Test.YtgbkhmiphaefgaaRows
import Derived.WalkKit
import Derived.WalkSpells
import Derived.WalkLawsBesides
import Derived.OwnWalkIn
import Derived.RangeFuncBox
import Derived.Laws.IdiomStrings
import Derived.Maps.AppendAt
import Derived.Laws.AppendOwnNone
import Derived.Laws.OwnMore
import Derived.Deep.QuietTactic
import Derived.BigQuiet
import Derived.Lib.AppendZerosOnto
import Derived.Laws.CopyOwn
import Derived.Deep.RegionHeld3
import Derived.Deep.AppendLies
import Derived.Lib.AppendZeros
import Derived.Deep.Upon
import Derived.Lib.MinMax
import Derived.Lib.BufferMore
/- What the small functions of num and of its reference answer, for every input: value, isBase. -/
namespace Go.Proofs.Ytgbkhmiphaefgaa
open Go.RowKit

theorem hide {p : Prop} (h : p) : Hid p := h
theorem ret_int {k : IntKind} {a b : Int} (h : a = b) : Ending.returned (.int k a) = .returned (.int k b) := by rw [h]
theorem ret_bool {a b : Bool} (h : a = b) : Ending.returned (.bool a) = .returned (.bool b) := by rw [h]

end Go.Proofs.Ytgbkhmiphaefgaa

/- Laws of walks that the library lacks: an append to a slice of the call's own at a step of a region that draws its order, inside a fence. -/
namespace Go.Proofs.Ytgbkhmiphaefgaa
open Go.RowKit

def bv (c : UInt8) : Value := .int .u8 (c.toNat : Int)

theorem Try.infoB : (Try.prog.info? 5).map (fun i => (i.zero, i.size, i.bytes)) = some (some (.int .u8 0), 1, 1) := by kernel_rfl

theorem owns_cells {W : World} {base : Nat} {g cap k : Nat} {l : List UInt8} (h : W.ownsRow base 5 1 (.slice (some ⟨g, 0, none⟩) k cap) k (l.map bv)) :
    ∀ j (hj : j < l.length), W.cell? ⟨g, j, none⟩ = some (.int .u8 (l[j].toNat : Int)) := by
  intro j hj
  rcases h.2 with ⟨h0, _⟩ | ⟨g', cap', cur, h1, _, hgb, _, _, _, ht⟩
  · cases h0
  · cases h1
    simp only [World.cell?, hgb]
    have hk : l.length = k := by simpa using h.1
    have h2 : (cur.toList.take (k * 1))[j]? = (l.map bv)[j]? := by rw [ht]
    rw [List.getElem?_take, if_pos (by omega)] at h2
    simp only [List.getElem?_map, List.getElem?_eq_getElem hj, Option.map_some] at h2
    simpa [bv] using h2

theorem owns_string {W : World} {base : Nat} {v : Value} {l : List UInt8} (h : W.ownsRow base 5 1 v l.length (l.map bv)) :
    (convert 30 9 v).run Try.prog W = .ok (.string ⟨l.toArray⟩) W := by
  rcases h.2 with ⟨rfl, h0⟩ | ⟨g, cap, cur, rfl, _⟩
  · have hl : l = [] := by simpa using h0
    subst hl
    exact run_convert_bytes_nil W 30 5 Try.underlying30 Try.underlying5 0 0 _ Try.underlying9
  · refine run_convert_bytes_back W 30 9 5 ⟨g, 0, none⟩ cap l Try.underlying30 Try.underlying5 Try.underlying9 fun j hj => ?_
    have hadd : (⟨g, 0, none⟩ : Addr).add j = ⟨g, j, none⟩ := by unfold Addr.add; split <;> simp_all
    rw [hadd]
    exact owns_cells h j hj
end Go.Proofs.Ytgbkhmiphaefgaa

/- What CopyBytes, SameBytes and Spoil do with any bytes. -/
namespace Go.Proofs.Ytgbkhmiphaefgaa
open Go.RowKit

def Bys (W : World) (v : Value) (l : List UInt8) : Prop :=
  (v = .slice none 0 0 ∧ l = []) ∨ (∃ a cap, v = .slice (some a) 0 cap ∧ l = []) ∨
  ∃ b off cap, v = .slice (some ⟨b, off, none⟩) l.length cap ∧ 0 < l.length ∧ ∀ j, j < l.length → W.cell? ⟨b, off + j, none⟩ = some (.int .u8 ((l.getD j 0).toNat : Int))

theorem Bys.below {W W' : World} {v : Value} {l : List UInt8} (h : Bys W v l) (hB : Below W.heap.size W W') : Bys W' v l := by
  rcases h with h | h | ⟨b, off, cap, rfl, h0, hc⟩
  · exact .inl h
  · exact .inr (.inl h)
  · refine .inr (.inr ⟨b, off, cap, rfl, h0, fun j hj => ?_⟩)
    have := World.block_lt_of_cell? W _ (hc j hj)
    exact (hB.cell (p := ⟨b, off + j, none⟩) this).trans (hc j hj)
theorem Bys.of_owns {W : World} {base : Nat} {v : Value} {l : List UInt8} (h : W.ownsRow base 5 1 v l.length (l.map bv)) : Bys W v l := by
  rcases h.2 with ⟨rfl, h0⟩ | ⟨g, cap, cur, rfl, _⟩
  · exact .inl ⟨rfl, by simpa using h0⟩
  · by_cases hl : l.length = 0
    · exact .inr (.inl ⟨_, _, by rw [hl], List.length_eq_zero_iff.1 hl⟩)
    · refine .inr (.inr ⟨g, 0, cap, rfl, by omega, fun j hj => ?_⟩)
      rw [Nat.zero_add, owns_cells h j hj, List.getD_eq_getElem?_getD, List.getElem?_eq_getElem hj]
      rfl

theorem bys_news {W : World} {b off : Nat} {l : List UInt8} (hc : ∀ j, j < l.length → W.cell? ⟨b, off + j, none⟩ = some (.int .u8 ((l.getD j 0).toNat : Int))) :
    ∀ j u, (l.map bv)[j]? = some u → W.cell? ((⟨b, off, none⟩ : Addr).add j) = some u := by
  intro j u hj
  have hjl : j < l.length := by simpa using (List.getElem?_eq_some_iff.1 hj).1
  have hadd : (⟨b, off, none⟩ : Addr).add j = ⟨b, off + j, none⟩ := by unfold Addr.add; split <;> simp_all
  rw [hadd, hc j hjl, ← hj]
  simp [List.getD_eq_getElem?_getD, List.getElem?_eq_getElem hjl, bv]
theorem bys_one (l : List UInt8) : ∀ u ∈ l.map bv, u.oneCell' = true := by
  intro u hu
  obtain ⟨c, _, rfl⟩ := List.mem_map.1 hu
  rfl
theorem bys_form {W : World} {v : Value} {l : List UInt8} (h : Bys W v l) : ∃ a1 c1, v = .slice a1 l.length c1 ∧ (0 < l.length → ∃ b off, a1 = some ⟨b, off, none⟩ ∧ ∀ j, j < l.length → W.cell? ⟨b, off + j, none⟩ = some (.int .u8 ((l.getD j 0).toNat : Int))) := by
  rcases h with ⟨rfl, rfl⟩ | ⟨a, cap, rfl, rfl⟩ | ⟨b, off, cap, rfl, h0, hc⟩
  · exact ⟨_, _, rfl, fun h => absurd h (by decide)⟩
  · exact ⟨_, _, rfl, fun h => absurd h (by decide)⟩
  · exact ⟨_, _, rfl, fun _ => ⟨b, off, rfl, hc⟩⟩

set_option maxRecDepth 100000 in
set_option maxHeartbeats 1000000 in
theorem same_any (v1 v2 : Value) (l : List UInt8) (w : World) (h1 : Bys w v1 l) (h2 : Bys w v2 l) (hs : l.length ≤ maxLen) :
    Calls Try.prog 17 #[v1, v2] w fun e w' => e = .returned (.bool true) ∧ Below w.heap.size w w' := by
  unfold maxLen at hs
  obtain ⟨a1, c1, rfl, hc1⟩ : ∃ a1 c1, v1 = .slice a1 l.length c1 ∧ (0 < l.length → ∃ b off, a1 = some ⟨b, off, none⟩ ∧ ∀ j, j < l.length → w.cell? ⟨b, off + j, none⟩ = some (.int .u8 ((l.getD j 0).toNat : Int))) := bys_form h1
  obtain ⟨a2, c2, rfl, hc2⟩ : ∃ a1 c1, v2 = .slice a1 l.length c1 ∧ (0 < l.length → ∃ b off, a1 = some ⟨b, off, none⟩ ∧ ∀ j, j < l.length → w.cell? ⟨b, off + j, none⟩ = some (.int .u8 ((l.getD j 0).toNat : Int))) := bys_form h2
  have HC1 := hide hc1
  have HC2 := hide hc2
  clear hc1 hc2
  go_enter Try.func17, Try.ntmps17
  go_wp2
  go_loopw [5] (fun i wr => ∃ (k : Nat), k ≤ l.length ∧ i = .int .i64 k ∧ ∃ q, wr = w.drewN q) (fun i _ => l.length - (intOf i).toNat)
  case atStart => exact ⟨0, Nat.zero_le _, rfl, 0, rfl⟩
  case round =>
    obtain ⟨k, hk, rfl, q, rfl⟩ := hrel
    by_cases hlt : k < l.length
    · obtain ⟨b1, o1, rfl, hc1⟩ := HC1.out (by omega)
      obtain ⟨b2, o2, rfl, hc2⟩ := HC2.out (by omega)
      have g1 := hc1 k hlt
      have g2 := hc2 k hlt
      clear hc1 hc2 HC1 HC2
      have hk1 : (0 : Int) ≤ (k : Int) := by omega
      have hk2 : (k : Int) < (l.length : Int) := by omega
      generalize l.getD k 0 = x at g1 g2
      go_wp2
      go_quiet (fail)
      go_wp2
      go_roundw
      case rel => exact ⟨k + 1, by omega, by go_num, _, rfl⟩
      case measure => simp [intOf]; omega
    · go_wp2
      go_ret
      exact ⟨rfl, below_drewN (Below.refl _ _) _⟩


end Go.Proofs.Ytgbkhmiphaefgaa

/- Rows of bytes that a file holds: an append of zeros, at a step of a region that draws its order. -/
namespace Go.Proofs.Ytgbkhmiphaefgaa
open Go.RowKit

structure RowAt (W : World) (b cap : Nat) (l : List UInt8) : Prop where
  row : ∃ cur : List Value, W.heap[b]? = some (.cells cur.toArray 5 (0, 0)) ∧ cap ≤ cur.length ∧ cur.take l.length = l.map bv
  len : l.length ≤ cap
  lim : cap ≤ maxLen

theorem run_copy (w : World) (ty : TypeId) (dp sp : Option Addr) (dLen dCap sLen sCap : Nat) (g off : Nat) (cur : List Value) (hg : w.heap[g]? = some (.cells cur.toArray 5 (0, 0))) (cs : List Value) (hn : cs.length = Nat.min sLen dLen)
    (hpos : 0 < cs.length → dp = some ⟨g, off, none⟩ ∧ ∃ ad, sp = some ad ∧ ∀ j v, cs[j]? = some v → w.cell? (ad.add j) = some v) (hfit : off + cs.length ≤ cur.length) (h1 : ∀ v ∈ cs, v.oneCell' = true) :
    ∃ w', (Builtin.copy_ #[30, 30] ty #[.slice dp dLen dCap, .slice sp sLen sCap]).run Try.prog w = .ok (goInt cs.length) w' ∧ Hid (w'.heap[g]? = some (.cells (splice cur off cs).toArray 5 (0, 0))) ∧ w.grownBy w' (some g) := by
  refine (?_ : ∃ w', (Builtin.copy_ #[30, 30] ty #[.slice dp dLen dCap, .slice sp sLen sCap]).run Try.prog w = .ok (goInt cs.length) w' ∧ w'.heap[g]? = some (.cells (splice cur off cs).toArray 5 (0, 0)) ∧ w.grownBy w' (some g))
  obtain ⟨i0, hi, hz0, hz1, hz2⟩ := info_parts Try.infoB
  have hsz : (Try.prog.info? 5).map (·.size) = some 1 := by rw [hi]; simp [hz1]
  by_cases h0 : cs.length = 0
  · obtain rfl : cs = [] := List.eq_nil_of_length_eq_zero h0
    exact ⟨w, run_copy_none (P := Try.prog) w _ _ ty 5 dp sp dLen dCap sLen sCap Try.underlying30 hsz (by simpa using hn.symm), by simpa [splice] using hg, ⟨rfl, rfl, rfl, Nat.le_refl _, fun _ _ _ => rfl⟩⟩
  · obtain ⟨rfl, ad, rfl, hsrc⟩ := hpos (by omega)
    have hrun := run_copy_row (P := Try.prog) w 30 30 ty 5 g off dLen dCap ad sLen sCap cur.toArray 5 cs Try.underlying30 hsz hg hn hsrc (by simpa using hfit) h1
    refine ⟨_, hrun, by simpa [splice] using setRow_heap w g _ _ 5 _ hg, ⟨rfl, rfl, rfl, by simp [World.setRow], fun j _ hj => setRow_other w g j _ (fun e => hj (by rw [e]))⟩⟩

theorem RowAt.keep {W W' : World} {b cap : Nat} {l : List UInt8} (h : RowAt W b cap l) (hB : W'.heap[b]? = W.heap[b]?) : RowAt W' b cap l := by
  obtain ⟨⟨cur, h1, h2⟩, h3, h4⟩ := h
  exact ⟨⟨cur, hB.trans h1, h2⟩, h3, h4⟩
theorem RowAt.lt {W : World} {b cap : Nat} {l : List UInt8} (h : RowAt W b cap l) : b < W.heap.size := by
  obtain ⟨⟨cur, h1, h2⟩, h3, h4⟩ := h
  exact (Array.getElem?_eq_some_iff.1 h1).1
theorem RowAt.cell {W : World} {b cap : Nat} {l : List UInt8} (h : RowAt W b cap l) (j : Nat) (hj : j < l.length) : W.cell? ⟨b, j, none⟩ = some (.int .u8 ((l.getD j 0).toNat : Int)) := by
  obtain ⟨⟨cur, h1, _, h2⟩, h3, h4⟩ := h
  rw [cell_of_row W b j cur.toArray _ _ h1]
  have h5 : (cur.take l.length)[j]? = (l.map bv)[j]? := by rw [h2]
  rw [List.getElem?_take, if_pos hj] at h5
  simpa [List.getElem?_eq_getElem hj, List.getD_eq_getElem?_getD, bv] using h5
theorem RowAt.cut {W : World} {b cap : Nat} {l : List UInt8} (h : RowAt W b cap l) (x m c : Nat) (hx : x + m ≤ l.length) : Bys W (.slice (some ⟨b, x, none⟩) m c) ((l.drop x).take m) := by
  have hlen : ((l.drop x).take m).length = m := by simp; omega
  by_cases hm : m = 0
  · subst hm
    exact .inr (.inl ⟨_, _, rfl, by simp⟩)
  · refine .inr (.inr ⟨b, x, c, by rw [hlen], by omega, fun j hj => ?_⟩)
    rw [hlen] at hj
    rw [h.cell (x + j) (by omega)]
    simp [List.getD_eq_getElem?_getD, List.getElem?_drop, hj]
theorem RowAt.of_owns {W : World} {base b cap : Nat} {l : List UInt8} (h : W.ownsRow base 5 1 (.slice (some ⟨b, 0, none⟩) l.length cap) l.length (l.map bv)) : RowAt W b cap l := by
  rcases h.2 with ⟨h0, _⟩ | ⟨g, c, cur, h1, h2, h3, h4, h5, h6, h7⟩
  · cases h0
  · cases h1
    exact ⟨⟨cur.toList, by rw [Array.toArray_toList]; exact h3, by rw [Array.length_toList]; omega, by simpa using h7⟩, h4, h5⟩
end Go.Proofs.Ytgbkhmiphaefgaa

/- Terminals: what stays when some blocks turn; lists of lines; appends whose block is told. -/
namespace Go.Proofs.Ytgbkhmiphaefgaa
open Go.RowKit

theorem owns_slice {W : World} {base e size n : Nat} {v : Value} {xs : List Value} (h : W.ownsRow base e size v n xs) : ∃ a c, v = .slice a n c := by
  rcases h.2 with ⟨rfl, rfl⟩ | ⟨g, cap, cur, rfl, _⟩
  · exact ⟨_, _, rfl⟩
  · exact ⟨_, _, rfl⟩
theorem owns_cap {W : World} {base e size n : Nat} {a : Option Addr} {c : Nat} {xs : List Value} (h : W.ownsRow base e size (.slice a n c) n xs) : n ≤ c := by
  rcases h.2 with ⟨h0, h1⟩ | ⟨g, cap, cur, h1, h2, h3, h4, h5⟩
  · cases h0; exact Nat.le_refl _
  · cases h1; exact h4
theorem size_new (w : World) (o : Obj) : w.heap.size < (w.alloc o).heap.size := by simp
theorem owns_keep {W W' : World} {base e size n : Nat} {v : Value} {xs : List Value} (h : W.ownsRow base e size v n xs) (hB : ∀ k, v.ownBlock = some k → W'.heap[k]? = W.heap[k]?) : W'.ownsRow base e size v n xs := by
  refine ⟨h.1, ?_⟩
  rcases h.2 with h1 | ⟨g, cap, cur, rfl, h2, h3, h4⟩
  · exact .inl h1
  · exact .inr ⟨g, cap, cur, rfl, h2, (hB g rfl).trans h3, h4⟩
theorem owns_below {W W' : World} {base e size n : Nat} {v : Value} {xs : List Value} (h : W.ownsRow base e size v n xs) (hB : Below W.heap.size W W') : W'.ownsRow base e size v n xs :=
  owns_keep h fun k hk => hB.block k (h.lt k hk).2
theorem owns_mono {W : World} {base base' e size n : Nat} {v : Value} {xs : List Value} (h : W.ownsRow base e size v n xs) (hb : base' ≤ base) : W.ownsRow base' e size v n xs := by
  refine ⟨h.1, ?_⟩
  rcases h.2 with h1 | ⟨g, cap, cur, h1, h2, h3⟩
  · exact .inl h1
  · exact .inr ⟨g, cap, cur, h1, Nat.le_trans hb h2, h3⟩
theorem Bys.keep {W W' : World} {v : Value} {l : List UInt8} (h : Bys W v l) (hB : ∀ k, v.ownBlock = some k → k < W.heap.size → W'.heap[k]? = W.heap[k]?) : Bys W' v l := by
  rcases h with h | h | ⟨b, off, cap, rfl, h0, hc⟩
  · exact .inl h
  · exact .inr (.inl h)
  · refine .inr (.inr ⟨b, off, cap, rfl, h0, fun j hj => ?_⟩)
    have h1 := World.block_lt_of_cell? W _ (hc j hj)
    exact (World.cell?_of_block (w := W) (hB b rfl h1)).trans (hc j hj)

structure Turned (S : Nat → Prop) (w w' : World) : Prop where
  os : w'.os = w.os
  tape : w'.tape = w.tape
  output : w'.output = w.output
  size : w.heap.size ≤ w'.heap.size
  block : ∀ k, k < w.heap.size → ¬ S k → w'.heap[k]? = w.heap[k]?
theorem Turned.refl (S : Nat → Prop) (w : World) : Turned S w w := ⟨rfl, rfl, rfl, Nat.le_refl _, fun _ _ _ => rfl⟩
theorem Turned.trans {S S' : Nat → Prop} {a b c : World} (h : Turned S a b) (h' : Turned S' b c) (hs : ∀ k, k < a.heap.size → S' k → S k) : Turned S a c :=
  ⟨h'.os.trans h.os, h'.tape.trans h.tape, h'.output.trans h.output, Nat.le_trans h.size h'.size, fun k hk hn => (h'.block k (Nat.lt_of_lt_of_le hk h.size) (fun e => hn (hs k hk e))).trans (h.block k hk hn)⟩
theorem Turned.mono {S S' : Nat → Prop} {a b : World} (h : Turned S a b) (hs : ∀ k, S k → S' k) : Turned S' a b :=
  ⟨h.os, h.tape, h.output, h.size, fun k hk hn => h.block k hk (fun e => hn (hs k e))⟩
theorem Turned.below {S : Nat → Prop} {B : Nat} {w w' : World} (h : Turned S w w') (hS : ∀ k, S k → B ≤ k) (hB : B ≤ w.heap.size) : Below B w w' :=
  ⟨h.os, h.tape, h.output, h.size, fun k hk => h.block k (Nat.lt_of_lt_of_le hk hB) (fun e => by have := hS k e; omega)⟩
theorem Turned.of_below {S : Nat → Prop} {w w' : World} (h : Below w.heap.size w w') : Turned S w w' := ⟨h.os, h.tape, h.output, h.size, fun k hk _ => h.block k hk⟩
theorem Turned.set {S : Nat → Prop} {w wr : World} {g j : Nat} {u : Value} (hT : Turned S w wr) (hg : S g ∨ w.heap.size ≤ g) : Turned S w (wr.setCell ⟨g, j, none⟩ u) := by
  refine hT.trans (S' := fun k => k = g) ⟨rfl, rfl, rfl, by simp [World.setCell], fun k hk hn => Below.heap_setCell _ _ _ _ hn⟩ (fun k hk e => by subst e; exact hg.resolve_right (by omega))
theorem Turned.grown {S : Nat → Prop} {w wr w1 : World} {vb : Option Nat} (hT : Turned S w wr) (hg : wr.grownBy w1 vb) (hv : ∀ k, vb = some k → S k ∨ w.heap.size ≤ k) : Turned S w w1 :=
  hT.trans (S' := fun k => vb = some k) ⟨hg.os, hg.tape, hg.output, hg.size, fun k hk hn => hg.block k hk (fun e => hn e.symm)⟩ (fun k hk e => (hv k e).resolve_right (by omega))
theorem Bys.turned {S : Nat → Prop} {W W' : World} {v : Value} {l : List UInt8} (h : Bys W v l) (hT : Turned S W W') (hS : ∀ k, v.ownBlock = some k → k < W.heap.size → ¬ S k) : Bys W' v l :=
  h.keep fun k hk hlt => hT.block k hlt (hS k hk hlt)
theorem owns_turned {S : Nat → Prop} {W W' : World} {base e size n : Nat} {v : Value} {xs : List Value} (h : W.ownsRow base e size v n xs) (hT : Turned S W W') (hS : ∀ k, v.ownBlock = some k → ¬ S k) : W'.ownsRow base e size v n xs :=
  owns_keep h fun k hk => hT.block k (h.lt k hk).2 (hS k hk)

theorem run_append_bytes (w : World) (ty : TypeId) (base : Nat) (s x : Value) (m l : List UInt8) (hs : w.ownsRow base 5 1 s m.length (m.map bv)) (hx : Bys w x l) (hn : m.length + l.length ≤ 140737488351232) (hb : base ≤ w.heap.size) :
    ∃ s' w', (Builtin.append_ #[30, 30] ty #[s, x]).run Try.prog w = .ok s' w' ∧ Hid (w'.ownsRow base 5 1 s' (m ++ l).length ((m ++ l).map bv)) ∧ w.grownBy w' s.ownBlock ∧ (s'.ownBlock = s.ownBlock ∨ s'.ownBlock = some w.heap.size) := by
  refine (?_ : ∃ s' w', (Builtin.append_ #[30, 30] ty #[s, x]).run Try.prog w = .ok s' w' ∧ w'.ownsRow base 5 1 s' (m ++ l).length ((m ++ l).map bv) ∧ w.grownBy w' s.ownBlock ∧ (s'.ownBlock = s.ownBlock ∨ s'.ownBlock = some w.heap.size))
  obtain ⟨i0, hi, hz0, hz1, hz2⟩ := info_parts Try.infoB
  rw [List.length_append, List.map_append]
  rcases hx with ⟨rfl, rfl⟩ | ⟨a, cap, rfl, rfl⟩ | ⟨b, off, cap, rfl, h0, hc⟩
  · exact ⟨s, w, run_append_owned_none (P := Try.prog) w base _ ty _ i0 1 Try.underlying30 hi s _ _ hs, by simpa using hs, ⟨rfl, rfl, rfl, Nat.le_refl _, fun _ _ _ => rfl⟩, .inl rfl⟩
  · obtain ⟨v', w', h1, h2, h3, _, h5⟩ := run_append_own_at (P := Try.prog) w base 30 ty 5 i0 (.int .u8 0) 1 1 Try.underlying30 hi hz0 hz1 hz2 rfl (by decide) s _ _ hs a 0 cap [] rfl (by simp) (by simp) (by unfold maxLen; omega) (by omega) hb
    exact ⟨v', w', h1, h2, h3, h5⟩
  · obtain ⟨v', w', h1, h2, h3, _, h5⟩ := run_append_own_at (P := Try.prog) w base 30 ty 5 i0 (.int .u8 0) 1 1 Try.underlying30 hi hz0 hz1 hz2 rfl (by decide) s _ _ hs ⟨b, off, none⟩ l.length cap (l.map bv) (by simp) (bys_news hc) (bys_one l) (by unfold maxLen; omega) (by omega) hb
    exact ⟨v', w', h1, h2, h3, h5⟩

theorem bys_block {W : World} {a : Option Addr} {n c : Nat} {l : List UInt8} (h : Bys W (.slice a n c) l) (h0 : 0 < l.length) : n = l.length ∧ ∃ b off, a = some ⟨b, off, none⟩ ∧ b < W.heap.size ∧ ∀ j, j < l.length → W.cell? ⟨b, off + j, none⟩ = some (.int .u8 ((l.getD j 0).toNat : Int)) := by
  obtain ⟨a', c', he, hc⟩ := bys_form h
  cases he
  obtain ⟨b, off, rfl, hd⟩ := hc h0
  exact ⟨rfl, b, off, rfl, World.block_lt_of_cell? W _ (hd 0 h0), hd⟩
theorem bys_cut {W : World} {b off n c : Nat} {l : List UInt8} (h : Bys W (.slice (some ⟨b, off, none⟩) n c) l) (x m c' : Nat) (hx : x + m ≤ l.length) : Bys W (.slice (some ⟨b, off + x, none⟩) m c') ((l.drop x).take m) := by
  have hlen : ((l.drop x).take m).length = m := by simp; omega
  by_cases hm : m = 0
  · subst hm
    exact .inr (.inl ⟨_, _, rfl, by simp⟩)
  · obtain ⟨_, b', off', he, _, hc⟩ := bys_block h (by omega)
    cases he
    refine .inr (.inr ⟨b, off + x, c', by rw [hlen], by omega, fun j hj => ?_⟩)
    rw [hlen] at hj
    rw [Nat.add_assoc, hc (x + j) (by omega)]
    simp [List.getD_eq_getElem?_getD, List.getElem?_drop, hj]
end Go.Proofs.Ytgbkhmiphaefgaa

/- The small functions of file: isMade, inRange, copied. -/
namespace Go.Proofs.Ytgbkhmiphaefgaa
open Go.RowKit

def Fi_Ints (W : World) (v : Value) (l : List Int) : Prop :=
  ∃ a c, v = .slice a l.length c ∧ (0 < l.length → ∃ b off, a = some ⟨b, off, none⟩ ∧ ∀ j, j < l.length → W.cell? ⟨b, off + j, none⟩ = some (.int .i64 (l.getD j 0)))

def inR (n : Int) : Bool := decide (0 ≤ n ∧ n ≤ 1048576)
theorem inR_yes {n : Int} (h1 : 0 ≤ n) (h2 : n ≤ 1048576) : inR n = true := by simp [inR, h1, h2]
theorem inR_no {n : Int} (h : ¬ (0 ≤ n ∧ n ≤ 1048576)) : inR n = false := by simp only [inR, decide_eq_false_iff_not]; exact h

set_option maxHeartbeats 1000000 in
theorem Fi_isMade_yes (g : Nat) (w : World) (h : w.cell? ⟨g, 0, none⟩ = some (.bool true)) :
    Calls Try.prog 60 #[.pointer (some ⟨g, 0, none⟩)] w fun e w' => e = .returned (.bool true) ∧ w' = w := by
  go_enter Try.func60, Try.ntmps60
  go_wp2
  go_ret
  exact ⟨rfl, rfl⟩
set_option maxRecDepth 100000 in
set_option maxHeartbeats 1000000 in
theorem inRange_any (v : Value) (is : List Int) (w : World) (h : Fi_Ints w v is) (hs : is.length ≤ 1000) :
    Calls Try.prog 112 #[v] w fun e w' => e = .returned (.bool (is.all inR)) ∧ w' = w := by
  obtain ⟨a, c, rfl, hc⟩ := h
  have HC := hide hc
  clear hc
  go_enter Try.func112, Try.ntmps112
  go_wp2
  go_loopw [4, 7] (fun _ i wr => ∃ k : Nat, k ≤ is.length ∧ i = .int .i64 k ∧ wr = w ∧ (is.take k).all inR = true) (fun _ i _ => is.length - (intOf i).toNat)
  case atStart => exact ⟨0, Nat.zero_le _, rfl, rfl, by simp⟩
  case round =>
    obtain ⟨k, hk, rfl, rfl, hall⟩ := hrel
    have HA := hide hall
    clear hall
    by_cases hlt : k < is.length
    · obtain ⟨b, off, rfl, hc⟩ := HC.out (by omega)
      have g1 := hc k hlt
      have hk1 : (0 : Int) ≤ (k : Int) := by omega
      have hk2 : (k : Int) < (is.length : Int) := by omega
      have hx : is.getD k 0 = is[k] := by rw [List.getD_eq_getElem?_getD, List.getElem?_eq_getElem hlt]; rfl
      rw [hx] at g1
      have HE : Hid (∀ y, inR is[k] = y → is.all inR = (y && (is.drop (k + 1)).all inR)) := hide fun y hy => by
        conv => lhs; rw [← List.take_append_drop k is, List.all_append, HA.out, List.drop_eq_getElem_cons hlt, List.all_cons, hy]
        simp
      have HT : Hid (inR is[k] = true → (is.take (k + 1)).all inR = true) := hide fun hy => by
        rw [List.take_succ_eq_append_getElem hlt, List.all_append, HA.out]; simp [hy]
      generalize is[k] = x at *
      clear hc HC HA hx
      rcases (show x < 0 ∨ 1048576 < x ∨ (0 ≤ x ∧ x ≤ 1048576) by omega) with hx | hx | ⟨hx1, hx2⟩
      · go_wp2
        go_ret
        exact ⟨ret_bool (by rw [HE.out false (inR_no (by omega))]; rfl), rfl⟩
      · have hd : decide (x < 0) = false := by simp; omega
        go_wp2
        go_ret
        exact ⟨ret_bool (by rw [HE.out false (inR_no (by omega))]; rfl), rfl⟩
      · have hd : decide (x < 0) = false := by simp; omega
        have hd2 : decide (1048576 < x) = false := by simp; omega
        go_wp2
        go_roundw
        case rel => exact ⟨k + 1, by omega, by go_num, by trivial, HT.out (inR_yes hx1 hx2)⟩
        case measure => simp [intOf]; omega
    · have hkl : k = is.length := by omega
      go_wp2
      go_ret
      refine ⟨ret_bool ?_, rfl⟩
      have := HA.out
      rw [hkl, List.take_length] at this
      exact this.symm

theorem Fi_made_row {w w1 : World} {n : Nat} {xs : List Value} (h : w1.ownsRow w.heap.size 5 1 (.slice (some ⟨w.heap.size, 0, none⟩) n n) n xs) (hg : w.grownBy w1 none) :
    ∃ cur : List Value, cur.length = n ∧ Hid (w1.heap[w.heap.size]? = some (.cells cur.toArray 5 (0, 0))) ∧ Below w.heap.size w w1 := by
  refine (?_ : ∃ cur : List Value, cur.length = n ∧ w1.heap[w.heap.size]? = some (.cells cur.toArray 5 (0, 0)) ∧ Below w.heap.size w w1)
  rcases h.2 with ⟨h0, _⟩ | ⟨g, c, cur, h1, h2, h3, h4, h5, h6, h7⟩
  · cases h0
  · cases h1
    exact ⟨cur.toList, by rw [Array.length_toList]; omega, by rw [Array.toArray_toList]; exact h3, (Below.refl _ w).grown hg (Nat.le_refl _) (fun k e => by cases e)⟩
theorem Fi_bys_src {w : World} {a1 : Option Addr} {n c1 : Nat} {l : List UInt8} {X : List Value} (h : Bys w (.slice a1 n c1) l) (hX : X = l.map bv) :
    0 < X.length → ∃ ad, a1 = some ad ∧ ∀ j v, X[j]? = some v → w.cell? (ad.add j) = some v := by
  intro h0
  obtain ⟨a, c, he, hc⟩ := bys_form h
  cases he
  obtain ⟨b, off, rfl, hd⟩ := hc (by rw [hX] at h0; simpa using h0)
  exact ⟨_, rfl, fun j v hj => bys_news hd j v (by rw [← hX]; exact hj)⟩

set_option maxRecDepth 100000 in
set_option maxHeartbeats 1000000 in
theorem Fi_copied_any (v : Value) (l : List UInt8) (w : World) (h : Bys w v l) (hs : l.length ≤ 140737488351232) :
    Calls Try.prog 47 #[v] w fun e w' => e = .returned (.slice (some ⟨w.heap.size, 0, none⟩) l.length l.length) ∧ w'.ownsRow w.heap.size 5 1 (.slice (some ⟨w.heap.size, 0, none⟩) l.length l.length) l.length (l.map bv) ∧ Below w.heap.size w w' := by
  obtain ⟨i0, hi, hz0, hz1, hz2⟩ := info_parts Try.infoB
  obtain ⟨a1, c1, rfl, -⟩ := bys_form h
  have HC1 := hide h
  clear h
  have hsz : (Try.prog.info? 5).map (·.size) = some 1 := by rw [hi]; simp [hz1]
  obtain ⟨X, hX⟩ : ∃ X, X = l.map bv := ⟨_, rfl⟩
  have HX := hide hX
  have hXl : X.length = l.length := by rw [hX]; simp
  have H1 : Hid (∀ v ∈ X, v.oneCell' = true) := hide (by rw [hX]; exact bys_one l)
  clear hX
  go_enter Try.func47, Try.ntmps47
  go_wp2_with (at_make; refine wpList_make_full _ rfl _ _ 30 rfl w.heap.size 5 i0 (.int .u8 0) 1 Try.underlying30 hi hz0 hz1 _ _ _ _ l.length rfl rfl rfl rfl (by rw [hz2]; omega) (by unfold maxLen; omega) (Nat.le_refl _) ?_; intro w1 hown1 hgrow1; obtain ⟨cur, hcl, HR, hB1⟩ := Fi_made_row hown1 hgrow1; clear hown1 hgrow1; obtain ⟨w2, hrun, HG2, hgr2⟩ := run_copy w1 3 (some ⟨w.heap.size, 0, none⟩) a1 l.length l.length l.length c1 w.heap.size 0 cur HR.out X (by rw [hXl]; simp) (fun h0 => ⟨rfl, Fi_bys_src (HC1.out.below hB1) HX.out h0⟩) (by omega) H1.out)
  go_ret
  refine ⟨rfl, ⟨by simp, .inr ⟨w.heap.size, l.length, _, rfl, Nat.le_refl _, HG2.out, Nat.le_refl _, by unfold maxLen; omega, ?_, ?_⟩⟩, hB1.grown hgr2 hB1.size (fun k e => by cases e; exact Nat.le_refl _)⟩
  · have := length_splice cur 0 X (by omega)
    simp [this, hcl]
  · simp [splice, ← hcl, HX.out]
    rw [hcl, List.take_of_length_le (by simp)]
end Go.Proofs.Ytgbkhmiphaefgaa

/- A file in memory; New, ReadAt, Size, Bytes, Copy. -/
namespace Go.Proofs.Ytgbkhmiphaefgaa
open Go.RowKit

structure FileAt (W : World) (g b cap : Nat) (l : List UInt8) : Prop where
  made : W.cell? ⟨g, 0, none⟩ = some (.bool true)
  data : W.cell? ⟨g, 1, none⟩ = some (.slice (some ⟨b, 0, none⟩) l.length cap)
  soft : W.frozen? ⟨g, 1, none⟩ = false
  row : RowAt W b cap l
  apart : b ≠ g
theorem FileAt.keep {W W' : World} {g b cap : Nat} {l : List UInt8} (h : FileAt W g b cap l) (hg : W'.heap[g]? = W.heap[g]?) (hb : W'.heap[b]? = W.heap[b]?) : FileAt W' g b cap l :=
  ⟨(World.cell?_of_block (w := W) hg).trans h.made, (World.cell?_of_block (w := W) hg).trans h.data, (World.frozen?_of_block (w := W) hg).trans h.soft, h.row.keep hb, h.apart⟩
theorem FileAt.lt {W : World} {g b cap : Nat} {l : List UInt8} (h : FileAt W g b cap l) : g < W.heap.size := World.block_lt_of_cell? W _ h.made
theorem FileAt.below {W W' : World} {g b cap : Nat} {l : List UInt8} (h : FileAt W g b cap l) (hB : Below W.heap.size W W') : FileAt W' g b cap l :=
  h.keep (hB.block _ h.lt) (hB.block _ h.row.lt)

set_option maxRecDepth 100000 in
set_option maxHeartbeats 1000000 in
theorem Fi_new_bad (v : Value) (l : List UInt8) (w : World) (h : Bys w v l) (hl : 1048576 < l.length) :
    Calls Try.prog 31 #[v] w fun e w' => e = .returned (.tuple #[.pointer none, .int .i64 5]) ∧ w' = w := by
  obtain ⟨a1, c1, rfl, -⟩ := bys_form h
  clear h
  have hd : decide ((1048576 : Int) < (l.length : Int)) = true := by simp; omega
  go_enter Try.func31, Try.ntmps31
  go_wp2
  all_goals first
    | (exfalso; omega)
    | (go_ret2; exact ⟨rfl, rfl⟩)

theorem file_new {w w2 : World} {l : List UInt8} (hown : w2.ownsRow w.heap.size 5 1 (.slice (some ⟨w.heap.size, 0, none⟩) l.length l.length) l.length (l.map bv)) (hB : Below w.heap.size w w2) :
    FileAt (w2.alloc (Obj.cells #[Value.bool true, Value.slice (some ⟨w.heap.size, 0, none⟩) l.length l.length] 93)) w2.heap.size w.heap.size l.length l ∧ w.heap.size < w2.heap.size ∧ Below w.heap.size w (w2.alloc (Obj.cells #[Value.bool true, Value.slice (some ⟨w.heap.size, 0, none⟩) l.length l.length] 93)) := by
  have hr := RowAt.of_owns hown
  have hlt := hr.lt
  refine ⟨⟨?_, ?_, ?_, hr.keep (Below.heap_alloc _ _ _ hlt), by omega⟩, hlt, hB.alloc hB.size _⟩
  · simp only [World.cell?, heap_alloc_new]; rfl
  · simp only [World.cell?, heap_alloc_new]; rfl
  · simp only [World.frozen?, heap_alloc_new]; rfl

set_option maxRecDepth 100000 in
set_option maxHeartbeats 1000000 in
theorem Fi_new_good (v : Value) (l : List UInt8) (w : World) (h : Bys w v l) (hl : l.length ≤ 1048576) :
    Calls Try.prog 31 #[v] w fun e w' => ∃ g, e = .returned (.tuple #[.pointer (some ⟨g, 0, none⟩), .int .i64 0]) ∧ FileAt w' g w.heap.size l.length l ∧ w.heap.size < g ∧ Below w.heap.size w w' := by
  obtain ⟨a1, c1, rfl, -⟩ := bys_form h
  have HF := hide h
  clear h
  have hd : decide ((1048576 : Int) < (l.length : Int)) = false := by simp; omega
  go_enter Try.func31, Try.ntmps31
  go_wp2_with fail
  refine (Fi_copied_any _ l _ HF.out (by omega)).mono ?_
  rintro e w2 ⟨rfl, hown, hB⟩
  have HO := hide hown
  clear hown
  go_wp2
  go_ret2
  obtain ⟨h1, h2, h3⟩ := file_new HO.out hB
  exact ⟨_, rfl, h1, h2, h3⟩

theorem ints_two (w : World) (x y : Int) : Fi_Ints (w.alloc (Obj.cells #[.int .i64 x, .int .i64 y] 3)) (.slice (some ⟨w.heap.size, 0, none⟩) 2 2) [x, y] := by
  refine ⟨_, 2, rfl, fun _ => ⟨_, _, rfl, fun j hj => ?_⟩⟩
  simp only [World.cell?, heap_alloc_new]
  have : j = 0 ∨ j = 1 := by simp only [List.length_cons, List.length_nil] at hj; omega
  rcases this with rfl | rfl <;> rfl
set_option maxRecDepth 100000 in
set_option maxHeartbeats 1000000 in
theorem readAt_bad (g b cap : Nat) (l : List UInt8) (off n : Int) (w : World) (h : FileAt w g b cap l) (hr : (inR off && inR n) = false) :
    Calls Try.prog 110 #[.pointer (some ⟨g, 0, none⟩), .int .i64 off, .int .i64 n] w fun e w' => e = .returned (.tuple #[.slice none 0 0, .int .i64 4]) ∧ Below w.heap.size w w' := by
  have h1 := h.made
  clear h
  have HR : Hid (([off, n] : List Int).all inR = false) := hide (by simpa using hr)
  clear hr
  go_enter Try.func110, Try.ntmps110
  go_wp2_with fail
  refine (Fi_isMade_yes g w h1).mono ?_
  rintro e w1 ⟨rfl, rfl⟩
  go_wp2_with fail
  refine (inRange_any _ [off, n] _ (ints_two _ _ _) (by simp)).mono ?_
  rintro e w2 ⟨rfl, rfl⟩
  rw [HR.out]
  go_wp2
  go_ret2
  exact ⟨rfl, (Below.refl _ _).alloc (Nat.le_refl _) _⟩

def piece (l : List UInt8) (off n : Nat) : List UInt8 := (l.drop off).take n
theorem piece_len (l : List UInt8) (off n : Nat) : (piece l off n).length = min n (l.length - off) := by simp [piece]

theorem piece_bys {W : World} {b cap : Nat} {l : List UInt8} (h : RowAt W b cap l) (off n x m c : Nat) (hm : m = min n (l.length - off)) (hx : m = 0 ∨ x = off) : Bys W (.slice (some ⟨b, x, none⟩) m c) (piece l off n) := by
  by_cases h0 : m = 0
  · refine .inr (.inl ⟨_, _, by rw [h0], List.length_eq_zero_iff.1 (by rw [piece_len]; omega)⟩)
  · obtain rfl : x = off := by omega
    have := h.cut x m c (by omega)
    rwa [show (l.drop x).take m = piece l x n by rw [hm, piece, ← List.length_drop, List.take_eq_take_iff]; omega] at this
set_option maxRecDepth 100000 in
set_option maxHeartbeats 1000000 in
theorem readAt_good (g b cap : Nat) (l : List UInt8) (off n : Nat) (w : World) (h : FileAt w g b cap l) (hl : l.length ≤ 1048576) (ho : off ≤ 1048576) (hn : n ≤ 1048576) :
    Calls Try.prog 110 #[.pointer (some ⟨g, 0, none⟩), .int .i64 off, .int .i64 n] w fun e w' => ∃ q, e = .returned (.tuple #[.slice (some ⟨q, 0, none⟩) (piece l off n).length (piece l off n).length, .int .i64 0]) ∧ w'.ownsRow w.heap.size 5 1 (.slice (some ⟨q, 0, none⟩) (piece l off n).length (piece l off n).length) (piece l off n).length ((piece l off n).map bv) ∧ Below w.heap.size w w' := by
  have h1 := h.made
  have HF := hide h
  clear h
  have HR : Hid (([(off : Int), (n : Int)] : List Int).all inR = true) := hide (by simp [inR]; omega)
  go_enter Try.func110, Try.ntmps110
  go_wp2_with fail
  refine (Fi_isMade_yes g w h1).mono ?_
  rintro e w1 ⟨rfl, rfl⟩
  go_wp2_with fail
  refine (inRange_any _ [(off : Int), (n : Int)] _ (ints_two _ _ _) (by simp)).mono ?_
  rintro e w2 ⟨rfl, rfl⟩
  rw [HR.out]
  have hBa : Below w1.heap.size w1 (w1.alloc (Obj.cells #[.int .i64 (off : Int), .int .i64 (n : Int)] 3)) := (Below.refl _ _).alloc (Nat.le_refl _) _
  have HF2 := hide (HF.out.below hBa)
  generalize w1.alloc (Obj.cells #[.int .i64 (off : Int), .int .i64 (n : Int)] 3) = w2 at *
  have h2 := HF2.out.data
  have h3 := HF2.out.row.len
  clear HF HR h1
  go_wp2
  go_quiet (fail)
  go_wp2_with fail
  all_goals
    have hd : Below w2.heap.size w2 (w2.drewN nq) := below_drewN (Below.refl _ _) _
    refine (Fi_copied_any _ (piece l off n) _ (piece_bys (HF2.out.below hd).row off n _ _ _ (by omega) (by omega)) (by rw [piece_len]; omega)).mono ?_
    rintro e w3 ⟨rfl, hown, hB⟩
    have HO := hide hown
    clear hown
    go_wp2
    go_ret2
    have hB3 : Below w1.heap.size w1 w3 := (hBa.trans (hd.mono hBa.size)).trans (hB.mono (Nat.le_trans hBa.size hd.size))
    exact ⟨_, rfl, owns_mono HO.out (Nat.le_trans hBa.size hd.size), hB3⟩
end Go.Proofs.Ytgbkhmiphaefgaa

/- growTo, Truncate, WriteAt. -/
namespace Go.Proofs.Ytgbkhmiphaefgaa
open Go.RowKit

end Go.Proofs.Ytgbkhmiphaefgaa

/- WriteAt. -/
namespace Go.Proofs.Ytgbkhmiphaefgaa
open Go.RowKit

def Fi_rdE (off n : Int) : Int := if (inR off && inR n) = false then 4 else 0
def rdL (l : List UInt8) (off n : Int) : List UInt8 := if (inR off && inR n) = false then [] else piece l off.toNat n.toNat
theorem readAt_any (g b cap : Nat) (l : List UInt8) (off n : Int) (w : World) (h : FileAt w g b cap l) (hl : l.length ≤ 1048576) :
    Calls Try.prog 110 #[.pointer (some ⟨g, 0, none⟩), .int .i64 off, .int .i64 n] w fun e w' => ∃ v, e = .returned (.tuple #[v, .int .i64 (Fi_rdE off n)]) ∧ w'.ownsRow w.heap.size 5 1 v (rdL l off n).length ((rdL l off n).map bv) ∧ Below w.heap.size w w' := by
  by_cases h1 : (inR off && inR n) = false
  · rw [Fi_rdE, rdL, if_pos h1, if_pos h1]
    refine (readAt_bad g b cap l off n w h h1).mono ?_
    rintro e w' ⟨rfl, hB⟩
    exact ⟨_, rfl, World.ownsRow_nil _ _ _ _, hB⟩
  · have h1' : (inR off && inR n) = true := by simpa using h1
    simp only [Bool.and_eq_true, inR, decide_eq_true_eq] at h1'
    obtain ⟨o, rfl⟩ : ∃ o : Nat, off = o := ⟨off.toNat, by omega⟩
    obtain ⟨m, rfl⟩ : ∃ m : Nat, n = m := ⟨n.toNat, by omega⟩
    rw [Fi_rdE, rdL, if_neg h1, if_neg h1, Int.toNat_natCast, Int.toNat_natCast]
    refine (readAt_good g b cap l o m w h hl (by omega) (by omega)).mono ?_
    rintro e w' ⟨q, rfl, hown, hB⟩
    exact ⟨_, rfl, hown, hB⟩
end Go.Proofs.Ytgbkhmiphaefgaa

/- Memories: a store as a value and in memory; isMade, read, seek, all of it. -/
namespace Go.Proofs.Ytgbkhmiphaefgaa
open Go.RowKit

structure MS where
  l : List UInt8
  room : Nat
  pl : Nat
def MS.read (S : MS) (n : Int) : List UInt8 × Int × MS :=
  if inR n = true then (piece S.l S.pl n.toNat, 0, ⟨S.l, S.room, S.pl + (piece S.l S.pl n.toNat).length⟩) else ([], 4, S)
def MemAt (W : World) (O : Nat → Prop) (g : Nat) (S : MS) : Prop :=
  ∃ f b cap, W.cell? ⟨g, 0, none⟩ = some (.pointer (some ⟨f, 0, none⟩)) ∧ W.cell? ⟨g, 1, none⟩ = some (.int .i64 S.room) ∧ W.cell? ⟨g, 2, none⟩ = some (.int .i64 S.pl) ∧ W.frozen? ⟨g, 2, none⟩ = false ∧
    FileAt W f b cap S.l ∧ O g ∧ O f ∧ O b ∧ g ≠ f ∧ g ≠ b ∧ S.l.length ≤ S.room ∧ S.pl ≤ S.room ∧ S.room ≤ 1048576
theorem MemAt.keep {W W' : World} {O : Nat → Prop} {g : Nat} {S : MS} (h : MemAt W O g S) (hk : ∀ j, O j → j < W.heap.size → W'.heap[j]? = W.heap[j]?) : MemAt W' O g S := by
  obtain ⟨f, b, cap, h0, h1, h2, h3, h4, og, of, ob, n1, n2, r1, r2, r3⟩ := h
  have kg := hk g og (World.block_lt_of_cell? W _ h0)
  exact ⟨f, b, cap, (World.cell?_of_block (w := W) kg).trans h0, (World.cell?_of_block (w := W) kg).trans h1, (World.cell?_of_block (w := W) kg).trans h2, (World.frozen?_of_block (w := W) kg).trans h3,
    h4.keep (hk f of h4.lt) (hk b ob h4.row.lt), og, of, ob, n1, n2, r1, r2, r3⟩
theorem MemAt.below {W W' : World} {O : Nat → Prop} {g : Nat} {S : MS} (h : MemAt W O g S) (hB : Below W.heap.size W W') : MemAt W' O g S := h.keep fun j _ hl => hB.block j hl
theorem MemAt.ok {W : World} {O : Nat → Prop} {g : Nat} {S : MS} (h : MemAt W O g S) : S.l.length ≤ S.room ∧ S.pl ≤ S.room ∧ S.room ≤ 1048576 := by
  obtain ⟨f, b, cap, h0, h1, h2, h3, h4, og, of, ob, n1, n2, r1, r2, r3⟩ := h
  exact ⟨r1, r2, r3⟩
theorem MemAt.trim {W : World} {O : Nat → Prop} {g : Nat} {S : MS} (h : MemAt W O g S) : MemAt W (fun k => O k ∧ k < W.heap.size) g S := by
  obtain ⟨f, b, cap, h0, h1, h2, h3, h4, og, of, ob, n⟩ := h
  exact ⟨f, b, cap, h0, h1, h2, h3, h4, ⟨og, World.block_lt_of_cell? W _ h0⟩, ⟨of, h4.lt⟩, ⟨ob, h4.row.lt⟩, n⟩
set_option maxHeartbeats 1000000 in
theorem sMade_yes (g f : Nat) (w : World) (h : w.cell? ⟨g, 0, none⟩ = some (.pointer (some ⟨f, 0, none⟩))) :
    Calls Try.prog 107 #[.pointer (some ⟨g, 0, none⟩)] w fun e w' => e = .returned (.bool true) ∧ w = w' := by
  go_enter Try.func107, Try.ntmps107
  go_wp2
  go_ret
  exact ⟨rfl, rfl⟩
set_option maxRecDepth 100000 in
set_option maxHeartbeats 1000000 in
theorem sread_any (O : Nat → Prop) (g : Nat) (S : MS) (n : Int) (w : World) (h : MemAt w O g S) :
    Calls Try.prog 108 #[.pointer (some ⟨g, 0, none⟩), .int .i64 n] w fun e w' => ∃ v, e = .returned (.tuple #[v, .int .i64 (S.read n).2.1]) ∧ w'.ownsRow w.heap.size 5 1 v (S.read n).1.length ((S.read n).1.map bv) ∧ MemAt w' O g (S.read n).2.2 ∧ Turned O w w' := by
  obtain ⟨f, b, cap, h0, h1, h2, h3, h4, og, of, ob, n1, n2, r1, r2, r3⟩ := h
  have hp : inR (S.pl : Int) = true := inR_yes (by omega) (by omega)
  have hE : Fi_rdE (S.pl : Int) n = (S.read n).2.1 := by
    unfold Fi_rdE MS.read
    rw [hp, Bool.true_and]
    by_cases hn : inR n = true
    · rw [if_neg (by simp [hn]), if_pos hn]
    · rw [if_pos (by simpa using hn), if_neg hn]
  have hL : rdL S.l (S.pl : Int) n = (S.read n).1 := by
    unfold rdL MS.read
    rw [hp, Bool.true_and]
    by_cases hn : inR n = true
    · rw [if_neg (by simp [hn]), if_pos hn, Int.toNat_natCast]
    · rw [if_pos (by simpa using hn), if_neg hn]
  have hS : (S.read n).2.2 = ⟨S.l, S.room, S.pl + (S.read n).1.length⟩ := by
    unfold MS.read
    by_cases hn : inR n = true
    · rw [if_pos hn]
    · rw [if_neg hn]; rfl
  have hle : S.pl + (S.read n).1.length ≤ S.room := by
    unfold MS.read
    by_cases hn : inR n = true
    · rw [if_pos hn]; show S.pl + (piece S.l S.pl n.toNat).length ≤ S.room; rw [piece_len]; omega
    · rw [if_neg hn]; simpa using r2
  have HR := hide (readAt_any f b cap S.l (S.pl : Int) n w.drew (h4.below (Below.refl _ _).drew) (by omega))
  rw [hE, hL] at HR
  rw [hS]
  generalize (S.read n).1 = Y at *
  generalize (S.read n).2.1 = E at *
  have H4 := hide h4
  have HS := hide (And.intro h0 (And.intro h1 (And.intro h2 h3)))
  clear hE hL hS h4 hp
  go_enter Try.func108, Try.ntmps108
  go_wp2_with fail
  go_region_held3 (fun w' => w'.cell? ⟨g, 0, none⟩ = some (.pointer (some ⟨f, 0, none⟩)) ∧ w'.cell? ⟨g, 2, none⟩ = some (.int .i64 S.pl))
    (first | exact hx5 | exact ⟨h0, h2⟩ | go_keep)
    (first
      | (go_at_call 110; refine HR.out.mono ?_; rintro e w2 ⟨v, rfl, hown, hB⟩; have hx5 : w2.cell? ⟨g, 0, none⟩ = some (.pointer (some ⟨f, 0, none⟩)) ∧ w2.cell? ⟨g, 2, none⟩ = some (.int .i64 S.pl) := ⟨(hB.cell (p := ⟨g, 0, none⟩) (World.block_lt_of_cell? w _ HS.out.1)).trans HS.out.1, (hB.cell (p := ⟨g, 2, none⟩) (World.block_lt_of_cell? w _ HS.out.2.2.1)).trans HS.out.2.2.1⟩)
      | fail)
  obtain ⟨va, vc, rfl⟩ := owns_slice hown
  obtain ⟨-, k2⟩ := hx5
  have hgl : g < w.heap.size := World.block_lt_of_cell? w _ HS.out.2.2.1
  have kb : w2.heap[g]? = w.heap[g]? := hB.block g hgl
  have k3 : w2.frozen? ⟨g, 2, none⟩ = false := (World.frozen?_of_block (w := w) kb).trans HS.out.2.2.2
  have HO := hide hown
  have hB' : Below w.heap.size w w2 := ((Below.refl _ w).drew).trans hB
  clear hown h0 h1 h2 h3 HR hB
  have hB := hB'
  go_wp2
  go_ret2
  rw [show ((S.pl : Int) + (Y.length : Int)) = ((S.pl + Y.length : Nat) : Int) by omega]
  have hT : Turned O w (w2.setCell ⟨g, 2, none⟩ (.int .i64 ((S.pl + Y.length : Nat) : Int))) := (Turned.of_below (S := O) hB).set (.inl og)
  refine ⟨_, rfl, owns_keep HO.out (fun k hk => Below.heap_setCell _ _ _ _ (fun e => ?_)), ⟨f, b, cap, ?_, ?_, ?_, ?_, ?_, og, of, ob, n1, n2, r1, hle, r3⟩, hT⟩
  · have h1 : w.heap.size ≤ k := (HO.out.lt k hk).1; have e' : k = g := e; omega
  · rw [World.cell?_setCell_other _ _ _ _ (by simp)]; exact (World.cell?_of_block (w := w) kb).trans HS.out.1
  · rw [World.cell?_setCell_other _ _ _ _ (by simp)]; exact (World.cell?_of_block (w := w) kb).trans HS.out.2.1
  · exact World.cell?_setCell_same _ _ _ k2
  · rw [World.frozen?_setCell]; exact k3
  · have := H4.out.below hB
    exact this.keep (Below.heap_setCell _ _ _ _ (fun e => n1 e.symm)) (Below.heap_setCell _ _ _ _ (fun e => n2 e.symm))
end Go.Proofs.Ytgbkhmiphaefgaa

/- Memories: write, seek. -/
namespace Go.Proofs.Ytgbkhmiphaefgaa
open Go.RowKit

end Go.Proofs.Ytgbkhmiphaefgaa

/- Memories: seek. -/
namespace Go.Proofs.Ytgbkhmiphaefgaa
open Go.RowKit

end Go.Proofs.Ytgbkhmiphaefgaa

/- Memories: made, and their calls. -/
namespace Go.Proofs.Ytgbkhmiphaefgaa
open Go.RowKit

theorem recv4 (w : World) (o : Obj) : Below w.heap.size w (w.alloc o) := (Below.refl _ _).alloc (Nat.le_refl _) _
theorem new_zero3 {W w' : World} {x y z : Value} {t : TypeId} (h : Below (W.alloc (Obj.cells #[x, y, z] t)).heap.size (W.alloc (Obj.cells #[x, y, z] t)) w') :
    w'.cell? ⟨W.heap.size, 0, none⟩ = some x ∧ w'.cell? ⟨W.heap.size, 1, none⟩ = some y ∧ w'.cell? ⟨W.heap.size, 2, none⟩ = some z ∧ w'.frozen? ⟨W.heap.size, 0, none⟩ = false ∧ w'.frozen? ⟨W.heap.size, 1, none⟩ = false ∧ w'.frozen? ⟨W.heap.size, 2, none⟩ = false :=
  ⟨(h.cell (p := ⟨W.heap.size, 0, none⟩) (size_new _ _)).trans (by simp only [World.cell?, heap_alloc_new]; rfl), (h.cell (p := ⟨W.heap.size, 1, none⟩) (size_new _ _)).trans (by simp only [World.cell?, heap_alloc_new]; rfl), (h.cell (p := ⟨W.heap.size, 2, none⟩) (size_new _ _)).trans (by simp only [World.cell?, heap_alloc_new]; rfl), (h.frozen (p := ⟨W.heap.size, 0, none⟩) (size_new _ _)).trans (by simp only [World.frozen?, heap_alloc_new]; rfl), (h.frozen (p := ⟨W.heap.size, 1, none⟩) (size_new _ _)).trans (by simp only [World.frozen?, heap_alloc_new]; rfl), (h.frozen (p := ⟨W.heap.size, 2, none⟩) (size_new _ _)).trans (by simp only [World.frozen?, heap_alloc_new]; rfl)⟩
theorem res_store {fn : Func} {p u : Tmp} {w : World} (h : fn.results = #[.cell p 53, .tmp u]) (tmps : Array Value) (b : Nat) (hp : tmps.getD p undef = .pointer (some ⟨b, 0, none⟩)) (x : Option Addr) (y z : Int) (h1 : w.cell? ⟨b, 0, none⟩ = some (.pointer x)) (h2 : w.cell? ⟨b, 1, none⟩ = some (.int .i64 y)) (h3 : w.cell? ⟨b, 2, none⟩ = some (.int .i64 z)) :
    (results fn tmps).run Try.prog w = .ok (.tuple #[.agg #[.pointer x, .int .i64 y, .int .i64 z], tmps.getD u undef]) w := by
  have a60 := Try.isAgg53
  have z60 := Try.sizeOf53
  have u3 := Try.underlying3
  have a3 := Try.isAgg3
  have z3 := Try.sizeOf3
  have a4 := Try.isAgg51
  have z4 := Try.sizeOf51
  have u4 := Try.underlying51
  rw [results_cell_tmp h, hp]
  simp only [loadVar]
  go_simp
set_option maxRecDepth 100000 in
set_option maxHeartbeats 1000000 in
theorem storeOf_much (v : Value) (l : List UInt8) (room : Int) (w : World) (hb : Bys w v l) (h : ¬ room < (l.length : Int)) (hl : 1048576 < l.length) :
    Calls Try.prog 18 #[v, .int .i64 room] w fun e w' => (∃ y, e = .returned (.tuple #[.agg #[.pointer none, .int .i64 y, .int .i64 0], .int .i64 5])) ∧ Below w.heap.size w w' := by
  obtain ⟨a1, c1, rfl, -⟩ := bys_form hb
  have hB : Below w.heap.size w (w.alloc (Obj.cells #[Value.pointer none, Value.int IntKind.i64 0, Value.int IntKind.i64 0] 53)) := (Below.refl _ _).alloc (Nat.le_refl _) _
  have HB := hide (hb.below hB)
  clear hb
  go_enter Try.func18, Try.ntmps18
  go_wp2_with fail
  refine (Fi_new_bad _ l _ HB.out hl).mono ?_
  rintro e w2 ⟨rfl, rfl⟩
  go_wp2
  refine bodyPost_ret (res_store rfl _ w.heap.size rfl none room 0 (by simp only [World.cell?, heap_alloc_new]; rfl) (by simp only [World.cell?, heap_alloc_new]; rfl) (by simp only [World.cell?, heap_alloc_new]; rfl)) rfl ?_
  exact ⟨⟨_, rfl⟩, (Below.refl _ _).alloc (Nat.le_refl _) _⟩
set_option maxRecDepth 100000 in
set_option maxHeartbeats 1000000 in
theorem storeOf_good (v : Value) (l : List UInt8) (room : Int) (w : World) (hb : Bys w v l) (h : ¬ room < (l.length : Int)) (hl : l.length ≤ 1048576) :
    Calls Try.prog 18 #[v, .int .i64 room] w fun e w' => ∃ f b, e = .returned (.tuple #[.agg #[.pointer (some ⟨f, 0, none⟩), .int .i64 room, .int .i64 0], .int .i64 0]) ∧ FileAt w' f b l.length l ∧ w.heap.size ≤ f ∧ w.heap.size ≤ b ∧ Below w.heap.size w w' := by
  obtain ⟨a1, c1, rfl, -⟩ := bys_form hb
  have hB : Below w.heap.size w (w.alloc (Obj.cells #[Value.pointer none, Value.int IntKind.i64 0, Value.int IntKind.i64 0] 53)) := (Below.refl _ _).alloc (Nat.le_refl _) _
  have HB := hide (hb.below hB)
  clear hb
  go_enter Try.func18, Try.ntmps18
  go_wp2_with fail
  refine (Fi_new_good _ l _ HB.out hl).mono ?_
  rintro e w2 ⟨f, rfl, h1, h2, h3⟩
  have H1 := hide h1
  obtain ⟨z0, z1, z2, z3, z4, z5⟩ := new_zero3 h3
  have hwf : w.heap.size < f := Nat.lt_of_le_of_lt hB.size h2
  have hwb : w.heap.size < (w.alloc (Obj.cells #[Value.pointer none, Value.int IntKind.i64 0, Value.int IntKind.i64 0] 53)).heap.size := size_new _ _
  have hB2 := hB.trans (h3.mono hB.size)
  clear h1 h2 h3 hB HB
  generalize (w.alloc (Obj.cells #[Value.pointer none, Value.int IntKind.i64 0, Value.int IntKind.i64 0] 53)).heap.size = b at *
  go_wp2
  obtain ⟨W, hW⟩ : ∃ W, W = ((w2.setCell ⟨w.heap.size, 0, none⟩ (.pointer (some ⟨f, 0, none⟩))).setCell ⟨w.heap.size, 1, none⟩ (.int .i64 room)).setCell ⟨w.heap.size, 2, none⟩ (.int .i64 0) := ⟨_, rfl⟩
  rw [← hW]
  have y0 : W.cell? ⟨w.heap.size, 0, none⟩ = some (.pointer (some ⟨f, 0, none⟩)) := by
    rw [hW, World.cell?_setCell_other _ _ _ _ (by simp), World.cell?_setCell_other _ _ _ _ (by simp)]; exact World.cell?_setCell_same _ _ _ z0
  have y1 : W.cell? ⟨w.heap.size, 1, none⟩ = some (.int .i64 room) := by
    rw [hW, World.cell?_setCell_other _ _ _ _ (by simp)]; exact World.cell?_setCell_same _ _ _ ((World.cell?_setCell_other _ _ _ _ (by simp)).trans z1)
  have y2 : W.cell? ⟨w.heap.size, 2, none⟩ = some (.int .i64 0) := by
    rw [hW]; exact World.cell?_setCell_same _ _ _ ((World.cell?_setCell_other _ _ _ _ (by simp)).trans ((World.cell?_setCell_other _ _ _ _ (by simp)).trans z2))
  refine bodyPost_ret (res_store rfl _ w.heap.size rfl (some ⟨f, 0, none⟩) room 0 y0 y1 y2) rfl ?_
  have hT : Turned (fun k => k = w.heap.size) w2 W := by
    rw [hW]
    exact (((Turned.refl (fun k => k = w.heap.size) w2).set (.inl rfl)).set (.inl rfl)).set (.inl rfl)
  have hbl := H1.out.row.lt
  exact ⟨f, b, rfl, H1.out.keep (hT.block f H1.out.lt (by omega)) (hT.block b hbl (by omega)), by omega, by omega, hB2.trans (hT.below (fun k e => by omega) hB2.size)⟩
theorem mem_new {w w2 : World} {l : List UInt8} {f b room : Nat} {T : TypeId} (hF : FileAt w2 f b l.length l) (hf : w.heap.size ≤ f) (hb : w.heap.size ≤ b) (hB : Below w.heap.size w w2) (hl : l.length ≤ room) (hr : room ≤ 1048576) :
    MemAt (w2.alloc (Obj.cells #[.pointer (some ⟨f, 0, none⟩), .int .i64 (room : Int), .int .i64 0] T)) (fun k => w.heap.size ≤ k) w2.heap.size ⟨l, room, 0⟩ ∧ Below w.heap.size w (w2.alloc (Obj.cells #[.pointer (some ⟨f, 0, none⟩), .int .i64 (room : Int), .int .i64 0] T)) := by
  have hfl := hF.lt
  have hbl := hF.row.lt
  refine ⟨⟨f, b, l.length, ?_, ?_, ?_, ?_, hF.keep (Below.heap_alloc _ _ _ hfl) (Below.heap_alloc _ _ _ hbl), hB.size, hf, hb, by omega, by omega, hl, Nat.zero_le _, hr⟩, hB.alloc hB.size _⟩
  · simp only [World.cell?, heap_alloc_new]; rfl
  · simp only [World.cell?, heap_alloc_new]; rfl
  · simp only [World.cell?, heap_alloc_new]; rfl
  · simp only [World.frozen?, heap_alloc_new]; rfl
theorem mem_new2 {w w2 : World} {l : List UInt8} {f b room : Nat} {T : TypeId} (hF : FileAt w2 f b l.length l) (hf : w.heap.size ≤ f) (hb : w.heap.size ≤ b) (hB : Below w.heap.size w w2) (hl : l.length ≤ room) (hr : room ≤ 1048576) :
    MemAt ((w2.alloc (Obj.cells #[.pointer (some ⟨f, 0, none⟩), .int .i64 (room : Int), .int .i64 0] 53)).alloc (Obj.cells #[.pointer (some ⟨f, 0, none⟩), .int .i64 (room : Int), .int .i64 0] T)) (fun k => w.heap.size ≤ k) (w2.heap.size + 1) ⟨l, room, 0⟩ ∧ Below w.heap.size w ((w2.alloc (Obj.cells #[.pointer (some ⟨f, 0, none⟩), .int .i64 (room : Int), .int .i64 0] 53)).alloc (Obj.cells #[.pointer (some ⟨f, 0, none⟩), .int .i64 (room : Int), .int .i64 0] T)) := by
  have h1 := mem_new (w := w) (T := T) (hF.below (recv4 w2 (Obj.cells #[.pointer (some ⟨f, 0, none⟩), .int .i64 (room : Int), .int .i64 0] 53))) hf hb (hB.alloc hB.size _) hl hr
  have hs : (w2.alloc (Obj.cells #[.pointer (some ⟨f, 0, none⟩), .int .i64 (room : Int), .int .i64 0] 53)).heap.size = w2.heap.size + 1 := by simp
  rw [hs] at h1
  exact h1
set_option maxRecDepth 100000 in
set_option maxHeartbeats 1000000 in
theorem newReader_long (v : Value) (l : List UInt8) (w : World) (hb : Bys w v l) (hl : 1048576 < l.length) :
    Calls Try.prog 14 #[v] w fun e w' => e = .returned (.tuple #[.pointer none, .int .i64 5]) ∧ Below w.heap.size w w' := by
  obtain ⟨a1, c1, rfl, -⟩ := bys_form hb
  have HB := hide hb
  clear hb
  go_enter Try.func14, Try.ntmps14
  go_wp2_with fail
  refine (storeOf_much _ l _ w HB.out (by omega) hl).mono ?_
  rintro e w2 ⟨⟨y, rfl⟩, hB⟩
  go_wp2
  go_ret2
  exact ⟨rfl, hB.alloc hB.size _⟩
set_option maxRecDepth 100000 in
set_option maxHeartbeats 1000000 in
theorem newReader_good (v : Value) (l : List UInt8) (w : World) (hb : Bys w v l) (hl : l.length ≤ 1048576) :
    Calls Try.prog 14 #[v] w fun e w' => ∃ g, e = .returned (.tuple #[.pointer (some ⟨g, 0, none⟩), .int .i64 0]) ∧ MemAt w' (fun k => w.heap.size ≤ k) g ⟨l, l.length, 0⟩ ∧ Below w.heap.size w w' := by
  obtain ⟨a1, c1, rfl, -⟩ := bys_form hb
  have HB := hide hb
  clear hb
  go_enter Try.func14, Try.ntmps14
  go_wp2_with fail
  refine (storeOf_good _ l (l.length : Int) w HB.out (by omega) (by omega)).mono ?_
  rintro e w2 ⟨f, b, rfl, k1, k2, kb, k3⟩
  have K1 := hide k1
  clear k1
  go_wp2
  go_ret2
  obtain ⟨q1, q2⟩ := mem_new2 (room := l.length) (T := 71) K1.out k2 kb k3 (by omega) (by omega)
  exact ⟨_, rfl, q1, q2⟩
set_option maxRecDepth 100000 in
set_option maxHeartbeats 1000000 in
theorem rmread_any (O : Nat → Prop) (g : Nat) (S : MS) (n : Int) (w : World) (h : MemAt w O g S) :
    Calls Try.prog 114 #[.pointer (some ⟨g, 0, none⟩), .int .i64 n] w fun e w' => ∃ v, e = .returned (.tuple #[v, .int .i64 (S.read n).2.1]) ∧ w'.ownsRow w.heap.size 5 1 v (S.read n).1.length ((S.read n).1.map bv) ∧ MemAt w' O g (S.read n).2.2 ∧ Turned O w w' := by
  have HR := hide (sread_any O g S n w h)
  clear h
  go_enter Try.func114, Try.ntmps114
  go_wp2_with fail
  refine HR.out.mono ?_
  rintro e w2 ⟨v, rfl, h1, h2, h3⟩
  have H1 := hide h1
  have H2 := hide h2
  have H3 := hide h3
  clear h1 h2 h3 HR
  go_wp2
  go_ret2
  exact ⟨v, rfl, H1.out, H2.out, H3.out⟩
set_option maxRecDepth 100000 in
set_option maxHeartbeats 1000000 in
theorem rmwrite_any (O : Nat → Prop) (g : Nat) (S : MS) (v : Value) (w : World) (h : MemAt w O g S) :
    Calls Try.prog 115 #[.pointer (some ⟨g, 0, none⟩), v] w fun e w' => e = .returned (.tuple #[.int .i64 0, .int .i64 65]) ∧ w = w' := by
  obtain ⟨f, b, cap, h0, -⟩ := h
  go_enter Try.func115, Try.ntmps115
  go_wp2_with (first | (go_at_call 107; refine (sMade_yes g f _ h0).mono ?_; rintro _ _ ⟨rfl, rfl⟩) | fail)
  go_ret2
  exact ⟨rfl, rfl⟩
end Go.Proofs.Ytgbkhmiphaefgaa

/- A terminal in memory: its lines, its screen, the blocks that are its own. -/
namespace Go.Proofs.Ytgbkhmiphaefgaa
open Go.RowKit

end Go.Proofs.Ytgbkhmiphaefgaa

/- The small functions of terminal: isMade, copied, copiedLines, New, Left, Screen, Copy. -/
namespace Go.Proofs.Ytgbkhmiphaefgaa
open Go.RowKit

end Go.Proofs.Ytgbkhmiphaefgaa

/- What retry's texts take of kern's, for a seat that has no kern. -/
namespace Go.Proofs.Ytgbkhmiphaefgaa
open Go.RowKit

theorem recv_below (w : World) (o : Obj) : Below w.heap.size w (w.alloc o) := (Below.refl _ _).alloc (Nat.le_refl _) _
end Go.Proofs.Ytgbkhmiphaefgaa

/- Raws, as values and in memory; retry's small functions. -/
namespace Go.Proofs.Ytgbkhmiphaefgaa
open Go.RowKit Go.Maps

structure RawD (S : Type) where
  read : S → Nat → List UInt8 × Int × S
  write : S → List UInt8 → Int × Int × S
structure RawP {S : Type} (D : RawD S) (T : TypeId) (v : Value) (fr fw : FuncId) (rok wok : S → Prop) (At : World → (Nat → Prop) → S → Prop) : Prop where
  mread : ∀ w, (method 240 T v "Read").run Try.prog w = .ok (fr, v) w
  mwrite : ∀ w, (method 240 T v "Write").run Try.prog w = .ok (fw, v) w
  cread : ∀ a w, (callFunc fr a).run Try.prog w = .ok (.enter fr a) w
  cwrite : ∀ a w, (callFunc fw a).run Try.prog w = .ok (.enter fw a) w
  keep : ∀ {w w' : World} {O : Nat → Prop} {s : S}, At w O s → (∀ j, O j → j < w.heap.size → w'.heap[j]? = w.heap[j]?) → w.heap.size ≤ w'.heap.size → At w' O s
  few : ∀ {w : World} {O : Nat → Prop} {s : S} (n : Nat), At w O s → (D.read s n).1.length ≤ 1073741824
  read : ∀ {w : World} {O : Nat → Prop} {s : S} (n : Nat), At w O s → rok s → 1 ≤ n → n ≤ 1048576 → Calls Try.prog fr #[v, .int .i64 n] w fun e w' => ∃ ua uc, e = .returned (.tuple #[.slice ua (D.read s n).1.length uc, .int .i64 (D.read s n).2.1]) ∧ Bys w' (.slice ua (D.read s n).1.length uc) (D.read s n).1 ∧ At w' O (D.read s n).2.2 ∧ Turned O w w'
  write : ∀ {w : World} {O : Nat → Prop} {s : S} (bs : List UInt8) (a : Option Addr) (c : Nat), At w O s → wok s → Bys w (.slice a bs.length c) bs → bs.length ≤ c → 1 ≤ bs.length → bs.length ≤ 1048576 → (∀ k, (Value.slice a bs.length c).ownBlock = some k → ¬ O k) →
    Calls Try.prog fw #[v, .slice a bs.length c] w fun e w' => e = .returned (.tuple #[.int .i64 (D.write s bs).1, .int .i64 (D.write s bs).2.1]) ∧ ∃ O', At w' O' (D.write s bs).2.2 ∧ (∀ k, O' k → O k ∨ w.heap.size ≤ k) ∧ Turned O w w'
structure RawM {S : Type} (D : RawD S) (T : TypeId) (v : Value) (fr fw : FuncId) (rok wok : S → Prop) (At : World → (Nat → Prop) → S → Prop) : Prop where
  rd : (∃ s, rok s) → ∃ vr : Value, (∀ w, (method 240 T v "Read").run Try.prog w = .ok (fr, vr) w) ∧ ∀ {w : World} {O : Nat → Prop} {s : S} (n : Nat), At w O s → rok s → 1 ≤ n → n ≤ 1048576 → Calls Try.prog fr #[vr, .int .i64 n] w fun e w' => ∃ ua uc, e = .returned (.tuple #[.slice ua (D.read s n).1.length uc, .int .i64 (D.read s n).2.1]) ∧ Bys w' (.slice ua (D.read s n).1.length uc) (D.read s n).1 ∧ At w' O (D.read s n).2.2 ∧ Turned O w w'
  mwrite : ∀ w, (method 240 T v "Write").run Try.prog w = .ok (fw, v) w
  cread : ∀ a w, (callFunc fr a).run Try.prog w = .ok (.enter fr a) w
  cwrite : ∀ a w, (callFunc fw a).run Try.prog w = .ok (.enter fw a) w
  keep : ∀ {w w' : World} {O : Nat → Prop} {s : S}, At w O s → (∀ j, O j → j < w.heap.size → w'.heap[j]? = w.heap[j]?) → w.heap.size ≤ w'.heap.size → At w' O s
  few : ∀ {w : World} {O : Nat → Prop} {s : S} (n : Nat), At w O s → (D.read s n).1.length ≤ 1073741824
  write : ∀ {w : World} {O : Nat → Prop} {s : S} (bs : List UInt8) (a : Option Addr) (c : Nat), At w O s → wok s → Bys w (.slice a bs.length c) bs → bs.length ≤ c → 1 ≤ bs.length → bs.length ≤ 1048576 → (∀ k, (Value.slice a bs.length c).ownBlock = some k → ¬ O k) →
    Calls Try.prog fw #[v, .slice a bs.length c] w fun e w' => e = .returned (.tuple #[.int .i64 (D.write s bs).1, .int .i64 (D.write s bs).2.1]) ∧ ∃ O', At w' O' (D.write s bs).2.2 ∧ (∀ k, O' k → O k ∨ w.heap.size ≤ k) ∧ Turned O w w'
theorem RawP.gen {S : Type} {D : RawD S} {T : TypeId} {v : Value} {fr fw : FuncId} {rok wok : S → Prop} {At : World → (Nat → Prop) → S → Prop} (R : RawP D T v fr fw rok wok At) : RawM D T v fr fw rok wok At := ⟨fun _ => ⟨v, R.mread, fun n => R.read n⟩, R.mwrite, R.cread, R.cwrite, R.keep, R.few, R.write⟩
theorem view_own {P : Prop} {w : World} {E : Int} {l : List UInt8} {e : Ending} {w' : World} (h : ∃ u, e = .returned (.tuple #[u, .int .i64 E]) ∧ w'.ownsRow w.heap.size 5 1 u l.length (l.map bv) ∧ P) : ∃ ua uc, e = .returned (.tuple #[.slice ua l.length uc, .int .i64 E]) ∧ Bys w' (.slice ua l.length uc) l ∧ P := by
  obtain ⟨u, rfl, ho, hp⟩ := h
  obtain ⟨ua, uc, rfl⟩ := owns_slice ho
  exact ⟨ua, uc, rfl, Bys.of_owns ho, hp⟩
def someV {S : Type} (D : RawD S) (n : Nat) : Nat → S → List UInt8 × Int × S
  | 0, s => ([], 81, s)
  | k + 1, s => if (D.read s n).2.1 = 22 ∨ (D.read s n).2.1 = 23 then someV D n k (D.read s n).2.2
      else if n < (D.read s n).1.length then ([], 82, (D.read s n).2.2)
      else if (D.read s n).2.1 = 0 then ((D.read s n).1, 0, (D.read s n).2.2)
      else ([], (D.read s n).2.1, (D.read s n).2.2)
theorem someV_next {S : Type} (D : RawD S) (n k : Nat) (s : S) {b : List UInt8} {e : Int} {s2 : S} (h : D.read s n = (b, e, s2)) : someV D n (k + 1) s = if e = 22 ∨ e = 23 then someV D n k s2 else if n < b.length then ([], 82, s2) else if e = 0 then (b, 0, s2) else ([], e, s2) := by
  show (if (D.read s n).2.1 = 22 ∨ (D.read s n).2.1 = 23 then someV D n k (D.read s n).2.2 else if n < (D.read s n).1.length then ([], 82, (D.read s n).2.2) else if (D.read s n).2.1 = 0 then ((D.read s n).1, 0, (D.read s n).2.2) else ([], (D.read s n).2.1, (D.read s n).2.2)) = _
  rw [h]
def someOk {S : Type} (D : RawD S) (ok : S → Prop) (n : Nat) : Nat → S → Prop
  | 0, _ => True
  | k + 1, s => ok s ∧ ((D.read s n).2.1 = 22 ∨ (D.read s n).2.1 = 23 → someOk D ok n k (D.read s n).2.2)
def putV {S : Type} (D : RawD S) (bs : List UInt8) : Nat → S → Nat → Nat → Nat × Int × S
  | 0, s, d, _ => (d, 0, s)
  | k + 1, s, d, t => if d < bs.length then
      (if ((D.write s (bs.drop d)).2.1 = 22 ∨ (D.write s (bs.drop d)).2.1 = 23) ∨ ((D.write s (bs.drop d)).1 = 0 ∧ (D.write s (bs.drop d)).2.1 = 0) then
        (if t + 1 = 8192 then (d, 81, (D.write s (bs.drop d)).2.2) else putV D bs k (D.write s (bs.drop d)).2.2 d (t + 1))
       else if (D.write s (bs.drop d)).1 < 0 ∨ ((bs.length - d : Nat) : Int) < (D.write s (bs.drop d)).1 then (d, 82, (D.write s (bs.drop d)).2.2)
       else if (D.write s (bs.drop d)).2.1 = 0 then putV D bs k (D.write s (bs.drop d)).2.2 (d + (D.write s (bs.drop d)).1.toNat) 0
       else (d, (D.write s (bs.drop d)).2.1, (D.write s (bs.drop d)).2.2))
      else (d, 0, s)
def putOk {S : Type} (D : RawD S) (ok : S → Prop) (bs : List UInt8) : Nat → S → Nat → Nat → Prop
  | 0, _, _, _ => True
  | k + 1, s, d, t => d < bs.length → ok s ∧
      (((D.write s (bs.drop d)).2.1 = 22 ∨ (D.write s (bs.drop d)).2.1 = 23) ∨ ((D.write s (bs.drop d)).1 = 0 ∧ (D.write s (bs.drop d)).2.1 = 0) → t + 1 ≠ 8192 → putOk D ok bs k (D.write s (bs.drop d)).2.2 d (t + 1)) ∧
      ((D.write s (bs.drop d)).2.1 = 0 → 1 ≤ (D.write s (bs.drop d)).1 → (D.write s (bs.drop d)).1 ≤ ((bs.length - d : Nat) : Int) → putOk D ok bs k (D.write s (bs.drop d)).2.2 (d + (D.write s (bs.drop d)).1.toNat) 0)
def putF (bs : List UInt8) : Nat := bs.length * 8192 + 8192
theorem isTry_yes (e : Int) (w : World) (h : e = 22 ∨ e = 23) : Calls Try.prog 80 #[.int .i64 e] w fun r w' => r = .returned (.bool true) ∧ w = w' := by
  rcases h with rfl | rfl
  all_goals
    go_enter Try.func80, Try.ntmps80
    go_wp2
    go_ret
    exact ⟨rfl, rfl⟩
theorem isTry_no (e : Int) (w : World) (h : ¬ (e = 22 ∨ e = 23)) : Calls Try.prog 80 #[.int .i64 e] w fun r w' => r = .returned (.bool false) ∧ w = w' := by
  have h1 : ¬ e = 22 := fun x => h (.inl x)
  have h2 : ¬ e = 23 := fun x => h (.inr x)
  have h3 : (e == 22) = false := by simp [h1]
  have h4 : (e == 23) = false := by simp [h2]
  go_enter Try.func80, Try.ntmps80
  go_wp2
  go_ret
  exact ⟨rfl, rfl⟩
theorem readable_yes (T : TypeId) (v : Value) (n : Int) (w : World) (h1 : 1 ≤ n) (h2 : n ≤ 1048576) : Calls Try.prog 89 #[.iface T v, .int .i64 n] w fun r w' => r = .returned (.int .i64 0) ∧ w = w' := by
  have h3 : ¬ n < 1 := by omega
  have h4 : ¬ 1048576 < n := by omega
  go_enter Try.func89, Try.ntmps89
  go_wp2
  go_ret
  exact ⟨rfl, rfl⟩
set_option maxRecDepth 100000 in
set_option maxHeartbeats 1000000 in
theorem bclone_any (v : Value) (l : List UInt8) (w : World) (h : Bys w v l) (hs : l.length ≤ 140737488351232) :
    Calls Try.prog 35 #[v] w fun e w' => ∃ u, e = .returned u ∧ w'.ownsRow w.heap.size 5 1 u l.length (l.map bv) ∧ Below w.heap.size w w' := by
  have hmade : (w.alloc (Obj.cells #[] 5)).ownsRow w.heap.size 5 1 (.slice (some ⟨w.heap.size, 0, none⟩) 0 0) ([] : List UInt8).length (([] : List UInt8).map bv) := World.ownsRow_made _ _ _ (Nat.le_refl _) (by decide) rfl
  have hB := recv_below w (Obj.cells #[] 5)
  obtain ⟨s', w1, hrun, HO, hg, hb⟩ := run_append_bytes (w.alloc (Obj.cells #[] 5)) 30 w.heap.size _ v [] l hmade (h.below hB) (by simpa using hs) hB.size
  have HR := hide hrun
  have HB : Hid (Below w.heap.size w w1) := hide (hB.grown hg hB.size (fun j e => by
    have : w.heap.size = j := by simpa [Value.ownBlock] using e
    omega))
  rcases h with ⟨rfl, rfl⟩ | ⟨a, cap, rfl, rfl⟩ | ⟨b, off, cap, rfl, h0, -⟩
  · have hnil : ∀ W, (binOp .eql 30 (.slice none 0 0) (.slice none 0 0)).run Try.prog W = .ok (.bool true) W := fun W => Lib.run_eql_slice_nil_nil W _ _ Try.underlying30
    go_enter Try.func35, Try.ntmps35
    go_wp2
    go_ret
    exact ⟨_, rfl, World.ownsRow_nil _ _ _ _, Below.refl _ _⟩
  · have hnil : ∀ W, (binOp .eql 30 (.slice (some a) 0 cap) (.slice none 0 0)).run Try.prog W = .ok (.bool false) W := fun W => Lib.run_eql_slice_some_nil W _ _ _ Try.underlying30
    clear hrun hg hb hmade hB
    go_enter Try.func35, Try.ntmps35
    go_wp2_with (at_builtin; refine Lib.wpList_append_run _ rfl _ _ _ _ rfl _ _ rfl rfl _ _ HR.out ?_)
    go_ret
    exact ⟨_, rfl, HO.out, HB.out⟩
  · have hnil : ∀ W, (binOp .eql 30 (.slice (some ⟨b, off, none⟩) l.length cap) (.slice none 0 0)).run Try.prog W = .ok (.bool false) W := fun W => Lib.run_eql_slice_some_nil W _ _ _ Try.underlying30
    clear hrun hg hb hmade hB
    go_enter Try.func35, Try.ntmps35
    go_wp2_with (at_builtin; refine Lib.wpList_append_run _ rfl _ _ _ _ rfl _ _ rfl rfl _ _ HR.out ?_)
    go_ret
    exact ⟨_, rfl, HO.out, HB.out⟩
end Go.Proofs.Ytgbkhmiphaefgaa

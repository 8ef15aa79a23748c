/- What the proof stands on, part 1: the contracts of the program's calls that it reaches. -/
import Derived.Test.YtkkommomefmpgaaGreatRows
import Derived.WalkKit
import Derived.WalkSpells
import Derived.WalkLawsBesides
import Derived.OwnWalkIn
import Derived.RangeFuncBox
import Derived.Laws.IdiomStrings
import Derived.Maps.AppendAt
import Derived.Laws.AppendOwnNone
import Derived.Laws.OwnMore
import Derived.Deep.QuietTactic
import Derived.BigQuiet
import Derived.Lib.AppendZerosOnto
import Derived.Laws.CopyOwn
import Derived.Deep.RegionHeld3
import Derived.Deep.AppendLies
import Derived.Lib.AppendZeros
import Derived.Deep.Upon
/- What the small functions of num and of its reference answer, for every input: value, isBase. -/
namespace Go.Proofs.YtkkommomefmpgaaGreat
open Go.RowKit

theorem hide {p : Prop} (h : p) : Hid p := h
theorem ret_int {k : IntKind} {a b : Int} (h : a = b) : Ending.returned (.int k a) = .returned (.int k b) := by rw [h]
theorem ret2 {a b : Value} {a' b' : Value} (h1 : a = a') (h2 : b = b') : Ending.returned (.tuple #[a, b]) = .returned (.tuple #[a', b']) := by rw [h1, h2]
theorem ret_bool {a b : Bool} (h : a = b) : Ending.returned (.bool a) = .returned (.bool b) := by rw [h]

end Go.Proofs.YtkkommomefmpgaaGreat

/- Laws of walks that the library lacks: an append to a slice of the call's own at a step of a region that draws its order, inside a fence. -/
namespace Go.Proofs.YtkkommomefmpgaaGreat
open Go.RowKit

def bv (c : UInt8) : Value := .int .u8 (c.toNat : Int)

theorem Tryz.infoB : (Tryz.prog.info? 5).map (fun i => (i.zero, i.size, i.bytes)) = some (some (.int .u8 0), 1, 1) := by kernel_rfl

theorem owns_cells {W : World} {base : Nat} {g cap k : Nat} {l : List UInt8} (h : W.ownsRow base 5 1 (.slice (some ⟨g, 0, none⟩) k cap) k (l.map bv)) :
    ∀ j (hj : j < l.length), W.cell? ⟨g, j, none⟩ = some (.int .u8 (l[j].toNat : Int)) := by
  intro j hj
  rcases h.2 with ⟨h0, _⟩ | ⟨g', cap', cur, h1, _, hgb, _, _, _, ht⟩
  · cases h0
  · cases h1
    simp only [World.cell?, hgb]
    have hk : l.length = k := by simpa using h.1
    have h2 : (cur.toList.take (k * 1))[j]? = (l.map bv)[j]? := by rw [ht]
    rw [List.getElem?_take, if_pos (by omega)] at h2
    simp only [List.getElem?_map, List.getElem?_eq_getElem hj, Option.map_some] at h2
    simpa [bv] using h2

theorem owns_string {W : World} {base : Nat} {v : Value} {l : List UInt8} (h : W.ownsRow base 5 1 v l.length (l.map bv)) :
    (convert 40 9 v).run Tryz.prog W = .ok (.string ⟨l.toArray⟩) W := by
  rcases h.2 with ⟨rfl, h0⟩ | ⟨g, cap, cur, rfl, _⟩
  · have hl : l = [] := by simpa using h0
    subst hl
    exact run_convert_bytes_nil W 40 5 Tryz.underlying40 Tryz.underlying5 0 0 _ Tryz.underlying9
  · refine run_convert_bytes_back W 40 9 5 ⟨g, 0, none⟩ cap l Tryz.underlying40 Tryz.underlying5 Tryz.underlying9 fun j hj => ?_
    have hadd : (⟨g, 0, none⟩ : Addr).add j = ⟨g, j, none⟩ := by unfold Addr.add; split <;> simp_all
    rw [hadd]
    exact owns_cells h j hj
end Go.Proofs.YtkkommomefmpgaaGreat

/- What CopyBytes, SameBytes and Spoil do with any bytes. -/
namespace Go.Proofs.YtkkommomefmpgaaGreat
open Go.RowKit

def Bys (W : World) (v : Value) (l : List UInt8) : Prop :=
  (v = .slice none 0 0 ∧ l = []) ∨ (∃ a cap, v = .slice (some a) 0 cap ∧ l = []) ∨
  ∃ b off cap, v = .slice (some ⟨b, off, none⟩) l.length cap ∧ 0 < l.length ∧ ∀ j, j < l.length → W.cell? ⟨b, off + j, none⟩ = some (.int .u8 ((l.getD j 0).toNat : Int))

theorem Bys.below {W W' : World} {v : Value} {l : List UInt8} (h : Bys W v l) (hB : Below W.heap.size W W') : Bys W' v l := by
  rcases h with h | h | ⟨b, off, cap, rfl, h0, hc⟩
  · exact .inl h
  · exact .inr (.inl h)
  · refine .inr (.inr ⟨b, off, cap, rfl, h0, fun j hj => ?_⟩)
    have := World.block_lt_of_cell? W _ (hc j hj)
    exact (hB.cell (p := ⟨b, off + j, none⟩) this).trans (hc j hj)
theorem Bys.of_owns {W : World} {base : Nat} {v : Value} {l : List UInt8} (h : W.ownsRow base 5 1 v l.length (l.map bv)) : Bys W v l := by
  rcases h.2 with ⟨rfl, h0⟩ | ⟨g, cap, cur, rfl, _⟩
  · exact .inl ⟨rfl, by simpa using h0⟩
  · by_cases hl : l.length = 0
    · exact .inr (.inl ⟨_, _, by rw [hl], List.length_eq_zero_iff.1 hl⟩)
    · refine .inr (.inr ⟨g, 0, cap, rfl, by omega, fun j hj => ?_⟩)
      rw [Nat.zero_add, owns_cells h j hj, List.getD_eq_getElem?_getD, List.getElem?_eq_getElem hj]
      rfl

theorem bys_news {W : World} {b off : Nat} {l : List UInt8} (hc : ∀ j, j < l.length → W.cell? ⟨b, off + j, none⟩ = some (.int .u8 ((l.getD j 0).toNat : Int))) :
    ∀ j u, (l.map bv)[j]? = some u → W.cell? ((⟨b, off, none⟩ : Addr).add j) = some u := by
  intro j u hj
  have hjl : j < l.length := by simpa using (List.getElem?_eq_some_iff.1 hj).1
  have hadd : (⟨b, off, none⟩ : Addr).add j = ⟨b, off + j, none⟩ := by unfold Addr.add; split <;> simp_all
  rw [hadd, hc j hjl, ← hj]
  simp [List.getD_eq_getElem?_getD, List.getElem?_eq_getElem hjl, bv]
theorem bys_one (l : List UInt8) : ∀ u ∈ l.map bv, u.oneCell' = true := by
  intro u hu
  obtain ⟨c, _, rfl⟩ := List.mem_map.1 hu
  rfl
theorem bys_form {W : World} {v : Value} {l : List UInt8} (h : Bys W v l) : ∃ a1 c1, v = .slice a1 l.length c1 ∧ (0 < l.length → ∃ b off, a1 = some ⟨b, off, none⟩ ∧ ∀ j, j < l.length → W.cell? ⟨b, off + j, none⟩ = some (.int .u8 ((l.getD j 0).toNat : Int))) := by
  rcases h with ⟨rfl, rfl⟩ | ⟨a, cap, rfl, rfl⟩ | ⟨b, off, cap, rfl, h0, hc⟩
  · exact ⟨_, _, rfl, fun h => absurd h (by decide)⟩
  · exact ⟨_, _, rfl, fun h => absurd h (by decide)⟩
  · exact ⟨_, _, rfl, fun _ => ⟨b, off, rfl, hc⟩⟩

set_option maxHeartbeats 1000000 in
theorem copy_any (v : Value) (l : List UInt8) (w : World) (h : Bys w v l) (hs : l.length ≤ 140737488351232) :
    Calls Tryz.prog 28 #[v] w fun e w' => ∃ v', e = .returned v' ∧ w'.ownsRow w.heap.size 5 1 v' l.length (l.map bv) ∧ Below w.heap.size w w' := by
  obtain ⟨i0, hi, hz0, hz1, hz2⟩ := info_parts Tryz.infoB
  rcases h with ⟨rfl, rfl⟩ | ⟨a, cap, rfl, rfl⟩ | ⟨b, off, cap, rfl, h0, hc⟩
  · go_enter Tryz.func28, Tryz.ntmps28
    go_wp2_with (at_builtin; refine wpList_append_own_none rfl _ _ 40 rfl w.heap.size 5 i0 1 Tryz.underlying40 hi _ _ _ rfl (World.ownsRow_nil _ _ _ _) rfl ?_)
    go_ret
    exact ⟨_, rfl, World.ownsRow_nil _ _ _ _, Below.refl _ _⟩
  · go_enter Tryz.func28, Tryz.ntmps28
    go_wp2_with (at_builtin; refine wpList_append_own _ rfl _ _ 40 rfl w.heap.size 5 i0 (.int .u8 0) 1 1 Tryz.underlying40 hi hz0 hz1 hz2 rfl (by decide) _ _ _ rfl (World.ownsRow_nil _ _ _ _) a 0 cap [] rfl rfl (by simp) (by simp) (by decide) (by decide) (Nat.le_refl _) ?_; intro v' w1 hown hgrow hnil)
    go_ret
    exact ⟨v', rfl, hown, (Below.refl _ _).grown hgrow (Nat.le_refl _) (fun j e => by cases e)⟩
  · go_enter Tryz.func28, Tryz.ntmps28
    go_wp2_with (at_builtin; refine wpList_append_own _ rfl _ _ 40 rfl w.heap.size 5 i0 (.int .u8 0) 1 1 Tryz.underlying40 hi hz0 hz1 hz2 rfl (by decide) _ _ _ rfl (World.ownsRow_nil _ _ _ _) ⟨b, off, none⟩ l.length cap (l.map bv) rfl (by simp) (bys_news hc) (bys_one l) (by unfold maxLen; omega) (by omega) (Nat.le_refl _) ?_; intro v' w1 hown hgrow hnil)
    go_ret
    exact ⟨v', rfl, by simpa using hown, (Below.refl _ _).grown hgrow (Nat.le_refl _) (fun j e => by cases e)⟩

set_option maxRecDepth 100000 in
set_option maxHeartbeats 1000000 in
theorem same_any (v1 v2 : Value) (l : List UInt8) (w : World) (h1 : Bys w v1 l) (h2 : Bys w v2 l) (hs : l.length ≤ maxLen) :
    Calls Tryz.prog 33 #[v1, v2] w fun e w' => e = .returned (.bool true) ∧ Below w.heap.size w w' := by
  unfold maxLen at hs
  obtain ⟨a1, c1, rfl, hc1⟩ : ∃ a1 c1, v1 = .slice a1 l.length c1 ∧ (0 < l.length → ∃ b off, a1 = some ⟨b, off, none⟩ ∧ ∀ j, j < l.length → w.cell? ⟨b, off + j, none⟩ = some (.int .u8 ((l.getD j 0).toNat : Int))) := bys_form h1
  obtain ⟨a2, c2, rfl, hc2⟩ : ∃ a1 c1, v2 = .slice a1 l.length c1 ∧ (0 < l.length → ∃ b off, a1 = some ⟨b, off, none⟩ ∧ ∀ j, j < l.length → w.cell? ⟨b, off + j, none⟩ = some (.int .u8 ((l.getD j 0).toNat : Int))) := bys_form h2
  have HC1 := hide hc1
  have HC2 := hide hc2
  clear hc1 hc2
  go_enter Tryz.func33, Tryz.ntmps33
  go_wp2
  go_loopw [5] (fun i wr => ∃ (k : Nat), k ≤ l.length ∧ i = .int .i64 k ∧ ∃ q, wr = w.drewN q) (fun i _ => l.length - (intOf i).toNat)
  case atStart => exact ⟨0, Nat.zero_le _, rfl, 0, rfl⟩
  case round =>
    obtain ⟨k, hk, rfl, q, rfl⟩ := hrel
    by_cases hlt : k < l.length
    · obtain ⟨b1, o1, rfl, hc1⟩ := HC1.out (by omega)
      obtain ⟨b2, o2, rfl, hc2⟩ := HC2.out (by omega)
      have g1 := hc1 k hlt
      have g2 := hc2 k hlt
      clear hc1 hc2 HC1 HC2
      have hk1 : (0 : Int) ≤ (k : Int) := by omega
      have hk2 : (k : Int) < (l.length : Int) := by omega
      generalize l.getD k 0 = x at g1 g2
      go_wp2
      go_quiet (fail)
      go_wp2
      go_roundw
      case rel => exact ⟨k + 1, by omega, by go_num, _, rfl⟩
      case measure => simp [intOf]; omega
    · go_wp2
      go_ret
      exact ⟨rfl, below_drewN (Below.refl _ _) _⟩

end Go.Proofs.YtkkommomefmpgaaGreat

/- Rows of bytes that a file holds: an append of zeros, at a step of a region that draws its order. -/
namespace Go.Proofs.YtkkommomefmpgaaGreat
open Go.RowKit

structure RowAt (W : World) (b cap : Nat) (l : List UInt8) : Prop where
  row : ∃ cur : List Value, W.heap[b]? = some (.cells cur.toArray 5 (0, 0)) ∧ cap ≤ cur.length ∧ cur.take l.length = l.map bv
  len : l.length ≤ cap
  lim : cap ≤ maxLen

theorem zeroCells_one (z : Value) (hz : z.cells = #[z]) (n : Nat) : (Builtin.zeroCells z.cells n).toList = List.replicate n z := by
  rw [hz]
  apply List.ext_getElem?
  intro j
  by_cases hj : j < n
  · simp [Builtin.zeroCells, hj, Nat.mod_one]
  · simp [Builtin.zeroCells, hj]

theorem run_append_room_zeros {P : Program} (w : World) (t tn ty e : TypeId) (i : TypeInfo) (z : Value) (kq kn : IntKind) (ht : P.underlying t = some (.slice e)) (htn : P.underlying tn = some (.int kn)) (hi : P.info? e = some i) (hz : i.zero = some z) (hsz : i.size = 1) (hzc : z.cells = #[z]) (h1 : z.oneCell' = true)
    (g sLen sCap : Nat) (cur : Array Value) (hg : w.heap[g]? = some (.cells cur e (0, 0)))
    (k : Nat) (h0 : 0 < k) (hroom : sLen + k ≤ sCap) (hfit : sLen + k ≤ cur.size) (h48 : k * i.bytes ≤ 281474976710656) (h63 : (k : Int) ≤ 9223372036854775807) :
    (Builtin.append_ #[t, tn] ty #[.slice (some ⟨g, 0, none⟩) sLen sCap, .int kq k]).run P w =
      .ok (.slice (some ⟨g, 0, none⟩) (sLen + k) sCap) (w.setRow g (cur.toList.take sLen ++ List.replicate k z ++ cur.toList.drop (sLen + k)).toArray) := by
  have hk : k ≠ 0 := by omega
  have hw : IntKind.i64.wrap (k : Int) = k := by rw [IntKind.wrap_i64]; omega
  have h48i : ¬ (281474976710656 < (k : Int) * (i.bytes : Int)) := by
    rw [← Int.natCast_mul]
    omega
  have hneg : ¬ ((k : Int) < 0) := by omega
  have hzl := zeroCells_one z hzc k
  have hst := run_storeCells_at P g sLen e (List.replicate k z) 0 cur w hg (by simpa using hfit) (by intro v hv; rw [(List.mem_replicate.1 hv).2]; exact h1)
  simp only [Nat.add_zero, List.length_replicate] at hst
  simp [Builtin.append_, run_underlying ht, run_underlying htn, sizeOf, typeInfo, zeroValue, hi, hz, hsz, asInt, asIntOf, hw, hk, hneg, h48i, hroom, Addr.add_lit, hzl, hst]

theorem Tryz.infoB1 : (Tryz.prog.info? 5).map (fun i => (i.zero, i.size, i.bytes)) = some (some (.int .u8 0), 1, 1) := by kernel_rfl

theorem run_append_zeros (w : World) (ty : TypeId) (b cap : Nat) (l : List UInt8) (k : Nat) (h : RowAt w b cap l) (h0 : 0 < k) (hk : l.length + k ≤ 140737488351232) :
    ∃ b' cap' w', (Builtin.append_ #[40, 3] ty #[.slice (some ⟨b, 0, none⟩) l.length cap, .int .i64 k]).run Tryz.prog w = .ok (.slice (some ⟨b', 0, none⟩) (l.length + k) cap') w' ∧
      RowAt w' b' cap' (l ++ List.replicate k 0) ∧ w.grownBy w' (some b) ∧ (b' = b ∨ b' = w.heap.size) := by
  obtain ⟨i0, hi, hz0, hz1, hz2⟩ := info_parts Tryz.infoB1
  obtain ⟨cur, hrow, hcap, hcells⟩ := h.row
  have hl := h.len
  have hm := h.lim
  unfold maxLen at hm
  have hbl : b < w.heap.size := (Array.getElem?_eq_some_iff.1 hrow).1
  by_cases hroom : l.length + k ≤ cap
  · have hr := run_append_room_zeros (P := Tryz.prog) w 40 3 ty 5 i0 (.int .u8 0) .i64 .i64 Tryz.underlying40 Tryz.underlying3 hi hz0 hz1 rfl rfl b l.length cap cur.toArray hrow k h0 hroom (by simp; omega) (by rw [hz2]; omega) (by omega)
    refine ⟨b, cap, _, hr, ⟨⟨_, setRow_heap w b _ _ _ _ hrow, ?_, ?_⟩, ?_, h.lim⟩, ⟨rfl, rfl, rfl, by simp [World.setRow], fun j _ hj => setRow_other w b j _ (fun e => hj (by rw [e]))⟩, .inl rfl⟩
    · simp only [List.length_append, List.length_take, List.length_replicate, List.length_drop]; omega
    · rw [hcells, List.length_append, List.length_replicate, List.map_append, List.map_replicate]
      show List.take (l.length + k) (List.map bv l ++ List.replicate k (.int .u8 0) ++ _) = List.map bv l ++ List.replicate k (.int .u8 0)
      rw [List.take_left' (by simp)]
    · simp only [List.length_append, List.length_replicate]; exact hroom
  · have hold : (Builtin.firstCells i0.size l.length (.slice (some ⟨b, 0, none⟩) l.length cap)).run Tryz.prog w.drew = .ok (l.map bv).toArray w.drew := by
      refine run_firstCells_some w.drew _ _ _ _ _ _ (by rw [hz1]; simp) fun j v hj => ?_
      have hadd : (⟨b, 0, none⟩ : Addr).add j = ⟨b, j, none⟩ := by unfold Addr.add; split <;> simp_all
      rw [hadd, cell_of_row w.drew b j cur.toArray _ _ hrow]
      rw [← hcells, List.getElem?_take] at hj
      split at hj
      · simpa using hj
      · cases hj
    have hr := Lib.run_append_grow_zeros (P := Tryz.prog) w 40 3 ty 5 i0 (.int .u8 0) .i64 .i64 Tryz.underlying40 Tryz.underlying3 hi hz0 (some ⟨b, 0, none⟩) l.length cap (l.map bv) hold k h0 (by omega) (by omega) (by omega) (by rw [hz2]; omega) (growslice_fits (by omega) (by rw [hz2]; omega))
    have hge := grownCap_ge w (l.length + k) cap 5
    have hA : (l.map bv).toArray ++ Builtin.zeroCells (Value.int .u8 0).cells k ++ Builtin.zeroCells (Value.int .u8 0).cells (grownCap w (l.length + k) cap 5 - (l.length + k)) = (l.map bv ++ List.replicate k (Value.int .u8 0) ++ List.replicate (grownCap w (l.length + k) cap 5 - (l.length + k)) (Value.int .u8 0)).toArray := by
      apply Array.ext'
      rw [Array.toList_append, Array.toList_append, zeroCells_one _ rfl, zeroCells_one _ rfl]
    rw [hA] at hr
    refine ⟨w.heap.size, _, _, hr, ⟨⟨_, heap_alloc_new w.drew _, ?_, ?_⟩, ?_, grownCap_le_maxLen w _ _ _ (by unfold maxLen; omega)⟩, ⟨rfl, rfl, rfl, by simp, fun j hj _ => Below.heap_alloc w.drew _ j hj⟩, .inr rfl⟩
    · simp only [List.length_append, List.length_map, List.length_replicate]; omega
    · rw [List.length_append, List.length_replicate, List.map_append, List.map_replicate]
      show List.take (l.length + k) (List.map bv l ++ List.replicate k (.int .u8 0) ++ _) = List.map bv l ++ List.replicate k (.int .u8 0)
      rw [List.take_left' (by simp)]
    · simp only [List.length_append, List.length_replicate]; omega

theorem step_append_zeros (w : World) {ops : Array Oper} {o : Oper} {a : Act} {K : Act → World → Prop} {Q : Exit → Act → World → Prop} {E : Prop}
    (hg : o.guard = none) (s x : Operand) (hop : o.op = Op.call { callee := Callee.builtin Builtin.append, args := #[s, x], argTypes := #[40, 3] })
    (b cap : Nat) (l : List UInt8) (k : Nat) (h : RowAt w b cap l) (h0 : 0 < k) (hk : l.length + k ≤ 140737488351232) (hs : a.eval s = .slice (some ⟨b, 0, none⟩) l.length cap) (kk : Int) (hx : a.eval x = .int .i64 kk) (hkk : kk = (k : Int))
    (hK : ∀ b' cap' w', Hid (RowAt w' b' cap' (l ++ List.replicate k 0)) → w.grownBy w' (some b) → (b' = b ∨ b' = w.heap.size) → K (a.put o.dst (.slice (some ⟨b', 0, none⟩) (l.length + k) cap')) w') :
    if Region.wanted o (yielded ops a.tmps) = true then Oper.wp Tryz.prog o a w K Q else E := by
  subst hkk
  have hw : Region.wanted o (yielded ops a.tmps) = true := by simp [Region.wanted, hg]
  rw [if_pos hw]
  obtain ⟨b', cap', w', hrun, r1, r2, r3⟩ := run_append_zeros w o.type b cap l k h h0 hk
  unfold Oper.wp
  simp [execOp, hop, resolve, invoke, builtin, hs, hx, hrun, Result.andThen]
  exact hK b' cap' w' r1 r2 r3

theorem run_copy (w : World) (ty : TypeId) (dp sp : Option Addr) (dLen dCap sLen sCap : Nat) (g off : Nat) (cur : List Value) (hg : w.heap[g]? = some (.cells cur.toArray 5 (0, 0))) (cs : List Value) (hn : cs.length = Nat.min sLen dLen)
    (hpos : 0 < cs.length → dp = some ⟨g, off, none⟩ ∧ ∃ ad, sp = some ad ∧ ∀ j v, cs[j]? = some v → w.cell? (ad.add j) = some v) (hfit : off + cs.length ≤ cur.length) (h1 : ∀ v ∈ cs, v.oneCell' = true) :
    ∃ w', (Builtin.copy_ #[40, 40] ty #[.slice dp dLen dCap, .slice sp sLen sCap]).run Tryz.prog w = .ok (goInt cs.length) w' ∧ Hid (w'.heap[g]? = some (.cells (splice cur off cs).toArray 5 (0, 0))) ∧ w.grownBy w' (some g) := by
  refine (?_ : ∃ w', (Builtin.copy_ #[40, 40] ty #[.slice dp dLen dCap, .slice sp sLen sCap]).run Tryz.prog w = .ok (goInt cs.length) w' ∧ w'.heap[g]? = some (.cells (splice cur off cs).toArray 5 (0, 0)) ∧ w.grownBy w' (some g))
  obtain ⟨i0, hi, hz0, hz1, hz2⟩ := info_parts Tryz.infoB
  have hsz : (Tryz.prog.info? 5).map (·.size) = some 1 := by rw [hi]; simp [hz1]
  by_cases h0 : cs.length = 0
  · obtain rfl : cs = [] := List.eq_nil_of_length_eq_zero h0
    exact ⟨w, run_copy_none (P := Tryz.prog) w _ _ ty 5 dp sp dLen dCap sLen sCap Tryz.underlying40 hsz (by simpa using hn.symm), by simpa [splice] using hg, ⟨rfl, rfl, rfl, Nat.le_refl _, fun _ _ _ => rfl⟩⟩
  · obtain ⟨rfl, ad, rfl, hsrc⟩ := hpos (by omega)
    have hrun := run_copy_row (P := Tryz.prog) w 40 40 ty 5 g off dLen dCap ad sLen sCap cur.toArray 5 cs Tryz.underlying40 hsz hg hn hsrc (by simpa using hfit) h1
    refine ⟨_, hrun, by simpa [splice] using setRow_heap w g _ _ 5 _ hg, ⟨rfl, rfl, rfl, by simp [World.setRow], fun j _ hj => setRow_other w g j _ (fun e => hj (by rw [e]))⟩⟩

theorem RowAt.keep {W W' : World} {b cap : Nat} {l : List UInt8} (h : RowAt W b cap l) (hB : W'.heap[b]? = W.heap[b]?) : RowAt W' b cap l := by
  obtain ⟨⟨cur, h1, h2⟩, h3, h4⟩ := h
  exact ⟨⟨cur, hB.trans h1, h2⟩, h3, h4⟩
theorem RowAt.lt {W : World} {b cap : Nat} {l : List UInt8} (h : RowAt W b cap l) : b < W.heap.size := by
  obtain ⟨⟨cur, h1, h2⟩, h3, h4⟩ := h
  exact (Array.getElem?_eq_some_iff.1 h1).1
theorem RowAt.cell {W : World} {b cap : Nat} {l : List UInt8} (h : RowAt W b cap l) (j : Nat) (hj : j < l.length) : W.cell? ⟨b, j, none⟩ = some (.int .u8 ((l.getD j 0).toNat : Int)) := by
  obtain ⟨⟨cur, h1, _, h2⟩, h3, h4⟩ := h
  rw [cell_of_row W b j cur.toArray _ _ h1]
  have h5 : (cur.take l.length)[j]? = (l.map bv)[j]? := by rw [h2]
  rw [List.getElem?_take, if_pos hj] at h5
  simpa [List.getElem?_eq_getElem hj, List.getD_eq_getElem?_getD, bv] using h5
theorem RowAt.cut {W : World} {b cap : Nat} {l : List UInt8} (h : RowAt W b cap l) (x m c : Nat) (hx : x + m ≤ l.length) : Bys W (.slice (some ⟨b, x, none⟩) m c) ((l.drop x).take m) := by
  have hlen : ((l.drop x).take m).length = m := by simp; omega
  by_cases hm : m = 0
  · subst hm
    exact .inr (.inl ⟨_, _, rfl, by simp⟩)
  · refine .inr (.inr ⟨b, x, c, by rw [hlen], by omega, fun j hj => ?_⟩)
    rw [hlen] at hj
    rw [h.cell (x + j) (by omega)]
    simp [List.getD_eq_getElem?_getD, List.getElem?_drop, hj]
theorem RowAt.bys {W : World} {b cap : Nat} {l : List UInt8} (h : RowAt W b cap l) : Bys W (.slice (some ⟨b, 0, none⟩) l.length cap) l := by
  simpa using h.cut 0 l.length cap (by omega)
theorem RowAt.shorter {W : World} {b cap : Nat} {l : List UInt8} (h : RowAt W b cap l) (m : Nat) (hm : m ≤ l.length) : RowAt W b m (l.take m) := by
  obtain ⟨⟨cur, h1, h2, h3⟩, h4, h5⟩ := h
  refine ⟨⟨cur, h1, by omega, ?_⟩, by simp; omega, by omega⟩
  rw [List.length_take, Nat.min_eq_left hm, List.map_take, ← h3, List.take_take, Nat.min_eq_left hm]
theorem RowAt.of_owns {W : World} {base b cap : Nat} {l : List UInt8} (h : W.ownsRow base 5 1 (.slice (some ⟨b, 0, none⟩) l.length cap) l.length (l.map bv)) : RowAt W b cap l := by
  rcases h.2 with ⟨h0, _⟩ | ⟨g, c, cur, h1, h2, h3, h4, h5, h6, h7⟩
  · cases h0
  · cases h1
    exact ⟨⟨cur.toList, by rw [Array.toArray_toList]; exact h3, by rw [Array.length_toList]; omega, by simpa using h7⟩, h4, h5⟩
theorem RowAt.laid {W' : World} {b cap : Nat} {l x : List UInt8} {cur : List Value} {off : Nat} (hc : cap ≤ cur.length) (ht : cur.take l.length = l.map bv) (h4 : l.length ≤ cap) (h5 : cap ≤ maxLen) (hoff : off + x.length ≤ l.length)
    (hW : W'.heap[b]? = some (.cells (splice cur off (x.map bv)).toArray 5 (0, 0))) : RowAt W' b cap (l.take off ++ (x ++ l.drop (off + x.length))) := by
  have hlen : (l.take off ++ (x ++ l.drop (off + x.length))).length = l.length := by simp; omega
  refine ⟨⟨_, hW, by rw [length_splice _ _ _ (by simp; omega)]; exact hc, ?_⟩, by omega, h5⟩
  rw [hlen]
  obtain ⟨R, rfl⟩ : ∃ R, cur = l.map bv ++ R := ⟨cur.drop l.length, by rw [← ht]; exact (List.take_append_drop _ _).symm⟩
  have h1 : List.take off (l.map bv ++ R) = List.take off (l.map bv) := List.take_append_of_le_length (by simp; omega)
  have h2 : List.drop (off + (x.map bv).length) (l.map bv ++ R) = List.drop (off + (x.map bv).length) (l.map bv) ++ R := List.drop_append_of_le_length (by simp; omega)
  unfold splice
  rw [h1, h2, ← List.append_assoc, ← List.append_assoc, List.take_left' (by simp; omega)]
  simp
end Go.Proofs.YtkkommomefmpgaaGreat

/- Terminals: what stays when some blocks turn; lists of lines; appends whose block is told. -/
namespace Go.Proofs.YtkkommomefmpgaaGreat
open Go.RowKit

theorem owns_slice {W : World} {base e size n : Nat} {v : Value} {xs : List Value} (h : W.ownsRow base e size v n xs) : ∃ a c, v = .slice a n c := by
  rcases h.2 with ⟨rfl, rfl⟩ | ⟨g, cap, cur, rfl, _⟩
  · exact ⟨_, _, rfl⟩
  · exact ⟨_, _, rfl⟩
theorem owns_cap {W : World} {base e size n : Nat} {a : Option Addr} {c : Nat} {xs : List Value} (h : W.ownsRow base e size (.slice a n c) n xs) : n ≤ c := by
  rcases h.2 with ⟨h0, h1⟩ | ⟨g, cap, cur, h1, h2, h3, h4, h5⟩
  · cases h0; exact Nat.le_refl _
  · cases h1; exact h4
theorem size_new (w : World) (o : Obj) : w.heap.size < (w.alloc o).heap.size := by simp
theorem owns_keep {W W' : World} {base e size n : Nat} {v : Value} {xs : List Value} (h : W.ownsRow base e size v n xs) (hB : ∀ k, v.ownBlock = some k → W'.heap[k]? = W.heap[k]?) : W'.ownsRow base e size v n xs := by
  refine ⟨h.1, ?_⟩
  rcases h.2 with h1 | ⟨g, cap, cur, rfl, h2, h3, h4⟩
  · exact .inl h1
  · exact .inr ⟨g, cap, cur, rfl, h2, (hB g rfl).trans h3, h4⟩
theorem owns_below {W W' : World} {base e size n : Nat} {v : Value} {xs : List Value} (h : W.ownsRow base e size v n xs) (hB : Below W.heap.size W W') : W'.ownsRow base e size v n xs :=
  owns_keep h fun k hk => hB.block k (h.lt k hk).2
theorem owns_mono {W : World} {base base' e size n : Nat} {v : Value} {xs : List Value} (h : W.ownsRow base e size v n xs) (hb : base' ≤ base) : W.ownsRow base' e size v n xs := by
  refine ⟨h.1, ?_⟩
  rcases h.2 with h1 | ⟨g, cap, cur, h1, h2, h3⟩
  · exact .inl h1
  · exact .inr ⟨g, cap, cur, h1, Nat.le_trans hb h2, h3⟩
theorem Bys.keep {W W' : World} {v : Value} {l : List UInt8} (h : Bys W v l) (hB : ∀ k, v.ownBlock = some k → k < W.heap.size → W'.heap[k]? = W.heap[k]?) : Bys W' v l := by
  rcases h with h | h | ⟨b, off, cap, rfl, h0, hc⟩
  · exact .inl h
  · exact .inr (.inl h)
  · refine .inr (.inr ⟨b, off, cap, rfl, h0, fun j hj => ?_⟩)
    have h1 := World.block_lt_of_cell? W _ (hc j hj)
    exact (World.cell?_of_block (w := W) (hB b rfl h1)).trans (hc j hj)

structure Turned (S : Nat → Prop) (w w' : World) : Prop where
  os : w'.os = w.os
  tape : w'.tape = w.tape
  output : w'.output = w.output
  size : w.heap.size ≤ w'.heap.size
  block : ∀ k, k < w.heap.size → ¬ S k → w'.heap[k]? = w.heap[k]?
theorem Turned.refl (S : Nat → Prop) (w : World) : Turned S w w := ⟨rfl, rfl, rfl, Nat.le_refl _, fun _ _ _ => rfl⟩
theorem Turned.trans {S S' : Nat → Prop} {a b c : World} (h : Turned S a b) (h' : Turned S' b c) (hs : ∀ k, k < a.heap.size → S' k → S k) : Turned S a c :=
  ⟨h'.os.trans h.os, h'.tape.trans h.tape, h'.output.trans h.output, Nat.le_trans h.size h'.size, fun k hk hn => (h'.block k (Nat.lt_of_lt_of_le hk h.size) (fun e => hn (hs k hk e))).trans (h.block k hk hn)⟩
theorem Turned.mono {S S' : Nat → Prop} {a b : World} (h : Turned S a b) (hs : ∀ k, S k → S' k) : Turned S' a b :=
  ⟨h.os, h.tape, h.output, h.size, fun k hk hn => h.block k hk (fun e => hn (hs k e))⟩
theorem Turned.below {S : Nat → Prop} {B : Nat} {w w' : World} (h : Turned S w w') (hS : ∀ k, S k → B ≤ k) (hB : B ≤ w.heap.size) : Below B w w' :=
  ⟨h.os, h.tape, h.output, h.size, fun k hk => h.block k (Nat.lt_of_lt_of_le hk hB) (fun e => by have := hS k e; omega)⟩
theorem Turned.of_below {S : Nat → Prop} {w w' : World} (h : Below w.heap.size w w') : Turned S w w' := ⟨h.os, h.tape, h.output, h.size, fun k hk _ => h.block k hk⟩
theorem Turned.cell {S : Nat → Prop} {w w' : World} (h : Turned S w w') {p : Addr} {v : Value} (hp : w.cell? p = some v) (hS : ¬ S p.block) : w'.cell? p = some v :=
  (World.cell?_of_block (w := w) (h.block _ (World.block_lt_of_cell? w _ hp) hS)).trans hp
theorem Turned.set {S : Nat → Prop} {w wr : World} {g j : Nat} {u : Value} (hT : Turned S w wr) (hg : S g ∨ w.heap.size ≤ g) : Turned S w (wr.setCell ⟨g, j, none⟩ u) := by
  refine hT.trans (S' := fun k => k = g) ⟨rfl, rfl, rfl, by simp [World.setCell], fun k hk hn => Below.heap_setCell _ _ _ _ hn⟩ (fun k hk e => by subst e; exact hg.resolve_right (by omega))
theorem Turned.grown {S : Nat → Prop} {w wr w1 : World} {vb : Option Nat} (hT : Turned S w wr) (hg : wr.grownBy w1 vb) (hv : ∀ k, vb = some k → S k ∨ w.heap.size ≤ k) : Turned S w w1 :=
  hT.trans (S' := fun k => vb = some k) ⟨hg.os, hg.tape, hg.output, hg.size, fun k hk hn => hg.block k hk (fun e => hn e.symm)⟩ (fun k hk e => (hv k e).resolve_right (by omega))
theorem Bys.turned {S : Nat → Prop} {W W' : World} {v : Value} {l : List UInt8} (h : Bys W v l) (hT : Turned S W W') (hS : ∀ k, v.ownBlock = some k → k < W.heap.size → ¬ S k) : Bys W' v l :=
  h.keep fun k hk hlt => hT.block k hlt (hS k hk hlt)
theorem owns_turned {S : Nat → Prop} {W W' : World} {base e size n : Nat} {v : Value} {xs : List Value} (h : W.ownsRow base e size v n xs) (hT : Turned S W W') (hS : ∀ k, v.ownBlock = some k → ¬ S k) : W'.ownsRow base e size v n xs :=
  owns_keep h fun k hk => hT.block k (h.lt k hk).2 (hS k hk)

theorem run_append_bytes (w : World) (ty : TypeId) (base : Nat) (s x : Value) (m l : List UInt8) (hs : w.ownsRow base 5 1 s m.length (m.map bv)) (hx : Bys w x l) (hn : m.length + l.length ≤ 140737488351232) (hb : base ≤ w.heap.size) :
    ∃ s' w', (Builtin.append_ #[40, 40] ty #[s, x]).run Tryz.prog w = .ok s' w' ∧ Hid (w'.ownsRow base 5 1 s' (m ++ l).length ((m ++ l).map bv)) ∧ w.grownBy w' s.ownBlock ∧ (s'.ownBlock = s.ownBlock ∨ s'.ownBlock = some w.heap.size) := by
  refine (?_ : ∃ s' w', (Builtin.append_ #[40, 40] ty #[s, x]).run Tryz.prog w = .ok s' w' ∧ w'.ownsRow base 5 1 s' (m ++ l).length ((m ++ l).map bv) ∧ w.grownBy w' s.ownBlock ∧ (s'.ownBlock = s.ownBlock ∨ s'.ownBlock = some w.heap.size))
  obtain ⟨i0, hi, hz0, hz1, hz2⟩ := info_parts Tryz.infoB
  rw [List.length_append, List.map_append]
  rcases hx with ⟨rfl, rfl⟩ | ⟨a, cap, rfl, rfl⟩ | ⟨b, off, cap, rfl, h0, hc⟩
  · exact ⟨s, w, run_append_owned_none (P := Tryz.prog) w base _ ty _ i0 1 Tryz.underlying40 hi s _ _ hs, by simpa using hs, ⟨rfl, rfl, rfl, Nat.le_refl _, fun _ _ _ => rfl⟩, .inl rfl⟩
  · obtain ⟨v', w', h1, h2, h3, _, h5⟩ := run_append_own_at (P := Tryz.prog) w base 40 ty 5 i0 (.int .u8 0) 1 1 Tryz.underlying40 hi hz0 hz1 hz2 rfl (by decide) s _ _ hs a 0 cap [] rfl (by simp) (by simp) (by unfold maxLen; omega) (by omega) hb
    exact ⟨v', w', h1, h2, h3, h5⟩
  · obtain ⟨v', w', h1, h2, h3, _, h5⟩ := run_append_own_at (P := Tryz.prog) w base 40 ty 5 i0 (.int .u8 0) 1 1 Tryz.underlying40 hi hz0 hz1 hz2 rfl (by decide) s _ _ hs ⟨b, off, none⟩ l.length cap (l.map bv) (by simp) (bys_news hc) (bys_one l) (by unfold maxLen; omega) (by omega) hb
    exact ⟨v', w', h1, h2, h3, h5⟩

theorem Tryz.infoL : (Tryz.prog.info? 40).map (fun i => (i.zero, i.size, i.bytes)) = some (some (.slice none 0 0), 1, 24) := by kernel_rfl
theorem run_append_line (w : World) (ty : TypeId) (base : Nat) (s : Value) (n : Nat) (xs : List Value) (g c : Nat) (u : Value) (hs : w.ownsRow base 40 1 s n xs) (hx : w.cell? ⟨g, 0, none⟩ = some u) (hu : u.oneCell' = true) (hn : (n + 1) * 24 ≤ 140737488355328) (hb : base ≤ w.heap.size) :
    ∃ s' w', (Builtin.append_ #[48, 48] ty #[s, .slice (some ⟨g, 0, none⟩) 1 c]).run Tryz.prog w = .ok s' w' ∧ Hid (w'.ownsRow base 40 1 s' (n + 1) (xs ++ [u])) ∧ w.grownBy w' s.ownBlock ∧ (s'.ownBlock = s.ownBlock ∨ s'.ownBlock = some w.heap.size) := by
  refine (?_ : ∃ s' w', (Builtin.append_ #[48, 48] ty #[s, .slice (some ⟨g, 0, none⟩) 1 c]).run Tryz.prog w = .ok s' w' ∧ w'.ownsRow base 40 1 s' (n + 1) (xs ++ [u]) ∧ w.grownBy w' s.ownBlock ∧ (s'.ownBlock = s.ownBlock ∨ s'.ownBlock = some w.heap.size))
  obtain ⟨i0, hi, hz0, hz1, hz2⟩ := info_parts Tryz.infoL
  obtain ⟨v', w', h1, h2, h3, _, h5⟩ := run_append_own_at (P := Tryz.prog) w base 48 ty 40 i0 (.slice none 0 0) 1 24 Tryz.underlying48 hi hz0 hz1 hz2 rfl (by decide) s _ _ hs ⟨g, 0, none⟩ 1 c [u] rfl (fun j v hj => by
    match j, hj with
    | 0, hj => 
      obtain rfl : u = v := by simpa using hj
      have hadd : (⟨g, 0, none⟩ : Addr).add 0 = ⟨g, 0, none⟩ := by unfold Addr.add; split <;> simp_all
      rw [hadd]; exact hx) (by simpa using hu) (by unfold maxLen; omega) (by omega) hb
  exact ⟨v', w', h1, h2, h3, h5⟩

theorem step_append_run {P : Program} (w : World) {ops : Array Oper} {o : Oper} {a : Act} {K : Act → World → Prop} {Q : Exit → Act → World → Prop} {E : Prop}
    (hg : o.guard = none) (s x : Operand) (t tn : TypeId) (ho : o.op = Op.call { callee := Callee.builtin Builtin.append, args := #[s, x], argTypes := #[t, tn] }) (vs vx : Value) (hs : a.eval s = vs) (hx : a.eval x = vx)
    (v' : Value) (w' : World) (hr : (Builtin.append_ #[t, tn] o.type #[vs, vx]).run P w = .ok v' w') (h : K (a.put o.dst v') w') :
    if Region.wanted o (yielded ops a.tmps) = true then Oper.wp P o a w K Q else E := by
  have hw : Region.wanted o (yielded ops a.tmps) = true := by simp [Region.wanted, hg]
  rw [if_pos hw]
  exact Lib.wp_append_run w s x t tn ho vs vx hs hx v' w' hr h

def Lns (W : World) (v : Value) (ls : List (List UInt8)) : Prop :=
  ∃ a c, v = .slice a ls.length c ∧ (0 < ls.length → ∃ b off, a = some ⟨b, off, none⟩ ∧ ∀ j (hj : j < ls.length), ∃ va vc, W.cell? ⟨b, off + j, none⟩ = some (.slice va ls[j].length vc) ∧ Bys W (.slice va ls[j].length vc) ls[j])
theorem Lns.below {W W' : World} {v : Value} {ls : List (List UInt8)} (h : Lns W v ls) (hB : Below W.heap.size W W') : Lns W' v ls := by
  obtain ⟨a, c, rfl, hc⟩ := h
  refine ⟨a, c, rfl, fun h0 => ?_⟩
  obtain ⟨b, off, rfl, hd⟩ := hc h0
  refine ⟨b, off, rfl, fun j hj => ?_⟩
  obtain ⟨va, vc, h1, h2⟩ := hd j hj
  exact ⟨va, vc, (hB.cell (p := ⟨b, off + j, none⟩) (World.block_lt_of_cell? W _ h1)).trans h1, h2.below hB⟩
theorem Lns.at {W : World} {a : Option Addr} {n c : Nat} {ls : List (List UInt8)} (h : Lns W (.slice a n c) ls) (j : Nat) (hj : j < ls.length) :
    ∃ b off va vc, a = some ⟨b, off, none⟩ ∧ W.cell? ⟨b, off + j, none⟩ = some (.slice va ls[j].length vc) ∧ Bys W (.slice va ls[j].length vc) ls[j] := by
  obtain ⟨a', c', he, hc⟩ := h
  cases he
  obtain ⟨b, off, rfl, hd⟩ := hc (by omega)
  obtain ⟨va, vc, h1, h2⟩ := hd j hj
  exact ⟨b, off, va, vc, rfl, h1, h2⟩
theorem Lns.form {W : World} {v : Value} {ls : List (List UInt8)} (h : Lns W v ls) : ∃ a c, v = .slice a ls.length c := by
  obtain ⟨a, c, rfl, _⟩ := h
  exact ⟨a, c, rfl⟩
theorem bys_block {W : World} {a : Option Addr} {n c : Nat} {l : List UInt8} (h : Bys W (.slice a n c) l) (h0 : 0 < l.length) : n = l.length ∧ ∃ b off, a = some ⟨b, off, none⟩ ∧ b < W.heap.size ∧ ∀ j, j < l.length → W.cell? ⟨b, off + j, none⟩ = some (.int .u8 ((l.getD j 0).toNat : Int)) := by
  obtain ⟨a', c', he, hc⟩ := bys_form h
  cases he
  obtain ⟨b, off, rfl, hd⟩ := hc h0
  exact ⟨rfl, b, off, rfl, World.block_lt_of_cell? W _ (hd 0 h0), hd⟩
theorem bys_cut {W : World} {b off n c : Nat} {l : List UInt8} (h : Bys W (.slice (some ⟨b, off, none⟩) n c) l) (x m c' : Nat) (hx : x + m ≤ l.length) : Bys W (.slice (some ⟨b, off + x, none⟩) m c') ((l.drop x).take m) := by
  have hlen : ((l.drop x).take m).length = m := by simp; omega
  by_cases hm : m = 0
  · subst hm
    exact .inr (.inl ⟨_, _, rfl, by simp⟩)
  · obtain ⟨_, b', off', he, _, hc⟩ := bys_block h (by omega)
    cases he
    refine .inr (.inr ⟨b, off + x, c', by rw [hlen], by omega, fun j hj => ?_⟩)
    rw [hlen] at hj
    rw [Nat.add_assoc, hc (x + j) (by omega)]
    simp [List.getD_eq_getElem?_getD, List.getElem?_drop, hj]
end Go.Proofs.YtkkommomefmpgaaGreat

/- The small functions of file: isMade, inRange, copied. -/
namespace Go.Proofs.YtkkommomefmpgaaGreat
open Go.RowKit

def Fi_Ints (W : World) (v : Value) (l : List Int) : Prop :=
  ∃ a c, v = .slice a l.length c ∧ (0 < l.length → ∃ b off, a = some ⟨b, off, none⟩ ∧ ∀ j, j < l.length → W.cell? ⟨b, off + j, none⟩ = some (.int .i64 (l.getD j 0)))

def inR (n : Int) : Bool := decide (0 ≤ n ∧ n ≤ 1048576)
theorem inR_yes {n : Int} (h1 : 0 ≤ n) (h2 : n ≤ 1048576) : inR n = true := by simp [inR, h1, h2]
theorem inR_no {n : Int} (h : ¬ (0 ≤ n ∧ n ≤ 1048576)) : inR n = false := by simp only [inR, decide_eq_false_iff_not]; exact h

set_option maxHeartbeats 1000000 in
theorem Fi_isMade_yes (g : Nat) (w : World) (h : w.cell? ⟨g, 0, none⟩ = some (.bool true)) :
    Calls Tryz.prog 195 #[.pointer (some ⟨g, 0, none⟩)] w fun e w' => e = .returned (.bool true) ∧ w' = w := by
  go_enter Tryz.func195, Tryz.ntmps195
  go_wp2
  go_ret
  exact ⟨rfl, rfl⟩
set_option maxRecDepth 100000 in
set_option maxHeartbeats 1000000 in
theorem inRange_any (v : Value) (is : List Int) (w : World) (h : Fi_Ints w v is) (hs : is.length ≤ 1000) :
    Calls Tryz.prog 220 #[v] w fun e w' => e = .returned (.bool (is.all inR)) ∧ w' = w := by
  obtain ⟨a, c, rfl, hc⟩ := h
  have HC := hide hc
  clear hc
  go_enter Tryz.func220, Tryz.ntmps220
  go_wp2
  go_loopw [4, 7] (fun _ i wr => ∃ k : Nat, k ≤ is.length ∧ i = .int .i64 k ∧ wr = w ∧ (is.take k).all inR = true) (fun _ i _ => is.length - (intOf i).toNat)
  case atStart => exact ⟨0, Nat.zero_le _, rfl, rfl, by simp⟩
  case round =>
    obtain ⟨k, hk, rfl, rfl, hall⟩ := hrel
    have HA := hide hall
    clear hall
    by_cases hlt : k < is.length
    · obtain ⟨b, off, rfl, hc⟩ := HC.out (by omega)
      have g1 := hc k hlt
      have hk1 : (0 : Int) ≤ (k : Int) := by omega
      have hk2 : (k : Int) < (is.length : Int) := by omega
      have hx : is.getD k 0 = is[k] := by rw [List.getD_eq_getElem?_getD, List.getElem?_eq_getElem hlt]; rfl
      rw [hx] at g1
      have HE : Hid (∀ y, inR is[k] = y → is.all inR = (y && (is.drop (k + 1)).all inR)) := hide fun y hy => by
        conv => lhs; rw [← List.take_append_drop k is, List.all_append, HA.out, List.drop_eq_getElem_cons hlt, List.all_cons, hy]
        simp
      have HT : Hid (inR is[k] = true → (is.take (k + 1)).all inR = true) := hide fun hy => by
        rw [List.take_succ_eq_append_getElem hlt, List.all_append, HA.out]; simp [hy]
      generalize is[k] = x at *
      clear hc HC HA hx
      rcases (show x < 0 ∨ 1048576 < x ∨ (0 ≤ x ∧ x ≤ 1048576) by omega) with hx | hx | ⟨hx1, hx2⟩
      · go_wp2
        go_ret
        exact ⟨ret_bool (by rw [HE.out false (inR_no (by omega))]; rfl), rfl⟩
      · have hd : decide (x < 0) = false := by simp; omega
        go_wp2
        go_ret
        exact ⟨ret_bool (by rw [HE.out false (inR_no (by omega))]; rfl), rfl⟩
      · have hd : decide (x < 0) = false := by simp; omega
        have hd2 : decide (1048576 < x) = false := by simp; omega
        go_wp2
        go_roundw
        case rel => exact ⟨k + 1, by omega, by go_num, by trivial, HT.out (inR_yes hx1 hx2)⟩
        case measure => simp [intOf]; omega
    · have hkl : k = is.length := by omega
      go_wp2
      go_ret
      refine ⟨ret_bool ?_, rfl⟩
      have := HA.out
      rw [hkl, List.take_length] at this
      exact this.symm

theorem Fi_made_row {w w1 : World} {n : Nat} {xs : List Value} (h : w1.ownsRow w.heap.size 5 1 (.slice (some ⟨w.heap.size, 0, none⟩) n n) n xs) (hg : w.grownBy w1 none) :
    ∃ cur : List Value, cur.length = n ∧ Hid (w1.heap[w.heap.size]? = some (.cells cur.toArray 5 (0, 0))) ∧ Below w.heap.size w w1 := by
  refine (?_ : ∃ cur : List Value, cur.length = n ∧ w1.heap[w.heap.size]? = some (.cells cur.toArray 5 (0, 0)) ∧ Below w.heap.size w w1)
  rcases h.2 with ⟨h0, _⟩ | ⟨g, c, cur, h1, h2, h3, h4, h5, h6, h7⟩
  · cases h0
  · cases h1
    exact ⟨cur.toList, by rw [Array.length_toList]; omega, by rw [Array.toArray_toList]; exact h3, (Below.refl _ w).grown hg (Nat.le_refl _) (fun k e => by cases e)⟩
theorem Fi_bys_src {w : World} {a1 : Option Addr} {n c1 : Nat} {l : List UInt8} {X : List Value} (h : Bys w (.slice a1 n c1) l) (hX : X = l.map bv) :
    0 < X.length → ∃ ad, a1 = some ad ∧ ∀ j v, X[j]? = some v → w.cell? (ad.add j) = some v := by
  intro h0
  obtain ⟨a, c, he, hc⟩ := bys_form h
  cases he
  obtain ⟨b, off, rfl, hd⟩ := hc (by rw [hX] at h0; simpa using h0)
  exact ⟨_, rfl, fun j v hj => bys_news hd j v (by rw [← hX]; exact hj)⟩

set_option maxRecDepth 100000 in
set_option maxHeartbeats 1000000 in
theorem Fi_copied_any (v : Value) (l : List UInt8) (w : World) (h : Bys w v l) (hs : l.length ≤ 140737488351232) :
    Calls Tryz.prog 196 #[v] w fun e w' => e = .returned (.slice (some ⟨w.heap.size, 0, none⟩) l.length l.length) ∧ w'.ownsRow w.heap.size 5 1 (.slice (some ⟨w.heap.size, 0, none⟩) l.length l.length) l.length (l.map bv) ∧ Below w.heap.size w w' := by
  obtain ⟨i0, hi, hz0, hz1, hz2⟩ := info_parts Tryz.infoB
  obtain ⟨a1, c1, rfl, -⟩ := bys_form h
  have HC1 := hide h
  clear h
  have hsz : (Tryz.prog.info? 5).map (·.size) = some 1 := by rw [hi]; simp [hz1]
  obtain ⟨X, hX⟩ : ∃ X, X = l.map bv := ⟨_, rfl⟩
  have HX := hide hX
  have hXl : X.length = l.length := by rw [hX]; simp
  have H1 : Hid (∀ v ∈ X, v.oneCell' = true) := hide (by rw [hX]; exact bys_one l)
  clear hX
  go_enter Tryz.func196, Tryz.ntmps196
  go_wp2_with (at_make; refine wpList_make_full _ rfl _ _ 40 rfl w.heap.size 5 i0 (.int .u8 0) 1 Tryz.underlying40 hi hz0 hz1 _ _ _ _ l.length rfl rfl rfl rfl (by rw [hz2]; omega) (by unfold maxLen; omega) (Nat.le_refl _) ?_; intro w1 hown1 hgrow1; obtain ⟨cur, hcl, HR, hB1⟩ := Fi_made_row hown1 hgrow1; clear hown1 hgrow1; obtain ⟨w2, hrun, HG2, hgr2⟩ := run_copy w1 3 (some ⟨w.heap.size, 0, none⟩) a1 l.length l.length l.length c1 w.heap.size 0 cur HR.out X (by rw [hXl]; simp) (fun h0 => ⟨rfl, Fi_bys_src (HC1.out.below hB1) HX.out h0⟩) (by omega) H1.out)
  go_ret
  refine ⟨rfl, ⟨by simp, .inr ⟨w.heap.size, l.length, _, rfl, Nat.le_refl _, HG2.out, Nat.le_refl _, by unfold maxLen; omega, ?_, ?_⟩⟩, hB1.grown hgr2 hB1.size (fun k e => by cases e; exact Nat.le_refl _)⟩
  · have := length_splice cur 0 X (by omega)
    simp [this, hcl]
  · simp [splice, ← hcl, HX.out]
    rw [hcl, List.take_of_length_le (by simp)]
end Go.Proofs.YtkkommomefmpgaaGreat

/- A file in memory; New, ReadAt, Size, Bytes, Copy. -/
namespace Go.Proofs.YtkkommomefmpgaaGreat
open Go.RowKit

structure FileAt (W : World) (g b cap : Nat) (l : List UInt8) : Prop where
  made : W.cell? ⟨g, 0, none⟩ = some (.bool true)
  data : W.cell? ⟨g, 1, none⟩ = some (.slice (some ⟨b, 0, none⟩) l.length cap)
  soft : W.frozen? ⟨g, 1, none⟩ = false
  row : RowAt W b cap l
  apart : b ≠ g
theorem FileAt.keep {W W' : World} {g b cap : Nat} {l : List UInt8} (h : FileAt W g b cap l) (hg : W'.heap[g]? = W.heap[g]?) (hb : W'.heap[b]? = W.heap[b]?) : FileAt W' g b cap l :=
  ⟨(World.cell?_of_block (w := W) hg).trans h.made, (World.cell?_of_block (w := W) hg).trans h.data, (World.frozen?_of_block (w := W) hg).trans h.soft, h.row.keep hb, h.apart⟩
theorem FileAt.lt {W : World} {g b cap : Nat} {l : List UInt8} (h : FileAt W g b cap l) : g < W.heap.size := World.block_lt_of_cell? W _ h.made
theorem FileAt.below {W W' : World} {g b cap : Nat} {l : List UInt8} (h : FileAt W g b cap l) (hB : Below W.heap.size W W') : FileAt W' g b cap l :=
  h.keep (hB.block _ h.lt) (hB.block _ h.row.lt)

theorem file_new {w w2 : World} {l : List UInt8} (hown : w2.ownsRow w.heap.size 5 1 (.slice (some ⟨w.heap.size, 0, none⟩) l.length l.length) l.length (l.map bv)) (hB : Below w.heap.size w w2) :
    FileAt (w2.alloc (Obj.cells #[Value.bool true, Value.slice (some ⟨w.heap.size, 0, none⟩) l.length l.length] 313)) w2.heap.size w.heap.size l.length l ∧ w.heap.size < w2.heap.size ∧ Below w.heap.size w (w2.alloc (Obj.cells #[Value.bool true, Value.slice (some ⟨w.heap.size, 0, none⟩) l.length l.length] 313)) := by
  have hr := RowAt.of_owns hown
  have hlt := hr.lt
  refine ⟨⟨?_, ?_, ?_, hr.keep (Below.heap_alloc _ _ _ hlt), by omega⟩, hlt, hB.alloc hB.size _⟩
  · simp only [World.cell?, heap_alloc_new]; rfl
  · simp only [World.cell?, heap_alloc_new]; rfl
  · simp only [World.frozen?, heap_alloc_new]; rfl

set_option maxRecDepth 100000 in
set_option maxHeartbeats 1000000 in
theorem Fi_new_good (v : Value) (l : List UInt8) (w : World) (h : Bys w v l) (hl : l.length ≤ 1048576) :
    Calls Tryz.prog 122 #[v] w fun e w' => ∃ g, e = .returned (.tuple #[.pointer (some ⟨g, 0, none⟩), .int .i64 0]) ∧ FileAt w' g w.heap.size l.length l ∧ w.heap.size < g ∧ Below w.heap.size w w' := by
  obtain ⟨a1, c1, rfl, -⟩ := bys_form h
  have HF := hide h
  clear h
  have hd : decide ((1048576 : Int) < (l.length : Int)) = false := by simp; omega
  go_enter Tryz.func122, Tryz.ntmps122
  go_wp2_with fail
  refine (Fi_copied_any _ l _ HF.out (by omega)).mono ?_
  rintro e w2 ⟨rfl, hown, hB⟩
  have HO := hide hown
  clear hown
  go_wp2
  go_ret2
  obtain ⟨h1, h2, h3⟩ := file_new HO.out hB
  exact ⟨_, rfl, h1, h2, h3⟩

set_option maxRecDepth 100000 in
set_option maxHeartbeats 1000000 in
theorem size_any (g b cap : Nat) (l : List UInt8) (w : World) (h : FileAt w g b cap l) :
    Calls Tryz.prog 154 #[.pointer (some ⟨g, 0, none⟩)] w fun e w' => e = .returned (.int .i64 l.length) ∧ w' = w := by
  have h1 := h.made
  have h2 := h.data
  clear h
  go_enter Tryz.func154, Tryz.ntmps154
  go_wp2_with fail
  refine (Fi_isMade_yes g w h1).mono ?_
  rintro e w1 ⟨rfl, rfl⟩
  go_wp2
  go_ret
  exact ⟨rfl, rfl⟩

set_option maxRecDepth 100000 in
set_option maxHeartbeats 1000000 in
theorem bytes_any (g b cap : Nat) (l : List UInt8) (w : World) (h : FileAt w g b cap l) (hl : l.length ≤ 1048576) :
    Calls Tryz.prog 120 #[.pointer (some ⟨g, 0, none⟩)] w fun e w' => e = .returned (.slice (some ⟨w.heap.size, 0, none⟩) l.length l.length) ∧ w'.ownsRow w.heap.size 5 1 (.slice (some ⟨w.heap.size, 0, none⟩) l.length l.length) l.length (l.map bv) ∧ Below w.heap.size w w' := by
  have h1 := h.made
  have h2 := h.data
  have h3 := hide h.row
  clear h
  go_enter Tryz.func120, Tryz.ntmps120
  go_wp2_with fail
  refine (Fi_isMade_yes g w h1).mono ?_
  rintro e w1 ⟨rfl, rfl⟩
  go_wp2_with fail
  refine (Fi_copied_any _ l _ h3.out.bys (by omega)).mono ?_
  rintro e w2 ⟨rfl, hown, hB⟩
  have HO := hide hown
  clear hown
  go_wp2
  go_ret
  exact ⟨rfl, HO.out, hB⟩

theorem ints_two (w : World) (x y : Int) : Fi_Ints (w.alloc (Obj.cells #[.int .i64 x, .int .i64 y] 3)) (.slice (some ⟨w.heap.size, 0, none⟩) 2 2) [x, y] := by
  refine ⟨_, 2, rfl, fun _ => ⟨_, _, rfl, fun j hj => ?_⟩⟩
  simp only [World.cell?, heap_alloc_new]
  have : j = 0 ∨ j = 1 := by simp only [List.length_cons, List.length_nil] at hj; omega
  rcases this with rfl | rfl <;> rfl
theorem ints_one (w : World) (x : Int) : Fi_Ints (w.alloc (Obj.cells #[.int .i64 x] 3)) (.slice (some ⟨w.heap.size, 0, none⟩) 1 1) [x] := by
  refine ⟨_, 1, rfl, fun _ => ⟨_, _, rfl, fun j hj => ?_⟩⟩
  simp only [World.cell?, heap_alloc_new]
  have : j = 0 := by simp only [List.length_cons, List.length_nil] at hj; omega
  subst this
  rfl

set_option maxRecDepth 100000 in
set_option maxHeartbeats 1000000 in
theorem readAt_bad (g b cap : Nat) (l : List UInt8) (off n : Int) (w : World) (h : FileAt w g b cap l) (hr : (inR off && inR n) = false) :
    Calls Tryz.prog 282 #[.pointer (some ⟨g, 0, none⟩), .int .i64 off, .int .i64 n] w fun e w' => e = .returned (.tuple #[.slice none 0 0, .int .i64 4]) ∧ Below w.heap.size w w' := by
  have h1 := h.made
  clear h
  have HR : Hid (([off, n] : List Int).all inR = false) := hide (by simpa using hr)
  clear hr
  go_enter Tryz.func282, Tryz.ntmps282
  go_wp2_with fail
  refine (Fi_isMade_yes g w h1).mono ?_
  rintro e w1 ⟨rfl, rfl⟩
  go_wp2_with fail
  refine (inRange_any _ [off, n] _ (ints_two _ _ _) (by simp)).mono ?_
  rintro e w2 ⟨rfl, rfl⟩
  rw [HR.out]
  go_wp2
  go_ret2
  exact ⟨rfl, (Below.refl _ _).alloc (Nat.le_refl _) _⟩

def piece (l : List UInt8) (off n : Nat) : List UInt8 := (l.drop off).take n
theorem piece_len (l : List UInt8) (off n : Nat) : (piece l off n).length = min n (l.length - off) := by simp [piece]

theorem piece_bys {W : World} {b cap : Nat} {l : List UInt8} (h : RowAt W b cap l) (off n x m c : Nat) (hm : m = min n (l.length - off)) (hx : m = 0 ∨ x = off) : Bys W (.slice (some ⟨b, x, none⟩) m c) (piece l off n) := by
  by_cases h0 : m = 0
  · refine .inr (.inl ⟨_, _, by rw [h0], List.length_eq_zero_iff.1 (by rw [piece_len]; omega)⟩)
  · obtain rfl : x = off := by omega
    have := h.cut x m c (by omega)
    rwa [show (l.drop x).take m = piece l x n by rw [hm, piece, ← List.length_drop, List.take_eq_take_iff]; omega] at this
set_option maxRecDepth 100000 in
set_option maxHeartbeats 1000000 in
theorem readAt_good (g b cap : Nat) (l : List UInt8) (off n : Nat) (w : World) (h : FileAt w g b cap l) (hl : l.length ≤ 1048576) (ho : off ≤ 1048576) (hn : n ≤ 1048576) :
    Calls Tryz.prog 282 #[.pointer (some ⟨g, 0, none⟩), .int .i64 off, .int .i64 n] w fun e w' => ∃ q, e = .returned (.tuple #[.slice (some ⟨q, 0, none⟩) (piece l off n).length (piece l off n).length, .int .i64 0]) ∧ w'.ownsRow w.heap.size 5 1 (.slice (some ⟨q, 0, none⟩) (piece l off n).length (piece l off n).length) (piece l off n).length ((piece l off n).map bv) ∧ Below w.heap.size w w' := by
  have h1 := h.made
  have HF := hide h
  clear h
  have HR : Hid (([(off : Int), (n : Int)] : List Int).all inR = true) := hide (by simp [inR]; omega)
  go_enter Tryz.func282, Tryz.ntmps282
  go_wp2_with fail
  refine (Fi_isMade_yes g w h1).mono ?_
  rintro e w1 ⟨rfl, rfl⟩
  go_wp2_with fail
  refine (inRange_any _ [(off : Int), (n : Int)] _ (ints_two _ _ _) (by simp)).mono ?_
  rintro e w2 ⟨rfl, rfl⟩
  rw [HR.out]
  have hBa : Below w1.heap.size w1 (w1.alloc (Obj.cells #[.int .i64 (off : Int), .int .i64 (n : Int)] 3)) := (Below.refl _ _).alloc (Nat.le_refl _) _
  have HF2 := hide (HF.out.below hBa)
  generalize w1.alloc (Obj.cells #[.int .i64 (off : Int), .int .i64 (n : Int)] 3) = w2 at *
  have h2 := HF2.out.data
  have h3 := HF2.out.row.len
  clear HF HR h1
  go_wp2
  go_quiet (fail)
  go_wp2_with fail
  all_goals
    have hd : Below w2.heap.size w2 (w2.drewN nq) := below_drewN (Below.refl _ _) _
    refine (Fi_copied_any _ (piece l off n) _ (piece_bys (HF2.out.below hd).row off n _ _ _ (by omega) (by omega)) (by rw [piece_len]; omega)).mono ?_
    rintro e w3 ⟨rfl, hown, hB⟩
    have HO := hide hown
    clear hown
    go_wp2
    go_ret2
    have hB3 : Below w1.heap.size w1 w3 := (hBa.trans (hd.mono hBa.size)).trans (hB.mono (Nat.le_trans hBa.size hd.size))
    exact ⟨_, rfl, owns_mono HO.out (Nat.le_trans hBa.size hd.size), hB3⟩
end Go.Proofs.YtkkommomefmpgaaGreat

/- growTo, Truncate, WriteAt. -/
namespace Go.Proofs.YtkkommomefmpgaaGreat
open Go.RowKit

def grow (l : List UInt8) (n : Nat) : List UInt8 := l ++ List.replicate (n - l.length) 0
theorem grow_len (l : List UInt8) (n : Nat) : (grow l n).length = max l.length n := by simp [grow]; omega
theorem grow_no {l : List UInt8} {n : Nat} (h : n ≤ l.length) : grow l n = l := by simp [grow, Nat.sub_eq_zero_of_le h]

set_option maxRecDepth 100000 in
set_option maxHeartbeats 1000000 in
theorem growTo_no (g b cap : Nat) (l : List UInt8) (n : Nat) (w : World) (h : FileAt w g b cap l) (hn : n ≤ l.length) :
    Calls Tryz.prog 221 #[.pointer (some ⟨g, 0, none⟩), .int .i64 n] w fun e w' => e = .returned (.tuple #[]) ∧ w' = w := by
  have h2 := h.data
  clear h
  have hd : decide ((l.length : Int) < (n : Int)) = false := by simp; omega
  go_enter Tryz.func221, Tryz.ntmps221
  go_wp2
  go_end0
  exact ⟨rfl, rfl⟩

theorem grown_file {w w' : World} {g b cap b' cap' : Nat} {l l' : List UInt8} {v : Value} (h : FileAt w g b cap l) (hr : RowAt w' b' cap' l') (hg : w.drew.grownBy w' (some b)) (hb : b' = b ∨ b' = w.drew.heap.size) (hv : v = .slice (some ⟨b', 0, none⟩) l'.length cap') :
    FileAt (w'.setCell ⟨g, 1, none⟩ v) g b' cap' l' ∧ (b' = b ∨ w.heap.size ≤ b') ∧ Turned (fun k => k = g ∨ k = b) w (w'.setCell ⟨g, 1, none⟩ v) := by
  have e1 : w.drew.heap = w.heap := rfl
  have e2 : w.drew.os = w.os := rfl
  have e3 : w.drew.tape = w.tape := rfl
  have e4 : w.drew.output = w.output := rfl
  have hgl := h.lt
  have hbl := h.row.lt
  have hap := h.apart
  have hgg : w'.heap[g]? = w.heap[g]? := (hg.block g (by rw [e1]; exact hgl) (by intro e; cases e; exact hap rfl)).trans (by rw [e1])
  have hne : b' ≠ g := by
    rcases hb with rfl | rfl
    · exact hap
    · rw [e1]; omega
  have hsz : w.heap.size ≤ w'.heap.size := by have := hg.size; rw [e1] at this; exact this
  refine ⟨⟨?_, ?_, ?_, ?_, hne⟩, ?_, ⟨hg.os.trans e2, hg.tape.trans e3, hg.output.trans e4, ?_, ?_⟩⟩
  · rw [World.cell?_setCell_other _ _ _ _ (by simp)]
    exact (World.cell?_of_block (w := w) hgg).trans h.made
  · rw [← hv]
    exact World.cell?_setCell_same _ _ _ ((World.cell?_of_block (w := w) hgg).trans h.data)
  · rw [World.frozen?_setCell]
    exact (World.frozen?_of_block (w := w) hgg).trans h.soft
  · exact hr.keep (Below.heap_setCell _ _ _ _ hne)
  · rcases hb with rfl | rfl
    · exact .inl rfl
    · right; rw [e1]; exact Nat.le_refl _
  · simpa [World.setCell] using hsz
  · intro k hk hn
    rw [Below.heap_setCell _ _ _ _ (fun e => hn (.inl e))]
    exact (hg.block k (by rw [e1]; exact hk) (by intro e; cases e; exact hn (.inr rfl))).trans (by rw [e1])

set_option maxRecDepth 100000 in
set_option maxHeartbeats 1000000 in
theorem growTo_yes (g b cap : Nat) (l : List UInt8) (n : Nat) (w : World) (h : FileAt w g b cap l) (hn : l.length < n) (hm : n ≤ 1048576) :
    Calls Tryz.prog 221 #[.pointer (some ⟨g, 0, none⟩), .int .i64 n] w fun e w' => e = .returned (.tuple #[]) ∧ ∃ b' cap', FileAt w' g b' cap' (grow l n) ∧ (b' = b ∨ w.heap.size ≤ b') ∧ Turned (fun k => k = g ∨ k = b) w w' := by
  have h2 := h.data
  have h3 := h.soft
  have hap := h.apart
  have hgl := h.lt
  have HF := hide h
  clear h
  have hd : decide ((l.length : Int) < (n : Int)) = true := by simp; omega
  go_enter Tryz.func221, Tryz.ntmps221
  go_wp2_with fail
  go_region_law (refine step_append_zeros _ (by rfl) _ _ (by rfl) b cap l (n - l.length) (HF.out.row.keep (by rfl)) (by omega) (by omega) (by rfl) _ (by rfl) (by first | omega | (rw [IntKind.wrap_i64]; omega)) ?_; intro b' cap' w' HR' hgr' hb'; have q1 := (hgr'.cell_far ⟨g, 1, none⟩ (by exact hgl) (by intro e; cases e; exact hap rfl)).trans h2; have q2 := (hgr'.frozen_far ⟨g, 1, none⟩ (by exact hgl) (by intro e; cases e; exact hap rfl)).trans h3)
  all_goals
    go_end0
    have hl' : (l ++ List.replicate (n - l.length) (0 : UInt8)).length = l.length + (n - l.length) := by simp
    exact ⟨rfl, b', cap', grown_file HF.out HR'.out hgr' hb' (by rw [show (grow l n).length = l.length + (n - l.length) from hl'])⟩

theorem growTo_any (g b cap : Nat) (l : List UInt8) (n : Nat) (w : World) (h : FileAt w g b cap l) (hm : n ≤ 1048576) :
    Calls Tryz.prog 221 #[.pointer (some ⟨g, 0, none⟩), .int .i64 n] w fun e w' => e = .returned (.tuple #[]) ∧ ∃ b' cap', FileAt w' g b' cap' (grow l n) ∧ (b' = b ∨ w.heap.size ≤ b') ∧ Turned (fun k => k = g ∨ k = b) w w' := by
  by_cases hn : n ≤ l.length
  · refine (growTo_no g b cap l n w h hn).mono ?_
    rintro e w' ⟨rfl, rfl⟩
    rw [grow_no hn]
    exact ⟨rfl, b, cap, h, .inl rfl, Turned.refl _ _⟩
  · exact growTo_yes g b cap l n w h (by omega) hm

theorem cut_file {w : World} {g b cap n : Nat} {l : List UInt8} (h : FileAt w g b cap l) (hn : n ≤ l.length) :
    FileAt (w.setCell ⟨g, 1, none⟩ (.slice (some ⟨b, 0, none⟩) n n)) g b n (l.take n) ∧ Turned (fun k => k = g ∨ k = b) w (w.setCell ⟨g, 1, none⟩ (.slice (some ⟨b, 0, none⟩) n n)) := by
  refine ⟨⟨?_, ?_, ?_, (h.row.shorter n hn).keep (Below.heap_setCell _ _ _ _ h.apart), h.apart⟩, ⟨rfl, rfl, rfl, by simp [World.setCell], fun k hk hn => Below.heap_setCell _ _ _ _ (fun e => hn (.inl e))⟩⟩
  · rw [World.cell?_setCell_other _ _ _ _ (by simp)]; exact h.made
  · rw [World.cell?_setCell_same _ _ _ h.data]; simp [Nat.min_eq_left hn]
  · rw [World.frozen?_setCell]; exact h.soft

def trunc (l : List UInt8) (n : Nat) : List UInt8 := grow (l.take n) n
set_option maxRecDepth 100000 in
set_option maxHeartbeats 1000000 in
theorem truncate_bad (g b cap : Nat) (l : List UInt8) (n : Int) (w : World) (h : FileAt w g b cap l) (hr : inR n = false) :
    Calls Tryz.prog 198 #[.pointer (some ⟨g, 0, none⟩), .int .i64 n] w fun e w' => e = .returned (.int .i64 4) ∧ Below w.heap.size w w' := by
  have h1 := h.made
  clear h
  have HR : Hid (([n] : List Int).all inR = false) := hide (by simpa using hr)
  clear hr
  go_enter Tryz.func198, Tryz.ntmps198
  go_wp2_with fail
  refine (Fi_isMade_yes g w h1).mono ?_
  rintro e w1 ⟨rfl, rfl⟩
  go_wp2_with fail
  refine (inRange_any _ [n] _ (ints_one _ _) (by simp)).mono ?_
  rintro e w2 ⟨rfl, rfl⟩
  rw [HR.out]
  go_wp2
  go_ret
  exact ⟨rfl, (Below.refl _ _).alloc (Nat.le_refl _) _⟩

set_option maxRecDepth 100000 in
set_option maxHeartbeats 1000000 in
theorem truncate_good (g b cap : Nat) (l : List UInt8) (n : Nat) (w : World) (h : FileAt w g b cap l) (hn : n ≤ 1048576) :
    Calls Tryz.prog 198 #[.pointer (some ⟨g, 0, none⟩), .int .i64 n] w fun e w' => e = .returned (.int .i64 0) ∧ ∃ b' cap', FileAt w' g b' cap' (trunc l n) ∧ (b' = b ∨ w.heap.size ≤ b') ∧ Turned (fun k => k = g ∨ k = b) w w' := by
  have h1 := h.made
  have HF := hide h
  clear h
  have HR : Hid (([(n : Int)] : List Int).all inR = true) := hide (by simp [inR]; omega)
  go_enter Tryz.func198, Tryz.ntmps198
  go_wp2_with fail
  refine (Fi_isMade_yes g w h1).mono ?_
  rintro e w1 ⟨rfl, rfl⟩
  go_wp2_with fail
  refine (inRange_any _ [(n : Int)] _ (ints_one _ _) (by simp)).mono ?_
  rintro e w2 ⟨rfl, rfl⟩
  rw [HR.out]
  have hBa : Below w1.heap.size w1 (w1.alloc (Obj.cells #[.int .i64 (n : Int)] 3)) := (Below.refl _ _).alloc (Nat.le_refl _) _
  have HF2 := hide (HF.out.below hBa)
  generalize w1.alloc (Obj.cells #[.int .i64 (n : Int)] 3) = w2 at *
  have h2 := HF2.out.data
  have h3 := HF2.out.row.len
  have h4 := HF2.out.soft
  clear HF HR h1
  by_cases hc : n < l.length
  · have hd : decide ((n : Int) < (l.length : Int)) = true := by simp; omega
    go_wp2_with fail
    obtain ⟨hF3, hT3⟩ := cut_file HF2.out (n := n) (by omega)
    have HF3 := hide hF3
    clear hF3
    generalize w2.setCell ⟨g, 1, none⟩ (.slice (some ⟨b, 0, none⟩) n n) = w3 at *
    refine (growTo_any g b n (l.take n) n _ HF3.out hn).mono ?_
    rintro e w4 ⟨rfl, b', cap', hF4, hb4, hT4⟩
    have HF4 := hide hF4
    clear hF4
    go_wp2
    go_ret
    have hs := hT3.size
    have hs2 := hBa.size
    refine ⟨rfl, b', cap', HF4.out, by omega, ((Turned.of_below hBa).trans hT3 (fun k hk => ?_)).trans hT4 (fun k hk => ?_)⟩
    · exact id
    · exact id
  · have hd : decide ((n : Int) < (l.length : Int)) = false := by simp; omega
    go_wp2_with fail
    refine (growTo_any g b cap l n _ HF2.out hn).mono ?_
    rintro e w4 ⟨rfl, b', cap', hF4, hb4, hT4⟩
    have HF4 := hide hF4
    clear hF4
    go_wp2
    go_ret
    have hs2 := hBa.size
    refine ⟨rfl, b', cap', ?_, by omega, (Turned.of_below hBa).trans hT4 (fun k hk => id)⟩
    rw [trunc, List.take_of_length_le (by omega)]
    exact HF4.out
end Go.Proofs.YtkkommomefmpgaaGreat

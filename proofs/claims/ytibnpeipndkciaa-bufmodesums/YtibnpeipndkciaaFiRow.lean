/- Rows of bytes that a file holds: an append of zeros, at a step of a region that draws its order. -/
import Derived.Test.YtibnpeipndkciaaPlain
import Derived.Lib.AppendZerosOnto
import Derived.Laws.CopyOwn
import Derived.Deep.RegionHeld3
import Derived.Deep.AppendLies
namespace Go.Proofs.Ytibnpeipndkciaa
open Go.RowKit

/-- Block b is a row of which the slice value of length l.length and capacity cap has the bytes l. -/
structure RowAt (W : World) (b cap : Nat) (l : List UInt8) : Prop where
  row : ∃ cur : List Value, W.heap[b]? = some (.cells cur.toArray 5 (0, 0)) ∧ cap ≤ cur.length ∧ cur.take l.length = l.map bv
  len : l.length ≤ cap
  lim : cap ≤ maxLen

theorem zeroCells_one (z : Value) (hz : z.cells = #[z]) (n : Nat) : (Builtin.zeroCells z.cells n).toList = List.replicate n z := by
  rw [hz]
  apply List.ext_getElem?
  intro j
  by_cases hj : j < n
  · simp [Builtin.zeroCells, hj, Nat.mod_one]
  · simp [Builtin.zeroCells, hj]

theorem run_append_room_zeros {P : Program} (w : World) (t tn ty e : TypeId) (i : TypeInfo) (z : Value) (kq kn : IntKind) (ht : P.underlying t = some (.slice e)) (htn : P.underlying tn = some (.int kn)) (hi : P.info? e = some i) (hz : i.zero = some z) (hsz : i.size = 1) (hzc : z.cells = #[z]) (h1 : z.oneCell' = true)
    (g sLen sCap : Nat) (cur : Array Value) (hg : w.heap[g]? = some (.cells cur e (0, 0)))
    (k : Nat) (h0 : 0 < k) (hroom : sLen + k ≤ sCap) (hfit : sLen + k ≤ cur.size) (h48 : k * i.bytes ≤ 281474976710656) (h63 : (k : Int) ≤ 9223372036854775807) :
    (Builtin.append_ #[t, tn] ty #[.slice (some ⟨g, 0, none⟩) sLen sCap, .int kq k]).run P w =
      .ok (.slice (some ⟨g, 0, none⟩) (sLen + k) sCap) (w.setRow g (cur.toList.take sLen ++ List.replicate k z ++ cur.toList.drop (sLen + k)).toArray) := by
  have hk : k ≠ 0 := by omega
  have hw : IntKind.i64.wrap (k : Int) = k := by rw [IntKind.wrap_i64]; omega
  have h48i : ¬ (281474976710656 < (k : Int) * (i.bytes : Int)) := by
    rw [← Int.natCast_mul]
    omega
  have hneg : ¬ ((k : Int) < 0) := by omega
  have hzl := zeroCells_one z hzc k
  have hst := run_storeCells_at P g sLen e (List.replicate k z) 0 cur w hg (by simpa using hfit) (by intro v hv; rw [(List.mem_replicate.1 hv).2]; exact h1)
  simp only [Nat.add_zero, List.length_replicate] at hst
  simp [Builtin.append_, run_underlying ht, run_underlying htn, sizeOf, typeInfo, zeroValue, hi, hz, hsz, asInt, asIntOf, hw, hk, hneg, h48i, hroom, Addr.add_lit, hzl, hst]

theorem Try.infoB1 : (Try.prog.info? 5).map (fun i => (i.zero, i.size, i.bytes)) = some (some (.int .u8 0), 1, 1) := by kernel_rfl

/-- append(data, make([]byte, k)...). -/
theorem run_append_zeros (w : World) (ty : TypeId) (b cap : Nat) (l : List UInt8) (k : Nat) (h : RowAt w b cap l) (h0 : 0 < k) (hk : l.length + k ≤ 140737488351232) :
    ∃ b' cap' w', (Builtin.append_ #[22, 3] ty #[.slice (some ⟨b, 0, none⟩) l.length cap, .int .i64 k]).run Try.prog w = .ok (.slice (some ⟨b', 0, none⟩) (l.length + k) cap') w' ∧
      RowAt w' b' cap' (l ++ List.replicate k 0) ∧ w.grownBy w' (some b) ∧ (b' = b ∨ b' = w.heap.size) := by
  obtain ⟨i0, hi, hz0, hz1, hz2⟩ := info_parts Try.infoB1
  obtain ⟨cur, hrow, hcap, hcells⟩ := h.row
  have hl := h.len
  have hm := h.lim
  unfold maxLen at hm
  have hbl : b < w.heap.size := (Array.getElem?_eq_some_iff.1 hrow).1
  by_cases hroom : l.length + k ≤ cap
  · have hr := run_append_room_zeros (P := Try.prog) w 22 3 ty 5 i0 (.int .u8 0) .i64 .i64 Try.underlying22 Try.underlying3 hi hz0 hz1 rfl rfl b l.length cap cur.toArray hrow k h0 hroom (by simp; omega) (by rw [hz2]; omega) (by omega)
    refine ⟨b, cap, _, hr, ⟨⟨_, setRow_heap w b _ _ _ _ hrow, ?_, ?_⟩, ?_, h.lim⟩, ⟨rfl, rfl, rfl, by simp [World.setRow], fun j _ hj => setRow_other w b j _ (fun e => hj (by rw [e]))⟩, .inl rfl⟩
    · simp only [List.length_append, List.length_take, List.length_replicate, List.length_drop]; omega
    · rw [hcells, List.length_append, List.length_replicate, List.map_append, List.map_replicate]
      show List.take (l.length + k) (List.map bv l ++ List.replicate k (.int .u8 0) ++ _) = List.map bv l ++ List.replicate k (.int .u8 0)
      rw [List.take_left' (by simp)]
    · simp only [List.length_append, List.length_replicate]; exact hroom
  · have hold : (Builtin.firstCells i0.size l.length (.slice (some ⟨b, 0, none⟩) l.length cap)).run Try.prog w.drew = .ok (l.map bv).toArray w.drew := by
      refine run_firstCells_some w.drew _ _ _ _ _ _ (by rw [hz1]; simp) fun j v hj => ?_
      have hadd : (⟨b, 0, none⟩ : Addr).add j = ⟨b, j, none⟩ := by unfold Addr.add; split <;> simp_all
      rw [hadd, cell_of_row w.drew b j cur.toArray _ _ hrow]
      rw [← hcells, List.getElem?_take] at hj
      split at hj
      · simpa using hj
      · cases hj
    have hr := Lib.run_append_grow_zeros (P := Try.prog) w 22 3 ty 5 i0 (.int .u8 0) .i64 .i64 Try.underlying22 Try.underlying3 hi hz0 (some ⟨b, 0, none⟩) l.length cap (l.map bv) hold k h0 (by omega) (by omega) (by omega) (by rw [hz2]; omega) (growslice_fits (by omega) (by rw [hz2]; omega))
    have hge := grownCap_ge w (l.length + k) cap 5
    have hA : (l.map bv).toArray ++ Builtin.zeroCells (Value.int .u8 0).cells k ++ Builtin.zeroCells (Value.int .u8 0).cells (grownCap w (l.length + k) cap 5 - (l.length + k)) = (l.map bv ++ List.replicate k (Value.int .u8 0) ++ List.replicate (grownCap w (l.length + k) cap 5 - (l.length + k)) (Value.int .u8 0)).toArray := by
      apply Array.ext'
      rw [Array.toList_append, Array.toList_append, zeroCells_one _ rfl, zeroCells_one _ rfl]
    rw [hA] at hr
    refine ⟨w.heap.size, _, _, hr, ⟨⟨_, heap_alloc_new w.drew _, ?_, ?_⟩, ?_, grownCap_le_maxLen w _ _ _ (by unfold maxLen; omega)⟩, ⟨rfl, rfl, rfl, by simp, fun j hj _ => Below.heap_alloc w.drew _ j hj⟩, .inr rfl⟩
    · simp only [List.length_append, List.length_map, List.length_replicate]; omega
    · rw [List.length_append, List.length_replicate, List.map_append, List.map_replicate]
      show List.take (l.length + k) (List.map bv l ++ List.replicate k (.int .u8 0) ++ _) = List.map bv l ++ List.replicate k (.int .u8 0)
      rw [List.take_left' (by simp)]
    · simp only [List.length_append, List.length_replicate]; omega

theorem step_append_zeros (w : World) {ops : Array Oper} {o : Oper} {a : Act} {K : Act → World → Prop} {Q : Exit → Act → World → Prop} {E : Prop}
    (hg : o.guard = none) (s x : Operand) (hop : o.op = Op.call { callee := Callee.builtin Builtin.append, args := #[s, x], argTypes := #[22, 3] })
    (b cap : Nat) (l : List UInt8) (k : Nat) (h : RowAt w b cap l) (h0 : 0 < k) (hk : l.length + k ≤ 140737488351232) (hs : a.eval s = .slice (some ⟨b, 0, none⟩) l.length cap) (kk : Int) (hx : a.eval x = .int .i64 kk) (hkk : kk = (k : Int))
    (hK : ∀ b' cap' w', Hid (RowAt w' b' cap' (l ++ List.replicate k 0)) → w.grownBy w' (some b) → (b' = b ∨ b' = w.heap.size) → K (a.put o.dst (.slice (some ⟨b', 0, none⟩) (l.length + k) cap')) w') :
    if Region.wanted o (yielded ops a.tmps) = true then Oper.wp Try.prog o a w K Q else E := by
  subst hkk
  have hw : Region.wanted o (yielded ops a.tmps) = true := by simp [Region.wanted, hg]
  rw [if_pos hw]
  obtain ⟨b', cap', w', hrun, r1, r2, r3⟩ := run_append_zeros w o.type b cap l k h h0 hk
  unfold Oper.wp
  simp [execOp, hop, resolve, invoke, builtin, hs, hx, hrun, Result.andThen]
  exact hK b' cap' w' r1 r2 r3

/-- copy(dst, src): dst in block g from off on; the world behind it. -/
theorem run_copy (w : World) (ty : TypeId) (dp sp : Option Addr) (dLen dCap sLen sCap : Nat) (g off : Nat) (cur : List Value) (hg : w.heap[g]? = some (.cells cur.toArray 5 (0, 0))) (cs : List Value) (hn : cs.length = Nat.min sLen dLen)
    (hpos : 0 < cs.length → dp = some ⟨g, off, none⟩ ∧ ∃ ad, sp = some ad ∧ ∀ j v, cs[j]? = some v → w.cell? (ad.add j) = some v) (hfit : off + cs.length ≤ cur.length) (h1 : ∀ v ∈ cs, v.oneCell' = true) :
    ∃ w', (Builtin.copy_ #[22, 22] ty #[.slice dp dLen dCap, .slice sp sLen sCap]).run Try.prog w = .ok (goInt cs.length) w' ∧ Hid (w'.heap[g]? = some (.cells (splice cur off cs).toArray 5 (0, 0))) ∧ w.grownBy w' (some g) := by
  refine (?_ : ∃ w', (Builtin.copy_ #[22, 22] ty #[.slice dp dLen dCap, .slice sp sLen sCap]).run Try.prog w = .ok (goInt cs.length) w' ∧ w'.heap[g]? = some (.cells (splice cur off cs).toArray 5 (0, 0)) ∧ w.grownBy w' (some g))
  obtain ⟨i0, hi, hz0, hz1, hz2⟩ := info_parts Try.infoB
  have hsz : (Try.prog.info? 5).map (·.size) = some 1 := by rw [hi]; simp [hz1]
  by_cases h0 : cs.length = 0
  · obtain rfl : cs = [] := List.eq_nil_of_length_eq_zero h0
    exact ⟨w, run_copy_none (P := Try.prog) w _ _ ty 5 dp sp dLen dCap sLen sCap Try.underlying22 hsz (by simpa using hn.symm), by simpa [splice] using hg, ⟨rfl, rfl, rfl, Nat.le_refl _, fun _ _ _ => rfl⟩⟩
  · obtain ⟨rfl, ad, rfl, hsrc⟩ := hpos (by omega)
    have hrun := run_copy_row (P := Try.prog) w 22 22 ty 5 g off dLen dCap ad sLen sCap cur.toArray 5 cs Try.underlying22 hsz hg hn hsrc (by simpa using hfit) h1
    refine ⟨_, hrun, by simpa [splice] using setRow_heap w g _ _ 5 _ hg, ⟨rfl, rfl, rfl, by simp [World.setRow], fun j _ hj => setRow_other w g j _ (fun e => hj (by rw [e]))⟩⟩

theorem RowAt.keep {W W' : World} {b cap : Nat} {l : List UInt8} (h : RowAt W b cap l) (hB : W'.heap[b]? = W.heap[b]?) : RowAt W' b cap l := by
  obtain ⟨⟨cur, h1, h2⟩, h3, h4⟩ := h
  exact ⟨⟨cur, hB.trans h1, h2⟩, h3, h4⟩
theorem RowAt.lt {W : World} {b cap : Nat} {l : List UInt8} (h : RowAt W b cap l) : b < W.heap.size := by
  obtain ⟨⟨cur, h1, h2⟩, h3, h4⟩ := h
  exact (Array.getElem?_eq_some_iff.1 h1).1
theorem RowAt.cell {W : World} {b cap : Nat} {l : List UInt8} (h : RowAt W b cap l) (j : Nat) (hj : j < l.length) : W.cell? ⟨b, j, none⟩ = some (.int .u8 ((l.getD j 0).toNat : Int)) := by
  obtain ⟨⟨cur, h1, _, h2⟩, h3, h4⟩ := h
  rw [cell_of_row W b j cur.toArray _ _ h1]
  have h5 : (cur.take l.length)[j]? = (l.map bv)[j]? := by rw [h2]
  rw [List.getElem?_take, if_pos hj] at h5
  simpa [List.getElem?_eq_getElem hj, List.getD_eq_getElem?_getD, bv] using h5
/-- A cut of a row: from x on, m bytes. -/
theorem RowAt.cut {W : World} {b cap : Nat} {l : List UInt8} (h : RowAt W b cap l) (x m c : Nat) (hx : x + m ≤ l.length) : Bys W (.slice (some ⟨b, x, none⟩) m c) ((l.drop x).take m) := by
  have hlen : ((l.drop x).take m).length = m := by simp; omega
  by_cases hm : m = 0
  · subst hm
    exact .inr (.inl ⟨_, _, rfl, by simp⟩)
  · refine .inr (.inr ⟨b, x, c, by rw [hlen], by omega, fun j hj => ?_⟩)
    rw [hlen] at hj
    rw [h.cell (x + j) (by omega)]
    simp [List.getD_eq_getElem?_getD, List.getElem?_drop, hj]
theorem RowAt.bys {W : World} {b cap : Nat} {l : List UInt8} (h : RowAt W b cap l) : Bys W (.slice (some ⟨b, 0, none⟩) l.length cap) l := by
  simpa using h.cut 0 l.length cap (by omega)
/-- A shorter slice of the same row. -/
theorem RowAt.shorter {W : World} {b cap : Nat} {l : List UInt8} (h : RowAt W b cap l) (m : Nat) (hm : m ≤ l.length) : RowAt W b m (l.take m) := by
  obtain ⟨⟨cur, h1, h2, h3⟩, h4, h5⟩ := h
  refine ⟨⟨cur, h1, by omega, ?_⟩, by simp; omega, by omega⟩
  rw [List.length_take, Nat.min_eq_left hm, List.map_take, ← h3, List.take_take, Nat.min_eq_left hm]
theorem RowAt.of_owns {W : World} {base b cap : Nat} {l : List UInt8} (h : W.ownsRow base 5 1 (.slice (some ⟨b, 0, none⟩) l.length cap) l.length (l.map bv)) : RowAt W b cap l := by
  rcases h.2 with ⟨h0, _⟩ | ⟨g, c, cur, h1, h2, h3, h4, h5, h6, h7⟩
  · cases h0
  · cases h1
    exact ⟨⟨cur.toList, by rw [Array.toArray_toList]; exact h3, by rw [Array.length_toList]; omega, by simpa using h7⟩, h4, h5⟩
/-- Bytes laid over a row. -/
theorem RowAt.laid {W' : World} {b cap : Nat} {l x : List UInt8} {cur : List Value} {off : Nat} (hc : cap ≤ cur.length) (ht : cur.take l.length = l.map bv) (h4 : l.length ≤ cap) (h5 : cap ≤ maxLen) (hoff : off + x.length ≤ l.length)
    (hW : W'.heap[b]? = some (.cells (splice cur off (x.map bv)).toArray 5 (0, 0))) : RowAt W' b cap (l.take off ++ (x ++ l.drop (off + x.length))) := by
  have hlen : (l.take off ++ (x ++ l.drop (off + x.length))).length = l.length := by simp; omega
  refine ⟨⟨_, hW, by rw [length_splice _ _ _ (by simp; omega)]; exact hc, ?_⟩, by omega, h5⟩
  rw [hlen]
  obtain ⟨R, rfl⟩ : ∃ R, cur = l.map bv ++ R := ⟨cur.drop l.length, by rw [← ht]; exact (List.take_append_drop _ _).symm⟩
  have h1 : List.take off (l.map bv ++ R) = List.take off (l.map bv) := List.take_append_of_le_length (by simp; omega)
  have h2 : List.drop (off + (x.map bv).length) (l.map bv ++ R) = List.drop (off + (x.map bv).length) (l.map bv) ++ R := List.drop_append_of_le_length (by simp; omega)
  unfold splice
  rw [h1, h2, ← List.append_assoc, ← List.append_assoc, List.take_left' (by simp; omega)]
  simp
end Go.Proofs.Ytibnpeipndkciaa

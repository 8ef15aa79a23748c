/- What the proof stands on, part 1: the contracts of the program's calls that it reaches. -/
import Derived.Test.YtkkicbhmcjbmbaaGreatRows
import Derived.WalkKit
import Derived.WalkSpells
import Derived.WalkLawsBesides
import Derived.OwnWalkIn
import Derived.RangeFuncBox
import Derived.Laws.IdiomStrings
import Derived.Maps.AppendAt
import Derived.Laws.AppendOwnNone
import Derived.Laws.OwnMore
import Derived.Deep.QuietTactic
import Derived.BigQuiet
import Derived.Lib.AppendZerosOnto
import Derived.Laws.CopyOwn
import Derived.Deep.RegionHeld3
import Derived.Deep.AppendLies
import Derived.Lib.AppendZeros
import Derived.Deep.Upon
/- What the small functions of num and of its reference answer, for every input: value, isBase. -/
namespace Go.Proofs.YtkkicbhmcjbmbaaGreat
open Go.RowKit

/-- The value of a digit's byte; 16: it is none. -/
def valI (c : Int) : Int := if 48 ≤ c ∧ c ≤ 57 then c - 48 else if 97 ≤ c ∧ c ≤ 102 then c - 87 else if 65 ≤ c ∧ c ≤ 70 then c - 55 else 16

theorem valI_bd (c : Int) : 0 ≤ valI c ∧ valI c ≤ 16 := by unfold valI; split <;> (try split) <;> (try split) <;> omega

theorem hide {p : Prop} (h : p) : Hid p := h
theorem ret_int {k : IntKind} {a b : Int} (h : a = b) : Ending.returned (.int k a) = .returned (.int k b) := by rw [h]
theorem ret2 {a b : Value} {a' b' : Value} (h1 : a = a') (h2 : b = b') : Ending.returned (.tuple #[a, b]) = .returned (.tuple #[a', b']) := by rw [h1, h2]
theorem ret_bool {a b : Bool} (h : a = b) : Ending.returned (.bool a) = .returned (.bool b) := by rw [h]

/-- May b be a base? -/
def baseB (b : Int) : Bool := decide (2 ≤ b ∧ b ≤ 16)
theorem baseB_yes {b : Int} (h1 : 2 ≤ b) (h2 : b ≤ 16) : baseB b = true := by simp [baseB, h1, h2]
theorem baseB_no {b : Int} (h : ¬ (2 ≤ b ∧ b ≤ 16)) : baseB b = false := by simp only [baseB, decide_eq_false_iff_not]; exact h


end Go.Proofs.YtkkicbhmcjbmbaaGreat

/- Laws of walks that the library lacks: an append to a slice of the call's own at a step of a region that draws its order, inside a fence. -/
namespace Go.Proofs.YtkkicbhmcjbmbaaGreat
open Go.RowKit

theorem stepIn_append_own {F : Fence} {n : Nat} {P : Program} (w : World) {ops : Array Oper} {o : Oper} {a : Act} {K : Act → World → Prop} {Q : Exit → Act → World → Prop} {E : Prop}
    (hg : o.guard = none) (s x : Operand) (t : TypeId) (hop : o.op = Op.call { callee := Callee.builtin Builtin.append, args := #[s, x], argTypes := #[t, t] })
    (base : Nat) (e : TypeId) (i : TypeInfo) (z : Value) (size bytes : Nat) (h1 : P.underlying t = some (.slice e)) (h2 : P.info? e = some i) (h3 : i.zero = some z) (h4 : i.size = size) (h5 : i.bytes = bytes) (h6 : z.cells.size = size) (h7 : 0 < size)
    (v : Value) (k : Nat) (xs : List Value) (hs : a.eval s = v) (hown : w.ownsRow base e size v k xs) (ad : Addr) (m c : Nat) (news : List Value) (hx : a.eval x = .slice (some ad) m c) (hn : news.length = m * size)
    (hc : ∀ j u, news[j]? = some u → w.cell? (ad.add j) = some u) (h1c : ∀ u ∈ news, u.oneCell' = true) (b1 : k + m ≤ maxLen) (b2 : (k + m) * bytes ≤ 140737488355328) (b3 : base ≤ w.heap.size)
    (hK : ∀ v' w', w'.ownsRow base e size v' (k + m) (xs ++ news) → w.grownBy w' v.ownBlock → (v' = .slice none 0 0 ↔ v = .slice none 0 0 ∧ m = 0) → K (a.put o.dst v') w') :
    if Region.wanted o (yielded ops a.tmps) = true then Oper.wpIn F n P o a w K Q else E := by
  have hw : Region.wanted o (yielded ops a.tmps) = true := by simp [Region.wanted, hg]
  rw [if_pos hw]
  obtain ⟨v', w', hrun, r1, r2, r3⟩ := run_append_own (P := P) w base t o.type e i z size bytes h1 h2 h3 h4 h5 h6 h7 v k xs hown ad m c news hn hc h1c b1 b2 b3
  unfold Oper.wpIn
  refine ⟨?_, ?_⟩
  · simp [Oper.about, hop, resolve, Target.leads, Sem.run_pure]
  · rw [Oper.semAt_plain F _ _ (by rw [hop]; intro c hc'; cases hc')]
    simp [execOp, hop, resolve, invoke, builtin, hs, hx, hrun, Result.andThen]
    exact hK v' w' r1 r2 r3

/-- A byte as a cell. -/
def bv (c : UInt8) : Value := .int .u8 (c.toNat : Int)

theorem Tryz.infoB : (Tryz.prog.info? 5).map (fun i => (i.zero, i.size, i.bytes)) = some (some (.int .u8 0), 1, 1) := by kernel_rfl

/-- A row that owns the bytes l: cell j holds byte j. -/
theorem owns_cells {W : World} {base : Nat} {g cap k : Nat} {l : List UInt8} (h : W.ownsRow base 5 1 (.slice (some ⟨g, 0, none⟩) k cap) k (l.map bv)) :
    ∀ j (hj : j < l.length), W.cell? ⟨g, j, none⟩ = some (.int .u8 (l[j].toNat : Int)) := by
  intro j hj
  rcases h.2 with ⟨h0, _⟩ | ⟨g', cap', cur, h1, _, hgb, _, _, _, ht⟩
  · cases h0
  · cases h1
    simp only [World.cell?, hgb]
    have hk : l.length = k := by simpa using h.1
    have h2 : (cur.toList.take (k * 1))[j]? = (l.map bv)[j]? := by rw [ht]
    rw [List.getElem?_take, if_pos (by omega)] at h2
    simp only [List.getElem?_map, List.getElem?_eq_getElem hj, Option.map_some] at h2
    simpa [bv] using h2

/-- 'string(b)' of a row of the call's own. -/
theorem owns_string {W : World} {base : Nat} {v : Value} {l : List UInt8} (h : W.ownsRow base 5 1 v l.length (l.map bv)) :
    (convert 40 9 v).run Tryz.prog W = .ok (.string ⟨l.toArray⟩) W := by
  rcases h.2 with ⟨rfl, h0⟩ | ⟨g, cap, cur, rfl, _⟩
  · have hl : l = [] := by simpa using h0
    subst hl
    exact run_convert_bytes_nil W 40 5 Tryz.underlying40 Tryz.underlying5 0 0 _ Tryz.underlying9
  · refine run_convert_bytes_back W 40 9 5 ⟨g, 0, none⟩ cap l Tryz.underlying40 Tryz.underlying5 Tryz.underlying9 fun j hj => ?_
    have hadd : (⟨g, 0, none⟩ : Addr).add j = ⟨g, j, none⟩ := by unfold Addr.add; split <;> simp_all
    rw [hadd]
    exact owns_cells h j hj
end Go.Proofs.YtkkicbhmcjbmbaaGreat

/- What CopyBytes, SameBytes and Spoil do with any bytes. -/
namespace Go.Proofs.YtkkicbhmcjbmbaaGreat
open Go.RowKit

/-- The slice value v holds the bytes l. -/
def Bys (W : World) (v : Value) (l : List UInt8) : Prop :=
  (v = .slice none 0 0 ∧ l = []) ∨ (∃ a cap, v = .slice (some a) 0 cap ∧ l = []) ∨
  ∃ b off cap, v = .slice (some ⟨b, off, none⟩) l.length cap ∧ 0 < l.length ∧ ∀ j, j < l.length → W.cell? ⟨b, off + j, none⟩ = some (.int .u8 ((l.getD j 0).toNat : Int))

theorem Bys.below {W W' : World} {v : Value} {l : List UInt8} (h : Bys W v l) (hB : Below W.heap.size W W') : Bys W' v l := by
  rcases h with h | h | ⟨b, off, cap, rfl, h0, hc⟩
  · exact .inl h
  · exact .inr (.inl h)
  · refine .inr (.inr ⟨b, off, cap, rfl, h0, fun j hj => ?_⟩)
    have := World.block_lt_of_cell? W _ (hc j hj)
    exact (hB.cell (p := ⟨b, off + j, none⟩) this).trans (hc j hj)
theorem Bys.of_owns {W : World} {base : Nat} {v : Value} {l : List UInt8} (h : W.ownsRow base 5 1 v l.length (l.map bv)) : Bys W v l := by
  rcases h.2 with ⟨rfl, h0⟩ | ⟨g, cap, cur, rfl, _⟩
  · exact .inl ⟨rfl, by simpa using h0⟩
  · by_cases hl : l.length = 0
    · exact .inr (.inl ⟨_, _, by rw [hl], List.length_eq_zero_iff.1 hl⟩)
    · refine .inr (.inr ⟨g, 0, cap, rfl, by omega, fun j hj => ?_⟩)
      rw [Nat.zero_add, owns_cells h j hj, List.getD_eq_getElem?_getD, List.getElem?_eq_getElem hj]
      rfl

theorem bys_news {W : World} {b off : Nat} {l : List UInt8} (hc : ∀ j, j < l.length → W.cell? ⟨b, off + j, none⟩ = some (.int .u8 ((l.getD j 0).toNat : Int))) :
    ∀ j u, (l.map bv)[j]? = some u → W.cell? ((⟨b, off, none⟩ : Addr).add j) = some u := by
  intro j u hj
  have hjl : j < l.length := by simpa using (List.getElem?_eq_some_iff.1 hj).1
  have hadd : (⟨b, off, none⟩ : Addr).add j = ⟨b, off + j, none⟩ := by unfold Addr.add; split <;> simp_all
  rw [hadd, hc j hjl, ← hj]
  simp [List.getD_eq_getElem?_getD, List.getElem?_eq_getElem hjl, bv]
theorem bys_one (l : List UInt8) : ∀ u ∈ l.map bv, u.oneCell' = true := by
  intro u hu
  obtain ⟨c, _, rfl⟩ := List.mem_map.1 hu
  rfl
theorem bys_form {W : World} {v : Value} {l : List UInt8} (h : Bys W v l) : ∃ a1 c1, v = .slice a1 l.length c1 ∧ (0 < l.length → ∃ b off, a1 = some ⟨b, off, none⟩ ∧ ∀ j, j < l.length → W.cell? ⟨b, off + j, none⟩ = some (.int .u8 ((l.getD j 0).toNat : Int))) := by
  rcases h with ⟨rfl, rfl⟩ | ⟨a, cap, rfl, rfl⟩ | ⟨b, off, cap, rfl, h0, hc⟩
  · exact ⟨_, _, rfl, fun h => absurd h (by decide)⟩
  · exact ⟨_, _, rfl, fun h => absurd h (by decide)⟩
  · exact ⟨_, _, rfl, fun _ => ⟨b, off, rfl, hc⟩⟩

set_option maxHeartbeats 1000000 in
theorem copy_any (v : Value) (l : List UInt8) (w : World) (h : Bys w v l) (hs : l.length ≤ 140737488351232) :
    Calls Tryz.prog 54 #[v] w fun e w' => ∃ v', e = .returned v' ∧ w'.ownsRow w.heap.size 5 1 v' l.length (l.map bv) ∧ Below w.heap.size w w' := by
  obtain ⟨i0, hi, hz0, hz1, hz2⟩ := info_parts Tryz.infoB
  rcases h with ⟨rfl, rfl⟩ | ⟨a, cap, rfl, rfl⟩ | ⟨b, off, cap, rfl, h0, hc⟩
  · go_enter Tryz.func54, Tryz.ntmps54
    go_wp2_with (at_builtin; refine wpList_append_own_none rfl _ _ 40 rfl w.heap.size 5 i0 1 Tryz.underlying40 hi _ _ _ rfl (World.ownsRow_nil _ _ _ _) rfl ?_)
    go_ret
    exact ⟨_, rfl, World.ownsRow_nil _ _ _ _, Below.refl _ _⟩
  · go_enter Tryz.func54, Tryz.ntmps54
    go_wp2_with (at_builtin; refine wpList_append_own _ rfl _ _ 40 rfl w.heap.size 5 i0 (.int .u8 0) 1 1 Tryz.underlying40 hi hz0 hz1 hz2 rfl (by decide) _ _ _ rfl (World.ownsRow_nil _ _ _ _) a 0 cap [] rfl rfl (by simp) (by simp) (by decide) (by decide) (Nat.le_refl _) ?_; intro v' w1 hown hgrow hnil)
    go_ret
    exact ⟨v', rfl, hown, (Below.refl _ _).grown hgrow (Nat.le_refl _) (fun j e => by cases e)⟩
  · go_enter Tryz.func54, Tryz.ntmps54
    go_wp2_with (at_builtin; refine wpList_append_own _ rfl _ _ 40 rfl w.heap.size 5 i0 (.int .u8 0) 1 1 Tryz.underlying40 hi hz0 hz1 hz2 rfl (by decide) _ _ _ rfl (World.ownsRow_nil _ _ _ _) ⟨b, off, none⟩ l.length cap (l.map bv) rfl (by simp) (bys_news hc) (bys_one l) (by unfold maxLen; omega) (by omega) (Nat.le_refl _) ?_; intro v' w1 hown hgrow hnil)
    go_ret
    exact ⟨v', rfl, by simpa using hown, (Below.refl _ _).grown hgrow (Nat.le_refl _) (fun j e => by cases e)⟩

set_option maxRecDepth 100000 in
set_option maxHeartbeats 1000000 in
theorem same_any (v1 v2 : Value) (l : List UInt8) (w : World) (h1 : Bys w v1 l) (h2 : Bys w v2 l) (hs : l.length ≤ maxLen) :
    Calls Tryz.prog 38 #[v1, v2] w fun e w' => e = .returned (.bool true) ∧ Below w.heap.size w w' := by
  unfold maxLen at hs
  obtain ⟨a1, c1, rfl, hc1⟩ : ∃ a1 c1, v1 = .slice a1 l.length c1 ∧ (0 < l.length → ∃ b off, a1 = some ⟨b, off, none⟩ ∧ ∀ j, j < l.length → w.cell? ⟨b, off + j, none⟩ = some (.int .u8 ((l.getD j 0).toNat : Int))) := bys_form h1
  obtain ⟨a2, c2, rfl, hc2⟩ : ∃ a1 c1, v2 = .slice a1 l.length c1 ∧ (0 < l.length → ∃ b off, a1 = some ⟨b, off, none⟩ ∧ ∀ j, j < l.length → w.cell? ⟨b, off + j, none⟩ = some (.int .u8 ((l.getD j 0).toNat : Int))) := bys_form h2
  have HC1 := hide hc1
  have HC2 := hide hc2
  clear hc1 hc2
  go_enter Tryz.func38, Tryz.ntmps38
  go_wp2
  go_loopw [5] (fun i wr => ∃ (k : Nat), k ≤ l.length ∧ i = .int .i64 k ∧ ∃ q, wr = w.drewN q) (fun i _ => l.length - (intOf i).toNat)
  case atStart => exact ⟨0, Nat.zero_le _, rfl, 0, rfl⟩
  case round =>
    obtain ⟨k, hk, rfl, q, rfl⟩ := hrel
    by_cases hlt : k < l.length
    · obtain ⟨b1, o1, rfl, hc1⟩ := HC1.out (by omega)
      obtain ⟨b2, o2, rfl, hc2⟩ := HC2.out (by omega)
      have g1 := hc1 k hlt
      have g2 := hc2 k hlt
      clear hc1 hc2 HC1 HC2
      have hk1 : (0 : Int) ≤ (k : Int) := by omega
      have hk2 : (k : Int) < (l.length : Int) := by omega
      generalize l.getD k 0 = x at g1 g2
      go_wp2
      go_quiet (fail)
      go_wp2
      go_roundw
      case rel => exact ⟨k + 1, by omega, by go_num, _, rfl⟩
      case measure => simp [intOf]; omega
    · go_wp2
      go_ret
      exact ⟨rfl, below_drewN (Below.refl _ _) _⟩

set_option maxRecDepth 100000 in
set_option maxHeartbeats 1000000 in
theorem spoil_any (base : Nat) (v : Value) (n : Nat) (xs : List Value) (w : World) (h : w.ownsRow base 5 1 v n xs) (hx : ∀ u ∈ xs, ∃ c, u = .int .u8 c) (hs : n ≤ maxLen) :
    Calls Tryz.prog 57 #[v] w fun e w' => e = .returned (.tuple #[]) ∧ Below base w w' := by
  unfold maxLen at hs
  rcases h.2 with ⟨rfl, h0⟩ | ⟨g, cap, cur, rfl, hbg, -⟩
  · go_enter Tryz.func57, Tryz.ntmps57
    go_wp2
    go_loopw [2] (fun i wr => i = .int .i64 0 ∧ wr = w) (fun _ _ => 0)
    case atStart => exact ⟨rfl, rfl⟩
    case round =>
      obtain ⟨rfl, rfl⟩ := hrel
      go_wp2
      go_end0
      exact ⟨rfl, Below.refl _ _⟩
  · have HO := hide h
    have HX := hide hx
    have hlen : xs.length = n := by have := h.1; omega
    clear h hx
    go_enter Tryz.func57, Tryz.ntmps57
    go_wp2
    go_loopw [2] (fun i wr => ∃ (k : Nat) (ys : List Value), k ≤ n ∧ i = .int .i64 k ∧ ys.length = n ∧ (∀ u ∈ ys, ∃ c, u = .int .u8 c) ∧ wr.ownsRow base 5 1 (.slice (some ⟨g, 0, none⟩) n cap) n ys ∧ Below base w wr) (fun i _ => n - (intOf i).toNat)
    case atStart => exact ⟨0, xs, Nat.zero_le _, rfl, hlen, HX.out, HO.out, Below.refl _ _⟩
    case round =>
      clear HO HX hlen
      obtain ⟨k, ys, hk, rfl, hlen, hys, hown, hB⟩ := hrel
      by_cases hlt : k < n
      · obtain ⟨c, hc⟩ := hys ys[k] (List.getElem_mem _)
        have hcell := hown.cellAt k (by omega)
        rw [List.getElem?_eq_getElem (by omega), hc] at hcell
        have hfr := hown.frozenAt k
        have HY := hide hys
        have HO := hide hown
        have HL := hide hlen
        clear hys hown hc hlen
        go_wp2
        go_roundw
        case rel =>
          obtain ⟨hst, hgr⟩ := HO.out.stored k (Value.int .u8 (bits .xor .u8 c 85))
          refine ⟨k + 1, _, by omega, by go_num, ?_, ?_, hst, hB.setCell (p := ⟨g, k, none⟩) hbg _⟩
          · rw [List.length_set]; exact HL.out
          · intro u hu
            rcases List.mem_or_eq_of_mem_set hu with h | h
            · exact HY.out u h
            · exact ⟨_, h⟩
        case measure => simp [intOf]; omega
      · go_wp2
        go_end0
        exact ⟨rfl, hB⟩
end Go.Proofs.YtkkicbhmcjbmbaaGreat

/- Rows of bytes that a file holds: an append of zeros, at a step of a region that draws its order. -/
namespace Go.Proofs.YtkkicbhmcjbmbaaGreat
open Go.RowKit

/-- Block b is a row of which the slice value of length l.length and capacity cap has the bytes l. -/
structure RowAt (W : World) (b cap : Nat) (l : List UInt8) : Prop where
  row : ∃ cur : List Value, W.heap[b]? = some (.cells cur.toArray 5 (0, 0)) ∧ cap ≤ cur.length ∧ cur.take l.length = l.map bv
  len : l.length ≤ cap
  lim : cap ≤ maxLen

theorem zeroCells_one (z : Value) (hz : z.cells = #[z]) (n : Nat) : (Builtin.zeroCells z.cells n).toList = List.replicate n z := by
  rw [hz]
  apply List.ext_getElem?
  intro j
  by_cases hj : j < n
  · simp [Builtin.zeroCells, hj, Nat.mod_one]
  · simp [Builtin.zeroCells, hj]

theorem run_append_room_zeros {P : Program} (w : World) (t tn ty e : TypeId) (i : TypeInfo) (z : Value) (kq kn : IntKind) (ht : P.underlying t = some (.slice e)) (htn : P.underlying tn = some (.int kn)) (hi : P.info? e = some i) (hz : i.zero = some z) (hsz : i.size = 1) (hzc : z.cells = #[z]) (h1 : z.oneCell' = true)
    (g sLen sCap : Nat) (cur : Array Value) (hg : w.heap[g]? = some (.cells cur e (0, 0)))
    (k : Nat) (h0 : 0 < k) (hroom : sLen + k ≤ sCap) (hfit : sLen + k ≤ cur.size) (h48 : k * i.bytes ≤ 281474976710656) (h63 : (k : Int) ≤ 9223372036854775807) :
    (Builtin.append_ #[t, tn] ty #[.slice (some ⟨g, 0, none⟩) sLen sCap, .int kq k]).run P w =
      .ok (.slice (some ⟨g, 0, none⟩) (sLen + k) sCap) (w.setRow g (cur.toList.take sLen ++ List.replicate k z ++ cur.toList.drop (sLen + k)).toArray) := by
  have hk : k ≠ 0 := by omega
  have hw : IntKind.i64.wrap (k : Int) = k := by rw [IntKind.wrap_i64]; omega
  have h48i : ¬ (281474976710656 < (k : Int) * (i.bytes : Int)) := by
    rw [← Int.natCast_mul]
    omega
  have hneg : ¬ ((k : Int) < 0) := by omega
  have hzl := zeroCells_one z hzc k
  have hst := run_storeCells_at P g sLen e (List.replicate k z) 0 cur w hg (by simpa using hfit) (by intro v hv; rw [(List.mem_replicate.1 hv).2]; exact h1)
  simp only [Nat.add_zero, List.length_replicate] at hst
  simp [Builtin.append_, run_underlying ht, run_underlying htn, sizeOf, typeInfo, zeroValue, hi, hz, hsz, asInt, asIntOf, hw, hk, hneg, h48i, hroom, Addr.add_lit, hzl, hst]

theorem Tryz.infoB1 : (Tryz.prog.info? 5).map (fun i => (i.zero, i.size, i.bytes)) = some (some (.int .u8 0), 1, 1) := by kernel_rfl

/-- append(data, make([]byte, k)...). -/
theorem run_append_zeros (w : World) (ty : TypeId) (b cap : Nat) (l : List UInt8) (k : Nat) (h : RowAt w b cap l) (h0 : 0 < k) (hk : l.length + k ≤ 140737488351232) :
    ∃ b' cap' w', (Builtin.append_ #[40, 3] ty #[.slice (some ⟨b, 0, none⟩) l.length cap, .int .i64 k]).run Tryz.prog w = .ok (.slice (some ⟨b', 0, none⟩) (l.length + k) cap') w' ∧
      RowAt w' b' cap' (l ++ List.replicate k 0) ∧ w.grownBy w' (some b) ∧ (b' = b ∨ b' = w.heap.size) := by
  obtain ⟨i0, hi, hz0, hz1, hz2⟩ := info_parts Tryz.infoB1
  obtain ⟨cur, hrow, hcap, hcells⟩ := h.row
  have hl := h.len
  have hm := h.lim
  unfold maxLen at hm
  have hbl : b < w.heap.size := (Array.getElem?_eq_some_iff.1 hrow).1
  by_cases hroom : l.length + k ≤ cap
  · have hr := run_append_room_zeros (P := Tryz.prog) w 40 3 ty 5 i0 (.int .u8 0) .i64 .i64 Tryz.underlying40 Tryz.underlying3 hi hz0 hz1 rfl rfl b l.length cap cur.toArray hrow k h0 hroom (by simp; omega) (by rw [hz2]; omega) (by omega)
    refine ⟨b, cap, _, hr, ⟨⟨_, setRow_heap w b _ _ _ _ hrow, ?_, ?_⟩, ?_, h.lim⟩, ⟨rfl, rfl, rfl, by simp [World.setRow], fun j _ hj => setRow_other w b j _ (fun e => hj (by rw [e]))⟩, .inl rfl⟩
    · simp only [List.length_append, List.length_take, List.length_replicate, List.length_drop]; omega
    · rw [hcells, List.length_append, List.length_replicate, List.map_append, List.map_replicate]
      show List.take (l.length + k) (List.map bv l ++ List.replicate k (.int .u8 0) ++ _) = List.map bv l ++ List.replicate k (.int .u8 0)
      rw [List.take_left' (by simp)]
    · simp only [List.length_append, List.length_replicate]; exact hroom
  · have hold : (Builtin.firstCells i0.size l.length (.slice (some ⟨b, 0, none⟩) l.length cap)).run Tryz.prog w.drew = .ok (l.map bv).toArray w.drew := by
      refine run_firstCells_some w.drew _ _ _ _ _ _ (by rw [hz1]; simp) fun j v hj => ?_
      have hadd : (⟨b, 0, none⟩ : Addr).add j = ⟨b, j, none⟩ := by unfold Addr.add; split <;> simp_all
      rw [hadd, cell_of_row w.drew b j cur.toArray _ _ hrow]
      rw [← hcells, List.getElem?_take] at hj
      split at hj
      · simpa using hj
      · cases hj
    have hr := Lib.run_append_grow_zeros (P := Tryz.prog) w 40 3 ty 5 i0 (.int .u8 0) .i64 .i64 Tryz.underlying40 Tryz.underlying3 hi hz0 (some ⟨b, 0, none⟩) l.length cap (l.map bv) hold k h0 (by omega) (by omega) (by omega) (by rw [hz2]; omega) (growslice_fits (by omega) (by rw [hz2]; omega))
    have hge := grownCap_ge w (l.length + k) cap 5
    have hA : (l.map bv).toArray ++ Builtin.zeroCells (Value.int .u8 0).cells k ++ Builtin.zeroCells (Value.int .u8 0).cells (grownCap w (l.length + k) cap 5 - (l.length + k)) = (l.map bv ++ List.replicate k (Value.int .u8 0) ++ List.replicate (grownCap w (l.length + k) cap 5 - (l.length + k)) (Value.int .u8 0)).toArray := by
      apply Array.ext'
      rw [Array.toList_append, Array.toList_append, zeroCells_one _ rfl, zeroCells_one _ rfl]
    rw [hA] at hr
    refine ⟨w.heap.size, _, _, hr, ⟨⟨_, heap_alloc_new w.drew _, ?_, ?_⟩, ?_, grownCap_le_maxLen w _ _ _ (by unfold maxLen; omega)⟩, ⟨rfl, rfl, rfl, by simp, fun j hj _ => Below.heap_alloc w.drew _ j hj⟩, .inr rfl⟩
    · simp only [List.length_append, List.length_map, List.length_replicate]; omega
    · rw [List.length_append, List.length_replicate, List.map_append, List.map_replicate]
      show List.take (l.length + k) (List.map bv l ++ List.replicate k (.int .u8 0) ++ _) = List.map bv l ++ List.replicate k (.int .u8 0)
      rw [List.take_left' (by simp)]
    · simp only [List.length_append, List.length_replicate]; omega

theorem step_append_zeros (w : World) {ops : Array Oper} {o : Oper} {a : Act} {K : Act → World → Prop} {Q : Exit → Act → World → Prop} {E : Prop}
    (hg : o.guard = none) (s x : Operand) (hop : o.op = Op.call { callee := Callee.builtin Builtin.append, args := #[s, x], argTypes := #[40, 3] })
    (b cap : Nat) (l : List UInt8) (k : Nat) (h : RowAt w b cap l) (h0 : 0 < k) (hk : l.length + k ≤ 140737488351232) (hs : a.eval s = .slice (some ⟨b, 0, none⟩) l.length cap) (kk : Int) (hx : a.eval x = .int .i64 kk) (hkk : kk = (k : Int))
    (hK : ∀ b' cap' w', Hid (RowAt w' b' cap' (l ++ List.replicate k 0)) → w.grownBy w' (some b) → (b' = b ∨ b' = w.heap.size) → K (a.put o.dst (.slice (some ⟨b', 0, none⟩) (l.length + k) cap')) w') :
    if Region.wanted o (yielded ops a.tmps) = true then Oper.wp Tryz.prog o a w K Q else E := by
  subst hkk
  have hw : Region.wanted o (yielded ops a.tmps) = true := by simp [Region.wanted, hg]
  rw [if_pos hw]
  obtain ⟨b', cap', w', hrun, r1, r2, r3⟩ := run_append_zeros w o.type b cap l k h h0 hk
  unfold Oper.wp
  simp [execOp, hop, resolve, invoke, builtin, hs, hx, hrun, Result.andThen]
  exact hK b' cap' w' r1 r2 r3

/-- copy(dst, src): dst in block g from off on; the world behind it. -/
theorem run_copy (w : World) (ty : TypeId) (dp sp : Option Addr) (dLen dCap sLen sCap : Nat) (g off : Nat) (cur : List Value) (hg : w.heap[g]? = some (.cells cur.toArray 5 (0, 0))) (cs : List Value) (hn : cs.length = Nat.min sLen dLen)
    (hpos : 0 < cs.length → dp = some ⟨g, off, none⟩ ∧ ∃ ad, sp = some ad ∧ ∀ j v, cs[j]? = some v → w.cell? (ad.add j) = some v) (hfit : off + cs.length ≤ cur.length) (h1 : ∀ v ∈ cs, v.oneCell' = true) :
    ∃ w', (Builtin.copy_ #[40, 40] ty #[.slice dp dLen dCap, .slice sp sLen sCap]).run Tryz.prog w = .ok (goInt cs.length) w' ∧ Hid (w'.heap[g]? = some (.cells (splice cur off cs).toArray 5 (0, 0))) ∧ w.grownBy w' (some g) := by
  refine (?_ : ∃ w', (Builtin.copy_ #[40, 40] ty #[.slice dp dLen dCap, .slice sp sLen sCap]).run Tryz.prog w = .ok (goInt cs.length) w' ∧ w'.heap[g]? = some (.cells (splice cur off cs).toArray 5 (0, 0)) ∧ w.grownBy w' (some g))
  obtain ⟨i0, hi, hz0, hz1, hz2⟩ := info_parts Tryz.infoB
  have hsz : (Tryz.prog.info? 5).map (·.size) = some 1 := by rw [hi]; simp [hz1]
  by_cases h0 : cs.length = 0
  · obtain rfl : cs = [] := List.eq_nil_of_length_eq_zero h0
    exact ⟨w, run_copy_none (P := Tryz.prog) w _ _ ty 5 dp sp dLen dCap sLen sCap Tryz.underlying40 hsz (by simpa using hn.symm), by simpa [splice] using hg, ⟨rfl, rfl, rfl, Nat.le_refl _, fun _ _ _ => rfl⟩⟩
  · obtain ⟨rfl, ad, rfl, hsrc⟩ := hpos (by omega)
    have hrun := run_copy_row (P := Tryz.prog) w 40 40 ty 5 g off dLen dCap ad sLen sCap cur.toArray 5 cs Tryz.underlying40 hsz hg hn hsrc (by simpa using hfit) h1
    refine ⟨_, hrun, by simpa [splice] using setRow_heap w g _ _ 5 _ hg, ⟨rfl, rfl, rfl, by simp [World.setRow], fun j _ hj => setRow_other w g j _ (fun e => hj (by rw [e]))⟩⟩

theorem RowAt.keep {W W' : World} {b cap : Nat} {l : List UInt8} (h : RowAt W b cap l) (hB : W'.heap[b]? = W.heap[b]?) : RowAt W' b cap l := by
  obtain ⟨⟨cur, h1, h2⟩, h3, h4⟩ := h
  exact ⟨⟨cur, hB.trans h1, h2⟩, h3, h4⟩
theorem RowAt.lt {W : World} {b cap : Nat} {l : List UInt8} (h : RowAt W b cap l) : b < W.heap.size := by
  obtain ⟨⟨cur, h1, h2⟩, h3, h4⟩ := h
  exact (Array.getElem?_eq_some_iff.1 h1).1
theorem RowAt.cell {W : World} {b cap : Nat} {l : List UInt8} (h : RowAt W b cap l) (j : Nat) (hj : j < l.length) : W.cell? ⟨b, j, none⟩ = some (.int .u8 ((l.getD j 0).toNat : Int)) := by
  obtain ⟨⟨cur, h1, _, h2⟩, h3, h4⟩ := h
  rw [cell_of_row W b j cur.toArray _ _ h1]
  have h5 : (cur.take l.length)[j]? = (l.map bv)[j]? := by rw [h2]
  rw [List.getElem?_take, if_pos hj] at h5
  simpa [List.getElem?_eq_getElem hj, List.getD_eq_getElem?_getD, bv] using h5
/-- A cut of a row: from x on, m bytes. -/
theorem RowAt.cut {W : World} {b cap : Nat} {l : List UInt8} (h : RowAt W b cap l) (x m c : Nat) (hx : x + m ≤ l.length) : Bys W (.slice (some ⟨b, x, none⟩) m c) ((l.drop x).take m) := by
  have hlen : ((l.drop x).take m).length = m := by simp; omega
  by_cases hm : m = 0
  · subst hm
    exact .inr (.inl ⟨_, _, rfl, by simp⟩)
  · refine .inr (.inr ⟨b, x, c, by rw [hlen], by omega, fun j hj => ?_⟩)
    rw [hlen] at hj
    rw [h.cell (x + j) (by omega)]
    simp [List.getD_eq_getElem?_getD, List.getElem?_drop, hj]
theorem RowAt.bys {W : World} {b cap : Nat} {l : List UInt8} (h : RowAt W b cap l) : Bys W (.slice (some ⟨b, 0, none⟩) l.length cap) l := by
  simpa using h.cut 0 l.length cap (by omega)
/-- A shorter slice of the same row. -/
theorem RowAt.shorter {W : World} {b cap : Nat} {l : List UInt8} (h : RowAt W b cap l) (m : Nat) (hm : m ≤ l.length) : RowAt W b m (l.take m) := by
  obtain ⟨⟨cur, h1, h2, h3⟩, h4, h5⟩ := h
  refine ⟨⟨cur, h1, by omega, ?_⟩, by simp; omega, by omega⟩
  rw [List.length_take, Nat.min_eq_left hm, List.map_take, ← h3, List.take_take, Nat.min_eq_left hm]
theorem RowAt.of_owns {W : World} {base b cap : Nat} {l : List UInt8} (h : W.ownsRow base 5 1 (.slice (some ⟨b, 0, none⟩) l.length cap) l.length (l.map bv)) : RowAt W b cap l := by
  rcases h.2 with ⟨h0, _⟩ | ⟨g, c, cur, h1, h2, h3, h4, h5, h6, h7⟩
  · cases h0
  · cases h1
    exact ⟨⟨cur.toList, by rw [Array.toArray_toList]; exact h3, by rw [Array.length_toList]; omega, by simpa using h7⟩, h4, h5⟩
/-- Bytes laid over a row. -/
theorem RowAt.laid {W' : World} {b cap : Nat} {l x : List UInt8} {cur : List Value} {off : Nat} (hc : cap ≤ cur.length) (ht : cur.take l.length = l.map bv) (h4 : l.length ≤ cap) (h5 : cap ≤ maxLen) (hoff : off + x.length ≤ l.length)
    (hW : W'.heap[b]? = some (.cells (splice cur off (x.map bv)).toArray 5 (0, 0))) : RowAt W' b cap (l.take off ++ (x ++ l.drop (off + x.length))) := by
  have hlen : (l.take off ++ (x ++ l.drop (off + x.length))).length = l.length := by simp; omega
  refine ⟨⟨_, hW, by rw [length_splice _ _ _ (by simp; omega)]; exact hc, ?_⟩, by omega, h5⟩
  rw [hlen]
  obtain ⟨R, rfl⟩ : ∃ R, cur = l.map bv ++ R := ⟨cur.drop l.length, by rw [← ht]; exact (List.take_append_drop _ _).symm⟩
  have h1 : List.take off (l.map bv ++ R) = List.take off (l.map bv) := List.take_append_of_le_length (by simp; omega)
  have h2 : List.drop (off + (x.map bv).length) (l.map bv ++ R) = List.drop (off + (x.map bv).length) (l.map bv) ++ R := List.drop_append_of_le_length (by simp; omega)
  unfold splice
  rw [h1, h2, ← List.append_assoc, ← List.append_assoc, List.take_left' (by simp; omega)]
  simp
end Go.Proofs.YtkkicbhmcjbmbaaGreat

/- Terminals: what stays when some blocks turn; lists of lines; appends whose block is told. -/
namespace Go.Proofs.YtkkicbhmcjbmbaaGreat
open Go.RowKit

theorem owns_slice {W : World} {base e size n : Nat} {v : Value} {xs : List Value} (h : W.ownsRow base e size v n xs) : ∃ a c, v = .slice a n c := by
  rcases h.2 with ⟨rfl, rfl⟩ | ⟨g, cap, cur, rfl, _⟩
  · exact ⟨_, _, rfl⟩
  · exact ⟨_, _, rfl⟩
theorem owns_cap {W : World} {base e size n : Nat} {a : Option Addr} {c : Nat} {xs : List Value} (h : W.ownsRow base e size (.slice a n c) n xs) : n ≤ c := by
  rcases h.2 with ⟨h0, h1⟩ | ⟨g, cap, cur, h1, h2, h3, h4, h5⟩
  · cases h0; exact Nat.le_refl _
  · cases h1; exact h4
theorem size_new (w : World) (o : Obj) : w.heap.size < (w.alloc o).heap.size := by simp
theorem owns_keep {W W' : World} {base e size n : Nat} {v : Value} {xs : List Value} (h : W.ownsRow base e size v n xs) (hB : ∀ k, v.ownBlock = some k → W'.heap[k]? = W.heap[k]?) : W'.ownsRow base e size v n xs := by
  refine ⟨h.1, ?_⟩
  rcases h.2 with h1 | ⟨g, cap, cur, rfl, h2, h3, h4⟩
  · exact .inl h1
  · exact .inr ⟨g, cap, cur, rfl, h2, (hB g rfl).trans h3, h4⟩
theorem owns_below {W W' : World} {base e size n : Nat} {v : Value} {xs : List Value} (h : W.ownsRow base e size v n xs) (hB : Below W.heap.size W W') : W'.ownsRow base e size v n xs :=
  owns_keep h fun k hk => hB.block k (h.lt k hk).2
theorem owns_mono {W : World} {base base' e size n : Nat} {v : Value} {xs : List Value} (h : W.ownsRow base e size v n xs) (hb : base' ≤ base) : W.ownsRow base' e size v n xs := by
  refine ⟨h.1, ?_⟩
  rcases h.2 with h1 | ⟨g, cap, cur, h1, h2, h3⟩
  · exact .inl h1
  · exact .inr ⟨g, cap, cur, h1, Nat.le_trans hb h2, h3⟩
theorem Bys.keep {W W' : World} {v : Value} {l : List UInt8} (h : Bys W v l) (hB : ∀ k, v.ownBlock = some k → k < W.heap.size → W'.heap[k]? = W.heap[k]?) : Bys W' v l := by
  rcases h with h | h | ⟨b, off, cap, rfl, h0, hc⟩
  · exact .inl h
  · exact .inr (.inl h)
  · refine .inr (.inr ⟨b, off, cap, rfl, h0, fun j hj => ?_⟩)
    have h1 := World.block_lt_of_cell? W _ (hc j hj)
    exact (World.cell?_of_block (w := W) (hB b rfl h1)).trans (hc j hj)

/-- All but the blocks S stays. -/
structure Turned (S : Nat → Prop) (w w' : World) : Prop where
  os : w'.os = w.os
  tape : w'.tape = w.tape
  output : w'.output = w.output
  size : w.heap.size ≤ w'.heap.size
  block : ∀ k, k < w.heap.size → ¬ S k → w'.heap[k]? = w.heap[k]?
theorem Turned.refl (S : Nat → Prop) (w : World) : Turned S w w := ⟨rfl, rfl, rfl, Nat.le_refl _, fun _ _ _ => rfl⟩
theorem Turned.trans {S S' : Nat → Prop} {a b c : World} (h : Turned S a b) (h' : Turned S' b c) (hs : ∀ k, k < a.heap.size → S' k → S k) : Turned S a c :=
  ⟨h'.os.trans h.os, h'.tape.trans h.tape, h'.output.trans h.output, Nat.le_trans h.size h'.size, fun k hk hn => (h'.block k (Nat.lt_of_lt_of_le hk h.size) (fun e => hn (hs k hk e))).trans (h.block k hk hn)⟩
theorem Turned.mono {S S' : Nat → Prop} {a b : World} (h : Turned S a b) (hs : ∀ k, S k → S' k) : Turned S' a b :=
  ⟨h.os, h.tape, h.output, h.size, fun k hk hn => h.block k hk (fun e => hn (hs k e))⟩
theorem Turned.below {S : Nat → Prop} {B : Nat} {w w' : World} (h : Turned S w w') (hS : ∀ k, S k → B ≤ k) (hB : B ≤ w.heap.size) : Below B w w' :=
  ⟨h.os, h.tape, h.output, h.size, fun k hk => h.block k (Nat.lt_of_lt_of_le hk hB) (fun e => by have := hS k e; omega)⟩
theorem Turned.of_below {S : Nat → Prop} {w w' : World} (h : Below w.heap.size w w') : Turned S w w' := ⟨h.os, h.tape, h.output, h.size, fun k hk _ => h.block k hk⟩
theorem Turned.cell {S : Nat → Prop} {w w' : World} (h : Turned S w w') {p : Addr} {v : Value} (hp : w.cell? p = some v) (hS : ¬ S p.block) : w'.cell? p = some v :=
  (World.cell?_of_block (w := w) (h.block _ (World.block_lt_of_cell? w _ hp) hS)).trans hp
theorem Turned.set {S : Nat → Prop} {w wr : World} {g j : Nat} {u : Value} (hT : Turned S w wr) (hg : S g ∨ w.heap.size ≤ g) : Turned S w (wr.setCell ⟨g, j, none⟩ u) := by
  refine hT.trans (S' := fun k => k = g) ⟨rfl, rfl, rfl, by simp [World.setCell], fun k hk hn => Below.heap_setCell _ _ _ _ hn⟩ (fun k hk e => by subst e; exact hg.resolve_right (by omega))
theorem Turned.grown {S : Nat → Prop} {w wr w1 : World} {vb : Option Nat} (hT : Turned S w wr) (hg : wr.grownBy w1 vb) (hv : ∀ k, vb = some k → S k ∨ w.heap.size ≤ k) : Turned S w w1 :=
  hT.trans (S' := fun k => vb = some k) ⟨hg.os, hg.tape, hg.output, hg.size, fun k hk hn => hg.block k hk (fun e => hn e.symm)⟩ (fun k hk e => (hv k e).resolve_right (by omega))
theorem Bys.turned {S : Nat → Prop} {W W' : World} {v : Value} {l : List UInt8} (h : Bys W v l) (hT : Turned S W W') (hS : ∀ k, v.ownBlock = some k → k < W.heap.size → ¬ S k) : Bys W' v l :=
  h.keep fun k hk hlt => hT.block k hlt (hS k hk hlt)
theorem owns_turned {S : Nat → Prop} {W W' : World} {base e size n : Nat} {v : Value} {xs : List Value} (h : W.ownsRow base e size v n xs) (hT : Turned S W W') (hS : ∀ k, v.ownBlock = some k → ¬ S k) : W'.ownsRow base e size v n xs :=
  owns_keep h fun k hk => hT.block k (h.lt k hk).2 (hS k hk)

/-- append(s, x...) of bytes: what is owned behind it, and where it lies. -/
theorem run_append_bytes (w : World) (ty : TypeId) (base : Nat) (s x : Value) (m l : List UInt8) (hs : w.ownsRow base 5 1 s m.length (m.map bv)) (hx : Bys w x l) (hn : m.length + l.length ≤ 140737488351232) (hb : base ≤ w.heap.size) :
    ∃ s' w', (Builtin.append_ #[40, 40] ty #[s, x]).run Tryz.prog w = .ok s' w' ∧ Hid (w'.ownsRow base 5 1 s' (m ++ l).length ((m ++ l).map bv)) ∧ w.grownBy w' s.ownBlock ∧ (s'.ownBlock = s.ownBlock ∨ s'.ownBlock = some w.heap.size) := by
  refine (?_ : ∃ s' w', (Builtin.append_ #[40, 40] ty #[s, x]).run Tryz.prog w = .ok s' w' ∧ w'.ownsRow base 5 1 s' (m ++ l).length ((m ++ l).map bv) ∧ w.grownBy w' s.ownBlock ∧ (s'.ownBlock = s.ownBlock ∨ s'.ownBlock = some w.heap.size))
  obtain ⟨i0, hi, hz0, hz1, hz2⟩ := info_parts Tryz.infoB
  rw [List.length_append, List.map_append]
  rcases hx with ⟨rfl, rfl⟩ | ⟨a, cap, rfl, rfl⟩ | ⟨b, off, cap, rfl, h0, hc⟩
  · exact ⟨s, w, run_append_owned_none (P := Tryz.prog) w base _ ty _ i0 1 Tryz.underlying40 hi s _ _ hs, by simpa using hs, ⟨rfl, rfl, rfl, Nat.le_refl _, fun _ _ _ => rfl⟩, .inl rfl⟩
  · obtain ⟨v', w', h1, h2, h3, _, h5⟩ := run_append_own_at (P := Tryz.prog) w base 40 ty 5 i0 (.int .u8 0) 1 1 Tryz.underlying40 hi hz0 hz1 hz2 rfl (by decide) s _ _ hs a 0 cap [] rfl (by simp) (by simp) (by unfold maxLen; omega) (by omega) hb
    exact ⟨v', w', h1, h2, h3, h5⟩
  · obtain ⟨v', w', h1, h2, h3, _, h5⟩ := run_append_own_at (P := Tryz.prog) w base 40 ty 5 i0 (.int .u8 0) 1 1 Tryz.underlying40 hi hz0 hz1 hz2 rfl (by decide) s _ _ hs ⟨b, off, none⟩ l.length cap (l.map bv) (by simp) (bys_news hc) (bys_one l) (by unfold maxLen; omega) (by omega) hb
    exact ⟨v', w', h1, h2, h3, h5⟩

theorem Tryz.infoL : (Tryz.prog.info? 40).map (fun i => (i.zero, i.size, i.bytes)) = some (some (.slice none 0 0), 1, 24) := by kernel_rfl
/-- append(s, one) of a slice: what is owned behind it, and where it lies. -/
theorem run_append_line (w : World) (ty : TypeId) (base : Nat) (s : Value) (n : Nat) (xs : List Value) (g c : Nat) (u : Value) (hs : w.ownsRow base 40 1 s n xs) (hx : w.cell? ⟨g, 0, none⟩ = some u) (hu : u.oneCell' = true) (hn : (n + 1) * 24 ≤ 140737488355328) (hb : base ≤ w.heap.size) :
    ∃ s' w', (Builtin.append_ #[96, 96] ty #[s, .slice (some ⟨g, 0, none⟩) 1 c]).run Tryz.prog w = .ok s' w' ∧ Hid (w'.ownsRow base 40 1 s' (n + 1) (xs ++ [u])) ∧ w.grownBy w' s.ownBlock ∧ (s'.ownBlock = s.ownBlock ∨ s'.ownBlock = some w.heap.size) := by
  refine (?_ : ∃ s' w', (Builtin.append_ #[96, 96] ty #[s, .slice (some ⟨g, 0, none⟩) 1 c]).run Tryz.prog w = .ok s' w' ∧ w'.ownsRow base 40 1 s' (n + 1) (xs ++ [u]) ∧ w.grownBy w' s.ownBlock ∧ (s'.ownBlock = s.ownBlock ∨ s'.ownBlock = some w.heap.size))
  obtain ⟨i0, hi, hz0, hz1, hz2⟩ := info_parts Tryz.infoL
  obtain ⟨v', w', h1, h2, h3, _, h5⟩ := run_append_own_at (P := Tryz.prog) w base 96 ty 40 i0 (.slice none 0 0) 1 24 Tryz.underlying96 hi hz0 hz1 hz2 rfl (by decide) s _ _ hs ⟨g, 0, none⟩ 1 c [u] rfl (fun j v hj => by
    match j, hj with
    | 0, hj => 
      obtain rfl : u = v := by simpa using hj
      have hadd : (⟨g, 0, none⟩ : Addr).add 0 = ⟨g, 0, none⟩ := by unfold Addr.add; split <;> simp_all
      rw [hadd]; exact hx) (by simpa using hu) (by unfold maxLen; omega) (by omega) hb
  exact ⟨v', w', h1, h2, h3, h5⟩

/-- An append whose run is known, at a step of a region that draws its order. -/
theorem step_append_run {P : Program} (w : World) {ops : Array Oper} {o : Oper} {a : Act} {K : Act → World → Prop} {Q : Exit → Act → World → Prop} {E : Prop}
    (hg : o.guard = none) (s x : Operand) (t tn : TypeId) (ho : o.op = Op.call { callee := Callee.builtin Builtin.append, args := #[s, x], argTypes := #[t, tn] }) (vs vx : Value) (hs : a.eval s = vs) (hx : a.eval x = vx)
    (v' : Value) (w' : World) (hr : (Builtin.append_ #[t, tn] o.type #[vs, vx]).run P w = .ok v' w') (h : K (a.put o.dst v') w') :
    if Region.wanted o (yielded ops a.tmps) = true then Oper.wp P o a w K Q else E := by
  have hw : Region.wanted o (yielded ops a.tmps) = true := by simp [Region.wanted, hg]
  rw [if_pos hw]
  exact Lib.wp_append_run w s x t tn ho vs vx hs hx v' w' hr h

/-- The slice value v holds the lines ls. -/
def Lns (W : World) (v : Value) (ls : List (List UInt8)) : Prop :=
  ∃ a c, v = .slice a ls.length c ∧ (0 < ls.length → ∃ b off, a = some ⟨b, off, none⟩ ∧ ∀ j (hj : j < ls.length), ∃ va vc, W.cell? ⟨b, off + j, none⟩ = some (.slice va ls[j].length vc) ∧ Bys W (.slice va ls[j].length vc) ls[j])
theorem Lns.below {W W' : World} {v : Value} {ls : List (List UInt8)} (h : Lns W v ls) (hB : Below W.heap.size W W') : Lns W' v ls := by
  obtain ⟨a, c, rfl, hc⟩ := h
  refine ⟨a, c, rfl, fun h0 => ?_⟩
  obtain ⟨b, off, rfl, hd⟩ := hc h0
  refine ⟨b, off, rfl, fun j hj => ?_⟩
  obtain ⟨va, vc, h1, h2⟩ := hd j hj
  exact ⟨va, vc, (hB.cell (p := ⟨b, off + j, none⟩) (World.block_lt_of_cell? W _ h1)).trans h1, h2.below hB⟩
/-- Line j of the lines ls. -/
theorem Lns.at {W : World} {a : Option Addr} {n c : Nat} {ls : List (List UInt8)} (h : Lns W (.slice a n c) ls) (j : Nat) (hj : j < ls.length) :
    ∃ b off va vc, a = some ⟨b, off, none⟩ ∧ W.cell? ⟨b, off + j, none⟩ = some (.slice va ls[j].length vc) ∧ Bys W (.slice va ls[j].length vc) ls[j] := by
  obtain ⟨a', c', he, hc⟩ := h
  cases he
  obtain ⟨b, off, rfl, hd⟩ := hc (by omega)
  obtain ⟨va, vc, h1, h2⟩ := hd j hj
  exact ⟨b, off, va, vc, rfl, h1, h2⟩
theorem Lns.form {W : World} {v : Value} {ls : List (List UInt8)} (h : Lns W v ls) : ∃ a c, v = .slice a ls.length c := by
  obtain ⟨a, c, rfl, _⟩ := h
  exact ⟨a, c, rfl⟩
/-- A nonempty slice of bytes lies in a block. -/
theorem bys_block {W : World} {a : Option Addr} {n c : Nat} {l : List UInt8} (h : Bys W (.slice a n c) l) (h0 : 0 < l.length) : n = l.length ∧ ∃ b off, a = some ⟨b, off, none⟩ ∧ b < W.heap.size ∧ ∀ j, j < l.length → W.cell? ⟨b, off + j, none⟩ = some (.int .u8 ((l.getD j 0).toNat : Int)) := by
  obtain ⟨a', c', he, hc⟩ := bys_form h
  cases he
  obtain ⟨b, off, rfl, hd⟩ := hc h0
  exact ⟨rfl, b, off, rfl, World.block_lt_of_cell? W _ (hd 0 h0), hd⟩
/-- A cut of bytes. -/
theorem bys_cut {W : World} {b off n c : Nat} {l : List UInt8} (h : Bys W (.slice (some ⟨b, off, none⟩) n c) l) (x m c' : Nat) (hx : x + m ≤ l.length) : Bys W (.slice (some ⟨b, off + x, none⟩) m c') ((l.drop x).take m) := by
  have hlen : ((l.drop x).take m).length = m := by simp; omega
  by_cases hm : m = 0
  · subst hm
    exact .inr (.inl ⟨_, _, rfl, by simp⟩)
  · obtain ⟨_, b', off', he, _, hc⟩ := bys_block h (by omega)
    cases he
    refine .inr (.inr ⟨b, off + x, c', by rw [hlen], by omega, fun j hj => ?_⟩)
    rw [hlen] at hj
    rw [Nat.add_assoc, hc (x + j) (by omega)]
    simp [List.getD_eq_getElem?_getD, List.getElem?_drop, hj]
end Go.Proofs.YtkkicbhmcjbmbaaGreat

/- A terminal in memory: its lines, its screen, the blocks that are its own. -/
namespace Go.Proofs.YtkkicbhmcjbmbaaGreat
open Go.RowKit

/-- Block t is a terminal: its lines lie at cell c, its screen at the next one; the blocks O are its own. -/
structure Term (W : World) (B t c : Nat) (O : Nat → Prop) (la : Option Addr) (lc : Nat) (s : Value) (ls : List (List UInt8)) (scr : List UInt8) : Prop where
  lines : W.cell? ⟨t, c, none⟩ = some (.slice la ls.length lc)
  screen : W.cell? ⟨t, c + 1, none⟩ = some s
  soft1 : W.frozen? ⟨t, c, none⟩ = false
  soft2 : W.frozen? ⟨t, c + 1, none⟩ = false
  cap : ls.length ≤ lc
  lo : ∀ k, (Value.slice la ls.length lc).ownBlock = some k → O k ∧ k ≠ t ∧ s.ownBlock ≠ some k
  row : 0 < ls.length → ∃ r off, la = some ⟨r, off, none⟩ ∧ ∀ j (hj : j < ls.length), W.frozen? ⟨r, off + j, none⟩ = false ∧ ∃ va vc, W.cell? ⟨r, off + j, none⟩ = some (.slice va ls[j].length vc) ∧ ls[j].length ≤ vc ∧ Bys W (.slice va ls[j].length vc) ls[j] ∧ ∀ k, (Value.slice va ls[j].length vc).ownBlock = some k → O k ∧ k ≠ t ∧ k ≠ r ∧ s.ownBlock ≠ some k
  scr : W.ownsRow B 5 1 s scr.length (scr.map bv)
  st : ∀ k, s.ownBlock = some k → O k ∧ k ≠ t
  ot : O t
  lt : ∀ k, O k → B ≤ k ∧ k < W.heap.size

theorem Term.keep {W W' : World} {B t c : Nat} {O : Nat → Prop} {la : Option Addr} {lc : Nat} {s : Value} {ls : List (List UInt8)} {scr : List UInt8} (h : Term W B t c O la lc s ls scr) (hk : ∀ k, O k → W'.heap[k]? = W.heap[k]?) (hs : W.heap.size ≤ W'.heap.size) : Term W' B t c O la lc s ls scr := by
  have ht := hk t h.ot
  refine ⟨(World.cell?_of_block (w := W) ht).trans h.lines, (World.cell?_of_block (w := W) ht).trans h.screen, (World.frozen?_of_block (w := W) ht).trans h.soft1, (World.frozen?_of_block (w := W) ht).trans h.soft2, h.cap, h.lo, fun h0 => ?_, owns_keep h.scr fun k e => hk k (h.st k e).1, h.st, h.ot, fun k e => ⟨(h.lt k e).1, Nat.lt_of_lt_of_le (h.lt k e).2 hs⟩⟩
  obtain ⟨r, off, rfl, hr⟩ := h.row h0
  have hro := hk r (h.lo r rfl).1
  refine ⟨r, off, rfl, fun j hj => ?_⟩
  obtain ⟨h1, va, vc, h2, h3, h4, h5⟩ := hr j hj
  exact ⟨(World.frozen?_of_block (w := W) hro).trans h1, va, vc, (World.cell?_of_block (w := W) hro).trans h2, h3, h4.keep fun k e _ => hk k (h5 k e).1, h5⟩
theorem Term.below {W W' : World} {B t c : Nat} {O : Nat → Prop} {la : Option Addr} {lc : Nat} {s : Value} {ls : List (List UInt8)} {scr : List UInt8} (h : Term W B t c O la lc s ls scr) (hB : Below W.heap.size W W') : Term W' B t c O la lc s ls scr :=
  h.keep (fun k e => hB.block k (h.lt k e).2) hB.size
theorem Term.turned {S : Nat → Prop} {W W' : World} {B t c : Nat} {O : Nat → Prop} {la : Option Addr} {lc : Nat} {s : Value} {ls : List (List UInt8)} {scr : List UInt8} (h : Term W B t c O la lc s ls scr) (hT : Turned S W W') (hS : ∀ k, O k → ¬ S k) : Term W' B t c O la lc s ls scr :=
  h.keep (fun k e => hT.block k (h.lt k e).2 (hS k e)) hT.size
theorem Term.lns {W : World} {B t c : Nat} {O : Nat → Prop} {la : Option Addr} {lc : Nat} {s : Value} {ls : List (List UInt8)} {scr : List UInt8} (h : Term W B t c O la lc s ls scr) : Lns W (.slice la ls.length lc) ls := by
  refine ⟨la, lc, rfl, fun h0 => ?_⟩
  obtain ⟨r, off, rfl, hr⟩ := h.row h0
  refine ⟨r, off, rfl, fun j hj => ?_⟩
  obtain ⟨h1, va, vc, h2, h3, h4, h5⟩ := hr j hj
  exact ⟨va, vc, h2, h4⟩

/-- Behind 't.screen = append(t.screen, ..)'. -/
theorem Term.written {w w1 : World} {B t c : Nat} {O : Nat → Prop} {la : Option Addr} {lc : Nat} {s s' : Value} {ls : List (List UInt8)} {scr scr' : List UInt8} (h : Term w B t c O la lc s ls scr)
    (hown : w1.ownsRow B 5 1 s' scr'.length (scr'.map bv)) (hg : w.grownBy w1 s.ownBlock) (hb : s'.ownBlock = s.ownBlock ∨ s'.ownBlock = some w.heap.size) :
    Term (w1.setCell ⟨t, c + 1, none⟩ s') B t c (fun k => O k ∨ s'.ownBlock = some k) la lc s' ls scr' ∧ Turned O w (w1.setCell ⟨t, c + 1, none⟩ s') := by
  have hO : ∀ k, O k → s.ownBlock ≠ some k → k ≠ t → (w1.setCell ⟨t, c + 1, none⟩ s').heap[k]? = w.heap[k]? := fun k hk hs ht =>
    (Below.heap_setCell _ _ _ _ ht).trans (hg.block k (h.lt k hk).2 (fun e => hs e.symm))
  have htt : w1.heap[t]? = w.heap[t]? := hg.block t (h.lt t h.ot).2 (fun e => (h.st t e.symm).2 rfl)
  have hc1 : w1.cell? ⟨t, c, none⟩ = some (.slice la ls.length lc) := (World.cell?_of_block (w := w) htt).trans h.lines
  have hc2 : w1.cell? ⟨t, c + 1, none⟩ = some s := (World.cell?_of_block (w := w) htt).trans h.screen
  have hne : ∀ k, O k → s.ownBlock ≠ some k → s'.ownBlock ≠ some k := fun k hk hs => by
    rcases hb with e | e
    · rw [e]; exact hs
    · rw [e]; intro e'; have := (h.lt k hk).2; cases e'; omega
  have hst : ∀ k, s'.ownBlock = some k → k ≠ t := fun k e => by
    rcases hb with e' | e'
    · rw [e'] at e; exact (h.st k e).2
    · rw [e'] at e; cases e; have := (h.lt t h.ot).2; omega
  refine ⟨⟨?_, World.cell?_setCell_same _ _ _ hc2, ?_, ?_, h.cap, fun k e => ?_, fun h0 => ?_, ?_, fun k e => ⟨.inr e, hst k e⟩, .inl h.ot, ?_⟩, ?_⟩
  · rw [World.cell?_setCell_other _ _ _ _ (by simp)]; exact hc1
  · rw [World.frozen?_setCell]; exact (World.frozen?_of_block (w := w) htt).trans h.soft1
  · rw [World.frozen?_setCell]; exact (World.frozen?_of_block (w := w) htt).trans h.soft2
  · obtain ⟨h1, h2, h3⟩ := h.lo k e
    exact ⟨.inl h1, h2, hne k h1 h3⟩
  · obtain ⟨r, off, rfl, hr⟩ := h.row h0
    obtain ⟨r1, r2, r3⟩ := h.lo r rfl
    have hrr := hO r r1 r3 r2
    refine ⟨r, off, rfl, fun j hj => ?_⟩
    obtain ⟨h1, va, vc, h2, h3, h4, h5⟩ := hr j hj
    refine ⟨(World.frozen?_of_block (w := w) hrr).trans h1, va, vc, (World.cell?_of_block (w := w) hrr).trans h2, h3, h4.keep fun k e _ => ?_, fun k e => ?_⟩
    · obtain ⟨q1, q2, q3, q4⟩ := h5 k e
      exact hO k q1 q4 q2
    · obtain ⟨q1, q2, q3, q4⟩ := h5 k e
      exact ⟨.inl q1, q2, q3, hne k q1 q4⟩
  · exact owns_keep hown fun k e => Below.heap_setCell _ _ _ _ (hst k e)
  · intro k e
    have hsz : (w1.setCell ⟨t, c + 1, none⟩ s').heap.size = w1.heap.size := by simp [World.setCell]
    rw [hsz]
    have := hg.size
    rcases e with e | e
    · have := h.lt k e; omega
    · exact hown.lt k e
  · exact ((Turned.refl O w).grown hg (fun k e => .inl (h.st k e).1)).set (.inl h.ot)

/-- Behind 't.lines[0] = line[n:]'. -/
theorem Term.cut {w : World} {B t c : Nat} {O : Nat → Prop} {r off lc b o vc n : Nat} {s : Value} {l : List UInt8} {ls : List (List UInt8)} {scr : List UInt8} (h : Term w B t c O (some ⟨r, off, none⟩) lc s (l :: ls) scr)
    (hc : w.cell? ⟨r, off, none⟩ = some (.slice (some ⟨b, o, none⟩) l.length vc)) (hn : n < l.length) :
    Term (w.setCell ⟨r, off, none⟩ (.slice (some ⟨b, o + n, none⟩) (l.length - n) (vc - n))) B t c O (some ⟨r, off, none⟩) lc s (l.drop n :: ls) scr ∧ Turned O w (w.setCell ⟨r, off, none⟩ (.slice (some ⟨b, o + n, none⟩) (l.length - n) (vc - n))) := by
  obtain ⟨ro, rt, rs⟩ := h.lo r rfl
  have hO : ∀ k, k ≠ r → (w.setCell ⟨r, off, none⟩ (.slice (some ⟨b, o + n, none⟩) (l.length - n) (vc - n))).heap[k]? = w.heap[k]? := fun k hk => Below.heap_setCell _ _ _ _ hk
  have htt := hO t (Ne.symm rt)
  refine ⟨⟨(World.cell?_of_block (w := w) htt).trans h.lines, (World.cell?_of_block (w := w) htt).trans h.screen, (World.frozen?_of_block (w := w) htt).trans h.soft1, (World.frozen?_of_block (w := w) htt).trans h.soft2, h.cap, h.lo, fun _ => ⟨r, off, rfl, fun j hj => ?_⟩, owns_keep h.scr fun k e => hO k (fun e' => by rw [e'] at e; exact rs e), h.st, h.ot, fun k e => by simpa [World.setCell] using h.lt k e⟩, (Turned.refl O w).set (.inl ro)⟩
  obtain ⟨r', off', he, hr⟩ := h.row (by simp)
  cases he
  cases j with
  | zero =>
    obtain ⟨h1, va, vc', h2, h3, h4, h5⟩ := hr 0 (by simp)
    simp only [Nat.add_zero, List.getElem_cons_zero] at h1 h2 h3 h4 h5 ⊢
    rw [hc] at h2
    simp only [Option.some.injEq, Value.slice.injEq, true_and] at h2
    obtain ⟨rfl, rfl⟩ := h2
    have hl : (l.drop n).length = l.length - n := by simp
    refine ⟨by rw [World.frozen?_setCell]; exact h1, _, _, by rw [hl]; exact World.cell?_setCell_same _ _ _ hc, by omega, ?_, fun k e => h5 k e⟩
    have hb := bys_cut h4 n (l.length - n) (vc - n) (by omega)
    rw [List.take_of_length_le (by simp)] at hb
    rw [hl]
    exact hb.keep fun k e _ => hO k (h5 k e).2.2.1
  | succ j =>
    have hj' : j + 1 < (l :: ls).length := by simpa using hj
    obtain ⟨h1, va, vc', h2, h3, h4, h5⟩ := hr (j + 1) hj'
    simp only [List.getElem_cons_succ] at h1 h2 h3 h4 h5 ⊢
    refine ⟨by rw [World.frozen?_setCell]; exact h1, va, vc', ?_, h3, h4.keep fun k e _ => hO k (h5 k e).2.2.1, h5⟩
    rw [World.cell?_setCell_other _ _ _ _ (by simp)]
    exact h2

/-- Behind 't.lines = t.lines[1:]', where the first line's place may have turned. -/
theorem Term.dropped {w w1 : World} {B t c : Nat} {O : Nat → Prop} {r off lc : Nat} {s : Value} {l : List UInt8} {ls : List (List UInt8)} {scr : List UInt8} (h : Term w B t c O (some ⟨r, off, none⟩) lc s (l :: ls) scr)
    (hsz : w1.heap.size = w.heap.size) (hos : w1.os = w.os) (hta : w1.tape = w.tape) (hou : w1.output = w.output) (hO : ∀ k, k ≠ r → w1.heap[k]? = w.heap[k]?) (hr : ∀ j, w1.frozen? ⟨r, off + (j + 1), none⟩ = w.frozen? ⟨r, off + (j + 1), none⟩ ∧ w1.cell? ⟨r, off + (j + 1), none⟩ = w.cell? ⟨r, off + (j + 1), none⟩)
    (la : Option Addr) (n' : Nat) (hla : la = some ⟨r, off + 1, none⟩ ∨ ls = [] ∧ la = some ⟨r, off, none⟩) (hn' : n' = ls.length) :
    Term (w1.setCell ⟨t, c, none⟩ (.slice la n' (lc - 1))) B t c O la (lc - 1) s ls scr ∧ Turned (fun k => k = t ∨ k = r) w (w1.setCell ⟨t, c, none⟩ (.slice la n' (lc - 1))) := by
  subst hn'
  obtain ⟨ro, rt, rs⟩ := h.lo r rfl
  have hT1 : Turned (fun k => k = t ∨ k = r) w w1 := ⟨hos, hta, hou, by omega, fun k hk hn => hO k (fun e => hn (.inr e))⟩
  have htt : w1.heap[t]? = w.heap[t]? := hO t (Ne.symm rt)
  have hc1 : w1.cell? ⟨t, c, none⟩ = some (.slice (some ⟨r, off, none⟩) (ls.length + 1) lc) := (World.cell?_of_block (w := w) htt).trans h.lines
  have hK : ∀ k, k ≠ r → k ≠ t → (w1.setCell ⟨t, c, none⟩ (.slice la ls.length (lc - 1))).heap[k]? = w.heap[k]? := fun k h1 h2 => (Below.heap_setCell _ _ _ _ h2).trans (hO k h1)
  have hblk : ∀ k, (Value.slice la ls.length (lc - 1)).ownBlock = some k → k = r := fun k e => by
    rcases hla with rfl | ⟨_, rfl⟩ <;> (simp only [Value.ownBlock, Option.some.injEq] at e; exact e.symm)
  have hcap := h.cap
  simp only [List.length_cons] at hcap
  refine ⟨⟨World.cell?_setCell_same _ _ _ hc1, ?_, ?_, ?_, by omega, fun k e => ?_, fun h0 => ?_, ?_, h.st, h.ot, fun k e => ?_⟩, hT1.set (.inl (.inl rfl))⟩
  · rw [World.cell?_setCell_other _ _ _ _ (by simp)]; exact (World.cell?_of_block (w := w) htt).trans h.screen
  · rw [World.frozen?_setCell]; exact (World.frozen?_of_block (w := w) htt).trans h.soft1
  · rw [World.frozen?_setCell]; exact (World.frozen?_of_block (w := w) htt).trans h.soft2
  · rw [hblk k e]; exact ⟨ro, rt, rs⟩
  · rcases hla with rfl | ⟨rfl, _⟩
    · obtain ⟨r', off', he, hrow⟩ := h.row (by simp)
      cases he
      refine ⟨r, off + 1, rfl, fun j hj => ?_⟩
      obtain ⟨h1, va, vc', h2, h3, h4, h5⟩ := hrow (j + 1) (by simpa using hj)
      simp only [List.getElem_cons_succ] at h1 h2 h3 h4 h5
      have e1 : off + 1 + j = off + (j + 1) := by omega
      rw [e1]
      refine ⟨by rw [World.frozen?_setCell, (hr j).1]; exact h1, va, vc', ?_, h3, h4.keep fun k e _ => hK k (h5 k e).2.2.1 (h5 k e).2.1, h5⟩
      rw [World.cell?_setCell_other _ _ _ _ (by simp), (hr j).2]
      exact h2
    · simp at h0
  · exact owns_keep h.scr fun k e => hK k (fun e' => by rw [e'] at e; exact rs e) (h.st k e).2
  · have := h.lt k e
    simpa [World.setCell, hsz] using this
end Go.Proofs.YtkkicbhmcjbmbaaGreat

/- The small functions of terminal: isMade, copied, copiedLines, New, Left, Screen, Copy. -/
namespace Go.Proofs.YtkkicbhmcjbmbaaGreat
open Go.RowKit

set_option maxHeartbeats 1000000 in
theorem Te_isMade_yes (g : Nat) (w : World) (h : w.cell? ⟨g, 0, none⟩ = some (.bool true)) :
    Calls Tryz.prog 182 #[.pointer (some ⟨g, 0, none⟩)] w fun e w' => e = .returned (.bool true) ∧ w' = w := by
  go_enter Tryz.func182, Tryz.ntmps182
  go_wp2
  go_ret
  exact ⟨rfl, rfl⟩
set_option maxHeartbeats 1000000 in
theorem Te_isMade_no (g : Nat) (w : World) (h : w.cell? ⟨g, 0, none⟩ = some (.bool false)) :
    Calls Tryz.prog 182 #[.pointer (some ⟨g, 0, none⟩)] w fun e w' => e = .returned (.bool false) ∧ w' = w := by
  go_enter Tryz.func182, Tryz.ntmps182
  go_wp2
  go_ret
  exact ⟨rfl, rfl⟩
set_option maxHeartbeats 1000000 in
theorem Te_isMade_nil (w : World) :
    Calls Tryz.prog 182 #[.pointer none] w fun e w' => e = .returned (.bool false) ∧ w' = w := by
  go_enter Tryz.func182, Tryz.ntmps182
  go_wp2
  go_ret
  exact ⟨rfl, rfl⟩

theorem Te_made_row {w w1 : World} {T n : Nat} {xs : List Value} (h : w1.ownsRow w.heap.size T 1 (.slice (some ⟨w.heap.size, 0, none⟩) n n) n xs) (hg : w.grownBy w1 none) :
    ∃ cur : List Value, cur.length = n ∧ Hid (w1.heap[w.heap.size]? = some (.cells cur.toArray T (0, 0))) ∧ Below w.heap.size w w1 := by
  refine (?_ : ∃ cur : List Value, cur.length = n ∧ w1.heap[w.heap.size]? = some (.cells cur.toArray T (0, 0)) ∧ Below w.heap.size w w1)
  rcases h.2 with ⟨h0, _⟩ | ⟨g, c, cur, h1, h2, h3, h4, h5, h6, h7⟩
  · cases h0
  · cases h1
    exact ⟨cur.toList, by rw [Array.length_toList]; omega, by rw [Array.toArray_toList]; exact h3, (Below.refl _ w).grown hg (Nat.le_refl _) (fun k e => by cases e)⟩
/-- The bytes of a slice, as cells to be copied. -/
theorem Te_bys_src {w : World} {a1 : Option Addr} {n c1 : Nat} {l : List UInt8} {X : List Value} (h : Bys w (.slice a1 n c1) l) (hX : X = l.map bv) :
    0 < X.length → ∃ ad, a1 = some ad ∧ ∀ j v, X[j]? = some v → w.cell? (ad.add j) = some v := by
  intro h0
  obtain ⟨a, c, he, hc⟩ := bys_form h
  cases he
  obtain ⟨b, off, rfl, hd⟩ := hc (by rw [hX] at h0; simpa using h0)
  exact ⟨_, rfl, fun j v hj => bys_news hd j v (by rw [← hX]; exact hj)⟩

set_option maxRecDepth 100000 in
set_option maxHeartbeats 1000000 in
theorem Te_copied_any (v : Value) (l : List UInt8) (w : World) (h : Bys w v l) (hs : l.length ≤ 140737488351232) :
    Calls Tryz.prog 173 #[v] w fun e w' => e = .returned (.slice (some ⟨w.heap.size, 0, none⟩) l.length l.length) ∧ w'.ownsRow w.heap.size 5 1 (.slice (some ⟨w.heap.size, 0, none⟩) l.length l.length) l.length (l.map bv) ∧ Below w.heap.size w w' := by
  obtain ⟨i0, hi, hz0, hz1, hz2⟩ := info_parts Tryz.infoB
  obtain ⟨a1, c1, rfl, -⟩ := bys_form h
  have HC1 := hide h
  clear h
  have hsz : (Tryz.prog.info? 5).map (·.size) = some 1 := by rw [hi]; simp [hz1]
  obtain ⟨X, hX⟩ : ∃ X, X = l.map bv := ⟨_, rfl⟩
  have HX := hide hX
  have hXl : X.length = l.length := by rw [hX]; simp
  have H1 : Hid (∀ v ∈ X, v.oneCell' = true) := hide (by rw [hX]; exact bys_one l)
  clear hX
  go_enter Tryz.func173, Tryz.ntmps173
  go_wp2_with (at_make; refine wpList_make_full _ rfl _ _ 40 rfl w.heap.size 5 i0 (.int .u8 0) 1 Tryz.underlying40 hi hz0 hz1 _ _ _ _ l.length rfl rfl rfl rfl (by rw [hz2]; omega) (by unfold maxLen; omega) (Nat.le_refl _) ?_; intro w1 hown1 hgrow1; obtain ⟨cur, hcl, HR, hB1⟩ := Te_made_row hown1 hgrow1; clear hown1 hgrow1; obtain ⟨w2, hrun, HG2, hgr2⟩ := run_copy w1 3 (some ⟨w.heap.size, 0, none⟩) a1 l.length l.length l.length c1 w.heap.size 0 cur HR.out X (by rw [hXl]; simp) (fun h0 => ⟨rfl, Te_bys_src (HC1.out.below hB1) HX.out h0⟩) (by omega) H1.out)
  go_ret
  refine ⟨rfl, ⟨by simp, .inr ⟨w.heap.size, l.length, _, rfl, Nat.le_refl _, HG2.out, Nat.le_refl _, by unfold maxLen; omega, ?_, ?_⟩⟩, hB1.grown hgr2 hB1.size (fun k e => by cases e; exact Nat.le_refl _)⟩
  · have := length_splice cur 0 X (by omega)
    simp [this, hcl]
  · simp [splice, ← hcl, HX.out]
    rw [hcl, List.take_of_length_le (by simp)]

/-- Row r has, from place off on, the lines ls, whose bytes lie in blocks from B on, none of them r. -/
def LRow (W : World) (B r off : Nat) (ls : List (List UInt8)) : Prop :=
  ∀ j (hj : j < ls.length), W.frozen? ⟨r, off + j, none⟩ = false ∧ ∃ va vc, W.cell? ⟨r, off + j, none⟩ = some (.slice va ls[j].length vc) ∧ ls[j].length ≤ vc ∧ Bys W (.slice va ls[j].length vc) ls[j] ∧ ∀ k, (Value.slice va ls[j].length vc).ownBlock = some k → B ≤ k ∧ k ≠ r ∧ k < W.heap.size
theorem LRow.below {W W' : World} {B r off : Nat} {ls : List (List UInt8)} (h : LRow W B r off ls) (hB : Below W.heap.size W W') : LRow W' B r off ls := fun j hj => by
  obtain ⟨h1, va, vc, h2, h3, h4, h5⟩ := h j hj
  have hr := World.block_lt_of_cell? W _ h2
  exact ⟨(hB.frozen (p := ⟨r, off + j, none⟩) hr).trans h1, va, vc, (hB.cell (p := ⟨r, off + j, none⟩) hr).trans h2, h3, h4.below hB, fun k e => by have := h5 k e; have := hB.size; omega⟩
/-- One more line is laid into its place. -/
theorem LRow.stored {w1 : World} {B B' r k n : Nat} {ls : List (List UInt8)} {xs : List Value} (hcur : w1.ownsRow B' 40 1 (.slice (some ⟨r, 0, none⟩) n n) n xs) (hk : k < ls.length) (hn : ls.length = n) (h : LRow w1 B r 0 (ls.take k))
    (va : Option Addr) (vc : Nat) (hb : Bys w1 (.slice va ls[k].length vc) ls[k]) (hvc : ls[k].length ≤ vc) (hv : ∀ j, (Value.slice va ls[k].length vc).ownBlock = some j → B ≤ j ∧ j ≠ r ∧ j < w1.heap.size) :
    LRow (w1.setCell ⟨r, k, none⟩ (.slice va ls[k].length vc)) B r 0 (ls.take (k + 1)) ∧ ∃ xs' : List Value, (w1.setCell ⟨r, k, none⟩ (.slice va ls[k].length vc)).ownsRow B' 40 1 (.slice (some ⟨r, 0, none⟩) n n) n xs' := by
  have hxl : xs.length = n := by have := hcur.1; omega
  have hcell : w1.cell? ⟨r, k, none⟩ = some (xs[k]'(by omega)) := by
    rw [hcur.cellAt k (by omega), List.getElem?_eq_getElem]
  have hO : ∀ j, j ≠ r → (w1.setCell ⟨r, k, none⟩ (.slice va ls[k].length vc)).heap[j]? = w1.heap[j]? := fun j hj => Below.heap_setCell _ _ _ _ hj
  refine ⟨fun j hj => ?_, _, (hcur.stored k (.slice va ls[k].length vc)).1⟩
  have hj' : j < k + 1 := by simp at hj; omega
  by_cases hjk : j = k
  · subst hjk
    simp only [List.getElem_take, Nat.zero_add]
    refine ⟨by rw [World.frozen?_setCell]; exact hcur.frozenAt j, va, vc, World.cell?_setCell_same _ _ _ hcell, hvc, hb.keep fun i e _ => hO i (hv i e).2.1, fun i e => ?_⟩
    simpa [World.setCell] using hv i e
  · obtain ⟨h1, va', vc', h2, h3, h4, h5⟩ := h j (by simp; omega)
    simp only [List.getElem_take] at h1 h2 h3 h4 h5 ⊢
    refine ⟨by rw [World.frozen?_setCell]; exact h1, va', vc', by rw [World.cell?_setCell_other _ _ _ _ (by simp)]; exact h2, h3, h4.keep fun i e _ => hO i (h5 i e).2.1, fun i e => ?_⟩
    simpa [World.setCell] using h5 i e

set_option maxRecDepth 100000 in
set_option maxHeartbeats 2000000 in
theorem copiedLines_any (v : Value) (ls : List (List UInt8)) (w : World) (h : Lns w v ls) (hs : ls.length ≤ 256) (hs2 : ∀ j (hj : j < ls.length), ls[j].length ≤ 4096) :
    Calls Tryz.prog 127 #[v] w fun e w' => e = .returned (.slice (some ⟨w.heap.size, 0, none⟩) ls.length ls.length) ∧ LRow w' w.heap.size w.heap.size 0 ls ∧ w.heap.size < w'.heap.size ∧ Below w.heap.size w w' := by
  obtain ⟨i0, hi, hz0, hz1, hz2⟩ := info_parts Tryz.infoL
  have H0 := hide h
  obtain ⟨a1, c1, rfl⟩ := h.form
  have HS := hide hs2
  clear h hs2
  go_enter Tryz.func127, Tryz.ntmps127
  go_wp2_with (at_make; refine wpList_make_full _ rfl _ _ 96 rfl w.heap.size 40 i0 (.slice none 0 0) 1 Tryz.underlying96 hi hz0 hz1 _ _ _ _ ls.length rfl rfl rfl rfl (by rw [hz2]; omega) (by unfold maxLen; omega) (Nat.le_refl _) ?_; intro w1 hown1 hgrow1)
  have hB1 : Below w.heap.size w w1 := (Below.refl _ w).grown hgrow1 (Nat.le_refl _) (fun k e => by cases e)
  have HO1 := hide hown1
  clear hown1 hgrow1
  go_loopw [4, 5, 11] (fun _ _ i wr => ∃ (k : Nat) (xs : List Value), k ≤ ls.length ∧ i = .int .i64 k ∧ Hid (wr.ownsRow w.heap.size 40 1 (.slice (some ⟨w.heap.size, 0, none⟩) ls.length ls.length) ls.length xs) ∧ Hid (LRow wr w.heap.size w.heap.size 0 (ls.take k)) ∧ Below w.heap.size w wr) (fun _ _ i _ => ls.length - (intOf i).toNat)
  case atStart => exact ⟨0, _, Nat.zero_le _, rfl, HO1, fun j hj => by simp at hj, hB1⟩
  case round =>
    clear HO1 hB1
    obtain ⟨k, xs, hk, rfl, HO, HL, hB⟩ := hrel
    by_cases hlt : k < ls.length
    · obtain ⟨b, off, va, vc, rfl, hc, hby⟩ := H0.out.at k hlt
      have hbl := World.block_lt_of_cell? w _ hc
      have hc' := (hB.cell (p := ⟨b, off + k, none⟩) hbl).trans hc
      have hk1 : (0 : Int) ≤ (k : Int) := by omega
      have hk2 : (k : Int) < (ls.length : Int) := by omega
      have HBy := hide hby
      have hl4 := HS.out k hlt
      have hrw := (HO.out.lt w.heap.size rfl).2
      clear hc hby
      obtain ⟨L, hL⟩ : ∃ L, L = ls[k] := ⟨_, rfl⟩
      rw [← hL] at hc' HBy hl4
      have HLk := hide hL
      clear hL
      go_wp2_with fail
      refine (Te_copied_any _ L _ (HBy.out.below hB) (by omega)).mono ?_
      rintro e w2 ⟨rfl, hown2, hB2⟩
      have hB02 := hB.trans (hB2.mono hB.size)
      have HO2 := hide (owns_below HO.out hB2)
      have HL2 := hide (HL.out.below hB2)
      have HN := hide hown2
      have hsz := hB.size
      have hlt2 := (hown2.lt wr.heap.size rfl).2
      have hcell : ∃ u, w2.cell? ⟨w.heap.size, k, none⟩ = some u := ⟨_, by
        rw [HO2.out.cellAt k (by omega), List.getElem?_eq_getElem]
        have := HO2.out.1; omega⟩
      obtain ⟨u, hcell⟩ := hcell
      have hfr := HO2.out.frozenAt k
      clear hown2 HO HL
      go_wp2
      go_roundw
      case rel =>
        obtain ⟨r1, xs', r2⟩ := HL2.out.stored (k := k) HO2.out hlt rfl (some ⟨wr.heap.size, 0, none⟩) L.length (by rw [← HLk.out]; exact Bys.of_owns HN.out) (by rw [← HLk.out]; exact Nat.le_refl _) (fun j e => by cases e; dsimp only; omega)
        rw [← HLk.out] at r1 r2
        exact ⟨k + 1, xs', by omega, by go_num, r2, r1, hB02.setCell (p := ⟨w.heap.size, k, none⟩) (Nat.le_refl _) _⟩
      case measure => simp [intOf]; omega
    · have hke : k = ls.length := by omega
      go_wp2
      go_ret
      have := HL.out
      rw [hke, List.take_length] at this
      exact ⟨rfl, this, (HO.out.lt w.heap.size rfl).2, hB⟩
end Go.Proofs.YtkkicbhmcjbmbaaGreat

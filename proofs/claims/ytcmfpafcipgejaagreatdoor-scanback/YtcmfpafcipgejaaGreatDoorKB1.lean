/- What the proof stands on, part 1: the contracts of the program's calls that it reaches. -/
import Derived.Test.YtcmfpafcipgejaaGreatDoorRows
import Derived.WalkKit
import Derived.WalkSpells
import Derived.WalkLawsBesides
import Derived.OwnWalkIn
import Derived.RangeFuncBox
import Derived.Laws.IdiomStrings
import Derived.Maps.AppendAt
import Derived.Laws.AppendOwnNone
import Derived.Laws.OwnMore
import Derived.Deep.QuietTactic
import Derived.BigQuiet
import Derived.Lib.AppendZerosOnto
import Derived.Laws.CopyOwn
import Derived.Deep.RegionHeld3
import Derived.Deep.AppendLies
import Derived.Lib.AppendZeros
import Derived.Deep.Upon
import Derived.ProofKit
import Derived.OpenShut
import Derived.ChangeArms
import Derived.ChangeSlices
import Derived.SizedLaws
import Derived.Deep.Slices
import Derived.RangeFuncNested
import Derived.RangeFuncBound
import Derived.RangeFuncCalls
import Derived.RangeFuncLeaves
import Derived.Shelf.Abstract
import Derived.Shelf.RegionOpen
import Derived.TacticsInMore
import Derived.LoopNIn
import Derived.LoopIn
import Derived.Sort.BigQuietIn
/- What the small functions of num and of its reference answer, for every input: value, isBase. -/
namespace Go.Proofs.YtcmfpafcipgejaaGreatDoor
open Go.RowKit

def valI (c : Int) : Int := if 48 ≤ c ∧ c ≤ 57 then c - 48 else if 97 ≤ c ∧ c ≤ 102 then c - 87 else if 65 ≤ c ∧ c ≤ 70 then c - 55 else 16

theorem valI_bd (c : Int) : 0 ≤ valI c ∧ valI c ≤ 16 := by unfold valI; split <;> (try split) <;> (try split) <;> omega

theorem hide {p : Prop} (h : p) : Hid p := h
theorem ret_int {k : IntKind} {a b : Int} (h : a = b) : Ending.returned (.int k a) = .returned (.int k b) := by rw [h]
set_option maxHeartbeats 400000 in
theorem value_any (c : Int) (h0 : 0 ≤ c) (h1 : c ≤ 255) (w : World) :
    Calls Tryz.prog 151 #[.int .u8 c] w fun e w' => e = .returned (.int .u64 (valI c)) ∧ w' = w := by
  rcases (show (48 ≤ c ∧ c ≤ 57) ∨ (97 ≤ c ∧ c ≤ 102) ∨ (65 ≤ c ∧ c ≤ 70) ∨ c < 48 ∨ (57 < c ∧ c < 65) ∨ (70 < c ∧ c < 97) ∨ 102 < c by omega) with a | a | a | a | a | a | a
  · obtain ⟨a1, a2⟩ := a
    go_enter Tryz.func151, Tryz.ntmps151
    go_wp2
    go_ret
    exact ⟨ret_int (by unfold valI; rw [if_pos (by omega)]), rfl⟩
  · obtain ⟨a1, a2⟩ := a
    go_enter Tryz.func151, Tryz.ntmps151
    go_wp2
    go_ret
    exact ⟨ret_int (by unfold valI; rw [if_neg (by omega), if_pos (by omega)]; omega), rfl⟩
  · obtain ⟨a1, a2⟩ := a
    go_enter Tryz.func151, Tryz.ntmps151
    go_wp2
    go_ret
    exact ⟨ret_int (by unfold valI; rw [if_neg (by omega), if_neg (by omega), if_pos (by omega)]; omega), rfl⟩
  all_goals
    (try obtain ⟨a1, a2⟩ := a)
    go_enter Tryz.func151, Tryz.ntmps151
    go_wp2
    go_ret
    exact ⟨ret_int (by unfold valI; rw [if_neg (by omega), if_neg (by omega), if_neg (by omega)]), rfl⟩

set_option maxHeartbeats 400000 in
theorem isBase_yes (b : Int) (h1 : 2 ≤ b) (h2 : b ≤ 16) (w : World) :
    Calls Tryz.prog 150 #[.int .i64 b] w fun e w' => e = .returned (.bool true) ∧ w' = w := by
  go_enter Tryz.func150, Tryz.ntmps150
  go_wp2
  go_ret
  exact ⟨rfl, rfl⟩

set_option maxHeartbeats 400000 in
theorem isBase_no (b : Int) (h : b < 2 ∨ 16 < b) (w : World) :
    Calls Tryz.prog 150 #[.int .i64 b] w fun e w' => e = .returned (.bool false) ∧ w' = w := by
  rcases h with h | h
  · go_enter Tryz.func150, Tryz.ntmps150
    go_wp2
    go_ret
    exact ⟨rfl, rfl⟩
  · have hd : decide (b ≤ 16) = false := by simpa using h
    go_enter Tryz.func150, Tryz.ntmps150
    go_wp2
    go_ret
    exact ⟨rfl, rfl⟩
end Go.Proofs.YtcmfpafcipgejaaGreatDoor

/- Laws of walks that the library lacks: an append to a slice of the call's own at a step of a region that draws its order, inside a fence. -/
namespace Go.Proofs.YtcmfpafcipgejaaGreatDoor
open Go.RowKit

theorem stepIn_append_own {F : Fence} {n : Nat} {P : Program} (w : World) {ops : Array Oper} {o : Oper} {a : Act} {K : Act → World → Prop} {Q : Exit → Act → World → Prop} {E : Prop}
    (hg : o.guard = none) (s x : Operand) (t : TypeId) (hop : o.op = Op.call { callee := Callee.builtin Builtin.append, args := #[s, x], argTypes := #[t, t] })
    (base : Nat) (e : TypeId) (i : TypeInfo) (z : Value) (size bytes : Nat) (h1 : P.underlying t = some (.slice e)) (h2 : P.info? e = some i) (h3 : i.zero = some z) (h4 : i.size = size) (h5 : i.bytes = bytes) (h6 : z.cells.size = size) (h7 : 0 < size)
    (v : Value) (k : Nat) (xs : List Value) (hs : a.eval s = v) (hown : w.ownsRow base e size v k xs) (ad : Addr) (m c : Nat) (news : List Value) (hx : a.eval x = .slice (some ad) m c) (hn : news.length = m * size)
    (hc : ∀ j u, news[j]? = some u → w.cell? (ad.add j) = some u) (h1c : ∀ u ∈ news, u.oneCell' = true) (b1 : k + m ≤ maxLen) (b2 : (k + m) * bytes ≤ 140737488355328) (b3 : base ≤ w.heap.size)
    (hK : ∀ v' w', w'.ownsRow base e size v' (k + m) (xs ++ news) → w.grownBy w' v.ownBlock → (v' = .slice none 0 0 ↔ v = .slice none 0 0 ∧ m = 0) → K (a.put o.dst v') w') :
    if Region.wanted o (yielded ops a.tmps) = true then Oper.wpIn F n P o a w K Q else E := by
  have hw : Region.wanted o (yielded ops a.tmps) = true := by simp [Region.wanted, hg]
  rw [if_pos hw]
  obtain ⟨v', w', hrun, r1, r2, r3⟩ := run_append_own (P := P) w base t o.type e i z size bytes h1 h2 h3 h4 h5 h6 h7 v k xs hown ad m c news hn hc h1c b1 b2 b3
  unfold Oper.wpIn
  refine ⟨?_, ?_⟩
  · simp [Oper.about, hop, resolve, Target.leads, Sem.run_pure]
  · rw [Oper.semAt_plain F _ _ (by rw [hop]; intro c hc'; cases hc')]
    simp [execOp, hop, resolve, invoke, builtin, hs, hx, hrun, Result.andThen]
    exact hK v' w' r1 r2 r3

def bv (c : UInt8) : Value := .int .u8 (c.toNat : Int)

theorem Tryz.infoB : (Tryz.prog.info? 5).map (fun i => (i.zero, i.size, i.bytes)) = some (some (.int .u8 0), 1, 1) := by kernel_rfl

theorem owns_cells {W : World} {base : Nat} {g cap k : Nat} {l : List UInt8} (h : W.ownsRow base 5 1 (.slice (some ⟨g, 0, none⟩) k cap) k (l.map bv)) :
    ∀ j (hj : j < l.length), W.cell? ⟨g, j, none⟩ = some (.int .u8 (l[j].toNat : Int)) := by
  intro j hj
  rcases h.2 with ⟨h0, _⟩ | ⟨g', cap', cur, h1, _, hgb, _, _, _, ht⟩
  · cases h0
  · cases h1
    simp only [World.cell?, hgb]
    have hk : l.length = k := by simpa using h.1
    have h2 : (cur.toList.take (k * 1))[j]? = (l.map bv)[j]? := by rw [ht]
    rw [List.getElem?_take, if_pos (by omega)] at h2
    simp only [List.getElem?_map, List.getElem?_eq_getElem hj, Option.map_some] at h2
    simpa [bv] using h2

theorem owns_string {W : World} {base : Nat} {v : Value} {l : List UInt8} (h : W.ownsRow base 5 1 v l.length (l.map bv)) :
    (convert 22 9 v).run Tryz.prog W = .ok (.string ⟨l.toArray⟩) W := by
  rcases h.2 with ⟨rfl, h0⟩ | ⟨g, cap, cur, rfl, _⟩
  · have hl : l = [] := by simpa using h0
    subst hl
    exact run_convert_bytes_nil W 22 5 Tryz.underlying22 Tryz.underlying5 0 0 _ Tryz.underlying9
  · refine run_convert_bytes_back W 22 9 5 ⟨g, 0, none⟩ cap l Tryz.underlying22 Tryz.underlying5 Tryz.underlying9 fun j hj => ?_
    have hadd : (⟨g, 0, none⟩ : Addr).add j = ⟨g, j, none⟩ := by unfold Addr.add; split <;> simp_all
    rw [hadd]
    exact owns_cells h j hj
end Go.Proofs.YtcmfpafcipgejaaGreatDoor

/- What CopyBytes, SameBytes and Spoil do with any bytes. -/
namespace Go.Proofs.YtcmfpafcipgejaaGreatDoor
open Go.RowKit

def Bys (W : World) (v : Value) (l : List UInt8) : Prop :=
  (v = .slice none 0 0 ∧ l = []) ∨ (∃ a cap, v = .slice (some a) 0 cap ∧ l = []) ∨
  ∃ b off cap, v = .slice (some ⟨b, off, none⟩) l.length cap ∧ 0 < l.length ∧ ∀ j, j < l.length → W.cell? ⟨b, off + j, none⟩ = some (.int .u8 ((l.getD j 0).toNat : Int))

theorem Bys.below {W W' : World} {v : Value} {l : List UInt8} (h : Bys W v l) (hB : Below W.heap.size W W') : Bys W' v l := by
  rcases h with h | h | ⟨b, off, cap, rfl, h0, hc⟩
  · exact .inl h
  · exact .inr (.inl h)
  · refine .inr (.inr ⟨b, off, cap, rfl, h0, fun j hj => ?_⟩)
    have := World.block_lt_of_cell? W _ (hc j hj)
    exact (hB.cell (p := ⟨b, off + j, none⟩) this).trans (hc j hj)
theorem Bys.of_owns {W : World} {base : Nat} {v : Value} {l : List UInt8} (h : W.ownsRow base 5 1 v l.length (l.map bv)) : Bys W v l := by
  rcases h.2 with ⟨rfl, h0⟩ | ⟨g, cap, cur, rfl, _⟩
  · exact .inl ⟨rfl, by simpa using h0⟩
  · by_cases hl : l.length = 0
    · exact .inr (.inl ⟨_, _, by rw [hl], List.length_eq_zero_iff.1 hl⟩)
    · refine .inr (.inr ⟨g, 0, cap, rfl, by omega, fun j hj => ?_⟩)
      rw [Nat.zero_add, owns_cells h j hj, List.getD_eq_getElem?_getD, List.getElem?_eq_getElem hj]
      rfl

theorem bys_news {W : World} {b off : Nat} {l : List UInt8} (hc : ∀ j, j < l.length → W.cell? ⟨b, off + j, none⟩ = some (.int .u8 ((l.getD j 0).toNat : Int))) :
    ∀ j u, (l.map bv)[j]? = some u → W.cell? ((⟨b, off, none⟩ : Addr).add j) = some u := by
  intro j u hj
  have hjl : j < l.length := by simpa using (List.getElem?_eq_some_iff.1 hj).1
  have hadd : (⟨b, off, none⟩ : Addr).add j = ⟨b, off + j, none⟩ := by unfold Addr.add; split <;> simp_all
  rw [hadd, hc j hjl, ← hj]
  simp [List.getD_eq_getElem?_getD, List.getElem?_eq_getElem hjl, bv]
theorem bys_one (l : List UInt8) : ∀ u ∈ l.map bv, u.oneCell' = true := by
  intro u hu
  obtain ⟨c, _, rfl⟩ := List.mem_map.1 hu
  rfl
theorem bys_form {W : World} {v : Value} {l : List UInt8} (h : Bys W v l) : ∃ a1 c1, v = .slice a1 l.length c1 ∧ (0 < l.length → ∃ b off, a1 = some ⟨b, off, none⟩ ∧ ∀ j, j < l.length → W.cell? ⟨b, off + j, none⟩ = some (.int .u8 ((l.getD j 0).toNat : Int))) := by
  rcases h with ⟨rfl, rfl⟩ | ⟨a, cap, rfl, rfl⟩ | ⟨b, off, cap, rfl, h0, hc⟩
  · exact ⟨_, _, rfl, fun h => absurd h (by decide)⟩
  · exact ⟨_, _, rfl, fun h => absurd h (by decide)⟩
  · exact ⟨_, _, rfl, fun _ => ⟨b, off, rfl, hc⟩⟩

end Go.Proofs.YtcmfpafcipgejaaGreatDoor

/- Rows of bytes that a file holds: an append of zeros, at a step of a region that draws its order. -/
namespace Go.Proofs.YtcmfpafcipgejaaGreatDoor
open Go.RowKit

end Go.Proofs.YtcmfpafcipgejaaGreatDoor

/- Terminals: what stays when some blocks turn; lists of lines; appends whose block is told. -/
namespace Go.Proofs.YtcmfpafcipgejaaGreatDoor
open Go.RowKit

theorem owns_slice {W : World} {base e size n : Nat} {v : Value} {xs : List Value} (h : W.ownsRow base e size v n xs) : ∃ a c, v = .slice a n c := by
  rcases h.2 with ⟨rfl, rfl⟩ | ⟨g, cap, cur, rfl, _⟩
  · exact ⟨_, _, rfl⟩
  · exact ⟨_, _, rfl⟩
theorem size_new (w : World) (o : Obj) : w.heap.size < (w.alloc o).heap.size := by simp
theorem owns_keep {W W' : World} {base e size n : Nat} {v : Value} {xs : List Value} (h : W.ownsRow base e size v n xs) (hB : ∀ k, v.ownBlock = some k → W'.heap[k]? = W.heap[k]?) : W'.ownsRow base e size v n xs := by
  refine ⟨h.1, ?_⟩
  rcases h.2 with h1 | ⟨g, cap, cur, rfl, h2, h3, h4⟩
  · exact .inl h1
  · exact .inr ⟨g, cap, cur, rfl, h2, (hB g rfl).trans h3, h4⟩
theorem owns_below {W W' : World} {base e size n : Nat} {v : Value} {xs : List Value} (h : W.ownsRow base e size v n xs) (hB : Below W.heap.size W W') : W'.ownsRow base e size v n xs :=
  owns_keep h fun k hk => hB.block k (h.lt k hk).2
theorem owns_mono {W : World} {base base' e size n : Nat} {v : Value} {xs : List Value} (h : W.ownsRow base e size v n xs) (hb : base' ≤ base) : W.ownsRow base' e size v n xs := by
  refine ⟨h.1, ?_⟩
  rcases h.2 with h1 | ⟨g, cap, cur, h1, h2, h3⟩
  · exact .inl h1
  · exact .inr ⟨g, cap, cur, h1, Nat.le_trans hb h2, h3⟩
theorem Bys.keep {W W' : World} {v : Value} {l : List UInt8} (h : Bys W v l) (hB : ∀ k, v.ownBlock = some k → k < W.heap.size → W'.heap[k]? = W.heap[k]?) : Bys W' v l := by
  rcases h with h | h | ⟨b, off, cap, rfl, h0, hc⟩
  · exact .inl h
  · exact .inr (.inl h)
  · refine .inr (.inr ⟨b, off, cap, rfl, h0, fun j hj => ?_⟩)
    have h1 := World.block_lt_of_cell? W _ (hc j hj)
    exact (World.cell?_of_block (w := W) (hB b rfl h1)).trans (hc j hj)

structure Turned (S : Nat → Prop) (w w' : World) : Prop where
  os : w'.os = w.os
  tape : w'.tape = w.tape
  output : w'.output = w.output
  size : w.heap.size ≤ w'.heap.size
  block : ∀ k, k < w.heap.size → ¬ S k → w'.heap[k]? = w.heap[k]?
theorem Turned.refl (S : Nat → Prop) (w : World) : Turned S w w := ⟨rfl, rfl, rfl, Nat.le_refl _, fun _ _ _ => rfl⟩
theorem Turned.trans {S S' : Nat → Prop} {a b c : World} (h : Turned S a b) (h' : Turned S' b c) (hs : ∀ k, k < a.heap.size → S' k → S k) : Turned S a c :=
  ⟨h'.os.trans h.os, h'.tape.trans h.tape, h'.output.trans h.output, Nat.le_trans h.size h'.size, fun k hk hn => (h'.block k (Nat.lt_of_lt_of_le hk h.size) (fun e => hn (hs k hk e))).trans (h.block k hk hn)⟩
theorem Turned.mono {S S' : Nat → Prop} {a b : World} (h : Turned S a b) (hs : ∀ k, S k → S' k) : Turned S' a b :=
  ⟨h.os, h.tape, h.output, h.size, fun k hk hn => h.block k hk (fun e => hn (hs k e))⟩
theorem Turned.below {S : Nat → Prop} {B : Nat} {w w' : World} (h : Turned S w w') (hS : ∀ k, S k → B ≤ k) (hB : B ≤ w.heap.size) : Below B w w' :=
  ⟨h.os, h.tape, h.output, h.size, fun k hk => h.block k (Nat.lt_of_lt_of_le hk hB) (fun e => by have := hS k e; omega)⟩
theorem Turned.of_below {S : Nat → Prop} {w w' : World} (h : Below w.heap.size w w') : Turned S w w' := ⟨h.os, h.tape, h.output, h.size, fun k hk _ => h.block k hk⟩
theorem Turned.set {S : Nat → Prop} {w wr : World} {g j : Nat} {u : Value} (hT : Turned S w wr) (hg : S g ∨ w.heap.size ≤ g) : Turned S w (wr.setCell ⟨g, j, none⟩ u) := by
  refine hT.trans (S' := fun k => k = g) ⟨rfl, rfl, rfl, by simp [World.setCell], fun k hk hn => Below.heap_setCell _ _ _ _ hn⟩ (fun k hk e => by subst e; exact hg.resolve_right (by omega))
theorem Turned.grown {S : Nat → Prop} {w wr w1 : World} {vb : Option Nat} (hT : Turned S w wr) (hg : wr.grownBy w1 vb) (hv : ∀ k, vb = some k → S k ∨ w.heap.size ≤ k) : Turned S w w1 :=
  hT.trans (S' := fun k => vb = some k) ⟨hg.os, hg.tape, hg.output, hg.size, fun k hk hn => hg.block k hk (fun e => hn e.symm)⟩ (fun k hk e => (hv k e).resolve_right (by omega))
theorem owns_turned {S : Nat → Prop} {W W' : World} {base e size n : Nat} {v : Value} {xs : List Value} (h : W.ownsRow base e size v n xs) (hT : Turned S W W') (hS : ∀ k, v.ownBlock = some k → ¬ S k) : W'.ownsRow base e size v n xs :=
  owns_keep h fun k hk => hT.block k (h.lt k hk).2 (hS k hk)

theorem run_append_bytes (w : World) (ty : TypeId) (base : Nat) (s x : Value) (m l : List UInt8) (hs : w.ownsRow base 5 1 s m.length (m.map bv)) (hx : Bys w x l) (hn : m.length + l.length ≤ 140737488351232) (hb : base ≤ w.heap.size) :
    ∃ s' w', (Builtin.append_ #[22, 22] ty #[s, x]).run Tryz.prog w = .ok s' w' ∧ Hid (w'.ownsRow base 5 1 s' (m ++ l).length ((m ++ l).map bv)) ∧ w.grownBy w' s.ownBlock ∧ (s'.ownBlock = s.ownBlock ∨ s'.ownBlock = some w.heap.size) := by
  refine (?_ : ∃ s' w', (Builtin.append_ #[22, 22] ty #[s, x]).run Tryz.prog w = .ok s' w' ∧ w'.ownsRow base 5 1 s' (m ++ l).length ((m ++ l).map bv) ∧ w.grownBy w' s.ownBlock ∧ (s'.ownBlock = s.ownBlock ∨ s'.ownBlock = some w.heap.size))
  obtain ⟨i0, hi, hz0, hz1, hz2⟩ := info_parts Tryz.infoB
  rw [List.length_append, List.map_append]
  rcases hx with ⟨rfl, rfl⟩ | ⟨a, cap, rfl, rfl⟩ | ⟨b, off, cap, rfl, h0, hc⟩
  · exact ⟨s, w, run_append_owned_none (P := Tryz.prog) w base _ ty _ i0 1 Tryz.underlying22 hi s _ _ hs, by simpa using hs, ⟨rfl, rfl, rfl, Nat.le_refl _, fun _ _ _ => rfl⟩, .inl rfl⟩
  · obtain ⟨v', w', h1, h2, h3, _, h5⟩ := run_append_own_at (P := Tryz.prog) w base 22 ty 5 i0 (.int .u8 0) 1 1 Tryz.underlying22 hi hz0 hz1 hz2 rfl (by decide) s _ _ hs a 0 cap [] rfl (by simp) (by simp) (by unfold maxLen; omega) (by omega) hb
    exact ⟨v', w', h1, h2, h3, h5⟩
  · obtain ⟨v', w', h1, h2, h3, _, h5⟩ := run_append_own_at (P := Tryz.prog) w base 22 ty 5 i0 (.int .u8 0) 1 1 Tryz.underlying22 hi hz0 hz1 hz2 rfl (by decide) s _ _ hs ⟨b, off, none⟩ l.length cap (l.map bv) (by simp) (bys_news hc) (bys_one l) (by unfold maxLen; omega) (by omega) hb
    exact ⟨v', w', h1, h2, h3, h5⟩

theorem bys_block {W : World} {a : Option Addr} {n c : Nat} {l : List UInt8} (h : Bys W (.slice a n c) l) (h0 : 0 < l.length) : n = l.length ∧ ∃ b off, a = some ⟨b, off, none⟩ ∧ b < W.heap.size ∧ ∀ j, j < l.length → W.cell? ⟨b, off + j, none⟩ = some (.int .u8 ((l.getD j 0).toNat : Int)) := by
  obtain ⟨a', c', he, hc⟩ := bys_form h
  cases he
  obtain ⟨b, off, rfl, hd⟩ := hc h0
  exact ⟨rfl, b, off, rfl, World.block_lt_of_cell? W _ (hd 0 h0), hd⟩
end Go.Proofs.YtcmfpafcipgejaaGreatDoor

/- Bytes that came in as an argument: what a walk is told of them. -/
namespace Go.Proofs.YtcmfpafcipgejaaGreatDoor
open Go.ChangeShapes Go.WideShapes Go.ChangeAt Go.RowKit

end Go.Proofs.YtcmfpafcipgejaaGreatDoor

/- Bytes, and steps, that came in as an argument: what a walk is told of them. -/
namespace Go.Proofs.YtcmfpafcipgejaaGreatDoor
open Go.ChangeShapes Go.WideShapes Go.ChangeAt Go.RowKit Go.Deep

end Go.Proofs.YtcmfpafcipgejaaGreatDoor

/- Plain facts on digits: a number's digits to a base, and digits read as a number. -/
namespace Go.Proofs.YtcmfpafcipgejaaGreatDoor

def pb (b : Int) : List UInt8 → Int → Int → Int × Int × Int
  | [], n, i => (n, 0, i)
  | c :: r, n, i => if b ≤ valI c.toNat then (0, 11, i) else if (18446744073709551615 - valI c.toNat) / b < n then (0, 4, i) else pb b r (n * b + valI c.toNat) (i + 1)

def parseB (b : Int) (l : List UInt8) : Int × Int × Int :=
  if ¬ (2 ≤ b ∧ b ≤ 16) then (0, 4, 0) else if l = [] then (0, 8, 0) else pb b l 0 0

theorem pb_cons (b : Int) (c : UInt8) (r : List UInt8) (n i : Int) (h1 : ¬ b ≤ valI c.toNat) (h2 : ¬ (18446744073709551615 - valI c.toNat) / b < n) :
    pb b (c :: r) n i = pb b r (n * b + valI c.toNat) (i + 1) := by
  rw [pb, if_neg h1, if_neg h2]
theorem pb_digit (b : Int) (c : UInt8) (r : List UInt8) (n i : Int) (h1 : b ≤ valI c.toNat) : pb b (c :: r) n i = (0, 11, i) := by
  rw [pb, if_pos h1]
theorem pb_range (b : Int) (c : UInt8) (r : List UInt8) (n i : Int) (h1 : ¬ b ≤ valI c.toNat) (h2 : (18446744073709551615 - valI c.toNat) / b < n) :
    pb b (c :: r) n i = (0, 4, i) := by
  rw [pb, if_neg h1, if_pos h2]
theorem drop_at (s : ByteArray) (k : Nat) (h : k < s.size) : s.data.toList.drop k = s[k] :: s.data.toList.drop (k + 1) := by
  rw [List.drop_eq_getElem_cons (by simpa using h)]; rfl
theorem drop_end (s : ByteArray) (k : Nat) (h : s.size ≤ k) : s.data.toList.drop k = [] := by
  rw [List.drop_eq_nil_iff]; simpa using h
theorem step_fits {n b d : Int} (hb : 0 < b) (h : ¬ (18446744073709551615 - d) / b < n) : n * b + d ≤ 18446744073709551615 := by
  have h2 : n ≤ (18446744073709551615 - d) / b := by omega
  have h3 := Int.mul_le_of_le_ediv hb h2
  omega
end Go.Proofs.YtcmfpafcipgejaaGreatDoor

/- Plain facts on a number's digits to a base: which they are, how many, and that they are read back. -/
namespace Go.Proofs.YtcmfpafcipgejaaGreatDoor

def dg (b n j : Nat) : Fin 16 := Fin.ofNat 16 (n / b ^ j % b)
def dl (b n : Nat) : Nat → List (Fin 16)
  | 0 => [dg b n 0]
  | k + 1 => dg b n (k + 1) :: dl b n k
def topF (b n : Nat) : Nat → Nat → Nat
  | 0, k => k
  | f + 1, k => if n < b ^ (k + 1) then k else topF b n f (k + 1)
def top (b n : Nat) : Nat := topF b n 64 0
def sgn (d : Fin 16) : UInt8 := #[48, 49, 50, 51, 52, 53, 54, 55, 56, 57, 97, 98, 99, 100, 101, 102][d.val]
def digs (b n : Nat) : List UInt8 := (dl b n (top b n)).map sgn

theorem topF_spec (b n : Nat) (hb : 2 ≤ b) : ∀ (f k : Nat), n < b ^ (k + f) → (k = 0 ∨ b ^ k ≤ n) → n < b ^ (topF b n f k + 1) ∧ (topF b n f k = 0 ∨ b ^ topF b n f k ≤ n)
  | 0, k, h1, h2 => by
    refine ⟨?_, h2⟩
    show n < b ^ (k + 1)
    rw [Nat.add_zero] at h1
    exact Nat.lt_of_lt_of_le h1 (Nat.pow_le_pow_right (by omega) (by omega))
  | f + 1, k, h1, h2 => by
    unfold topF
    by_cases h : n < b ^ (k + 1)
    · rw [if_pos h]; exact ⟨h, h2⟩
    · rw [if_neg h]
      exact topF_spec b n hb f (k + 1) (by rw [show k + 1 + f = k + (f + 1) by omega]; exact h1) (.inr (by omega))
theorem pow64 (b : Nat) (hb : 2 ≤ b) : 18446744073709551616 ≤ b ^ 64 := by
  have := Nat.pow_le_pow_left hb 64
  exact this
theorem top_spec (b n : Nat) (hb : 2 ≤ b) (hn : n < 18446744073709551616) : n < b ^ (top b n + 1) ∧ (top b n = 0 ∨ b ^ top b n ≤ n) := by
  refine topF_spec b n hb 64 0 ?_ (.inl rfl)
  have := pow64 b hb
  rw [Nat.zero_add]
  omega
theorem top_unique (b n k : Nat) (hb : 2 ≤ b) (hn : n < 18446744073709551616) (h1 : n < b ^ (k + 1)) (h2 : k = 0 ∨ b ^ k ≤ n) : top b n = k := by
  obtain ⟨t1, t2⟩ := top_spec b n hb hn
  rcases Nat.lt_trichotomy (top b n) k with h | h | h
  · exfalso
    have := Nat.pow_le_pow_right (n := b) (by omega) (show top b n + 1 ≤ k by omega)
    rcases h2 with h2 | h2 <;> omega
  · exact h
  · exfalso
    have := Nat.pow_le_pow_right (n := b) (by omega) (show k + 1 ≤ top b n by omega)
    rcases t2 with t2 | t2 <;> omega
theorem top_lt (b n : Nat) (hb : 2 ≤ b) (hn : n < 18446744073709551616) : top b n < 64 := by
  obtain ⟨_, t2⟩ := top_spec b n hb hn
  rcases t2 with t2 | t2
  · omega
  · have h2 := pow64 b hb
    have : b ^ top b n < b ^ 64 := by omega
    exact (Nat.pow_lt_pow_iff_right (by omega)).1 this
theorem dl_length (b n : Nat) : ∀ k, (dl b n k).length = k + 1
  | 0 => rfl
  | k + 1 => by rw [dl, List.length_cons, dl_length b n k]
theorem dg_val (b n j : Nat) (hb : 2 ≤ b) (hb2 : b ≤ 16) : (dg b n j).val = n / b ^ j % b := by
  show n / b ^ j % b % 16 = _
  have := Nat.mod_lt (n / b ^ j) (show 0 < b by omega)
  exact Nat.mod_eq_of_lt (by omega)
theorem digs_length (b n : Nat) : (digs b n).length = top b n + 1 := by rw [digs, List.length_map, dl_length]
theorem mod_div (b n j : Nat) : n % b ^ (j + 1) / b ^ j = n / b ^ j % b := by
  rw [Nat.pow_succ, Nat.mod_mul_right_div_self]
theorem mod_mod_pow (b n j : Nat) : n % b ^ (j + 1) % b ^ j = n % b ^ j := by
  rw [Nat.pow_succ]; exact Nat.mod_mul_right_mod _ _ _

theorem valI_sgn (d : Fin 16) : valI ((sgn d).toNat : Int) = (d.val : Int) := by
  revert d; decide
theorem pb_dl (b n : Nat) (hb : 2 ≤ b) (hb2 : b ≤ 16) : ∀ (k m : Nat) (i : Int), m * b ^ (k + 1) + n % b ^ (k + 1) ≤ 18446744073709551615 →
    pb b ((dl b n k).map sgn) m i = (((m * b ^ (k + 1) + n % b ^ (k + 1) : Nat) : Int), 0, i + (k + 1 : Nat))
  | 0, m, i, h => by
    have hd := dg_val b n 0 hb hb2
    rw [Nat.pow_zero, Nat.div_one] at hd
    have hlt := Nat.mod_lt n (show 0 < b by omega)
    rw [Nat.zero_add, Nat.pow_one] at h ⊢
    show pb b [sgn (dg b n 0)] m i = _
    have hq : (m : Int) ≤ (18446744073709551615 - ((n % b : Nat) : Int)) / (b : Int) := by
      rw [Int.le_ediv_iff_mul_le (by omega)]
      have : ((m * b + n % b : Nat) : Int) ≤ 18446744073709551615 := by omega
      rw [Int.natCast_add, Int.natCast_mul] at this
      omega
    rw [pb_cons _ _ _ _ _ (by rw [valI_sgn, hd]; omega) (by rw [valI_sgn, hd]; omega), pb, valI_sgn, hd]
    simp
  | k + 1, m, i, h => by
    have hd := dg_val b n (k + 1) hb hb2
    have hlt := Nat.mod_lt (n / b ^ (k + 1)) (show 0 < b by omega)
    have hpos : 0 < b ^ (k + 1) := Nat.pow_pos (by omega)
    have e1 : n % b ^ (k + 1 + 1) = n / b ^ (k + 1) % b * b ^ (k + 1) + n % b ^ (k + 1) := by
      rw [Nat.pow_succ b (k + 1), Nat.mod_mul, Nat.add_comm, Nat.mul_comm]
    have e2 : m * b ^ (k + 1 + 1) = m * b * b ^ (k + 1) := by rw [Nat.pow_succ b (k + 1), Nat.mul_assoc, Nat.mul_comm b]
    have e3 : (m * b + n / b ^ (k + 1) % b) * b ^ (k + 1) + n % b ^ (k + 1) = m * b ^ (k + 1 + 1) + n % b ^ (k + 1 + 1) := by
      rw [e1, e2, Nat.add_mul, Nat.add_assoc]
    have h' : (m * b + n / b ^ (k + 1) % b) * b ^ (k + 1) + n % b ^ (k + 1) ≤ 18446744073709551615 := by rw [e3]; exact h
    have h4 : m * b + n / b ^ (k + 1) % b ≤ 18446744073709551615 := by
      exact Nat.le_trans (Nat.le_mul_of_pos_right (m * b + n / b ^ (k + 1) % b) hpos) (Nat.le_trans (Nat.le_add_right _ _) h')
    have hq : (m : Int) ≤ (18446744073709551615 - ((n / b ^ (k + 1) % b : Nat) : Int)) / (b : Int) := by
      rw [Int.le_ediv_iff_mul_le (by omega)]
      have : ((m * b + n / b ^ (k + 1) % b : Nat) : Int) ≤ 18446744073709551615 := by omega
      rw [Int.natCast_add, Int.natCast_mul] at this
      omega
    show pb b (sgn (dg b n (k + 1)) :: (dl b n k).map sgn) m i = _
    rw [pb_cons _ _ _ _ _ (by rw [valI_sgn, hd]; omega) (by rw [valI_sgn, hd]; omega), valI_sgn, hd]
    have := pb_dl b n hb hb2 k (m * b + n / b ^ (k + 1) % b) (i + 1) h'
    rw [Int.natCast_add, Int.natCast_mul] at this
    rw [this, e3]
    refine Prod.ext rfl (Prod.ext rfl ?_)
    show i + 1 + ((k + 1 : Nat) : Int) = i + ((k + 1 + 1 : Nat) : Int)
    omega
theorem digs_ne (b n : Nat) : digs b n ≠ [] := by
  intro h
  have := digs_length b n
  rw [h] at this
  simp at this
theorem parseB_digs (b n : Nat) (hb : 2 ≤ b) (hb2 : b ≤ 16) (hn : n < 18446744073709551616) : parseB b (digs b n) = ((n : Int), 0, ((digs b n).length : Int)) := by
  obtain ⟨t1, _⟩ := top_spec b n hb hn
  rw [parseB, if_neg (by omega), if_neg (digs_ne b n)]
  have := pb_dl b n hb hb2 (top b n) 0 0 (by rw [Nat.mod_eq_of_lt t1]; omega)
  rw [Nat.mod_eq_of_lt t1, Nat.zero_mul, Nat.zero_add] at this
  rw [digs_length]
  simpa [digs] using this
end Go.Proofs.YtcmfpafcipgejaaGreatDoor

/- What num.digits hands out, for every loop body: a number's digits, the highest first. -/
namespace Go.Proofs.YtcmfpafcipgejaaGreatDoor
open Go.RowKit Go.Shelf

attribute [local go_sem] Oper.semAt_some

theorem le_of_div {b U n : Nat} (hU : 0 < U) (h : (b : Int) ≤ (n : Int) / (U : Int)) : b * U ≤ n := by
  have h1 : (b : Int) * (U : Int) ≤ n := by rwa [Int.le_ediv_iff_mul_le (by omega)] at h
  have : ((b * U : Nat) : Int) ≤ n := by rw [Int.natCast_mul]; exact h1
  omega
theorem lt_of_div {b U n : Nat} (hU : 0 < U) (h : (n : Int) / (U : Int) < (b : Int)) : n < b * U := by
  have h1 : (n : Int) < (b : Int) * (U : Int) := by rwa [Int.ediv_lt_iff_lt_mul (by omega)] at h
  have : (n : Int) < ((b * U : Nat) : Int) := by rw [Int.natCast_mul]; exact h1
  omega

theorem pow_div (b i : Nat) (hb : 2 ≤ b) : b ^ i / b = if i = 0 then 0 else b ^ (i - 1) := by
  cases i with
  | zero => simp; omega
  | succ k => simp [Nat.pow_succ]; exact Nat.mul_div_cancel _ (by omega)

set_option maxRecDepth 100000 in
set_option maxHeartbeats 1000000 in
theorem digits1_in (f : Nat) (hn : 1 ≤ f) (l Bn Bb : Nat) (n b : Nat) (hb : 2 ≤ b) (hb2 : b ≤ 16) (hlt : n < 18446744073709551616) (J Jx : List (Fin 16) → World → Prop)
    (hJd : ∀ pre W q, J pre W → J pre (World.drewN W q))
    (hY : ∀ pre x W, J pre W → pre.length < top b n + 1 → YieldAt Fence.wide (f - 1) Tryz.prog l #[.int .u64 ((x : Fin 16).val : Int)] W fun e W' =>
      (e = .returned (.bool true) ∧ J (pre ++ [x]) W' ∧ W'.cell? ⟨Bb, 0, none⟩ = W.cell? ⟨Bb, 0, none⟩) ∨ (e = .returned (.bool false) ∧ Jx (pre ++ [x]) W'))
    (W : World) (hcn : W.cell? ⟨Bn, 0, none⟩ = some (.int .u64 (n : Int))) (hcb : W.cell? ⟨Bb, 0, none⟩ = some (.int .u64 (b : Int))) (h0 : J [] W) :
    CallsIn Fence.wide f Tryz.prog 171 #[.func (.yield l) #[] #[], .pointer (some ⟨Bn, 0, none⟩), .pointer (some ⟨Bb, 0, none⟩)] W fun e W' => (∃ v, e = .returned v) ∧
      ((∃ ys, ys = dl b n (top b n) ∧ J ys W') ∨ (∃ pre, pre <+: dl b n (top b n) ∧ Jx pre W')) := by
  refine callsIn_of_wp Tryz.func171 rfl trivial ?_ rfl
  simp only [Tryz.ntmps171, List.size_toArray, List.length_cons, List.length_nil, Nat.reduceAdd, Nat.reduceSub, Array.replicate_succ, Array.replicate_zero, List.push_toArray, List.append_toArray, List.nil_append, List.cons_append]
  gi_wp2
  gi_loopw [4] (fun u wr => ∃ j : Nat, u = .int .u64 ((b ^ j : Nat) : Int) ∧ b ^ j < 18446744073709551616 ∧ (j = 0 ∨ b ^ j ≤ n) ∧ J [] wr ∧ wr.cell? ⟨Bn, 0, none⟩ = some (.int .u64 (n : Int)) ∧ wr.cell? ⟨Bb, 0, none⟩ = some (.int .u64 (b : Int)))
    (fun u _ => 18446744073709551616 - (intOf u).toNat)
  case atStart => exact ⟨0, by simp, by simp, .inl rfl, h0, hcn, hcb⟩
  case round =>
    clear hcn hcb
    obtain ⟨j, rfl, hj1, hj2, hJ0, hcn1, hcb1⟩ := hrel
    have hp : 0 < b ^ j := Nat.pow_pos (by omega)
    generalize hU : b ^ j = U at *
    have HU := hide hU
    clear hU
    have hU0 : ¬ U = 0 := by omega
    have hq1 : (0 : Int) ≤ (n : Int) / (U : Int) := Int.ediv_nonneg (by omega) (by omega)
    have hq2 : (n : Int) / (U : Int) ≤ n := Int.ediv_le_self _ (by omega)
    have hw : IntKind.u64.wrap ((n : Int) / (U : Int)) = (n : Int) / (U : Int) := IntWalk.u64_in _ ⟨by omega, by omega⟩
    by_cases ht : (b : Int) ≤ (n : Int) / (U : Int)
    · gi_wp2
      gi_big_quiet_th (fail)
      gi_wp2
      have hm : b * U ≤ n := le_of_div (by omega) ht
      go_roundw
      case rel =>
        refine ⟨j + 1, ?_, ?_, .inr ?_, hJd _ _ _ hJ0, hcn1, hcb1⟩
        · rw [IntWalk.u64_in _ ⟨Int.mul_nonneg (by omega) (by omega), ?_⟩, Nat.pow_succ, HU.out]
          · simp
          · have : ((b * U : Nat) : Int) ≤ n := by omega
            rw [Int.natCast_mul, Int.mul_comm] at this; omega
        · rw [Nat.pow_succ, HU.out, Nat.mul_comm]; omega
        · rw [Nat.pow_succ, HU.out, Nat.mul_comm]; exact hm
      case measure =>
        have e : IntKind.u64.wrap ((U : Int) * (b : Int)) = ((b * U : Nat) : Int) := by
          rw [IntWalk.u64_in _ ⟨Int.mul_nonneg (by omega) (by omega), ?_⟩, Int.natCast_mul, Int.mul_comm]
          have : ((b * U : Nat) : Int) ≤ n := by omega
          rw [Int.natCast_mul, Int.mul_comm] at this; omega
        rw [e]
        simp only [intOf, Int.toNat_natCast]
        have : 2 * U ≤ b * U := Nat.mul_le_mul_right U hb
        omega
    · gi_wp2
      gi_big_quiet_th (fail)
      gi_wp2
      have hm : n < b * U := lt_of_div (by omega) (by omega)
      have ht' : top b n = j := top_unique b n j hb hlt (by rw [Nat.pow_succ, HU.out, Nat.mul_comm]; exact hm) (by rw [HU.out]; exact hj2)
      have HT := hide ht'
      have HN : Hid (n % b ^ (j + 1) = n) := Nat.mod_eq_of_lt (by rw [Nat.pow_succ, HU.out, Nat.mul_comm]; exact hm)
      clear ht' hq1 hq2 hw ht hm hj1 hj2 hp hU0
      gi_loopw [4, 5] (fun u r wr => ∃ pre, J pre wr ∧ wr.cell? ⟨Bb, 0, none⟩ = some (.int .u64 (b : Int)) ∧ ((∃ i : Nat, u = .int .u64 ((b ^ i : Nat) : Int) ∧ i ≤ top b n ∧ r = .int .u64 ((n % b ^ (i + 1) : Nat) : Int) ∧ pre ++ dl b n i = dl b n (top b n)) ∨ (u = .int .u64 0 ∧ pre = dl b n (top b n))))
        (fun u _ _ => (intOf u).toNat)
      case atStart => exact ⟨[], hJd _ _ _ hJ0, hcb1, .inl ⟨j, by rw [HU.out], by rw [HT.out]; exact Nat.le_refl _, by rw [HN.out], by rw [HT.out]; rfl⟩⟩
      case round =>
        obtain ⟨pre, hJp, hcb2, hc⟩ := hrel
        clear hJ0 hcn1 hcb1 HU HT HN
        rcases hc with ⟨i, rfl, hi, rfl, hpre⟩ | ⟨rfl, hpre⟩
        · have HP := hide hpre
          have hlen : pre.length < top b n + 1 := by
            have := congrArg List.length hpre
            rw [List.length_append, dl_length, dl_length] at this
            omega
          have hp : 0 < b ^ i := Nat.pow_pos (by omega)
          have hle : b ^ i ≤ 18446744073709551615 := by
            obtain ⟨_, t2⟩ := top_spec b n hb hlt
            have := Nat.pow_le_pow_right (n := b) (by omega) hi
            rcases t2 with t2 | t2
            · rw [t2] at this; simp at this; omega
            · omega
          have hq0 : n % b ^ (i + 1) / b ^ i = (dg b n i).val := by rw [dg_val b n i hb hb2, mod_div]
          have hr0 := mod_mod_pow b n i
          have hrl : n % b ^ (i + 1) ≤ n := Nat.mod_le _ _
          have hd0 : (b ^ i / b = if i = 0 then 0 else b ^ (i - 1)) := pow_div b i hb
          obtain ⟨fn, tmps, assign, body, hy, hR⟩ := hY pre (dg b n i) _ hJp hlen
          have HQ : Hid (∃ x, x = dg b n i) := ⟨_, rfl⟩
          clear hpre
          generalize hU : b ^ i = U at *
          generalize hRr : n % b ^ (i + 1) = R at *
          generalize hX : dg b n i = X at *
          have hq : (R : Int) / (U : Int) = ((X : Fin 16).val : Int) := by omega
          have HA := hide hU
          have HB := hide hRr
          have HC := hide hX
          have HD := hide hr0
          have HE := hide hd0
          have hXb : ((X.val : Nat) : Int) ≤ 15 := by have := X.isLt; omega
          have hU0 : ¬ U = 0 := by omega
          clear hU hRr hX hr0 hd0 hq0 HQ hY
          gi_wp2
          refine hR.mono ?_
          rintro e W3 (⟨rfl, hJ3, hk3⟩ | ⟨rfl, hJx3⟩)
          · have hcb3 := hk3.trans hcb2
            have hb0 : ¬ b = 0 := by omega
            gi_wp2
            have hUb : IntKind.u64.wrap ((U : Int) / (b : Int)) = ((U / b : Nat) : Int) := by
              rw [← Int.natCast_ediv]
              have := Nat.div_le_self U b
              exact IntWalk.u64_in _ ⟨Int.natCast_nonneg _, by omega⟩
            go_roundw
            case rel =>
              refine ⟨pre ++ [X], hJ3, hcb3, ?_⟩
              rw [hUb, HE.out]
              cases i with
              | zero => exact .inr ⟨rfl, by rw [← HP.out, ← HC.out]; rfl⟩
              | succ k => exact .inl ⟨k, rfl, by omega, by rw [← Int.natCast_emod, HD.out, HA.out], by rw [← HP.out, ← HC.out, List.append_assoc]; rfl⟩
            case measure =>
              rw [hUb]
              simp only [intOf, Int.toNat_natCast]
              exact Nat.div_lt_self (by omega) (by omega)
          · gi_wp2
            refine bodyPost_ret (results_none rfl _ _ _) rfl ?_
            refine ⟨⟨_, rfl⟩, .inr ⟨pre ++ [X], ?_, hJx3⟩⟩
            rw [← HP.out, ← HC.out]
            cases i with
            | zero => exact List.prefix_refl _
            | succ k => exact ⟨dl b n k, by rw [List.append_assoc]; rfl⟩
        · gi_wp2
          go_end0
          exact ⟨⟨_, rfl⟩, .inl ⟨_, hpre, hJp⟩⟩

set_option maxHeartbeats 1000000 in
theorem digits_in (f : Nat) (n b : Int) (w : World) :
    CallsIn Fence.wide f Tryz.prog 153 #[.int .u64 n, .int .u64 b] w fun e w' => e = .returned (.func (.func 171) #[] #[.pointer (some ⟨w.heap.size, 0, none⟩), .pointer (some ⟨w.heap.size + 1, 0, none⟩)]) ∧ w' = (w.alloc (.cells #[.int .u64 n] 39)).alloc (.cells #[.int .u64 b] 39) := by
  refine callsIn_of_wp Tryz.func153 rfl trivial ?_ rfl
  simp only [Tryz.ntmps153, List.size_toArray, List.length_cons, List.length_nil, Nat.reduceAdd, Nat.reduceSub, Array.replicate_succ, Array.replicate_zero, List.push_toArray, List.append_toArray, List.nil_append, List.cons_append]
  gi_wp2
  go_ret
  exact ⟨rfl, rfl⟩

theorem grownBy_drewN (W : World) (q : Nat) : W.grownBy (W.drewN q) none := ⟨rfl, rfl, rfl, Nat.le_refl _, fun _ _ _ => rfl⟩

theorem digits_stops (f : Nat) (hn : 1 ≤ f) (Bn Bb : Nat) (n b : Nat) (hb : 2 ≤ b) (hb2 : b ≤ 16) (hlt : n < 18446744073709551616) (w : World) (hBn : Bn < w.heap.size) (hBb : Bb < w.heap.size)
    (hcn : w.cell? ⟨Bn, 0, none⟩ = some (.int .u64 (n : Int))) (hcb : w.cell? ⟨Bb, 0, none⟩ = some (.int .u64 (b : Int))) :
    SeqStopsK Fence.wide f Tryz.prog 171 #[.pointer (some ⟨Bn, 0, none⟩), .pointer (some ⟨Bb, 0, none⟩)] (fun x : Fin 16 => #[Value.int .u64 (x.val : Int)]) (fun W W' => W'.cell? ⟨Bb, 0, none⟩ = W.cell? ⟨Bb, 0, none⟩) (fun ys => ys = dl b n (top b n)) (fun pre => pre <+: dl b n (top b n)) (top b n + 1) w := fun l J Jx W hW hJ _ hY h0 =>
  digits1_in f hn l Bn Bb n b hb hb2 hlt J Jx (fun pre W1 q h => hJ pre W1 _ none h (grownBy_drewN W1 q) (fun _ e => by cases e)) hY W ((hW.cell (p := ⟨Bn, 0, none⟩) hBn).trans hcn) ((hW.cell (p := ⟨Bb, 0, none⟩) hBb).trans hcb) h0
end Go.Proofs.YtcmfpafcipgejaaGreatDoor

/- What num.written answers, for every number and base: its digits, in memory of its own. -/
namespace Go.Proofs.YtcmfpafcipgejaaGreatDoor
open Go.RowKit Go.Shelf

attribute [local go_sem] Oper.semAt_some

theorem cell_putObj_other {W : World} {l : Nat} {o' : Obj} {b off : Nat} (h : b ≠ l) : (W.putObj l o').cell? ⟨b, off, none⟩ = W.cell? ⟨b, off, none⟩ := by
  simp only [World.cell?]
  rw [World.putObj_heap_other h]


set_option maxRecDepth 100000 in
set_option maxHeartbeats 2000000 in
theorem written_in (f : Nat) (hn : 3 ≤ f) (n b : Nat) (hb : 2 ≤ b) (hb2 : b ≤ 16) (hlt : n < 18446744073709551616) (w : World) :
    CallsIn Fence.wide f Tryz.prog 112 #[.int .u64 (n : Int), .int .u64 (b : Int)] w fun e W' => e = .returned (.string ⟨(digs b n).toArray⟩) ∧ Below w.heap.size w W' := by
  have h1 : 1 ≤ f := by omega
  obtain ⟨i0, hi, hz0, hz1, hz2⟩ := info_parts Tryz.infoB
  have htop := top_lt b n hb hlt
  refine callsIn_of_wp_marks Tryz.func112 rfl trivial ?_ rfl
  simp only [Tryz.ntmps112, List.size_toArray, List.length_cons, List.length_nil, Nat.reduceAdd, Nat.reduceSub, Array.replicate_succ, Array.replicate_zero, List.push_toArray, List.append_toArray, List.nil_append, List.cons_append]
  have hmx : Tryz.prog.follows .mixedOrders = true := by kernel_rfl
  gi_wp2_with (refine ⟨trivial, ?_⟩; gi_at_call 153; refine (digits_in (f - 1) _ _ _).mono ?_; rintro e w' ⟨rfl, rfl⟩)
  have bO := Boxed.new w 22 (.slice none 0 0)
  have bN := Boxed.new (w.alloc (.cells #[.slice none 0 0] 22)) 39 (.int .u64 (n : Int))
  have bB := Boxed.new ((w.alloc (.cells #[.slice none 0 0] 22)).alloc (.cells #[.int .u64 (n : Int)] 39)) 39 (.int .u64 (b : Int))
  simp only [World.size_alloc] at bN bB
  have bN2 := bN.alloc (.cells #[.int .u64 (b : Int)] 39)
  have hB0 : Below w.heap.size w (((w.alloc (.cells #[.slice none 0 0] 22)).alloc (.cells #[.int .u64 (n : Int)] 39)).alloc (.cells #[.int .u64 (b : Int)] 39)) := (((Below.refl _ w).alloc (Nat.le_refl _) _).alloc (by simp) _).alloc (by simp; omega) _
  have hsz : (((w.alloc (.cells #[.slice none 0 0] 22)).alloc (.cells #[.int .u64 (n : Int)] 39)).alloc (.cells #[.int .u64 (b : Int)] 39)).heap.size = w.heap.size + 3 := by simp
  refine wpIn_rangeFunc_ownG rfl h1 (gf := 171) (lb := #[.pointer (some ⟨w.heap.size + 1, 0, none⟩), .pointer (some ⟨w.heap.size + 2, 0, none⟩)]) rfl trivial (enters_of Tryz.func171 (by kernel_rfl) rfl)
    (digits_stops (f - 1) (by omega) (w.heap.size + 1) (w.heap.size + 2) n b hb hb2 hlt _ (by rw [hsz]; omega) (by rw [hsz]; omega) bN2.cell bB.cell) (fun h1 h2 => h2.trans h1) (fun W l o o' hl _ _ _ => cell_putObj_other (by rw [hsz] at hl; omega)) (Below.refl _ _) (fun _ => rfl)
    (fun (pre : List (Fin 16)) W => ((∃ v, Boxed W w.heap.size 22 v ∧ W.ownsRow w.heap.size 5 1 v (pre.map sgn).length ((pre.map sgn).map bv) ∧ True) ∧ Boxed W (w.heap.size + 2) 39 (.int .u64 (b : Int))) ∧ Below w.heap.size w W)
    (fun _ _ _ => False)
    (OwnFrom.and (OwnFrom.and (Own.from (holdsRow_own w.heap.size w.heap.size 22 5 1 (fun pre : List (Fin 16) => (pre.map sgn).length) (fun pre => (pre.map sgn).map bv) (fun _ _ => True)) _) (Own.from (boxed_own _ _ _) _)) (ownFrom_below (Nat.le_refl _) (by rw [hsz]; omega)))
    (fun _ _ _ _ _ hs _ _ => hs)
    ⟨⟨⟨_, (bO.alloc _).alloc _, World.ownsRow_nil _ _ _ _, trivial⟩, bB⟩, hB0⟩
    (fun x => { tmps := #[.int .u64 (n : Int), .int .u64 (b : Int), undef, undef, .string ⟨#[]⟩, .pointer (some ⟨w.heap.size, 0, none⟩), .int .u64 (x.val : Int), .int .u64 (n : Int), .int .u64 (b : Int), .func (.func 171) #[] #[.pointer (some ⟨w.heap.size + 1, 0, none⟩), .pointer (some ⟨w.heap.size + 2, 0, none⟩)], .int .u64 (x.val : Int), undef, undef, undef, undef, undef, undef, undef], defers := [] }) ?assign ?body ?done ?stop
  case assign =>
    intro l x W K hK
    gi_wp2
    exact hK
  case body =>
    rintro l pre x W ⟨⟨⟨v, hv, hrow, -⟩, hbb⟩, hB⟩ hlt'
    have hc := hv.cell
    have hcA := fun o => (hv.alloc o).cell
    have hpl : (pre.map sgn).length = pre.length := List.length_map _
    have HX : Hid ((⟨#[48, 49, 50, 51, 52, 53, 54, 55, 56, 57, 97, 98, 99, 100, 101, 102]⟩ : ByteArray)[x.val] = sgn x) := rfl
    have hx1 : ((x.val : Nat) : Int) < 16 := by have := x.isLt; omega
    gi_wp2
    refine wpIn_region_any hmx ?_
    change wpAnyIn _ _ _ _ _ _ _ _ _ (World.drew _)
    have hpre : pre.length ≤ 64 := by omega
    refine wpAnyIn_ready (rs := [0, 1]) (by kernel_rfl) (by simp) (AllReadyIn.cons rfl (fun K hK => ?_) (AllReadyIn.cons rfl (fun K hK => ?_) AllReadyIn.nil))
    · go_simp; refine hK _ _ ?_; clear hK K
      refine wpAnyIn_ready (rs := [1]) (by kernel_rfl) (by simp) (AllReadyIn.cons rfl (fun K hK => ?_) AllReadyIn.nil); go_simp; refine hK _ _ ?_; clear hK K
      refine wpAnyIn_ready (rs := [2]) (by kernel_rfl) (by simp) (AllReadyIn.cons rfl (fun K hK => ?_) AllReadyIn.nil); go_simp; refine hK _ _ ?_; clear hK K
      refine wpAnyIn_ready (rs := [3]) (by kernel_rfl) (by simp) (AllReadyIn.cons rfl (fun K hK => ?_) AllReadyIn.nil); go_simp; refine hK _ _ ?_; clear hK K
      refine wpAnyIn_ready (rs := [4]) (by kernel_rfl) (by simp) (AllReadyIn.cons rfl (fun K hK => ?_) AllReadyIn.nil)
      refine stepIn_append_own _ (by rfl) _ _ 22 (by rfl) w.heap.size 5 i0 (.int .u8 0) 1 1 Tryz.underlying22 hi hz0 hz1 hz2 rfl (by decide) _ _ _ (by rfl) ((hrow.alloc _).drew) ⟨W.heap.size, 0, none⟩ 1 1 [bv (sgn x)] (by rfl) rfl (by exact cell_one_new W (bv (sgn x)) 5) (by simp [bv, Value.oneCell']) (by unfold maxLen; omega) (by omega) (by have := hB.size; simp; omega) ?_
      intro v' w1 hown' hgrow _
      obtain ⟨g', cap', rfl⟩ := ownsRow_succ hown'
      have hgrow' : (W.alloc (.cells #[bv (sgn x)] 5)).grownBy w1 v.ownBlock := ⟨hgrow.os, hgrow.tape, hgrow.output, hgrow.size, hgrow.block⟩
      obtain ⟨hv1, hv2, hr2, hk2, hb2⟩ := hv.appended (by decide) hrow hB.size (Nat.le_refl _) hown' hgrow'
      have hbb1 := ((hbb.alloc _).kept hgrow' (hbb.not_row (by decide) hrow)).other (B' := w.heap.size) (by omega) (.slice (some ⟨g', 0, none⟩) ((pre.map sgn).length + 1) cap')
      have hc1 := hv1.cell
      have hf1 := hv1.frozen
      refine hK _ _ ?_
      clear hK K
      refine wpAnyIn_ready (rs := [5]) (by kernel_rfl) (by simp) (AllReadyIn.cons rfl (fun K hK => ?_) AllReadyIn.nil)
      go_simp
      refine hK _ _ ?_
      clear hK K
      refine wpAnyIn_done (by kernel_rfl) ?_ _
      rw [hpl] at hv2 hbb1 hb2 hk2 hr2
      exact ⟨hk2.from _, hbb1.cell.trans hbb.cell.symm, ⟨⟨_, hv2, by simpa using hr2, trivial⟩, hbb1⟩, hB.trans hb2⟩
    · go_simp; refine hK _ _ ?_; clear hK K
      refine wpAnyIn_ready (rs := [0, 2]) (by kernel_rfl) (by simp) (AllReadyIn.cons rfl (fun K hK => ?_) (AllReadyIn.cons rfl (fun K hK => ?_) AllReadyIn.nil))
      · go_simp; refine hK _ _ ?_; clear hK K
        refine wpAnyIn_ready (rs := [2]) (by kernel_rfl) (by simp) (AllReadyIn.cons rfl (fun K hK => ?_) AllReadyIn.nil); go_simp; refine hK _ _ ?_; clear hK K
        refine wpAnyIn_ready (rs := [3]) (by kernel_rfl) (by simp) (AllReadyIn.cons rfl (fun K hK => ?_) AllReadyIn.nil); go_simp; refine hK _ _ ?_; clear hK K
        refine wpAnyIn_ready (rs := [4]) (by kernel_rfl) (by simp) (AllReadyIn.cons rfl (fun K hK => ?_) AllReadyIn.nil)
        refine stepIn_append_own _ (by rfl) _ _ 22 (by rfl) w.heap.size 5 i0 (.int .u8 0) 1 1 Tryz.underlying22 hi hz0 hz1 hz2 rfl (by decide) _ _ _ (by rfl) ((hrow.alloc _).drew) ⟨W.heap.size, 0, none⟩ 1 1 [bv (sgn x)] (by rfl) rfl (by exact cell_one_new W (bv (sgn x)) 5) (by simp [bv, Value.oneCell']) (by unfold maxLen; omega) (by omega) (by have := hB.size; simp; omega) ?_
        intro v' w1 hown' hgrow _
        obtain ⟨g', cap', rfl⟩ := ownsRow_succ hown'
        have hgrow' : (W.alloc (.cells #[bv (sgn x)] 5)).grownBy w1 v.ownBlock := ⟨hgrow.os, hgrow.tape, hgrow.output, hgrow.size, hgrow.block⟩
        obtain ⟨hv1, hv2, hr2, hk2, hb2⟩ := hv.appended (by decide) hrow hB.size (Nat.le_refl _) hown' hgrow'
        have hbb1 := ((hbb.alloc _).kept hgrow' (hbb.not_row (by decide) hrow)).other (B' := w.heap.size) (by omega) (.slice (some ⟨g', 0, none⟩) ((pre.map sgn).length + 1) cap')
        have hc1 := hv1.cell
        have hf1 := hv1.frozen
        refine hK _ _ ?_
        clear hK K
        refine wpAnyIn_ready (rs := [5]) (by kernel_rfl) (by simp) (AllReadyIn.cons rfl (fun K hK => ?_) AllReadyIn.nil)
        go_simp
        refine hK _ _ ?_
        clear hK K
        refine wpAnyIn_done (by kernel_rfl) ?_ _
        rw [hpl] at hv2 hbb1 hb2 hk2 hr2
        exact ⟨hk2.from _, hbb1.cell.trans hbb.cell.symm, ⟨⟨_, hv2, by simpa using hr2, trivial⟩, hbb1⟩, hB.trans hb2⟩
      · go_simp; refine hK _ _ ?_; clear hK K
        refine wpAnyIn_ready (rs := [0, 3]) (by kernel_rfl) (by simp) (AllReadyIn.cons rfl (fun K hK => ?_) (AllReadyIn.cons rfl (fun K hK => ?_) AllReadyIn.nil))
        · go_simp; refine hK _ _ ?_; clear hK K
          refine wpAnyIn_ready (rs := [3]) (by kernel_rfl) (by simp) (AllReadyIn.cons rfl (fun K hK => ?_) AllReadyIn.nil); go_simp; refine hK _ _ ?_; clear hK K
          refine wpAnyIn_ready (rs := [4]) (by kernel_rfl) (by simp) (AllReadyIn.cons rfl (fun K hK => ?_) AllReadyIn.nil)
          refine stepIn_append_own _ (by rfl) _ _ 22 (by rfl) w.heap.size 5 i0 (.int .u8 0) 1 1 Tryz.underlying22 hi hz0 hz1 hz2 rfl (by decide) _ _ _ (by rfl) ((hrow.alloc _).drew) ⟨W.heap.size, 0, none⟩ 1 1 [bv (sgn x)] (by rfl) rfl (by exact cell_one_new W (bv (sgn x)) 5) (by simp [bv, Value.oneCell']) (by unfold maxLen; omega) (by omega) (by have := hB.size; simp; omega) ?_
          intro v' w1 hown' hgrow _
          obtain ⟨g', cap', rfl⟩ := ownsRow_succ hown'
          have hgrow' : (W.alloc (.cells #[bv (sgn x)] 5)).grownBy w1 v.ownBlock := ⟨hgrow.os, hgrow.tape, hgrow.output, hgrow.size, hgrow.block⟩
          obtain ⟨hv1, hv2, hr2, hk2, hb2⟩ := hv.appended (by decide) hrow hB.size (Nat.le_refl _) hown' hgrow'
          have hbb1 := ((hbb.alloc _).kept hgrow' (hbb.not_row (by decide) hrow)).other (B' := w.heap.size) (by omega) (.slice (some ⟨g', 0, none⟩) ((pre.map sgn).length + 1) cap')
          have hc1 := hv1.cell
          have hf1 := hv1.frozen
          refine hK _ _ ?_
          clear hK K
          refine wpAnyIn_ready (rs := [5]) (by kernel_rfl) (by simp) (AllReadyIn.cons rfl (fun K hK => ?_) AllReadyIn.nil)
          go_simp
          refine hK _ _ ?_
          clear hK K
          refine wpAnyIn_done (by kernel_rfl) ?_ _
          rw [hpl] at hv2 hbb1 hb2 hk2 hr2
          exact ⟨hk2.from _, hbb1.cell.trans hbb.cell.symm, ⟨⟨_, hv2, by simpa using hr2, trivial⟩, hbb1⟩, hB.trans hb2⟩
        · go_simp; refine hK _ _ ?_; clear hK K
          refine wpAnyIn_ready (rs := [0]) (by kernel_rfl) (by simp) (AllReadyIn.cons rfl (fun K hK => ?_) AllReadyIn.nil); go_simp; refine hK _ _ ?_; clear hK K
          refine wpAnyIn_ready (rs := [4]) (by kernel_rfl) (by simp) (AllReadyIn.cons rfl (fun K hK => ?_) AllReadyIn.nil)
          refine stepIn_append_own _ (by rfl) _ _ 22 (by rfl) w.heap.size 5 i0 (.int .u8 0) 1 1 Tryz.underlying22 hi hz0 hz1 hz2 rfl (by decide) _ _ _ (by rfl) ((hrow.alloc _).drew) ⟨W.heap.size, 0, none⟩ 1 1 [bv (sgn x)] (by rfl) rfl (by exact cell_one_new W (bv (sgn x)) 5) (by simp [bv, Value.oneCell']) (by unfold maxLen; omega) (by omega) (by have := hB.size; simp; omega) ?_
          intro v' w1 hown' hgrow _
          obtain ⟨g', cap', rfl⟩ := ownsRow_succ hown'
          have hgrow' : (W.alloc (.cells #[bv (sgn x)] 5)).grownBy w1 v.ownBlock := ⟨hgrow.os, hgrow.tape, hgrow.output, hgrow.size, hgrow.block⟩
          obtain ⟨hv1, hv2, hr2, hk2, hb2⟩ := hv.appended (by decide) hrow hB.size (Nat.le_refl _) hown' hgrow'
          have hbb1 := ((hbb.alloc _).kept hgrow' (hbb.not_row (by decide) hrow)).other (B' := w.heap.size) (by omega) (.slice (some ⟨g', 0, none⟩) ((pre.map sgn).length + 1) cap')
          have hc1 := hv1.cell
          have hf1 := hv1.frozen
          refine hK _ _ ?_
          clear hK K
          refine wpAnyIn_ready (rs := [5]) (by kernel_rfl) (by simp) (AllReadyIn.cons rfl (fun K hK => ?_) AllReadyIn.nil)
          go_simp
          refine hK _ _ ?_
          clear hK K
          refine wpAnyIn_done (by kernel_rfl) ?_ _
          rw [hpl] at hv2 hbb1 hb2 hk2 hr2
          exact ⟨hk2.from _, hbb1.cell.trans hbb.cell.symm, ⟨⟨_, hv2, by simpa using hr2, trivial⟩, hbb1⟩, hB.trans hb2⟩
  case done =>
    rintro D ys W hD rfl ⟨⟨⟨v, hv, hrow, -⟩, hbb⟩, hB⟩ hK
    have hc := hv.cell
    have hs := owns_string hrow
    gi_wp2
    refine ⟨by simp, .inl ⟨_, _, rfl, run_takeDeferred hK, ?_⟩⟩
    exact ⟨_, results_tmp rfl _ _ _, rfl, hB.trans (belowK_b (w := w) (Nat.le_refl _) W D _ _ (by rw [hsz] at hD; omega) hK rfl rfl)⟩
  case stop =>
    rintro D c pre W _ _ h _
    exact h.elim

theorem written_any (n b : Int) (hb : 2 ≤ b) (hb2 : b ≤ 16) (h0 : 0 ≤ n) (hlt : n ≤ 18446744073709551615) (w : World) :
    Calls Tryz.prog 112 #[.int .u64 n, .int .u64 b] w fun e W' => e = .returned (.string ⟨(digs b.toNat n.toNat).toArray⟩) ∧ Below w.heap.size w W' := by
  obtain ⟨n', rfl⟩ := Int.eq_ofNat_of_zero_le h0
  obtain ⟨b', rfl⟩ := Int.eq_ofNat_of_zero_le (show 0 ≤ b by omega)
  exact callsIn_wide.1 (written_in 3 (Nat.le_refl _) n' b' (by omega) (by omega) (by omega) w)
end Go.Proofs.YtcmfpafcipgejaaGreatDoor

/- What num.ParseBase and the reference's ParseBase answer, for every text and base. -/
namespace Go.Proofs.YtcmfpafcipgejaaGreatDoor
open Go.RowKit

theorem empty_yes (s : ByteArray) (h : s.size = 0) : s.toList.isEmpty = true := by
  rw [ByteArray.toList_eq, List.isEmpty_iff, ← List.length_eq_zero_iff]; simpa using h
theorem empty_no (s : ByteArray) (h : s.size ≠ 0) : s.toList.isEmpty = false := by
  rw [ByteArray.toList_eq, Bool.eq_false_iff, Ne, List.isEmpty_iff, ← List.length_eq_zero_iff]; simpa using h
theorem nil_no (s : ByteArray) (h : s.size ≠ 0) : s.data.toList ≠ [] := by
  rw [Ne, ← List.length_eq_zero_iff]; simpa using h
theorem nil_yes (s : ByteArray) (h : s.size = 0) : s.data.toList = [] := by
  rw [← List.length_eq_zero_iff]; simpa using h
theorem parseB_no (b : Int) (l : List UInt8) (h : ¬ (2 ≤ b ∧ b ≤ 16)) : parseB b l = (0, 4, 0) := by rw [parseB, if_pos h]
theorem parseB_nil (b : Int) (h1 : 2 ≤ b) (h2 : b ≤ 16) : parseB b [] = (0, 8, 0) := by rw [parseB, if_neg (by omega), if_pos rfl]
theorem parseB_yes (b : Int) (l : List UInt8) (h1 : 2 ≤ b) (h2 : b ≤ 16) (h3 : l ≠ []) : parseB b l = pb b l 0 0 := by rw [parseB, if_neg (by omega), if_neg h3]
theorem ret3 {a b c a' b' c' : Int} {k1 k2 k3 : IntKind} (r : Int × Int × Int) (h : r = (a', b', c')) (h1 : a = a') (h2 : b = b') (h3 : c = c') :
    Ending.returned (.tuple #[.int k1 a, .int k2 b, .int k3 c]) = .returned (.tuple #[.int k1 r.1, .int k2 r.2.1, .int k3 r.2.2]) := by rw [h, h1, h2, h3]

theorem step_wrap {n b d : Int} (hn : 0 ≤ n) (hb : 0 < b) (hd : 0 ≤ d) (h : n ≤ (18446744073709551615 - d) / b) : IntKind.u64.wrap (IntKind.u64.wrap (n * b) + d) = n * b + d := by
  have h3 := Int.mul_le_of_le_ediv hb h
  have h4 : 0 ≤ n * b := Int.mul_nonneg hn (by omega)
  rw [IntWalk.u64_in (n * b) ⟨h4, by omega⟩, IntWalk.u64_in _ ⟨by omega, by omega⟩]
theorem step_le {n b d : Int} (hb : 0 < b) (h : n ≤ (18446744073709551615 - d) / b) : n * b + d ≤ 18446744073709551615 := by
  have h3 := Int.mul_le_of_le_ediv hb h
  omega

set_option maxHeartbeats 1000000 in
theorem parseBase_any (s : ByteArray) (b : Int) (w : World) (hs : s.size ≤ maxLen) :
    Calls Tryz.prog 109 #[.string s, .int .i64 b] w fun e w' =>
      e = .returned (.tuple #[.int .u64 (parseB b s.data.toList).1, .int .i64 (parseB b s.data.toList).2.1, .int .i64 (parseB b s.data.toList).2.2]) ∧ w' = w := by
  unfold maxLen at hs
  by_cases hb : 2 ≤ b ∧ b ≤ 16
  · obtain ⟨hb1, hb2⟩ := hb
    by_cases he : s.size = 0
    · have hE := empty_yes s he
      go_enter Tryz.func109, Tryz.ntmps109
      go_wp2_with (go_at_call 150; refine (isBase_yes _ hb1 hb2 _).mono ?_; rintro e w' ⟨rfl, rfl⟩)
      go_ret3
      exact ⟨ret3 _ (by rw [nil_yes s he]; exact parseB_nil b hb1 hb2) rfl rfl rfl, rfl⟩
    · have hE := empty_no s he
      have HP : Hid (parseB b s.data.toList = pb b (s.data.toList.drop 0) 0 0) := parseB_yes b _ hb1 hb2 (nil_no s he)
      go_enter Tryz.func109, Tryz.ntmps109
      go_wp2_with (go_at_call 150; refine (isBase_yes _ hb1 hb2 _).mono ?_; rintro e w' ⟨rfl, rfl⟩)
      go_loop [7, 20] (fun n i => ∃ (k : Nat) (m : Int), k ≤ s.size ∧ i = .int .i64 k ∧ n = .int .u64 m ∧ 0 ≤ m ∧ m ≤ 18446744073709551615 ∧ Hid (parseB b s.data.toList = pb b (s.data.toList.drop k) m k)) (fun _ i => s.size - (intOf i).toNat)
      case atStart => exact ⟨0, 0, Nat.zero_le _, rfl, rfl, by omega, by omega, HP⟩
      case round =>
        clear HP
        obtain ⟨k, m, hk, rfl, rfl, hm1, hm2, HP⟩ := hrel
        by_cases hlt : k < s.size
        · have hd := drop_at s k hlt
          have hbv := valI_bd (s[k].toNat : Int)
          have HQ : Hid (parseB b s.data.toList = pb b (s[k] :: s.data.toList.drop (k + 1)) m k) := by rw [← hd]; exact HP.out
          clear hd HP
          have hby : ((s[k].toNat : Nat) : Int) ≤ 255 := by have := s[k].toNat_lt; omega
          generalize hv : valI (s[k].toNat : Int) = v at hbv
          have HV := hide hv
          clear hv
          by_cases h1 : b ≤ v
          · go_wp2_with (go_at_call 151; refine (value_any _ (by omega) hby _).mono ?_; rintro e w' ⟨rfl, rfl⟩; rw [HV.out])
            go_ret3
            exact ⟨ret3 _ (HQ.out.trans (pb_digit _ _ _ _ _ (by rw [HV.out]; exact h1))) rfl rfl rfl, rfl⟩
          · go_wp2_with (go_at_call 151; refine (value_any _ (by omega) hby _).mono ?_; rintro e w' ⟨rfl, rfl⟩; rw [HV.out])
            · have h2 : (18446744073709551615 - v) / b < m := by assumption
              go_ret3
              exact ⟨ret3 _ (HQ.out.trans (pb_range _ _ _ _ _ (by rw [HV.out]; omega) (by rw [HV.out]; exact h2))) rfl rfl rfl, rfl⟩
            · have h2 : m ≤ (18446744073709551615 - v) / b := by assumption
              go_round
              case rel =>
                refine ⟨k + 1, m * b + v, by omega, by go_num, congrArg (Value.int .u64) (step_wrap hm1 (by omega) hbv.1 h2), ?_, step_le (by omega) h2, ?_⟩
                · have := Int.mul_nonneg hm1 (show 0 ≤ b by omega); omega
                · refine HQ.out.trans ?_
                  rw [pb_cons _ _ _ _ _ (by rw [HV.out]; omega) (by rw [HV.out]; omega), HV.out]
                  rfl
              case measure => simp [intOf]; omega
        · go_wp2
          go_ret3
          refine ⟨ret3 _ (HP.out.trans (by rw [drop_end s k (by omega)]; rfl)) rfl rfl ?_, rfl⟩
          omega
  · go_enter Tryz.func109, Tryz.ntmps109
    go_wp2_with (go_at_call 150; refine (isBase_no _ (by omega) _).mono ?_; rintro e w' ⟨rfl, rfl⟩)
    go_ret3
    exact ⟨ret3 _ (parseB_no b _ hb) rfl rfl rfl, rfl⟩


end Go.Proofs.YtcmfpafcipgejaaGreatDoor

/- What num.Base, num.Decimal and num.ParseInt answer, for every input. -/
namespace Go.Proofs.YtcmfpafcipgejaaGreatDoor
open Go.RowKit


set_option maxHeartbeats 400000 in
theorem base_yes (n b : Int) (h0 : 0 ≤ n) (h1 : n ≤ 18446744073709551615) (hb : 2 ≤ b) (hb2 : b ≤ 16) (w : World) :
    Calls Tryz.prog 116 #[.int .u64 n, .int .i64 b] w fun e w' => e = .returned (.tuple #[.string ⟨(digs b.toNat n.toNat).toArray⟩, .int .i64 0]) ∧ Below w.heap.size w w' := by
  go_enter Tryz.func116, Tryz.ntmps116
  go_wp2_with (first | (go_at_call 150; refine (isBase_yes _ hb hb2 _).mono ?_; rintro e w' ⟨rfl, rfl⟩) | (go_at_call 112; refine (written_any n b hb hb2 h0 h1 _).mono ?_; rintro e w1 ⟨rfl, hB⟩))
  go_ret2
  exact ⟨rfl, hB⟩
def dec (n : Int) : List UInt8 := if n < 0 then 45 :: digs 10 n.natAbs else digs 10 n.natAbs

theorem bytes_append (l m : List UInt8) : (⟨l.toArray⟩ : ByteArray) ++ ⟨m.toArray⟩ = ⟨(l ++ m).toArray⟩ := by
  apply ByteArray.ext
  simp

theorem neg_wrap {n : Int} (h0 : -9223372036854775808 ≤ n) (hn : n < 0) : IntKind.u64.wrap (-IntKind.u64.wrap n) = -n := by
  rw [IntKind.wrap_u64, IntKind.wrap_u64]; omega
theorem digs_len (b n : Nat) (hb : 2 ≤ b) (hn : n < 18446744073709551616) : (digs b n).length ≤ 64 := by
  rw [digs_length]; have := top_lt b n hb hn; omega

set_option maxHeartbeats 400000 in
theorem decimal_any (n : Int) (h0 : -9223372036854775808 ≤ n) (h1 : n ≤ 9223372036854775807) (w : World) :
    Calls Tryz.prog 80 #[.int .i64 n] w fun e w' => e = .returned (.string ⟨(dec n).toArray⟩) ∧ Below w.heap.size w w' := by
  by_cases hn : n < 0
  · have HD : Hid (dec n = 45 :: digs 10 n.natAbs) := if_pos hn
    have hA : (-n).toNat = n.natAbs := by omega
    have hl := digs_len 10 n.natAbs (by omega) (by omega)
    go_enter Tryz.func80, Tryz.ntmps80
    go_wp2_with fail
    rw [neg_wrap h0 hn]
    refine (written_any (-n) 10 (by omega) (by omega) (by omega) (by omega) _).mono ?_
    rintro e w1 ⟨rfl, hB⟩
    rw [hA]
    generalize hg : digs 10 n.natAbs = l at *
    have hg2 : digs (Int.toNat 10) n.natAbs = l := hg
    rw [hg2]
    clear hg hg2
    go_wp2
    go_ret
    refine ⟨?_, hB⟩
    rw [HD.out]
    exact congrArg (fun x => Ending.returned (Value.string x)) (bytes_append [45] l)
  · have HD : Hid (dec n = digs 10 n.natAbs) := if_neg hn
    have hA : n.toNat = n.natAbs := by omega
    go_enter Tryz.func80, Tryz.ntmps80
    go_wp2_with fail
    refine (written_any n 10 (by omega) (by omega) (by omega) (by omega) _).mono ?_
    rintro e w1 ⟨rfl, hB⟩
    go_wp2
    go_ret
    refine ⟨?_, hB⟩
    rw [HD.out, ← hA]
    rfl

def PI (l : List UInt8) (v e : Int) : Prop :=
  (∃ n, -9223372036854775808 ≤ n ∧ n ≤ 9223372036854775807 ∧ dec n = l ∧ v = n ∧ e = 0) ∨ ((∀ n, -9223372036854775808 ≤ n → n ≤ 9223372036854775807 → dec n ≠ l) ∧ v = 0 ∧ e = 11)

theorem w64_lo (x : Int) : -9223372036854775808 ≤ wrap64 x := by unfold wrap64; omega
theorem w64_hi (x : Int) : wrap64 x ≤ 9223372036854775807 := by unfold wrap64; omega
theorem sgn_ne (d : Fin 16) : sgn d ≠ 45 := by revert d; decide
theorem digs_cons (b n : Nat) : ∃ d r, digs b n = sgn d :: r := by
  unfold digs
  cases h : dl b n (top b n) with
  | nil => have := dl_length b n (top b n); rw [h] at this; simp at this
  | cons d r => exact ⟨d, r.map sgn, rfl⟩
theorem parse_pos {m : Int} {l : List UInt8} (h0 : -9223372036854775808 ≤ m) (h1 : m ≤ 9223372036854775807) (h : dec m = l) (hl : l.head? ≠ some 45) : 0 ≤ m ∧ parseB 10 l = (m, 0, (l.length : Int)) := by
  by_cases hm : m < 0
  · rw [dec, if_pos hm] at h; rw [← h] at hl; exact absurd rfl hl
  · refine ⟨by omega, ?_⟩
    rw [dec, if_neg hm] at h
    rw [← h]
    have := parseB_digs 10 m.natAbs (by omega) (by omega) (by omega)
    rw [show ((m.natAbs : Nat) : Int) = m by omega] at this
    exact this
theorem parse_neg {m : Int} {l : List UInt8} (h0 : -9223372036854775808 ≤ m) (h1 : m ≤ 9223372036854775807) (h : dec m = 45 :: l) : m < 0 ∧ parseB 10 l = (-m, 0, (l.length : Int)) := by
  by_cases hm : m < 0
  · refine ⟨hm, ?_⟩
    rw [dec, if_pos hm] at h
    rw [← List.tail_eq_of_cons_eq h]
    have := parseB_digs 10 m.natAbs (by omega) (by omega) (by omega)
    rw [show ((m.natAbs : Nat) : Int) = -m by omega] at this
    exact this
  · rw [dec, if_neg hm] at h
    obtain ⟨d, r, hd⟩ := digs_cons 10 m.natAbs
    rw [hd] at h
    exact absurd (List.head_eq_of_cons_eq h) (sgn_ne d)

theorem head_tail (s : ByteArray) (hp : 0 < s.size) (h : ((s[0].toNat : Int) == 45) = true) : s.data.toList = 45 :: (s.extract 1 s.size).data.toList := by
  have h1 : s.data.toList = s[0] :: s.data.toList.drop 1 := by
    have := drop_at s 0 hp
    rwa [List.drop_zero] at this
  have h2 : s[0] = 45 := by
    have h3 : ((s[0].toNat : Nat) : Int) = 45 := by simpa using h
    exact UInt8.toNat_inj.1 (show s[0].toNat = 45 by omega)
  have h4 : (s.extract 1 s.size).data.toList = s.data.toList.drop 1 := by
    rw [ByteArray.data_extract, Array.toList_extract, List.extract_eq_take_drop]
    exact List.take_of_length_le (by rw [List.length_drop]; simp)
  rw [h4, h1, h2]
  simp
theorem head_not (s : ByteArray) (hp : 0 < s.size) (h : ((s[0].toNat : Int) == 45) = false) : s.data.toList.head? ≠ some 45 := by
  have h1 : s.data.toList = s[0] :: s.data.toList.drop 1 := by
    have := drop_at s 0 hp
    rwa [List.drop_zero] at this
  rw [h1]
  intro h2
  have h3 : s[0] = 45 := by simpa using h2
  rw [h3] at h
  cases h
theorem same_no {D : List UInt8} {s : ByteArray} (h : (!D == s.toList) = true) : D ≠ s.data.toList := by
  rw [ByteArray.toList_eq] at h
  simpa using h
theorem same_yes {D : List UInt8} {s : ByteArray} (h : (!D == s.toList) = false) : D = s.data.toList := by
  rw [ByteArray.toList_eq] at h
  simpa using h

set_option maxHeartbeats 400000 in
theorem parseInt_any (s : ByteArray) (w : World) (hs : s.size ≤ maxLen) :
    Calls Tryz.prog 167 #[.string s] w fun e w' => (∃ v x, PI s.data.toList v x ∧ e = .returned (.tuple #[.int .i64 v, .int .i64 x])) ∧ Below w.heap.size w w' := by
  unfold maxLen at hs
  by_cases hz : s.size = 0
  · have hd : decide ((0 : Int) < (s.size : Int)) = false := by simp [hz]
    go_enter Tryz.func167, Tryz.ntmps167
    go_wp2_with fail
    refine (parseBase_any s 10 _ (by unfold maxLen; omega)).mono ?_
    rintro e w' ⟨rfl, rfl⟩
    rw [nil_yes s hz, parseB_nil 10 (by omega) (by omega)]
    go_wp2
    go_ret2
    refine ⟨⟨0, 11, .inr ⟨fun n _ _ h => ?_, rfl, rfl⟩, rfl⟩, Below.refl _ _⟩
    rw [nil_yes s hz] at h
    unfold dec at h
    split at h
    · cases h
    · exact digs_ne _ _ h
  · have hp : (0 : Int) < (s.size : Int) := by omega
    by_cases h45 : ((s[0].toNat : Int) == 45) = true
    · go_enter Tryz.func167, Tryz.ntmps167
      go_wp2_with fail
      refine (parseBase_any _ 10 _ (by unfold maxLen; rw [ByteArray.size_extract]; omega)).mono ?_
      rintro e w' ⟨rfl, rfl⟩
      generalize hr : parseB 10 (s.extract 1 s.size).data.toList = r
      obtain ⟨z, x, y⟩ := r
      have HR := hide hr
      clear hr
      by_cases hx : x = 0
      · subst hx
        go_wp2_with fail
        refine (decimal_any _ (w64_lo _) (w64_hi _) _).mono ?_
        rintro e w1 ⟨rfl, hB⟩
        have hlo := w64_lo (-wrap64 z)
        have hhi := w64_hi (-wrap64 z)
        generalize hN : wrap64 (-wrap64 z) = N at *
        generalize hD : dec N = D
        have HN := hide hN
        have HD := hide hD
        clear hN hD
        go_wp2
        · have hne := same_no (D := D) (s := s) (by assumption)
          go_ret2
          refine ⟨⟨0, 11, .inr ⟨fun n h0 h1 h => ?_, rfl, rfl⟩, rfl⟩, hB⟩
          obtain ⟨hm, hq⟩ := parse_neg h0 h1 (h.trans (head_tail s (by omega) h45))
          have hz2 : z = -n := by have := HR.out.symm.trans hq; simpa using congrArg Prod.fst this
          have hNn : N = n := by rw [← HN.out, hz2]; unfold wrap64; omega
          exact hne (by rw [← HD.out, hNn, h])
        · have he := same_yes (D := D) (s := s) (by assumption)
          go_ret2
          exact ⟨⟨N, 0, .inl ⟨N, hlo, hhi, by rw [HD.out, he], rfl, rfl⟩, rfl⟩, hB⟩
      · have hx' : (x != 0) = true := by simpa using hx
        go_wp2
        go_ret2
        refine ⟨⟨0, 11, .inr ⟨fun n h0 h1 h => ?_, rfl, rfl⟩, rfl⟩, Below.refl _ _⟩
        obtain ⟨hm, hq⟩ := parse_neg h0 h1 (h.trans (head_tail s (by omega) h45))
        exact hx (by have := HR.out.symm.trans hq; simpa using congrArg (fun r => r.2.1) this)
    · have h45' : ((s[0].toNat : Int) == 45) = false := by simpa using h45
      go_enter Tryz.func167, Tryz.ntmps167
      go_wp2_with fail
      refine (parseBase_any s 10 _ (by unfold maxLen; omega)).mono ?_
      rintro e w' ⟨rfl, rfl⟩
      generalize hr : parseB 10 s.data.toList = r
      obtain ⟨z, x, y⟩ := r
      have HR := hide hr
      clear hr
      by_cases hx : x = 0
      · subst hx
        go_wp2_with fail
        refine (decimal_any _ (w64_lo _) (w64_hi _) _).mono ?_
        rintro e w1 ⟨rfl, hB⟩
        have hlo := w64_lo z
        have hhi := w64_hi z
        generalize hN : wrap64 z = N at *
        generalize hD : dec N = D
        have HN := hide hN
        have HD := hide hD
        clear hN hD
        go_wp2
        · have hne := same_no (D := D) (s := s) (by assumption)
          go_ret2
          refine ⟨⟨0, 11, .inr ⟨fun n h0 h1 h => ?_, rfl, rfl⟩, rfl⟩, hB⟩
          obtain ⟨hm, hq⟩ := parse_pos h0 h1 h (head_not s (by omega) h45')
          have hz2 : z = n := by have := HR.out.symm.trans hq; simpa using congrArg Prod.fst this
          have hNn : N = n := by rw [← HN.out, hz2]; unfold wrap64; omega
          exact hne (by rw [← HD.out, hNn, h])
        · have he := same_yes (D := D) (s := s) (by assumption)
          go_ret2
          exact ⟨⟨N, 0, .inl ⟨N, hlo, hhi, by rw [HD.out, he], rfl, rfl⟩, rfl⟩, hB⟩
      · have hx' : (x != 0) = true := by simpa using hx
        go_wp2
        go_ret2
        refine ⟨⟨0, 11, .inr ⟨fun n h0 h1 h => ?_, rfl, rfl⟩, rfl⟩, Below.refl _ _⟩
        obtain ⟨hm, hq⟩ := parse_pos h0 h1 h (head_not s (by omega) h45')
        exact hx (by have := HR.out.symm.trans hq; simpa using congrArg (fun r => r.2.1) this)
end Go.Proofs.YtcmfpafcipgejaaGreatDoor

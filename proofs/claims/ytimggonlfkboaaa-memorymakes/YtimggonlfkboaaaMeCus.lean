/- A custom stream, as a value and in memory; isMade, Seek, Taken; an answer is used up. -/
import Derived.Test.YtimggonlfkboaaaMeTypes
import Derived.Defers
import Derived.Lib.BufferMore
namespace Go.Proofs.Ytimggonlfkboaaa
open Go.RowKit

/-- A custom stream as a value: the answers that are left, the numbers that are left, what was taken. -/
structure CS where
  reads : List (List UInt8 × Int)
  writes : List Int
  taken : List UInt8
/-- An answer with an error has no bytes. -/
def nrm (x : List UInt8 × Int) : List UInt8 × Int := if x.2 = 0 then x else ([], x.2)
def CS.read (C : CS) (n : Int) : List UInt8 × Int × CS :=
  if inR n = false then ([], 4, C) else if n = 0 then ([], 0, C) else match C.reads with
    | [] => ([], 0, C)
    | x :: r => if x.2 ≠ 0 then ([], x.2, ⟨r, C.writes, C.taken⟩)
      else if n.toNat < x.1.length then (x.1.take n.toNat, 0, ⟨(x.1.drop n.toNat, 0) :: r, C.writes, C.taken⟩) else (x.1, 0, ⟨r, C.writes, C.taken⟩)
def CS.write (C : CS) (x : List UInt8) : Int × Int × CS :=
  if 1048576 < x.length then (0, 5, C) else if x = [] then (0, 0, C) else match C.writes with
    | [] => (x.length, 0, ⟨C.reads, [], C.taken ++ x⟩)
    | k :: r => if k < 0 then (0, 101, ⟨C.reads, r, C.taken⟩) else ((min k.toNat x.length : Nat), 0, ⟨C.reads, r, C.taken ++ x.take (min k.toNat x.length)⟩)

/-- An answer at a place of a block. -/
def Ans1 (W : World) (R : Nat → Prop) (b o : Nat) (x : List UInt8 × Int) : Prop :=
  ∃ va vc, W.cell? ⟨b, o, none⟩ = some (.slice va x.1.length vc) ∧ W.cell? ⟨b, o + 1, none⟩ = some (.int .i64 x.2) ∧ W.frozen? ⟨b, o, none⟩ = false ∧ W.frozen? ⟨b, o + 1, none⟩ = false ∧ Bys W (.slice va x.1.length vc) x.1 ∧ x.1.length ≤ vc ∧ (0 < x.1.length → ∀ k, (Value.slice va x.1.length vc).ownBlock = some k → R k)
/-- A slice that holds these answers, all within R. -/
def Ans (W : World) (R : Nat → Prop) (v : Value) (l : List (List UInt8 × Int)) : Prop :=
  ∃ a cap, v = .slice a l.length cap ∧ l.length ≤ cap ∧ (0 < l.length → ∃ b off, a = some ⟨b, off, none⟩ ∧ R b ∧ ∀ j (hj : j < l.length), Ans1 W R b (off + j * 2) l[j])
def NRow (W : World) (R : Nat → Prop) (v : Value) (l : List Int) : Prop :=
  ∃ a cap, v = .slice a l.length cap ∧ l.length ≤ cap ∧ (0 < l.length → ∃ b off, a = some ⟨b, off, none⟩ ∧ R b ∧ ∀ j (hj : j < l.length), W.cell? ⟨b, off + j, none⟩ = some (.int .i64 l[j]))
theorem bys_void2 {W W' : World} {v : Value} {l : List UInt8} (h : Bys W v l) (h0 : ¬ 0 < l.length) : Bys W' v l := by
  rcases h with h | h | ⟨b, off, cap, rfl, h1, -⟩
  · exact .inl h
  · exact .inr (.inl h)
  · exact absurd h1 h0
theorem Ans1.keep {W W' : World} {R : Nat → Prop} {b o : Nat} {x : List UInt8 × Int} (h : Ans1 W R b o x) (hb : R b) (hk : ∀ k, R k → k < W.heap.size → W'.heap[k]? = W.heap[k]?) : Ans1 W' R b o x := by
  obtain ⟨va, vc, h1, h2, h3, h4, h5, h6, h7⟩ := h
  have kb := hk b hb (World.block_lt_of_cell? W _ h1)
  refine ⟨va, vc, (World.cell?_of_block (w := W) kb).trans h1, (World.cell?_of_block (w := W) kb).trans h2, (World.frozen?_of_block (w := W) kb).trans h3, (World.frozen?_of_block (w := W) kb).trans h4, ?_, h6, h7⟩
  by_cases h0 : 0 < x.1.length
  · exact h5.keep fun k e hl => hk k (h7 h0 k e) hl
  · exact bys_void2 h5 h0
theorem Ans.keep {W W' : World} {R : Nat → Prop} {v : Value} {l : List (List UInt8 × Int)} (h : Ans W R v l) (hk : ∀ k, R k → k < W.heap.size → W'.heap[k]? = W.heap[k]?) : Ans W' R v l := by
  obtain ⟨a, cap, rfl, h1, h2⟩ := h
  refine ⟨a, cap, rfl, h1, fun h0 => ?_⟩
  obtain ⟨b, off, rfl, hb, hc⟩ := h2 h0
  exact ⟨b, off, rfl, hb, fun j hj => (hc j hj).keep hb hk⟩
theorem NRow.keep {W W' : World} {R : Nat → Prop} {v : Value} {l : List Int} (h : NRow W R v l) (hk : ∀ k, R k → k < W.heap.size → W'.heap[k]? = W.heap[k]?) : NRow W' R v l := by
  obtain ⟨a, cap, rfl, h1, h2⟩ := h
  refine ⟨a, cap, rfl, h1, fun h0 => ?_⟩
  obtain ⟨b, off, rfl, hb, hc⟩ := h2 h0
  exact ⟨b, off, rfl, hb, fun j hj => (World.cell?_of_block (w := W) (a := ⟨b, off + j, none⟩) (hk b hb (World.block_lt_of_cell? W _ (hc j hj)))).trans (hc j hj)⟩
/-- A store into a cell that holds no byte leaves bytes. -/
theorem Bys.set {W : World} {v : Value} {l : List UInt8} {p : Addr} {c : Value} (h : Bys W v l) (hp : W.cell? p = some c) (hc : ∀ k, c ≠ .int .u8 k) (u : Value) : Bys (W.setCell p u) v l := by
  rcases h with h | h | ⟨b, off, cap, rfl, h0, hd⟩
  · exact .inl h
  · exact .inr (.inl h)
  · refine .inr (.inr ⟨b, off, cap, rfl, h0, fun j hj => ?_⟩)
    rw [World.cell?_setCell_other _ _ _ _ (fun e => ?_)]
    · exact hd j hj
    · have h1 := hd j hj
      rw [← e, hp] at h1
      exact hc _ (Option.some.inj h1)
theorem Ans1.set {W : World} {R : Nat → Prop} {b o : Nat} {x : List UInt8 × Int} {p : Addr} {c : Value} (h : Ans1 W R b o x) (hp : W.cell? p = some c) (hc : ∀ k, c ≠ .int .u8 k) (h0 : p ≠ ⟨b, o, none⟩) (h1 : p ≠ ⟨b, o + 1, none⟩) (u : Value) : Ans1 (W.setCell p u) R b o x := by
  obtain ⟨va, vc, a1, a2, a3, a4, a5, a6, a7⟩ := h
  exact ⟨va, vc, (World.cell?_setCell_other _ _ _ _ h0).trans a1, (World.cell?_setCell_other _ _ _ _ h1).trans a2, (World.frozen?_setCell _ _ _ _).trans a3, (World.frozen?_setCell _ _ _ _).trans a4, a5.set hp hc u, a6, a7⟩
theorem NRow.set {W : World} {R : Nat → Prop} {v : Value} {l : List Int} {p : Addr} {c : Value} (h : NRow W R v l) (hp : W.cell? p = some c) (hc : (∀ k, c ≠ .int .i64 k) ∨ ∀ k, R k → k ≠ p.block) (u : Value) : NRow (W.setCell p u) R v l := by
  obtain ⟨a, cap, rfl, h1, h2⟩ := h
  refine ⟨a, cap, rfl, h1, fun h0 => ?_⟩
  obtain ⟨b, off, rfl, hb, hd⟩ := h2 h0
  refine ⟨b, off, rfl, hb, fun j hj => ?_⟩
  rw [World.cell?_setCell_other _ _ _ _ (fun e => ?_)]
  · exact hd j hj
  · rcases hc with hc | hc
    · have h1 := hd j hj
      rw [← e, hp] at h1
      exact hc _ (Option.some.inj h1)
    · exact hc b hb (by rw [e])

/-- Block g is the custom stream C; all that it has lies within O: the answers and numbers within R, what was taken apart. -/
def CusAt (W : World) (O : Nat → Prop) (g : Nat) (C : CS) : Prop :=
  ∃ rv wv tv, ∃ R N : Nat → Prop, (W.cell? ⟨g, 0, none⟩ = some (.bool true) ∧ W.cell? ⟨g, 1, none⟩ = some rv ∧ W.cell? ⟨g, 2, none⟩ = some wv ∧ W.cell? ⟨g, 3, none⟩ = some tv) ∧
    (W.frozen? ⟨g, 1, none⟩ = false ∧ W.frozen? ⟨g, 2, none⟩ = false ∧ W.frozen? ⟨g, 3, none⟩ = false) ∧
    Ans W R rv (C.reads.map nrm) ∧ NRow W N wv C.writes ∧ W.ownsRow 0 5 1 tv C.taken.length (C.taken.map bv) ∧
    (∀ k, tv.ownBlock = some k → O k ∧ ¬ R k ∧ ¬ N k ∧ k ≠ g) ∧ (∀ k, R k → O k ∧ k ≠ g ∧ ¬ N k) ∧ (∀ k, N k → O k ∧ k ≠ g) ∧ O g ∧ C.reads.length ≤ 4096 ∧ C.writes.length ≤ 4096 ∧ ∀ x ∈ C.reads, x.1.length ≤ 1048576
def CStep (w : World) (O : Nat → Prop) (g : Nat) (C : CS) (w' : World) : Prop := ∃ O', CusAt w' O' g C ∧ (∀ k, O' k → O k ∨ w.heap.size ≤ k) ∧ Turned O w w'
theorem CusAt.keep {W W' : World} {O : Nat → Prop} {g : Nat} {C : CS} (h : CusAt W O g C) (hk : ∀ j, O j → j < W.heap.size → W'.heap[j]? = W.heap[j]?) : CusAt W' O g C := by
  obtain ⟨rv, wv, tv, R, N, ⟨h0, h1, h2, h3⟩, ⟨f1, f2, f3⟩, hA, hN, hT, ht, hR, hN2, og, rest⟩ := h
  have kg := hk g og (World.block_lt_of_cell? W _ h0)
  exact ⟨rv, wv, tv, R, N, ⟨(World.cell?_of_block (w := W) kg).trans h0, (World.cell?_of_block (w := W) kg).trans h1, (World.cell?_of_block (w := W) kg).trans h2, (World.cell?_of_block (w := W) kg).trans h3⟩,
    ⟨(World.frozen?_of_block (w := W) kg).trans f1, (World.frozen?_of_block (w := W) kg).trans f2, (World.frozen?_of_block (w := W) kg).trans f3⟩,
    hA.keep fun k e hl => hk k (hR k e).1 hl, hN.keep fun k e hl => hk k (hN2 k e).1 hl, owns_keep hT fun k e => hk k (ht k e).1 (hT.lt k e).2, ht, hR, hN2, og, rest⟩
theorem CusAt.below {W W' : World} {O : Nat → Prop} {g : Nat} {C : CS} (h : CusAt W O g C) (hB : Below W.heap.size W W') : CusAt W' O g C := h.keep fun j _ hl => hB.block j hl
theorem CusAt.trim {W : World} {O : Nat → Prop} {g : Nat} {C : CS} (h : CusAt W O g C) : CusAt W (fun k => O k ∧ k < W.heap.size) g C := by
  obtain ⟨rv, wv, tv, R, N, ⟨h0, h1, h2, h3⟩, hf, hA, hN, hT, ht, hR, hN2, og, rest⟩ := h
  have hgl := World.block_lt_of_cell? W _ h0
  refine ⟨rv, wv, tv, fun k => R k ∧ k < W.heap.size, fun k => N k ∧ k < W.heap.size, ⟨h0, h1, h2, h3⟩, hf, ?_, ?_, hT, fun k e => ⟨⟨(ht k e).1, (hT.lt k e).2⟩, fun x => (ht k e).2.1 x.1, fun x => (ht k e).2.2.1 x.1, (ht k e).2.2.2⟩, fun k e => ⟨⟨(hR k e.1).1, e.2⟩, (hR k e.1).2.1, fun x => (hR k e.1).2.2 x.1⟩, fun k e => ⟨⟨(hN2 k e.1).1, e.2⟩, (hN2 k e.1).2⟩, ⟨og, hgl⟩, rest⟩
  · obtain ⟨a, cap, rfl, b1, b2⟩ := hA
    refine ⟨a, cap, rfl, b1, fun h0 => ?_⟩
    obtain ⟨b, off, rfl, hb, hc⟩ := b2 h0
    refine ⟨b, off, rfl, ⟨hb, ?_⟩, fun j hj => ?_⟩
    · obtain ⟨va, vc, a1, _⟩ := hc 0 h0
      exact World.block_lt_of_cell? W _ a1
    · obtain ⟨va, vc, a1, a2, a3, a4, a5, a6, a7⟩ := hc j hj
      refine ⟨va, vc, a1, a2, a3, a4, a5, a6, fun h0 k e => ⟨a7 h0 k e, ?_⟩⟩
      obtain ⟨_, yb, yo, rfl, yl, _⟩ := bys_block a5 h0
      obtain rfl : yb = k := by simpa [Value.ownBlock] using e
      exact yl
  · obtain ⟨a, cap, rfl, b1, b2⟩ := hN
    refine ⟨a, cap, rfl, b1, fun h0 => ?_⟩
    obtain ⟨b, off, rfl, hb, hc⟩ := b2 h0
    exact ⟨b, off, rfl, ⟨hb, World.block_lt_of_cell? W _ (hc 0 h0)⟩, hc⟩
/-- Within the blocks that are there. -/
theorem cus_rows {W : World} {R N : Nat → Prop} {rv wv : Value} {l : List (List UInt8 × Int)} {ws : List Int} (hA : Ans W R rv l) (hN : NRow W N wv ws) : Ans W (fun k => R k ∧ k < W.heap.size) rv l ∧ NRow W (fun k => N k ∧ k < W.heap.size) wv ws := by
  constructor
  · obtain ⟨a, cap, rfl, b1, b2⟩ := hA
    refine ⟨a, cap, rfl, b1, fun h0 => ?_⟩
    obtain ⟨b, off, rfl, hb, hc⟩ := b2 h0
    refine ⟨b, off, rfl, ⟨hb, ?_⟩, fun j hj => ?_⟩
    · obtain ⟨va, vc, a1, _⟩ := hc 0 h0
      exact World.block_lt_of_cell? W _ a1
    · obtain ⟨va, vc, a1, a2, a3, a4, a5, a6, a7⟩ := hc j hj
      refine ⟨va, vc, a1, a2, a3, a4, a5, a6, fun h0 k e => ⟨a7 h0 k e, ?_⟩⟩
      obtain ⟨_, yb, yo, rfl, yl, _⟩ := bys_block a5 h0
      obtain rfl : yb = k := by simpa [Value.ownBlock] using e
      exact yl
  · obtain ⟨a, cap, rfl, b1, b2⟩ := hN
    refine ⟨a, cap, rfl, b1, fun h0 => ?_⟩
    obtain ⟨b, off, rfl, hb, hc⟩ := b2 h0
    exact ⟨b, off, rfl, ⟨hb, World.block_lt_of_cell? W _ (hc 0 h0)⟩, hc⟩
theorem CStep.same {w : World} {O : Nat → Prop} {g : Nat} {C : CS} (h : CusAt w O g C) : CStep w O g C w := ⟨O, h, fun _ e => .inl e, Turned.refl _ _⟩
theorem CStep.below {w w' : World} {O : Nat → Prop} {g : Nat} {C : CS} (h : CusAt w O g C) (hB : Below w.heap.size w w') : CStep w O g C w' := ⟨O, h.below hB, fun _ e => .inl e, Turned.of_below hB⟩

set_option maxHeartbeats 1000000 in
theorem cMade_yes (g : Nat) (w : World) (h : w.cell? ⟨g, 0, none⟩ = some (.bool true)) :
    Calls Try.prog 42 #[.pointer (some ⟨g, 0, none⟩)] w fun e w' => e = .returned (.bool true) ∧ w = w' := by
  go_enter Try.func42, Try.ntmps42
  go_wp2
  go_ret
  exact ⟨rfl, rfl⟩
set_option maxHeartbeats 1000000 in
theorem cMade_no (g : Nat) (w : World) (h : w.cell? ⟨g, 0, none⟩ = some (.bool false)) :
    Calls Try.prog 42 #[.pointer (some ⟨g, 0, none⟩)] w fun e w' => e = .returned (.bool false) ∧ w = w' := by
  go_enter Try.func42, Try.ntmps42
  go_wp2
  go_ret
  exact ⟨rfl, rfl⟩
set_option maxHeartbeats 1000000 in
theorem cMade_nil (w : World) :
    Calls Try.prog 42 #[.pointer none] w fun e w' => e = .returned (.bool false) ∧ w = w' := by
  go_enter Try.func42, Try.ntmps42
  go_wp2
  go_ret
  exact ⟨rfl, rfl⟩
set_option maxHeartbeats 1000000 in
theorem cseek_any (O : Nat → Prop) (g : Nat) (C : CS) (off wh : Int) (w : World) (h : CusAt w O g C) :
    Calls Try.prog 46 #[.pointer (some ⟨g, 0, none⟩), .int .i64 off, .int .i64 wh] w fun e w' => e = .returned (.tuple #[.int .i64 0, .int .i64 66]) ∧ w = w' := by
  obtain ⟨rv, wv, tv, R, N, ⟨h0, -⟩, -⟩ := h
  go_enter Try.func46, Try.ntmps46
  go_wp2_with (first | (go_at_call 42; refine (cMade_yes g _ h0).mono ?_; rintro _ _ ⟨rfl, rfl⟩) | fail)
  go_ret2
  exact ⟨rfl, rfl⟩

theorem Ans.head {W : World} {R : Nat → Prop} {v : Value} {x : List UInt8 × Int} {r : List (List UInt8 × Int)} (h : Ans W R v (x :: r)) :
    ∃ b off cap, v = .slice (some ⟨b, off, none⟩) (r.length + 1) cap ∧ r.length + 1 ≤ cap ∧ R b ∧ Ans1 W R b off x ∧ ∀ j (hj : j < r.length), Ans1 W R b (off + 2 + j * 2) r[j] := by
  obtain ⟨a, cap, rfl, h1, h2⟩ := h
  obtain ⟨b, off, rfl, hb, hc⟩ := h2 (by simp)
  refine ⟨b, off, cap, rfl, h1, hb, by have h := hc 0 (Nat.succ_pos _); rw [Nat.zero_mul, Nat.add_zero] at h; exact h, fun j hj => ?_⟩
  have := hc (j + 1) (by simpa using hj)
  rw [show off + (j + 1) * 2 = off + 2 + j * 2 by omega] at this
  simpa using this
set_option maxRecDepth 100000 in
set_option maxHeartbeats 1000000 in
theorem mclone_any (v : Value) (l : List UInt8) (w : World) (h : Bys w v l) (hs : l.length ≤ 140737488351232) :
    Calls Try.prog 44 #[v] w fun e w' => ∃ u, e = .returned u ∧ w'.ownsRow w.heap.size 5 1 u l.length (l.map bv) ∧ Below w.heap.size w w' := by
  have hmade : (w.alloc (Obj.cells #[] 5)).ownsRow w.heap.size 5 1 (.slice (some ⟨w.heap.size, 0, none⟩) 0 0) ([] : List UInt8).length (([] : List UInt8).map bv) := World.ownsRow_made _ _ _ (Nat.le_refl _) (by decide) rfl
  have hB := recv4 w (Obj.cells #[] 5)
  obtain ⟨s', w1, hrun, HO, hg, hb⟩ := run_append_bytes (w.alloc (Obj.cells #[] 5)) 22 w.heap.size _ v [] l hmade (h.below hB) (by simpa using hs) hB.size
  have HR := hide hrun
  have HB : Hid (Below w.heap.size w w1) := hide (hB.grown hg hB.size (fun j e => by
    have : w.heap.size = j := by simpa [Value.ownBlock] using e
    omega))
  rcases h with ⟨rfl, rfl⟩ | ⟨a, cap, rfl, rfl⟩ | ⟨b, off, cap, rfl, h0, -⟩
  · have hnil : ∀ W, (binOp .eql 22 (.slice none 0 0) (.slice none 0 0)).run Try.prog W = .ok (.bool true) W := fun W => Lib.run_eql_slice_nil_nil W _ _ Try.underlying22
    go_enter Try.func44, Try.ntmps44
    go_wp2
    go_ret
    exact ⟨_, rfl, World.ownsRow_nil _ _ _ _, Below.refl _ _⟩
  · have hnil : ∀ W, (binOp .eql 22 (.slice (some a) 0 cap) (.slice none 0 0)).run Try.prog W = .ok (.bool false) W := fun W => Lib.run_eql_slice_some_nil W _ _ _ Try.underlying22
    clear hrun hg hb hmade hB
    go_enter Try.func44, Try.ntmps44
    go_wp2_with (at_builtin; refine Lib.wpList_append_run _ rfl _ _ _ _ rfl _ _ rfl rfl _ _ HR.out ?_)
    go_ret
    exact ⟨_, rfl, HO.out, HB.out⟩
  · have hnil : ∀ W, (binOp .eql 22 (.slice (some ⟨b, off, none⟩) l.length cap) (.slice none 0 0)).run Try.prog W = .ok (.bool false) W := fun W => Lib.run_eql_slice_some_nil W _ _ _ Try.underlying22
    clear hrun hg hb hmade hB
    go_enter Try.func44, Try.ntmps44
    go_wp2_with (at_builtin; refine Lib.wpList_append_run _ rfl _ _ _ _ rfl _ _ rfl rfl _ _ HR.out ?_)
    go_ret
    exact ⟨_, rfl, HO.out, HB.out⟩
end Go.Proofs.Ytimggonlfkboaaa

/- What the proof stands on, part 11: the contracts of the program's calls that it reaches. -/
import Derived.Test.YtibnpeipndkciaaKM10
import Derived.Defers
import Derived.Lib.BufferMore
/- A custom stream, as a value and in memory; isMade, Seek, Taken; an answer is used up. -/
namespace Go.Proofs.Ytibnpeipndkciaa
open Go.RowKit

/-- A custom stream as a value: the answers that are left, the numbers that are left, what was taken. -/
structure CS where
  reads : List (List UInt8 × Int)
  writes : List Int
  taken : List UInt8
/-- An answer with an error has no bytes. -/
def nrm (x : List UInt8 × Int) : List UInt8 × Int := if x.2 = 0 then x else ([], x.2)
def CS.read (C : CS) (n : Int) : List UInt8 × Int × CS :=
  if inR n = false then ([], 4, C) else if n = 0 then ([], 0, C) else match C.reads with
    | [] => ([], 0, C)
    | x :: r => if x.2 ≠ 0 then ([], x.2, ⟨r, C.writes, C.taken⟩)
      else if n.toNat < x.1.length then (x.1.take n.toNat, 0, ⟨(x.1.drop n.toNat, 0) :: r, C.writes, C.taken⟩) else (x.1, 0, ⟨r, C.writes, C.taken⟩)
def CS.write (C : CS) (x : List UInt8) : Int × Int × CS :=
  if 1048576 < x.length then (0, 5, C) else if x = [] then (0, 0, C) else match C.writes with
    | [] => (x.length, 0, ⟨C.reads, [], C.taken ++ x⟩)
    | k :: r => if k < 0 then (0, 101, ⟨C.reads, r, C.taken⟩) else ((min k.toNat x.length : Nat), 0, ⟨C.reads, r, C.taken ++ x.take (min k.toNat x.length)⟩)

/-- An answer at a place of a block. -/
def Ans1 (W : World) (R : Nat → Prop) (b o : Nat) (x : List UInt8 × Int) : Prop :=
  ∃ va vc, W.cell? ⟨b, o, none⟩ = some (.slice va x.1.length vc) ∧ W.cell? ⟨b, o + 1, none⟩ = some (.int .i64 x.2) ∧ W.frozen? ⟨b, o, none⟩ = false ∧ W.frozen? ⟨b, o + 1, none⟩ = false ∧ Bys W (.slice va x.1.length vc) x.1 ∧ x.1.length ≤ vc ∧ (0 < x.1.length → ∀ k, (Value.slice va x.1.length vc).ownBlock = some k → R k)
/-- A slice that holds these answers, all within R. -/
def Ans (W : World) (R : Nat → Prop) (v : Value) (l : List (List UInt8 × Int)) : Prop :=
  ∃ a cap, v = .slice a l.length cap ∧ l.length ≤ cap ∧ (0 < l.length → ∃ b off, a = some ⟨b, off, none⟩ ∧ R b ∧ ∀ j (hj : j < l.length), Ans1 W R b (off + j * 2) l[j])
def NRow (W : World) (R : Nat → Prop) (v : Value) (l : List Int) : Prop :=
  ∃ a cap, v = .slice a l.length cap ∧ l.length ≤ cap ∧ (0 < l.length → ∃ b off, a = some ⟨b, off, none⟩ ∧ R b ∧ ∀ j (hj : j < l.length), W.cell? ⟨b, off + j, none⟩ = some (.int .i64 l[j]))
theorem bys_void2 {W W' : World} {v : Value} {l : List UInt8} (h : Bys W v l) (h0 : ¬ 0 < l.length) : Bys W' v l := by
  rcases h with h | h | ⟨b, off, cap, rfl, h1, -⟩
  · exact .inl h
  · exact .inr (.inl h)
  · exact absurd h1 h0
theorem Ans1.keep {W W' : World} {R : Nat → Prop} {b o : Nat} {x : List UInt8 × Int} (h : Ans1 W R b o x) (hb : R b) (hk : ∀ k, R k → k < W.heap.size → W'.heap[k]? = W.heap[k]?) : Ans1 W' R b o x := by
  obtain ⟨va, vc, h1, h2, h3, h4, h5, h6, h7⟩ := h
  have kb := hk b hb (World.block_lt_of_cell? W _ h1)
  refine ⟨va, vc, (World.cell?_of_block (w := W) kb).trans h1, (World.cell?_of_block (w := W) kb).trans h2, (World.frozen?_of_block (w := W) kb).trans h3, (World.frozen?_of_block (w := W) kb).trans h4, ?_, h6, h7⟩
  by_cases h0 : 0 < x.1.length
  · exact h5.keep fun k e hl => hk k (h7 h0 k e) hl
  · exact bys_void2 h5 h0
theorem Ans.keep {W W' : World} {R : Nat → Prop} {v : Value} {l : List (List UInt8 × Int)} (h : Ans W R v l) (hk : ∀ k, R k → k < W.heap.size → W'.heap[k]? = W.heap[k]?) : Ans W' R v l := by
  obtain ⟨a, cap, rfl, h1, h2⟩ := h
  refine ⟨a, cap, rfl, h1, fun h0 => ?_⟩
  obtain ⟨b, off, rfl, hb, hc⟩ := h2 h0
  exact ⟨b, off, rfl, hb, fun j hj => (hc j hj).keep hb hk⟩
theorem NRow.keep {W W' : World} {R : Nat → Prop} {v : Value} {l : List Int} (h : NRow W R v l) (hk : ∀ k, R k → k < W.heap.size → W'.heap[k]? = W.heap[k]?) : NRow W' R v l := by
  obtain ⟨a, cap, rfl, h1, h2⟩ := h
  refine ⟨a, cap, rfl, h1, fun h0 => ?_⟩
  obtain ⟨b, off, rfl, hb, hc⟩ := h2 h0
  exact ⟨b, off, rfl, hb, fun j hj => (World.cell?_of_block (w := W) (a := ⟨b, off + j, none⟩) (hk b hb (World.block_lt_of_cell? W _ (hc j hj)))).trans (hc j hj)⟩
/-- A store into a cell that holds no byte leaves bytes. -/
theorem Bys.set {W : World} {v : Value} {l : List UInt8} {p : Addr} {c : Value} (h : Bys W v l) (hp : W.cell? p = some c) (hc : ∀ k, c ≠ .int .u8 k) (u : Value) : Bys (W.setCell p u) v l := by
  rcases h with h | h | ⟨b, off, cap, rfl, h0, hd⟩
  · exact .inl h
  · exact .inr (.inl h)
  · refine .inr (.inr ⟨b, off, cap, rfl, h0, fun j hj => ?_⟩)
    rw [World.cell?_setCell_other _ _ _ _ (fun e => ?_)]
    · exact hd j hj
    · have h1 := hd j hj
      rw [← e, hp] at h1
      exact hc _ (Option.some.inj h1)
theorem Ans1.set {W : World} {R : Nat → Prop} {b o : Nat} {x : List UInt8 × Int} {p : Addr} {c : Value} (h : Ans1 W R b o x) (hp : W.cell? p = some c) (hc : ∀ k, c ≠ .int .u8 k) (h0 : p ≠ ⟨b, o, none⟩) (h1 : p ≠ ⟨b, o + 1, none⟩) (u : Value) : Ans1 (W.setCell p u) R b o x := by
  obtain ⟨va, vc, a1, a2, a3, a4, a5, a6, a7⟩ := h
  exact ⟨va, vc, (World.cell?_setCell_other _ _ _ _ h0).trans a1, (World.cell?_setCell_other _ _ _ _ h1).trans a2, (World.frozen?_setCell _ _ _ _).trans a3, (World.frozen?_setCell _ _ _ _).trans a4, a5.set hp hc u, a6, a7⟩
theorem NRow.set {W : World} {R : Nat → Prop} {v : Value} {l : List Int} {p : Addr} {c : Value} (h : NRow W R v l) (hp : W.cell? p = some c) (hc : (∀ k, c ≠ .int .i64 k) ∨ ∀ k, R k → k ≠ p.block) (u : Value) : NRow (W.setCell p u) R v l := by
  obtain ⟨a, cap, rfl, h1, h2⟩ := h
  refine ⟨a, cap, rfl, h1, fun h0 => ?_⟩
  obtain ⟨b, off, rfl, hb, hd⟩ := h2 h0
  refine ⟨b, off, rfl, hb, fun j hj => ?_⟩
  rw [World.cell?_setCell_other _ _ _ _ (fun e => ?_)]
  · exact hd j hj
  · rcases hc with hc | hc
    · have h1 := hd j hj
      rw [← e, hp] at h1
      exact hc _ (Option.some.inj h1)
    · exact hc b hb (by rw [e])

/-- Block g is the custom stream C; all that it has lies within O: the answers and numbers within R, what was taken apart. -/
def CusAt (W : World) (O : Nat → Prop) (g : Nat) (C : CS) : Prop :=
  ∃ rv wv tv, ∃ R N : Nat → Prop, (W.cell? ⟨g, 0, none⟩ = some (.bool true) ∧ W.cell? ⟨g, 1, none⟩ = some rv ∧ W.cell? ⟨g, 2, none⟩ = some wv ∧ W.cell? ⟨g, 3, none⟩ = some tv) ∧
    (W.frozen? ⟨g, 1, none⟩ = false ∧ W.frozen? ⟨g, 2, none⟩ = false ∧ W.frozen? ⟨g, 3, none⟩ = false) ∧
    Ans W R rv (C.reads.map nrm) ∧ NRow W N wv C.writes ∧ W.ownsRow 0 5 1 tv C.taken.length (C.taken.map bv) ∧
    (∀ k, tv.ownBlock = some k → O k ∧ ¬ R k ∧ ¬ N k ∧ k ≠ g) ∧ (∀ k, R k → O k ∧ k ≠ g ∧ ¬ N k) ∧ (∀ k, N k → O k ∧ k ≠ g) ∧ O g ∧ C.reads.length ≤ 4096 ∧ C.writes.length ≤ 4096 ∧ ∀ x ∈ C.reads, x.1.length ≤ 1048576
def CStep (w : World) (O : Nat → Prop) (g : Nat) (C : CS) (w' : World) : Prop := ∃ O', CusAt w' O' g C ∧ (∀ k, O' k → O k ∨ w.heap.size ≤ k) ∧ Turned O w w'
theorem CusAt.keep {W W' : World} {O : Nat → Prop} {g : Nat} {C : CS} (h : CusAt W O g C) (hk : ∀ j, O j → j < W.heap.size → W'.heap[j]? = W.heap[j]?) : CusAt W' O g C := by
  obtain ⟨rv, wv, tv, R, N, ⟨h0, h1, h2, h3⟩, ⟨f1, f2, f3⟩, hA, hN, hT, ht, hR, hN2, og, rest⟩ := h
  have kg := hk g og (World.block_lt_of_cell? W _ h0)
  exact ⟨rv, wv, tv, R, N, ⟨(World.cell?_of_block (w := W) kg).trans h0, (World.cell?_of_block (w := W) kg).trans h1, (World.cell?_of_block (w := W) kg).trans h2, (World.cell?_of_block (w := W) kg).trans h3⟩,
    ⟨(World.frozen?_of_block (w := W) kg).trans f1, (World.frozen?_of_block (w := W) kg).trans f2, (World.frozen?_of_block (w := W) kg).trans f3⟩,
    hA.keep fun k e hl => hk k (hR k e).1 hl, hN.keep fun k e hl => hk k (hN2 k e).1 hl, owns_keep hT fun k e => hk k (ht k e).1 (hT.lt k e).2, ht, hR, hN2, og, rest⟩
theorem CusAt.below {W W' : World} {O : Nat → Prop} {g : Nat} {C : CS} (h : CusAt W O g C) (hB : Below W.heap.size W W') : CusAt W' O g C := h.keep fun j _ hl => hB.block j hl
theorem CusAt.trim {W : World} {O : Nat → Prop} {g : Nat} {C : CS} (h : CusAt W O g C) : CusAt W (fun k => O k ∧ k < W.heap.size) g C := by
  obtain ⟨rv, wv, tv, R, N, ⟨h0, h1, h2, h3⟩, hf, hA, hN, hT, ht, hR, hN2, og, rest⟩ := h
  have hgl := World.block_lt_of_cell? W _ h0
  refine ⟨rv, wv, tv, fun k => R k ∧ k < W.heap.size, fun k => N k ∧ k < W.heap.size, ⟨h0, h1, h2, h3⟩, hf, ?_, ?_, hT, fun k e => ⟨⟨(ht k e).1, (hT.lt k e).2⟩, fun x => (ht k e).2.1 x.1, fun x => (ht k e).2.2.1 x.1, (ht k e).2.2.2⟩, fun k e => ⟨⟨(hR k e.1).1, e.2⟩, (hR k e.1).2.1, fun x => (hR k e.1).2.2 x.1⟩, fun k e => ⟨⟨(hN2 k e.1).1, e.2⟩, (hN2 k e.1).2⟩, ⟨og, hgl⟩, rest⟩
  · obtain ⟨a, cap, rfl, b1, b2⟩ := hA
    refine ⟨a, cap, rfl, b1, fun h0 => ?_⟩
    obtain ⟨b, off, rfl, hb, hc⟩ := b2 h0
    refine ⟨b, off, rfl, ⟨hb, ?_⟩, fun j hj => ?_⟩
    · obtain ⟨va, vc, a1, _⟩ := hc 0 h0
      exact World.block_lt_of_cell? W _ a1
    · obtain ⟨va, vc, a1, a2, a3, a4, a5, a6, a7⟩ := hc j hj
      refine ⟨va, vc, a1, a2, a3, a4, a5, a6, fun h0 k e => ⟨a7 h0 k e, ?_⟩⟩
      obtain ⟨_, yb, yo, rfl, yl, _⟩ := bys_block a5 h0
      obtain rfl : yb = k := by simpa [Value.ownBlock] using e
      exact yl
  · obtain ⟨a, cap, rfl, b1, b2⟩ := hN
    refine ⟨a, cap, rfl, b1, fun h0 => ?_⟩
    obtain ⟨b, off, rfl, hb, hc⟩ := b2 h0
    exact ⟨b, off, rfl, ⟨hb, World.block_lt_of_cell? W _ (hc 0 h0)⟩, hc⟩
/-- Within the blocks that are there. -/
theorem cus_rows {W : World} {R N : Nat → Prop} {rv wv : Value} {l : List (List UInt8 × Int)} {ws : List Int} (hA : Ans W R rv l) (hN : NRow W N wv ws) : Ans W (fun k => R k ∧ k < W.heap.size) rv l ∧ NRow W (fun k => N k ∧ k < W.heap.size) wv ws := by
  constructor
  · obtain ⟨a, cap, rfl, b1, b2⟩ := hA
    refine ⟨a, cap, rfl, b1, fun h0 => ?_⟩
    obtain ⟨b, off, rfl, hb, hc⟩ := b2 h0
    refine ⟨b, off, rfl, ⟨hb, ?_⟩, fun j hj => ?_⟩
    · obtain ⟨va, vc, a1, _⟩ := hc 0 h0
      exact World.block_lt_of_cell? W _ a1
    · obtain ⟨va, vc, a1, a2, a3, a4, a5, a6, a7⟩ := hc j hj
      refine ⟨va, vc, a1, a2, a3, a4, a5, a6, fun h0 k e => ⟨a7 h0 k e, ?_⟩⟩
      obtain ⟨_, yb, yo, rfl, yl, _⟩ := bys_block a5 h0
      obtain rfl : yb = k := by simpa [Value.ownBlock] using e
      exact yl
  · obtain ⟨a, cap, rfl, b1, b2⟩ := hN
    refine ⟨a, cap, rfl, b1, fun h0 => ?_⟩
    obtain ⟨b, off, rfl, hb, hc⟩ := b2 h0
    exact ⟨b, off, rfl, ⟨hb, World.block_lt_of_cell? W _ (hc 0 h0)⟩, hc⟩
theorem CStep.same {w : World} {O : Nat → Prop} {g : Nat} {C : CS} (h : CusAt w O g C) : CStep w O g C w := ⟨O, h, fun _ e => .inl e, Turned.refl _ _⟩
theorem CStep.below {w w' : World} {O : Nat → Prop} {g : Nat} {C : CS} (h : CusAt w O g C) (hB : Below w.heap.size w w') : CStep w O g C w' := ⟨O, h.below hB, fun _ e => .inl e, Turned.of_below hB⟩

theorem Ans.head {W : World} {R : Nat → Prop} {v : Value} {x : List UInt8 × Int} {r : List (List UInt8 × Int)} (h : Ans W R v (x :: r)) :
    ∃ b off cap, v = .slice (some ⟨b, off, none⟩) (r.length + 1) cap ∧ r.length + 1 ≤ cap ∧ R b ∧ Ans1 W R b off x ∧ ∀ j (hj : j < r.length), Ans1 W R b (off + 2 + j * 2) r[j] := by
  obtain ⟨a, cap, rfl, h1, h2⟩ := h
  obtain ⟨b, off, rfl, hb, hc⟩ := h2 (by simp)
  refine ⟨b, off, cap, rfl, h1, hb, by have h := hc 0 (Nat.succ_pos _); rw [Nat.zero_mul, Nat.add_zero] at h; exact h, fun j hj => ?_⟩
  have := hc (j + 1) (by simpa using hj)
  rw [show off + (j + 1) * 2 = off + 2 + j * 2 by omega] at this
  simpa using this
set_option maxRecDepth 100000 in
set_option maxHeartbeats 1000000 in
theorem mclone_any (v : Value) (l : List UInt8) (w : World) (h : Bys w v l) (hs : l.length ≤ 140737488351232) :
    Calls Try.prog 59 #[v] w fun e w' => ∃ u, e = .returned u ∧ w'.ownsRow w.heap.size 5 1 u l.length (l.map bv) ∧ Below w.heap.size w w' := by
  have hmade : (w.alloc (Obj.cells #[] 5)).ownsRow w.heap.size 5 1 (.slice (some ⟨w.heap.size, 0, none⟩) 0 0) ([] : List UInt8).length (([] : List UInt8).map bv) := World.ownsRow_made _ _ _ (Nat.le_refl _) (by decide) rfl
  have hB := recv4 w (Obj.cells #[] 5)
  obtain ⟨s', w1, hrun, HO, hg, hb⟩ := run_append_bytes (w.alloc (Obj.cells #[] 5)) 22 w.heap.size _ v [] l hmade (h.below hB) (by simpa using hs) hB.size
  have HR := hide hrun
  have HB : Hid (Below w.heap.size w w1) := hide (hB.grown hg hB.size (fun j e => by
    have : w.heap.size = j := by simpa [Value.ownBlock] using e
    omega))
  rcases h with ⟨rfl, rfl⟩ | ⟨a, cap, rfl, rfl⟩ | ⟨b, off, cap, rfl, h0, -⟩
  · have hnil : ∀ W, (binOp .eql 22 (.slice none 0 0) (.slice none 0 0)).run Try.prog W = .ok (.bool true) W := fun W => Lib.run_eql_slice_nil_nil W _ _ Try.underlying22
    go_enter Try.func59, Try.ntmps59
    go_wp2
    go_ret
    exact ⟨_, rfl, World.ownsRow_nil _ _ _ _, Below.refl _ _⟩
  · have hnil : ∀ W, (binOp .eql 22 (.slice (some a) 0 cap) (.slice none 0 0)).run Try.prog W = .ok (.bool false) W := fun W => Lib.run_eql_slice_some_nil W _ _ _ Try.underlying22
    clear hrun hg hb hmade hB
    go_enter Try.func59, Try.ntmps59
    go_wp2_with (at_builtin; refine Lib.wpList_append_run _ rfl _ _ _ _ rfl _ _ rfl rfl _ _ HR.out ?_)
    go_ret
    exact ⟨_, rfl, HO.out, HB.out⟩
  · have hnil : ∀ W, (binOp .eql 22 (.slice (some ⟨b, off, none⟩) l.length cap) (.slice none 0 0)).run Try.prog W = .ok (.bool false) W := fun W => Lib.run_eql_slice_some_nil W _ _ _ Try.underlying22
    clear hrun hg hb hmade hB
    go_enter Try.func59, Try.ntmps59
    go_wp2_with (at_builtin; refine Lib.wpList_append_run _ rfl _ _ _ _ rfl _ _ rfl rfl _ _ HR.out ?_)
    go_ret
    exact ⟨_, rfl, HO.out, HB.out⟩
end Go.Proofs.Ytibnpeipndkciaa

/- A custom stream is made: copiedAnswers. -/
namespace Go.Proofs.Ytibnpeipndkciaa
open Go.RowKit

/-- Answers that came in. -/
def AnsR (W : World) (v : Value) (l : List (List UInt8 × Int)) : Prop :=
  ∃ a cap, v = .slice a l.length cap ∧ (0 < l.length → ∃ b off, a = some ⟨b, off, none⟩ ∧ ∀ j (hj : j < l.length), ∃ va vc, W.cell? ⟨b, off + j * 2, none⟩ = some (.slice va l[j].1.length vc) ∧ W.cell? ⟨b, off + j * 2 + 1, none⟩ = some (.int .i64 l[j].2) ∧ Bys W (.slice va l[j].1.length vc) l[j].1 ∧ l[j].1.length ≤ vc)
theorem AnsR.below {W W' : World} {v : Value} {l : List (List UInt8 × Int)} (h : AnsR W v l) (hB : Below W.heap.size W W') : AnsR W' v l := by
  obtain ⟨a, cap, rfl, h2⟩ := h
  refine ⟨a, cap, rfl, fun h0 => ?_⟩
  obtain ⟨b, off, rfl, hd⟩ := h2 h0
  refine ⟨b, off, rfl, fun j hj => ?_⟩
  obtain ⟨va, vc, a1, a2, a3, a4⟩ := hd j hj
  have hl := World.block_lt_of_cell? W _ a1
  exact ⟨va, vc, (hB.cell (p := ⟨b, off + j * 2, none⟩) hl).trans a1, (hB.cell (p := ⟨b, off + j * 2 + 1, none⟩) hl).trans a2, a3.below hB, a4⟩
/-- A place that is not filled yet. -/
def Zer (W : World) (b o : Nat) : Prop := W.cell? ⟨b, o, none⟩ = some (.slice none 0 0) ∧ W.cell? ⟨b, o + 1, none⟩ = some (.int .i64 0) ∧ W.frozen? ⟨b, o, none⟩ = false ∧ W.frozen? ⟨b, o + 1, none⟩ = false
/-- The first k answers are laid, the others are not yet. -/
def AInv (W : World) (R : Nat → Prop) (b k : Nat) (l : List (List UInt8 × Int)) : Prop := ∀ j (hj : j < l.length), (j < k → Ans1 W R b (j * 2) (nrm l[j])) ∧ (k ≤ j → Zer W b (j * 2))
theorem Zer.keep {W W' : World} {b o : Nat} (h : Zer W b o) (hk : W'.heap[b]? = W.heap[b]?) : Zer W' b o :=
  ⟨(World.cell?_of_block (w := W) hk).trans h.1, (World.cell?_of_block (w := W) hk).trans h.2.1, (World.frozen?_of_block (w := W) hk).trans h.2.2.1, (World.frozen?_of_block (w := W) hk).trans h.2.2.2⟩
theorem AInv.below {W W' : World} {R : Nat → Prop} {b k : Nat} {l : List (List UInt8 × Int)} (h : AInv W R b k l) (hb : R b) (hB : Below W.heap.size W W') : AInv W' R b k l := fun j hj =>
  ⟨fun e => ((h j hj).1 e).keep hb (fun x _ hl => hB.block x hl), fun e => ((h j hj).2 e).keep (hB.block b (World.block_lt_of_cell? W _ ((h j hj).2 e).1))⟩
/-- All others. -/
def AOth (W : World) (R : Nat → Prop) (b k : Nat) (l : List (List UInt8 × Int)) : Prop := ∀ j (hj : j < l.length), j ≠ k → (j < k → Ans1 W R b (j * 2) (nrm l[j])) ∧ (k ≤ j → Zer W b (j * 2))
theorem AInv.oth {W : World} {R : Nat → Prop} {b k : Nat} {l : List (List UInt8 × Int)} (h : AInv W R b k l) : AOth W R b k l := fun j hj _ => h j hj
theorem AOth.below {W W' : World} {R : Nat → Prop} {b k : Nat} {l : List (List UInt8 × Int)} (h : AOth W R b k l) (hb : R b) (hB : Below W.heap.size W W') : AOth W' R b k l := fun j hj hn =>
  ⟨fun e => ((h j hj hn).1 e).keep hb (fun x _ hl => hB.block x hl), fun e => ((h j hj hn).2 e).keep (hB.block b (World.block_lt_of_cell? W _ ((h j hj hn).2 e).1))⟩
theorem AOth.set {W : World} {R : Nat → Prop} {b k o : Nat} {l : List (List UInt8 × Int)} {c : Value} (h : AOth W R b k l) (hp : W.cell? ⟨b, o, none⟩ = some c) (hc : ∀ x, c ≠ .int .u8 x) (ho : o = k * 2 ∨ o = k * 2 + 1) (u : Value) : AOth (W.setCell ⟨b, o, none⟩ u) R b k l := fun j hj hn => by
  have e1 : (⟨b, o, none⟩ : Addr) ≠ ⟨b, j * 2, none⟩ := by simp <;> omega
  have e2 : (⟨b, o, none⟩ : Addr) ≠ ⟨b, j * 2 + 1, none⟩ := by simp <;> omega
  refine ⟨fun e => ((h j hj hn).1 e).set hp hc e1 e2 u, fun e => ?_⟩
  obtain ⟨a1, a2, a3, a4⟩ := (h j hj hn).2 e
  exact ⟨(World.cell?_setCell_other _ _ _ _ e1).trans a1, (World.cell?_setCell_other _ _ _ _ e2).trans a2, (World.frozen?_setCell _ _ _ _).trans a3, (World.frozen?_setCell _ _ _ _).trans a4⟩
theorem AOth.next {W : World} {R : Nat → Prop} {b k : Nat} {l : List (List UInt8 × Int)} (h : AOth W R b k l) (hk : k < l.length) (h2 : Ans1 W R b (k * 2) (nrm l[k])) : AInv W R b (k + 1) l := fun j hj => by
  by_cases hjk : j = k
  · subst hjk
    exact ⟨fun _ => h2, fun e => absurd e (by omega)⟩
  · exact ⟨fun e => (h j hj hjk).1 (by omega), fun e => (h j hj hjk).2 (by omega)⟩

end Go.Proofs.Ytibnpeipndkciaa

/- A custom stream is made. -/
namespace Go.Proofs.Ytibnpeipndkciaa
open Go.RowKit

/-- Numbers that came in. -/
def IntsR (W : World) (v : Value) (l : List Int) : Prop :=
  (v = .slice none 0 0 ∧ l = []) ∨ ∃ q cap, v = .slice (some q) l.length cap ∧ (0 < l.length → ∃ b off, q = ⟨b, off, none⟩ ∧ ∀ j (hj : j < l.length), W.cell? ⟨b, off + j, none⟩ = some (.int .i64 l[j]))
theorem IntsR.below {W W' : World} {v : Value} {l : List Int} (h : IntsR W v l) (hB : Below W.heap.size W W') : IntsR W' v l := by
  rcases h with h | ⟨q, cap, rfl, h2⟩
  · exact .inl h
  · refine .inr ⟨q, cap, rfl, fun h0 => ?_⟩
    obtain ⟨b, off, rfl, hd⟩ := h2 h0
    exact ⟨b, off, rfl, fun j hj => (hB.cell (p := ⟨b, off + j, none⟩) (World.block_lt_of_cell? W _ (hd j hj))).trans (hd j hj)⟩
theorem IntsR.form {W : World} {v : Value} {l : List Int} (h : IntsR W v l) : ∃ a c, v = .slice a l.length c := by
  rcases h with ⟨rfl, rfl⟩ | ⟨q, cap, rfl, _⟩
  · exact ⟨_, _, rfl⟩
  · exact ⟨_, _, rfl⟩
/-- An int as a cell. -/
def iv (x : Int) : Value := .int .i64 x
/-- append([]int(nil), x...). -/
theorem run_append_ints (w : World) (ty : TypeId) (x : Value) (l : List Int) (hx : IntsR w x l) (hn : l.length * 8 ≤ 140737488351232) :
    ∃ s' w', (Builtin.append_ #[23, 23] ty #[.slice none 0 0, x]).run Try.prog w = .ok s' w' ∧ Hid (w'.ownsRow w.heap.size 3 1 s' l.length (l.map iv)) ∧ w.grownBy w' none := by
  refine (?_ : ∃ s' w', (Builtin.append_ #[23, 23] ty #[.slice none 0 0, x]).run Try.prog w = .ok s' w' ∧ w'.ownsRow w.heap.size 3 1 s' l.length (l.map iv) ∧ w.grownBy w' none)
  obtain ⟨i0, hi, hz0, hz1, hz2⟩ := info_parts Try.infoI
  have h0 : w.ownsRow w.heap.size 3 1 (.slice none 0 0) 0 [] := World.ownsRow_nil _ _ _ _
  rcases hx with ⟨rfl, rfl⟩ | ⟨q, cap, rfl, hc⟩
  · exact ⟨_, w, run_append_owned_none (P := Try.prog) w w.heap.size _ ty _ i0 1 Try.underlying23 hi _ _ _ h0, by simpa using h0, ⟨rfl, rfl, rfl, Nat.le_refl _, fun _ _ _ => rfl⟩⟩
  · obtain ⟨v', w', h1, h2, h3, _, h5⟩ := run_append_own_at (P := Try.prog) w w.heap.size 23 ty 3 i0 (.int .i64 0) 1 8 Try.underlying23 hi hz0 hz1 hz2 rfl (by decide) (.slice none 0 0) 0 [] h0 q l.length cap (l.map iv) (by simp) (fun j u hj => by
      have hj' : j < l.length := by have := (List.getElem?_eq_some_iff.1 hj).1; simpa using this
      obtain ⟨b, off, rfl, hd⟩ := hc (by omega)
      have hadd : (⟨b, off, none⟩ : Addr).add j = ⟨b, off + j, none⟩ := by unfold Addr.add; split <;> simp_all
      rw [hadd, hd j hj']
      simpa [iv, List.getElem?_eq_getElem hj'] using hj) (fun u hu => by
      obtain ⟨c, _, rfl⟩ := List.mem_map.1 hu
      rfl) (by unfold maxLen; omega) (by omega) (Nat.le_refl _)
    refine ⟨v', w', h1, by simpa using h2, ?_⟩
    simpa [Value.ownBlock] using h3
/-- A row of ints of one's own. -/
theorem owns_nrow {W : World} {base : Nat} {v : Value} {l : List Int} {N : Nat → Prop} (h : W.ownsRow base 3 1 v l.length (l.map iv)) (hN : ∀ k, v.ownBlock = some k → N k) : NRow W N v l := by
  rcases h.2 with ⟨rfl, h0⟩ | ⟨g, cap, cur, rfl, h1, h2, h3, h4, h5, h6⟩
  · have hl : l = [] := by simpa using h0
    subst hl
    exact ⟨_, _, rfl, Nat.le_refl _, fun h => absurd h (by simp)⟩
  · refine ⟨_, cap, rfl, h3, fun _ => ⟨g, 0, rfl, hN g rfl, fun j hj => ?_⟩⟩
    have := h.cellAt j (by omega)
    rw [Nat.zero_add, this]
    simp [iv, List.getElem?_eq_getElem hj]

/-- What NewCustom answers. -/
def cusE (l : List (List UInt8 × Int)) (ws : List Int) : Int := if 4096 < l.length ∨ 4096 < ws.length then 3 else if ∃ x ∈ l, 1048576 < x.1.length then 5 else 0
def CusNew (l : List (List UInt8 × Int)) (ws : List Int) (w : World) (e : Ending) (w' : World) : Prop := ((∃ x ∈ l, 1048576 < x.1.length) ∧ e = .returned (.tuple #[.pointer none, .int .i64 5]) ∧ Below w.heap.size w w') ∨
  ((∀ x ∈ l, x.1.length ≤ 1048576) ∧ ∃ g, e = .returned (.tuple #[.pointer (some ⟨g, 0, none⟩), .int .i64 0]) ∧ CusAt w' (fun k => w.heap.size ≤ k) g ⟨l, ws, []⟩ ∧ Below w.heap.size w w')

end Go.Proofs.Ytibnpeipndkciaa

/- Lines, steps, answers and numbers that came in as an argument: what a walk is told of them, and their sizes. -/
namespace Go.Proofs.Ytibnpeipndkciaa
open Go.ChangeShapes Go.WideShapes Go.ChangeAt Go.RowKit Go.Deep

/-- Lines. -/
def MLns (W : World) (v : Value) (ls : List (List UInt8)) : Prop := RowsR W 1 (fun cs x => ∃ u, cs = [u] ∧ ByC W u x) v ls
theorem mlns_arg {H : Type} {enc : TypeId × Value → H} {P : Program} {W : World} {base : Nat} {a : Option Addr} {len cap fuel t e u : Nat} {d : DataW H} {p : List MemPlace}
    (ht : P.underlying t = some (.slice e)) (he : P.underlying e = some (.slice u)) (ce : P.cellsOf e = 1) (hu : P.underlying u = some (.int .u8)) (cu : P.cellsOf u = 1)
    (hf : DataW.trod enc P W base (fun _ => true) true fuel t (Value.slice a len cap).cells.toList = some (d, p)) : ∃ l, MLns W (.slice a len cap) l ∧ DatL Kp_DataOf d l :=
  rows_arg 1 _ Kp_DataOf ht ce (by decide) (fun fuel cs d p h hl => by
    match cs, hl with
    | [v0], _ =>
      obtain ⟨x, h1, h2⟩ := byc_arg he hu cu h
      exact ⟨x, ⟨v0, rfl, h1⟩, h2⟩) hf
theorem MLns.at {W W' : World} {a : Option Addr} {n c : Nat} {ls : List (List UInt8)} (h : MLns W (.slice a n c) ls) (hB : Below W.heap.size W W') (j : Nat) (hj : j < ls.length) :
    ∃ b off va vc, a = some ⟨b, off, none⟩ ∧ W'.cell? ⟨b, off + j, none⟩ = some (.slice va ls[j].length vc) ∧ Bys W (.slice va ls[j].length vc) ls[j] ∧ ls[j].length ≤ vc ∧ b < W.heap.size := by
  obtain ⟨b, off, cs, rfl, ⟨u, rfl, va, vc, rfl, hb, hc⟩, _, h3⟩ := RowsR.at h j hj
  have h4 := h3 0 _ rfl
  rw [Nat.mul_one, Nat.add_zero] at h4
  have hl := World.block_lt_of_cell? W _ h4
  exact ⟨b, off, va, vc, rfl, (hB.cell (p := ⟨b, off + j, none⟩) hl).trans h4, hb, hc, hl⟩
/-- A step: what, two numbers, bytes. -/
structure MSt where
  what : Int
  n : Int
  m : Int
  data : List UInt8
def MCells (W : World) (cs : List Value) (x : MSt) : Prop := ∃ va vc, cs = [.int .i64 x.what, .int .i64 x.n, .int .i64 x.m, .slice va x.data.length vc] ∧ Bys W (.slice va x.data.length vc) x.data ∧ x.data.length ≤ vc
def MDat {H : Type} (d : DataW H) (x : MSt) : Prop := ∃ x0 x1 x2 d3, d = .agg [x0, x1, x2, d3] ∧ Kp_DataOf d3 x.data
def MSts (W : World) (v : Value) (l : List MSt) : Prop := RowsR W 4 (MCells W) v l
theorem mst_cells {H : Type} {enc : TypeId × Value → H} {P : Program} {W : World} {base : Nat} {fuel e u : Nat} {f0 f1 f2 f3 : Field} {cs : List Value} {d : DataW H} {p : List MemPlace}
    (he : P.underlying e = some (.struct #[f0, f1, f2, f3])) (ce : P.cellsOf e = 4) (o0 : f0.offset = 0) (o1 : f1.offset = 1) (o2 : f2.offset = 2) (o3 : f3.offset = 3)
    (c0 : P.cellsOf f0.type = 1) (c1 : P.cellsOf f1.type = 1) (c2 : P.cellsOf f2.type = 1) (c3 : P.cellsOf f3.type = 1)
    (t0 : P.underlying f0.type = some (.int .i64)) (t1 : P.underlying f1.type = some (.int .i64)) (t2 : P.underlying f2.type = some (.int .i64)) (t3 : P.underlying f3.type = some (.slice u)) (tu : P.underlying u = some (.int .u8)) (cu : P.cellsOf u = 1)
    (h : DataW.trod enc P W base (fun _ => true) true fuel e cs = some (d, p)) : ∃ x : MSt, MCells W cs x ∧ MDat d x := by
  obtain ⟨xs, k, hk, hxy, hcl, hxl, hf⟩ := DataW.trod_struct he h
  rw [ce] at hcl
  match xs, hxl, cs, hcl with
  | [y0, y1, y2, y3], _, [v0, v1, v2, v3], _ =>
    have g0 := hf 0 f0 rfl
    have g1 := hf 1 f1 rfl
    have g2 := hf 2 f2 rfl
    have g3 := hf 3 f3 rfl
    simp [o0, c0] at g0
    simp [o1, c1] at g1
    simp [o2, c2] at g2
    simp [o3, c3] at g3
    obtain ⟨a, ha, _⟩ := DataW.trod_int t0 g0
    obtain ⟨b, hb, _⟩ := DataW.trod_int t1 g1
    obtain ⟨c, hc, _⟩ := DataW.trod_int t2 g2
    obtain rfl : v0 = .int .i64 a := by simpa using ha
    obtain rfl : v1 = .int .i64 b := by simpa using hb
    obtain rfl : v2 = .int .i64 c := by simpa using hc
    obtain ⟨y3a, y3b⟩ := y3
    obtain ⟨x, ⟨va, vc, rfl, h1, h2⟩, hD⟩ := byc_arg t3 tu cu g3
    simp only [Prod.mk.injEq] at hxy
    exact ⟨⟨a, b, c, x⟩, ⟨va, vc, rfl, h1, h2⟩, ⟨_, _, _, y3a, by simpa using hxy.1, hD⟩⟩
theorem MSts.at {W W' : World} {a : Option Addr} {n c : Nat} {l : List MSt} (h : MSts W (.slice a n c) l) (hB : Below W.heap.size W W') (j : Nat) (hj : j < l.length) :
    ∃ b off va vc, a = some ⟨b, off, none⟩ ∧ b < W.heap.size ∧ (W'.cell? ⟨b, off + j * 4, none⟩ = some (.int .i64 l[j].what) ∧ W'.cell? ⟨b, off + j * 4 + 1, none⟩ = some (.int .i64 l[j].n) ∧ W'.cell? ⟨b, off + j * 4 + 2, none⟩ = some (.int .i64 l[j].m) ∧ W'.cell? ⟨b, off + j * 4 + 3, none⟩ = some (.slice va l[j].data.length vc)) ∧
      Bys W (.slice va l[j].data.length vc) l[j].data ∧ l[j].data.length ≤ vc := by
  obtain ⟨b, off, cs, rfl, ⟨va, vc, rfl, r1, r2⟩, _, h3⟩ := RowsR.at h j hj
  have hl : b < W.heap.size := World.block_lt_of_cell? W _ (h3 0 _ rfl)
  have key : ∀ i v, W.cell? ⟨b, off + j * 4 + i, none⟩ = some v → W'.cell? ⟨b, off + j * 4 + i, none⟩ = some v := fun i v hv => (hB.cell (p := ⟨b, off + j * 4 + i, none⟩) hl).trans hv
  exact ⟨b, off, va, vc, rfl, hl, ⟨key 0 _ (h3 0 _ rfl), key 1 _ (h3 1 _ rfl), key 2 _ (h3 2 _ rfl), key 3 _ (h3 3 _ rfl)⟩, r1, r2⟩
end Go.Proofs.Ytibnpeipndkciaa

/- A state that came in as an argument. -/
namespace Go.Proofs.Ytibnpeipndkciaa
open Go.ChangeShapes Go.WideShapes Go.ChangeAt Go.RowKit Go.Deep

set_option maxRecDepth 100000 in
set_option maxHeartbeats 1000000 in
theorem state_cells {H : Type} {enc : TypeId × Value → H} {W : World} {base : Nat} {fuel : Nat} {cs : List Value} {d : DataW H} {p : List MemPlace}
    (h : DataW.trod enc Try.prog W base (fun _ => true) true fuel 59 cs = some (d, p)) : ∃ (x : SS) (o i b : Value), cs = [.bool x.rd, .bool x.wt, .int .i64 x.mode, .int .i64 x.size, o, i, b, .int .i64 x.dir, .bool x.fin, .bool x.bad, .bool x.closed] ∧ Sl W o x.out ∧ Sl W i x.inn ∧ Sl W b x.back ∧ ∃ d0 d1 d2 d3 d4 d5 d6 d7 d8 d9 d10, d = .agg [d0, d1, d2, d3, d4, d5, d6, d7, d8, d9, d10] ∧ Kp_DataOf d4 x.out ∧ Kp_DataOf d5 x.inn ∧ Kp_DataOf d6 x.back := by
  obtain ⟨xs, k, hk, hxy, hcl, hxl, hf⟩ := DataW.trod_struct Try.underlying59 h
  rw [show Try.prog.cellsOf 59 = 11 by kernel_rfl] at hcl
  match xs, hxl, cs, hcl with
  | [y0, y1, y2, y3, y4, y5, y6, y7, y8, y9, y10], _, [v0, v1, v2, v3, v4, v5, v6, v7, v8, v9, v10], _ =>
    have ci : Try.prog.cellsOf 3 = 1 := by kernel_rfl
    have cb : Try.prog.cellsOf 22 = 1 := by kernel_rfl
    have co : Try.prog.cellsOf 4 = 1 := by kernel_rfl
    have cu : Try.prog.cellsOf 5 = 1 := by kernel_rfl
    have g0 := hf 0 _ rfl
    have g1 := hf 1 _ rfl
    have g2 := hf 2 _ rfl
    have g3 := hf 3 _ rfl
    have g4 := hf 4 _ rfl
    have g5 := hf 5 _ rfl
    have g6 := hf 6 _ rfl
    have g7 := hf 7 _ rfl
    have g8 := hf 8 _ rfl
    have g9 := hf 9 _ rfl
    have g10 := hf 10 _ rfl
    simp [co] at g0 g1 g8 g9 g10
    simp [ci] at g2 g3 g7
    simp [cb] at g4 g5 g6
    obtain ⟨a0, h0, _⟩ := DataW.trod_bool Try.underlying4 g0
    obtain ⟨a1, h1, _⟩ := DataW.trod_bool Try.underlying4 g1
    obtain ⟨a2, h2, _⟩ := DataW.trod_int Try.underlying3 g2
    obtain ⟨a3, h3, _⟩ := DataW.trod_int Try.underlying3 g3
    obtain ⟨a7, h7, _⟩ := DataW.trod_int Try.underlying3 g7
    obtain ⟨a8, h8, _⟩ := DataW.trod_bool Try.underlying4 g8
    obtain ⟨a9, h9, _⟩ := DataW.trod_bool Try.underlying4 g9
    obtain ⟨a10, h10, _⟩ := DataW.trod_bool Try.underlying4 g10
    obtain rfl : v0 = .bool a0 := by simpa using h0
    obtain rfl : v1 = .bool a1 := by simpa using h1
    obtain rfl : v2 = .int .i64 a2 := by simpa using h2
    obtain rfl : v3 = .int .i64 a3 := by simpa using h3
    obtain rfl : v7 = .int .i64 a7 := by simpa using h7
    obtain rfl : v8 = .bool a8 := by simpa using h8
    obtain rfl : v9 = .bool a9 := by simpa using h9
    obtain rfl : v10 = .bool a10 := by simpa using h10
    obtain ⟨y4a, y4b⟩ := y4
    obtain ⟨y5a, y5b⟩ := y5
    obtain ⟨y6a, y6b⟩ := y6
    obtain ⟨x4, k4, D4⟩ := byc_arg Try.underlying22 Try.underlying5 cu g4
    obtain ⟨x5, k5, D5⟩ := byc_arg Try.underlying22 Try.underlying5 cu g5
    obtain ⟨x6, k6, D6⟩ := byc_arg Try.underlying22 Try.underlying5 cu g6
    simp only [Prod.mk.injEq] at hxy
    have sl : ∀ {v : Value} {l : List UInt8}, ByC W v l → Sl W v l := fun h => by
      obtain ⟨va, vc, rfl, h1, h2⟩ := h
      exact ⟨va, vc, rfl, h1, h2⟩
    exact ⟨⟨a0, a1, a2, a3, x4, x5, x6, a7, a8, a9, a10⟩, _, _, _, rfl, sl k4, sl k5, sl k6, ⟨_, _, _, _, y4a, y5a, y6a, _, _, _, _, by simpa using hxy.1, D4, D5, D6⟩⟩
end Go.Proofs.Ytibnpeipndkciaa

/- Spoil turns the block of its slice, and no other. -/
namespace Go.Proofs.Ytibnpeipndkciaa
open Go.RowKit

set_option maxRecDepth 100000 in
set_option maxHeartbeats 1000000 in
theorem Kp_spoil_turn (base : Nat) (v : Value) (n : Nat) (xs : List Value) (w : World) (h : w.ownsRow base 5 1 v n xs) (hx : ∀ u ∈ xs, ∃ c, u = .int .u8 c) (hs : n ≤ maxLen) :
    Calls Try.prog 23 #[v] w fun e w' => e = .returned (.tuple #[]) ∧ Turned (fun k => v.ownBlock = some k) w w' := by
  unfold maxLen at hs
  rcases h.2 with ⟨rfl, h0⟩ | ⟨g, cap, cur, rfl, hbg, -⟩
  · go_enter Try.func23, Try.ntmps23
    go_wp2
    go_loopw [2] (fun i wr => i = .int .i64 0 ∧ wr = w) (fun _ _ => 0)
    case atStart => exact ⟨rfl, rfl⟩
    case round =>
      obtain ⟨rfl, rfl⟩ := hrel
      go_wp2
      go_end0
      exact ⟨rfl, Turned.refl _ _⟩
  · have HO := hide h
    have HX := hide hx
    have hlen : xs.length = n := by have := h.1; omega
    clear h hx
    go_enter Try.func23, Try.ntmps23
    go_wp2
    go_loopw [2] (fun i wr => ∃ (k : Nat) (ys : List Value), k ≤ n ∧ i = .int .i64 k ∧ ys.length = n ∧ (∀ u ∈ ys, ∃ c, u = .int .u8 c) ∧ wr.ownsRow base 5 1 (.slice (some ⟨g, 0, none⟩) n cap) n ys ∧ Turned (fun k => (Value.slice (some ⟨g, 0, none⟩) n cap).ownBlock = some k) w wr) (fun i _ => n - (intOf i).toNat)
    case atStart => exact ⟨0, xs, Nat.zero_le _, rfl, hlen, HX.out, HO.out, Turned.refl _ _⟩
    case round =>
      clear HO HX hlen
      obtain ⟨k, ys, hk, rfl, hlen, hys, hown, hT⟩ := hrel
      have HT := hide hT
      clear hT
      by_cases hlt : k < n
      · obtain ⟨c, hc⟩ := hys ys[k] (List.getElem_mem _)
        have hcell := hown.cellAt k (by omega)
        rw [List.getElem?_eq_getElem (by omega), hc] at hcell
        have hfr := hown.frozenAt k
        have HY := hide hys
        have HO := hide hown
        have HL := hide hlen
        clear hys hown hc hlen
        go_wp2
        go_roundw
        case rel =>
          obtain ⟨hst, hgr⟩ := HO.out.stored k (Value.int .u8 (bits .xor .u8 c 85))
          refine ⟨k + 1, _, by omega, by go_num, ?_, ?_, hst, HT.out.set (.inl rfl)⟩
          · rw [List.length_set]; exact HL.out
          · intro u hu
            rcases List.mem_or_eq_of_mem_set hu with h | h
            · exact HY.out u h
            · exact ⟨_, h⟩
        case measure => simp [intOf]; omega
      · go_wp2
        go_end0
        exact ⟨rfl, HT.out⟩
theorem Kp_bv_ints (l : List UInt8) : ∀ u ∈ l.map bv, ∃ c, u = .int .u8 c := by
  intro u hu
  obtain ⟨c, _, rfl⟩ := List.mem_map.1 hu
  exact ⟨_, rfl⟩
end Go.Proofs.Ytibnpeipndkciaa

/- What the proof stands on, part 4: the contracts of the program's calls that it reaches. -/
import Derived.Test.YtdmkjbdlidadiaaGreatKP3
import Derived.Laws.AppendOwnNone
import Derived.Laws.OwnMore
import Derived.Lib.BufferMore
import Derived.Deep.QuietTactic
import Derived.BigQuiet
import Derived.Laws.StructEq
import Derived.Deep.RegionLaw
import Derived.Deep.RegionWith
/- Lists of faults in memory; CopyFaults, SameFaults, Clone, Check and the reference's Check, for any faults. -/
namespace Go.Proofs.YtdmkjbdlidadiaaGreat
open Go.RowKit

abbrev Fault := Int × Int
def fcs (l : List Fault) : List Value := l.flatMap fun x => [.int .i64 x.1, .int .i64 x.2]
def Flts (W : World) (v : Value) (l : List Fault) : Prop :=
  (v = .slice none 0 0 ∧ l = []) ∨ (∃ a cap, v = .slice (some a) 0 cap ∧ l = []) ∨
  ∃ b off cap, v = .slice (some ⟨b, off, none⟩) l.length cap ∧ 0 < l.length ∧ l.length ≤ cap ∧ ∀ j, j < l.length → W.cell? ⟨b, off + j * 2, none⟩ = some (.int .i64 (l.getD j (0, 0)).1) ∧ W.cell? ⟨b, off + j * 2 + 1, none⟩ = some (.int .i64 (l.getD j (0, 0)).2)

theorem fcs_even (l : List Fault) (j : Nat) (h : j < l.length) : (fcs l)[j * 2]? = some (.int .i64 (l.getD j (0, 0)).1) := by
  induction l generalizing j with
  | nil => simp at h
  | cons x r ih =>
    cases j with
    | zero => simp [fcs]
    | succ j =>
      have := ih j (by simpa using h)
      simp only [fcs, List.flatMap_cons] at this ⊢
      rw [show (j + 1) * 2 = j * 2 + 2 by omega]
      simpa using this
theorem fcs_odd (l : List Fault) (j : Nat) (h : j < l.length) : (fcs l)[j * 2 + 1]? = some (.int .i64 (l.getD j (0, 0)).2) := by
  induction l generalizing j with
  | nil => simp at h
  | cons x r ih =>
    cases j with
    | zero => simp [fcs]
    | succ j =>
      have := ih j (by simpa using h)
      simp only [fcs, List.flatMap_cons] at this ⊢
      rw [show (j + 1) * 2 + 1 = j * 2 + 1 + 2 by omega]
      simpa using this
theorem Flts.lift {W W' : World} {v : Value} {l : List Fault} (h : Flts W v l) (hB : ∀ k, v.ownBlock = some k → k < W.heap.size → W'.heap[k]? = W.heap[k]?) : Flts W' v l := by
  rcases h with h | h | ⟨b, off, cap, rfl, h0, hcap, hc⟩
  · exact .inl h
  · exact .inr (.inl h)
  · refine .inr (.inr ⟨b, off, cap, rfl, h0, hcap, fun j hj => ?_⟩)
    have h1 := World.block_lt_of_cell? W _ (hc j hj).1
    have h2 := hB b rfl h1
    exact ⟨(World.cell?_of_block (w := W) h2).trans (hc j hj).1, (World.cell?_of_block (w := W) h2).trans (hc j hj).2⟩
theorem Flts.below {W W' : World} {v : Value} {l : List Fault} (h : Flts W v l) (hB : Below W.heap.size W W') : Flts W' v l :=
  h.lift fun k _ hk => hB.block k hk
theorem Flts.of_owns {W : World} {base : Nat} {v : Value} {l : List Fault} (h : W.ownsRow base 224 2 v l.length (fcs l)) : Flts W v l := by
  rcases h.2 with ⟨rfl, h0⟩ | ⟨g, cap, cur, rfl, _, _, hcap, _⟩
  · exact .inl ⟨rfl, by simpa using h0⟩
  · by_cases hl : l.length = 0
    · exact .inr (.inl ⟨_, _, by rw [hl], List.length_eq_zero_iff.1 hl⟩)
    · refine .inr (.inr ⟨g, 0, cap, rfl, by omega, hcap, fun j hj => ?_⟩)
      rw [Nat.zero_add, h.cellAt (j * 2) (by omega), h.cellAt (j * 2 + 1) (by omega), fcs_even l j hj, fcs_odd l j hj]
      exact ⟨rfl, rfl⟩
theorem flts_form {W : World} {v : Value} {l : List Fault} (h : Flts W v l) : ∃ a1 c1, v = .slice a1 l.length c1 ∧ (0 < l.length → ∃ b off, a1 = some ⟨b, off, none⟩ ∧ ∀ j, j < l.length → W.cell? ⟨b, off + j * 2, none⟩ = some (.int .i64 (l.getD j (0, 0)).1) ∧ W.cell? ⟨b, off + j * 2 + 1, none⟩ = some (.int .i64 (l.getD j (0, 0)).2)) := by
  rcases h with ⟨rfl, rfl⟩ | ⟨a, cap, rfl, rfl⟩ | ⟨b, off, cap, rfl, h0, -, hc⟩
  · exact ⟨_, _, rfl, fun h => absurd h (by decide)⟩
  · exact ⟨_, _, rfl, fun h => absurd h (by decide)⟩
  · exact ⟨_, _, rfl, fun _ => ⟨b, off, rfl, hc⟩⟩
end Go.Proofs.YtdmkjbdlidadiaaGreat

/- SameFaults and the reference's Check, for any faults. -/
namespace Go.Proofs.YtdmkjbdlidadiaaGreat
open Go.RowKit

end Go.Proofs.YtdmkjbdlidadiaaGreat

/- Check and the reference's Check, for any faults. -/
namespace Go.Proofs.YtdmkjbdlidadiaaGreat
open Go.RowKit

end Go.Proofs.YtdmkjbdlidadiaaGreat

/- Check of faults: the closure, first, Check. -/
namespace Go.Proofs.YtdmkjbdlidadiaaGreat
open Go.RowKit

theorem cell_new (w : World) (x : Value) (t : TypeId) : (w.alloc (Obj.cells #[x] t)).cell? ⟨w.heap.size, 0, none⟩ = some x := by
  simp only [World.cell?, heap_alloc_new]
  rfl
end Go.Proofs.YtdmkjbdlidadiaaGreat

/- Plans: isMade, New, Next, Rest, Copy, the reference's Next. -/
namespace Go.Proofs.YtdmkjbdlidadiaaGreat
open Go.RowKit

structure PlanAt (W : World) (g : Nat) (v : Value) (l : List Fault) : Prop where
  made : W.cell? ⟨g, 0, none⟩ = some (.bool true)
  left : W.cell? ⟨g, 1, none⟩ = some v
  soft : W.frozen? ⟨g, 1, none⟩ = false
  list : Flts W v l
  apart : v.ownBlock ≠ some g
structure RPlanAt (W : World) (g : Nat) (v : Value) (l : List Fault) : Prop where
  left : W.cell? ⟨g, 0, none⟩ = some v
  soft : W.frozen? ⟨g, 0, none⟩ = false
  list : Flts W v l
  apart : v.ownBlock ≠ some g

def nxt (l : List Fault) (want : Int) : Int × Int :=
  if want < 1 ∨ 1048576 < want then (0, 4) else match l with
  | [] => (want, 0)
  | f :: _ => if f.1 = 1 then (min want f.2, 0) else if f.1 = 2 then (0, 22) else if f.1 = 3 then (0, 23) else (want, 0)
set_option maxHeartbeats 1000000 in
theorem Fa_isMade_yes (g : Nat) (w : World) (h : w.cell? ⟨g, 0, none⟩ = some (.bool true)) :
    Calls Tryz.prog 219 #[.pointer (some ⟨g, 0, none⟩)] w fun e w' => e = .returned (.bool true) ∧ w' = w := by
  go_enter Tryz.func219, Tryz.ntmps219
  go_wp2
  go_ret
  exact ⟨rfl, rfl⟩
theorem PlanAt.form {W : World} {g : Nat} {v : Value} {l : List Fault} (h : PlanAt W g v l) : ∃ a c, v = .slice a l.length c := by
  obtain ⟨a, c, rfl, _⟩ := flts_form h.list
  exact ⟨a, c, rfl⟩
theorem PlanAt.keep {W W' : World} {g : Nat} {v : Value} {l : List Fault} (h : PlanAt W g v l) (hB : ∀ k, k < W.heap.size → k = g ∨ v.ownBlock = some k → W'.heap[k]? = W.heap[k]?) : PlanAt W' g v l := by
  have hg := World.block_lt_of_cell? W _ h.made
  have e := hB g hg (.inl rfl)
  exact ⟨(World.cell?_of_block (w := W) e).trans h.made, (World.cell?_of_block (w := W) e).trans h.left, (World.frozen?_of_block (w := W) e).trans h.soft, h.list.lift fun k hk hl => hB k hl (.inr hk), h.apart⟩
theorem PlanAt.below {W W' : World} {g : Nat} {v : Value} {l : List Fault} (h : PlanAt W g v l) (hB : Below W.heap.size W W') : PlanAt W' g v l :=
  h.keep fun k hk _ => hB.block k hk
theorem RPlanAt.keep {W W' : World} {g : Nat} {v : Value} {l : List Fault} (h : RPlanAt W g v l) (hB : ∀ k, k < W.heap.size → k = g ∨ v.ownBlock = some k → W'.heap[k]? = W.heap[k]?) : RPlanAt W' g v l := by
  have hg := World.block_lt_of_cell? W _ h.left
  have e := hB g hg (.inl rfl)
  exact ⟨(World.cell?_of_block (w := W) e).trans h.left, (World.frozen?_of_block (w := W) e).trans h.soft, h.list.lift fun k hk hl => hB k hl (.inr hk), h.apart⟩
theorem RPlanAt.below {W W' : World} {g : Nat} {v : Value} {l : List Fault} (h : RPlanAt W g v l) (hB : Below W.heap.size W W') : RPlanAt W' g v l :=
  h.keep fun k hk _ => hB.block k hk

set_option maxRecDepth 100000 in
set_option maxHeartbeats 1000000 in
theorem next_end (g : Nat) (v : Value) (want : Int) (w : World) (h : PlanAt w g v []) (hw1 : 1 ≤ want) (hw2 : want ≤ 1048576) :
    Calls Tryz.prog 160 #[.pointer (some ⟨g, 0, none⟩), .int .i64 want] w fun e w' => e = .returned (.tuple #[.int .i64 want, .int .i64 0]) ∧ w' = w := by
  obtain ⟨a, c, rfl⟩ := h.form
  have h1 := h.made
  have h2 := h.left
  simp only [List.length_nil] at h2
  clear h
  go_enter Tryz.func160, Tryz.ntmps160
  go_wp2_with fail
  refine (Fa_isMade_yes g w h1).mono ?_
  rintro e w1 ⟨rfl, rfl⟩
  go_wp2
  go_ret2
  exact ⟨rfl, rfl⟩
theorem nxt_in {x y want : Int} {r : List Fault} (h1 : 1 ≤ want) (h2 : want ≤ 1048576) : nxt ((x, y) :: r) want = if x = 1 then (min want y, 0) else if x = 2 then (0, 22) else if x = 3 then (0, 23) else (want, 0) := by
  simp only [nxt]
  rw [if_neg (by omega)]

theorem plan_world {w : World} {g b off cap n : Nat} {f : Fault} {r : List Fault} {o : Obj} {v' : Value} (h : PlanAt w g (.slice (some ⟨b, off, none⟩) n cap) (f :: r)) (hn : n = r.length + 1) (hcap : n ≤ cap)
    (hv : v' = .slice (some ⟨b, off + 2, none⟩) r.length (cap - 1) ∨ v' = .slice (some ⟨b, off, none⟩) r.length 0 ∧ cap = 1) :
    PlanAt ((w.setCell ⟨g, 1, none⟩ v').alloc o) g v' r ∧ v'.ownBlock = some b ∧ w.grownBy ((w.setCell ⟨g, 1, none⟩ v').alloc o) (some g) := by
  have hne : g ≠ b := fun e => h.apart (by rw [e]; rfl)
  have hgl : g < w.heap.size := World.block_lt_of_cell? w _ h.made
  have hsz : (w.setCell ⟨g, 1, none⟩ v').heap.size = w.heap.size := by simp [World.setCell]
  have hal : ∀ k, k < w.heap.size → ((w.setCell ⟨g, 1, none⟩ v').alloc o).heap[k]? = (w.setCell ⟨g, 1, none⟩ v').heap[k]? := fun k hk => Below.heap_alloc _ _ _ (by rw [hsz]; exact hk)
  have hoth : ∀ k, k < w.heap.size → k ≠ g → ((w.setCell ⟨g, 1, none⟩ v').alloc o).heap[k]? = w.heap[k]? := fun k hk hkg => (hal k hk).trans (Below.heap_setCell _ _ _ _ hkg)
  have hob : v'.ownBlock = some b := by rcases hv with rfl | ⟨rfl, _⟩ <;> rfl
  refine ⟨⟨?_, ?_, ?_, ?_, by rw [hob]; intro e; exact hne (Option.some.inj e).symm⟩, hob, ⟨rfl, rfl, rfl, ?_, ?_⟩⟩
  · exact (World.cell?_of_block (hal g hgl)).trans ((World.cell?_setCell_other _ _ _ _ (by simp)).trans h.made)
  · exact (World.cell?_of_block (hal g hgl)).trans (World.cell?_setCell_same _ _ _ h.left)
  · exact (World.frozen?_of_block (hal g hgl)).trans ((World.frozen?_setCell _ _ _ _).trans h.soft)
  · rcases h.list with ⟨h0, _⟩ | ⟨a, c, h0, h1⟩ | ⟨b', off', cap', heq, h0, hc', hc⟩
    · cases h0
    · cases h1
    · cases heq
      rcases hv with rfl | ⟨rfl, h1⟩
      · by_cases hr : r.length = 0
        · exact .inr (.inl ⟨_, _, by rw [hr], List.length_eq_zero_iff.1 hr⟩)
        · refine .inr (.inr ⟨b, off + 2, cap - 1, rfl, by omega, by omega, fun j hj => ?_⟩)
          have hj' : j + 1 < (f :: r).length := by simp only [List.length_cons]; omega
          have hbl : b < w.heap.size := World.block_lt_of_cell? w _ (hc (j + 1) hj').1
          have e := hoth b hbl (Ne.symm hne)
          have e1 := (hc (j + 1) hj').1
          have e2 := (hc (j + 1) hj').2
          rw [List.getD_cons_succ] at e1 e2
          rw [show off + (j + 1) * 2 = off + 2 + j * 2 by omega] at e1 e2
          exact ⟨(World.cell?_of_block (w := w) e).trans e1, (World.cell?_of_block (w := w) e).trans e2⟩
      · have hr : r.length = 0 := by omega
        exact .inr (.inl ⟨_, _, by rw [hr], List.length_eq_zero_iff.1 hr⟩)
  · have := size_new (w.setCell ⟨g, 1, none⟩ v') o
    omega
  · intro k hk hkg
    exact hoth k hk fun e => hkg (by rw [e])

set_option maxRecDepth 100000 in
set_option maxHeartbeats 1000000 in
theorem next_some (g : Nat) (v : Value) (f : Fault) (r : List Fault) (want : Int) (w : World) (h : PlanAt w g v (f :: r)) (hw1 : 1 ≤ want) (hw2 : want ≤ 1048576) (hs : r.length < maxLen) :
    Calls Tryz.prog 160 #[.pointer (some ⟨g, 0, none⟩), .int .i64 want] w fun e w' => e = .returned (.tuple #[.int .i64 (nxt (f :: r) want).1, .int .i64 (nxt (f :: r) want).2]) ∧ ∃ v', PlanAt w' g v' r ∧ v'.ownBlock = v.ownBlock ∧ w.grownBy w' (some g) := by
  unfold maxLen at hs
  have h1 := h.made
  have h2 := h.left
  have h3 := h.soft
  rcases h.list with ⟨rfl, h0⟩ | ⟨a, cap, rfl, h0⟩ | ⟨b, off, cap, rfl, h0, hcap, hc⟩
  · cases h0
  · cases h0
  · have e1 := (hc 0 h0).1
    have e2 := (hc 0 h0).2
    simp only [Nat.zero_mul, Nat.add_zero, List.getD_cons_zero] at e1 e2
    obtain ⟨x, y⟩ := f
    simp only at e1 e2
    have hne : g ≠ b := fun e => h.apart (by rw [e]; rfl)
    simp only [List.length_cons] at h2 hcap
    have HC := hide hc
    have HP := hide h
    have hgl := World.block_lt_of_cell? w _ h1
    have h2' : ∀ o, (w.alloc o).cell? ⟨g, 1, none⟩ = some (.slice (some ⟨b, off, none⟩) (r.length + 1) cap) := fun o => (World.cell?_of_block (w := w) (Below.heap_alloc w o g hgl)).trans h2
    have h3' : ∀ o, (w.alloc o).frozen? ⟨g, 1, none⟩ = false := fun o => (World.frozen?_of_block (w := w) (Below.heap_alloc w o g hgl)).trans h3
    have hgn : w.heap.size ≠ g := by simp only at hgl; omega
    clear hc h h0 h3
    go_enter Tryz.func160, Tryz.ntmps160
    go_wp2_with fail
    refine (Fa_isMade_yes g w h1).mono ?_
    rintro e w1 ⟨rfl, rfl⟩
    go_wp2
    all_goals go_ret2
    all_goals refine ⟨ret2 (congrArg (Value.int .i64) ?_) (congrArg (Value.int .i64) ?_), _, plan_world HP.out (by simp) (by simp only [List.length_cons]; omega) (by first | exact .inl rfl | exact .inr ⟨rfl, by first | rfl | omega⟩)⟩
    all_goals clear HC HP
    all_goals rw [nxt_in hw1 hw2]
    all_goals simp_all
    all_goals omega
end Go.Proofs.YtdmkjbdlidadiaaGreat

/- A pipe: what its block holds, and what stays of it. -/
namespace Go.Proofs.YtdmkjbdlidadiaaGreat
open Go.RowKit

def pcells (R : List Value) (f c rd wr : Nat) : List Value := .bool true :: (R ++ [.int .i64 f, .int .i64 c, .int .i64 rd, .int .i64 wr])
theorem pcells_len (R : List Value) (f c rd wr : Nat) (h : R.length = 4096) : (pcells R f c rd wr).length = 4101 := by simp [pcells, h]
theorem pcells_tail (R : List Value) (f c rd wr : Nat) (h : R.length = 4096) (j : Nat) : (pcells R f c rd wr)[4097 + j]? = ([.int .i64 f, .int .i64 c, .int .i64 rd, .int .i64 wr] : List Value)[j]? := by
  unfold pcells
  rw [show 4097 + j = (4096 + j) + 1 by omega, List.getElem?_cons_succ, List.getElem?_append_right (by omega), h, show 4096 + j - 4096 = j by omega]
theorem pcells_place (R : List Value) (f c rd wr : Nat) (h : R.length = 4096) (j : Nat) (hj : j < 4096) : (pcells R f c rd wr)[1 + j]? = R[j]? := by
  unfold pcells
  rw [Nat.add_comm, List.getElem?_cons_succ, List.getElem?_append_left (by omega)]
theorem pcells_set (R : List Value) (f c rd wr : Nat) (h : R.length = 4096) (j : Nat) (v : Value) : (pcells R f c rd wr).set (4097 + j) v = .bool true :: (R ++ ([.int .i64 f, .int .i64 c, .int .i64 rd, .int .i64 wr] : List Value).set j v) := by
  unfold pcells
  rw [show 4097 + j = (4096 + j) + 1 by omega, List.set_cons_succ, List.set_append_right _ _ (by omega), h, show 4096 + j - 4096 = j by omega]
theorem pcells_splice (R : List Value) (f c rd wr : Nat) (h : R.length = 4096) (off : Nat) (cs : List Value) (hf : off + cs.length ≤ 4096) : splice (pcells R f c rd wr) (1 + off) cs = pcells (splice R off cs) f c rd wr := by
  unfold pcells splice
  rw [Nat.add_comm 1 off, List.take_succ_cons, show off + 1 + cs.length = (off + cs.length) + 1 by omega, List.drop_succ_cons, List.take_append_of_le_length (by omega), List.drop_append_of_le_length (by omega)]
  simp

theorem heap_setCell_same {W : World} {g : Nat} (j : Nat) (v : Value) {cur : List Value} {t : TypeId} {fr : Nat × Nat} (h : W.heap[g]? = some (.cells cur.toArray t fr)) : (W.setCell ⟨g, j, none⟩ v).heap[g]? = some (.cells (cur.set j v).toArray t fr) := by
  unfold World.setCell
  simp only [Array.getElem?_modify, h]
  simp

structure Pp (W : World) (g : Nat) (R : List Value) (f c rd wr : Nat) : Prop where
  blk : W.heap[g]? = some (.cells (pcells R f c rd wr).toArray 340 (0, 0))
  len : R.length = 4096
  lf : f < 4096
  lc : c ≤ 4096
  lr : rd ≤ 1024
  lw : wr ≤ 1024
theorem Pp.keep {W W' : World} {g : Nat} {R : List Value} {f c rd wr : Nat} (h : Pp W g R f c rd wr) (hB : W'.heap[g]? = W.heap[g]?) : Pp W' g R f c rd wr := ⟨hB.trans h.blk, h.len, h.lf, h.lc, h.lr, h.lw⟩
theorem Pp.lt {W : World} {g : Nat} {R : List Value} {f c rd wr : Nat} (h : Pp W g R f c rd wr) : g < W.heap.size := (Array.getElem?_eq_some_iff.1 h.blk).1
theorem Pp.soft {W : World} {g : Nat} {R : List Value} {f c rd wr : Nat} (h : Pp W g R f c rd wr) (j : Nat) : W.frozen? ⟨g, j, none⟩ = false := frozen_of_row W g j _ _ h.blk
theorem Pp.c0 {W : World} {g : Nat} {R : List Value} {f c rd wr : Nat} (h : Pp W g R f c rd wr) : W.cell? ⟨g, 0, none⟩ = some (.bool true) := by
  rw [cell_of_row W g 0 _ _ _ h.blk]; simp [pcells]
theorem Pp.cf {W : World} {g : Nat} {R : List Value} {f c rd wr : Nat} (h : Pp W g R f c rd wr) : W.cell? ⟨g, 4097, none⟩ = some (.int .i64 f) := by
  rw [cell_of_row W g 4097 _ _ _ h.blk, List.getElem?_toArray]; exact pcells_tail R f c rd wr h.len 0
theorem Pp.cc {W : World} {g : Nat} {R : List Value} {f c rd wr : Nat} (h : Pp W g R f c rd wr) : W.cell? ⟨g, 4098, none⟩ = some (.int .i64 c) := by
  rw [cell_of_row W g 4098 _ _ _ h.blk, List.getElem?_toArray]; exact pcells_tail R f c rd wr h.len 1
theorem Pp.cr {W : World} {g : Nat} {R : List Value} {f c rd wr : Nat} (h : Pp W g R f c rd wr) : W.cell? ⟨g, 4099, none⟩ = some (.int .i64 rd) := by
  rw [cell_of_row W g 4099 _ _ _ h.blk, List.getElem?_toArray]; exact pcells_tail R f c rd wr h.len 2
theorem Pp.cw {W : World} {g : Nat} {R : List Value} {f c rd wr : Nat} (h : Pp W g R f c rd wr) : W.cell? ⟨g, 4100, none⟩ = some (.int .i64 wr) := by
  rw [cell_of_row W g 4100 _ _ _ h.blk, List.getElem?_toArray]; exact pcells_tail R f c rd wr h.len 3
theorem Pp.place {W : World} {g : Nat} {R : List Value} {f c rd wr : Nat} (h : Pp W g R f c rd wr) (j : Nat) (hj : j < 4096) : W.cell? ⟨g, 1 + j, none⟩ = R[j]? := by
  rw [cell_of_row W g (1 + j) _ _ _ h.blk, List.getElem?_toArray]; exact pcells_place R f c rd wr h.len j hj
theorem Pp.setf {W : World} {g : Nat} {R : List Value} {f c rd wr : Nat} (h : Pp W g R f c rd wr) (f' : Nat) (hf : f' < 4096) : Pp (W.setCell ⟨g, 4097, none⟩ (.int .i64 f')) g R f' c rd wr :=
  ⟨by rw [heap_setCell_same 4097 _ h.blk, pcells_set R f c rd wr h.len 0]; rfl, h.len, hf, h.lc, h.lr, h.lw⟩
theorem Pp.setc {W : World} {g : Nat} {R : List Value} {f c rd wr : Nat} (h : Pp W g R f c rd wr) (c' : Nat) (hc : c' ≤ 4096) : Pp (W.setCell ⟨g, 4098, none⟩ (.int .i64 c')) g R f c' rd wr :=
  ⟨by rw [heap_setCell_same 4098 _ h.blk, pcells_set R f c rd wr h.len 1]; rfl, h.len, h.lf, hc, h.lr, h.lw⟩
theorem Pp.setr {W : World} {g : Nat} {R : List Value} {f c rd wr : Nat} (h : Pp W g R f c rd wr) (r' : Nat) (hr : r' ≤ 1024) : Pp (W.setCell ⟨g, 4099, none⟩ (.int .i64 r')) g R f c r' wr :=
  ⟨by rw [heap_setCell_same 4099 _ h.blk, pcells_set R f c rd wr h.len 2]; rfl, h.len, h.lf, h.lc, hr, h.lw⟩
theorem Pp.setw {W : World} {g : Nat} {R : List Value} {f c rd wr : Nat} (h : Pp W g R f c rd wr) (w' : Nat) (hw : w' ≤ 1024) : Pp (W.setCell ⟨g, 4100, none⟩ (.int .i64 w')) g R f c rd w' :=
  ⟨by rw [heap_setCell_same 4100 _ h.blk, pcells_set R f c rd wr h.len 3]; rfl, h.len, h.lf, h.lc, h.lr, hw⟩

theorem run_copy_tag (w : World) (ty : TypeId) (dp sp : Option Addr) (dLen dCap sLen sCap : Nat) (g off : Nat) (tag : TypeId) (cur : List Value) (hg : w.heap[g]? = some (.cells cur.toArray tag (0, 0))) (cs : List Value) (hn : cs.length = Nat.min sLen dLen)
    (hpos : 0 < cs.length → dp = some ⟨g, off, none⟩ ∧ ∃ ad, sp = some ad ∧ ∀ j v, cs[j]? = some v → w.cell? (ad.add j) = some v) (hfit : off + cs.length ≤ cur.length) (h1 : ∀ v ∈ cs, v.oneCell' = true) :
    ∃ w', (Builtin.copy_ #[40, 40] ty #[.slice dp dLen dCap, .slice sp sLen sCap]).run Tryz.prog w = .ok (goInt cs.length) w' ∧ Hid (w'.heap[g]? = some (.cells (splice cur off cs).toArray tag (0, 0))) ∧ w.grownBy w' (some g) := by
  refine (?_ : ∃ w', (Builtin.copy_ #[40, 40] ty #[.slice dp dLen dCap, .slice sp sLen sCap]).run Tryz.prog w = .ok (goInt cs.length) w' ∧ w'.heap[g]? = some (.cells (splice cur off cs).toArray tag (0, 0)) ∧ w.grownBy w' (some g))
  obtain ⟨i0, hi, hz0, hz1, hz2⟩ := info_parts Tryz.infoB
  have hsz : (Tryz.prog.info? 5).map (·.size) = some 1 := by rw [hi]; simp [hz1]
  by_cases h0 : cs.length = 0
  · obtain rfl : cs = [] := List.eq_nil_of_length_eq_zero h0
    exact ⟨w, run_copy_none (P := Tryz.prog) w _ _ ty 5 dp sp dLen dCap sLen sCap Tryz.underlying40 hsz (by simpa using hn.symm), by simpa [splice] using hg, ⟨rfl, rfl, rfl, Nat.le_refl _, fun _ _ _ => rfl⟩⟩
  · obtain ⟨rfl, ad, rfl, hsrc⟩ := hpos (by omega)
    have hrun := run_copy_row (P := Tryz.prog) w 40 40 ty 5 g off dLen dCap ad sLen sCap cur.toArray tag cs Tryz.underlying40 hsz hg hn hsrc (by simpa using hfit) h1
    refine ⟨_, hrun, by simpa [splice] using setRow_heap w g _ _ tag _ hg, ⟨rfl, rfl, rfl, by simp [World.setRow], fun j _ hj => setRow_other w g j _ (fun e => hj (by rw [e]))⟩⟩

end Go.Proofs.YtdmkjbdlidadiaaGreat

/- What the small functions of a pipe answer: isMade, mayBeAsked, room, place, side, readWaits, refuses, fitting. -/
namespace Go.Proofs.YtdmkjbdlidadiaaGreat
open Go.RowKit

def inN (n : Int) : Bool := decide (1 ≤ n) && decide (n ≤ 1048576)
theorem inN_true {n : Int} (h : inN n = true) : 1 ≤ n ∧ n ≤ 1048576 := by simpa [inN] using h
theorem inN_nat {n : Int} (h : inN n = true) : ∃ m : Nat, n = (m : Int) ∧ 1 ≤ m ∧ m ≤ 1048576 := by
  have := inN_true h
  exact ⟨n.toNat, by omega, by omega, by omega⟩

theorem isMade_is (g : Nat) (x : Bool) (w : World) (h : w.cell? ⟨g, 0, none⟩ = some (.bool x)) :
    Calls Tryz.prog 223 #[.pointer (some ⟨g, 0, none⟩)] w fun e w' => e = .returned (.bool x) ∧ w' = w := by
  go_enter Tryz.func223, Tryz.ntmps223
  go_wp2
  go_ret
  exact ⟨rfl, rfl⟩
theorem mayBeAsked_any (n : Int) (w : World) :
    Calls Tryz.prog 341 #[.int .i64 n] w fun e w' => e = .returned (.bool (inN n)) ∧ w' = w := by
  unfold inN
  rcases (show n < 1 ∨ (1 ≤ n ∧ n ≤ 1048576) ∨ 1048576 < n by omega) with h | ⟨h, h1⟩ | h
  · rw [show decide (1 ≤ n) = false by simp; omega]
    go_enter Tryz.func341, Tryz.ntmps341
    go_wp2
    go_ret
    exact ⟨rfl, rfl⟩
  · rw [show decide (1 ≤ n) = true by simp; omega, show decide (n ≤ 1048576) = true by simp; omega]
    go_enter Tryz.func341, Tryz.ntmps341
    go_wp2
    go_ret
    exact ⟨rfl, rfl⟩
  · rw [show decide (1 ≤ n) = true by simp; omega, show decide (n ≤ 1048576) = false by simp; omega]
    have h1 : 1 ≤ n := by omega
    go_enter Tryz.func341, Tryz.ntmps341
    go_wp2
    go_ret
    exact ⟨ret_bool (by simp; omega), rfl⟩
theorem room_is (g c : Nat) (w : World) (h : w.cell? ⟨g, 4098, none⟩ = some (.int .i64 c)) (hc : c ≤ 4096) :
    Calls Tryz.prog 347 #[.pointer (some ⟨g, 1, none⟩)] w fun e w' => e = .returned (.int .i64 ((4096 - c : Nat) : Int)) ∧ w' = w := by
  go_enter Tryz.func347, Tryz.ntmps347
  go_wp2
  go_ret
  exact ⟨ret_int (by omega), rfl⟩
theorem place_is (g f n : Nat) (w : World) (h : w.cell? ⟨g, 4097, none⟩ = some (.int .i64 f)) (hf : f < 4096) (hn : n ≤ 4096) :
    Calls Tryz.prog 348 #[.pointer (some ⟨g, 1, none⟩), .int .i64 n] w fun e w' => e = .returned (.int .i64 (((f + n) % 4096 : Nat) : Int)) ∧ w' = w := by
  go_enter Tryz.func348, Tryz.ntmps348
  go_wp2
  go_ret
  exact ⟨ret_int (by omega), rfl⟩
theorem side_is (g : Nat) (x : Bool) (w : World) :
    Calls Tryz.prog 224 #[.pointer (some ⟨g, 0, none⟩), .bool x] w fun e w' => e = .returned (.pointer (some ⟨g, if x then 4100 else 4099, none⟩)) ∧ w' = w := by
  cases x
  · go_enter Tryz.func224, Tryz.ntmps224
    go_wp2
    go_ret
    exact ⟨rfl, rfl⟩
  · go_enter Tryz.func224, Tryz.ntmps224
    go_wp2
    go_ret
    exact ⟨rfl, rfl⟩
theorem readWaits_is (g : Nat) (R : List Value) (f c rd wr : Nat) (w : World) (h : Pp w g R f c rd wr) :
    Calls Tryz.prog 342 #[.pointer (some ⟨g, 0, none⟩)] w fun e w' => e = .returned (.bool (decide (c = 0 ∧ 0 < wr))) ∧ w' = w := by
  have h1 := h.cc
  have h2 := h.cw
  have h3 := h.lc
  clear h
  rcases (show 0 < c ∨ (c = 0 ∧ 0 < wr) ∨ (c = 0 ∧ wr = 0) by omega) with hc | ⟨rfl, hw⟩ | ⟨rfl, rfl⟩
  · rw [show decide (c = 0 ∧ 0 < wr) = false by simp; omega]
    have k1 : ¬ ((4096 - c : Nat) : Int) = 4096 := by omega
    have k2 : (((4096 - c : Nat) : Int) == 4096) = false := by simp; omega
    go_enter Tryz.func342, Tryz.ntmps342
    go_wp2_with fail
    refine (room_is g c w h1 h3).mono ?_
    rintro e w1 ⟨rfl, rfl⟩
    generalize ((4096 - c : Nat) : Int) = y at *
    go_wp2
    go_ret
    exact ⟨rfl, rfl⟩
  · rw [show decide (0 = 0 ∧ 0 < wr) = true by simp; omega]
    have k2 : (0 : Int) < (wr : Int) := by omega
    go_enter Tryz.func342, Tryz.ntmps342
    go_wp2_with fail
    refine (room_is g 0 w h1 h3).mono ?_
    rintro e w1 ⟨rfl, rfl⟩
    go_wp2
    go_ret
    exact ⟨rfl, rfl⟩
  · go_enter Tryz.func342, Tryz.ntmps342
    go_wp2_with fail
    refine (room_is g 0 w h1 h3).mono ?_
    rintro e w1 ⟨rfl, rfl⟩
    go_wp2
    go_ret
    exact ⟨rfl, rfl⟩

def fitN (n most c : Nat) : Nat := if 512 < n then min n (min most (4096 - c)) else if 4096 - c < n then 0 else n
theorem fitN_le (n most c : Nat) : fitN n most c ≤ n ∧ (c ≤ 4096 → c + fitN n most c ≤ 4096) := by unfold fitN; split <;> (try split) <;> omega

set_option maxHeartbeats 1000000 in
theorem fitting_is (g : Nat) (R : List Value) (f c rd wr n most : Nat) (w : World) (h : Pp w g R f c rd wr) (hn : n ≤ 1048576) :
    Calls Tryz.prog 345 #[.pointer (some ⟨g, 0, none⟩), .int .i64 n, .int .i64 most] w fun e w' => e = .returned (.int .i64 (fitN n most c : Nat)) ∧ w' = w := by
  have h1 := h.cc
  have h3 := h.lc
  clear h
  unfold fitN
  by_cases hb : 512 < n
  · rw [if_pos hb]
    go_enter Tryz.func345, Tryz.ntmps345
    go_wp2_with fail
    refine (room_is g c w h1 h3).mono ?_
    rintro e w1 ⟨rfl, rfl⟩
    generalize hy : 4096 - c = y at *
    go_wp2
    all_goals
      go_ret
      exact ⟨ret_int (by omega), rfl⟩
  · rw [if_neg hb]
    by_cases hr : 4096 - c < n
    · rw [if_pos hr]
      have k1 : ((4096 - c : Nat) : Int) < (n : Int) := by omega
      go_enter Tryz.func345, Tryz.ntmps345
      go_wp2_with fail
      refine (room_is g c w h1 h3).mono ?_
      rintro e w1 ⟨rfl, rfl⟩
      generalize hy : 4096 - c = y at *
      go_wp2
      go_ret
      exact ⟨rfl, rfl⟩
    · rw [if_neg hr]
      have k1 : ¬ ((4096 - c : Nat) : Int) < (n : Int) := by omega
      go_enter Tryz.func345, Tryz.ntmps345
      go_wp2_with fail
      refine (room_is g c w h1 h3).mono ?_
      rintro e w1 ⟨rfl, rfl⟩
      generalize hy : 4096 - c = y at *
      go_wp2
      go_ret
      exact ⟨rfl, rfl⟩

def refE (n : Nat) (most : Int) (rd wr : Nat) : Int := if 1048576 < n then 5 else if inN most = false then 4 else if wr = 0 then 51 else if rd = 0 then 53 else 0

set_option maxHeartbeats 1000000 in
theorem refuses_is (g : Nat) (R : List Value) (f c rd wr : Nat) (a : Option Addr) (n k : Nat) (most : Int) (w : World) (h : Pp w g R f c rd wr) (hn : n ≤ 140737488351232) :
    Calls Tryz.prog 344 #[.pointer (some ⟨g, 0, none⟩), .slice a n k, .int .i64 most] w fun e w' => e = .returned (.int .i64 (refE n most rd wr)) ∧ w' = w := by
  have h1 := h.c0
  have h2 := h.cr
  have h3 := h.cw
  clear h
  unfold refE
  by_cases hb : 1048576 < n
  · rw [if_pos hb]
    have k1 : (1048576 : Int) < (n : Int) := by omega
    go_enter Tryz.func344, Tryz.ntmps344
    go_wp2_with fail
    refine (isMade_is g true w h1).mono ?_
    rintro e w1 ⟨rfl, rfl⟩
    go_wp2
    go_ret
    exact ⟨rfl, rfl⟩
  · rw [if_neg hb]
    have k1 : ¬ (1048576 : Int) < (n : Int) := by omega
    by_cases hi : inN most = false
    · rw [if_pos hi]
      have HI := hide hi
      clear hi
      go_enter Tryz.func344, Tryz.ntmps344
      go_wp2_with fail
      refine (isMade_is g true w h1).mono ?_
      rintro e w1 ⟨rfl, rfl⟩
      go_wp2_with fail
      refine (mayBeAsked_any most _).mono ?_
      rintro e w1 ⟨rfl, rfl⟩
      rw [HI.out]
      go_wp2
      go_ret
      exact ⟨rfl, rfl⟩
    · rw [if_neg hi]
      have HI : Hid (inN most = true) := hide (by simpa using hi)
      clear hi
      rcases (show wr = 0 ∨ (0 < wr ∧ rd = 0) ∨ (0 < wr ∧ 0 < rd) by omega) with rfl | ⟨hw, rfl⟩ | ⟨hw, hr⟩
      · rw [if_pos rfl]
        go_enter Tryz.func344, Tryz.ntmps344
        go_wp2_with fail
        refine (isMade_is g true w h1).mono ?_
        rintro e w1 ⟨rfl, rfl⟩
        go_wp2_with fail
        refine (mayBeAsked_any most _).mono ?_
        rintro e w1 ⟨rfl, rfl⟩
        rw [HI.out]
        go_wp2
        go_ret
        exact ⟨rfl, rfl⟩
      · rw [if_neg (by omega), if_pos rfl]
        have k2 : ¬ (wr : Int) = 0 := by omega
        have k3 : ((wr : Int) == 0) = false := by simp; omega
        go_enter Tryz.func344, Tryz.ntmps344
        go_wp2_with fail
        refine (isMade_is g true w h1).mono ?_
        rintro e w1 ⟨rfl, rfl⟩
        go_wp2_with fail
        refine (mayBeAsked_any most _).mono ?_
        rintro e w1 ⟨rfl, rfl⟩
        rw [HI.out]
        go_wp2
        go_ret
        exact ⟨rfl, rfl⟩
      · rw [if_neg (by omega), if_neg (by omega)]
        have k2 : ¬ (wr : Int) = 0 := by omega
        have k3 : ((wr : Int) == 0) = false := by simp; omega
        have k4 : ¬ (rd : Int) = 0 := by omega
        have k5 : ((rd : Int) == 0) = false := by simp; omega
        go_enter Tryz.func344, Tryz.ntmps344
        go_wp2_with fail
        refine (isMade_is g true w h1).mono ?_
        rintro e w1 ⟨rfl, rfl⟩
        go_wp2_with fail
        refine (mayBeAsked_any most _).mono ?_
        rintro e w1 ⟨rfl, rfl⟩
        rw [HI.out]
        go_wp2
        go_ret
        exact ⟨rfl, rfl⟩
end Go.Proofs.YtdmkjbdlidadiaaGreat

/- The ring of a pipe: front. -/
namespace Go.Proofs.YtdmkjbdlidadiaaGreat
open Go.RowKit

theorem Kp_made_row {w w1 : World} {T n : Nat} {xs : List Value} (h : w1.ownsRow w.heap.size T 1 (.slice (some ⟨w.heap.size, 0, none⟩) n n) n xs) (hg : w.grownBy w1 none) :
    ∃ cur : List Value, cur.length = n ∧ Hid (w1.heap[w.heap.size]? = some (.cells cur.toArray T (0, 0))) ∧ Below w.heap.size w w1 := by
  refine (?_ : ∃ cur : List Value, cur.length = n ∧ w1.heap[w.heap.size]? = some (.cells cur.toArray T (0, 0)) ∧ Below w.heap.size w w1)
  rcases h.2 with ⟨h0, _⟩ | ⟨g, c, cur, h1, h2, h3, h4, h5, h6, h7⟩
  · cases h0
  · cases h1
    exact ⟨cur.toList, by rw [Array.length_toList]; omega, by rw [Array.toArray_toList]; exact h3, (Below.refl _ w).grown hg (Nat.le_refl _) (fun k e => by cases e)⟩
theorem Kp_bys_src {w : World} {a1 : Option Addr} {n c1 : Nat} {l : List UInt8} {X : List Value} (h : Bys w (.slice a1 n c1) l) (hX : X = l.map bv) :
    0 < X.length → ∃ ad, a1 = some ad ∧ ∀ j v, X[j]? = some v → w.cell? (ad.add j) = some v := by
  intro h0
  obtain ⟨a, c, he, hc⟩ := bys_form h
  cases he
  obtain ⟨b, off, rfl, hd⟩ := hc (by rw [hX] at h0; simpa using h0)
  exact ⟨_, rfl, fun j v hj => bys_news hd j v (by rw [← hX]; exact hj)⟩

theorem splice_two (cur X : List Value) (k : Nat) (h : cur.length = X.length) (hk : k ≤ X.length) : splice (splice cur 0 (X.take k)) k (X.drop k) = X := by
  have h1 : splice cur 0 (X.take k) = X.take k ++ cur.drop k := by simp [splice, Nat.min_eq_left hk]
  rw [h1]
  unfold splice
  have h2 : (X.take k ++ cur.drop k).drop (k + (X.drop k).length) = [] := List.drop_eq_nil_of_le (by simp only [List.length_append, List.length_take, List.length_drop]; omega)
  rw [h2, List.take_left' (by simp only [List.length_take]; omega), List.append_nil, List.take_append_drop]
theorem ring_src {W : World} {g f c rd wr m : Nat} {R X : List Value} (h : Pp W g R f c rd wr) (hX : (R.drop f ++ R).take m = X) (k : Nat) (hk : k ≤ 4096 - f) :
    ∀ j v, (X.take k)[j]? = some v → W.cell? ((⟨g, 1 + f, none⟩ : Addr).add j) = some v := by
  intro j v hj
  have hjk : j < k := by
    have := (List.getElem?_eq_some_iff.1 hj).1
    simp at this; omega
  rw [List.getElem?_take, if_pos hjk, ← hX, List.getElem?_take] at hj
  split at hj
  · rw [List.getElem?_append_left (by simp [h.len]; omega), List.getElem?_drop] at hj
    rw [show (⟨g, 1 + f, none⟩ : Addr).add j = ⟨g, 1 + (f + j), none⟩ by unfold Addr.add; split <;> simp_all [Nat.add_assoc], h.place (f + j) (by omega)]
    exact hj
  · cases hj
theorem ring_src2 {W : World} {g f c rd wr m : Nat} {R X : List Value} (h : Pp W g R f c rd wr) (hX : (R.drop f ++ R).take m = X) (hm : m ≤ 4096) :
    ∀ j v, (X.drop (4096 - f))[j]? = some v → W.cell? ((⟨g, 1, none⟩ : Addr).add j) = some v := by
  intro j v hj
  have hf := h.lf
  rw [List.getElem?_drop, ← hX, List.getElem?_take] at hj
  split at hj
  · rw [List.getElem?_append_right (by simp [h.len]), List.length_drop, h.len, show 4096 - f + j - (4096 - f) = j by omega] at hj
    rw [show (⟨g, 1, none⟩ : Addr).add j = ⟨g, 1 + j, none⟩ by unfold Addr.add; split <;> simp_all, h.place j (by omega)]
    exact hj
  · cases hj

set_option maxRecDepth 100000 in
set_option maxHeartbeats 2000000 in
theorem front_any (g : Nat) (R : List Value) (f rd wr : Nat) (q : List UInt8) (n : Nat) (w : World) (h : Pp w g R f q.length rd wr) (hq : (R.drop f ++ R).take q.length = q.map bv) (hn : n ≤ 1048576) :
    Calls Tryz.prog 229 #[.pointer (some ⟨g, 1, none⟩), .int .i64 n] w fun e w' => e = .returned (.slice (some ⟨w.heap.size, 0, none⟩) (q.take n).length (q.take n).length) ∧ w'.ownsRow w.heap.size 5 1 (.slice (some ⟨w.heap.size, 0, none⟩) (q.take n).length (q.take n).length) (q.take n).length ((q.take n).map bv) ∧ Below w.heap.size w w' := by
  obtain ⟨i0, hi, hz0, hz1, hz2⟩ := info_parts Tryz.infoB
  have hf := h.lf
  have hc := h.lc
  have hgl := h.lt
  have HP := hide h
  have hcf := h.cf
  have hcc := h.cc
  obtain ⟨m, hm⟩ : ∃ m, m = (q.take n).length := ⟨_, rfl⟩
  have hm' : m = min n q.length := by rw [hm]; simp
  have hX : (R.drop f ++ R).take m = (q.take n).map bv := by
    rw [List.map_take, ← hq, List.take_take, hm']
  have H1 : Hid (∀ v ∈ (q.take n).map bv, v.oneCell' = true) := hide (bys_one _)
  have hXl : ((q.take n).map bv).length = m := by rw [List.length_map, hm]
  rw [← hm]
  generalize (q.take n).map bv = X at *
  generalize q.length = c at *
  have HX := hide hX
  clear h hq hm hX
  obtain ⟨k, hk⟩ : ∃ k, k = min m (4096 - f) := ⟨_, rfl⟩
  have hkl : (X.take k).length = k := by rw [List.length_take, hXl]; omega
  have hkd : (X.drop k).length = m - k := by rw [List.length_drop, hXl]
  have H1a : Hid (∀ v ∈ X.take k, v.oneCell' = true) := hide fun v hv => H1.out v (List.mem_of_mem_take hv)
  have H1b : Hid (∀ v ∈ X.drop k, v.oneCell' = true) := hide fun v hv => H1.out v (List.mem_of_mem_drop hv)
  have hfl : ¬ 4096 = f := by omega
  have hfi : (f : Int) ≤ 4096 := by omega
  have hkc : k = m ∨ (k = 4096 - f ∧ k < m) := by omega
  rcases (show n < c ∨ c < n ∨ n = c by omega) with hnc | hnc | rfl
  case' inl =>
    have hd : ¬ (c : Int) < (n : Int) := by omega
    obtain rfl : m = n := by omega
  case' inr.inl =>
    have hd : (c : Int) < (n : Int) := by omega
    obtain rfl : m = c := by omega
  case' inr.inr =>
    have hd : ¬ (n : Int) < (n : Int) := by omega
    obtain rfl : m = n := by omega
  all_goals
    clear hm'
    have HK := hide hk
    clear hk
    rcases hkc with rfl | ⟨hk1, hk2⟩
    · go_enter Tryz.func229, Tryz.ntmps229
      go_wp2_with (at_make; refine wpList_make_full _ rfl _ _ 40 rfl w.heap.size 5 i0 (.int .u8 0) 1 Tryz.underlying40 hi hz0 hz1 _ _ _ _ k rfl rfl rfl rfl (by rw [hz2]; omega) (by unfold maxLen; omega) (Nat.le_refl _) ?_; intro w1 hown1 hgrow1; obtain ⟨cur, hcl, HR, hB1⟩ := Kp_made_row hown1 hgrow1; clear hown1 hgrow1; obtain ⟨w2, hrun, HG2, hgr2⟩ := run_copy_tag w1.drew 3 (some ⟨w.heap.size, 0, none⟩) (some ⟨g, 1 + f, none⟩) k k (4096 - f) (4096 - f) w.heap.size 0 5 cur HR.out (X.take k) (by rw [hkl]; have := HK.out; show k = min (4096 - f) k; omega) (fun h0 => ⟨rfl, _, rfl, ring_src ((HP.out.keep (hB1.block g hgl)).keep (W' := w1.drew) rfl) HX.out k (by have := HK.out; omega)⟩) (by have := HK.out; omega) H1a.out; have hcf1 := (HP.out.keep (hB1.block g hgl)).cf; have HP2 := hide ((HP.out.keep (hB1.block g hgl)).keep (W' := w2) (hgr2.block g (HP.out.keep (hB1.block g hgl)).lt (by intro e; cases e; omega))); rw [hkl] at hrun; obtain ⟨w3, hrun3, HG3, hgr3⟩ := run_copy_tag w2.drew 3 (some ⟨w.heap.size, 0, none⟩) (some ⟨g, 1, none⟩) 0 0 4096 4096 w.heap.size 0 5 _ HG2.out [] (by simp) (fun h0 => by simp at h0) (by simp) (by simp))
      go_region
      go_wp2_with fail
      go_region
      go_wp2
      go_ret
      have hG : splice (splice cur 0 (X.take k)) 0 [] = X := by
        have := splice_two cur X k (by omega) (by omega)
        have hx0 : X.drop k = [] := List.drop_eq_nil_of_le (by omega)
        rw [hx0] at this
        simpa [splice] using this
      have hG3 := HG3.out
      rw [hG] at hG3
      exact ⟨rfl, ⟨by simp [hXl], .inr ⟨w.heap.size, k, _, rfl, Nat.le_refl _, hG3, Nat.le_refl _, by unfold maxLen; omega, by simp [hXl], by simpa using List.take_of_length_le (Nat.le_of_eq hXl)⟩⟩, (hB1.drew.grown hgr2 hB1.size (fun k e => by cases e; exact Nat.le_refl _)).drew.grown hgr3 (Nat.le_trans hB1.size hgr2.size) (fun k e => by cases e; exact Nat.le_refl _)⟩
    · have hk3 : ¬ m = k := by omega
      have hk4 : (k : Int) ≤ (m : Int) := by omega
      have hk5 : (k : Int) < (m : Int) := by omega
      go_enter Tryz.func229, Tryz.ntmps229
      go_wp2_with (at_make; refine wpList_make_full _ rfl _ _ 40 rfl w.heap.size 5 i0 (.int .u8 0) 1 Tryz.underlying40 hi hz0 hz1 _ _ _ _ m rfl rfl rfl rfl (by rw [hz2]; omega) (by unfold maxLen; omega) (Nat.le_refl _) ?_; intro w1 hown1 hgrow1; obtain ⟨cur, hcl, HR, hB1⟩ := Kp_made_row hown1 hgrow1; clear hown1 hgrow1; obtain ⟨w2, hrun, HG2, hgr2⟩ := run_copy_tag w1.drew 3 (some ⟨w.heap.size, 0, none⟩) (some ⟨g, 1 + f, none⟩) m m (4096 - f) (4096 - f) w.heap.size 0 5 cur HR.out (X.take k) (by rw [hkl]; have := HK.out; show k = min (4096 - f) m; omega) (fun h0 => ⟨rfl, _, rfl, ring_src ((HP.out.keep (hB1.block g hgl)).keep (W' := w1.drew) rfl) HX.out k (by have := HK.out; omega)⟩) (by have := HK.out; omega) H1a.out; have hcf1 := (HP.out.keep (hB1.block g hgl)).cf; have HP2 := hide ((HP.out.keep (hB1.block g hgl)).keep (W' := w2) (hgr2.block g (HP.out.keep (hB1.block g hgl)).lt (by intro e; cases e; omega))); rw [hkl] at hrun; obtain ⟨w3, hrun3, HG3, hgr3⟩ := run_copy_tag w2.drew 3 (some ⟨w.heap.size, k, none⟩) (some ⟨g, 1, none⟩) (m - k) (m - k) 4096 4096 w.heap.size k 5 _ HG2.out (X.drop k) (by rw [hkd]; show m - k = min 4096 (m - k); omega) (fun h0 => ⟨rfl, _, rfl, by rw [hk1]; exact ring_src2 (HP2.out.keep (W' := w2.drew) rfl) HX.out (by omega)⟩) (by rw [length_splice cur 0 _ (by omega)]; omega) H1b.out; rw [hkd] at hrun3; have HK1 := hide hk1; clear hk1)
      go_region
      go_wp2_with fail
      go_region
      go_wp2
      go_ret
      have hG3 := HG3.out
      rw [splice_two cur X k (by omega) (by omega)] at hG3
      exact ⟨rfl, ⟨by simp [hXl], .inr ⟨w.heap.size, m, _, rfl, Nat.le_refl _, hG3, Nat.le_refl _, by unfold maxLen; omega, by simp [hXl], by simpa using List.take_of_length_le (Nat.le_of_eq hXl)⟩⟩, (hB1.drew.grown hgr2 hB1.size (fun k e => by cases e; exact Nat.le_refl _)).drew.grown hgr3 (Nat.le_trans hB1.size hgr2.size) (fun k e => by cases e; exact Nat.le_refl _)⟩
end Go.Proofs.YtdmkjbdlidadiaaGreat

/- The ring of a pipe: take and put. -/
namespace Go.Proofs.YtdmkjbdlidadiaaGreat
open Go.RowKit

theorem add_at (b o j : Nat) : (⟨b, o, none⟩ : Addr).add j = ⟨b, o + j, none⟩ := by unfold Addr.add; split <;> simp_all
def RHeld (R : List Value) (f : Nat) (q : List UInt8) : Prop := (R.drop f ++ R).take q.length = q.map bv
theorem ring_at (R : List Value) (f j : Nat) (hR : R.length = 4096) (hf : f < 4096) (hj : j < 4096) : (R.drop f ++ R)[j]? = R[(f + j) % 4096]? := by
  by_cases h : f + j < 4096
  · rw [List.getElem?_append_left (by simp [hR]; omega), List.getElem?_drop, Nat.mod_eq_of_lt h]
  · rw [List.getElem?_append_right (by simp [hR]; omega), List.length_drop, hR]
    congr 1
    omega
theorem rheld_iff {R : List Value} {f : Nat} {q : List UInt8} (hR : R.length = 4096) (hf : f < 4096) (hc : q.length ≤ 4096) : RHeld R f q ↔ ∀ j, j < q.length → R[(f + j) % 4096]? = (q.map bv)[j]? := by
  constructor
  · intro h j hj
    rw [← h, List.getElem?_take, if_pos hj, ring_at R f j hR hf (by omega)]
  · intro h
    apply List.ext_getElem?
    intro j
    rw [List.getElem?_take]
    split
    · rename_i hj
      rw [ring_at R f j hR hf (by omega), h j hj]
    · rename_i hj
      rw [List.getElem?_eq_none (by simp; omega)]
theorem RHeld.drop {R : List Value} {f : Nat} {q : List UInt8} (h : RHeld R f q) (hR : R.length = 4096) (hf : f < 4096) (hc : q.length ≤ 4096) (m : Nat) (hm : m ≤ q.length) : RHeld R ((f + m) % 4096) (q.drop m) := by
  rw [rheld_iff hR (Nat.mod_lt _ (by omega)) (by simp; omega)]
  intro j hj
  rw [List.length_drop] at hj
  rw [List.map_drop, List.getElem?_drop, ← (rheld_iff hR hf hc).1 h (m + j) (by omega)]
  congr 1
  omega
theorem splice_get (L cs : List Value) (off i : Nat) (h : off + cs.length ≤ L.length) : (splice L off cs)[i]? = if i < off then L[i]? else if i < off + cs.length then cs[i - off]? else L[i]? := by
  unfold splice
  split
  · rename_i h1
    rw [List.getElem?_append_left (by simp; omega), List.getElem?_take, if_pos h1]
  · rename_i h1
    rw [List.getElem?_append_right (by simp; omega), List.length_take, Nat.min_eq_left (by omega)]
    split
    · rename_i h2
      rw [List.getElem?_append_left (by omega)]
    · rename_i h2
      rw [List.getElem?_append_right (by omega), List.getElem?_drop]
      congr 1
      omega
theorem RHeld.put {R : List Value} {f : Nat} {q x : List UInt8} (h : RHeld R f q) (hR : R.length = 4096) (hf : f < 4096) (hc : q.length + x.length ≤ 4096) (k : Nat) (hk : k = min (4096 - (f + q.length) % 4096) x.length) :
    RHeld (splice (splice R ((f + q.length) % 4096) ((x.map bv).take k)) 0 ((x.map bv).drop k)) f (q ++ x) := by
  have hp : (f + q.length) % 4096 < 4096 := Nat.mod_lt _ (by omega)
  have hk1 : ((x.map bv).take k).length = k := by simp; omega
  have hk2 : ((x.map bv).drop k).length = x.length - k := by simp
  have hR1 : (splice R ((f + q.length) % 4096) ((x.map bv).take k)).length = 4096 := by rw [length_splice _ _ _ (by rw [hk1]; omega), hR]
  have hR2 : (splice (splice R ((f + q.length) % 4096) ((x.map bv).take k)) 0 ((x.map bv).drop k)).length = 4096 := by rw [length_splice _ _ _ (by rw [hk2, hR1]; omega), hR1]
  rw [rheld_iff hR2 hf (by simpa using hc)]
  intro j hj
  rw [List.length_append] at hj
  rw [splice_get _ _ _ _ (by rw [hk2, hR1]; omega), if_neg (by omega), hk2, splice_get _ _ _ _ (by rw [hk1, hR]; omega), hk1, List.map_append]
  by_cases hjq : j < q.length
  · rw [if_neg (by omega), List.getElem?_append_left (by simpa using hjq), ← (rheld_iff hR hf (by omega)).1 h j hjq]
    by_cases h1 : (f + j) % 4096 < (f + q.length) % 4096
    · rw [if_pos h1]
    · rw [if_neg h1, if_neg (by omega)]
  · rw [List.getElem?_append_right (by simpa using hjq), List.length_map]
    by_cases hjk : j - q.length < k
    · have he : (f + j) % 4096 = (f + q.length) % 4096 + (j - q.length) := by omega
      rw [if_neg (by omega), if_neg (by omega), if_pos (by omega), he, List.getElem?_take, if_pos (by omega)]
      congr 1
      omega
    · have he : (f + j) % 4096 = j - q.length - k := by omega
      rw [if_pos (by omega), he, List.getElem?_drop]
      congr 1
      omega

def PipeAt (W : World) (g : Nat) (q : List UInt8) (rd wr : Nat) : Prop := ∃ R f, Pp W g R f q.length rd wr ∧ RHeld R f q
theorem PipeAt.keep {W W' : World} {g : Nat} {q : List UInt8} {rd wr : Nat} (h : PipeAt W g q rd wr) (hB : W'.heap[g]? = W.heap[g]?) : PipeAt W' g q rd wr := by
  obtain ⟨R, f, h1, h2⟩ := h
  exact ⟨R, f, h1.keep hB, h2⟩
theorem PipeAt.lt {W : World} {g : Nat} {q : List UInt8} {rd wr : Nat} (h : PipeAt W g q rd wr) : g < W.heap.size := by
  obtain ⟨R, f, h1, h2⟩ := h
  exact h1.lt
theorem PipeAt.below {W W' : World} {g : Nat} {q : List UInt8} {rd wr : Nat} (h : PipeAt W g q rd wr) (hB : Below W.heap.size W W') : PipeAt W' g q rd wr := h.keep (hB.block g h.lt)
theorem PipeAt.len {W : World} {g : Nat} {q : List UInt8} {rd wr : Nat} (h : PipeAt W g q rd wr) : q.length ≤ 4096 := by
  obtain ⟨R, f, h1, h2⟩ := h
  exact h1.lc

set_option maxRecDepth 100000 in
set_option maxHeartbeats 2000000 in
theorem Kp_take_any (g : Nat) (rd wr : Nat) (q : List UInt8) (n : Nat) (w : World) (h : PipeAt w g q rd wr) (hn : n ≤ 1048576) :
    Calls Tryz.prog 343 #[.pointer (some ⟨g, 1, none⟩), .int .i64 n] w fun e w' => e = .returned (.slice (some ⟨w.heap.size, 0, none⟩) (q.take n).length (q.take n).length) ∧ w'.ownsRow w.heap.size 5 1 (.slice (some ⟨w.heap.size, 0, none⟩) (q.take n).length (q.take n).length) (q.take n).length ((q.take n).map bv) ∧ PipeAt w' g (q.drop n) rd wr ∧ Turned (fun k => k = g) w w' := by
  obtain ⟨R, f, hP, hq⟩ := h
  have HP := hide hP
  have hgl := hP.lt
  have hlf := hP.lf
  have hlc := hP.lc
  have HQ := hide hq
  obtain ⟨m, hm⟩ : ∃ m, m = (q.take n).length := ⟨_, rfl⟩
  have hm' : m ≤ q.length := by rw [hm]; simp; omega
  have hdr : q.drop n = q.drop m := by
    rw [hm, List.length_take]
    by_cases hnq : n ≤ q.length
    · rw [Nat.min_eq_left hnq]
    · rw [Nat.min_eq_right (by omega), List.drop_eq_nil_of_le (by omega), List.drop_eq_nil_of_le (by omega)]
  have HM := hide hm
  have hdl : (q.drop m).length = q.length - m := by simp
  have HDl := hide hdl
  have HDr := hide (hq.drop hP.len hlf hlc m hm')
  rw [hdr, ← hm]
  clear hP hq hm hdr hdl
  go_enter Tryz.func343, Tryz.ntmps343
  go_wp2_with fail
  refine (front_any g R f rd wr q n w HP.out HQ.out hn).mono ?_
  rintro e w1 ⟨rfl, hown, hB1⟩
  rw [← HM.out] at hown ⊢
  have HO := hide hown
  have HP1 := hide (HP.out.keep (hB1.block g hgl))
  clear hown
  have hp1 := HP1.out.cf
  have hp2 := HP1.out.soft 4097
  go_wp2_with fail
  refine (place_is g f m w1 hp1 hlf (by omega)).mono ?_
  rintro e w2 ⟨rfl, rfl⟩
  have hp' : (f + m) % 4096 < 4096 := Nat.mod_lt _ (by omega)
  have HP3 := hide (HP1.out.setf _ hp')
  have hp3 := HP3.out.cc
  have hp4 := HP3.out.soft 4098
  have hw3 : ∀ k, k ≠ g → (w2.setCell ⟨g, 4097, none⟩ (.int .i64 (((f + m) % 4096 : Nat) : Int))).heap[k]? = w2.heap[k]? := fun k hk => Below.heap_setCell _ _ _ _ hk
  have HW3 := hide hw3
  have HP4 := hide (HP3.out.setc (q.length - m) (by omega))
  clear hw3
  generalize hF : (f + m) % 4096 = f' at *
  clear hF
  go_wp2
  go_ret
  rw [show (q.length : Int) - (m : Int) = ((q.length - m : Nat) : Int) by omega]
  refine ⟨rfl, owns_keep HO.out fun k hk => ?_, ⟨R, f', by rw [HDl.out]; exact HP4.out, HDr.out⟩, ((Turned.of_below (S := fun k => k = g) hB1).set (.inl rfl)).set (.inl rfl)⟩
  have hkg : k ≠ g := by
    have : w.heap.size = k := by simpa [Value.ownBlock] using hk
    omega
  rw [Below.heap_setCell _ _ _ _ hkg, Below.heap_setCell _ _ _ _ hkg]

set_option maxRecDepth 100000 in
set_option maxHeartbeats 2000000 in
theorem put_any (g : Nat) (rd wr : Nat) (q x : List UInt8) (a : Option Addr) (n cx : Nat) (w : World) (h : PipeAt w g q rd wr) (hx : Bys w (.slice a n cx) x) (hx0 : 0 < x.length) (hcx : x.length ≤ cx) (hxg : (Value.slice a n cx).ownBlock ≠ some g) (hfit : q.length + x.length ≤ 4096) :
    Calls Tryz.prog 346 #[.pointer (some ⟨g, 1, none⟩), .slice a n cx] w fun e w' => e = .returned (.tuple #[]) ∧ PipeAt w' g (q ++ x) rd wr ∧ Turned (fun k => k = g) w w' := by
  obtain ⟨R, f, hP, hq⟩ := h
  obtain ⟨rfl, b, off, rfl, hbl, -⟩ := bys_block hx hx0
  have HP := hide hP
  have hgl := hP.lt
  have hlf := hP.lf
  have hlc := hP.lc
  have hlR := hP.len
  have hbg : b ≠ g := fun e => hxg (by rw [e]; rfl)
  obtain ⟨X, hX⟩ : ∃ X, X = x.map bv := ⟨_, rfl⟩
  have hXl : X.length = x.length := by rw [hX]; simp
  obtain ⟨k, hk⟩ : ∃ k, k = min (4096 - (f + q.length) % 4096) x.length := ⟨_, rfl⟩
  have HPut := hide (hq.put hlR hlf hfit k hk)
  have H1 : ∀ v ∈ X, v.oneCell' = true := by rw [hX]; exact bys_one x
  have hsrc := Kp_bys_src hx hX (by omega)
  have hlast : (q ++ x).length = q.length + x.length := by simp
  rw [← hX] at HPut
  have hkl : (X.take k).length = k := by rw [List.length_take, hXl]; omega
  have hkd : (X.drop k).length = x.length - k := by rw [List.length_drop, hXl]
  have hp : (f + q.length) % 4096 < 4096 := Nat.mod_lt _ (by omega)
  have hp1 := hP.cf
  have hp2 := hP.cc
  obtain ⟨p, hpe⟩ : ∃ p, p = (f + q.length) % 4096 := ⟨_, rfl⟩
  have HPl := hide (place_is g f q.length w.drew hp1 hlf hlc)
  rw [← hpe] at hp hk HPut HPl
  have hR1 : (splice R p (X.take k)).length = 4096 := by rw [length_splice _ _ _ (by rw [hkl]; omega), hlR]
  have hR2 : (splice (splice R p (X.take k)) 0 (X.drop k)).length = 4096 := by rw [length_splice _ _ _ (by rw [hkd, hR1]; omega), hR1]
  obtain ⟨w2, hrun, HG2, hgr2⟩ := run_copy_tag w.drew 3 (some ⟨g, 1 + p, none⟩) (some ⟨b, off, none⟩) (4096 - p) (4096 - p) x.length cx g (1 + p) 340 _ hP.blk (X.take k) (by rw [hkl, hk]; exact Nat.min_comm _ _) (fun h0 => ⟨rfl, _, rfl, fun j v hj => by
    obtain ⟨ad, he, hs⟩ := hsrc
    cases he
    refine hs j v ?_
    rw [List.getElem?_take] at hj
    split at hj
    · exact hj
    · cases hj⟩) (by rw [hkl, pcells_len _ _ _ _ _ hlR]; omega) (fun v hv => H1 v (List.mem_of_mem_take hv))
  have hP2 : Pp w2 g (splice R p (X.take k)) f q.length rd wr := ⟨by rw [← pcells_splice R f q.length rd wr hlR p _ (by rw [hkl]; omega)]; exact HG2.out, hR1, hlf, hlc, hP.lr, hP.lw⟩
  have hsrc2 : ∀ j v, (X.drop k)[j]? = some v → w2.drew.cell? ((⟨b, off + k, none⟩ : Addr).add j) = some v := fun j v hj => by
    obtain ⟨ad, he, hs⟩ := hsrc
    cases he
    have h1 := hs (k + j) v (by rw [List.getElem?_drop] at hj; exact hj)
    rw [add_at, ← Nat.add_assoc] at h1
    rw [add_at]
    exact (World.cell?_of_block (w := w) (hgr2.block b hbl (by intro e; cases e; exact hbg rfl))).trans h1
  rw [hkl] at hrun
  have HP2 := hide hP2
  have HPf : Hid (∀ w3, w3.heap[g]? = some (.cells (splice (pcells (splice R p (X.take k)) f q.length rd wr) 1 (X.drop k)).toArray 340 (0, 0)) → Pp w3 g (splice (splice R p (X.take k)) 0 (X.drop k)) f q.length rd wr) := hide fun w3 h3 => ⟨by rw [← pcells_splice _ f q.length rd wr hR1 0 _ (by rw [hkd]; omega)]; exact h3, hR2, hlf, hlc, hP.lr, hP.lw⟩
  have hkx : k ≤ x.length := by omega
  have H1b : Hid (∀ v ∈ X.drop k, v.oneCell' = true) := hide fun v hv => H1 v (List.mem_of_mem_drop hv)
  have HS2 := hide hsrc2
  have hpl : (pcells (splice R p (X.take k)) f q.length rd wr).length = 4101 := pcells_len _ _ _ _ _ hR1
  have HPL := hide hpl
  have HL := hide hlast
  have hP2b := HP2.out.blk
  have HB2 := hide hP2b
  unfold PipeAt
  rw [hlast]
  clear hsrc hP hq hx hX H1 hP2 hsrc2 hR1 hR2 hlR hpe hkl hXl hxg hpl hP2b HG2 hlast HP hx0
  generalize splice R p (X.take k) = R1 at *
  generalize q.length = c at *
  generalize x.length = L at *
  have hpi : (p : Int) ≤ 4096 := by omega
  have hpn : ¬ 4096 = p := by omega
  have hk1 : (k : Int) ≤ (L : Int) := by omega
  have HK := hide hk
  clear hk
  rcases (show (cx = k ∧ L = k) ∨ k < cx by omega) with ⟨rfl, rfl⟩ | hck
  · obtain ⟨w3, hrun3, HG3, hgr3⟩ := run_copy_tag w2.drew 3 (some ⟨g, 1, none⟩) (some ⟨b, off, none⟩) 4096 4096 0 0 g 1 340 _ HB2.out (X.drop L) (by rw [hkd]; simp) (fun h0 => by rw [hkd] at h0; simp at h0) (by rw [hkd, HPL.out]; omega) H1b.out
    rw [hkd] at hrun3
    have HP3 := hide (HPf.out w3 HG3.out)
    have hp3 := HP3.out.cc
    have hp4 := HP3.out.soft 4098
    have HP4 := hide (HP3.out.setc (c + L) (by omega))
    go_enter Tryz.func346, Tryz.ntmps346
    go_wp2_with fail
    go_region_with (go_at_call 348; refine HPl.out.mono ?_; rintro e w' ⟨rfl, rfl⟩)
    go_wp2_with fail
    go_region
    go_wp2
    go_end0
    rw [show (c : Int) + (L : Int) = ((c + L : Nat) : Int) by omega]
    exact ⟨rfl, ⟨_, _, HP4.out, HPut.out⟩, ((((Turned.of_below (S := fun k => k = g) (Below.refl _ w).drew).grown hgr2 (fun k e => by cases e; exact .inl rfl)).trans (Turned.of_below (S := fun k => k = g) (Below.refl _ w2).drew) (fun k _ e => e)).grown hgr3 (fun k e => by cases e; exact .inl rfl)).set (.inl rfl)⟩
  · have hci : (k : Int) < (cx : Int) := by omega
    have hcn : ¬ cx = k := by omega
    obtain ⟨w3, hrun3, HG3, hgr3⟩ := run_copy_tag w2.drew 3 (some ⟨g, 1, none⟩) (some ⟨b, off + k, none⟩) 4096 4096 (L - k) (cx - k) g 1 340 _ HB2.out (X.drop k) (by rw [hkd]; show L - k = min (L - k) 4096; omega) (fun h0 => ⟨rfl, _, rfl, HS2.out⟩) (by rw [hkd, HPL.out]; omega) H1b.out
    rw [hkd] at hrun3
    have HP3 := hide (HPf.out w3 HG3.out)
    have hp3 := HP3.out.cc
    have hp4 := HP3.out.soft 4098
    have HP4 := hide (HP3.out.setc (c + L) (by omega))
    go_enter Tryz.func346, Tryz.ntmps346
    go_wp2_with fail
    go_region_with (go_at_call 348; refine HPl.out.mono ?_; rintro e w' ⟨rfl, rfl⟩)
    go_wp2_with fail
    go_region
    go_wp2
    go_end0
    rw [show (c : Int) + (L : Int) = ((c + L : Nat) : Int) by omega]
    exact ⟨rfl, ⟨_, _, HP4.out, HPut.out⟩, ((((Turned.of_below (S := fun k => k = g) (Below.refl _ w).drew).grown hgr2 (fun k e => by cases e; exact .inl rfl)).trans (Turned.of_below (S := fun k => k = g) (Below.refl _ w2).drew) (fun k _ e => e)).grown hgr3 (fun k e => by cases e; exact .inl rfl)).set (.inl rfl)⟩
end Go.Proofs.YtdmkjbdlidadiaaGreat

/- What the calls of a pipe answer, and what they leave: New, Join, Leave, Held, Ends, CanRead, CanWrite. -/
namespace Go.Proofs.YtdmkjbdlidadiaaGreat
open Go.RowKit

def newTail : List Value := List.replicate 4096 (.int .u8 0) ++ [.int .i64 0, .int .i64 0, .int .i64 0, .int .i64 0]
theorem zero_pipe (w : World) : (zeroValue 340).run Tryz.prog w = .ok (.agg (.bool false :: newTail).toArray) w := by kernel_rfl
set_option maxRecDepth 100000 in
set_option maxHeartbeats 1000000 in
theorem new_any (w : World) :
    Calls Tryz.prog 217 #[] w fun e w' => e = .returned (.pointer (some ⟨w.heap.size, 0, none⟩)) ∧ PipeAt w' w.heap.size [] 0 0 ∧ Below w.heap.size w w' := by
  obtain ⟨T, hT⟩ : ∃ T, T = newTail := ⟨_, rfl⟩
  have hz : ∀ w, (zeroValue 340).run Tryz.prog w = .ok (.agg (.bool false :: T).toArray) w := fun w => by rw [hT]; exact zero_pipe w
  have HT := hide hT
  clear hT
  go_enter Tryz.func217, Tryz.ntmps217
  go_wp2
  go_ret
  exact ⟨rfl, ⟨_, 0, ⟨by rw [heap_alloc_new w _, HT.out]; rfl, List.length_replicate, by omega, by simp, by omega, by omega⟩, by simp [RHeld]⟩, (Below.refl _ w).alloc (Nat.le_refl _) _⟩
end Go.Proofs.YtdmkjbdlidadiaaGreat

/- What the calls of a pipe answer, and what they leave: Join, Leave, Held, Ends, CanRead, CanWrite. -/
namespace Go.Proofs.YtdmkjbdlidadiaaGreat
open Go.RowKit

def joinE : Bool → Nat → Nat → Int
  | true, _, wr => if wr = 1024 then 3 else 0
  | false, rd, _ => if rd = 1024 then 3 else 0
def joinR : Bool → Nat → Nat → Nat
  | true, rd, _ => rd
  | false, rd, _ => if rd = 1024 then rd else rd + 1
def joinW : Bool → Nat → Nat → Nat
  | true, _, wr => if wr = 1024 then wr else wr + 1
  | false, _, wr => wr
def leaveE : Bool → Nat → Nat → Int
  | true, _, wr => if wr = 0 then 51 else 0
  | false, rd, _ => if rd = 0 then 51 else 0
def leaveR : Bool → Nat → Nat → Nat
  | true, rd, _ => rd
  | false, rd, _ => rd - 1
def leaveW : Bool → Nat → Nat → Nat
  | true, _, wr => wr - 1
  | false, _, wr => wr

set_option maxRecDepth 100000 in
set_option maxHeartbeats 1000000 in
theorem join_any (x : Bool) (g : Nat) (q : List UInt8) (rd wr : Nat) (w : World) (h : PipeAt w g q rd wr) :
    Calls Tryz.prog 218 #[.pointer (some ⟨g, 0, none⟩), .bool x] w fun e w' => e = .returned (.int .i64 (joinE x rd wr)) ∧ PipeAt w' g q (joinR x rd wr) (joinW x rd wr) ∧ Turned (fun k => k = g) w w' := by
  obtain ⟨R, f, hP, hq⟩ := h
  have HP := hide hP
  have HQ := hide hq
  have h1 := hP.c0
  have h2 := hP.cr
  have h3 := hP.cw
  have h4 := hP.soft 4099
  have h5 := hP.soft 4100
  have h6 := hP.lr
  have h7 := hP.lw
  clear hP hq
  have fin : ∀ w', Pp w' g R f q.length (joinR x rd wr) (joinW x rd wr) → Turned (fun k => k = g) w w' → PipeAt w' g q (joinR x rd wr) (joinW x rd wr) ∧ Turned (fun k => k = g) w w' := fun w' h h' => ⟨⟨R, f, h, HQ.out⟩, h'⟩
  have HF := hide fin
  clear fin
  cases x
  · by_cases hf : rd = 1024
    · subst hf
      go_enter Tryz.func218, Tryz.ntmps218
      go_wp2_with fail
      refine (isMade_is g true w h1).mono ?_
      rintro e w1 ⟨rfl, rfl⟩
      go_wp2_with fail
      refine (side_is g false _).mono ?_
      rintro e w2 ⟨rfl, rfl⟩
      go_wp2
      go_ret
      exact ⟨rfl, HF.out _ HP.out (Turned.refl _ _)⟩
    · have k1 : ¬ (rd : Int) = 1024 := by omega
      have k2 : ((rd : Int) == 1024) = false := by simp; omega
      have HP2 := hide (HP.out.setr (rd + 1) (by omega))
      go_enter Tryz.func218, Tryz.ntmps218
      go_wp2_with fail
      refine (isMade_is g true w h1).mono ?_
      rintro e w1 ⟨rfl, rfl⟩
      go_wp2_with fail
      refine (side_is g false _).mono ?_
      rintro e w2 ⟨rfl, rfl⟩
      go_wp2
      go_ret
      refine ⟨ret_int (by simp [joinE, hf]), HF.out _ ?_ ((Turned.refl _ _).set (.inl rfl))⟩
      simpa [joinR, joinW, hf] using HP2.out
  · by_cases hf : wr = 1024
    · subst hf
      go_enter Tryz.func218, Tryz.ntmps218
      go_wp2_with fail
      refine (isMade_is g true w h1).mono ?_
      rintro e w1 ⟨rfl, rfl⟩
      go_wp2_with fail
      refine (side_is g true _).mono ?_
      rintro e w2 ⟨rfl, rfl⟩
      go_wp2
      go_ret
      exact ⟨rfl, HF.out _ HP.out (Turned.refl _ _)⟩
    · have k1 : ¬ (wr : Int) = 1024 := by omega
      have k2 : ((wr : Int) == 1024) = false := by simp; omega
      have HP2 := hide (HP.out.setw (wr + 1) (by omega))
      go_enter Tryz.func218, Tryz.ntmps218
      go_wp2_with fail
      refine (isMade_is g true w h1).mono ?_
      rintro e w1 ⟨rfl, rfl⟩
      go_wp2_with fail
      refine (side_is g true _).mono ?_
      rintro e w2 ⟨rfl, rfl⟩
      go_wp2
      go_ret
      refine ⟨ret_int (by simp [joinE, hf]), HF.out _ ?_ ((Turned.refl _ _).set (.inl rfl))⟩
      simpa [joinR, joinW, hf] using HP2.out

set_option maxHeartbeats 1000000 in
theorem ends_any (g : Nat) (q : List UInt8) (rd wr : Nat) (w : World) (h : PipeAt w g q rd wr) :
    Calls Tryz.prog 354 #[.pointer (some ⟨g, 0, none⟩)] w fun e w' => e = .returned (.tuple #[.int .i64 rd, .int .i64 wr]) ∧ Below w.heap.size w w' := by
  obtain ⟨R, f, hP, hq⟩ := h
  have h1 := hP.c0
  have h2 := hP.cr
  have h3 := hP.cw
  clear hP hq
  go_enter Tryz.func354, Tryz.ntmps354
  go_wp2_with fail
  refine (isMade_is g true w h1).mono ?_
  rintro e w1 ⟨rfl, rfl⟩
  go_wp2
  go_quiet (fail)
  go_wp2
  go_ret2
  exact ⟨rfl, below_drewN (Below.refl _ _) _⟩

def canR (n rd wr : Nat) : Bool := decide (0 < rd) && !decide (n = 0 ∧ 0 < wr)
set_option maxHeartbeats 1000000 in
theorem canRead_any (g : Nat) (q : List UInt8) (rd wr : Nat) (w : World) (h : PipeAt w g q rd wr) :
    Calls Tryz.prog 338 #[.pointer (some ⟨g, 0, none⟩)] w fun e w' => e = .returned (.bool (canR q.length rd wr)) ∧ w' = w := by
  obtain ⟨R, f, hP, hq⟩ := h
  have HP := hide hP
  have h1 := hP.c0
  have h2 := hP.cr
  clear hP hq
  unfold canR
  by_cases hr : 0 < rd
  · rw [show decide (0 < rd) = true by simp; omega]
    have k1 : (0 : Int) < (rd : Int) := by omega
    generalize hy : decide (q.length = 0 ∧ 0 < wr) = y
    have HY := hide hy
    clear hy
    go_enter Tryz.func338, Tryz.ntmps338
    go_wp2_with fail
    refine (isMade_is g true w h1).mono ?_
    rintro e w1 ⟨rfl, rfl⟩
    go_wp2_with fail
    refine (readWaits_is g R f q.length rd wr _ HP.out).mono ?_
    rintro e w2 ⟨rfl, rfl⟩
    rw [HY.out]
    go_wp2
    go_ret
    exact ⟨ret_bool (by simp), rfl⟩
  · obtain rfl : rd = 0 := by omega
    go_enter Tryz.func338, Tryz.ntmps338
    go_wp2_with fail
    refine (isMade_is g true w h1).mono ?_
    rintro e w1 ⟨rfl, rfl⟩
    go_wp2
    go_ret
    exact ⟨rfl, rfl⟩

def canW (n : Int) (c rd wr : Nat) : Bool := inN n && (decide (0 < wr) && (decide (rd = 0) || decide (0 < fitN n.toNat n.toNat c)))
set_option maxHeartbeats 1000000 in
theorem canWrite_any (n : Int) (g : Nat) (q : List UInt8) (rd wr : Nat) (w : World) (h : PipeAt w g q rd wr) :
    Calls Tryz.prog 355 #[.pointer (some ⟨g, 0, none⟩), .int .i64 n] w fun e w' => e = .returned (.bool (canW n q.length rd wr)) ∧ w' = w := by
  obtain ⟨R, f, hP, hq⟩ := h
  have HP := hide hP
  have h1 := hP.c0
  have h2 := hP.cr
  have h3 := hP.cw
  clear hP hq
  unfold canW
  by_cases hi : inN n = false
  · rw [hi]
    have HI := hide hi
    clear hi
    go_enter Tryz.func355, Tryz.ntmps355
    go_wp2_with fail
    refine (isMade_is g true w h1).mono ?_
    rintro e w1 ⟨rfl, rfl⟩
    go_wp2_with fail
    refine (mayBeAsked_any n _).mono ?_
    rintro e w1 ⟨rfl, rfl⟩
    rw [HI.out]
    go_wp2
    go_ret
    exact ⟨rfl, rfl⟩
  · have hi' : inN n = true := by simpa using hi
    obtain ⟨m, rfl, hm1, hm2⟩ := inN_nat hi'
    rw [hi']
    have HI := hide hi'
    clear hi hi'
    simp only [Int.toNat_natCast]
    rcases (show wr = 0 ∨ (0 < wr ∧ rd = 0) ∨ (0 < wr ∧ 0 < rd) by omega) with rfl | ⟨hw, rfl⟩ | ⟨hw, hr⟩
    · go_enter Tryz.func355, Tryz.ntmps355
      go_wp2_with fail
      refine (isMade_is g true w h1).mono ?_
      rintro e w1 ⟨rfl, rfl⟩
      go_wp2_with fail
      refine (mayBeAsked_any m _).mono ?_
      rintro e w1 ⟨rfl, rfl⟩
      rw [HI.out]
      go_wp2
      go_ret
      exact ⟨rfl, rfl⟩
    · rw [show decide (0 < wr) = true by simp; omega]
      have k1 : ¬ (wr : Int) = 0 := by omega
      have k2 : ((wr : Int) == 0) = false := by simp; omega
      go_enter Tryz.func355, Tryz.ntmps355
      go_wp2_with fail
      refine (isMade_is g true w h1).mono ?_
      rintro e w1 ⟨rfl, rfl⟩
      go_wp2_with fail
      refine (mayBeAsked_any m _).mono ?_
      rintro e w1 ⟨rfl, rfl⟩
      rw [HI.out]
      go_wp2
      go_ret
      exact ⟨rfl, rfl⟩
    · rw [show decide (0 < wr) = true by simp; omega, show decide (rd = 0) = false by simp; omega]
      have k1 : ¬ (wr : Int) = 0 := by omega
      have k2 : ((wr : Int) == 0) = false := by simp; omega
      have k3 : ¬ (rd : Int) = 0 := by omega
      have k4 : ((rd : Int) == 0) = false := by simp; omega
      go_enter Tryz.func355, Tryz.ntmps355
      go_wp2_with fail
      refine (isMade_is g true w h1).mono ?_
      rintro e w1 ⟨rfl, rfl⟩
      go_wp2_with fail
      refine (mayBeAsked_any m _).mono ?_
      rintro e w1 ⟨rfl, rfl⟩
      rw [HI.out]
      go_wp2_with fail
      refine (fitting_is g R f q.length rd wr m m _ HP.out hm2).mono ?_
      rintro e w1 ⟨rfl, rfl⟩
      go_wp2
      go_ret
      exact ⟨ret_bool (by simp), rfl⟩
end Go.Proofs.YtdmkjbdlidadiaaGreat

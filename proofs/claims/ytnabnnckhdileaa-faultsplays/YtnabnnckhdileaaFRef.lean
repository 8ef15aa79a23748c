/- The reference's plan: Next. -/
import Derived.Test.YtnabnnckhdileaaFPlan
namespace Go.Proofs.Ytnabnnckhdileaa
open Go.RowKit

theorem rplan_world {w : World} {g b off cap n : Nat} {f : Fault} {r : List Fault} {o : Obj} {v' : Value} (h : RPlanAt w g (.slice (some ⟨b, off, none⟩) n cap) (f :: r)) (hn : n = r.length + 1) (hcap : n ≤ cap)
    (hv : v' = .slice (some ⟨b, off + 2, none⟩) r.length (cap - 1) ∨ v' = .slice (some ⟨b, off, none⟩) r.length 0 ∧ cap = 1) :
    RPlanAt ((w.setCell ⟨g, 0, none⟩ v').alloc o) g v' r ∧ v'.ownBlock = some b ∧ w.grownBy ((w.setCell ⟨g, 0, none⟩ v').alloc o) (some g) := by
  have hne : g ≠ b := fun e => h.apart (by rw [e]; rfl)
  have hgl : g < w.heap.size := World.block_lt_of_cell? w _ h.left
  have hsz : (w.setCell ⟨g, 0, none⟩ v').heap.size = w.heap.size := by simp [World.setCell]
  have hal : ∀ k, k < w.heap.size → ((w.setCell ⟨g, 0, none⟩ v').alloc o).heap[k]? = (w.setCell ⟨g, 0, none⟩ v').heap[k]? := fun k hk => Below.heap_alloc _ _ _ (by rw [hsz]; exact hk)
  have hoth : ∀ k, k < w.heap.size → k ≠ g → ((w.setCell ⟨g, 0, none⟩ v').alloc o).heap[k]? = w.heap[k]? := fun k hk hkg => (hal k hk).trans (Below.heap_setCell _ _ _ _ hkg)
  have hob : v'.ownBlock = some b := by rcases hv with rfl | ⟨rfl, _⟩ <;> rfl
  refine ⟨⟨?_, ?_, ?_, by rw [hob]; intro e; exact hne (Option.some.inj e).symm⟩, hob, ⟨rfl, rfl, rfl, ?_, ?_⟩⟩
  · exact (World.cell?_of_block (hal g hgl)).trans (World.cell?_setCell_same _ _ _ h.left)
  · exact (World.frozen?_of_block (hal g hgl)).trans ((World.frozen?_setCell _ _ _ _).trans h.soft)
  · rcases h.list with ⟨h0, _⟩ | ⟨a, c, h0, h1⟩ | ⟨b', off', cap', heq, h0, hc', hc⟩
    · cases h0
    · cases h1
    · cases heq
      rcases hv with rfl | ⟨rfl, h1⟩
      · by_cases hr : r.length = 0
        · exact .inr (.inl ⟨_, _, by rw [hr], List.length_eq_zero_iff.1 hr⟩)
        · refine .inr (.inr ⟨b, off + 2, cap - 1, rfl, by omega, by omega, fun j hj => ?_⟩)
          have hj' : j + 1 < (f :: r).length := by simp only [List.length_cons]; omega
          have hbl : b < w.heap.size := World.block_lt_of_cell? w _ (hc (j + 1) hj').1
          have e := hoth b hbl (Ne.symm hne)
          have e1 := (hc (j + 1) hj').1
          have e2 := (hc (j + 1) hj').2
          rw [List.getD_cons_succ] at e1 e2
          rw [show off + (j + 1) * 2 = off + 2 + j * 2 by omega] at e1 e2
          exact ⟨(World.cell?_of_block (w := w) e).trans e1, (World.cell?_of_block (w := w) e).trans e2⟩
      · have hr : r.length = 0 := by omega
        exact .inr (.inl ⟨_, _, by rw [hr], List.length_eq_zero_iff.1 hr⟩)
  · have := size_new (w.setCell ⟨g, 0, none⟩ v') o
    omega
  · intro k hk hkg
    exact hoth k hk fun e => hkg (by rw [e])

set_option maxRecDepth 100000 in
set_option maxHeartbeats 1000000 in
theorem rnext_range (g : Nat) (want : Int) (w : World) (hw : want < 1 ∨ 1048576 < want) :
    Calls Try.prog 20 #[.pointer (some ⟨g, 0, none⟩), .int .i64 want] w fun e w' => e = .returned (.tuple #[.int .i64 0, .int .i64 4]) ∧ w' = w := by
  by_cases hw1 : want < 1
  · go_enter Try.func20, Try.ntmps20
    go_wp2
    go_ret2
    exact ⟨rfl, rfl⟩
  · have hw2 : 1048576 < want := by omega
    clear hw
    go_enter Try.func20, Try.ntmps20
    go_wp2
    go_ret2
    exact ⟨rfl, rfl⟩
set_option maxRecDepth 100000 in
set_option maxHeartbeats 1000000 in
theorem rnext_end (g : Nat) (v : Value) (want : Int) (w : World) (h : RPlanAt w g v []) (hw1 : 1 ≤ want) (hw2 : want ≤ 1048576) :
    Calls Try.prog 20 #[.pointer (some ⟨g, 0, none⟩), .int .i64 want] w fun e w' => e = .returned (.tuple #[.int .i64 want, .int .i64 0]) ∧ w' = w := by
  obtain ⟨a, c, rfl, -⟩ := flts_form h.list
  have h2 := h.left
  simp only [List.length_nil] at h2
  clear h
  go_enter Try.func20, Try.ntmps20
  go_wp2
  go_ret2
  exact ⟨rfl, rfl⟩
set_option maxRecDepth 100000 in
set_option maxHeartbeats 1000000 in
theorem rnext_some (g : Nat) (v : Value) (f : Fault) (r : List Fault) (want : Int) (w : World) (h : RPlanAt w g v (f :: r)) (hw1 : 1 ≤ want) (hw2 : want ≤ 1048576) (hs : r.length < maxLen) :
    Calls Try.prog 20 #[.pointer (some ⟨g, 0, none⟩), .int .i64 want] w fun e w' => e = .returned (.tuple #[.int .i64 (nxt (f :: r) want).1, .int .i64 (nxt (f :: r) want).2]) ∧ ∃ v', RPlanAt w' g v' r ∧ v'.ownBlock = v.ownBlock ∧ w.grownBy w' (some g) := by
  unfold maxLen at hs
  have h2 := h.left
  have h3 := h.soft
  rcases h.list with ⟨rfl, h0⟩ | ⟨a, cap, rfl, h0⟩ | ⟨b, off, cap, rfl, h0, hcap, hc⟩
  · cases h0
  · cases h0
  · have e1 := (hc 0 h0).1
    have e2 := (hc 0 h0).2
    simp only [Nat.zero_mul, Nat.add_zero, List.getD_cons_zero] at e1 e2
    obtain ⟨x, y⟩ := f
    simp only at e1 e2
    have hne : g ≠ b := fun e => h.apart (by rw [e]; rfl)
    simp only [List.length_cons] at h2 hcap
    have HC := hide hc
    have HP := hide h
    have hgl := World.block_lt_of_cell? w _ h2
    have h2' : ∀ o, (w.alloc o).cell? ⟨g, 0, none⟩ = some (.slice (some ⟨b, off, none⟩) (r.length + 1) cap) := fun o => (World.cell?_of_block (w := w) (Below.heap_alloc w o g hgl)).trans h2
    have h3' : ∀ o, (w.alloc o).frozen? ⟨g, 0, none⟩ = false := fun o => (World.frozen?_of_block (w := w) (Below.heap_alloc w o g hgl)).trans h3
    have hgn : w.heap.size ≠ g := by simp only at hgl; omega
    clear hc h h0 h3
    go_enter Try.func20, Try.ntmps20
    go_wp2
    all_goals go_ret2
    all_goals refine ⟨ret2 (congrArg (Value.int .i64) ?_) (congrArg (Value.int .i64) ?_), _, rplan_world HP.out (by simp) (by simp only [List.length_cons]; omega) (by first | exact .inl rfl | exact .inr ⟨rfl, by first | rfl | omega⟩)⟩
    all_goals clear HC HP
    all_goals rw [nxt_in hw1 hw2]
    all_goals simp_all
    all_goals omega
end Go.Proofs.Ytnabnnckhdileaa

/- Plans: isMade, New, Next, Rest, Copy, the reference's Next. -/
import Derived.Test.YtnabnnckhdileaaFChk2
namespace Go.Proofs.Ytnabnnckhdileaa
open Go.RowKit

/-- Block g is a plan of the faults l, whose slice is v. -/
structure PlanAt (W : World) (g : Nat) (v : Value) (l : List Fault) : Prop where
  made : W.cell? ⟨g, 0, none⟩ = some (.bool true)
  left : W.cell? ⟨g, 1, none⟩ = some v
  soft : W.frozen? ⟨g, 1, none⟩ = false
  list : Flts W v l
  apart : v.ownBlock ≠ some g
/-- Block g is a plan of the reference. -/
structure RPlanAt (W : World) (g : Nat) (v : Value) (l : List Fault) : Prop where
  left : W.cell? ⟨g, 0, none⟩ = some v
  soft : W.frozen? ⟨g, 0, none⟩ = false
  list : Flts W v l
  apart : v.ownBlock ≠ some g

/-- What Next answers. -/
def nxt (l : List Fault) (want : Int) : Int × Int :=
  if want < 1 ∨ 1048576 < want then (0, 4) else match l with
  | [] => (want, 0)
  | f :: _ => if f.1 = 1 then (min want f.2, 0) else if f.1 = 2 then (0, 22) else if f.1 = 3 then (0, 23) else (want, 0)
/-- What is left behind Next. -/
def lft (l : List Fault) (want : Int) : List Fault := if want < 1 ∨ 1048576 < want then l else l.tail

theorem owns_slice {W : World} {base e size n : Nat} {v : Value} {xs : List Value} (h : W.ownsRow base e size v n xs) : ∃ a c, v = .slice a n c := by
  rcases h.2 with ⟨rfl, rfl⟩ | ⟨g, cap, cur, rfl, _⟩
  · exact ⟨_, _, rfl⟩
  · exact ⟨_, _, rfl⟩

set_option maxHeartbeats 1000000 in
theorem isMade_yes (g : Nat) (w : World) (h : w.cell? ⟨g, 0, none⟩ = some (.bool true)) :
    Calls Try.prog 38 #[.pointer (some ⟨g, 0, none⟩)] w fun e w' => e = .returned (.bool true) ∧ w' = w := by
  go_enter Try.func38, Try.ntmps38
  go_wp2
  go_ret
  exact ⟨rfl, rfl⟩
set_option maxHeartbeats 1000000 in
theorem isMade_no (g : Nat) (w : World) (h : w.cell? ⟨g, 0, none⟩ = some (.bool false)) :
    Calls Try.prog 38 #[.pointer (some ⟨g, 0, none⟩)] w fun e w' => e = .returned (.bool false) ∧ w' = w := by
  go_enter Try.func38, Try.ntmps38
  go_wp2
  go_ret
  exact ⟨rfl, rfl⟩
set_option maxHeartbeats 1000000 in
theorem isMade_nil (w : World) :
    Calls Try.prog 38 #[.pointer none] w fun e w' => e = .returned (.bool false) ∧ w' = w := by
  go_enter Try.func38, Try.ntmps38
  go_wp2
  go_ret
  exact ⟨rfl, rfl⟩

set_option maxRecDepth 100000 in
set_option maxHeartbeats 1000000 in
theorem new_bad (v : Value) (l : List Fault) (w : World) (h : Flts w v l) (hs : l.length ≤ maxLen) (hc : (chk l).1 ≠ 0) :
    Calls Try.prog 18 #[v] w fun e w' => e = .returned (.tuple #[.pointer none, .int .i64 (chk l).1]) ∧ Below w.heap.size w w' := by
  have hk := check_any v l w h hs
  have HK := hide hk
  have hc' : ((chk l).1 == 0) = false := by simpa using hc
  generalize (chk l).1 = x at *
  generalize (chk l).2 = y at *
  clear hk h hs hc
  go_enter Try.func18, Try.ntmps18
  go_wp2_with fail
  refine HK.out.mono ?_
  rintro e w1 ⟨rfl, hB⟩
  go_wp2
  go_ret2
  exact ⟨rfl, hB⟩

set_option maxRecDepth 100000 in
set_option maxHeartbeats 1000000 in
theorem new_good (v : Value) (l : List Fault) (w : World) (h : Flts w v l) (hs : l.length * 16 ≤ 140737488351232) (hc : (chk l).1 = 0) :
    Calls Try.prog 18 #[v] w fun e w' => ∃ g v', e = .returned (.tuple #[.pointer (some ⟨g, 0, none⟩), .int .i64 0]) ∧ PlanAt w' g v' l ∧ w.heap.size ≤ g ∧ g < w'.heap.size ∧ (∀ k, v'.ownBlock = some k → w.heap.size ≤ k ∧ k < w'.heap.size) ∧ Below w.heap.size w w' := by
  have hk := check_any v l w h (by unfold maxLen; omega)
  rw [hc] at hk
  have HK := hide hk
  generalize (chk l).2 = y at *
  clear hk
  go_enter Try.func18, Try.ntmps18
  go_wp2_with fail
  refine HK.out.mono ?_
  rintro e w1 ⟨rfl, hB⟩
  have HF := hide (h.below hB)
  clear h HK
  go_wp2_with fail
  refine (clone_any v l w1 HF.out hs).mono ?_
  rintro e w2 ⟨v', rfl, hown, hB2⟩
  obtain ⟨a2, c2, rfl⟩ := owns_slice hown
  have HO := hide hown
  clear hown
  go_wp2
  go_ret2
  have hB3 := hB.trans (hB2.mono hB.size)
  have hl := HO.out.lt
  have hz := hB.size
  refine ⟨_, .slice a2 l.length c2, rfl, ⟨?_, ?_, ?_, ?_, ?_⟩, hB3.size, ?_, ?_, hB3.alloc hB3.size _⟩
  · simp only [World.cell?, heap_alloc_new]; rfl
  · simp only [World.cell?, heap_alloc_new]; rfl
  · simp only [World.frozen?, heap_alloc_new]; rfl
  · exact (Flts.of_owns HO.out).below ((Below.refl _ _).alloc (Nat.le_refl _) _)
  · intro he
    have := (hl _ he).2
    omega
  · exact size_new _ _
  · intro k hk
    have := hl k hk
    have := size_new w2 (Obj.cells #[Value.bool true, Value.slice a2 l.length c2] 58)
    omega

theorem PlanAt.form {W : World} {g : Nat} {v : Value} {l : List Fault} (h : PlanAt W g v l) : ∃ a c, v = .slice a l.length c := by
  obtain ⟨a, c, rfl, _⟩ := flts_form h.list
  exact ⟨a, c, rfl⟩
theorem PlanAt.keep {W W' : World} {g : Nat} {v : Value} {l : List Fault} (h : PlanAt W g v l) (hB : ∀ k, k < W.heap.size → k = g ∨ v.ownBlock = some k → W'.heap[k]? = W.heap[k]?) : PlanAt W' g v l := by
  have hg := World.block_lt_of_cell? W _ h.made
  have e := hB g hg (.inl rfl)
  exact ⟨(World.cell?_of_block (w := W) e).trans h.made, (World.cell?_of_block (w := W) e).trans h.left, (World.frozen?_of_block (w := W) e).trans h.soft, h.list.lift fun k hk hl => hB k hl (.inr hk), h.apart⟩
theorem PlanAt.below {W W' : World} {g : Nat} {v : Value} {l : List Fault} (h : PlanAt W g v l) (hB : Below W.heap.size W W') : PlanAt W' g v l :=
  h.keep fun k hk _ => hB.block k hk
theorem RPlanAt.keep {W W' : World} {g : Nat} {v : Value} {l : List Fault} (h : RPlanAt W g v l) (hB : ∀ k, k < W.heap.size → k = g ∨ v.ownBlock = some k → W'.heap[k]? = W.heap[k]?) : RPlanAt W' g v l := by
  have hg := World.block_lt_of_cell? W _ h.left
  have e := hB g hg (.inl rfl)
  exact ⟨(World.cell?_of_block (w := W) e).trans h.left, (World.frozen?_of_block (w := W) e).trans h.soft, h.list.lift fun k hk hl => hB k hl (.inr hk), h.apart⟩
theorem RPlanAt.below {W W' : World} {g : Nat} {v : Value} {l : List Fault} (h : RPlanAt W g v l) (hB : Below W.heap.size W W') : RPlanAt W' g v l :=
  h.keep fun k hk _ => hB.block k hk

set_option maxRecDepth 100000 in
set_option maxHeartbeats 1000000 in
theorem rest_any (g : Nat) (v : Value) (l : List Fault) (w : World) (h : PlanAt w g v l) (hs : l.length * 16 ≤ 140737488351232) :
    Calls Try.prog 21 #[.pointer (some ⟨g, 0, none⟩)] w fun e w' => ∃ v', e = .returned v' ∧ w'.ownsRow w.heap.size 60 2 v' l.length (fcs l) ∧ Below w.heap.size w w' := by
  obtain ⟨a, c, rfl⟩ := h.form
  have h1 := h.made
  have h2 := h.left
  have h3 := hide h.list
  clear h
  go_enter Try.func21, Try.ntmps21
  go_wp2_with fail
  refine (isMade_yes g w h1).mono ?_
  rintro e w1 ⟨rfl, rfl⟩
  go_wp2_with fail
  refine (clone_any _ l w1 h3.out hs).mono ?_
  rintro e w2 ⟨v', rfl, hown, hB2⟩
  have HO := hide hown
  clear hown
  go_wp2
  go_ret
  exact ⟨_, rfl, HO.out, hB2⟩

set_option maxRecDepth 100000 in
set_option maxHeartbeats 1000000 in
theorem copy_plan (g : Nat) (v : Value) (l : List Fault) (w : World) (h : PlanAt w g v l) (hs : l.length * 16 ≤ 140737488351232) :
    Calls Try.prog 22 #[.pointer (some ⟨g, 0, none⟩)] w fun e w' => ∃ g' v', e = .returned (.pointer (some ⟨g', 0, none⟩)) ∧ PlanAt w' g' v' l ∧ w.heap.size ≤ g' ∧ g' < w'.heap.size ∧ (∀ k, v'.ownBlock = some k → w.heap.size ≤ k ∧ k < w'.heap.size) ∧ Below w.heap.size w w' := by
  have h1 := h.made
  have h3 := hide h
  clear h
  go_enter Try.func22, Try.ntmps22
  go_wp2_with fail
  refine (isMade_yes g w h1).mono ?_
  rintro e w1 ⟨rfl, rfl⟩
  go_wp2_with fail
  refine (rest_any g v l w1 h3.out hs).mono ?_
  rintro e w2 ⟨v', rfl, hown, hB2⟩
  obtain ⟨a2, c2, rfl⟩ := owns_slice hown
  have HO := hide hown
  clear hown
  go_wp2
  go_ret
  have hl := HO.out.lt
  have hz := hB2.size
  refine ⟨_, .slice a2 l.length c2, rfl, ⟨?_, ?_, ?_, ?_, ?_⟩, hz, ?_, ?_, hB2.alloc hz _⟩
  · simp only [World.cell?, heap_alloc_new]; rfl
  · simp only [World.cell?, heap_alloc_new]; rfl
  · simp only [World.frozen?, heap_alloc_new]; rfl
  · exact (Flts.of_owns HO.out).below ((Below.refl _ _).alloc (Nat.le_refl _) _)
  · intro he
    have := (hl _ he).2
    omega
  · exact size_new _ _
  · intro k hk
    have := hl k hk
    have := size_new w2 (Obj.cells #[Value.bool true, Value.slice a2 l.length c2] 58)
    omega

set_option maxRecDepth 100000 in
set_option maxHeartbeats 1000000 in
theorem next_range (g : Nat) (v : Value) (l : List Fault) (want : Int) (w : World) (h : PlanAt w g v l) (hw : want < 1 ∨ 1048576 < want) :
    Calls Try.prog 19 #[.pointer (some ⟨g, 0, none⟩), .int .i64 want] w fun e w' => e = .returned (.tuple #[.int .i64 0, .int .i64 4]) ∧ w' = w := by
  have h1 := h.made
  clear h
  by_cases hw1 : want < 1
  · go_enter Try.func19, Try.ntmps19
    go_wp2_with fail
    refine (isMade_yes g w h1).mono ?_
    rintro e w1 ⟨rfl, rfl⟩
    go_wp2
    go_ret2
    exact ⟨rfl, rfl⟩
  · have hw2 : 1048576 < want := by omega
    clear hw
    go_enter Try.func19, Try.ntmps19
    go_wp2_with fail
    refine (isMade_yes g w h1).mono ?_
    rintro e w1 ⟨rfl, rfl⟩
    go_wp2
    go_ret2
    exact ⟨rfl, rfl⟩
set_option maxRecDepth 100000 in
set_option maxHeartbeats 1000000 in
theorem next_end (g : Nat) (v : Value) (want : Int) (w : World) (h : PlanAt w g v []) (hw1 : 1 ≤ want) (hw2 : want ≤ 1048576) :
    Calls Try.prog 19 #[.pointer (some ⟨g, 0, none⟩), .int .i64 want] w fun e w' => e = .returned (.tuple #[.int .i64 want, .int .i64 0]) ∧ w' = w := by
  obtain ⟨a, c, rfl⟩ := h.form
  have h1 := h.made
  have h2 := h.left
  simp only [List.length_nil] at h2
  clear h
  go_enter Try.func19, Try.ntmps19
  go_wp2_with fail
  refine (isMade_yes g w h1).mono ?_
  rintro e w1 ⟨rfl, rfl⟩
  go_wp2
  go_ret2
  exact ⟨rfl, rfl⟩
theorem nxt_in {x y want : Int} {r : List Fault} (h1 : 1 ≤ want) (h2 : want ≤ 1048576) : nxt ((x, y) :: r) want = if x = 1 then (min want y, 0) else if x = 2 then (0, 22) else if x = 3 then (0, 23) else (want, 0) := by
  simp only [nxt]
  rw [if_neg (by omega)]

theorem plan_world {w : World} {g b off cap n : Nat} {f : Fault} {r : List Fault} {o : Obj} {v' : Value} (h : PlanAt w g (.slice (some ⟨b, off, none⟩) n cap) (f :: r)) (hn : n = r.length + 1) (hcap : n ≤ cap)
    (hv : v' = .slice (some ⟨b, off + 2, none⟩) r.length (cap - 1) ∨ v' = .slice (some ⟨b, off, none⟩) r.length 0 ∧ cap = 1) :
    PlanAt ((w.setCell ⟨g, 1, none⟩ v').alloc o) g v' r ∧ v'.ownBlock = some b ∧ w.grownBy ((w.setCell ⟨g, 1, none⟩ v').alloc o) (some g) := by
  have hne : g ≠ b := fun e => h.apart (by rw [e]; rfl)
  have hgl : g < w.heap.size := World.block_lt_of_cell? w _ h.made
  have hsz : (w.setCell ⟨g, 1, none⟩ v').heap.size = w.heap.size := by simp [World.setCell]
  have hal : ∀ k, k < w.heap.size → ((w.setCell ⟨g, 1, none⟩ v').alloc o).heap[k]? = (w.setCell ⟨g, 1, none⟩ v').heap[k]? := fun k hk => Below.heap_alloc _ _ _ (by rw [hsz]; exact hk)
  have hoth : ∀ k, k < w.heap.size → k ≠ g → ((w.setCell ⟨g, 1, none⟩ v').alloc o).heap[k]? = w.heap[k]? := fun k hk hkg => (hal k hk).trans (Below.heap_setCell _ _ _ _ hkg)
  have hob : v'.ownBlock = some b := by rcases hv with rfl | ⟨rfl, _⟩ <;> rfl
  refine ⟨⟨?_, ?_, ?_, ?_, by rw [hob]; intro e; exact hne (Option.some.inj e).symm⟩, hob, ⟨rfl, rfl, rfl, ?_, ?_⟩⟩
  · exact (World.cell?_of_block (hal g hgl)).trans ((World.cell?_setCell_other _ _ _ _ (by simp)).trans h.made)
  · exact (World.cell?_of_block (hal g hgl)).trans (World.cell?_setCell_same _ _ _ h.left)
  · exact (World.frozen?_of_block (hal g hgl)).trans ((World.frozen?_setCell _ _ _ _).trans h.soft)
  · rcases h.list with ⟨h0, _⟩ | ⟨a, c, h0, h1⟩ | ⟨b', off', cap', heq, h0, hc', hc⟩
    · cases h0
    · cases h1
    · cases heq
      rcases hv with rfl | ⟨rfl, h1⟩
      · by_cases hr : r.length = 0
        · exact .inr (.inl ⟨_, _, by rw [hr], List.length_eq_zero_iff.1 hr⟩)
        · refine .inr (.inr ⟨b, off + 2, cap - 1, rfl, by omega, by omega, fun j hj => ?_⟩)
          have hj' : j + 1 < (f :: r).length := by simp only [List.length_cons]; omega
          have hbl : b < w.heap.size := World.block_lt_of_cell? w _ (hc (j + 1) hj').1
          have e := hoth b hbl (Ne.symm hne)
          have e1 := (hc (j + 1) hj').1
          have e2 := (hc (j + 1) hj').2
          rw [List.getD_cons_succ] at e1 e2
          rw [show off + (j + 1) * 2 = off + 2 + j * 2 by omega] at e1 e2
          exact ⟨(World.cell?_of_block (w := w) e).trans e1, (World.cell?_of_block (w := w) e).trans e2⟩
      · have hr : r.length = 0 := by omega
        exact .inr (.inl ⟨_, _, by rw [hr], List.length_eq_zero_iff.1 hr⟩)
  · have := size_new (w.setCell ⟨g, 1, none⟩ v') o
    omega
  · intro k hk hkg
    exact hoth k hk fun e => hkg (by rw [e])

set_option maxRecDepth 100000 in
set_option maxHeartbeats 1000000 in
theorem next_some (g : Nat) (v : Value) (f : Fault) (r : List Fault) (want : Int) (w : World) (h : PlanAt w g v (f :: r)) (hw1 : 1 ≤ want) (hw2 : want ≤ 1048576) (hs : r.length < maxLen) :
    Calls Try.prog 19 #[.pointer (some ⟨g, 0, none⟩), .int .i64 want] w fun e w' => e = .returned (.tuple #[.int .i64 (nxt (f :: r) want).1, .int .i64 (nxt (f :: r) want).2]) ∧ ∃ v', PlanAt w' g v' r ∧ v'.ownBlock = v.ownBlock ∧ w.grownBy w' (some g) := by
  unfold maxLen at hs
  have h1 := h.made
  have h2 := h.left
  have h3 := h.soft
  rcases h.list with ⟨rfl, h0⟩ | ⟨a, cap, rfl, h0⟩ | ⟨b, off, cap, rfl, h0, hcap, hc⟩
  · cases h0
  · cases h0
  · have e1 := (hc 0 h0).1
    have e2 := (hc 0 h0).2
    simp only [Nat.zero_mul, Nat.add_zero, List.getD_cons_zero] at e1 e2
    obtain ⟨x, y⟩ := f
    simp only at e1 e2
    have hne : g ≠ b := fun e => h.apart (by rw [e]; rfl)
    simp only [List.length_cons] at h2 hcap
    have HC := hide hc
    have HP := hide h
    have hgl := World.block_lt_of_cell? w _ h1
    have h2' : ∀ o, (w.alloc o).cell? ⟨g, 1, none⟩ = some (.slice (some ⟨b, off, none⟩) (r.length + 1) cap) := fun o => (World.cell?_of_block (w := w) (Below.heap_alloc w o g hgl)).trans h2
    have h3' : ∀ o, (w.alloc o).frozen? ⟨g, 1, none⟩ = false := fun o => (World.frozen?_of_block (w := w) (Below.heap_alloc w o g hgl)).trans h3
    have hgn : w.heap.size ≠ g := by simp only at hgl; omega
    clear hc h h0 h3
    go_enter Try.func19, Try.ntmps19
    go_wp2_with fail
    refine (isMade_yes g w h1).mono ?_
    rintro e w1 ⟨rfl, rfl⟩
    go_wp2
    all_goals go_ret2
    all_goals refine ⟨ret2 (congrArg (Value.int .i64) ?_) (congrArg (Value.int .i64) ?_), _, plan_world HP.out (by simp) (by simp only [List.length_cons]; omega) (by first | exact .inl rfl | exact .inr ⟨rfl, by first | rfl | omega⟩)⟩
    all_goals clear HC HP
    all_goals rw [nxt_in hw1 hw2]
    all_goals simp_all
    all_goals omega
end Go.Proofs.Ytnabnnckhdileaa

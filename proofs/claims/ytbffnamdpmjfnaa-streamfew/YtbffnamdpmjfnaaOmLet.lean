/- Openmode: a mode as eight truths, and what the letters' functions answer of it. -/
import Derived.Test.YtbffnamdpmjfnaaTeRow
import Derived.Laws.ResultCell
namespace Go.Proofs.Ytbffnamdpmjfnaa
open Go.RowKit

/-- A mode. -/
structure Mo where
  rd : Bool
  wr : Bool
  ap : Bool
  cr : Bool
  tr : Bool
  ex : Bool
  bi : Bool
  ma : Bool
  deriving DecidableEq
/-- As a value. -/
def mv (m : Mo) : Value := .agg #[.bool m.rd, .bool m.wr, .bool m.ap, .bool m.cr, .bool m.tr, .bool m.ex, .bool m.bi, .bool m.ma]
def mo0 : Mo := ⟨false, false, false, false, false, false, false, false⟩
def mc (m : Mo) : Array Value := #[.bool m.rd, .bool m.wr, .bool m.ap, .bool m.cr, .bool m.tr, .bool m.ex, .bool m.bi, .bool m.ma]
/-- A mode in a block of its own. -/
def MoAt (W : World) (b : Nat) (m : Mo) : Prop := W.heap[b]? = some (.cells (mc m) 34)
theorem MoAt.lt {W : World} {b : Nat} {m : Mo} (h : MoAt W b m) : b < W.heap.size := (Array.getElem?_eq_some_iff.1 h).1
theorem MoAt.soft {W : World} {b : Nat} {m : Mo} (h : MoAt W b m) (j : Nat) : W.frozen? ⟨b, j, none⟩ = false := frozen_of_row W b j _ _ h
theorem MoAt.cell {W : World} {b : Nat} {m : Mo} (h : MoAt W b m) (j : Nat) : W.cell? ⟨b, j, none⟩ = (mc m)[j]? := cell_of_row W b j _ _ _ h
theorem MoAt.keep {S : Nat → Prop} {W W' : World} {b : Nat} {m : Mo} (h : MoAt W b m) (hT : Turned S W W') (hS : ¬ S b) : MoAt W' b m := (hT.block b h.lt hS).trans h
theorem MoAt.below {W W' : World} {b : Nat} {m : Mo} (h : MoAt W b m) (hB : Below W.heap.size W W') : MoAt W' b m := (hB.block b h.lt).trans h

def isNone (m : Mo) : Bool := !(m.rd || m.wr || m.ap || m.cr || m.tr || m.ex || m.bi || m.ma)

set_option maxRecDepth 100000 in
set_option maxHeartbeats 1000000 in
theorem ohas_r (m : Mo) (w : World) : Calls Try.prog 51 #[mv m] w fun e w' => e = .returned (.bool (m.rd && !m.cr)) ∧ Below w.heap.size w w' := by
  obtain ⟨a, b, c, d, e, f, g, h⟩ := m
  unfold mv
  cases a <;> cases d
  all_goals
    go_enter Try.func51, Try.ntmps51
    go_wp2
    go_ret
    exact ⟨rfl, (Below.refl _ _).alloc (Nat.le_refl _) _⟩
set_option maxRecDepth 100000 in
set_option maxHeartbeats 1000000 in
theorem ohas_w (m : Mo) (w : World) : Calls Try.prog 53 #[mv m] w fun e w' => e = .returned (.bool (m.tr)) ∧ Below w.heap.size w w' := by
  obtain ⟨a, b, c, d, e, f, g, h⟩ := m
  unfold mv
  cases e
  all_goals
    go_enter Try.func53, Try.ntmps53
    go_wp2
    go_ret
    exact ⟨rfl, (Below.refl _ _).alloc (Nat.le_refl _) _⟩
set_option maxRecDepth 100000 in
set_option maxHeartbeats 1000000 in
theorem ohas_a (m : Mo) (w : World) : Calls Try.prog 55 #[mv m] w fun e w' => e = .returned (.bool (m.ap)) ∧ Below w.heap.size w w' := by
  obtain ⟨a, b, c, d, e, f, g, h⟩ := m
  unfold mv
  cases c
  all_goals
    go_enter Try.func55, Try.ntmps55
    go_wp2
    go_ret
    exact ⟨rfl, (Below.refl _ _).alloc (Nat.le_refl _) _⟩
set_option maxRecDepth 100000 in
set_option maxHeartbeats 1000000 in
theorem ohas_p (m : Mo) (w : World) : Calls Try.prog 58 #[mv m] w fun e w' => e = .returned (.bool (m.rd && m.wr)) ∧ Below w.heap.size w w' := by
  obtain ⟨a, b, c, d, e, f, g, h⟩ := m
  unfold mv
  cases a <;> cases b
  all_goals
    go_enter Try.func58, Try.ntmps58
    go_wp2
    go_ret
    exact ⟨rfl, (Below.refl _ _).alloc (Nat.le_refl _) _⟩
set_option maxRecDepth 100000 in
set_option maxHeartbeats 1000000 in
theorem ohas_b (m : Mo) (w : World) : Calls Try.prog 60 #[mv m] w fun e w' => e = .returned (.bool (m.bi)) ∧ Below w.heap.size w w' := by
  obtain ⟨a, b, c, d, e, f, g, h⟩ := m
  unfold mv
  cases g
  all_goals
    go_enter Try.func60, Try.ntmps60
    go_wp2
    go_ret
    exact ⟨rfl, (Below.refl _ _).alloc (Nat.le_refl _) _⟩
set_option maxRecDepth 100000 in
set_option maxHeartbeats 1000000 in
theorem omay_x (m : Mo) (w : World) : Calls Try.prog 61 #[mv m] w fun e w' => e = .returned (.bool (m.tr)) ∧ Below w.heap.size w w' := by
  obtain ⟨a, b, c, d, e, f, g, h⟩ := m
  unfold mv
  cases e
  all_goals
    go_enter Try.func61, Try.ntmps61
    go_wp2
    go_ret
    exact ⟨rfl, (Below.refl _ _).alloc (Nat.le_refl _) _⟩
set_option maxRecDepth 100000 in
set_option maxHeartbeats 1000000 in
theorem ohas_x (m : Mo) (w : World) : Calls Try.prog 63 #[mv m] w fun e w' => e = .returned (.bool (m.ex)) ∧ Below w.heap.size w w' := by
  obtain ⟨a, b, c, d, e, f, g, h⟩ := m
  unfold mv
  cases f
  all_goals
    go_enter Try.func63, Try.ntmps63
    go_wp2
    go_ret
    exact ⟨rfl, (Below.refl _ _).alloc (Nat.le_refl _) _⟩
set_option maxRecDepth 100000 in
set_option maxHeartbeats 1000000 in
theorem ohas_e (m : Mo) (w : World) : Calls Try.prog 65 #[mv m] w fun e w' => e = .returned (.bool (m.ma)) ∧ Below w.heap.size w w' := by
  obtain ⟨a, b, c, d, e, f, g, h⟩ := m
  unfold mv
  cases h
  all_goals
    go_enter Try.func65, Try.ntmps65
    go_wp2
    go_ret
    exact ⟨rfl, (Below.refl _ _).alloc (Nat.le_refl _) _⟩
set_option maxRecDepth 100000 in
set_option maxHeartbeats 1000000 in
theorem isNone_any (m : Mo) (w : World) : Calls Try.prog 44 #[mv m] w fun e w' => e = .returned (.bool (isNone m)) ∧ Below w.heap.size w w' := by
  obtain ⟨a, b, c, d, e, f, g, h⟩ := m
  unfold mv
  go_enter Try.func44, Try.ntmps44
  go_wp2
  all_goals go_ret
  all_goals exact ⟨by simp_all [isNone], (Below.refl _ _).alloc (Nat.le_refl _) _⟩
set_option maxRecDepth 100000 in
set_option maxHeartbeats 1000000 in
theorem olay_r (b : Nat) (m : Mo) (w : World) (h : MoAt w b m) : Calls Try.prog 50 #[.pointer (some ⟨b, 0, none⟩)] w fun e w' => e = .returned (.tuple #[]) ∧ MoAt w' b { m with rd := true } ∧ Turned (fun k => k = b) w w' := by
  have c0 : w.cell? ⟨b, 0, none⟩ = some (.bool m.rd) := h.cell 0
  have s0 := h.soft 0
  have e0 := Go.heap_setCell_same _ b 0 _ _ (.bool true) h
  go_enter Try.func50, Try.ntmps50
  go_wp2
  go_end0
  exact ⟨rfl, e0, Turned.set (S := fun k => k = b) (Turned.refl _ _) (.inl rfl)⟩
set_option maxRecDepth 100000 in
set_option maxHeartbeats 1000000 in
theorem olay_w (b : Nat) (m : Mo) (w : World) (h : MoAt w b m) : Calls Try.prog 52 #[.pointer (some ⟨b, 0, none⟩)] w fun e w' => e = .returned (.tuple #[]) ∧ MoAt w' b { m with wr := true, cr := true, tr := true } ∧ Turned (fun k => k = b) w w' := by
  have c1 : w.cell? ⟨b, 1, none⟩ = some (.bool m.wr) := h.cell 1
  have s1 := h.soft 1
  have c3 : w.cell? ⟨b, 3, none⟩ = some (.bool m.cr) := h.cell 3
  have s3 := h.soft 3
  have c4 : w.cell? ⟨b, 4, none⟩ = some (.bool m.tr) := h.cell 4
  have s4 := h.soft 4
  have e0 := Go.heap_setCell_same _ b 1 _ _ (.bool true) h
  have e1 := Go.heap_setCell_same _ b 3 _ _ (.bool true) e0
  have e2 := Go.heap_setCell_same _ b 4 _ _ (.bool true) e1
  go_enter Try.func52, Try.ntmps52
  go_wp2
  go_end0
  exact ⟨rfl, e2, Turned.set (S := fun k => k = b) (Turned.set (S := fun k => k = b) (Turned.set (S := fun k => k = b) (Turned.refl _ _) (.inl rfl)) (.inl rfl)) (.inl rfl)⟩
set_option maxRecDepth 100000 in
set_option maxHeartbeats 1000000 in
theorem olay_a (b : Nat) (m : Mo) (w : World) (h : MoAt w b m) : Calls Try.prog 54 #[.pointer (some ⟨b, 0, none⟩)] w fun e w' => e = .returned (.tuple #[]) ∧ MoAt w' b { m with wr := true, ap := true, cr := true } ∧ Turned (fun k => k = b) w w' := by
  have c1 : w.cell? ⟨b, 1, none⟩ = some (.bool m.wr) := h.cell 1
  have s1 := h.soft 1
  have c2 : w.cell? ⟨b, 2, none⟩ = some (.bool m.ap) := h.cell 2
  have s2 := h.soft 2
  have c3 : w.cell? ⟨b, 3, none⟩ = some (.bool m.cr) := h.cell 3
  have s3 := h.soft 3
  have e0 := Go.heap_setCell_same _ b 1 _ _ (.bool true) h
  have e1 := Go.heap_setCell_same _ b 2 _ _ (.bool true) e0
  have e2 := Go.heap_setCell_same _ b 3 _ _ (.bool true) e1
  go_enter Try.func54, Try.ntmps54
  go_wp2
  go_end0
  exact ⟨rfl, e2, Turned.set (S := fun k => k = b) (Turned.set (S := fun k => k = b) (Turned.set (S := fun k => k = b) (Turned.refl _ _) (.inl rfl)) (.inl rfl)) (.inl rfl)⟩
set_option maxRecDepth 100000 in
set_option maxHeartbeats 1000000 in
theorem olay_p (b : Nat) (m : Mo) (w : World) (h : MoAt w b m) : Calls Try.prog 57 #[.pointer (some ⟨b, 0, none⟩)] w fun e w' => e = .returned (.tuple #[]) ∧ MoAt w' b { m with rd := true, wr := true } ∧ Turned (fun k => k = b) w w' := by
  have c0 : w.cell? ⟨b, 0, none⟩ = some (.bool m.rd) := h.cell 0
  have s0 := h.soft 0
  have c1 : w.cell? ⟨b, 1, none⟩ = some (.bool m.wr) := h.cell 1
  have s1 := h.soft 1
  have e0 := Go.heap_setCell_same _ b 0 _ _ (.bool true) h
  have e1 := Go.heap_setCell_same _ b 1 _ _ (.bool true) e0
  go_enter Try.func57, Try.ntmps57
  go_wp2
  go_end0
  exact ⟨rfl, e1, Turned.set (S := fun k => k = b) (Turned.set (S := fun k => k = b) (Turned.refl _ _) (.inl rfl)) (.inl rfl)⟩
set_option maxRecDepth 100000 in
set_option maxHeartbeats 1000000 in
theorem olay_b (b : Nat) (m : Mo) (w : World) (h : MoAt w b m) : Calls Try.prog 59 #[.pointer (some ⟨b, 0, none⟩)] w fun e w' => e = .returned (.tuple #[]) ∧ MoAt w' b { m with bi := true } ∧ Turned (fun k => k = b) w w' := by
  have c6 : w.cell? ⟨b, 6, none⟩ = some (.bool m.bi) := h.cell 6
  have s6 := h.soft 6
  have e0 := Go.heap_setCell_same _ b 6 _ _ (.bool true) h
  go_enter Try.func59, Try.ntmps59
  go_wp2
  go_end0
  exact ⟨rfl, e0, Turned.set (S := fun k => k = b) (Turned.refl _ _) (.inl rfl)⟩
set_option maxRecDepth 100000 in
set_option maxHeartbeats 1000000 in
theorem olay_x (b : Nat) (m : Mo) (w : World) (h : MoAt w b m) : Calls Try.prog 62 #[.pointer (some ⟨b, 0, none⟩)] w fun e w' => e = .returned (.tuple #[]) ∧ MoAt w' b { m with ex := true } ∧ Turned (fun k => k = b) w w' := by
  have c5 : w.cell? ⟨b, 5, none⟩ = some (.bool m.ex) := h.cell 5
  have s5 := h.soft 5
  have e0 := Go.heap_setCell_same _ b 5 _ _ (.bool true) h
  go_enter Try.func62, Try.ntmps62
  go_wp2
  go_end0
  exact ⟨rfl, e0, Turned.set (S := fun k => k = b) (Turned.refl _ _) (.inl rfl)⟩
set_option maxRecDepth 100000 in
set_option maxHeartbeats 1000000 in
theorem olay_e (b : Nat) (m : Mo) (w : World) (h : MoAt w b m) : Calls Try.prog 64 #[.pointer (some ⟨b, 0, none⟩)] w fun e w' => e = .returned (.tuple #[]) ∧ MoAt w' b { m with ma := true } ∧ Turned (fun k => k = b) w w' := by
  have c7 : w.cell? ⟨b, 7, none⟩ = some (.bool m.ma) := h.cell 7
  have s7 := h.soft 7
  have e0 := Go.heap_setCell_same _ b 7 _ _ (.bool true) h
  go_enter Try.func64, Try.ntmps64
  go_wp2
  go_end0
  exact ⟨rfl, e0, Turned.set (S := fun k => k = b) (Turned.refl _ _) (.inl rfl)⟩
/-- The letters in memory. -/
def ltc : Array Value := #[.int .u8 114, .func (.func 44) #[] #[], .func (.func 50) #[] #[], .func (.func 51) #[] #[],
  .int .u8 119, .func (.func 44) #[] #[], .func (.func 52) #[] #[], .func (.func 53) #[] #[],
  .int .u8 97, .func (.func 44) #[] #[], .func (.func 54) #[] #[], .func (.func 55) #[] #[],
  .int .u8 43, .func (.func 56) #[] #[], .func (.func 57) #[] #[], .func (.func 58) #[] #[],
  .int .u8 98, .func (.func 56) #[] #[], .func (.func 59) #[] #[], .func (.func 60) #[] #[],
  .int .u8 120, .func (.func 61) #[] #[], .func (.func 62) #[] #[], .func (.func 63) #[] #[],
  .int .u8 101, .func (.func 56) #[] #[], .func (.func 64) #[] #[], .func (.func 65) #[] #[]]
def Lt (W : World) (b : Nat) : Prop := W.heap[b]? = some (.cells ltc 88)
theorem Lt.lt {W : World} {b : Nat} (h : Lt W b) : b < W.heap.size := (Array.getElem?_eq_some_iff.1 h).1
theorem Lt.cell {W : World} {b : Nat} (h : Lt W b) (j : Nat) : W.cell? ⟨b, j, none⟩ = ltc[j]? := cell_of_row W b j _ _ _ h
theorem Lt.keep {S : Nat → Prop} {W W' : World} {b : Nat} (h : Lt W b) (hT : Turned S W W') (hS : ¬ S b) : Lt W' b := (hT.block b h.lt hS).trans h
theorem Lt.below {W W' : World} {b : Nat} (h : Lt W b) (hB : Below W.heap.size W W') : Lt W' b := (hB.block b h.lt).trans h
set_option maxRecDepth 100000 in
set_option maxHeartbeats 1000000 in
theorem oletters_any (w : World) : Calls Try.prog 43 #[] w fun e w' => e = .returned (.slice (some ⟨w.heap.size, 0, none⟩) 7 7) ∧ Lt w' w.heap.size ∧ Below w.heap.size w w' := by
  go_enter Try.func43, Try.ntmps43
  go_wp2
  go_ret
  exact ⟨rfl, heap_alloc_new _ _, (Below.refl _ _).alloc (Nat.le_refl _) _⟩
set_option maxRecDepth 100000 in
set_option maxHeartbeats 1000000 in
theorem isBegun_any (m : Mo) (w : World) : Calls Try.prog 56 #[mv m] w fun e w' => e = .returned (.bool (!isNone m)) ∧ Below w.heap.size w w' := by
  obtain ⟨a, b, c, d, e, f, g, h⟩ := m
  have hn := hide fun w => isNone_any ⟨a, b, c, d, e, f, g, h⟩ w
  unfold mv at hn ⊢
  go_enter Try.func56, Try.ntmps56
  go_wp2_with fail
  refine (hn.out _).mono ?_
  rintro e w1 ⟨rfl, hB⟩
  have hB2 := ((Below.refl w.heap.size w).alloc (Nat.le_refl _) _).trans (hB.mono (Nat.le_of_lt (size_new _ _)))
  go_wp2
  go_ret
  exact ⟨rfl, hB2⟩
end Go.Proofs.Ytbffnamdpmjfnaa

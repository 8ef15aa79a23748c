/- What the proof stands on, part 6: the contracts of the program's calls that it reaches. -/
import Derived.Test.YtgbkhmiphaefgaaKK5
import Derived.Laws.ResultCell
import Derived.Deep.LoopGhost
import Derived.WalkMore
import Derived.Deep.RegionWith
import Derived.BigQuiet
import Derived.Deep.RegionHeld3
/- Openmode: a mode as eight truths, and what the letters' functions answer of it. -/
namespace Go.Proofs.Ytgbkhmiphaefgaa
open Go.RowKit

structure Mo where
  rd : Bool
  wr : Bool
  ap : Bool
  cr : Bool
  tr : Bool
  ex : Bool
  bi : Bool
  ma : Bool
  deriving DecidableEq
def mv (m : Mo) : Value := .agg #[.bool m.rd, .bool m.wr, .bool m.ap, .bool m.cr, .bool m.tr, .bool m.ex, .bool m.bi, .bool m.ma]
def mo0 : Mo := ⟨false, false, false, false, false, false, false, false⟩
def mc (m : Mo) : Array Value := #[.bool m.rd, .bool m.wr, .bool m.ap, .bool m.cr, .bool m.tr, .bool m.ex, .bool m.bi, .bool m.ma]
def MoAt (W : World) (b : Nat) (m : Mo) : Prop := W.heap[b]? = some (.cells (mc m) 39)
theorem MoAt.lt {W : World} {b : Nat} {m : Mo} (h : MoAt W b m) : b < W.heap.size := (Array.getElem?_eq_some_iff.1 h).1
theorem MoAt.soft {W : World} {b : Nat} {m : Mo} (h : MoAt W b m) (j : Nat) : W.frozen? ⟨b, j, none⟩ = false := frozen_of_row W b j _ _ h
theorem MoAt.cell {W : World} {b : Nat} {m : Mo} (h : MoAt W b m) (j : Nat) : W.cell? ⟨b, j, none⟩ = (mc m)[j]? := cell_of_row W b j _ _ _ h
theorem MoAt.keep {S : Nat → Prop} {W W' : World} {b : Nat} {m : Mo} (h : MoAt W b m) (hT : Turned S W W') (hS : ¬ S b) : MoAt W' b m := (hT.block b h.lt hS).trans h
theorem MoAt.below {W W' : World} {b : Nat} {m : Mo} (h : MoAt W b m) (hB : Below W.heap.size W W') : MoAt W' b m := (hB.block b h.lt).trans h

def isNone (m : Mo) : Bool := !(m.rd || m.wr || m.ap || m.cr || m.tr || m.ex || m.bi || m.ma)

set_option maxRecDepth 100000 in
set_option maxHeartbeats 1000000 in
theorem ohas_r (m : Mo) (w : World) : Calls Try.prog 63 #[mv m] w fun e w' => e = .returned (.bool (m.rd && !m.cr)) ∧ Below w.heap.size w w' := by
  obtain ⟨a, b, c, d, e, f, g, h⟩ := m
  unfold mv
  cases a <;> cases d
  all_goals
    go_enter Try.func63, Try.ntmps63
    go_wp2
    go_ret
    exact ⟨rfl, (Below.refl _ _).alloc (Nat.le_refl _) _⟩
set_option maxRecDepth 100000 in
set_option maxHeartbeats 1000000 in
theorem ohas_w (m : Mo) (w : World) : Calls Try.prog 65 #[mv m] w fun e w' => e = .returned (.bool (m.tr)) ∧ Below w.heap.size w w' := by
  obtain ⟨a, b, c, d, e, f, g, h⟩ := m
  unfold mv
  cases e
  all_goals
    go_enter Try.func65, Try.ntmps65
    go_wp2
    go_ret
    exact ⟨rfl, (Below.refl _ _).alloc (Nat.le_refl _) _⟩
set_option maxRecDepth 100000 in
set_option maxHeartbeats 1000000 in
theorem ohas_a (m : Mo) (w : World) : Calls Try.prog 67 #[mv m] w fun e w' => e = .returned (.bool (m.ap)) ∧ Below w.heap.size w w' := by
  obtain ⟨a, b, c, d, e, f, g, h⟩ := m
  unfold mv
  cases c
  all_goals
    go_enter Try.func67, Try.ntmps67
    go_wp2
    go_ret
    exact ⟨rfl, (Below.refl _ _).alloc (Nat.le_refl _) _⟩
set_option maxRecDepth 100000 in
set_option maxHeartbeats 1000000 in
theorem ohas_p (m : Mo) (w : World) : Calls Try.prog 70 #[mv m] w fun e w' => e = .returned (.bool (m.rd && m.wr)) ∧ Below w.heap.size w w' := by
  obtain ⟨a, b, c, d, e, f, g, h⟩ := m
  unfold mv
  cases a <;> cases b
  all_goals
    go_enter Try.func70, Try.ntmps70
    go_wp2
    go_ret
    exact ⟨rfl, (Below.refl _ _).alloc (Nat.le_refl _) _⟩
set_option maxRecDepth 100000 in
set_option maxHeartbeats 1000000 in
theorem ohas_b (m : Mo) (w : World) : Calls Try.prog 72 #[mv m] w fun e w' => e = .returned (.bool (m.bi)) ∧ Below w.heap.size w w' := by
  obtain ⟨a, b, c, d, e, f, g, h⟩ := m
  unfold mv
  cases g
  all_goals
    go_enter Try.func72, Try.ntmps72
    go_wp2
    go_ret
    exact ⟨rfl, (Below.refl _ _).alloc (Nat.le_refl _) _⟩
set_option maxRecDepth 100000 in
set_option maxHeartbeats 1000000 in
theorem omay_x (m : Mo) (w : World) : Calls Try.prog 73 #[mv m] w fun e w' => e = .returned (.bool (m.tr)) ∧ Below w.heap.size w w' := by
  obtain ⟨a, b, c, d, e, f, g, h⟩ := m
  unfold mv
  cases e
  all_goals
    go_enter Try.func73, Try.ntmps73
    go_wp2
    go_ret
    exact ⟨rfl, (Below.refl _ _).alloc (Nat.le_refl _) _⟩
set_option maxRecDepth 100000 in
set_option maxHeartbeats 1000000 in
theorem ohas_x (m : Mo) (w : World) : Calls Try.prog 75 #[mv m] w fun e w' => e = .returned (.bool (m.ex)) ∧ Below w.heap.size w w' := by
  obtain ⟨a, b, c, d, e, f, g, h⟩ := m
  unfold mv
  cases f
  all_goals
    go_enter Try.func75, Try.ntmps75
    go_wp2
    go_ret
    exact ⟨rfl, (Below.refl _ _).alloc (Nat.le_refl _) _⟩
set_option maxRecDepth 100000 in
set_option maxHeartbeats 1000000 in
theorem ohas_e (m : Mo) (w : World) : Calls Try.prog 77 #[mv m] w fun e w' => e = .returned (.bool (m.ma)) ∧ Below w.heap.size w w' := by
  obtain ⟨a, b, c, d, e, f, g, h⟩ := m
  unfold mv
  cases h
  all_goals
    go_enter Try.func77, Try.ntmps77
    go_wp2
    go_ret
    exact ⟨rfl, (Below.refl _ _).alloc (Nat.le_refl _) _⟩
set_option maxRecDepth 100000 in
set_option maxHeartbeats 1000000 in
theorem isNone_any (m : Mo) (w : World) : Calls Try.prog 49 #[mv m] w fun e w' => e = .returned (.bool (isNone m)) ∧ Below w.heap.size w w' := by
  obtain ⟨a, b, c, d, e, f, g, h⟩ := m
  unfold mv
  go_enter Try.func49, Try.ntmps49
  go_wp2
  all_goals go_ret
  all_goals exact ⟨by simp_all [isNone], (Below.refl _ _).alloc (Nat.le_refl _) _⟩
set_option maxRecDepth 100000 in
set_option maxHeartbeats 1000000 in
theorem olay_r (b : Nat) (m : Mo) (w : World) (h : MoAt w b m) : Calls Try.prog 62 #[.pointer (some ⟨b, 0, none⟩)] w fun e w' => e = .returned (.tuple #[]) ∧ MoAt w' b { m with rd := true } ∧ Turned (fun k => k = b) w w' := by
  have c0 : w.cell? ⟨b, 0, none⟩ = some (.bool m.rd) := h.cell 0
  have s0 := h.soft 0
  have e0 := Go.heap_setCell_same _ b 0 _ _ (.bool true) h
  go_enter Try.func62, Try.ntmps62
  go_wp2
  go_end0
  exact ⟨rfl, e0, Turned.set (S := fun k => k = b) (Turned.refl _ _) (.inl rfl)⟩
set_option maxRecDepth 100000 in
set_option maxHeartbeats 1000000 in
theorem olay_w (b : Nat) (m : Mo) (w : World) (h : MoAt w b m) : Calls Try.prog 64 #[.pointer (some ⟨b, 0, none⟩)] w fun e w' => e = .returned (.tuple #[]) ∧ MoAt w' b { m with wr := true, cr := true, tr := true } ∧ Turned (fun k => k = b) w w' := by
  have c1 : w.cell? ⟨b, 1, none⟩ = some (.bool m.wr) := h.cell 1
  have s1 := h.soft 1
  have c3 : w.cell? ⟨b, 3, none⟩ = some (.bool m.cr) := h.cell 3
  have s3 := h.soft 3
  have c4 : w.cell? ⟨b, 4, none⟩ = some (.bool m.tr) := h.cell 4
  have s4 := h.soft 4
  have e0 := Go.heap_setCell_same _ b 1 _ _ (.bool true) h
  have e1 := Go.heap_setCell_same _ b 3 _ _ (.bool true) e0
  have e2 := Go.heap_setCell_same _ b 4 _ _ (.bool true) e1
  go_enter Try.func64, Try.ntmps64
  go_wp2
  go_end0
  exact ⟨rfl, e2, Turned.set (S := fun k => k = b) (Turned.set (S := fun k => k = b) (Turned.set (S := fun k => k = b) (Turned.refl _ _) (.inl rfl)) (.inl rfl)) (.inl rfl)⟩
set_option maxRecDepth 100000 in
set_option maxHeartbeats 1000000 in
theorem olay_a (b : Nat) (m : Mo) (w : World) (h : MoAt w b m) : Calls Try.prog 66 #[.pointer (some ⟨b, 0, none⟩)] w fun e w' => e = .returned (.tuple #[]) ∧ MoAt w' b { m with wr := true, ap := true, cr := true } ∧ Turned (fun k => k = b) w w' := by
  have c1 : w.cell? ⟨b, 1, none⟩ = some (.bool m.wr) := h.cell 1
  have s1 := h.soft 1
  have c2 : w.cell? ⟨b, 2, none⟩ = some (.bool m.ap) := h.cell 2
  have s2 := h.soft 2
  have c3 : w.cell? ⟨b, 3, none⟩ = some (.bool m.cr) := h.cell 3
  have s3 := h.soft 3
  have e0 := Go.heap_setCell_same _ b 1 _ _ (.bool true) h
  have e1 := Go.heap_setCell_same _ b 2 _ _ (.bool true) e0
  have e2 := Go.heap_setCell_same _ b 3 _ _ (.bool true) e1
  go_enter Try.func66, Try.ntmps66
  go_wp2
  go_end0
  exact ⟨rfl, e2, Turned.set (S := fun k => k = b) (Turned.set (S := fun k => k = b) (Turned.set (S := fun k => k = b) (Turned.refl _ _) (.inl rfl)) (.inl rfl)) (.inl rfl)⟩
set_option maxRecDepth 100000 in
set_option maxHeartbeats 1000000 in
theorem olay_p (b : Nat) (m : Mo) (w : World) (h : MoAt w b m) : Calls Try.prog 69 #[.pointer (some ⟨b, 0, none⟩)] w fun e w' => e = .returned (.tuple #[]) ∧ MoAt w' b { m with rd := true, wr := true } ∧ Turned (fun k => k = b) w w' := by
  have c0 : w.cell? ⟨b, 0, none⟩ = some (.bool m.rd) := h.cell 0
  have s0 := h.soft 0
  have c1 : w.cell? ⟨b, 1, none⟩ = some (.bool m.wr) := h.cell 1
  have s1 := h.soft 1
  have e0 := Go.heap_setCell_same _ b 0 _ _ (.bool true) h
  have e1 := Go.heap_setCell_same _ b 1 _ _ (.bool true) e0
  go_enter Try.func69, Try.ntmps69
  go_wp2
  go_end0
  exact ⟨rfl, e1, Turned.set (S := fun k => k = b) (Turned.set (S := fun k => k = b) (Turned.refl _ _) (.inl rfl)) (.inl rfl)⟩
set_option maxRecDepth 100000 in
set_option maxHeartbeats 1000000 in
theorem olay_b (b : Nat) (m : Mo) (w : World) (h : MoAt w b m) : Calls Try.prog 71 #[.pointer (some ⟨b, 0, none⟩)] w fun e w' => e = .returned (.tuple #[]) ∧ MoAt w' b { m with bi := true } ∧ Turned (fun k => k = b) w w' := by
  have c6 : w.cell? ⟨b, 6, none⟩ = some (.bool m.bi) := h.cell 6
  have s6 := h.soft 6
  have e0 := Go.heap_setCell_same _ b 6 _ _ (.bool true) h
  go_enter Try.func71, Try.ntmps71
  go_wp2
  go_end0
  exact ⟨rfl, e0, Turned.set (S := fun k => k = b) (Turned.refl _ _) (.inl rfl)⟩
set_option maxRecDepth 100000 in
set_option maxHeartbeats 1000000 in
theorem olay_x (b : Nat) (m : Mo) (w : World) (h : MoAt w b m) : Calls Try.prog 74 #[.pointer (some ⟨b, 0, none⟩)] w fun e w' => e = .returned (.tuple #[]) ∧ MoAt w' b { m with ex := true } ∧ Turned (fun k => k = b) w w' := by
  have c5 : w.cell? ⟨b, 5, none⟩ = some (.bool m.ex) := h.cell 5
  have s5 := h.soft 5
  have e0 := Go.heap_setCell_same _ b 5 _ _ (.bool true) h
  go_enter Try.func74, Try.ntmps74
  go_wp2
  go_end0
  exact ⟨rfl, e0, Turned.set (S := fun k => k = b) (Turned.refl _ _) (.inl rfl)⟩
set_option maxRecDepth 100000 in
set_option maxHeartbeats 1000000 in
theorem olay_e (b : Nat) (m : Mo) (w : World) (h : MoAt w b m) : Calls Try.prog 76 #[.pointer (some ⟨b, 0, none⟩)] w fun e w' => e = .returned (.tuple #[]) ∧ MoAt w' b { m with ma := true } ∧ Turned (fun k => k = b) w w' := by
  have c7 : w.cell? ⟨b, 7, none⟩ = some (.bool m.ma) := h.cell 7
  have s7 := h.soft 7
  have e0 := Go.heap_setCell_same _ b 7 _ _ (.bool true) h
  go_enter Try.func76, Try.ntmps76
  go_wp2
  go_end0
  exact ⟨rfl, e0, Turned.set (S := fun k => k = b) (Turned.refl _ _) (.inl rfl)⟩
def ltc : Array Value := #[.int .u8 114, .func (.func 49) #[] #[], .func (.func 62) #[] #[], .func (.func 63) #[] #[],
  .int .u8 119, .func (.func 49) #[] #[], .func (.func 64) #[] #[], .func (.func 65) #[] #[],
  .int .u8 97, .func (.func 49) #[] #[], .func (.func 66) #[] #[], .func (.func 67) #[] #[],
  .int .u8 43, .func (.func 68) #[] #[], .func (.func 69) #[] #[], .func (.func 70) #[] #[],
  .int .u8 98, .func (.func 68) #[] #[], .func (.func 71) #[] #[], .func (.func 72) #[] #[],
  .int .u8 120, .func (.func 73) #[] #[], .func (.func 74) #[] #[], .func (.func 75) #[] #[],
  .int .u8 101, .func (.func 68) #[] #[], .func (.func 76) #[] #[], .func (.func 77) #[] #[]]
def Lt (W : World) (b : Nat) : Prop := W.heap[b]? = some (.cells ltc 99)
theorem Lt.lt {W : World} {b : Nat} (h : Lt W b) : b < W.heap.size := (Array.getElem?_eq_some_iff.1 h).1
theorem Lt.cell {W : World} {b : Nat} (h : Lt W b) (j : Nat) : W.cell? ⟨b, j, none⟩ = ltc[j]? := cell_of_row W b j _ _ _ h
theorem Lt.keep {S : Nat → Prop} {W W' : World} {b : Nat} (h : Lt W b) (hT : Turned S W W') (hS : ¬ S b) : Lt W' b := (hT.block b h.lt hS).trans h
theorem Lt.below {W W' : World} {b : Nat} (h : Lt W b) (hB : Below W.heap.size W W') : Lt W' b := (hB.block b h.lt).trans h
set_option maxRecDepth 100000 in
set_option maxHeartbeats 1000000 in
theorem oletters_any (w : World) : Calls Try.prog 48 #[] w fun e w' => e = .returned (.slice (some ⟨w.heap.size, 0, none⟩) 7 7) ∧ Lt w' w.heap.size ∧ Below w.heap.size w w' := by
  go_enter Try.func48, Try.ntmps48
  go_wp2
  go_ret
  exact ⟨rfl, heap_alloc_new _ _, (Below.refl _ _).alloc (Nat.le_refl _) _⟩
set_option maxRecDepth 100000 in
set_option maxHeartbeats 1000000 in
theorem isBegun_any (m : Mo) (w : World) : Calls Try.prog 68 #[mv m] w fun e w' => e = .returned (.bool (!isNone m)) ∧ Below w.heap.size w w' := by
  obtain ⟨a, b, c, d, e, f, g, h⟩ := m
  have hn := hide fun w => isNone_any ⟨a, b, c, d, e, f, g, h⟩ w
  unfold mv at hn ⊢
  go_enter Try.func68, Try.ntmps68
  go_wp2_with fail
  refine (hn.out _).mono ?_
  rintro e w1 ⟨rfl, hB⟩
  have hB2 := ((Below.refl w.heap.size w).alloc (Nat.le_refl _) _).trans (hB.mono (Nat.le_of_lt (size_new _ _)))
  go_wp2
  go_ret
  exact ⟨rfl, hB2⟩
end Go.Proofs.Ytgbkhmiphaefgaa

/- Openmode: spell. -/
namespace Go.Proofs.Ytgbkhmiphaefgaa
open Go.RowKit

def sg : List UInt8 := [114, 119, 97, 43, 98, 120, 101]
def hasI (m : Mo) : List Bool := [m.rd && !m.cr, m.tr, m.ap, m.rd && m.wr, m.bi, m.ex, m.ma]
def splK (m : Mo) : Nat → List UInt8
  | 0 => []
  | k + 1 => splK m k ++ (if (hasI m).getD k false then [sg.getD k 0] else [])
theorem splK_len (m : Mo) (k : Nat) : (splK m k).length ≤ k := by
  induction k with
  | zero => exact Nat.le_refl _
  | succ k ih => simp only [splK, List.length_append]; split <;> simp <;> omega
def spl (m : Mo) : List UInt8 := splK m 7
def hasF : Nat → FuncId
  | 0 => 63
  | 1 => 65
  | 2 => 67
  | 3 => 70
  | 4 => 72
  | 5 => 75
  | _ => 77

def mayF : Nat → FuncId
  | 0 => 49
  | 1 => 49
  | 2 => 49
  | 3 => 68
  | 4 => 68
  | 5 => 73
  | _ => 68
def layF : Nat → FuncId
  | 0 => 62
  | 1 => 64
  | 2 => 66
  | 3 => 69
  | 4 => 71
  | 5 => 74
  | _ => 76
def mayI (m : Mo) : List Bool := [isNone m, isNone m, isNone m, !isNone m, !isNone m, m.tr, !isNone m]
def layI (m : Mo) : Nat → Mo
  | 0 => { m with rd := true }
  | 1 => { m with wr := true, cr := true, tr := true }
  | 2 => { m with wr := true, ap := true, cr := true }
  | 3 => { m with rd := true, wr := true }
  | 4 => { m with bi := true }
  | 5 => { m with ex := true }
  | _ => { m with ma := true }
theorem omay_any (m : Mo) (k : Nat) (hk : k < 7) (w : World) : Calls Try.prog (mayF k) #[mv m] w fun e w' => e = .returned (.bool ((mayI m).getD k false)) ∧ Below w.heap.size w w' := by
  match k, hk with
  | 0, _ => exact isNone_any m w
  | 1, _ => exact isNone_any m w
  | 2, _ => exact isNone_any m w
  | 3, _ => exact isBegun_any m w
  | 4, _ => exact isBegun_any m w
  | 5, _ => exact omay_x m w
  | 6, _ => exact isBegun_any m w
theorem olay_any (b : Nat) (m : Mo) (k : Nat) (hk : k < 7) (w : World) (h : MoAt w b m) : Calls Try.prog (layF k) #[.pointer (some ⟨b, 0, none⟩)] w fun e w' => e = .returned (.tuple #[]) ∧ MoAt w' b (layI m k) ∧ Turned (fun k => k = b) w w' := by
  match k, hk with
  | 0, _ => exact olay_r b m w h
  | 1, _ => exact olay_w b m w h
  | 2, _ => exact olay_a b m w h
  | 3, _ => exact olay_p b m w h
  | 4, _ => exact olay_b b m w h
  | 5, _ => exact olay_x b m w h
  | 6, _ => exact olay_e b m w h
theorem ohas_any (m : Mo) (k : Nat) (hk : k < 7) (w : World) : Calls Try.prog (hasF k) #[mv m] w fun e w' => e = .returned (.bool ((hasI m).getD k false)) ∧ Below w.heap.size w w' := by
  match k, hk with
  | 0, _ => exact ohas_r m w
  | 1, _ => exact ohas_w m w
  | 2, _ => exact ohas_a m w
  | 3, _ => exact ohas_p m w
  | 4, _ => exact ohas_b m w
  | 5, _ => exact ohas_x m w
  | 6, _ => exact ohas_e m w
set_option maxRecDepth 100000 in
theorem enter_has {k : Nat} (hk : k < 7) (a : Array Value) (w : World) : (callFunc (hasF k) a).run Try.prog w = .ok (.enter (hasF k) a) w := by
  match k, hk with
  | 0, _ => exact (by kernel_rfl : (callFunc 63 a).run Try.prog w = .ok (.enter 63 a) w)
  | 1, _ => exact (by kernel_rfl : (callFunc 65 a).run Try.prog w = .ok (.enter 65 a) w)
  | 2, _ => exact (by kernel_rfl : (callFunc 67 a).run Try.prog w = .ok (.enter 67 a) w)
  | 3, _ => exact (by kernel_rfl : (callFunc 70 a).run Try.prog w = .ok (.enter 70 a) w)
  | 4, _ => exact (by kernel_rfl : (callFunc 72 a).run Try.prog w = .ok (.enter 72 a) w)
  | 5, _ => exact (by kernel_rfl : (callFunc 75 a).run Try.prog w = .ok (.enter 75 a) w)
  | 6, _ => exact (by kernel_rfl : (callFunc 77 a).run Try.prog w = .ok (.enter 77 a) w)
set_option maxRecDepth 100000 in
theorem enter_may {k : Nat} (hk : k < 7) (a : Array Value) (w : World) : (callFunc (mayF k) a).run Try.prog w = .ok (.enter (mayF k) a) w := by
  match k, hk with
  | 0, _ => exact (by kernel_rfl : (callFunc 49 a).run Try.prog w = .ok (.enter 49 a) w)
  | 1, _ => exact (by kernel_rfl : (callFunc 49 a).run Try.prog w = .ok (.enter 49 a) w)
  | 2, _ => exact (by kernel_rfl : (callFunc 49 a).run Try.prog w = .ok (.enter 49 a) w)
  | 3, _ => exact (by kernel_rfl : (callFunc 68 a).run Try.prog w = .ok (.enter 68 a) w)
  | 4, _ => exact (by kernel_rfl : (callFunc 68 a).run Try.prog w = .ok (.enter 68 a) w)
  | 5, _ => exact (by kernel_rfl : (callFunc 73 a).run Try.prog w = .ok (.enter 73 a) w)
  | 6, _ => exact (by kernel_rfl : (callFunc 68 a).run Try.prog w = .ok (.enter 68 a) w)
set_option maxRecDepth 100000 in
theorem enter_lay {k : Nat} (hk : k < 7) (a : Array Value) (w : World) : (callFunc (layF k) a).run Try.prog w = .ok (.enter (layF k) a) w := by
  match k, hk with
  | 0, _ => exact (by kernel_rfl : (callFunc 62 a).run Try.prog w = .ok (.enter 62 a) w)
  | 1, _ => exact (by kernel_rfl : (callFunc 64 a).run Try.prog w = .ok (.enter 64 a) w)
  | 2, _ => exact (by kernel_rfl : (callFunc 66 a).run Try.prog w = .ok (.enter 66 a) w)
  | 3, _ => exact (by kernel_rfl : (callFunc 69 a).run Try.prog w = .ok (.enter 69 a) w)
  | 4, _ => exact (by kernel_rfl : (callFunc 71 a).run Try.prog w = .ok (.enter 71 a) w)
  | 5, _ => exact (by kernel_rfl : (callFunc 74 a).run Try.prog w = .ok (.enter 74 a) w)
  | 6, _ => exact (by kernel_rfl : (callFunc 76 a).run Try.prog w = .ok (.enter 76 a) w)
theorem oone_cell {w : World} {x : Value} {t : TypeId} {j : Nat} {u : Value} (h : [x][j]? = some u) : (w.alloc (Obj.cells #[x] t)).cell? (Addr.add ⟨w.heap.size, 0, none⟩ j) = some u := by
  match j with
  | 0 => rw [show Addr.add ⟨w.heap.size, 0, none⟩ 0 = ⟨w.heap.size, 0, none⟩ from rfl, cell_of_row _ _ 0 _ _ _ (heap_alloc_new _ _)]; exact h
  | j + 1 => simp at h
theorem store_func (w : World) (a : Addr) (f : FuncId) : (store a (.func (.func f) #[] #[]) .plain).run Try.prog w = stored Try.prog w a (.func (.func f) #[] #[]) .plain := run_store Try.prog w a _ _ rfl
theorem ltc_cells {W : World} {b : Nat} (h : Lt W b) {k : Nat} (hk : k < 7) :
    W.cell? ⟨b, k * 4, none⟩ = some (.int .u8 ((sg.getD k 0).toNat : Int)) ∧ W.cell? ⟨b, k * 4 + 1, none⟩ = some (.func (.func (mayF k)) #[] #[]) ∧ W.cell? ⟨b, k * 4 + 2, none⟩ = some (.func (.func (layF k)) #[] #[]) ∧ W.cell? ⟨b, k * 4 + 3, none⟩ = some (.func (.func (hasF k)) #[] #[]) := by
  match k, hk with
  | 0, _ => exact ⟨h.cell 0, h.cell 1, h.cell 2, h.cell 3⟩
  | 1, _ => exact ⟨h.cell 4, h.cell 5, h.cell 6, h.cell 7⟩
  | 2, _ => exact ⟨h.cell 8, h.cell 9, h.cell 10, h.cell 11⟩
  | 3, _ => exact ⟨h.cell 12, h.cell 13, h.cell 14, h.cell 15⟩
  | 4, _ => exact ⟨h.cell 16, h.cell 17, h.cell 18, h.cell 19⟩
  | 5, _ => exact ⟨h.cell 20, h.cell 21, h.cell 22, h.cell 23⟩
  | 6, _ => exact ⟨h.cell 24, h.cell 25, h.cell 26, h.cell 27⟩
set_option maxRecDepth 100000 in
set_option maxHeartbeats 1000000 in
theorem ospell_any (m : Mo) (w : World) : Calls Try.prog 33 #[mv m] w fun e w' => e = .returned (.string ⟨(spl m).toArray⟩) ∧ Below w.heap.size w w' := by
  obtain ⟨i0, hi, hz0, hz1, hz2⟩ := info_parts Try.infoB
  have hl := hide fun w => oletters_any w
  have hh := hide (ohas_any m)
  generalize hR : spl m = R
  have HR := hide hR
  clear hR
  have hmv : mv m = .agg (mc m) := rfl
  rw [hmv] at hh ⊢
  go_enter Try.func33, Try.ntmps33
  go_wp2_with fail
  refine (hl.out _).mono ?_
  rintro e w1 ⟨rfl, hL, hB1⟩
  have hM : MoAt w1 w.heap.size m := (show MoAt (w.alloc (Obj.cells (mc m) 39)) w.heap.size m from heap_alloc_new _ _).below hB1
  have hB0 := ((Below.refl w.heap.size w).alloc (Nat.le_refl _) (Obj.cells (mc m) 39)).trans (hB1.mono (Nat.le_of_lt (size_new _ _)))
  rw [show (w.alloc (Obj.cells (mc m) 39)).heap.size = w.heap.size + 1 by simp] at hL
  have hs1 : w.heap.size + 2 ≤ w1.heap.size := hL.lt
  clear hB1 hl
  go_wp2
  go_loopw [3, 8] (fun s i wr => ∃ k : Nat, k ≤ 7 ∧ i = .int .i64 k ∧ wr.ownsRow (w.heap.size + 2) 5 1 s (splK m k).length ((splK m k).map bv) ∧ Lt wr (w.heap.size + 1) ∧ MoAt wr w.heap.size m ∧ Below w.heap.size w wr) (fun _ i _ => 7 - (intOf i).toNat)
  case atStart => exact ⟨0, by omega, rfl, ⟨rfl, .inl ⟨rfl, rfl⟩⟩, hL, hM, hB0⟩
  case round =>
    clear hL hM hB0 hs1
    obtain ⟨k, hk, rfl, hown, hL, hM, hB⟩ := hrel
    obtain ⟨a0, n0, rfl⟩ := owns_slice hown
    by_cases hlt : k < 7
    · have hk1 : (0 : Int) ≤ (k : Int) := by omega
      have hk2 : (k : Int) < 7 := by omega
      obtain ⟨e0, e1, e2, e3⟩ := ltc_cells hL hlt
      have hc := hh.out k hlt
      have HL := hide hL
      have HM := hide hM
      have HO := hide hown
      have HB := hide hB
      clear hL hM hown hB hh
      have b0 : (w.heap.size + 1 : Nat) < wr.heap.size := HL.out.lt
      have hm0 : ∀ o, (wr.alloc o).cell? ⟨w.heap.size, 0, none⟩ = some (.bool m.rd) := fun o => (HM.out.below ((Below.refl _ _).alloc (Nat.le_refl _) o)).cell 0
      have hm1 : ∀ o, (wr.alloc o).cell? ⟨w.heap.size, 1, none⟩ = some (.bool m.wr) := fun o => (HM.out.below ((Below.refl _ _).alloc (Nat.le_refl _) o)).cell 1
      have hm2 : ∀ o, (wr.alloc o).cell? ⟨w.heap.size, 2, none⟩ = some (.bool m.ap) := fun o => (HM.out.below ((Below.refl _ _).alloc (Nat.le_refl _) o)).cell 2
      have hm3 : ∀ o, (wr.alloc o).cell? ⟨w.heap.size, 3, none⟩ = some (.bool m.cr) := fun o => (HM.out.below ((Below.refl _ _).alloc (Nat.le_refl _) o)).cell 3
      have hm4 : ∀ o, (wr.alloc o).cell? ⟨w.heap.size, 4, none⟩ = some (.bool m.tr) := fun o => (HM.out.below ((Below.refl _ _).alloc (Nat.le_refl _) o)).cell 4
      have hm5 : ∀ o, (wr.alloc o).cell? ⟨w.heap.size, 5, none⟩ = some (.bool m.ex) := fun o => (HM.out.below ((Below.refl _ _).alloc (Nat.le_refl _) o)).cell 5
      have hm6 : ∀ o, (wr.alloc o).cell? ⟨w.heap.size, 6, none⟩ = some (.bool m.bi) := fun o => (HM.out.below ((Below.refl _ _).alloc (Nat.le_refl _) o)).cell 6
      have hm7 : ∀ o, (wr.alloc o).cell? ⟨w.heap.size, 7, none⟩ = some (.bool m.ma) := fun o => (HM.out.below ((Below.refl _ _).alloc (Nat.le_refl _) o)).cell 7
      have hsf := store_func
      have hen := enter_has hlt
      go_wp2_with fail
      refine (hc _).mono ?_
      rintro e w2 ⟨rfl, hB2⟩
      have hBa := ((Below.refl wr.heap.size wr).alloc (Nat.le_refl _) _).trans (hB2.mono (Nat.le_of_lt (size_new _ _)))
      have q0 := (hB2.cell (p := ⟨wr.heap.size, 0, none⟩) (size_new _ _)).trans (cell_of_row _ _ 0 _ _ _ (heap_alloc_new _ _))
      have hownA := owns_below HO.out hBa
      clear hm0 hm1 hm2 hm3 hm4 hm5 hm6 hm7 e0 e1 e2 e3 hc hsf
      cases hq : (hasI m).getD k false with
      | false =>
        have HQ := hide hq
        go_wp2
        go_roundw
        case rel => exact ⟨k + 1, by omega, by go_num, by simp only [splK]; rw [HQ.out]; simpa using hownA, HL.out.below hBa, HM.out.below hBa, HB.out.trans (hBa.mono HB.out.size)⟩
        case measure => simp [intOf]; omega
      | true =>
        have HQ := hide hq
        have hln := splK_len m k
        have q1 : w2.cell? ⟨wr.heap.size, 0, none⟩ = some (.int .u8 (sg[k]?.getD 0).toNat) := q0
        have hsz : w.heap.size + 2 ≤ w2.heap.size := Nat.le_trans b0 hBa.size
        clear hen q0
        have HBa := hide hBa
        have HOA := hide hownA
        clear hBa hB2 hownA
        go_wp2_with (at_builtin; refine wpList_append_own _ rfl _ _ 30 rfl (w.heap.size + 2) 5 i0 (.int .u8 0) 1 1 Try.underlying30 hi hz0 hz1 hz2 rfl (by decide) _ _ _ rfl (HOA.out.alloc _) ⟨w2.heap.size, 0, none⟩ 1 1 [.int .u8 (sg[k]?.getD 0).toNat] rfl rfl (fun j u hj => oone_cell hj) (by simp [Value.oneCell']) (by unfold maxLen; omega) (by omega) (by simp; omega) ?_; intro v' w4 hown4 hgrow4 hnil4)
        have hBg : Below (w.heap.size + 2) w2 w4 := ((Below.refl _ _).alloc hsz _).grown hgrow4 (by simp; omega) (fun k e => (HOA.out.lt k e).1)
        have hM4 : MoAt w4 w.heap.size m := (hBg.block _ (by omega)).trans (HM.out.below HBa.out)
        have hL4 : Lt w4 (w.heap.size + 1) := (hBg.block _ (by omega)).trans (HL.out.below HBa.out)
        go_roundw
        case rel => exact ⟨k + 1, by omega, by go_num, by simp only [splK]; rw [HQ.out]; simpa [bv] using hown4, hL4, hM4, (HB.out.trans (HBa.out.mono HB.out.size)).trans (hBg.mono (by omega))⟩
        case measure => simp [intOf]; omega
    · obtain rfl : k = 7 := by omega
      have hst := owns_string hown
      have HL := hide hL
      have HM := hide hM
      have HO := hide hown
      have HB := hide hB
      clear hL hM hown hB hh
      go_wp2
      go_ret
      exact ⟨by rw [← HR.out]; rfl, HB.out⟩
end Go.Proofs.Ytgbkhmiphaefgaa

/- Openmode: Parse. -/
namespace Go.Proofs.Ytgbkhmiphaefgaa
open Go.RowKit

def fits (m : Mo) (c : UInt8) (k : Nat) : Bool := decide (sg.getD k 0 = c) && ((mayI m).getD k false && !(hasI m).getD k false)
def stepM (m : Mo) (c : UInt8) : Option Mo := ((List.range 7).find? (fits m c)).map (layI m)
theorem stepM_some {m : Mo} {c : UInt8} {k : Nat} (hk : k < 7) (h : ∀ j, j < k → fits m c j = false) (hf : fits m c k = true) : stepM m c = some (layI m k) := by
  have : (List.range 7).find? (fits m c) = some k := by
    rw [List.find?_range_eq_some]
    exact ⟨hf, by simpa using hk, fun j hj => by simp [h j hj]⟩
  simp [stepM, this]
theorem stepM_none {m : Mo} {c : UInt8} (h : ∀ j, j < 7 → fits m c j = false) : stepM m c = none := by
  have : (List.range 7).find? (fits m c) = none := by
    rw [List.find?_range_eq_none]
    intro j hj
    simp [h j hj]
  simp [stepM, this]
theorem MoAt.s0 {W : World} {b : Nat} {m : Mo} (h : MoAt W b m) (x : Bool) : MoAt (W.setCell ⟨b, 0, none⟩ (.bool x)) b { m with rd := x } := Go.heap_setCell_same W b 0 _ _ (.bool x) h
theorem MoAt.s1 {W : World} {b : Nat} {m : Mo} (h : MoAt W b m) (x : Bool) : MoAt (W.setCell ⟨b, 1, none⟩ (.bool x)) b { m with wr := x } := Go.heap_setCell_same W b 1 _ _ (.bool x) h
theorem MoAt.s2 {W : World} {b : Nat} {m : Mo} (h : MoAt W b m) (x : Bool) : MoAt (W.setCell ⟨b, 2, none⟩ (.bool x)) b { m with ap := x } := Go.heap_setCell_same W b 2 _ _ (.bool x) h
theorem MoAt.s3 {W : World} {b : Nat} {m : Mo} (h : MoAt W b m) (x : Bool) : MoAt (W.setCell ⟨b, 3, none⟩ (.bool x)) b { m with cr := x } := Go.heap_setCell_same W b 3 _ _ (.bool x) h
theorem MoAt.s4 {W : World} {b : Nat} {m : Mo} (h : MoAt W b m) (x : Bool) : MoAt (W.setCell ⟨b, 4, none⟩ (.bool x)) b { m with tr := x } := Go.heap_setCell_same W b 4 _ _ (.bool x) h
theorem MoAt.s5 {W : World} {b : Nat} {m : Mo} (h : MoAt W b m) (x : Bool) : MoAt (W.setCell ⟨b, 5, none⟩ (.bool x)) b { m with ex := x } := Go.heap_setCell_same W b 5 _ _ (.bool x) h
theorem MoAt.s6 {W : World} {b : Nat} {m : Mo} (h : MoAt W b m) (x : Bool) : MoAt (W.setCell ⟨b, 6, none⟩ (.bool x)) b { m with bi := x } := Go.heap_setCell_same W b 6 _ _ (.bool x) h
theorem MoAt.s7 {W : World} {b : Nat} {m : Mo} (h : MoAt W b m) (x : Bool) : MoAt (W.setCell ⟨b, 7, none⟩ (.bool x)) b { m with ma := x } := Go.heap_setCell_same W b 7 _ _ (.bool x) h
def putM (W : World) (b : Nat) (m' : Mo) : World := ((((((((W.setCell ⟨b, 0, none⟩ (.bool m'.rd)).setCell ⟨b, 1, none⟩ (.bool m'.wr)).setCell ⟨b, 2, none⟩ (.bool m'.ap)).setCell ⟨b, 3, none⟩ (.bool m'.cr)).setCell ⟨b, 4, none⟩ (.bool m'.tr)).setCell ⟨b, 5, none⟩ (.bool m'.ex)).setCell ⟨b, 6, none⟩ (.bool m'.bi)).setCell ⟨b, 7, none⟩ (.bool m'.ma))
theorem MoAt.put {W : World} {b : Nat} {m : Mo} (h : MoAt W b m) (m' : Mo) : MoAt (putM W b m') b m' ∧ Turned (fun k => k = b) W (putM W b m') :=
  ⟨((((((((h.s0 m'.rd).s1 m'.wr).s2 m'.ap).s3 m'.cr).s4 m'.tr).s5 m'.ex).s6 m'.bi).s7 m'.ma), Turned.set (S := fun k => k = b) (Turned.set (S := fun k => k = b) (Turned.set (S := fun k => k = b) (Turned.set (S := fun k => k = b) (Turned.set (S := fun k => k = b) (Turned.set (S := fun k => k = b) (Turned.set (S := fun k => k = b) (Turned.set (S := fun k => k = b) (Turned.refl _ _) (.inl rfl)) (.inl rfl)) (.inl rfl)) (.inl rfl)) (.inl rfl)) (.inl rfl)) (.inl rfl)) (.inl rfl)⟩
def Mc (W : World) (b : Nat) (m : Mo) : Prop := W.cell? ⟨b, 0, none⟩ = some (.bool m.rd) ∧ W.cell? ⟨b, 1, none⟩ = some (.bool m.wr) ∧ W.cell? ⟨b, 2, none⟩ = some (.bool m.ap) ∧ W.cell? ⟨b, 3, none⟩ = some (.bool m.cr) ∧ W.cell? ⟨b, 4, none⟩ = some (.bool m.tr) ∧ W.cell? ⟨b, 5, none⟩ = some (.bool m.ex) ∧ W.cell? ⟨b, 6, none⟩ = some (.bool m.bi) ∧ W.cell? ⟨b, 7, none⟩ = some (.bool m.ma)
theorem MoAt.mc {W : World} {b : Nat} {m : Mo} (h : MoAt W b m) : Mc W b m := ⟨h.cell 0, h.cell 1, h.cell 2, h.cell 3, h.cell 4, h.cell 5, h.cell 6, h.cell 7⟩
def Ms (W : World) (b : Nat) : Prop := W.frozen? ⟨b, 0, none⟩ = false ∧ W.frozen? ⟨b, 1, none⟩ = false ∧ W.frozen? ⟨b, 2, none⟩ = false ∧ W.frozen? ⟨b, 3, none⟩ = false ∧ W.frozen? ⟨b, 4, none⟩ = false ∧ W.frozen? ⟨b, 5, none⟩ = false ∧ W.frozen? ⟨b, 6, none⟩ = false ∧ W.frozen? ⟨b, 7, none⟩ = false
theorem MoAt.ms {W : World} {b : Nat} {m : Mo} (h : MoAt W b m) : Ms W b := ⟨h.soft 0, h.soft 1, h.soft 2, h.soft 3, h.soft 4, h.soft 5, h.soft 6, h.soft 7⟩
theorem drop_getD {l : List UInt8} {k : Nat} (hk : k < l.length) : l.drop k = l.getD k 0 :: l.drop (k + 1) := by
  rw [List.drop_eq_getElem_cons hk]
  simp [List.getD_eq_getElem?_getD, List.getElem?_eq_getElem hk]
theorem hM1a {wr wa : World} {b : Nat} {m : Mo} (h : MoAt wr b m) (hB : Below wr.heap.size wr wa) : MoAt wa b m := h.below hB
def prs (m : Mo) (i : Nat) : List UInt8 → Mo × Int × Nat
  | [] => if isNone m then (mo0, 91, i) else (m, 0, i)
  | c :: r => match stepM m c with
    | none => (mo0, 91, i)
    | some m' => prs m' (i + 1) r
theorem res_mode {fn : Func} {p u v : Tmp} {w : World} (h : fn.results = #[.cell p 39, .tmp u, .tmp v]) (tmps : Array Value) (b : Nat) (hp : tmps.getD p undef = .pointer (some ⟨b, 0, none⟩)) (m : Mo) (hm : MoAt w b m) :
    (results fn tmps).run Try.prog w = .ok (.tuple #[mv m, tmps.getD u undef, tmps.getD v undef]) w := by
  have a60 := Try.isAgg39
  have z60 := Try.sizeOf39
  have c0 : w.cell? ⟨b, 0, none⟩ = some (.bool m.rd) := hm.cell 0
  have c1 : w.cell? ⟨b, 1, none⟩ = some (.bool m.wr) := hm.cell 1
  have c2 : w.cell? ⟨b, 2, none⟩ = some (.bool m.ap) := hm.cell 2
  have c3 : w.cell? ⟨b, 3, none⟩ = some (.bool m.cr) := hm.cell 3
  have c4 : w.cell? ⟨b, 4, none⟩ = some (.bool m.tr) := hm.cell 4
  have c5 : w.cell? ⟨b, 5, none⟩ = some (.bool m.ex) := hm.cell 5
  have c6 : w.cell? ⟨b, 6, none⟩ = some (.bool m.bi) := hm.cell 6
  have c7 : w.cell? ⟨b, 7, none⟩ = some (.bool m.ma) := hm.cell 7
  have u3 := Try.underlying4
  have a3 := Try.isAgg4
  have z3 := Try.sizeOf4
  have hr : (results fn tmps).run Try.prog w = ((asAddr (tmps.getD p undef)).run Try.prog w).andThen fun a w₁ => ((loadVar 39 a).run Try.prog w₁).andThen fun x w₂ => .ok (.tuple #[x, tmps.getD u undef, tmps.getD v undef]) w₂ := by
    simp only [results, h]
    simp [Sem.run_bind, Result.andThen]
  rw [hr, hp]
  simp only [loadVar]
  go_simp
  rfl

set_option maxRecDepth 100000 in
set_option maxHeartbeats 1000000 in
theorem oparse_any (s : ByteArray) (w : World) (hs : s.size ≤ maxLen) : Calls Try.prog 32 #[.string s] w fun e w' => e = .returned (.tuple #[mv (prs mo0 0 s.data.toList).1, .int .i64 (prs mo0 0 s.data.toList).2.1, .int .i64 (prs mo0 0 s.data.toList).2.2]) ∧ Below w.heap.size w w' := by
  have hl := hide fun w => oletters_any w
  have hlen : s.data.toList.length = s.size := by simp
  generalize hR : prs mo0 0 s.data.toList = R
  have HR := hide hR
  clear hR
  unfold maxLen at hs
  go_enter Try.func32, Try.ntmps32
  go_wp2
  go_step3
  go_wp2_with fail
  refine (hl.out _).mono ?_
  rintro e w1 ⟨rfl, hL, hB1⟩
  have hA0 : MoAt (w.alloc (Obj.cells (mc mo0) 39)) w.heap.size mo0 := heap_alloc_new _ _
  have hA1 : MoAt ((w.alloc (Obj.cells (mc mo0) 39)).alloc (Obj.cells (mc mo0) 39)) (w.heap.size + 1) mo0 := by
    have := heap_alloc_new (w.alloc (Obj.cells (mc mo0) 39)) (Obj.cells (mc mo0) 39)
    rwa [show (w.alloc (Obj.cells (mc mo0) 39)).heap.size = w.heap.size + 1 by simp] at this
  have hM0 : MoAt w1 w.heap.size mo0 := (hA0.below ((Below.refl _ _).alloc (Nat.le_refl _) _)).below hB1
  have hM1 : MoAt w1 (w.heap.size + 1) mo0 := hA1.below hB1
  have hB0 : Below w.heap.size w w1 := (((Below.refl w.heap.size w).alloc (Nat.le_refl _) (Obj.cells (mc mo0) 39)).alloc (by simp) (Obj.cells (mc mo0) 39)).trans (hB1.mono (by simp; omega))
  have hL2 : Lt w1 (w.heap.size + 1 + 1) := by simpa using hL
  clear hB1 hl hL hA0 hA1
  go_wp2
  go_step3
  go_wp2
  go_loopg [13] s.size (fun g s13 wx => ∃ (k : Nat) (m : Mo), k + g = s.size ∧ s13 = .int .i64 k ∧ Hid (prs m k (s.data.toList.drop k) = R) ∧ Hid (MoAt wx w.heap.size mo0) ∧ Hid (MoAt wx (w.heap.size + 1) m) ∧ Hid (Lt wx (w.heap.size + 1 + 1)) ∧ Hid (Below w.heap.size w wx))
  case atStart => exact ⟨0, mo0, by omega, rfl, HR, hM0, hM1, hL2, hB0⟩
  case round =>
    clear hM0 hM1 hL2 hB0 HR
    obtain ⟨k, m, hkg, rfl, HP, HM0, HM1, HL, HB⟩ := hrel
    cases gk with
    | zero =>
      have hkz : ¬ ((k : Int) < (s.size : Int)) := by omega
      have hnil : s.data.toList.drop k = [] := List.drop_eq_nil_of_le (by omega)
      have hp := HP.out
      rw [hnil] at hp
      have HN := hide hnil
      have HP2 := hide hp
      clear hnil hp HP
      obtain ⟨c0, c1, c2, c3, c4, c5, c6, c7⟩ := HM1.out.mc
      have hin := isNone_any m
      simp only [mv] at hin
      go_wp2_with fail
      refine (hin _).mono ?_
      rintro e w2 ⟨rfl, hB2⟩
      have HM0' := hide (HM0.out.below hB2)
      have HM1' := hide (HM1.out.below hB2)
      have HB' := hide (HB.out.trans (hB2.mono HB.out.size))
      clear c0 c1 c2 c3 c4 c5 c6 c7 hin HM0 HM1 HB
      obtain ⟨d0, d1, d2, d3, d4, d5, d6, d7⟩ := HM0'.out.mc
      obtain ⟨f0, f1, f2, f3, f4, f5, f6, f7⟩ := HM0'.out.ms
      cases hq : isNone m with
      | true =>
        go_wp2
        try rw [Exit.noGoto_ret]
        obtain ⟨p1, p2⟩ := HM0'.out.put mo0
        refine bodyPost_ret (res_mode rfl _ w.heap.size rfl mo0 p1) rfl ?_
        have hv : R = (mo0, 91, k) := by rw [← HP2.out]; simp [prs, hq]
        subst hv
        exact ⟨by rw [show (s.size : Int) = (k : Int) by omega]; rfl, (HB'.out.trans (p2.below (B := w.heap.size) (by intro k e; omega) HB'.out.size))⟩
      | false =>
        obtain ⟨c0, c1, c2, c3, c4, c5, c6, c7⟩ := HM1'.out.mc
        go_wp2
        try rw [Exit.noGoto_ret]
        obtain ⟨p1, p2⟩ := HM0'.out.put m
        refine bodyPost_ret (res_mode rfl _ w.heap.size rfl m p1) rfl ?_
        have hv : R = (m, 0, k) := by rw [← HP2.out]; simp [prs, hq]
        subst hv
        exact ⟨by rw [show (s.size : Int) = (k : Int) by omega]; rfl, (HB'.out.trans (p2.below (B := w.heap.size) (by intro k e; omega) HB'.out.size))⟩
    | succ g =>
      have hkz : (k : Int) < (s.size : Int) := by omega
      have hk0 : (0 : Int) ≤ (k : Int) := by omega
      go_wp2
      go_loopg [18] 7 (fun g2 s18 wy => ∃ j : Nat, j + g2 = 7 ∧ s18 = .int .i64 j ∧ Hid (∀ i, i < j → fits m (s.data.toList.getD k 0) i = false) ∧ Hid (MoAt wy w.heap.size mo0) ∧ Hid (MoAt wy (w.heap.size + 1) m) ∧ Hid (Lt wy (w.heap.size + 1 + 1)) ∧ Hid (Below w.heap.size w wy))
      case atStart => exact ⟨0, by omega, rfl, fun i hi => absurd hi (by omega), HM0, HM1, HL, HB⟩
      case round =>
        clear HM0 HM1 HL HB
        obtain ⟨j, hjg, rfl, HF, HM0, HM1, HL, HB⟩ := hrel
        cases gk with
        | zero =>
          obtain ⟨d0, d1, d2, d3, d4, d5, d6, d7⟩ := HM0.out.mc
          obtain ⟨f0, f1, f2, f3, f4, f5, f6, f7⟩ := HM0.out.ms
          have hj7 : ¬ (j : Int) < 7 := by omega
          go_wp2
          try rw [Exit.noGoto_ret]
          obtain ⟨p1, p2⟩ := HM0.out.put mo0
          refine bodyPost_ret (res_mode rfl _ w.heap.size rfl mo0 p1) rfl ?_
          have hv : R = (mo0, 91, k) := by
            rw [← HP.out, drop_getD (by omega : k < s.data.toList.length)]
            simp only [prs]
            rw [stepM_none (fun i hi => HF.out i (by omega))]
          subst hv
          exact ⟨rfl, (HB.out.trans (p2.below (B := w.heap.size) (by intro k e; omega) HB.out.size))⟩
        | succ g2 =>
          have hj7 : j < 7 := by omega
          have hj1 : (0 : Int) ≤ (j : Int) := by omega
          have hj2 : (j : Int) < 7 := by omega
          obtain ⟨e0, e1, e2, e3⟩ := ltc_cells HL.out hj7
          have hsf := store_func
          have hen := enter_has hj7
          have hen2 := enter_may hj7
          have hen3 := enter_lay hj7
          have hm0 : ∀ o, (wr.alloc o).cell? ⟨w.heap.size + 1, 0, none⟩ = some (.bool m.rd) := fun o => (HM1.out.below ((Below.refl _ _).alloc (Nat.le_refl _) o)).cell 0
          have hm1 : ∀ o, (wr.alloc o).cell? ⟨w.heap.size + 1, 1, none⟩ = some (.bool m.wr) := fun o => (HM1.out.below ((Below.refl _ _).alloc (Nat.le_refl _) o)).cell 1
          have hm2 : ∀ o, (wr.alloc o).cell? ⟨w.heap.size + 1, 2, none⟩ = some (.bool m.ap) := fun o => (HM1.out.below ((Below.refl _ _).alloc (Nat.le_refl _) o)).cell 2
          have hm3 : ∀ o, (wr.alloc o).cell? ⟨w.heap.size + 1, 3, none⟩ = some (.bool m.cr) := fun o => (HM1.out.below ((Below.refl _ _).alloc (Nat.le_refl _) o)).cell 3
          have hm4 : ∀ o, (wr.alloc o).cell? ⟨w.heap.size + 1, 4, none⟩ = some (.bool m.tr) := fun o => (HM1.out.below ((Below.refl _ _).alloc (Nat.le_refl _) o)).cell 4
          have hm5 : ∀ o, (wr.alloc o).cell? ⟨w.heap.size + 1, 5, none⟩ = some (.bool m.ex) := fun o => (HM1.out.below ((Below.refl _ _).alloc (Nat.le_refl _) o)).cell 5
          have hm6 : ∀ o, (wr.alloc o).cell? ⟨w.heap.size + 1, 6, none⟩ = some (.bool m.bi) := fun o => (HM1.out.below ((Below.refl _ _).alloc (Nat.le_refl _) o)).cell 6
          have hm7 : ∀ o, (wr.alloc o).cell? ⟨w.heap.size + 1, 7, none⟩ = some (.bool m.ma) := fun o => (HM1.out.below ((Below.refl _ _).alloc (Nat.le_refl _) o)).cell 7
          go_wp2_with fail
          have qa := fun i => cell_of_row (wr.alloc _) wr.heap.size i _ _ _ (heap_alloc_new wr (Obj.cells #[.int .u8 (sg[j]?.getD 0).toNat, .func (.func (mayF j)) #[] #[], .func (.func (layF j)) #[] #[], .func (.func (hasF j)) #[] #[]] 99))
          have hBa := (Below.refl wr.heap.size wr).alloc (Nat.le_refl _) (Obj.cells #[.int .u8 (sg[j]?.getD 0).toNat, .func (.func (mayF j)) #[] #[], .func (.func (layF j)) #[] #[], .func (.func (hasF j)) #[] #[]] 99)
          have hMa := hM1a HM1.out hBa
          generalize wr.alloc (Obj.cells #[.int .u8 (sg[j]?.getD 0).toNat, .func (.func (mayF j)) #[] #[], .func (.func (layF j)) #[] #[], .func (.func (hasF j)) #[] #[]] 99) = wa at *
          have q0 : wa.cell? ⟨wr.heap.size, 0, none⟩ = some (.int .u8 (sg[j]?.getD 0).toNat) := qa 0
          have q1 : wa.cell? ⟨wr.heap.size, 1, none⟩ = some (.func (.func (mayF j)) #[] #[]) := qa 1
          have q2 : wa.cell? ⟨wr.heap.size, 2, none⟩ = some (.func (.func (layF j)) #[] #[]) := qa 2
          have q3 : wa.cell? ⟨wr.heap.size, 3, none⟩ = some (.func (.func (hasF j)) #[] #[]) := qa 3
          obtain ⟨c0, c1, c2, c3, c4, c5, c6, c7⟩ := hMa.mc
          have HMa := hide hMa
          have HBa := hide hBa
          clear hMa hBa qa e0 e1 e2 e3 hm0 hm1 hm2 hm3 hm4 hm5 hm6 hm7 hsf
          have hkz' : k < s.size := by omega
          have hidx : s[k]'hkz' = s.data.toList.getD k 0 := by
            rw [List.getD_eq_getElem?_getD, List.getElem?_eq_getElem (by omega)]
            simp [ByteArray.getElem_eq_getElem_data]
          have HF2 := hide (show fits m (s.data.toList.getD k 0) j = (decide (sg[j]?.getD 0 = s.data.toList.getD k 0) && ((mayI m).getD j false && !(hasI m).getD j false)) from rfl)
          by_cases hsg : (sg[j]?.getD 0) = s.data.toList.getD k 0
          · have hgd : (((sg[j]?.getD 0).toNat : Int) == ((s[k]'hkz').toNat : Int)) = true := by rw [hidx, hsg]; simp
            rw [hsg, ← hidx] at q0
            have HI := hide hidx
            have HG := hide hsg
            clear hidx hsg hgd
            have hcm := hide (omay_any m j hj7)
            have hch := hide (ohas_any m j hj7)
            simp only [mv] at hcm hch
            have hwa : wr.heap.size < wa.heap.size := World.block_lt_of_cell? wa _ q1
            have HS : Hid (∀ w', Below wa.heap.size wa w' → (fun w' => w'.cell? ⟨w.heap.size + 1, 0, none⟩ = some (.bool m.rd) ∧ w'.cell? ⟨w.heap.size + 1, 1, none⟩ = some (.bool m.wr) ∧ w'.cell? ⟨w.heap.size + 1, 2, none⟩ = some (.bool m.ap) ∧ w'.cell? ⟨w.heap.size + 1, 3, none⟩ = some (.bool m.cr) ∧ w'.cell? ⟨w.heap.size + 1, 4, none⟩ = some (.bool m.tr) ∧ w'.cell? ⟨w.heap.size + 1, 5, none⟩ = some (.bool m.ex) ∧ w'.cell? ⟨w.heap.size + 1, 6, none⟩ = some (.bool m.bi) ∧ w'.cell? ⟨w.heap.size + 1, 7, none⟩ = some (.bool m.ma) ∧ w'.cell? ⟨wr.heap.size, 0, none⟩ = some (.int .u8 ((s[k]'hkz').toNat : Int)) ∧ w'.cell? ⟨wr.heap.size, 1, none⟩ = some (.func (.func (mayF j)) #[] #[]) ∧ w'.cell? ⟨wr.heap.size, 3, none⟩ = some (.func (.func (hasF j)) #[] #[])) w') := fun w' hb =>
              ⟨(HMa.out.below hb).cell 0, (HMa.out.below hb).cell 1, (HMa.out.below hb).cell 2, (HMa.out.below hb).cell 3, (HMa.out.below hb).cell 4, (HMa.out.below hb).cell 5, (HMa.out.below hb).cell 6, (HMa.out.below hb).cell 7,
                (hb.cell (p := ⟨wr.heap.size, 0, none⟩) hwa).trans q0, (hb.cell (p := ⟨wr.heap.size, 1, none⟩) hwa).trans q1, (hb.cell (p := ⟨wr.heap.size, 3, none⟩) hwa).trans q3⟩
            cases hmy : (mayI m).getD j false with
            | false =>
              rw [hmy] at hcm
              have HY := hide hmy
              clear hmy hch
              first | go_region_with (first | (refine (hcm.out _).mono ?_; rintro e w3 ⟨rfl, hB3⟩; have hb3 : Below wa.heap.size wa w3 := (Below.refl _ _).drew.trans hB3) | fail) | fail
              all_goals
                have hb : Below wr.heap.size wr w3 := HBa.out.trans (hb3.mono HBa.out.size)
                go_wp2
                go_roundg g2
                case measure => omega
                case rel => exact ⟨j + 1, by omega, by go_num, fun i hi => by
                  by_cases hij : i < j
                  · exact HF.out i hij
                  · rw [show i = j by omega, HF2.out, HG.out, HY.out]; simp, HM0.out.below hb, HM1.out.below hb, HL.out.below hb, HB.out.trans (hb.mono HB.out.size)⟩
            | true =>
              rw [hmy] at hcm
              have HY := hide hmy
              clear hmy
              cases hha : (hasI m).getD j false with
              | true =>
                rw [hha] at hch
                have HA := hide hha
                clear hha
                first | go_region_held3 (fun w' => w'.cell? ⟨w.heap.size + 1, 0, none⟩ = some (.bool m.rd) ∧ w'.cell? ⟨w.heap.size + 1, 1, none⟩ = some (.bool m.wr) ∧ w'.cell? ⟨w.heap.size + 1, 2, none⟩ = some (.bool m.ap) ∧ w'.cell? ⟨w.heap.size + 1, 3, none⟩ = some (.bool m.cr) ∧ w'.cell? ⟨w.heap.size + 1, 4, none⟩ = some (.bool m.tr) ∧ w'.cell? ⟨w.heap.size + 1, 5, none⟩ = some (.bool m.ex) ∧ w'.cell? ⟨w.heap.size + 1, 6, none⟩ = some (.bool m.bi) ∧ w'.cell? ⟨w.heap.size + 1, 7, none⟩ = some (.bool m.ma) ∧ w'.cell? ⟨wr.heap.size, 0, none⟩ = some (.int .u8 ((s[k]'hkz').toNat : Int)) ∧ w'.cell? ⟨wr.heap.size, 1, none⟩ = some (.func (.func (mayF j)) #[] #[]) ∧ w'.cell? ⟨wr.heap.size, 3, none⟩ = some (.func (.func (hasF j)) #[] #[]))
                  (first | exact HS.out _ hb4 | exact HS.out _ hb3 | exact HS.out _ (Below.refl _ _).drew | go_keep)
                  (first | (refine (hcm.out _).mono ?_; rintro e w3 ⟨rfl, hB3⟩; have hb3 : Below wa.heap.size wa w3 := (Below.refl _ _).drew.trans hB3) | (refine (hch.out _).mono ?_; rintro e w4 ⟨rfl, hB4⟩; have hb4 := hb3.trans (hB4.mono hb3.size)) | fail) | fail
                all_goals
                  have hb : Below wr.heap.size wr w4 := HBa.out.trans (hb4.mono HBa.out.size)
                  go_wp2
                  go_roundg g2
                  case measure => omega
                  case rel => exact ⟨j + 1, by omega, by go_num, fun i hi => by
                    by_cases hij : i < j
                    · exact HF.out i hij
                    · rw [show i = j by omega, HF2.out, HG.out, HY.out, HA.out]; simp, HM0.out.below hb, HM1.out.below hb, HL.out.below hb, HB.out.trans (hb.mono HB.out.size)⟩
              | false =>
                rw [hha] at hch
                have HA := hide hha
                clear hha
                first | go_region_held3 (fun w' => w'.cell? ⟨w.heap.size + 1, 0, none⟩ = some (.bool m.rd) ∧ w'.cell? ⟨w.heap.size + 1, 1, none⟩ = some (.bool m.wr) ∧ w'.cell? ⟨w.heap.size + 1, 2, none⟩ = some (.bool m.ap) ∧ w'.cell? ⟨w.heap.size + 1, 3, none⟩ = some (.bool m.cr) ∧ w'.cell? ⟨w.heap.size + 1, 4, none⟩ = some (.bool m.tr) ∧ w'.cell? ⟨w.heap.size + 1, 5, none⟩ = some (.bool m.ex) ∧ w'.cell? ⟨w.heap.size + 1, 6, none⟩ = some (.bool m.bi) ∧ w'.cell? ⟨w.heap.size + 1, 7, none⟩ = some (.bool m.ma) ∧ w'.cell? ⟨wr.heap.size, 0, none⟩ = some (.int .u8 ((s[k]'hkz').toNat : Int)) ∧ w'.cell? ⟨wr.heap.size, 1, none⟩ = some (.func (.func (mayF j)) #[] #[]) ∧ w'.cell? ⟨wr.heap.size, 3, none⟩ = some (.func (.func (hasF j)) #[] #[]))
                  (first | exact HS.out _ hb4 | exact HS.out _ hb3 | exact HS.out _ (Below.refl _ _).drew | go_keep)
                  (first | (refine (hcm.out _).mono ?_; rintro e w3 ⟨rfl, hB3⟩; have hb3 : Below wa.heap.size wa w3 := (Below.refl _ _).drew.trans hB3) | (refine (hch.out _).mono ?_; rintro e w4 ⟨rfl, hB4⟩; have hb4 := hb3.trans (hB4.mono hb3.size)) | fail) | fail
                have hb : Below wr.heap.size wr w4 := HBa.out.trans (hb4.mono HBa.out.size)
                have e2 := (hb4.cell (p := ⟨wr.heap.size, 2, none⟩) hwa).trans q2
                have HM1' := HM1.out.below hb
                have HLay := hide (olay_any (w.heap.size + 1) m j hj7 w4 HM1')
                go_wp2_with fail
                refine HLay.out.mono ?_
                rintro e w5 ⟨rfl, hM5, hT5⟩
                have hm5 := hide hM5
                have ht5 := hide hT5
                clear hM5 hT5
                go_wp2
                go_roundg g
                case measure => omega
                case rel =>
                  have hb0 : Below w.heap.size w w4 := HB.out.trans (hb.mono HB.out.size)
                  exact ⟨k + 1, layI m j, by omega, by go_num, by
                    show prs (layI m j) (k + 1) (s.data.toList.drop (k + 1)) = R
                    rw [← HP.out, drop_getD (by omega : k < s.data.toList.length)]
                    simp only [prs]
                    rw [stepM_some hj7 HF.out (by rw [HF2.out, HG.out, HY.out, HA.out]; simp)],
                    (HM0.out.below hb).keep ht5.out (by omega), hm5.out, (HL.out.below hb).keep ht5.out (by omega), hb0.trans (ht5.out.below (B := w.heap.size) (by intro k e; omega) hb0.size)⟩
          · have hgd : (((sg[j]?.getD 0).toNat : Int) == ((s[k]'hkz').toNat : Int)) = false := by
              rw [hidx]
              simp only [beq_eq_false_iff_ne, ne_eq]
              intro e
              exact hsg (UInt8.toNat_inj.1 (by omega))
            have HI := hide hidx
            have HG := hide hsg
            clear hidx hsg
            go_region
            go_wp2
            go_roundg g2
            case measure => omega
            case rel => exact ⟨j + 1, by omega, by go_num, fun i hi => by
              by_cases hij : i < j
              · exact HF.out i hij
              · rw [show i = j by omega, HF2.out, decide_eq_false HG.out, Bool.false_and], HM0.out.below HBa.out.drew, HMa.out.below (Below.refl _ _).drew, HL.out.below HBa.out.drew, (HB.out.trans (HBa.out.mono HB.out.size)).drew⟩
end Go.Proofs.Ytgbkhmiphaefgaa

/- Openmode: the reference's Parse and letters. -/
namespace Go.Proofs.Ytgbkhmiphaefgaa
open Go.RowKit

end Go.Proofs.Ytgbkhmiphaefgaa

/- Openmode: the reference's Parse. -/
namespace Go.Proofs.Ytgbkhmiphaefgaa
open Go.RowKit

end Go.Proofs.Ytgbkhmiphaefgaa

/- Openmode: Check, Print, Flags of both. -/
namespace Go.Proofs.Ytgbkhmiphaefgaa
open Go.RowKit

theorem spl_len (m : Mo) : (spl m).length ≤ 7 := splK_len m 7
def chkM (m : Mo) : Int := if (prs mo0 0 (spl m)).2.1 = 0 ∧ (prs mo0 0 (spl m)).1 = m then 0 else 91
set_option maxRecDepth 100000 in
set_option maxHeartbeats 1000000 in
theorem ocheck_any (m : Mo) (w : World) : Calls Try.prog 19 #[mv m] w fun e w' => e = .returned (.int .i64 (chkM m)) ∧ Below w.heap.size w w' := by
  generalize hR : chkM m = R
  have HR := hide hR
  clear hR
  have hsp := hide (ospell_any m)
  have hpr := hide (fun w => oparse_any ⟨(spl m).toArray⟩ w (by have := spl_len m; unfold maxLen; simp [ByteArray.size]; omega))
  simp only at hpr
  unfold chkM at HR
  generalize hq : prs mo0 0 (spl m) = q at *
  have HQ := hide hq
  clear hq
  obtain ⟨x, e, n⟩ := q
  simp only [mv] at hsp hpr ⊢
  go_enter Try.func19, Try.ntmps19
  go_wp2_with fail
  refine (hsp.out _).mono ?_
  rintro e1 w1 ⟨rfl, hB1⟩
  go_wp2_with fail
  refine (hpr.out _).mono ?_
  rintro e2 w2 ⟨rfl, hB2⟩
  have hA : MoAt (w.alloc (Obj.cells (mc m) 39)) w.heap.size m := heap_alloc_new _ _
  have hB12 := hB1.trans (hB2.mono hB1.size)
  have hM2 : ∀ o, MoAt (w2.alloc o) w.heap.size m := fun o => (hA.below hB12).below ((Below.refl _ _).alloc (Nat.le_refl _) o)
  have hBB : Below w.heap.size w w2 := ((Below.refl w.heap.size w).alloc (Nat.le_refl _) _).trans (hB12.mono (Nat.le_of_lt (size_new _ _)))
  have c0 := fun o => (hM2 o).mc.1
  have c1 := fun o => (hM2 o).mc.2.1
  have c2 := fun o => (hM2 o).mc.2.2.1
  have c3 := fun o => (hM2 o).mc.2.2.2.1
  have c4 := fun o => (hM2 o).mc.2.2.2.2.1
  have c5 := fun o => (hM2 o).mc.2.2.2.2.2.1
  have c6 := fun o => (hM2 o).mc.2.2.2.2.2.2.1
  have c7 := fun o => (hM2 o).mc.2.2.2.2.2.2.2
  have HBB := hide hBB
  clear hB1 hB2 hB12 hM2 hA hBB hsp hpr
  by_cases he : e = 0
  · subst he
    have hr : R = if x = m then 0 else 91 := by rw [← HR.out]; simp
    have HRR := hide hr
    clear hr
    go_wp2
    all_goals go_ret
    all_goals refine ⟨ret_int ?_, HBB.out.alloc HBB.out.size _⟩
    all_goals rw [HRR.out]
    all_goals
      by_cases hxm : x = m
      · first | (rw [if_pos hxm]; done) | (exfalso; subst hxm; simp_all; done)
      · first | (rw [if_neg hxm]; done) | (exfalso; refine hxm ?_; cases x; cases m; simp_all; done)
  · have hr : R = 91 := by rw [← HR.out]; simp [he]
    subst hr
    go_wp2
    all_goals go_ret
    all_goals exact ⟨rfl, HBB.out.alloc HBB.out.size _⟩
end Go.Proofs.Ytgbkhmiphaefgaa

/- What the proof stands on, part 9: the contracts of the program's calls that it reaches. -/
import Derived.Test.YtndleeafkepdjaaGreatKW8
import Derived.BigRegion
import Derived.Lib.MinMax
import Derived.Deep.DeepCutAuto
/- Lines: a source: a state on its way, most of what was read apart; in memory. -/
namespace Go.Proofs.YtndleeafkepdjaaGreat
open Go.RowKit

def Src (W : World) (g : Nat) (x : SS) (o i b r f : Value) : Prop := W.heap[g]? = some (.cells #[.bool x.rd, .bool x.wt, .int .i64 x.mode, .int .i64 x.size, o, i, b, .int .i64 x.dir, .bool x.fin, .bool x.bad, .bool x.closed, r, f] 341)
theorem Src.cs {W : World} {g : Nat} {x : SS} {o i b r f : Value} (h : Src W g x o i b r f) : W.cell? ⟨g, 0, none⟩ = some (.bool x.rd) ∧ W.cell? ⟨g, 1, none⟩ = some (.bool x.wt) ∧ W.cell? ⟨g, 2, none⟩ = some (.int .i64 x.mode) ∧ W.cell? ⟨g, 3, none⟩ = some (.int .i64 x.size) ∧ W.cell? ⟨g, 4, none⟩ = some (o) ∧ W.cell? ⟨g, 5, none⟩ = some (i) ∧ W.cell? ⟨g, 6, none⟩ = some (b) ∧ W.cell? ⟨g, 7, none⟩ = some (.int .i64 x.dir) ∧ W.cell? ⟨g, 8, none⟩ = some (.bool x.fin) ∧ W.cell? ⟨g, 9, none⟩ = some (.bool x.bad) ∧ W.cell? ⟨g, 10, none⟩ = some (.bool x.closed) ∧ W.cell? ⟨g, 11, none⟩ = some (r) ∧ W.cell? ⟨g, 12, none⟩ = some (f) :=
  ⟨cell_of_row W g 0 _ _ _ h, cell_of_row W g 1 _ _ _ h, cell_of_row W g 2 _ _ _ h, cell_of_row W g 3 _ _ _ h, cell_of_row W g 4 _ _ _ h, cell_of_row W g 5 _ _ _ h, cell_of_row W g 6 _ _ _ h, cell_of_row W g 7 _ _ _ h, cell_of_row W g 8 _ _ _ h, cell_of_row W g 9 _ _ _ h, cell_of_row W g 10 _ _ _ h, cell_of_row W g 11 _ _ _ h, cell_of_row W g 12 _ _ _ h⟩
theorem Src.lt {W : World} {g : Nat} {x : SS} {o i b r f : Value} (h : Src W g x o i b r f) : g < W.heap.size := (Array.getElem?_eq_some_iff.1 h).1
theorem Src.soft {W : World} {g : Nat} {x : SS} {o i b r f : Value} (h : Src W g x o i b r f) (j : Nat) : W.frozen? ⟨g, j, none⟩ = false := frozen_of_row W g j _ _ h
theorem Src.set {W : World} {g : Nat} {x x' : SS} {o i b o' i' b' r r' f f' : Value} (h : Src W g x o i b r f) (j : Nat) (u : Value) (hl : ([.bool x.rd, .bool x.wt, .int .i64 x.mode, .int .i64 x.size, o, i, b, .int .i64 x.dir, .bool x.fin, .bool x.bad, .bool x.closed, r, f] : List Value).set j u = [.bool x'.rd, .bool x'.wt, .int .i64 x'.mode, .int .i64 x'.size, o', i', b', .int .i64 x'.dir, .bool x'.fin, .bool x'.bad, .bool x'.closed, r', f']) : Src (W.setCell ⟨g, j, none⟩ u) g x' o' i' b' r' f' := by
  have := Go.heap_setCell_same W g j _ _ u h
  unfold Src
  rw [this]
  simp only [List.setIfInBounds_toArray, hl]
theorem Src.below {W W' : World} {g : Nat} {x : SS} {o i b r f : Value} (h : Src W g x o i b r f) (hB : Below W.heap.size W W') : Src W' g x o i b r f := (hB.block g h.lt).trans h
theorem Src.turned {P : Nat → Prop} {W W' : World} {g : Nat} {x : SS} {o i b r f : Value} (h : Src W g x o i b r f) (hT : Turned P W W') (hg : ¬ P g) : Src W' g x o i b r f := (hT.block g h.lt hg).trans h
theorem Src.two {W : World} {g : Nat} {x : SS} {o i b r f : Value} (h : Src W g x o i b r f) (n : List UInt8) (i' f' : Value) : Src ((W.setCell ⟨g, 5, none⟩ i').setCell ⟨g, 12, none⟩ f') g (x.near n) o i' b r f' := Src.set (x := x.near n) (Src.set (x' := x.near n) h 5 i' rfl) 12 f' rfl
theorem Sl.zero {W : World} {a : Addr} {c : Nat} : Sl W (.slice (some a) 0 c) [] := ⟨_, _, rfl, .inr (.inl ⟨_, _, rfl, rfl⟩), Nat.zero_le _⟩
theorem Sl.cuts {W : World} {b o c : Nat} {l : List UInt8} (h : Sl W (.slice (some ⟨b, o, none⟩) l.length c) l) (n : Nat) (hn : n ≤ l.length) : Sl W (.slice (some ⟨b, o, none⟩) n c) (l.take n) ∧ Sl W (.slice (some ⟨b, o + n, none⟩) (l.length - n) (c - n)) (l.drop n) := by
  obtain ⟨_, _, e, hb, hc⟩ := h
  cases e
  have h1 := bys_cut hb 0 n c (by omega)
  have h2 := bys_cut hb n (l.length - n) (c - n) (by omega)
  rw [List.drop_zero, Nat.add_zero] at h1
  rw [List.take_of_length_le (by rw [List.length_drop]; exact Nat.le_refl _)] at h2
  exact ⟨⟨_, _, by rw [List.length_take, Nat.min_eq_left hn], h1, by rw [List.length_take]; omega⟩, ⟨_, _, by rw [List.length_drop], h2, by rw [List.length_drop]; omega⟩⟩
set_option maxRecDepth 100000 in
set_option maxHeartbeats 4000000 in
theorem partIn_A0 (y : SS) (g : Nat) (fa : Option Addr) (fc : Nat) (o b r : Value) (w : World) (h : Src w g y o (.slice none 0 0) b r (.slice fa 0 fc)) : Calls Tryz.prog 213 #[.pointer (some ⟨g, 0, none⟩)] w fun e w' => ∃ i' f', e = .returned (.tuple #[]) ∧ Src w' g (y.near []) o i' b r f' ∧ Sl w' i' [] ∧ Sl w' f' [] ∧ (∀ k, i'.ownBlock = some k ∨ f'.ownBlock = some k → False) ∧ Turned (fun k => k = g) w w' := by
  have HS := hide h
  obtain ⟨c0, c1, c2, c3, c4, c5, c6, c7, c8, c9, c10, c11, c12⟩ := h.cs
  have s5 := h.soft 5
  have s12 := h.soft 12
  have hm : min (64 : Int) 0 = 0 := by decide
  clear h
  go_enter Tryz.func213, Tryz.ntmps213
  go_upto_region 4 with fail
  have HS2 : Hid (Src ((w.setCell ⟨g, 5, none⟩ (.slice none 0 0)).setCell ⟨g, 12, none⟩ (.slice none 0 0)) g (y.near []) o (.slice none 0 0) b r (.slice none 0 0)) := hide (HS.out.two [] _ _)
  have HT2 : Hid (Turned (fun k => k = g) w ((w.setCell ⟨g, 5, none⟩ (.slice none 0 0)).setCell ⟨g, 12, none⟩ (.slice none 0 0))) := hide (((Turned.refl (fun k => k = g) w).set (.inl rfl)).set (.inl rfl))
  generalize (w.setCell ⟨g, 5, none⟩ (.slice none 0 0)).setCell ⟨g, 12, none⟩ (.slice none 0 0) = w2 at *
  clear c0 c1 c2 c3 c4 c5 c6 c7 c8 c9 c10 c11 c12 s5 s12
  obtain ⟨c0, c1, c2, c3, c4, c5, c6, c7, c8, c9, c10, c11, c12⟩ := HS2.out.cs
  have s5 := HS2.out.soft 5
  have s12 := HS2.out.soft 12
  go_big_region
  try go_wp2
  go_end0
  have HT3 : ∀ X Y, Turned (fun k => k = g) w ((w2.drew.setCell ⟨g, 5, none⟩ X).setCell ⟨g, 12, none⟩ Y) := fun X Y => HT2.out.trans (((Turned.of_below (S := fun k => k = g) (Below.refl _ w2).drew).set (.inl rfl)).set (.inl rfl)) (fun _ _ e => e)
  exact ⟨_, _, rfl, Src.two (show Src (World.drew _) g _ o _ b r _ from HS2.out) [] _ _, Sl.nil, Sl.nil, (by intro k e; rcases e with e | e <;> simp [Value.ownBlock] at e <;> omega), HT3 _ _⟩
set_option maxRecDepth 100000 in
set_option maxHeartbeats 4000000 in
theorem partIn_A1 (y : SS) (g : Nat) (fa : Option Addr) (fc : Nat) (ab ao : Nat) (au : Option Nat) (o b r : Value) (w : World) (h : Src w g y o (.slice (some ⟨ab, ao, au⟩) 0 0) b r (.slice fa 0 fc)) : Calls Tryz.prog 213 #[.pointer (some ⟨g, 0, none⟩)] w fun e w' => ∃ i' f', e = .returned (.tuple #[]) ∧ Src w' g (y.near []) o i' b r f' ∧ Sl w' i' [] ∧ Sl w' f' [] ∧ (∀ k, i'.ownBlock = some k ∨ f'.ownBlock = some k → k = ab) ∧ Turned (fun k => k = g) w w' := by
  have HS := hide h
  obtain ⟨c0, c1, c2, c3, c4, c5, c6, c7, c8, c9, c10, c11, c12⟩ := h.cs
  have s5 := h.soft 5
  have s12 := h.soft 12
  have hm : min (64 : Int) 0 = 0 := by decide
  clear h
  go_enter Tryz.func213, Tryz.ntmps213
  go_upto_region 4 with fail
  have HS2 : Hid (Src ((w.setCell ⟨g, 5, none⟩ (.slice none 0 0)).setCell ⟨g, 12, none⟩ (.slice (some ⟨ab, ao, au⟩) 0 0)) g (y.near []) o (.slice none 0 0) b r (.slice (some ⟨ab, ao, au⟩) 0 0)) := hide (HS.out.two [] _ _)
  have HT2 : Hid (Turned (fun k => k = g) w ((w.setCell ⟨g, 5, none⟩ (.slice none 0 0)).setCell ⟨g, 12, none⟩ (.slice (some ⟨ab, ao, au⟩) 0 0))) := hide (((Turned.refl (fun k => k = g) w).set (.inl rfl)).set (.inl rfl))
  generalize (w.setCell ⟨g, 5, none⟩ (.slice none 0 0)).setCell ⟨g, 12, none⟩ (.slice (some ⟨ab, ao, au⟩) 0 0) = w2 at *
  clear c0 c1 c2 c3 c4 c5 c6 c7 c8 c9 c10 c11 c12 s5 s12
  obtain ⟨c0, c1, c2, c3, c4, c5, c6, c7, c8, c9, c10, c11, c12⟩ := HS2.out.cs
  have s5 := HS2.out.soft 5
  have s12 := HS2.out.soft 12
  go_big_region
  try go_wp2
  go_end0
  have HT3 : ∀ X Y, Turned (fun k => k = g) w ((w2.drew.setCell ⟨g, 5, none⟩ X).setCell ⟨g, 12, none⟩ Y) := fun X Y => HT2.out.trans (((Turned.of_below (S := fun k => k = g) (Below.refl _ w2).drew).set (.inl rfl)).set (.inl rfl)) (fun _ _ e => e)
  exact ⟨_, _, rfl, Src.two (show Src (World.drew _) g _ o _ b r _ from HS2.out) [] _ _, Sl.zero, Sl.zero, (by intro k e; rcases e with e | e <;> simp [Value.ownBlock] at e <;> omega), HT3 _ _⟩
set_option maxRecDepth 100000 in
set_option maxHeartbeats 4000000 in
theorem partIn_A2 (y : SS) (g : Nat) (fa : Option Addr) (fc : Nat) (ab ao c : Nat) (au : Option Nat) (hc : ¬ c = 0) (o b r : Value) (w : World) (h : Src w g y o (.slice (some ⟨ab, ao, au⟩) 0 c) b r (.slice fa 0 fc)) : Calls Tryz.prog 213 #[.pointer (some ⟨g, 0, none⟩)] w fun e w' => ∃ i' f', e = .returned (.tuple #[]) ∧ Src w' g (y.near []) o i' b r f' ∧ Sl w' i' [] ∧ Sl w' f' [] ∧ (∀ k, i'.ownBlock = some k ∨ f'.ownBlock = some k → k = ab) ∧ Turned (fun k => k = g) w w' := by
  have HS := hide h
  obtain ⟨c0, c1, c2, c3, c4, c5, c6, c7, c8, c9, c10, c11, c12⟩ := h.cs
  have s5 := h.soft 5
  have s12 := h.soft 12
  have hm : min (64 : Int) 0 = 0 := by decide
  have hc1 : (0 : Int) < (c : Int) := by omega
  clear h
  go_enter Tryz.func213, Tryz.ntmps213
  go_upto_region 4 with fail
  have HS2 : Hid (Src ((w.setCell ⟨g, 5, none⟩ (.slice none 0 0)).setCell ⟨g, 12, none⟩ (.slice (some ⟨ab, ao, au⟩) 0 c)) g (y.near []) o (.slice none 0 0) b r (.slice (some ⟨ab, ao, au⟩) 0 c)) := hide (HS.out.two [] _ _)
  have HT2 : Hid (Turned (fun k => k = g) w ((w.setCell ⟨g, 5, none⟩ (.slice none 0 0)).setCell ⟨g, 12, none⟩ (.slice (some ⟨ab, ao, au⟩) 0 c))) := hide (((Turned.refl (fun k => k = g) w).set (.inl rfl)).set (.inl rfl))
  generalize (w.setCell ⟨g, 5, none⟩ (.slice none 0 0)).setCell ⟨g, 12, none⟩ (.slice (some ⟨ab, ao, au⟩) 0 c) = w2 at *
  clear c0 c1 c2 c3 c4 c5 c6 c7 c8 c9 c10 c11 c12 s5 s12
  obtain ⟨c0, c1, c2, c3, c4, c5, c6, c7, c8, c9, c10, c11, c12⟩ := HS2.out.cs
  have s5 := HS2.out.soft 5
  have s12 := HS2.out.soft 12
  go_big_region
  try go_wp2
  go_end0
  have HT3 : ∀ X Y, Turned (fun k => k = g) w ((w2.drew.setCell ⟨g, 5, none⟩ X).setCell ⟨g, 12, none⟩ Y) := fun X Y => HT2.out.trans (((Turned.of_below (S := fun k => k = g) (Below.refl _ w2).drew).set (.inl rfl)).set (.inl rfl)) (fun _ _ e => e)
  exact ⟨_, _, rfl, Src.two (show Src (World.drew _) g _ o _ b r _ from HS2.out) [] _ _, Sl.zero, Sl.zero, (by intro k e; rcases e with e | e <;> simp [Value.ownBlock] at e <;> omega), HT3 _ _⟩
set_option maxRecDepth 100000 in
set_option maxHeartbeats 4000000 in
theorem partIn_A3 (y : SS) (g : Nat) (fa : Option Addr) (fc : Nat) (ab ao : Nat) (hn0 : 0 < y.inn.length) (hn : y.inn.length ≤ 64) (o b r : Value) (w : World) (h : Src w g y o (.slice (some ⟨ab, ao, none⟩) y.inn.length y.inn.length) b r (.slice fa 0 fc)) (hv : Sl w (.slice (some ⟨ab, ao, none⟩) y.inn.length y.inn.length) y.inn) (hg : ab ≠ g) : Calls Tryz.prog 213 #[.pointer (some ⟨g, 0, none⟩)] w fun e w' => ∃ i' f', e = .returned (.tuple #[]) ∧ Src w' g (y.near y.inn) o i' b r f' ∧ Sl w' i' y.inn ∧ Sl w' f' [] ∧ (∀ k, i'.ownBlock = some k ∨ f'.ownBlock = some k → k = ab) ∧ Turned (fun k => k = g) w w' := by
  have HS := hide h
  obtain ⟨c0, c1, c2, c3, c4, c5, c6, c7, c8, c9, c10, c11, c12⟩ := h.cs
  have s5 := h.soft 5
  have s12 := h.soft 12
  have hm : min (64 : Int) (y.inn.length : Int) = (y.inn.length : Int) := by omega
  have HV := hide hv
  clear hv
  clear h
  go_enter Tryz.func213, Tryz.ntmps213
  go_upto_region 4 with fail
  have HS2 : Hid (Src ((w.setCell ⟨g, 5, none⟩ (.slice none 0 0)).setCell ⟨g, 12, none⟩ (.slice (some ⟨ab, ao, none⟩) y.inn.length y.inn.length)) g (y.near []) o (.slice none 0 0) b r (.slice (some ⟨ab, ao, none⟩) y.inn.length y.inn.length)) := hide (HS.out.two [] _ _)
  have HT2 : Hid (Turned (fun k => k = g) w ((w.setCell ⟨g, 5, none⟩ (.slice none 0 0)).setCell ⟨g, 12, none⟩ (.slice (some ⟨ab, ao, none⟩) y.inn.length y.inn.length))) := hide (((Turned.refl (fun k => k = g) w).set (.inl rfl)).set (.inl rfl))
  generalize (w.setCell ⟨g, 5, none⟩ (.slice none 0 0)).setCell ⟨g, 12, none⟩ (.slice (some ⟨ab, ao, none⟩) y.inn.length y.inn.length) = w2 at *
  clear c0 c1 c2 c3 c4 c5 c6 c7 c8 c9 c10 c11 c12 s5 s12
  obtain ⟨c0, c1, c2, c3, c4, c5, c6, c7, c8, c9, c10, c11, c12⟩ := HS2.out.cs
  have s5 := HS2.out.soft 5
  have s12 := HS2.out.soft 12
  go_big_region
  try go_wp2
  go_end0
  have HT3 : ∀ X Y, Turned (fun k => k = g) w ((w2.drew.setCell ⟨g, 5, none⟩ X).setCell ⟨g, 12, none⟩ Y) := fun X Y => HT2.out.trans (((Turned.of_below (S := fun k => k = g) (Below.refl _ w2).drew).set (.inl rfl)).set (.inl rfl)) (fun _ _ e => e)
  exact ⟨_, _, rfl, Src.two (show Src (World.drew _) g _ o _ b r _ from HS2.out) y.inn _ _, (HV.out.turned (HT3 _ _) (fun k e _ e2 => hg (by simp [Value.ownBlock] at e; omega))), Sl.zero, (by intro k e; rcases e with e | e <;> simp [Value.ownBlock] at e <;> omega), HT3 _ _⟩
set_option maxRecDepth 100000 in
set_option maxHeartbeats 4000000 in
theorem partIn_A4 (y : SS) (g : Nat) (fa : Option Addr) (fc : Nat) (ab ao c : Nat) (hn0 : 0 < y.inn.length) (hn : y.inn.length ≤ 64) (hc : y.inn.length < c) (o b r : Value) (w : World) (h : Src w g y o (.slice (some ⟨ab, ao, none⟩) y.inn.length c) b r (.slice fa 0 fc)) (hv : Sl w (.slice (some ⟨ab, ao, none⟩) y.inn.length c) y.inn) (hg : ab ≠ g) : Calls Tryz.prog 213 #[.pointer (some ⟨g, 0, none⟩)] w fun e w' => ∃ i' f', e = .returned (.tuple #[]) ∧ Src w' g (y.near y.inn) o i' b r f' ∧ Sl w' i' y.inn ∧ Sl w' f' [] ∧ (∀ k, i'.ownBlock = some k ∨ f'.ownBlock = some k → k = ab) ∧ Turned (fun k => k = g) w w' := by
  have HS := hide h
  obtain ⟨c0, c1, c2, c3, c4, c5, c6, c7, c8, c9, c10, c11, c12⟩ := h.cs
  have s5 := h.soft 5
  have s12 := h.soft 12
  have hm : min (64 : Int) (y.inn.length : Int) = (y.inn.length : Int) := by omega
  have hc1 : (y.inn.length : Int) < (c : Int) := by omega
  have hc2 : (y.inn.length : Int) ≤ (c : Int) := by omega
  have hc3 : ¬ c = y.inn.length := by omega
  have HV := hide hv
  clear hv
  clear h
  go_enter Tryz.func213, Tryz.ntmps213
  go_upto_region 4 with fail
  have HS2 : Hid (Src ((w.setCell ⟨g, 5, none⟩ (.slice none 0 0)).setCell ⟨g, 12, none⟩ (.slice (some ⟨ab, ao, none⟩) y.inn.length c)) g (y.near []) o (.slice none 0 0) b r (.slice (some ⟨ab, ao, none⟩) y.inn.length c)) := hide (HS.out.two [] _ _)
  have HT2 : Hid (Turned (fun k => k = g) w ((w.setCell ⟨g, 5, none⟩ (.slice none 0 0)).setCell ⟨g, 12, none⟩ (.slice (some ⟨ab, ao, none⟩) y.inn.length c))) := hide (((Turned.refl (fun k => k = g) w).set (.inl rfl)).set (.inl rfl))
  generalize (w.setCell ⟨g, 5, none⟩ (.slice none 0 0)).setCell ⟨g, 12, none⟩ (.slice (some ⟨ab, ao, none⟩) y.inn.length c) = w2 at *
  clear c0 c1 c2 c3 c4 c5 c6 c7 c8 c9 c10 c11 c12 s5 s12
  obtain ⟨c0, c1, c2, c3, c4, c5, c6, c7, c8, c9, c10, c11, c12⟩ := HS2.out.cs
  have s5 := HS2.out.soft 5
  have s12 := HS2.out.soft 12
  go_big_region
  try go_wp2
  go_end0
  have HT3 : ∀ X Y, Turned (fun k => k = g) w ((w2.drew.setCell ⟨g, 5, none⟩ X).setCell ⟨g, 12, none⟩ Y) := fun X Y => HT2.out.trans (((Turned.of_below (S := fun k => k = g) (Below.refl _ w2).drew).set (.inl rfl)).set (.inl rfl)) (fun _ _ e => e)
  exact ⟨_, _, rfl, Src.two (show Src (World.drew _) g _ o _ b r _ from HS2.out) y.inn _ _, (HV.out.turned (HT3 _ _) (fun k e _ e2 => hg (by simp [Value.ownBlock] at e; omega))), Sl.zero, (by intro k e; rcases e with e | e <;> simp [Value.ownBlock] at e <;> omega), HT3 _ _⟩
set_option maxRecDepth 100000 in
set_option maxHeartbeats 4000000 in
theorem partIn_A5 (y : SS) (g : Nat) (fa : Option Addr) (fc : Nat) (ab ao c : Nat) (hn : 64 < y.inn.length) (hc : y.inn.length ≤ c) (o b r : Value) (w : World) (h : Src w g y o (.slice (some ⟨ab, ao, none⟩) y.inn.length c) b r (.slice fa 0 fc)) (hv : Sl w (.slice (some ⟨ab, ao, none⟩) y.inn.length c) y.inn) (hg : ab ≠ g) : Calls Tryz.prog 213 #[.pointer (some ⟨g, 0, none⟩)] w fun e w' => ∃ i' f', e = .returned (.tuple #[]) ∧ Src w' g (y.near (y.inn.take 64)) o i' b r f' ∧ Sl w' i' (y.inn.take 64) ∧ Sl w' f' (y.inn.drop 64) ∧ (∀ k, i'.ownBlock = some k ∨ f'.ownBlock = some k → k = ab) ∧ Turned (fun k => k = g) w w' := by
  have HS := hide h
  obtain ⟨c0, c1, c2, c3, c4, c5, c6, c7, c8, c9, c10, c11, c12⟩ := h.cs
  have s5 := h.soft 5
  have s12 := h.soft 12
  have hm : min (64 : Int) (y.inn.length : Int) = 64 := by omega
  have hc1 : (64 : Int) < (c : Int) := by omega
  have hc2 : (64 : Int) ≤ (c : Int) := by omega
  have hc3 : ¬ c = 64 := by omega
  have hc4 : (64 : Int) ≤ (y.inn.length : Int) := by omega
  have hc5 : (y.inn.length : Int) ≤ (c : Int) := by omega
  have HV := hide hv
  clear hv
  clear h
  go_enter Tryz.func213, Tryz.ntmps213
  go_upto_region 4 with fail
  have HS2 : Hid (Src ((w.setCell ⟨g, 5, none⟩ (.slice none 0 0)).setCell ⟨g, 12, none⟩ (.slice (some ⟨ab, ao, none⟩) y.inn.length c)) g (y.near []) o (.slice none 0 0) b r (.slice (some ⟨ab, ao, none⟩) y.inn.length c)) := hide (HS.out.two [] _ _)
  have HT2 : Hid (Turned (fun k => k = g) w ((w.setCell ⟨g, 5, none⟩ (.slice none 0 0)).setCell ⟨g, 12, none⟩ (.slice (some ⟨ab, ao, none⟩) y.inn.length c))) := hide (((Turned.refl (fun k => k = g) w).set (.inl rfl)).set (.inl rfl))
  generalize (w.setCell ⟨g, 5, none⟩ (.slice none 0 0)).setCell ⟨g, 12, none⟩ (.slice (some ⟨ab, ao, none⟩) y.inn.length c) = w2 at *
  clear c0 c1 c2 c3 c4 c5 c6 c7 c8 c9 c10 c11 c12 s5 s12
  obtain ⟨c0, c1, c2, c3, c4, c5, c6, c7, c8, c9, c10, c11, c12⟩ := HS2.out.cs
  have s5 := HS2.out.soft 5
  have s12 := HS2.out.soft 12
  go_big_region
  try go_wp2
  go_end0
  obtain ⟨C1, C2⟩ := HV.out.cuts 64 (by omega)
  have HT3 : ∀ X Y, Turned (fun k => k = g) w ((w2.drew.setCell ⟨g, 5, none⟩ X).setCell ⟨g, 12, none⟩ Y) := fun X Y => HT2.out.trans (((Turned.of_below (S := fun k => k = g) (Below.refl _ w2).drew).set (.inl rfl)).set (.inl rfl)) (fun _ _ e => e)
  exact ⟨_, _, rfl, Src.two (show Src (World.drew _) g _ o _ b r _ from HS2.out) (y.inn.take 64) _ _, (C1.turned (HT3 _ _) (fun k e _ e2 => hg (by simp [Value.ownBlock] at e; omega))), (C2.turned (HT3 _ _) (fun k e _ e2 => hg (by simp [Value.ownBlock] at e; omega))), (by intro k e; rcases e with e | e <;> simp [Value.ownBlock] at e <;> omega), HT3 _ _⟩
set_option maxRecDepth 100000 in
set_option maxHeartbeats 4000000 in
theorem partIn_B3 (y : SS) (g : Nat) (ia : Option Addr) (ic : Nat) (far : List UInt8) (ab ao : Nat) (hn0 : 0 < far.length) (hn : far.length ≤ 64) (o b r : Value) (w : World) (h : Src w g y o (.slice ia 0 ic) b r (.slice (some ⟨ab, ao, none⟩) far.length far.length)) (hv : Sl w (.slice (some ⟨ab, ao, none⟩) far.length far.length) far) (hg : ab ≠ g) : Calls Tryz.prog 213 #[.pointer (some ⟨g, 0, none⟩)] w fun e w' => ∃ i' f', e = .returned (.tuple #[]) ∧ Src w' g (y.near far) o i' b r f' ∧ Sl w' i' far ∧ Sl w' f' [] ∧ (∀ k, i'.ownBlock = some k ∨ f'.ownBlock = some k → k = ab) ∧ Turned (fun k => k = g) w w' := by
  have HS := hide h
  obtain ⟨c0, c1, c2, c3, c4, c5, c6, c7, c8, c9, c10, c11, c12⟩ := h.cs
  have s5 := h.soft 5
  have s12 := h.soft 12
  have hm : min (64 : Int) (far.length : Int) = (far.length : Int) := by omega
  have HV := hide hv
  clear hv
  clear h
  have hf0 : ¬ (far.length : Int) = 0 := by omega
  go_enter Tryz.func213, Tryz.ntmps213
  go_upto_region 4 with fail
  have HS2 := HS
  have HT2 := hide (Turned.refl (fun k => k = g) w)
  go_big_region
  try go_wp2
  go_end0
  have HT3 : ∀ X Y, Turned (fun k => k = g) w ((w.drew.setCell ⟨g, 5, none⟩ X).setCell ⟨g, 12, none⟩ Y) := fun X Y => HT2.out.trans (((Turned.of_below (S := fun k => k = g) (Below.refl _ w).drew).set (.inl rfl)).set (.inl rfl)) (fun _ _ e => e)
  exact ⟨_, _, rfl, Src.two (show Src (World.drew _) g _ o _ b r _ from HS2.out) far _ _, (HV.out.turned (HT3 _ _) (fun k e _ e2 => hg (by simp [Value.ownBlock] at e; omega))), Sl.zero, (by intro k e; rcases e with e | e <;> simp [Value.ownBlock] at e <;> omega), HT3 _ _⟩
set_option maxRecDepth 100000 in
set_option maxHeartbeats 4000000 in
theorem partIn_B4 (y : SS) (g : Nat) (ia : Option Addr) (ic : Nat) (far : List UInt8) (ab ao c : Nat) (hn0 : 0 < far.length) (hn : far.length ≤ 64) (hc : far.length < c) (o b r : Value) (w : World) (h : Src w g y o (.slice ia 0 ic) b r (.slice (some ⟨ab, ao, none⟩) far.length c)) (hv : Sl w (.slice (some ⟨ab, ao, none⟩) far.length c) far) (hg : ab ≠ g) : Calls Tryz.prog 213 #[.pointer (some ⟨g, 0, none⟩)] w fun e w' => ∃ i' f', e = .returned (.tuple #[]) ∧ Src w' g (y.near far) o i' b r f' ∧ Sl w' i' far ∧ Sl w' f' [] ∧ (∀ k, i'.ownBlock = some k ∨ f'.ownBlock = some k → k = ab) ∧ Turned (fun k => k = g) w w' := by
  have HS := hide h
  obtain ⟨c0, c1, c2, c3, c4, c5, c6, c7, c8, c9, c10, c11, c12⟩ := h.cs
  have s5 := h.soft 5
  have s12 := h.soft 12
  have hm : min (64 : Int) (far.length : Int) = (far.length : Int) := by omega
  have hc1 : (far.length : Int) < (c : Int) := by omega
  have hc2 : (far.length : Int) ≤ (c : Int) := by omega
  have hc3 : ¬ c = far.length := by omega
  have HV := hide hv
  clear hv
  clear h
  have hf0 : ¬ (far.length : Int) = 0 := by omega
  go_enter Tryz.func213, Tryz.ntmps213
  go_upto_region 4 with fail
  have HS2 := HS
  have HT2 := hide (Turned.refl (fun k => k = g) w)
  go_big_region
  try go_wp2
  go_end0
  have HT3 : ∀ X Y, Turned (fun k => k = g) w ((w.drew.setCell ⟨g, 5, none⟩ X).setCell ⟨g, 12, none⟩ Y) := fun X Y => HT2.out.trans (((Turned.of_below (S := fun k => k = g) (Below.refl _ w).drew).set (.inl rfl)).set (.inl rfl)) (fun _ _ e => e)
  exact ⟨_, _, rfl, Src.two (show Src (World.drew _) g _ o _ b r _ from HS2.out) far _ _, (HV.out.turned (HT3 _ _) (fun k e _ e2 => hg (by simp [Value.ownBlock] at e; omega))), Sl.zero, (by intro k e; rcases e with e | e <;> simp [Value.ownBlock] at e <;> omega), HT3 _ _⟩
set_option maxRecDepth 100000 in
set_option maxHeartbeats 4000000 in
theorem partIn_B5 (y : SS) (g : Nat) (ia : Option Addr) (ic : Nat) (far : List UInt8) (ab ao c : Nat) (hn : 64 < far.length) (hc : far.length ≤ c) (o b r : Value) (w : World) (h : Src w g y o (.slice ia 0 ic) b r (.slice (some ⟨ab, ao, none⟩) far.length c)) (hv : Sl w (.slice (some ⟨ab, ao, none⟩) far.length c) far) (hg : ab ≠ g) : Calls Tryz.prog 213 #[.pointer (some ⟨g, 0, none⟩)] w fun e w' => ∃ i' f', e = .returned (.tuple #[]) ∧ Src w' g (y.near (far.take 64)) o i' b r f' ∧ Sl w' i' (far.take 64) ∧ Sl w' f' (far.drop 64) ∧ (∀ k, i'.ownBlock = some k ∨ f'.ownBlock = some k → k = ab) ∧ Turned (fun k => k = g) w w' := by
  have HS := hide h
  obtain ⟨c0, c1, c2, c3, c4, c5, c6, c7, c8, c9, c10, c11, c12⟩ := h.cs
  have s5 := h.soft 5
  have s12 := h.soft 12
  have hm : min (64 : Int) (far.length : Int) = 64 := by omega
  have hc1 : (64 : Int) < (c : Int) := by omega
  have hc2 : (64 : Int) ≤ (c : Int) := by omega
  have hc3 : ¬ c = 64 := by omega
  have hc4 : (64 : Int) ≤ (far.length : Int) := by omega
  have hc5 : (far.length : Int) ≤ (c : Int) := by omega
  have HV := hide hv
  clear hv
  clear h
  have hf0 : ¬ (far.length : Int) = 0 := by omega
  go_enter Tryz.func213, Tryz.ntmps213
  go_upto_region 4 with fail
  have HS2 := HS
  have HT2 := hide (Turned.refl (fun k => k = g) w)
  go_big_region
  try go_wp2
  go_end0
  obtain ⟨C1, C2⟩ := HV.out.cuts 64 (by omega)
  have HT3 : ∀ X Y, Turned (fun k => k = g) w ((w.drew.setCell ⟨g, 5, none⟩ X).setCell ⟨g, 12, none⟩ Y) := fun X Y => HT2.out.trans (((Turned.of_below (S := fun k => k = g) (Below.refl _ w).drew).set (.inl rfl)).set (.inl rfl)) (fun _ _ e => e)
  exact ⟨_, _, rfl, Src.two (show Src (World.drew _) g _ o _ b r _ from HS2.out) (far.take 64) _ _, (C1.turned (HT3 _ _) (fun k e _ e2 => hg (by simp [Value.ownBlock] at e; omega))), (C2.turned (HT3 _ _) (fun k e _ e2 => hg (by simp [Value.ownBlock] at e; omega))), (by intro k e; rcases e with e | e <;> simp [Value.ownBlock] at e <;> omega), HT3 _ _⟩
set_option maxRecDepth 100000 in
set_option maxHeartbeats 4000000 in
theorem partIn_C (y : SS) (far : List UInt8) (g : Nat) (ia fa : Option Addr) (ic fc : Nat) (o b r : Value) (w : World) (h : Src w g y o (.slice ia y.inn.length ic) b r (.slice fa far.length fc)) (h1 : 0 < y.inn.length) (h2 : 0 < far.length) : Calls Tryz.prog 213 #[.pointer (some ⟨g, 0, none⟩)] w fun e w' => e = .returned (.tuple #[]) ∧ Below w.heap.size w w' := by
  obtain ⟨c0, c1, c2, c3, c4, c5, c6, c7, c8, c9, c10, c11, c12⟩ := h.cs
  clear h
  have q1 : ¬ (y.inn.length : Int) = 0 := by omega
  have q2 : ¬ (far.length : Int) = 0 := by omega
  go_enter Tryz.func213, Tryz.ntmps213
  go_wp2
  go_end0
  exact ⟨rfl, Below.refl _ _⟩
theorem partIn_any (y : SS) (far : List UInt8) (g : Nat) (o i b r f : Value) (w : World) (h : Src w g y o i b r f) (hi : Sl w i y.inn) (hf : Sl w f far) (gi : ∀ k, i.ownBlock = some k → k ≠ g) (gf : ∀ k, f.ownBlock = some k → k ≠ g) : Calls Tryz.prog 213 #[.pointer (some ⟨g, 0, none⟩)] w fun e w' => ∃ i' f', e = .returned (.tuple #[]) ∧ Src w' g (y.parted far) o i' b r f' ∧ Sl w' i' (part y.inn far).1 ∧ Sl w' f' (part y.inn far).2 ∧ (∀ k, i'.ownBlock = some k ∨ f'.ownBlock = some k → i.ownBlock = some k ∨ f.ownBlock = some k) ∧ Turned (fun k => k = g) w w' := by
  have HI := hi
  have HF := hf
  obtain ⟨ia, ic, rfl, hbi, hci⟩ := hi
  obtain ⟨fa, fc, rfl, hbf, hcf⟩ := hf
  by_cases hf0 : far = []
  · subst hf0
    rcases hbi with ⟨e, e0⟩ | ⟨⟨ab, ao, au⟩, c, e, e0⟩ | ⟨ab, ao, c, e, h0, hc⟩
    · have hp : part y.inn [] = ([], []) := by rw [e0]; rfl
      rw [e] at h
      refine (partIn_A0 y g fa fc o b r w h).mono ?_
      rintro _ w' ⟨i', f', rfl, s1, s2, s3, s4, s5⟩
      unfold SS.parted
      rw [hp]
      exact ⟨i', f', rfl, s1, s2, s3, fun k e => (s4 k e).elim, s5⟩
    · have hp : part y.inn [] = ([], []) := by rw [e0]; rfl
      rw [e] at h
      rw [e]
      by_cases hc0 : c = 0
      · subst hc0
        refine (partIn_A1 y g fa fc ab ao au o b r w h).mono ?_
        rintro _ w' ⟨i', f', rfl, s1, s2, s3, s4, s5⟩
        unfold SS.parted
        rw [hp]
        exact ⟨i', f', rfl, s1, s2, s3, fun k e => .inl (by rw [s4 k e]; rfl), s5⟩
      · refine (partIn_A2 y g fa fc ab ao c au hc0 o b r w h).mono ?_
        rintro _ w' ⟨i', f', rfl, s1, s2, s3, s4, s5⟩
        unfold SS.parted
        rw [hp]
        exact ⟨i', f', rfl, s1, s2, s3, fun k e => .inl (by rw [s4 k e]; rfl), s5⟩
    · have e' := e
      cases e'
      have hg : ab ≠ g := gi ab rfl
      by_cases hn : y.inn.length ≤ 64
      · have hp : part y.inn [] = (y.inn, []) := by show (y.inn.take 64, y.inn.drop 64) = _; rw [List.take_of_length_le hn, List.drop_eq_nil_of_le hn]
        by_cases hc0 : ic = y.inn.length
        · rw [hc0] at h HI
          refine (partIn_A3 y g fa fc ab ao h0 hn o b r w h HI hg).mono ?_
          rintro _ w' ⟨i', f', rfl, s1, s2, s3, s4, s5⟩
          unfold SS.parted
          rw [hp]
          exact ⟨i', f', rfl, s1, s2, s3, fun k e => .inl (by rw [s4 k e]; rfl), s5⟩
        · refine (partIn_A4 y g fa fc ab ao ic h0 hn (by omega) o b r w h HI hg).mono ?_
          rintro _ w' ⟨i', f', rfl, s1, s2, s3, s4, s5⟩
          unfold SS.parted
          rw [hp]
          exact ⟨i', f', rfl, s1, s2, s3, fun k e => .inl (by rw [s4 k e]; rfl), s5⟩
      · have hp : part y.inn [] = (y.inn.take 64, y.inn.drop 64) := rfl
        refine (partIn_A5 y g fa fc ab ao ic (by omega) hci o b r w h HI hg).mono ?_
        rintro _ w' ⟨i', f', rfl, s1, s2, s3, s4, s5⟩
        unfold SS.parted
        rw [hp]
        exact ⟨i', f', rfl, s1, s2, s3, fun k e => .inl (by rw [s4 k e]; rfl), s5⟩
  · have hfl : 0 < far.length := List.length_pos_iff.2 hf0
    by_cases hi0 : y.inn = []
    · obtain ⟨-, ab, ao, rfl, -, -⟩ := bys_block hbf hfl
      have hg : ab ≠ g := gf ab rfl
      have h' : Src w g y o (.slice ia 0 ic) b r (.slice (some ⟨ab, ao, none⟩) far.length fc) := by
        rw [hi0] at h; exact h
      by_cases hn : far.length ≤ 64
      · have hp : part y.inn far = (far, []) := by rw [hi0]; unfold part; rw [if_neg hf0, if_pos rfl, List.take_of_length_le hn, List.drop_eq_nil_of_le hn]
        by_cases hc0 : fc = far.length
        · rw [hc0] at h' HF
          refine (partIn_B3 y g ia ic far ab ao hfl hn o b r w h' HF hg).mono ?_
          rintro _ w' ⟨i', f', rfl, s1, s2, s3, s4, s5⟩
          unfold SS.parted
          rw [hp]
          exact ⟨i', f', rfl, s1, s2, s3, fun k e => .inr (by rw [s4 k e]; rfl), s5⟩
        · refine (partIn_B4 y g ia ic far ab ao fc hfl hn (by omega) o b r w h' HF hg).mono ?_
          rintro _ w' ⟨i', f', rfl, s1, s2, s3, s4, s5⟩
          unfold SS.parted
          rw [hp]
          exact ⟨i', f', rfl, s1, s2, s3, fun k e => .inr (by rw [s4 k e]; rfl), s5⟩
      · have hp : part y.inn far = (far.take 64, far.drop 64) := by rw [hi0]; unfold part; rw [if_neg hf0, if_pos rfl]
        refine (partIn_B5 y g ia ic far ab ao fc (by omega) hcf o b r w h' HF hg).mono ?_
        rintro _ w' ⟨i', f', rfl, s1, s2, s3, s4, s5⟩
        unfold SS.parted
        rw [hp]
        exact ⟨i', f', rfl, s1, s2, s3, fun k e => .inr (by rw [s4 k e]; rfl), s5⟩
    · have hp : part y.inn far = (y.inn, far) := by unfold part; rw [if_neg hf0, if_neg hi0]
      refine (partIn_C y far g ia fa ic fc o b r w h (List.length_pos_iff.2 hi0) hfl).mono ?_
      rintro _ w' ⟨rfl, hB⟩
      unfold SS.parted
      rw [hp]
      have hT := Turned.of_below (S := fun k => k = g) hB
      exact ⟨_, _, rfl, h.below hB, HI.turned hT (fun k e _ => gi k e), HF.turned hT (fun k e _ => gf k e), fun _ e => e, hT⟩
structure SrcOn {S : Type} (At : World → (Nat → Prop) → S → Prop) (W : World) (O : Nat → Prop) (s : S) (B g : Nat) (y : SS) (far : List UInt8) (o i b r f : Value) : Prop where
  src : Src W g y o i b r f
  ls : SIn W (fun k => B ≤ k ∧ ¬ O k ∧ k ≠ g ∧ k < W.heap.size) y o i b
  fl : Sl W f far
  fp : ∀ k, f.ownBlock = some k → B ≤ k ∧ ¬ O k ∧ k ≠ g ∧ k < W.heap.size
  raw : At W O s
  og : ¬ O g
  gB : B ≤ g
  ol : ∀ j, O j → j < W.heap.size
  nr : y.inn = [] → far = []
theorem Src.new (w : World) (x : SS) (o i b r f : Value) : Src (w.alloc (Obj.cells #[.bool x.rd, .bool x.wt, .int .i64 x.mode, .int .i64 x.size, o, i, b, .int .i64 x.dir, .bool x.fin, .bool x.bad, .bool x.closed, r, f] 341)) w.heap.size x o i b r f := heap_alloc_new w _
set_option maxRecDepth 100000 in
set_option maxHeartbeats 4000000 in
theorem sourceOf_any {S : Type} {At : World → (Nat → Prop) → S → Prop} (hT : ∀ s, OAt (fun w O => At w O s)) {w : World} {O P : Nat → Prop} {s : S} {x : SS} {o i b : Value} (T : TypeId) (v : Value) (h : SIn w P x o i b) (hA : At w O s) (hO : ∀ j, O j → j < w.heap.size) (ho : x.out.length ≤ 140737488351232) (hi : x.inn.length ≤ 140737488351232) (hb : x.back.length ≤ 140737488351232) :
    Calls Tryz.prog 184 #[.agg #[.bool x.rd, .bool x.wt, .int .i64 x.mode, .int .i64 x.size, o, i, b, .int .i64 x.dir, .bool x.fin, .bool x.bad, .bool x.closed], .iface T v] w fun e w' => ∃ g y far o' i' b' f', e = .returned (.pointer (some ⟨g, 0, none⟩)) ∧ y.wh far = x ∧ SrcOn At w' O s w.heap.size g y far o' i' b' (.iface T v) f' ∧ Below w.heap.size w w' := by
  have HC := hide (fun (W : World) (hW : Below w.heap.size w W) => lcopied_any x o i b P W (h.below hW) ho hi hb)
  obtain ⟨oa, oc, rfl, -⟩ := h.so
  obtain ⟨ia, ic, rfl, -⟩ := h.si
  obtain ⟨ba, bc, rfl, -⟩ := h.sb
  clear h
  go_enter Tryz.func184, Tryz.ntmps184
  go_wp2_with fail
  refine (HC.out _ (recv_below w _)).mono ?_
  rintro _ w1 ⟨o', i', b', rfl, q1, q2, q3, hB1, -⟩
  obtain ⟨a1, k1, rfl⟩ := owns_slice q1
  obtain ⟨a2, k2, rfl⟩ := owns_slice q2
  obtain ⟨a3, k3, rfl⟩ := owns_slice q3
  have hz := (recv_below w (Obj.cells #[.bool x.rd, .bool x.wt, .int .i64 x.mode, .int .i64 x.size, .slice oa x.out.length oc, .slice ia x.inn.length ic, .slice ba x.back.length bc, .int .i64 x.dir, .bool x.fin, .bool x.bad, .bool x.closed] 55)).size
  have hB01 := (recv_below w (Obj.cells #[.bool x.rd, .bool x.wt, .int .i64 x.mode, .int .i64 x.size, .slice oa x.out.length oc, .slice ia x.inn.length ic, .slice ba x.back.length bc, .int .i64 x.dir, .bool x.fin, .bool x.bad, .bool x.closed] 55)).trans (hB1.mono hz)
  have hBn := recv_below w1 (Obj.cells #[.bool x.rd, .bool x.wt, .int .i64 x.mode, .int .i64 x.size, .slice a1 x.out.length k1, .slice a2 x.inn.length k2, .slice a3 x.back.length k3, .int .i64 x.dir, .bool x.fin, .bool x.bad, .bool x.closed, .iface T v, .slice none 0 0] 341)
  have HP := hide (partIn_any x [] w1.heap.size _ _ _ _ _ _ (Src.new w1 x (.slice a1 x.out.length k1) (.slice a2 x.inn.length k2) (.slice a3 x.back.length k3) (.iface T v) (.slice none 0 0)) (Sl.own (owns_below q2 hBn)) Sl.nil (fun k e => by have := (q2.lt k e).2; omega) (fun k e => by simp [Value.ownBlock] at e))
  have HQ := hide (And.intro q1 (And.intro q2 q3))
  have HZ := hide hz
  have HB := hide (And.intro hB01 hBn)
  clear q1 q2 q3 hB1 hB01 hBn HC hz
  go_wp2_with fail
  refine HP.out.mono ?_
  rintro _ w2 ⟨i2, f2, rfl, s1, s2, s3, s4, s5⟩
  obtain ⟨q1, q2, q3⟩ := HQ.out
  obtain ⟨hB01, hBn⟩ := HB.out
  have hz := HZ.out
  have hz1 := hB01.size
  have hz2 := hBn.size
  have hz3 := s5.size
  have HR := hide (And.intro s1 (And.intro s2 (And.intro s3 (And.intro s4 s5))))
  clear s1 s2 s3 s4 HP
  go_wp2
  go_ret
  obtain ⟨s1, s2, s3, s4, s5⟩ := HR.out
  have hw1 : w1.heap.size < (w1.alloc (Obj.cells #[.bool x.rd, .bool x.wt, .int .i64 x.mode, .int .i64 x.size, .slice a1 x.out.length k1, .slice a2 x.inn.length k2, .slice a3 x.back.length k3, .int .i64 x.dir, .bool x.fin, .bool x.bad, .bool x.closed, .iface T v, .slice none 0 0] 341)).heap.size := (Src.new w1 x (.slice a1 x.out.length k1) (.slice a2 x.inn.length k2) (.slice a3 x.back.length k3) (.iface T v) (.slice none 0 0)).lt
  have inP : ∀ k, (w.alloc (Obj.cells #[.bool x.rd, .bool x.wt, .int .i64 x.mode, .int .i64 x.size, .slice oa x.out.length oc, .slice ia x.inn.length ic, .slice ba x.back.length bc, .int .i64 x.dir, .bool x.fin, .bool x.bad, .bool x.closed] 55)).heap.size ≤ k ∧ k < w1.heap.size → (w.heap.size ≤ k ∧ ¬ O k ∧ k ≠ w1.heap.size ∧ k < w2.heap.size) := fun k e => ⟨by omega, fun e2 => by have := hO k e2; omega, by omega, by omega⟩
  have tr : ∀ {u : Value} {l : List UInt8}, w1.ownsRow (w.alloc (Obj.cells #[.bool x.rd, .bool x.wt, .int .i64 x.mode, .int .i64 x.size, .slice oa x.out.length oc, .slice ia x.inn.length ic, .slice ba x.back.length bc, .int .i64 x.dir, .bool x.fin, .bool x.bad, .bool x.closed] 55)).heap.size 5 1 u l.length (l.map bv) → Sl w2 u l := fun q => Sl.turned (Sl.own (owns_below q hBn)) s5 (fun k e _ e2 => by have := (q.lt k e).2; omega)
  have bk : ∀ k, i2.ownBlock = some k ∨ f2.ownBlock = some k → (w.heap.size ≤ k ∧ ¬ O k ∧ k ≠ w1.heap.size ∧ k < w2.heap.size) := fun k e => by
    rcases s4 k e with e | e
    · exact inP k (q2.lt k e)
    · simp [Value.ownBlock] at e
  refine ⟨w1.heap.size, x.parted [], (part x.inn []).2, _, _, _, _, rfl, (wh_parted x []).trans (by unfold SS.wh; simp), ⟨s1, ⟨tr q1, s2, tr q3, fun k e => inP k (q1.lt k e), fun k e => bk k (.inl e), fun k e => inP k (q3.lt k e)⟩, s3, fun k e => bk k (.inr e), (hT s).keep hA (fun j e hj => (s5.block j (by omega) (by omega)).trans ((hBn.block j (by omega)).trans (hB01.block j hj))) (by omega), fun e => by have := hO _ e; omega, hz1, fun j e => by have := hO j e; omega, parted_none x []⟩, (hB01.trans (hBn.mono hz1)).trans (s5.below (B := w.heap.size) (fun k e => by have : k = w1.heap.size := e; omega) (by omega))⟩
end Go.Proofs.YtndleeafkepdjaaGreat

/- Streams: a state of the program's in a call's variable, beside a Raw. -/
namespace Go.Proofs.YtndleeafkepdjaaGreat
open Go.RowKit

end Go.Proofs.YtndleeafkepdjaaGreat

/- Streams: a call's variable takes what another call gave. -/
namespace Go.Proofs.YtndleeafkepdjaaGreat
open Go.RowKit

theorem SIn.nils0 {W : World} {P : Nat → Prop} {x : SS} (h1 : x.out = []) (h2 : x.inn = []) (h3 : x.back = []) : SIn W P x (.slice none 0 0) (.slice none 0 0) (.slice none 0 0) := by
  have hno : ∀ k, (Value.slice none 0 0).ownBlock = some k → False := fun k e => by simp [Value.ownBlock] at e
  exact ⟨h1 ▸ Sl.nil, h2 ▸ Sl.nil, h3 ▸ Sl.nil, fun k e => (hno k e).elim, fun k e => (hno k e).elim, fun k e => (hno k e).elim⟩
end Go.Proofs.YtndleeafkepdjaaGreat

/- Streams: what a call leaves, carried on. -/
namespace Go.Proofs.YtndleeafkepdjaaGreat
open Go.RowKit

theorem SOut.below {S : Type} {At : World → (Nat → Prop) → S → Prop} (hT : ∀ s, OAt (fun w O => At w O s)) {w w2 w3 : World} {O : Nat → Prop} {x x' : SS} {s : S} {o i b : Value} (h : SOut At w O x s o i b w2) (hB : Below w2.heap.size w2 w3) (e1 : x'.out = x.out) (e2 : x'.inn = x.inn) (e3 : x'.back = x.back) : SOut At w O x' s o i b w3 := by
  obtain ⟨O', h1, h2, h3, h4, h5⟩ := h
  have hz := hB.size
  refine ⟨O', ?_, (hT s).keep h2 (fun j _ hj => hB.block j hj) hz, fun j e => Nat.lt_of_lt_of_le (h3 j e) hz, h4, h5.trans (Turned.of_below (S := O) hB) (fun _ _ e => e)⟩
  have h6 := (h1.below hB).mono (Q := fun k => w.heap.size ≤ k ∧ ¬ O' k ∧ k < w3.heap.size) fun k e => ⟨e.1, e.2.1, by have := e.2.2; omega⟩
  exact ⟨by rw [e1]; exact h6.so, by rw [e2]; exact h6.si, by rw [e3]; exact h6.sb, h6.po, h6.pi, h6.pb⟩
end Go.Proofs.YtndleeafkepdjaaGreat

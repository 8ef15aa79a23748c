/- What the proof stands on, part 7: the contracts of the program's calls that it reaches. -/
import Derived.Test.YtdmkjbdlidadiaaGreatKP6
import Derived.Deep.RegionLaw
import Derived.Deep.RegionHeld3
import Derived.Deep.Cut
import Derived.Laws.ResultCell
/- Streams: the reference's copy of a state. -/
namespace Go.Proofs.YtdmkjbdlidadiaaGreat
open Go.RowKit

set_option maxHeartbeats 1000000 in
theorem rcopy11_any (v : Value) (l : List UInt8) (w : World) (h : Bys w v l) (hs : l.length ≤ 140737488351232) :
    Calls Tryz.prog 191 #[v] w fun e w' => ∃ v', e = .returned v' ∧ w'.ownsRow w.heap.size 5 1 v' l.length (l.map bv) ∧ Below w.heap.size w w' := by
  obtain ⟨i0, hi, hz0, hz1, hz2⟩ := info_parts Tryz.infoB
  rcases h with ⟨rfl, rfl⟩ | ⟨a, cap, rfl, rfl⟩ | ⟨b, off, cap, rfl, h0, hc⟩
  · go_enter Tryz.func191, Tryz.ntmps191
    go_wp2_with (at_builtin; refine wpList_append_own_none rfl _ _ 40 rfl w.heap.size 5 i0 1 Tryz.underlying40 hi _ _ _ rfl (World.ownsRow_nil _ _ _ _) rfl ?_)
    go_ret
    exact ⟨_, rfl, World.ownsRow_nil _ _ _ _, Below.refl _ _⟩
  · go_enter Tryz.func191, Tryz.ntmps191
    go_wp2_with (at_builtin; refine wpList_append_own _ rfl _ _ 40 rfl w.heap.size 5 i0 (.int .u8 0) 1 1 Tryz.underlying40 hi hz0 hz1 hz2 rfl (by decide) _ _ _ rfl (World.ownsRow_nil _ _ _ _) a 0 cap [] rfl rfl (by simp) (by simp) (by decide) (by decide) (Nat.le_refl _) ?_; intro v' w1 hown hgrow hnil)
    go_ret
    exact ⟨v', rfl, hown, (Below.refl _ _).grown hgrow (Nat.le_refl _) (fun j e => by cases e)⟩
  · go_enter Tryz.func191, Tryz.ntmps191
    go_wp2_with (at_builtin; refine wpList_append_own _ rfl _ _ 40 rfl w.heap.size 5 i0 (.int .u8 0) 1 1 Tryz.underlying40 hi hz0 hz1 hz2 rfl (by decide) _ _ _ rfl (World.ownsRow_nil _ _ _ _) ⟨b, off, none⟩ l.length cap (l.map bv) rfl (by simp) (bys_news hc) (bys_one l) (by unfold maxLen; omega) (by omega) (Nat.le_refl _) ?_; intro v' w1 hown hgrow hnil)
    go_ret
    exact ⟨v', rfl, by simpa using hown, (Below.refl _ _).grown hgrow (Nat.le_refl _) (fun j e => by cases e)⟩

def RSt (W : World) (g : Nat) (x : SS) (o i b : Value) : Prop := W.heap[g]? = some (.cells #[.bool x.rd, .bool x.wt, .int .i64 x.mode, .int .i64 x.size, o, i, b, .int .i64 x.dir, .bool x.fin, .bool x.bad, .bool x.closed] 52)
theorem RSt.cs {W : World} {g : Nat} {x : SS} {o i b : Value} (h : RSt W g x o i b) : W.cell? ⟨g, 0, none⟩ = some (.bool x.rd) ∧ W.cell? ⟨g, 1, none⟩ = some (.bool x.wt) ∧ W.cell? ⟨g, 2, none⟩ = some (.int .i64 x.mode) ∧ W.cell? ⟨g, 3, none⟩ = some (.int .i64 x.size) ∧ W.cell? ⟨g, 4, none⟩ = some (o) ∧ W.cell? ⟨g, 5, none⟩ = some (i) ∧ W.cell? ⟨g, 6, none⟩ = some (b) ∧ W.cell? ⟨g, 7, none⟩ = some (.int .i64 x.dir) ∧ W.cell? ⟨g, 8, none⟩ = some (.bool x.fin) ∧ W.cell? ⟨g, 9, none⟩ = some (.bool x.bad) ∧ W.cell? ⟨g, 10, none⟩ = some (.bool x.closed) :=
  ⟨cell_of_row W g 0 _ _ _ h, cell_of_row W g 1 _ _ _ h, cell_of_row W g 2 _ _ _ h, cell_of_row W g 3 _ _ _ h, cell_of_row W g 4 _ _ _ h, cell_of_row W g 5 _ _ _ h, cell_of_row W g 6 _ _ _ h, cell_of_row W g 7 _ _ _ h, cell_of_row W g 8 _ _ _ h, cell_of_row W g 9 _ _ _ h, cell_of_row W g 10 _ _ _ h⟩
theorem RSt.new (w : World) (x : SS) (o i b : Value) : RSt (w.alloc (Obj.cells #[.bool x.rd, .bool x.wt, .int .i64 x.mode, .int .i64 x.size, o, i, b, .int .i64 x.dir, .bool x.fin, .bool x.bad, .bool x.closed] 52)) w.heap.size x o i b := heap_alloc_new w _
theorem RSt.below {W W' : World} {g : Nat} {x : SS} {o i b : Value} (h : RSt W g x o i b) (hB : Below W.heap.size W W') : RSt W' g x o i b := (hB.block g (Array.getElem?_eq_some_iff.1 h).1).trans h
theorem rst_fill (w : World) (g : Nat) (x : SS) (o i b : Value) (h : w.heap[g]? = some (Obj.cells #[.bool false, .bool false, .int .i64 0, .int .i64 0, .slice none 0 0, .slice none 0 0, .slice none 0 0, .int .i64 0, .bool false, .bool false, .bool false] 52)) : RSt (((((((((((w.setCell ⟨g, 0, none⟩ (.bool x.rd)).setCell ⟨g, 1, none⟩ (.bool x.wt)).setCell ⟨g, 2, none⟩ (.int .i64 x.mode)).setCell ⟨g, 3, none⟩ (.int .i64 x.size)).setCell ⟨g, 4, none⟩ (o)).setCell ⟨g, 5, none⟩ (i)).setCell ⟨g, 6, none⟩ (b)).setCell ⟨g, 7, none⟩ (.int .i64 x.dir)).setCell ⟨g, 8, none⟩ (.bool x.fin)).setCell ⟨g, 9, none⟩ (.bool x.bad)).setCell ⟨g, 10, none⟩ (.bool x.closed)) g x o i b ∧ Turned (fun k => k = g) w (((((((((((w.setCell ⟨g, 0, none⟩ (.bool x.rd)).setCell ⟨g, 1, none⟩ (.bool x.wt)).setCell ⟨g, 2, none⟩ (.int .i64 x.mode)).setCell ⟨g, 3, none⟩ (.int .i64 x.size)).setCell ⟨g, 4, none⟩ (o)).setCell ⟨g, 5, none⟩ (i)).setCell ⟨g, 6, none⟩ (b)).setCell ⟨g, 7, none⟩ (.int .i64 x.dir)).setCell ⟨g, 8, none⟩ (.bool x.fin)).setCell ⟨g, 9, none⟩ (.bool x.bad)).setCell ⟨g, 10, none⟩ (.bool x.closed)) := by
  have e0 := Go.heap_setCell_same _ g 0 _ _ (.bool x.rd) h
  simp only [List.setIfInBounds_toArray, List.set_cons_zero] at e0
  have e1 := Go.heap_setCell_same _ g 1 _ _ (.bool x.wt) e0
  simp only [List.setIfInBounds_toArray, List.set_cons_zero, List.set_cons_succ] at e1
  have e2 := Go.heap_setCell_same _ g 2 _ _ (.int .i64 x.mode) e1
  simp only [List.setIfInBounds_toArray, List.set_cons_zero, List.set_cons_succ] at e2
  have e3 := Go.heap_setCell_same _ g 3 _ _ (.int .i64 x.size) e2
  simp only [List.setIfInBounds_toArray, List.set_cons_zero, List.set_cons_succ] at e3
  have e4 := Go.heap_setCell_same _ g 4 _ _ (o) e3
  simp only [List.setIfInBounds_toArray, List.set_cons_zero, List.set_cons_succ] at e4
  have e5 := Go.heap_setCell_same _ g 5 _ _ (i) e4
  simp only [List.setIfInBounds_toArray, List.set_cons_zero, List.set_cons_succ] at e5
  have e6 := Go.heap_setCell_same _ g 6 _ _ (b) e5
  simp only [List.setIfInBounds_toArray, List.set_cons_zero, List.set_cons_succ] at e6
  have e7 := Go.heap_setCell_same _ g 7 _ _ (.int .i64 x.dir) e6
  simp only [List.setIfInBounds_toArray, List.set_cons_zero, List.set_cons_succ] at e7
  have e8 := Go.heap_setCell_same _ g 8 _ _ (.bool x.fin) e7
  simp only [List.setIfInBounds_toArray, List.set_cons_zero, List.set_cons_succ] at e8
  have e9 := Go.heap_setCell_same _ g 9 _ _ (.bool x.bad) e8
  simp only [List.setIfInBounds_toArray, List.set_cons_zero, List.set_cons_succ] at e9
  have e10 := Go.heap_setCell_same _ g 10 _ _ (.bool x.closed) e9
  simp only [List.setIfInBounds_toArray, List.set_cons_zero, List.set_cons_succ] at e10
  exact ⟨e10, ((((((((((((Turned.refl (fun k => k = g) w).set (.inl rfl)).set (.inl rfl)).set (.inl rfl)).set (.inl rfl)).set (.inl rfl)).set (.inl rfl)).set (.inl rfl)).set (.inl rfl)).set (.inl rfl)).set (.inl rfl)).set (.inl rfl))⟩
def Ap3 (o i b : Value) : Prop := (∀ k, o.ownBlock = some k → i.ownBlock ≠ some k ∧ b.ownBlock ≠ some k) ∧ (∀ k, i.ownBlock = some k → b.ownBlock ≠ some k)
set_option maxRecDepth 100000 in
set_option maxHeartbeats 40000000 in
theorem rown_any (x : SS) (o i b : Value) (P : Nat → Prop) (w : World) (h : SIn w P x o i b) (ho : x.out.length ≤ 140737488351232) (hi : x.inn.length ≤ 140737488351232) (hb : x.back.length ≤ 140737488351232) :
    Calls Tryz.prog 104 #[.agg #[.bool x.rd, .bool x.wt, .int .i64 x.mode, .int .i64 x.size, o, i, b, .int .i64 x.dir, .bool x.fin, .bool x.bad, .bool x.closed]] w fun e w' => ∃ o' i' b', e = .returned (.agg #[.bool x.rd, .bool x.wt, .int .i64 x.mode, .int .i64 x.size, o', i', b', .int .i64 x.dir, .bool x.fin, .bool x.bad, .bool x.closed]) ∧ w'.ownsRow w.heap.size 5 1 o' x.out.length (x.out.map bv) ∧ w'.ownsRow w.heap.size 5 1 i' x.inn.length (x.inn.map bv) ∧ w'.ownsRow w.heap.size 5 1 b' x.back.length (x.back.map bv) ∧ Below w.heap.size w w' ∧ Ap3 o' i' b' := by
  have HC1 := hide (fun W (hB : Below w.heap.size w W) => rcopy11_any o x.out W ((h.so.turned (Turned.of_below (S := fun _ => False) hB) (fun _ _ _ => id)).choose_spec.choose_spec.2.1) ho)
  have HC2 := hide (fun W (hB : Below w.heap.size w W) => rcopy11_any i x.inn W ((h.si.turned (Turned.of_below (S := fun _ => False) hB) (fun _ _ _ => id)).choose_spec.choose_spec.2.1) hi)
  have HC3 := hide (fun W (hB : Below w.heap.size w W) => rcopy11_any b x.back W ((h.sb.turned (Turned.of_below (S := fun _ => False) hB) (fun _ _ _ => id)).choose_spec.choose_spec.2.1) hb)
  obtain ⟨oa, oc, rfl, -⟩ := h.so
  obtain ⟨ia, ic, rfl, -⟩ := h.si
  obtain ⟨ba, bc, rfl, -⟩ := h.sb
  clear h
  go_enter Tryz.func104, Tryz.ntmps104
  go_wp2_with fail
  have HB0 := hide ((recv_below w (Obj.cells #[.bool x.rd, .bool x.wt, .int .i64 x.mode, .int .i64 x.size, .slice oa x.out.length oc, .slice ia x.inn.length ic, .slice ba x.back.length bc, .int .i64 x.dir, .bool x.fin, .bool x.bad, .bool x.closed] 52)).trans ((recv_below (w.alloc (Obj.cells #[.bool x.rd, .bool x.wt, .int .i64 x.mode, .int .i64 x.size, .slice oa x.out.length oc, .slice ia x.inn.length ic, .slice ba x.back.length bc, .int .i64 x.dir, .bool x.fin, .bool x.bad, .bool x.closed] 52)) (Obj.cells #[.bool false, .bool false, .int .i64 0, .int .i64 0, .slice none 0 0, .slice none 0 0, .slice none 0 0, .int .i64 0, .bool false, .bool false, .bool false] 52)).mono (recv_below w (Obj.cells #[.bool x.rd, .bool x.wt, .int .i64 x.mode, .int .i64 x.size, .slice oa x.out.length oc, .slice ia x.inn.length ic, .slice ba x.back.length bc, .int .i64 x.dir, .bool x.fin, .bool x.bad, .bool x.closed] 52)).size))
  have HS0 := hide ((RSt.new w x (.slice oa x.out.length oc) (.slice ia x.inn.length ic) (.slice ba x.back.length bc)).below (recv_below _ (Obj.cells #[.bool false, .bool false, .int .i64 0, .int .i64 0, .slice none 0 0, .slice none 0 0, .slice none 0 0, .int .i64 0, .bool false, .bool false, .bool false] 52)))
  have HZ0 : Hid (((w.alloc (Obj.cells #[.bool x.rd, .bool x.wt, .int .i64 x.mode, .int .i64 x.size, .slice oa x.out.length oc, .slice ia x.inn.length ic, .slice ba x.back.length bc, .int .i64 x.dir, .bool x.fin, .bool x.bad, .bool x.closed] 52)).alloc (Obj.cells #[.bool false, .bool false, .int .i64 0, .int .i64 0, .slice none 0 0, .slice none 0 0, .slice none 0 0, .int .i64 0, .bool false, .bool false, .bool false] 52)).heap[w.heap.size + 1]? = some (Obj.cells #[.bool false, .bool false, .int .i64 0, .int .i64 0, .slice none 0 0, .slice none 0 0, .slice none 0 0, .int .i64 0, .bool false, .bool false, .bool false] 52)) := hide (by have := heap_alloc_new (w.alloc (Obj.cells #[.bool x.rd, .bool x.wt, .int .i64 x.mode, .int .i64 x.size, .slice oa x.out.length oc, .slice ia x.inn.length ic, .slice ba x.back.length bc, .int .i64 x.dir, .bool x.fin, .bool x.bad, .bool x.closed] 52)) (Obj.cells #[.bool false, .bool false, .int .i64 0, .int .i64 0, .slice none 0 0, .slice none 0 0, .slice none 0 0, .int .i64 0, .bool false, .bool false, .bool false] 52); rw [show (w.alloc (Obj.cells #[.bool x.rd, .bool x.wt, .int .i64 x.mode, .int .i64 x.size, .slice oa x.out.length oc, .slice ia x.inn.length ic, .slice ba x.back.length bc, .int .i64 x.dir, .bool x.fin, .bool x.bad, .bool x.closed] 52)).heap.size = w.heap.size + 1 from Array.size_push ..] at this; exact this)
  generalize (w.alloc (Obj.cells #[.bool x.rd, .bool x.wt, .int .i64 x.mode, .int .i64 x.size, .slice oa x.out.length oc, .slice ia x.inn.length ic, .slice ba x.back.length bc, .int .i64 x.dir, .bool x.fin, .bool x.bad, .bool x.closed] 52)).alloc (Obj.cells #[.bool false, .bool false, .int .i64 0, .int .i64 0, .slice none 0 0, .slice none 0 0, .slice none 0 0, .int .i64 0, .bool false, .bool false, .bool false] 52) = w0 at *
  have hz0 : w.heap.size + 1 < w0.heap.size := (Array.getElem?_eq_some_iff.1 HZ0.out).1
  obtain ⟨-, -, -, -, c4, c5, c6, -⟩ := HS0.out.cs
  go_region_law (first
    | (go_simp; go_at_call 191; have := HB2; refine (HC3.out _ HB2.out).mono ?_; rintro _ w3 ⟨u3, rfl, hO3, hB3⟩; obtain ⟨a3, k3, rfl⟩ := owns_slice hO3; have HS3 := hide (HS2.out.below hB3); have HZ3 := hide ((hB3.block (w.heap.size + 1) (Array.getElem?_eq_some_iff.1 HZ2.out).1).trans HZ2.out); have HB3 := hide (HB2.out.trans (hB3.mono HB2.out.size)); have HO3 := hide (And.intro (And.intro (owns_below HO2.out.1 hB3) (owns_below HO2.out.2 hB3)) hO3); clear hO3 hB3; obtain ⟨f0, f1, f2, f3, f4, f5, f6, f7, f8, f9, f10⟩ := HS3.out.cs; have g4 := frozen_of_row w3 w.heap.size 4 _ _ HS3.out; have g5 := frozen_of_row w3 w.heap.size 5 _ _ HS3.out; have g6 := frozen_of_row w3 w.heap.size 6 _ _ HS3.out)
    | (go_simp; go_at_call 191; have := HB1; refine (HC2.out _ HB1.out).mono ?_; rintro _ w2 ⟨u2, rfl, hO2, hB2⟩; obtain ⟨a2, k2, rfl⟩ := owns_slice hO2; have HS2 := hide (HS1.out.below hB2); have HZ2 := hide ((hB2.block (w.heap.size + 1) (Array.getElem?_eq_some_iff.1 HZ1.out).1).trans HZ1.out); have HB2 := hide (HB1.out.trans (hB2.mono HB1.out.size)); have hs2 := hB2.size; have HO2 := hide (And.intro (owns_below HO1.out hB2) hO2); clear hO2 hB2; obtain ⟨-, -, -, -, e4, e5, e6, -⟩ := HS2.out.cs)
    | (go_simp; go_at_call 191; refine (HC1.out _ (by exact HB0.out.drew)).mono ?_; rintro _ w1 ⟨u1, rfl, hO1, hB1⟩; obtain ⟨a1, k1, rfl⟩ := owns_slice hO1; have HS1 := hide (HS0.out.below ((Below.refl _ _).drew.trans hB1)); have HZ1 := hide ((hB1.block (w.heap.size + 1) (Array.getElem?_eq_some_iff.1 HZ0.out).1).trans HZ0.out); have HB1 := hide (HB0.out.trans (((Below.refl _ _).drew.trans hB1).mono HB0.out.size)); have hs1 : w0.heap.size ≤ w1.heap.size := hB1.size; have HO1 := hide hO1; clear hO1 hB1; obtain ⟨-, -, -, -, d4, d5, d6, -⟩ := HS1.out.cs)
    | fail)
  all_goals
    have e4 := Go.heap_setCell_same w3 w.heap.size 4 _ _ (.slice a1 x.out.length k1) HS3.out
    have e5 := Go.heap_setCell_same _ w.heap.size 5 _ _ (.slice a2 x.inn.length k2) e4
    have e6 := Go.heap_setCell_same _ w.heap.size 6 _ _ (.slice a3 x.back.length k3) e5
    have HS4 : Hid (RSt (((w3.setCell ⟨w.heap.size, 4, none⟩ (.slice a1 x.out.length k1)).setCell ⟨w.heap.size, 5, none⟩ (.slice a2 x.inn.length k2)).setCell ⟨w.heap.size, 6, none⟩ (.slice a3 x.back.length k3)) w.heap.size x (.slice a1 x.out.length k1) (.slice a2 x.inn.length k2) (.slice a3 x.back.length k3)) := hide e6
    have HT4 : Hid (Turned (fun k => k = w.heap.size) w3 (((w3.setCell ⟨w.heap.size, 4, none⟩ (.slice a1 x.out.length k1)).setCell ⟨w.heap.size, 5, none⟩ (.slice a2 x.inn.length k2)).setCell ⟨w.heap.size, 6, none⟩ (.slice a3 x.back.length k3))) := hide ((((Turned.refl (fun k => k = w.heap.size) w3).set (.inl rfl)).set (.inl rfl)).set (.inl rfl))
    clear e4 e5 e6 f0 f1 f2 f3 f4 f5 f6 f7 f8 f9 f10 g4 g5 g6 c4 c5 c6 d4 d5 d6 HS0 HS1 HS2 HS3 HZ0 HZ1 HZ2 HC1 HC2 HC3
    generalize ((w3.setCell ⟨w.heap.size, 4, none⟩ (.slice a1 x.out.length k1)).setCell ⟨w.heap.size, 5, none⟩ (.slice a2 x.inn.length k2)).setCell ⟨w.heap.size, 6, none⟩ (.slice a3 x.back.length k3) = w4 at *
    have HZ4 := hide ((HT4.out.block (w.heap.size + 1) (Array.getElem?_eq_some_iff.1 HZ3.out).1 (by omega)).trans HZ3.out)
    obtain ⟨f0, f1, f2, f3, f4, f5, f6, f7, f8, f9, f10⟩ := HS4.out.cs
    have z0 := cell_of_row w4 (w.heap.size + 1) 0 _ _ _ HZ4.out
    have z1 := cell_of_row w4 (w.heap.size + 1) 1 _ _ _ HZ4.out
    have z2 := cell_of_row w4 (w.heap.size + 1) 2 _ _ _ HZ4.out
    have z3 := cell_of_row w4 (w.heap.size + 1) 3 _ _ _ HZ4.out
    have z4 := cell_of_row w4 (w.heap.size + 1) 4 _ _ _ HZ4.out
    have z5 := cell_of_row w4 (w.heap.size + 1) 5 _ _ _ HZ4.out
    have z6 := cell_of_row w4 (w.heap.size + 1) 6 _ _ _ HZ4.out
    have z7 := cell_of_row w4 (w.heap.size + 1) 7 _ _ _ HZ4.out
    have z8 := cell_of_row w4 (w.heap.size + 1) 8 _ _ _ HZ4.out
    have z9 := cell_of_row w4 (w.heap.size + 1) 9 _ _ _ HZ4.out
    have z10 := cell_of_row w4 (w.heap.size + 1) 10 _ _ _ HZ4.out
    have y0 := frozen_of_row w4 (w.heap.size + 1) 0 _ _ HZ4.out
    have y1 := frozen_of_row w4 (w.heap.size + 1) 1 _ _ HZ4.out
    have y2 := frozen_of_row w4 (w.heap.size + 1) 2 _ _ HZ4.out
    have y3 := frozen_of_row w4 (w.heap.size + 1) 3 _ _ HZ4.out
    have y4 := frozen_of_row w4 (w.heap.size + 1) 4 _ _ HZ4.out
    have y5 := frozen_of_row w4 (w.heap.size + 1) 5 _ _ HZ4.out
    have y6 := frozen_of_row w4 (w.heap.size + 1) 6 _ _ HZ4.out
    have y7 := frozen_of_row w4 (w.heap.size + 1) 7 _ _ HZ4.out
    have y8 := frozen_of_row w4 (w.heap.size + 1) 8 _ _ HZ4.out
    have y9 := frozen_of_row w4 (w.heap.size + 1) 9 _ _ HZ4.out
    have y10 := frozen_of_row w4 (w.heap.size + 1) 10 _ _ HZ4.out
    simp at z0 z1 z2 z3 z4 z5 z6 z7 z8 z9 z10
    go_wp2
    obtain ⟨e1, e2⟩ := rst_fill w4 (w.heap.size + 1) x (.slice a1 x.out.length k1) (.slice a2 x.inn.length k2) (.slice a3 x.back.length k3) HZ4.out
    have HTw := hide ((HT4.out.mono fun k e => (.inl e : k = w.heap.size ∨ k = w.heap.size + 1)).trans (e2.mono fun k e => (.inr e : k = w.heap.size ∨ k = w.heap.size + 1)) (fun _ _ e => e))
    refine bodyPost_ret (results_cell_row rfl _ _ (w.heap.size + 1) _ _ _ _ rfl e1 Tryz.underlying52 rfl (by kernel_rfl)) rfl ?_
    have far : ∀ k, w.heap.size + 1 < k → ¬ (k = w.heap.size ∨ k = w.heap.size + 1) := fun k h e => by omega
    have hr1 := HO3.out.1.1
    have hr2 := HO3.out.1.2
    have hr3 := HO3.out.2
    have hs0 : w.heap.size + 1 < w0.drew.heap.size := hz0
    exact ⟨_, _, _, rfl, owns_mono (owns_turned hr1 HTw.out (fun k e => far k (by have := (hr1.lt k e).1; omega))) (by omega), owns_mono (owns_turned hr2 HTw.out (fun k e => far k (by have := (hr2.lt k e).1; omega))) (by omega), owns_mono (owns_turned hr3 HTw.out (fun k e => far k (by have := (hr3.lt k e).1; omega))) (by omega), (HTw.out.below (B := w.heap.size) (fun k e => by omega) HB3.out.size) |> HB3.out.trans, fun k e => ⟨fun e' => by have := (HO1.out.lt k e).2; have := (HO2.out.2.lt k e').1; omega, fun e' => by have := (HO1.out.lt k e).2; have := (HO3.out.2.lt k e').1; omega⟩, fun k e e' => by have := (HO2.out.2.lt k e).2; have := (HO3.out.2.lt k e').1; omega⟩
end Go.Proofs.YtdmkjbdlidadiaaGreat

/- Streams: what follows a call may be too; how many calls of retry it takes. -/
namespace Go.Proofs.YtdmkjbdlidadiaaGreat
open Go.RowKit

theorem may_iff (x : SS) : x.may = true ↔ 1 ≤ x.mode ∧ x.mode ≤ 3 ∧ 1 ≤ x.size ∧ x.size ≤ 65536 ∧ (x.out.length : Int) ≤ x.size ∧ (x.mode = 1 → x.out.length = 0) ∧ x.inn.length ≤ 65536 ∧ x.back.length ≤ 8 ∧
    ((x.dir = 0 ∧ x.out.length = 0 ∧ x.inn.length + x.back.length = 0) ∨ (x.dir = 1 ∧ x.rd = true ∧ x.out.length = 0 ∧ x.closed = false) ∨ (x.dir = 2 ∧ x.wt = true ∧ x.inn.length + x.back.length = 0 ∧ x.closed = false)) := by
  unfold SS.may SS.buf SS.way SS.toR SS.toW
  simp only [Bool.and_eq_true, decide_eq_true_eq]
  constructor
  · rintro ⟨⟨⟨⟨⟨⟨h1, h2⟩, h3, h4⟩, h5⟩, h6⟩, h7⟩, h8⟩
    have h9 : (x.out.length : Int) ≤ x.size ∧ (x.mode = 1 → x.out.length = 0) := by split at h5 <;> (refine ⟨by omega, fun _ => by omega⟩)
    refine ⟨h1, h2, h3, h4, h9.1, h9.2, by omega, by omega, ?_⟩
    split at h8
    · simp at h8; exact .inl ⟨by assumption, by rw [h8.2]; rfl, by omega⟩
    split at h8
    · simp at h8; exact .inr (.inl ⟨by assumption, h8.1.1, by rw [h8.1.2]; rfl, h8.2⟩)
    split at h8
    · simp at h8; exact .inr (.inr ⟨by assumption, h8.1.1, by omega, h8.2⟩)
    · simp at h8
  · rintro ⟨h1, h2, h3, h4, h5, h6, h7, h8, h9⟩
    refine ⟨⟨⟨⟨⟨⟨h1, h2⟩, h3, h4⟩, ?_⟩, by omega⟩, by omega⟩, ?_⟩
    · split
      · have := h6 (by assumption); omega
      · exact h5
    · rcases h9 with ⟨e, e1, e2⟩ | ⟨e, e1, e2, e3⟩ | ⟨e, e1, e2, e3⟩
      · rw [if_pos e]; simp; exact ⟨by omega, List.length_eq_zero_iff.1 e1⟩
      · rw [if_neg (by omega), if_pos e, e1, e3]; simp; exact List.length_eq_zero_iff.1 e2
      · rw [if_neg (by omega), if_neg (by omega), if_pos e, e1, e3]; simp; omega
end Go.Proofs.YtdmkjbdlidadiaaGreat

/- Streams: the law's Given and Same. -/
namespace Go.Proofs.YtdmkjbdlidadiaaGreat
open Go.RowKit

set_option maxRecDepth 100000 in
set_option maxHeartbeats 4000000 in
theorem given_any (x : SS) (o i b : Value) (P : Nat → Prop) (w : World) (h : SIn w P x o i b) (ho : x.out.length ≤ 140737488351232) (hi : x.inn.length ≤ 140737488351232) (hb : x.back.length ≤ 140737488351232) :
    Calls Tryz.prog 21 #[.agg #[.bool x.rd, .bool x.wt, .int .i64 x.mode, .int .i64 x.size, o, i, b, .int .i64 x.dir, .bool x.fin, .bool x.bad, .bool x.closed]] w fun e w' => ∃ o' i' b', e = .returned (.agg #[.bool x.rd, .bool x.wt, .int .i64 x.mode, .int .i64 x.size, o', i', b', .int .i64 x.dir, .bool x.fin, .bool x.bad, .bool x.closed]) ∧ w'.ownsRow w.heap.size 5 1 o' x.out.length (x.out.map bv) ∧ w'.ownsRow w.heap.size 5 1 i' x.inn.length (x.inn.map bv) ∧ w'.ownsRow w.heap.size 5 1 b' x.back.length (x.back.map bv) ∧ Below w.heap.size w w' ∧ Ap3 o' i' b' := by
  have HOw := hide (fun (W : World) (hW : Below w.heap.size w W) => rown_any x o i b P W (h.below hW) ho hi hb)
  obtain ⟨oa, oc, rfl, -⟩ := h.so
  obtain ⟨ia, ic, rfl, -⟩ := h.si
  obtain ⟨ba, bc, rfl, -⟩ := h.sb
  clear h
  go_enter Tryz.func21, Tryz.ntmps21
  go_wp2_with fail
  have HB0 := hide ((recv_below w (Obj.cells #[.bool x.rd, .bool x.wt, .int .i64 x.mode, .int .i64 x.size, .slice oa x.out.length oc, .slice ia x.inn.length ic, .slice ba x.back.length bc, .int .i64 x.dir, .bool x.fin, .bool x.bad, .bool x.closed] 52)).trans ((recv_below (w.alloc (Obj.cells #[.bool x.rd, .bool x.wt, .int .i64 x.mode, .int .i64 x.size, .slice oa x.out.length oc, .slice ia x.inn.length ic, .slice ba x.back.length bc, .int .i64 x.dir, .bool x.fin, .bool x.bad, .bool x.closed] 52)) (Obj.cells #[.bool false, .bool false, .int .i64 0, .int .i64 0, .slice none 0 0, .slice none 0 0, .slice none 0 0, .int .i64 0, .bool false, .bool false, .bool false] 58)).mono (recv_below w (Obj.cells #[.bool x.rd, .bool x.wt, .int .i64 x.mode, .int .i64 x.size, .slice oa x.out.length oc, .slice ia x.inn.length ic, .slice ba x.back.length bc, .int .i64 x.dir, .bool x.fin, .bool x.bad, .bool x.closed] 52)).size))
  have HZ0 : Hid (((w.alloc (Obj.cells #[.bool x.rd, .bool x.wt, .int .i64 x.mode, .int .i64 x.size, .slice oa x.out.length oc, .slice ia x.inn.length ic, .slice ba x.back.length bc, .int .i64 x.dir, .bool x.fin, .bool x.bad, .bool x.closed] 52)).alloc (Obj.cells #[.bool false, .bool false, .int .i64 0, .int .i64 0, .slice none 0 0, .slice none 0 0, .slice none 0 0, .int .i64 0, .bool false, .bool false, .bool false] 58)).heap[w.heap.size + 1]? = some (Obj.cells #[.bool false, .bool false, .int .i64 0, .int .i64 0, .slice none 0 0, .slice none 0 0, .slice none 0 0, .int .i64 0, .bool false, .bool false, .bool false] 58)) := hide (by have := heap_alloc_new (w.alloc (Obj.cells #[.bool x.rd, .bool x.wt, .int .i64 x.mode, .int .i64 x.size, .slice oa x.out.length oc, .slice ia x.inn.length ic, .slice ba x.back.length bc, .int .i64 x.dir, .bool x.fin, .bool x.bad, .bool x.closed] 52)) (Obj.cells #[.bool false, .bool false, .int .i64 0, .int .i64 0, .slice none 0 0, .slice none 0 0, .slice none 0 0, .int .i64 0, .bool false, .bool false, .bool false] 58); rw [show (w.alloc (Obj.cells #[.bool x.rd, .bool x.wt, .int .i64 x.mode, .int .i64 x.size, .slice oa x.out.length oc, .slice ia x.inn.length ic, .slice ba x.back.length bc, .int .i64 x.dir, .bool x.fin, .bool x.bad, .bool x.closed] 52)).heap.size = w.heap.size + 1 from Array.size_push ..] at this; exact this)
  generalize (w.alloc (Obj.cells #[.bool x.rd, .bool x.wt, .int .i64 x.mode, .int .i64 x.size, .slice oa x.out.length oc, .slice ia x.inn.length ic, .slice ba x.back.length bc, .int .i64 x.dir, .bool x.fin, .bool x.bad, .bool x.closed] 52)).alloc (Obj.cells #[.bool false, .bool false, .int .i64 0, .int .i64 0, .slice none 0 0, .slice none 0 0, .slice none 0 0, .int .i64 0, .bool false, .bool false, .bool false] 58) = w0 at *
  have hz0 : w.heap.size + 1 < w0.heap.size := (Array.getElem?_eq_some_iff.1 HZ0.out).1
  refine (HOw.out _ HB0.out).mono ?_
  rintro _ w1 ⟨o1, i1, b1, rfl, y3, y4, y5, hB1, hAp⟩
  obtain ⟨a1, k1, rfl⟩ := owns_slice y3
  obtain ⟨a2, k2, rfl⟩ := owns_slice y4
  obtain ⟨a3, k3, rfl⟩ := owns_slice y5
  have HZ1 := hide ((hB1.block (w.heap.size + 1) hz0).trans HZ0.out)
  have HB1 := hide (HB0.out.trans (hB1.mono HB0.out.size))
  have HY := hide (And.intro y3 (And.intro y4 y5))
  have HAp := hide hAp
  clear hAp y3 y4 y5 hB1 HZ0 HB0 HOw
  have z0 := cell_of_row w1 (w.heap.size + 1) 0 _ _ _ HZ1.out
  have z1 := cell_of_row w1 (w.heap.size + 1) 1 _ _ _ HZ1.out
  have z2 := cell_of_row w1 (w.heap.size + 1) 2 _ _ _ HZ1.out
  have z3 := cell_of_row w1 (w.heap.size + 1) 3 _ _ _ HZ1.out
  have z4 := cell_of_row w1 (w.heap.size + 1) 4 _ _ _ HZ1.out
  have z5 := cell_of_row w1 (w.heap.size + 1) 5 _ _ _ HZ1.out
  have z6 := cell_of_row w1 (w.heap.size + 1) 6 _ _ _ HZ1.out
  have z7 := cell_of_row w1 (w.heap.size + 1) 7 _ _ _ HZ1.out
  have z8 := cell_of_row w1 (w.heap.size + 1) 8 _ _ _ HZ1.out
  have z9 := cell_of_row w1 (w.heap.size + 1) 9 _ _ _ HZ1.out
  have z10 := cell_of_row w1 (w.heap.size + 1) 10 _ _ _ HZ1.out
  have u0 := frozen_of_row w1 (w.heap.size + 1) 0 _ _ HZ1.out
  have u1 := frozen_of_row w1 (w.heap.size + 1) 1 _ _ HZ1.out
  have u2 := frozen_of_row w1 (w.heap.size + 1) 2 _ _ HZ1.out
  have u3 := frozen_of_row w1 (w.heap.size + 1) 3 _ _ HZ1.out
  have u4 := frozen_of_row w1 (w.heap.size + 1) 4 _ _ HZ1.out
  have u5 := frozen_of_row w1 (w.heap.size + 1) 5 _ _ HZ1.out
  have u6 := frozen_of_row w1 (w.heap.size + 1) 6 _ _ HZ1.out
  have u7 := frozen_of_row w1 (w.heap.size + 1) 7 _ _ HZ1.out
  have u8 := frozen_of_row w1 (w.heap.size + 1) 8 _ _ HZ1.out
  have u9 := frozen_of_row w1 (w.heap.size + 1) 9 _ _ HZ1.out
  have u10 := frozen_of_row w1 (w.heap.size + 1) 10 _ _ HZ1.out
  simp at z0 z1 z2 z3 z4 z5 z6 z7 z8 z9 z10
  go_wp2
  obtain ⟨e1, e2⟩ := st_fill w1 (w.heap.size + 1) x (.slice a1 x.out.length k1) (.slice a2 x.inn.length k2) (.slice a3 x.back.length k3) HZ1.out
  refine bodyPost_ret (results_cell_row rfl _ _ (w.heap.size + 1) _ _ _ _ rfl e1 Tryz.underlying58 rfl (by kernel_rfl)) rfl ?_
  obtain ⟨hr1, hr2, hr3⟩ := HY.out
  exact ⟨_, _, _, rfl, owns_mono (owns_turned hr1 e2 (fun k e => by have := (hr1.lt k e).1; omega)) (by omega), owns_mono (owns_turned hr2 e2 (fun k e => by have := (hr2.lt k e).1; omega)) (by omega), owns_mono (owns_turned hr3 e2 (fun k e => by have := (hr3.lt k e).1; omega)) (by omega), HB1.out.trans (e2.below (fun k e => by omega) HB1.out.size), HAp.out⟩
set_option maxRecDepth 100000 in
set_option maxHeartbeats 4000000 in
theorem ssame_any (x : SS) (o i b p q r : Value) (P Q : Nat → Prop) (w : World) (h : SIn w P x o i b) (h' : SIn w Q x p q r) (ho : x.out.length ≤ 140737488351232) (hi : x.inn.length ≤ 140737488351232) (hb : x.back.length ≤ 140737488351232) :
    Calls Tryz.prog 26 #[.agg #[.bool x.rd, .bool x.wt, .int .i64 x.mode, .int .i64 x.size, o, i, b, .int .i64 x.dir, .bool x.fin, .bool x.bad, .bool x.closed], .agg #[.bool x.rd, .bool x.wt, .int .i64 x.mode, .int .i64 x.size, p, q, r, .int .i64 x.dir, .bool x.fin, .bool x.bad, .bool x.closed]] w fun e w' => e = .returned (.bool true) ∧ Below w.heap.size w w' := by
  obtain ⟨oa, oc, rfl, hb1, -⟩ := h.so
  obtain ⟨ia, ic, rfl, hb2, -⟩ := h.si
  obtain ⟨ba, bc, rfl, hb3, -⟩ := h.sb
  obtain ⟨pa, pc, rfl, hb4, -⟩ := h'.so
  obtain ⟨qa, qc, rfl, hb5, -⟩ := h'.si
  obtain ⟨ra, rc, rfl, hb6, -⟩ := h'.sb
  have HS1 := hide (fun (W : World) (hW : Below w.heap.size w W) => same_any (.slice oa x.out.length oc) (.slice pa x.out.length pc) x.out W (hb1.below hW) (hb4.below hW) (by unfold maxLen; omega))
  have HS2 := hide (fun (W : World) (hW : Below w.heap.size w W) => same_any (.slice ia x.inn.length ic) (.slice qa x.inn.length qc) x.inn W (hb2.below hW) (hb5.below hW) (by unfold maxLen; omega))
  have HS3 := hide (fun (W : World) (hW : Below w.heap.size w W) => same_any (.slice ba x.back.length bc) (.slice ra x.back.length rc) x.back W (hb3.below hW) (hb6.below hW) (by unfold maxLen; omega))
  clear h h' hb1 hb2 hb3 hb4 hb5 hb6
  go_enter Tryz.func26, Tryz.ntmps26
  go_upto_region 1 with fail
  have HB0 := hide ((recv_below w (Obj.cells #[.bool x.rd, .bool x.wt, .int .i64 x.mode, .int .i64 x.size, .slice oa x.out.length oc, .slice ia x.inn.length ic, .slice ba x.back.length bc, .int .i64 x.dir, .bool x.fin, .bool x.bad, .bool x.closed] 58)).trans ((recv_below (w.alloc (Obj.cells #[.bool x.rd, .bool x.wt, .int .i64 x.mode, .int .i64 x.size, .slice oa x.out.length oc, .slice ia x.inn.length ic, .slice ba x.back.length bc, .int .i64 x.dir, .bool x.fin, .bool x.bad, .bool x.closed] 58)) (Obj.cells #[.bool x.rd, .bool x.wt, .int .i64 x.mode, .int .i64 x.size, .slice pa x.out.length pc, .slice qa x.inn.length qc, .slice ra x.back.length rc, .int .i64 x.dir, .bool x.fin, .bool x.bad, .bool x.closed] 52)).mono (recv_below w (Obj.cells #[.bool x.rd, .bool x.wt, .int .i64 x.mode, .int .i64 x.size, .slice oa x.out.length oc, .slice ia x.inn.length ic, .slice ba x.back.length bc, .int .i64 x.dir, .bool x.fin, .bool x.bad, .bool x.closed] 58)).size))
  have HA0 := hide ((StAt.new w x (.slice oa x.out.length oc) (.slice ia x.inn.length ic) (.slice ba x.back.length bc)).below (recv_below _ (Obj.cells #[.bool x.rd, .bool x.wt, .int .i64 x.mode, .int .i64 x.size, .slice pa x.out.length pc, .slice qa x.inn.length qc, .slice ra x.back.length rc, .int .i64 x.dir, .bool x.fin, .bool x.bad, .bool x.closed] 52)))
  have HR0 : Hid (RSt ((w.alloc (Obj.cells #[.bool x.rd, .bool x.wt, .int .i64 x.mode, .int .i64 x.size, .slice oa x.out.length oc, .slice ia x.inn.length ic, .slice ba x.back.length bc, .int .i64 x.dir, .bool x.fin, .bool x.bad, .bool x.closed] 58)).alloc (Obj.cells #[.bool x.rd, .bool x.wt, .int .i64 x.mode, .int .i64 x.size, .slice pa x.out.length pc, .slice qa x.inn.length qc, .slice ra x.back.length rc, .int .i64 x.dir, .bool x.fin, .bool x.bad, .bool x.closed] 52)) (w.heap.size + 1) x (.slice pa x.out.length pc) (.slice qa x.inn.length qc) (.slice ra x.back.length rc)) := hide (by have := RSt.new (w.alloc (Obj.cells #[.bool x.rd, .bool x.wt, .int .i64 x.mode, .int .i64 x.size, .slice oa x.out.length oc, .slice ia x.inn.length ic, .slice ba x.back.length bc, .int .i64 x.dir, .bool x.fin, .bool x.bad, .bool x.closed] 58)) x (.slice pa x.out.length pc) (.slice qa x.inn.length qc) (.slice ra x.back.length rc); rw [show (w.alloc (Obj.cells #[.bool x.rd, .bool x.wt, .int .i64 x.mode, .int .i64 x.size, .slice oa x.out.length oc, .slice ia x.inn.length ic, .slice ba x.back.length bc, .int .i64 x.dir, .bool x.fin, .bool x.bad, .bool x.closed] 58)).heap.size = w.heap.size + 1 from Array.size_push ..] at this; exact this)
  generalize (w.alloc (Obj.cells #[.bool x.rd, .bool x.wt, .int .i64 x.mode, .int .i64 x.size, .slice oa x.out.length oc, .slice ia x.inn.length ic, .slice ba x.back.length bc, .int .i64 x.dir, .bool x.fin, .bool x.bad, .bool x.closed] 58)).alloc (Obj.cells #[.bool x.rd, .bool x.wt, .int .i64 x.mode, .int .i64 x.size, .slice pa x.out.length pc, .slice qa x.inn.length qc, .slice ra x.back.length rc, .int .i64 x.dir, .bool x.fin, .bool x.bad, .bool x.closed] 52) = w0 at *
  have HK := hide (fun (W : World) (hW : Below w0.heap.size w0 W) => (show (fun W => W.cell? ⟨w.heap.size, 0, none⟩ = some (.bool x.rd) ∧ W.cell? ⟨w.heap.size, 1, none⟩ = some (.bool x.wt) ∧ W.cell? ⟨w.heap.size, 2, none⟩ = some (.int .i64 x.mode) ∧ W.cell? ⟨w.heap.size, 3, none⟩ = some (.int .i64 x.size) ∧ W.cell? ⟨w.heap.size, 4, none⟩ = some (.slice oa x.out.length oc) ∧ W.cell? ⟨w.heap.size, 5, none⟩ = some (.slice ia x.inn.length ic) ∧ W.cell? ⟨w.heap.size, 6, none⟩ = some (.slice ba x.back.length bc) ∧ W.cell? ⟨w.heap.size, 7, none⟩ = some (.int .i64 x.dir) ∧ W.cell? ⟨w.heap.size, 8, none⟩ = some (.bool x.fin) ∧ W.cell? ⟨w.heap.size, 9, none⟩ = some (.bool x.bad) ∧ W.cell? ⟨w.heap.size, 10, none⟩ = some (.bool x.closed) ∧ W.cell? ⟨w.heap.size + 1, 0, none⟩ = some (.bool x.rd) ∧ W.cell? ⟨w.heap.size + 1, 1, none⟩ = some (.bool x.wt) ∧ W.cell? ⟨w.heap.size + 1, 2, none⟩ = some (.int .i64 x.mode) ∧ W.cell? ⟨w.heap.size + 1, 3, none⟩ = some (.int .i64 x.size) ∧ W.cell? ⟨w.heap.size + 1, 4, none⟩ = some (.slice pa x.out.length pc) ∧ W.cell? ⟨w.heap.size + 1, 5, none⟩ = some (.slice qa x.inn.length qc) ∧ W.cell? ⟨w.heap.size + 1, 6, none⟩ = some (.slice ra x.back.length rc) ∧ W.cell? ⟨w.heap.size + 1, 7, none⟩ = some (.int .i64 x.dir) ∧ W.cell? ⟨w.heap.size + 1, 8, none⟩ = some (.bool x.fin) ∧ W.cell? ⟨w.heap.size + 1, 9, none⟩ = some (.bool x.bad) ∧ W.cell? ⟨w.heap.size + 1, 10, none⟩ = some (.bool x.closed)) W from by
    obtain ⟨c0, c1, c2, c3, c4, c5, c6, c7, c8, c9, c10⟩ := (HA0.out.below hW).cs
    obtain ⟨d0, d1, d2, d3, d4, d5, d6, d7, d8, d9, d10⟩ := (HR0.out.below hW).cs
    exact ⟨c0, c1, c2, c3, c4, c5, c6, c7, c8, c9, c10, d0, d1, d2, d3, d4, d5, d6, d7, d8, d9, d10⟩))
  clear HA0 HR0
  obtain ⟨c0, c1, c2, c3, c4, c5, c6, c7, c8, c9, c10, d0, d1, d2, d3, d4, d5, d6, d7, d8, d9, d10⟩ := HK.out w0 (Below.refl _ _)
  go_wp2_with fail
  refine (HS1.out _ HB0.out).mono ?_
  rintro _ w1 ⟨rfl, hB1⟩
  have HB1 : Hid (Below w0.heap.size w0 w1) := hide hB1
  clear hB1
  clear c0 c1 c2 c3 c4 c5 c6 c7 c8 c9 c10 d0 d1 d2 d3 d4 d5 d6 d7 d8 d9 d10
  obtain ⟨c0, c1, c2, c3, c4, c5, c6, c7, c8, c9, c10, d0, d1, d2, d3, d4, d5, d6, d7, d8, d9, d10⟩ := HK.out w1 HB1.out
  go_wp2_with fail
  refine (HS2.out _ (HB0.out.trans (HB1.out.mono HB0.out.size))).mono ?_
  rintro _ w2 ⟨rfl, hB2⟩
  have HB2 : Hid (Below w0.heap.size w0 w2) := hide (HB1.out.trans (hB2.mono HB1.out.size))
  clear hB2
  clear c0 c1 c2 c3 c4 c5 c6 c7 c8 c9 c10 d0 d1 d2 d3 d4 d5 d6 d7 d8 d9 d10
  obtain ⟨c0, c1, c2, c3, c4, c5, c6, c7, c8, c9, c10, d0, d1, d2, d3, d4, d5, d6, d7, d8, d9, d10⟩ := HK.out w2 HB2.out
  go_wp2_with fail
  refine (HS3.out _ (HB0.out.trans (HB2.out.mono HB0.out.size))).mono ?_
  rintro _ w3 ⟨rfl, hB3⟩
  have HB3 : Hid (Below w0.heap.size w0 w3) := hide (HB2.out.trans (hB3.mono HB2.out.size))
  clear hB3
  clear c0 c1 c2 c3 c4 c5 c6 c7 c8 c9 c10 d0 d1 d2 d3 d4 d5 d6 d7 d8 d9 d10
  obtain ⟨c0, c1, c2, c3, c4, c5, c6, c7, c8, c9, c10, d0, d1, d2, d3, d4, d5, d6, d7, d8, d9, d10⟩ := HK.out w3 HB3.out
  go_wp2
  go_ret
  exact ⟨rfl, HB0.out.trans (HB3.out.mono HB0.out.size)⟩
end Go.Proofs.YtdmkjbdlidadiaaGreat

/- Streams over memory that grows. -/
namespace Go.Proofs.YtdmkjbdlidadiaaGreat
open Go.RowKit

theorem someOk_true {S : Type} (D : RawD S) (n : Nat) : ∀ k s, someOk D (fun _ => True) n k s
  | 0, _ => trivial
  | k + 1, _ => ⟨trivial, fun _ => someOk_true D n k _⟩
theorem putOk_true {S : Type} (D : RawD S) (bs : List UInt8) : ∀ k s d t, putOk D (fun _ => True) bs k s d t
  | 0, _, _, _ => trivial
  | k + 1, _, _, _ => fun _ => ⟨trivial, fun _ _ => putOk_true D bs k _ _ _, fun _ _ _ => putOk_true D bs k _ _ _⟩
theorem bears_true {S : Type} (D : RawD S) : Bears D (fun _ => True) (fun _ => True) (fun _ _ => True) := ⟨fun _ s bs _ _ => ⟨putOk_true D bs _ s _ _, trivial⟩, fun _ s m _ _ _ => ⟨someOk_true D m _ s, trivial⟩, fun _ _ h => h⟩
def msR : RawD MS := ⟨fun S n => S.read n, fun S x => S.write x⟩
theorem gmem_o (g : Nat) (S : MS) : OAt (fun w O => MemAt w O g S) := ⟨fun h hk _ => h.keep hk, fun h => h.trim⟩
theorem piece_le (l : List UInt8) (p n : Nat) : (piece l p n).length ≤ l.length := by
  unfold piece
  simp
  omega
theorem gro_raw (g : Nat) : RawM msR 75 (.pointer (some ⟨g, 0, none⟩)) 310 312 (fun _ => True) (fun _ => True) (fun w O S => MemAt w O g S) where
  mread w := by kernel_rfl
  mwrite w := by kernel_rfl
  cread a w := by kernel_rfl
  cwrite a w := by kernel_rfl
  keep h hk _ := h.keep hk
  few {w O s} n h := by
    have := h.ok
    show (s.read n).1.length ≤ _
    unfold MS.read
    split
    · have := piece_le s.l s.pl (n : Int).toNat
      simp only
      omega
    · simp
  read n h _ _ _ := (gmread_any _ g _ n _ h).mono fun _ _ e => view_own e
  write bs a c h _ hb hc _ _ hap := gmwrite_any _ g _ bs a c _ h hb hc (fun _ => hap)
end Go.Proofs.YtdmkjbdlidadiaaGreat

/- Openmode: a mode as eight truths, and what the letters' functions answer of it. -/
namespace Go.Proofs.YtdmkjbdlidadiaaGreat
open Go.RowKit

structure Mo where
  rd : Bool
  wr : Bool
  ap : Bool
  cr : Bool
  tr : Bool
  ex : Bool
  bi : Bool
  ma : Bool
  deriving DecidableEq
def mv (m : Mo) : Value := .agg #[.bool m.rd, .bool m.wr, .bool m.ap, .bool m.cr, .bool m.tr, .bool m.ex, .bool m.bi, .bool m.ma]
def mo0 : Mo := ⟨false, false, false, false, false, false, false, false⟩
def mc (m : Mo) : Array Value := #[.bool m.rd, .bool m.wr, .bool m.ap, .bool m.cr, .bool m.tr, .bool m.ex, .bool m.bi, .bool m.ma]
def MoAt (W : World) (b : Nat) (m : Mo) : Prop := W.heap[b]? = some (.cells (mc m) 186)
theorem MoAt.lt {W : World} {b : Nat} {m : Mo} (h : MoAt W b m) : b < W.heap.size := (Array.getElem?_eq_some_iff.1 h).1
theorem MoAt.soft {W : World} {b : Nat} {m : Mo} (h : MoAt W b m) (j : Nat) : W.frozen? ⟨b, j, none⟩ = false := frozen_of_row W b j _ _ h
theorem MoAt.cell {W : World} {b : Nat} {m : Mo} (h : MoAt W b m) (j : Nat) : W.cell? ⟨b, j, none⟩ = (mc m)[j]? := cell_of_row W b j _ _ _ h
theorem MoAt.keep {S : Nat → Prop} {W W' : World} {b : Nat} {m : Mo} (h : MoAt W b m) (hT : Turned S W W') (hS : ¬ S b) : MoAt W' b m := (hT.block b h.lt hS).trans h
theorem MoAt.below {W W' : World} {b : Nat} {m : Mo} (h : MoAt W b m) (hB : Below W.heap.size W W') : MoAt W' b m := (hB.block b h.lt).trans h

def isNone (m : Mo) : Bool := !(m.rd || m.wr || m.ap || m.cr || m.tr || m.ex || m.bi || m.ma)

set_option maxRecDepth 100000 in
set_option maxHeartbeats 1000000 in
theorem ohas_r (m : Mo) (w : World) : Calls Tryz.prog 263 #[mv m] w fun e w' => e = .returned (.bool (m.rd && !m.cr)) ∧ Below w.heap.size w w' := by
  obtain ⟨a, b, c, d, e, f, g, h⟩ := m
  unfold mv
  cases a <;> cases d
  all_goals
    go_enter Tryz.func263, Tryz.ntmps263
    go_wp2
    go_ret
    exact ⟨rfl, (Below.refl _ _).alloc (Nat.le_refl _) _⟩
set_option maxRecDepth 100000 in
set_option maxHeartbeats 1000000 in
theorem ohas_w (m : Mo) (w : World) : Calls Tryz.prog 265 #[mv m] w fun e w' => e = .returned (.bool (m.tr)) ∧ Below w.heap.size w w' := by
  obtain ⟨a, b, c, d, e, f, g, h⟩ := m
  unfold mv
  cases e
  all_goals
    go_enter Tryz.func265, Tryz.ntmps265
    go_wp2
    go_ret
    exact ⟨rfl, (Below.refl _ _).alloc (Nat.le_refl _) _⟩
set_option maxRecDepth 100000 in
set_option maxHeartbeats 1000000 in
theorem ohas_a (m : Mo) (w : World) : Calls Tryz.prog 267 #[mv m] w fun e w' => e = .returned (.bool (m.ap)) ∧ Below w.heap.size w w' := by
  obtain ⟨a, b, c, d, e, f, g, h⟩ := m
  unfold mv
  cases c
  all_goals
    go_enter Tryz.func267, Tryz.ntmps267
    go_wp2
    go_ret
    exact ⟨rfl, (Below.refl _ _).alloc (Nat.le_refl _) _⟩
set_option maxRecDepth 100000 in
set_option maxHeartbeats 1000000 in
theorem ohas_p (m : Mo) (w : World) : Calls Tryz.prog 270 #[mv m] w fun e w' => e = .returned (.bool (m.rd && m.wr)) ∧ Below w.heap.size w w' := by
  obtain ⟨a, b, c, d, e, f, g, h⟩ := m
  unfold mv
  cases a <;> cases b
  all_goals
    go_enter Tryz.func270, Tryz.ntmps270
    go_wp2
    go_ret
    exact ⟨rfl, (Below.refl _ _).alloc (Nat.le_refl _) _⟩
set_option maxRecDepth 100000 in
set_option maxHeartbeats 1000000 in
theorem ohas_b (m : Mo) (w : World) : Calls Tryz.prog 272 #[mv m] w fun e w' => e = .returned (.bool (m.bi)) ∧ Below w.heap.size w w' := by
  obtain ⟨a, b, c, d, e, f, g, h⟩ := m
  unfold mv
  cases g
  all_goals
    go_enter Tryz.func272, Tryz.ntmps272
    go_wp2
    go_ret
    exact ⟨rfl, (Below.refl _ _).alloc (Nat.le_refl _) _⟩
set_option maxRecDepth 100000 in
set_option maxHeartbeats 1000000 in
theorem omay_x (m : Mo) (w : World) : Calls Tryz.prog 273 #[mv m] w fun e w' => e = .returned (.bool (m.tr)) ∧ Below w.heap.size w w' := by
  obtain ⟨a, b, c, d, e, f, g, h⟩ := m
  unfold mv
  cases e
  all_goals
    go_enter Tryz.func273, Tryz.ntmps273
    go_wp2
    go_ret
    exact ⟨rfl, (Below.refl _ _).alloc (Nat.le_refl _) _⟩
set_option maxRecDepth 100000 in
set_option maxHeartbeats 1000000 in
theorem ohas_x (m : Mo) (w : World) : Calls Tryz.prog 275 #[mv m] w fun e w' => e = .returned (.bool (m.ex)) ∧ Below w.heap.size w w' := by
  obtain ⟨a, b, c, d, e, f, g, h⟩ := m
  unfold mv
  cases f
  all_goals
    go_enter Tryz.func275, Tryz.ntmps275
    go_wp2
    go_ret
    exact ⟨rfl, (Below.refl _ _).alloc (Nat.le_refl _) _⟩
set_option maxRecDepth 100000 in
set_option maxHeartbeats 1000000 in
theorem ohas_e (m : Mo) (w : World) : Calls Tryz.prog 277 #[mv m] w fun e w' => e = .returned (.bool (m.ma)) ∧ Below w.heap.size w w' := by
  obtain ⟨a, b, c, d, e, f, g, h⟩ := m
  unfold mv
  cases h
  all_goals
    go_enter Tryz.func277, Tryz.ntmps277
    go_wp2
    go_ret
    exact ⟨rfl, (Below.refl _ _).alloc (Nat.le_refl _) _⟩
set_option maxRecDepth 100000 in
set_option maxHeartbeats 1000000 in
theorem isNone_any (m : Mo) (w : World) : Calls Tryz.prog 246 #[mv m] w fun e w' => e = .returned (.bool (isNone m)) ∧ Below w.heap.size w w' := by
  obtain ⟨a, b, c, d, e, f, g, h⟩ := m
  unfold mv
  go_enter Tryz.func246, Tryz.ntmps246
  go_wp2
  all_goals go_ret
  all_goals exact ⟨by simp_all [isNone], (Below.refl _ _).alloc (Nat.le_refl _) _⟩
set_option maxRecDepth 100000 in
set_option maxHeartbeats 1000000 in
theorem olay_r (b : Nat) (m : Mo) (w : World) (h : MoAt w b m) : Calls Tryz.prog 262 #[.pointer (some ⟨b, 0, none⟩)] w fun e w' => e = .returned (.tuple #[]) ∧ MoAt w' b { m with rd := true } ∧ Turned (fun k => k = b) w w' := by
  have c0 : w.cell? ⟨b, 0, none⟩ = some (.bool m.rd) := h.cell 0
  have s0 := h.soft 0
  have e0 := Go.heap_setCell_same _ b 0 _ _ (.bool true) h
  go_enter Tryz.func262, Tryz.ntmps262
  go_wp2
  go_end0
  exact ⟨rfl, e0, Turned.set (S := fun k => k = b) (Turned.refl _ _) (.inl rfl)⟩
set_option maxRecDepth 100000 in
set_option maxHeartbeats 1000000 in
theorem olay_w (b : Nat) (m : Mo) (w : World) (h : MoAt w b m) : Calls Tryz.prog 264 #[.pointer (some ⟨b, 0, none⟩)] w fun e w' => e = .returned (.tuple #[]) ∧ MoAt w' b { m with wr := true, cr := true, tr := true } ∧ Turned (fun k => k = b) w w' := by
  have c1 : w.cell? ⟨b, 1, none⟩ = some (.bool m.wr) := h.cell 1
  have s1 := h.soft 1
  have c3 : w.cell? ⟨b, 3, none⟩ = some (.bool m.cr) := h.cell 3
  have s3 := h.soft 3
  have c4 : w.cell? ⟨b, 4, none⟩ = some (.bool m.tr) := h.cell 4
  have s4 := h.soft 4
  have e0 := Go.heap_setCell_same _ b 1 _ _ (.bool true) h
  have e1 := Go.heap_setCell_same _ b 3 _ _ (.bool true) e0
  have e2 := Go.heap_setCell_same _ b 4 _ _ (.bool true) e1
  go_enter Tryz.func264, Tryz.ntmps264
  go_wp2
  go_end0
  exact ⟨rfl, e2, Turned.set (S := fun k => k = b) (Turned.set (S := fun k => k = b) (Turned.set (S := fun k => k = b) (Turned.refl _ _) (.inl rfl)) (.inl rfl)) (.inl rfl)⟩
set_option maxRecDepth 100000 in
set_option maxHeartbeats 1000000 in
theorem olay_a (b : Nat) (m : Mo) (w : World) (h : MoAt w b m) : Calls Tryz.prog 266 #[.pointer (some ⟨b, 0, none⟩)] w fun e w' => e = .returned (.tuple #[]) ∧ MoAt w' b { m with wr := true, ap := true, cr := true } ∧ Turned (fun k => k = b) w w' := by
  have c1 : w.cell? ⟨b, 1, none⟩ = some (.bool m.wr) := h.cell 1
  have s1 := h.soft 1
  have c2 : w.cell? ⟨b, 2, none⟩ = some (.bool m.ap) := h.cell 2
  have s2 := h.soft 2
  have c3 : w.cell? ⟨b, 3, none⟩ = some (.bool m.cr) := h.cell 3
  have s3 := h.soft 3
  have e0 := Go.heap_setCell_same _ b 1 _ _ (.bool true) h
  have e1 := Go.heap_setCell_same _ b 2 _ _ (.bool true) e0
  have e2 := Go.heap_setCell_same _ b 3 _ _ (.bool true) e1
  go_enter Tryz.func266, Tryz.ntmps266
  go_wp2
  go_end0
  exact ⟨rfl, e2, Turned.set (S := fun k => k = b) (Turned.set (S := fun k => k = b) (Turned.set (S := fun k => k = b) (Turned.refl _ _) (.inl rfl)) (.inl rfl)) (.inl rfl)⟩
set_option maxRecDepth 100000 in
set_option maxHeartbeats 1000000 in
theorem olay_p (b : Nat) (m : Mo) (w : World) (h : MoAt w b m) : Calls Tryz.prog 269 #[.pointer (some ⟨b, 0, none⟩)] w fun e w' => e = .returned (.tuple #[]) ∧ MoAt w' b { m with rd := true, wr := true } ∧ Turned (fun k => k = b) w w' := by
  have c0 : w.cell? ⟨b, 0, none⟩ = some (.bool m.rd) := h.cell 0
  have s0 := h.soft 0
  have c1 : w.cell? ⟨b, 1, none⟩ = some (.bool m.wr) := h.cell 1
  have s1 := h.soft 1
  have e0 := Go.heap_setCell_same _ b 0 _ _ (.bool true) h
  have e1 := Go.heap_setCell_same _ b 1 _ _ (.bool true) e0
  go_enter Tryz.func269, Tryz.ntmps269
  go_wp2
  go_end0
  exact ⟨rfl, e1, Turned.set (S := fun k => k = b) (Turned.set (S := fun k => k = b) (Turned.refl _ _) (.inl rfl)) (.inl rfl)⟩
set_option maxRecDepth 100000 in
set_option maxHeartbeats 1000000 in
theorem olay_b (b : Nat) (m : Mo) (w : World) (h : MoAt w b m) : Calls Tryz.prog 271 #[.pointer (some ⟨b, 0, none⟩)] w fun e w' => e = .returned (.tuple #[]) ∧ MoAt w' b { m with bi := true } ∧ Turned (fun k => k = b) w w' := by
  have c6 : w.cell? ⟨b, 6, none⟩ = some (.bool m.bi) := h.cell 6
  have s6 := h.soft 6
  have e0 := Go.heap_setCell_same _ b 6 _ _ (.bool true) h
  go_enter Tryz.func271, Tryz.ntmps271
  go_wp2
  go_end0
  exact ⟨rfl, e0, Turned.set (S := fun k => k = b) (Turned.refl _ _) (.inl rfl)⟩
set_option maxRecDepth 100000 in
set_option maxHeartbeats 1000000 in
theorem olay_x (b : Nat) (m : Mo) (w : World) (h : MoAt w b m) : Calls Tryz.prog 274 #[.pointer (some ⟨b, 0, none⟩)] w fun e w' => e = .returned (.tuple #[]) ∧ MoAt w' b { m with ex := true } ∧ Turned (fun k => k = b) w w' := by
  have c5 : w.cell? ⟨b, 5, none⟩ = some (.bool m.ex) := h.cell 5
  have s5 := h.soft 5
  have e0 := Go.heap_setCell_same _ b 5 _ _ (.bool true) h
  go_enter Tryz.func274, Tryz.ntmps274
  go_wp2
  go_end0
  exact ⟨rfl, e0, Turned.set (S := fun k => k = b) (Turned.refl _ _) (.inl rfl)⟩
set_option maxRecDepth 100000 in
set_option maxHeartbeats 1000000 in
theorem olay_e (b : Nat) (m : Mo) (w : World) (h : MoAt w b m) : Calls Tryz.prog 276 #[.pointer (some ⟨b, 0, none⟩)] w fun e w' => e = .returned (.tuple #[]) ∧ MoAt w' b { m with ma := true } ∧ Turned (fun k => k = b) w w' := by
  have c7 : w.cell? ⟨b, 7, none⟩ = some (.bool m.ma) := h.cell 7
  have s7 := h.soft 7
  have e0 := Go.heap_setCell_same _ b 7 _ _ (.bool true) h
  go_enter Tryz.func276, Tryz.ntmps276
  go_wp2
  go_end0
  exact ⟨rfl, e0, Turned.set (S := fun k => k = b) (Turned.refl _ _) (.inl rfl)⟩
def ltc : Array Value := #[.int .u8 114, .func (.func 246) #[] #[], .func (.func 262) #[] #[], .func (.func 263) #[] #[],
  .int .u8 119, .func (.func 246) #[] #[], .func (.func 264) #[] #[], .func (.func 265) #[] #[],
  .int .u8 97, .func (.func 246) #[] #[], .func (.func 266) #[] #[], .func (.func 267) #[] #[],
  .int .u8 43, .func (.func 268) #[] #[], .func (.func 269) #[] #[], .func (.func 270) #[] #[],
  .int .u8 98, .func (.func 268) #[] #[], .func (.func 271) #[] #[], .func (.func 272) #[] #[],
  .int .u8 120, .func (.func 273) #[] #[], .func (.func 274) #[] #[], .func (.func 275) #[] #[],
  .int .u8 101, .func (.func 268) #[] #[], .func (.func 276) #[] #[], .func (.func 277) #[] #[]]
def Lt (W : World) (b : Nat) : Prop := W.heap[b]? = some (.cells ltc 362)
theorem Lt.lt {W : World} {b : Nat} (h : Lt W b) : b < W.heap.size := (Array.getElem?_eq_some_iff.1 h).1
theorem Lt.cell {W : World} {b : Nat} (h : Lt W b) (j : Nat) : W.cell? ⟨b, j, none⟩ = ltc[j]? := cell_of_row W b j _ _ _ h
theorem Lt.keep {S : Nat → Prop} {W W' : World} {b : Nat} (h : Lt W b) (hT : Turned S W W') (hS : ¬ S b) : Lt W' b := (hT.block b h.lt hS).trans h
theorem Lt.below {W W' : World} {b : Nat} (h : Lt W b) (hB : Below W.heap.size W W') : Lt W' b := (hB.block b h.lt).trans h
set_option maxRecDepth 100000 in
set_option maxHeartbeats 1000000 in
theorem oletters_any (w : World) : Calls Tryz.prog 245 #[] w fun e w' => e = .returned (.slice (some ⟨w.heap.size, 0, none⟩) 7 7) ∧ Lt w' w.heap.size ∧ Below w.heap.size w w' := by
  go_enter Tryz.func245, Tryz.ntmps245
  go_wp2
  go_ret
  exact ⟨rfl, heap_alloc_new _ _, (Below.refl _ _).alloc (Nat.le_refl _) _⟩
set_option maxRecDepth 100000 in
set_option maxHeartbeats 1000000 in
theorem isBegun_any (m : Mo) (w : World) : Calls Tryz.prog 268 #[mv m] w fun e w' => e = .returned (.bool (!isNone m)) ∧ Below w.heap.size w w' := by
  obtain ⟨a, b, c, d, e, f, g, h⟩ := m
  have hn := hide fun w => isNone_any ⟨a, b, c, d, e, f, g, h⟩ w
  unfold mv at hn ⊢
  go_enter Tryz.func268, Tryz.ntmps268
  go_wp2_with fail
  refine (hn.out _).mono ?_
  rintro e w1 ⟨rfl, hB⟩
  have hB2 := ((Below.refl w.heap.size w).alloc (Nat.le_refl _) _).trans (hB.mono (Nat.le_of_lt (size_new _ _)))
  go_wp2
  go_ret
  exact ⟨rfl, hB2⟩
end Go.Proofs.YtdmkjbdlidadiaaGreat

/- Openmode: spell. -/
namespace Go.Proofs.YtdmkjbdlidadiaaGreat
open Go.RowKit

def sg : List UInt8 := [114, 119, 97, 43, 98, 120, 101]
def hasI (m : Mo) : List Bool := [m.rd && !m.cr, m.tr, m.ap, m.rd && m.wr, m.bi, m.ex, m.ma]
def splK (m : Mo) : Nat → List UInt8
  | 0 => []
  | k + 1 => splK m k ++ (if (hasI m).getD k false then [sg.getD k 0] else [])
theorem splK_len (m : Mo) (k : Nat) : (splK m k).length ≤ k := by
  induction k with
  | zero => exact Nat.le_refl _
  | succ k ih => simp only [splK, List.length_append]; split <;> simp <;> omega
def spl (m : Mo) : List UInt8 := splK m 7
def hasF : Nat → FuncId
  | 0 => 263
  | 1 => 265
  | 2 => 267
  | 3 => 270
  | 4 => 272
  | 5 => 275
  | _ => 277

def mayF : Nat → FuncId
  | 0 => 246
  | 1 => 246
  | 2 => 246
  | 3 => 268
  | 4 => 268
  | 5 => 273
  | _ => 268
def layF : Nat → FuncId
  | 0 => 262
  | 1 => 264
  | 2 => 266
  | 3 => 269
  | 4 => 271
  | 5 => 274
  | _ => 276
def mayI (m : Mo) : List Bool := [isNone m, isNone m, isNone m, !isNone m, !isNone m, m.tr, !isNone m]
def layI (m : Mo) : Nat → Mo
  | 0 => { m with rd := true }
  | 1 => { m with wr := true, cr := true, tr := true }
  | 2 => { m with wr := true, ap := true, cr := true }
  | 3 => { m with rd := true, wr := true }
  | 4 => { m with bi := true }
  | 5 => { m with ex := true }
  | _ => { m with ma := true }
theorem omay_any (m : Mo) (k : Nat) (hk : k < 7) (w : World) : Calls Tryz.prog (mayF k) #[mv m] w fun e w' => e = .returned (.bool ((mayI m).getD k false)) ∧ Below w.heap.size w w' := by
  match k, hk with
  | 0, _ => exact isNone_any m w
  | 1, _ => exact isNone_any m w
  | 2, _ => exact isNone_any m w
  | 3, _ => exact isBegun_any m w
  | 4, _ => exact isBegun_any m w
  | 5, _ => exact omay_x m w
  | 6, _ => exact isBegun_any m w
theorem olay_any (b : Nat) (m : Mo) (k : Nat) (hk : k < 7) (w : World) (h : MoAt w b m) : Calls Tryz.prog (layF k) #[.pointer (some ⟨b, 0, none⟩)] w fun e w' => e = .returned (.tuple #[]) ∧ MoAt w' b (layI m k) ∧ Turned (fun k => k = b) w w' := by
  match k, hk with
  | 0, _ => exact olay_r b m w h
  | 1, _ => exact olay_w b m w h
  | 2, _ => exact olay_a b m w h
  | 3, _ => exact olay_p b m w h
  | 4, _ => exact olay_b b m w h
  | 5, _ => exact olay_x b m w h
  | 6, _ => exact olay_e b m w h
theorem ohas_any (m : Mo) (k : Nat) (hk : k < 7) (w : World) : Calls Tryz.prog (hasF k) #[mv m] w fun e w' => e = .returned (.bool ((hasI m).getD k false)) ∧ Below w.heap.size w w' := by
  match k, hk with
  | 0, _ => exact ohas_r m w
  | 1, _ => exact ohas_w m w
  | 2, _ => exact ohas_a m w
  | 3, _ => exact ohas_p m w
  | 4, _ => exact ohas_b m w
  | 5, _ => exact ohas_x m w
  | 6, _ => exact ohas_e m w
set_option maxRecDepth 100000 in
theorem enter_has {k : Nat} (hk : k < 7) (a : Array Value) (w : World) : (callFunc (hasF k) a).run Tryz.prog w = .ok (.enter (hasF k) a) w := by
  match k, hk with
  | 0, _ => exact (by kernel_rfl : (callFunc 263 a).run Tryz.prog w = .ok (.enter 263 a) w)
  | 1, _ => exact (by kernel_rfl : (callFunc 265 a).run Tryz.prog w = .ok (.enter 265 a) w)
  | 2, _ => exact (by kernel_rfl : (callFunc 267 a).run Tryz.prog w = .ok (.enter 267 a) w)
  | 3, _ => exact (by kernel_rfl : (callFunc 270 a).run Tryz.prog w = .ok (.enter 270 a) w)
  | 4, _ => exact (by kernel_rfl : (callFunc 272 a).run Tryz.prog w = .ok (.enter 272 a) w)
  | 5, _ => exact (by kernel_rfl : (callFunc 275 a).run Tryz.prog w = .ok (.enter 275 a) w)
  | 6, _ => exact (by kernel_rfl : (callFunc 277 a).run Tryz.prog w = .ok (.enter 277 a) w)
set_option maxRecDepth 100000 in
theorem enter_may {k : Nat} (hk : k < 7) (a : Array Value) (w : World) : (callFunc (mayF k) a).run Tryz.prog w = .ok (.enter (mayF k) a) w := by
  match k, hk with
  | 0, _ => exact (by kernel_rfl : (callFunc 246 a).run Tryz.prog w = .ok (.enter 246 a) w)
  | 1, _ => exact (by kernel_rfl : (callFunc 246 a).run Tryz.prog w = .ok (.enter 246 a) w)
  | 2, _ => exact (by kernel_rfl : (callFunc 246 a).run Tryz.prog w = .ok (.enter 246 a) w)
  | 3, _ => exact (by kernel_rfl : (callFunc 268 a).run Tryz.prog w = .ok (.enter 268 a) w)
  | 4, _ => exact (by kernel_rfl : (callFunc 268 a).run Tryz.prog w = .ok (.enter 268 a) w)
  | 5, _ => exact (by kernel_rfl : (callFunc 273 a).run Tryz.prog w = .ok (.enter 273 a) w)
  | 6, _ => exact (by kernel_rfl : (callFunc 268 a).run Tryz.prog w = .ok (.enter 268 a) w)
set_option maxRecDepth 100000 in
theorem enter_lay {k : Nat} (hk : k < 7) (a : Array Value) (w : World) : (callFunc (layF k) a).run Tryz.prog w = .ok (.enter (layF k) a) w := by
  match k, hk with
  | 0, _ => exact (by kernel_rfl : (callFunc 262 a).run Tryz.prog w = .ok (.enter 262 a) w)
  | 1, _ => exact (by kernel_rfl : (callFunc 264 a).run Tryz.prog w = .ok (.enter 264 a) w)
  | 2, _ => exact (by kernel_rfl : (callFunc 266 a).run Tryz.prog w = .ok (.enter 266 a) w)
  | 3, _ => exact (by kernel_rfl : (callFunc 269 a).run Tryz.prog w = .ok (.enter 269 a) w)
  | 4, _ => exact (by kernel_rfl : (callFunc 271 a).run Tryz.prog w = .ok (.enter 271 a) w)
  | 5, _ => exact (by kernel_rfl : (callFunc 274 a).run Tryz.prog w = .ok (.enter 274 a) w)
  | 6, _ => exact (by kernel_rfl : (callFunc 276 a).run Tryz.prog w = .ok (.enter 276 a) w)
theorem oone_cell {w : World} {x : Value} {t : TypeId} {j : Nat} {u : Value} (h : [x][j]? = some u) : (w.alloc (Obj.cells #[x] t)).cell? (Addr.add ⟨w.heap.size, 0, none⟩ j) = some u := by
  match j with
  | 0 => rw [show Addr.add ⟨w.heap.size, 0, none⟩ 0 = ⟨w.heap.size, 0, none⟩ from rfl, cell_of_row _ _ 0 _ _ _ (heap_alloc_new _ _)]; exact h
  | j + 1 => simp at h
theorem store_func (w : World) (a : Addr) (f : FuncId) : (store a (.func (.func f) #[] #[]) .plain).run Tryz.prog w = stored Tryz.prog w a (.func (.func f) #[] #[]) .plain := run_store Tryz.prog w a _ _ rfl
theorem ltc_cells {W : World} {b : Nat} (h : Lt W b) {k : Nat} (hk : k < 7) :
    W.cell? ⟨b, k * 4, none⟩ = some (.int .u8 ((sg.getD k 0).toNat : Int)) ∧ W.cell? ⟨b, k * 4 + 1, none⟩ = some (.func (.func (mayF k)) #[] #[]) ∧ W.cell? ⟨b, k * 4 + 2, none⟩ = some (.func (.func (layF k)) #[] #[]) ∧ W.cell? ⟨b, k * 4 + 3, none⟩ = some (.func (.func (hasF k)) #[] #[]) := by
  match k, hk with
  | 0, _ => exact ⟨h.cell 0, h.cell 1, h.cell 2, h.cell 3⟩
  | 1, _ => exact ⟨h.cell 4, h.cell 5, h.cell 6, h.cell 7⟩
  | 2, _ => exact ⟨h.cell 8, h.cell 9, h.cell 10, h.cell 11⟩
  | 3, _ => exact ⟨h.cell 12, h.cell 13, h.cell 14, h.cell 15⟩
  | 4, _ => exact ⟨h.cell 16, h.cell 17, h.cell 18, h.cell 19⟩
  | 5, _ => exact ⟨h.cell 20, h.cell 21, h.cell 22, h.cell 23⟩
  | 6, _ => exact ⟨h.cell 24, h.cell 25, h.cell 26, h.cell 27⟩
set_option maxRecDepth 100000 in
set_option maxHeartbeats 1000000 in
theorem ospell_any (m : Mo) (w : World) : Calls Tryz.prog 231 #[mv m] w fun e w' => e = .returned (.string ⟨(spl m).toArray⟩) ∧ Below w.heap.size w w' := by
  obtain ⟨i0, hi, hz0, hz1, hz2⟩ := info_parts Tryz.infoB
  have hl := hide fun w => oletters_any w
  have hh := hide (ohas_any m)
  generalize hR : spl m = R
  have HR := hide hR
  clear hR
  have hmv : mv m = .agg (mc m) := rfl
  rw [hmv] at hh ⊢
  go_enter Tryz.func231, Tryz.ntmps231
  go_wp2_with fail
  refine (hl.out _).mono ?_
  rintro e w1 ⟨rfl, hL, hB1⟩
  have hM : MoAt w1 w.heap.size m := (show MoAt (w.alloc (Obj.cells (mc m) 186)) w.heap.size m from heap_alloc_new _ _).below hB1
  have hB0 := ((Below.refl w.heap.size w).alloc (Nat.le_refl _) (Obj.cells (mc m) 186)).trans (hB1.mono (Nat.le_of_lt (size_new _ _)))
  rw [show (w.alloc (Obj.cells (mc m) 186)).heap.size = w.heap.size + 1 by simp] at hL
  have hs1 : w.heap.size + 2 ≤ w1.heap.size := hL.lt
  clear hB1 hl
  go_wp2
  go_loopw [3, 8] (fun s i wr => ∃ k : Nat, k ≤ 7 ∧ i = .int .i64 k ∧ wr.ownsRow (w.heap.size + 2) 5 1 s (splK m k).length ((splK m k).map bv) ∧ Lt wr (w.heap.size + 1) ∧ MoAt wr w.heap.size m ∧ Below w.heap.size w wr) (fun _ i _ => 7 - (intOf i).toNat)
  case atStart => exact ⟨0, by omega, rfl, ⟨rfl, .inl ⟨rfl, rfl⟩⟩, hL, hM, hB0⟩
  case round =>
    clear hL hM hB0 hs1
    obtain ⟨k, hk, rfl, hown, hL, hM, hB⟩ := hrel
    obtain ⟨a0, n0, rfl⟩ := owns_slice hown
    by_cases hlt : k < 7
    · have hk1 : (0 : Int) ≤ (k : Int) := by omega
      have hk2 : (k : Int) < 7 := by omega
      obtain ⟨e0, e1, e2, e3⟩ := ltc_cells hL hlt
      have hc := hh.out k hlt
      have HL := hide hL
      have HM := hide hM
      have HO := hide hown
      have HB := hide hB
      clear hL hM hown hB hh
      have b0 : (w.heap.size + 1 : Nat) < wr.heap.size := HL.out.lt
      have hm0 : ∀ o, (wr.alloc o).cell? ⟨w.heap.size, 0, none⟩ = some (.bool m.rd) := fun o => (HM.out.below ((Below.refl _ _).alloc (Nat.le_refl _) o)).cell 0
      have hm1 : ∀ o, (wr.alloc o).cell? ⟨w.heap.size, 1, none⟩ = some (.bool m.wr) := fun o => (HM.out.below ((Below.refl _ _).alloc (Nat.le_refl _) o)).cell 1
      have hm2 : ∀ o, (wr.alloc o).cell? ⟨w.heap.size, 2, none⟩ = some (.bool m.ap) := fun o => (HM.out.below ((Below.refl _ _).alloc (Nat.le_refl _) o)).cell 2
      have hm3 : ∀ o, (wr.alloc o).cell? ⟨w.heap.size, 3, none⟩ = some (.bool m.cr) := fun o => (HM.out.below ((Below.refl _ _).alloc (Nat.le_refl _) o)).cell 3
      have hm4 : ∀ o, (wr.alloc o).cell? ⟨w.heap.size, 4, none⟩ = some (.bool m.tr) := fun o => (HM.out.below ((Below.refl _ _).alloc (Nat.le_refl _) o)).cell 4
      have hm5 : ∀ o, (wr.alloc o).cell? ⟨w.heap.size, 5, none⟩ = some (.bool m.ex) := fun o => (HM.out.below ((Below.refl _ _).alloc (Nat.le_refl _) o)).cell 5
      have hm6 : ∀ o, (wr.alloc o).cell? ⟨w.heap.size, 6, none⟩ = some (.bool m.bi) := fun o => (HM.out.below ((Below.refl _ _).alloc (Nat.le_refl _) o)).cell 6
      have hm7 : ∀ o, (wr.alloc o).cell? ⟨w.heap.size, 7, none⟩ = some (.bool m.ma) := fun o => (HM.out.below ((Below.refl _ _).alloc (Nat.le_refl _) o)).cell 7
      have hsf := store_func
      have hen := enter_has hlt
      go_wp2_with fail
      refine (hc _).mono ?_
      rintro e w2 ⟨rfl, hB2⟩
      have hBa := ((Below.refl wr.heap.size wr).alloc (Nat.le_refl _) _).trans (hB2.mono (Nat.le_of_lt (size_new _ _)))
      have q0 := (hB2.cell (p := ⟨wr.heap.size, 0, none⟩) (size_new _ _)).trans (cell_of_row _ _ 0 _ _ _ (heap_alloc_new _ _))
      have hownA := owns_below HO.out hBa
      clear hm0 hm1 hm2 hm3 hm4 hm5 hm6 hm7 e0 e1 e2 e3 hc hsf
      cases hq : (hasI m).getD k false with
      | false =>
        have HQ := hide hq
        go_wp2
        go_roundw
        case rel => exact ⟨k + 1, by omega, by go_num, by simp only [splK]; rw [HQ.out]; simpa using hownA, HL.out.below hBa, HM.out.below hBa, HB.out.trans (hBa.mono HB.out.size)⟩
        case measure => simp [intOf]; omega
      | true =>
        have HQ := hide hq
        have hln := splK_len m k
        have q1 : w2.cell? ⟨wr.heap.size, 0, none⟩ = some (.int .u8 (sg[k]?.getD 0).toNat) := q0
        have hsz : w.heap.size + 2 ≤ w2.heap.size := Nat.le_trans b0 hBa.size
        clear hen q0
        have HBa := hide hBa
        have HOA := hide hownA
        clear hBa hB2 hownA
        go_wp2_with (at_builtin; refine wpList_append_own _ rfl _ _ 40 rfl (w.heap.size + 2) 5 i0 (.int .u8 0) 1 1 Tryz.underlying40 hi hz0 hz1 hz2 rfl (by decide) _ _ _ rfl (HOA.out.alloc _) ⟨w2.heap.size, 0, none⟩ 1 1 [.int .u8 (sg[k]?.getD 0).toNat] rfl rfl (fun j u hj => oone_cell hj) (by simp [Value.oneCell']) (by unfold maxLen; omega) (by omega) (by simp; omega) ?_; intro v' w4 hown4 hgrow4 hnil4)
        have hBg : Below (w.heap.size + 2) w2 w4 := ((Below.refl _ _).alloc hsz _).grown hgrow4 (by simp; omega) (fun k e => (HOA.out.lt k e).1)
        have hM4 : MoAt w4 w.heap.size m := (hBg.block _ (by omega)).trans (HM.out.below HBa.out)
        have hL4 : Lt w4 (w.heap.size + 1) := (hBg.block _ (by omega)).trans (HL.out.below HBa.out)
        go_roundw
        case rel => exact ⟨k + 1, by omega, by go_num, by simp only [splK]; rw [HQ.out]; simpa [bv] using hown4, hL4, hM4, (HB.out.trans (HBa.out.mono HB.out.size)).trans (hBg.mono (by omega))⟩
        case measure => simp [intOf]; omega
    · obtain rfl : k = 7 := by omega
      have hst := owns_string hown
      have HL := hide hL
      have HM := hide hM
      have HO := hide hown
      have HB := hide hB
      clear hL hM hown hB hh
      go_wp2
      go_ret
      exact ⟨by rw [← HR.out]; rfl, HB.out⟩
end Go.Proofs.YtdmkjbdlidadiaaGreat

/- What the proof stands on, part 17: the contracts of the program's calls that it reaches. -/
import Derived.Test.YtdmkjbdlidadiaaGreatKP16
import Derived.Deep.RegionLaw
import Derived.Deep.Cut
/- Streams: the reference's copy of a state. -/
namespace Go.Proofs.YtdmkjbdlidadiaaGreat
open Go.RowKit

set_option maxHeartbeats 1000000 in
theorem rcopy11_any (v : Value) (l : List UInt8) (w : World) (h : Bys w v l) (hs : l.length ≤ 140737488351232) :
    Calls Tryz.prog 191 #[v] w fun e w' => ∃ v', e = .returned v' ∧ w'.ownsRow w.heap.size 5 1 v' l.length (l.map bv) ∧ Below w.heap.size w w' := by
  obtain ⟨i0, hi, hz0, hz1, hz2⟩ := info_parts Tryz.infoB
  rcases h with ⟨rfl, rfl⟩ | ⟨a, cap, rfl, rfl⟩ | ⟨b, off, cap, rfl, h0, hc⟩
  · go_enter Tryz.func191, Tryz.ntmps191
    go_wp2_with (at_builtin; refine wpList_append_own_none rfl _ _ 40 rfl w.heap.size 5 i0 1 Tryz.underlying40 hi _ _ _ rfl (World.ownsRow_nil _ _ _ _) rfl ?_)
    go_ret
    exact ⟨_, rfl, World.ownsRow_nil _ _ _ _, Below.refl _ _⟩
  · go_enter Tryz.func191, Tryz.ntmps191
    go_wp2_with (at_builtin; refine wpList_append_own _ rfl _ _ 40 rfl w.heap.size 5 i0 (.int .u8 0) 1 1 Tryz.underlying40 hi hz0 hz1 hz2 rfl (by decide) _ _ _ rfl (World.ownsRow_nil _ _ _ _) a 0 cap [] rfl rfl (by simp) (by simp) (by decide) (by decide) (Nat.le_refl _) ?_; intro v' w1 hown hgrow hnil)
    go_ret
    exact ⟨v', rfl, hown, (Below.refl _ _).grown hgrow (Nat.le_refl _) (fun j e => by cases e)⟩
  · go_enter Tryz.func191, Tryz.ntmps191
    go_wp2_with (at_builtin; refine wpList_append_own _ rfl _ _ 40 rfl w.heap.size 5 i0 (.int .u8 0) 1 1 Tryz.underlying40 hi hz0 hz1 hz2 rfl (by decide) _ _ _ rfl (World.ownsRow_nil _ _ _ _) ⟨b, off, none⟩ l.length cap (l.map bv) rfl (by simp) (bys_news hc) (bys_one l) (by unfold maxLen; omega) (by omega) (Nat.le_refl _) ?_; intro v' w1 hown hgrow hnil)
    go_ret
    exact ⟨v', rfl, by simpa using hown, (Below.refl _ _).grown hgrow (Nat.le_refl _) (fun j e => by cases e)⟩

def RSt (W : World) (g : Nat) (x : SS) (o i b : Value) : Prop := W.heap[g]? = some (.cells #[.bool x.rd, .bool x.wt, .int .i64 x.mode, .int .i64 x.size, o, i, b, .int .i64 x.dir, .bool x.fin, .bool x.bad, .bool x.closed] 52)
theorem RSt.cs {W : World} {g : Nat} {x : SS} {o i b : Value} (h : RSt W g x o i b) : W.cell? ⟨g, 0, none⟩ = some (.bool x.rd) ∧ W.cell? ⟨g, 1, none⟩ = some (.bool x.wt) ∧ W.cell? ⟨g, 2, none⟩ = some (.int .i64 x.mode) ∧ W.cell? ⟨g, 3, none⟩ = some (.int .i64 x.size) ∧ W.cell? ⟨g, 4, none⟩ = some (o) ∧ W.cell? ⟨g, 5, none⟩ = some (i) ∧ W.cell? ⟨g, 6, none⟩ = some (b) ∧ W.cell? ⟨g, 7, none⟩ = some (.int .i64 x.dir) ∧ W.cell? ⟨g, 8, none⟩ = some (.bool x.fin) ∧ W.cell? ⟨g, 9, none⟩ = some (.bool x.bad) ∧ W.cell? ⟨g, 10, none⟩ = some (.bool x.closed) :=
  ⟨cell_of_row W g 0 _ _ _ h, cell_of_row W g 1 _ _ _ h, cell_of_row W g 2 _ _ _ h, cell_of_row W g 3 _ _ _ h, cell_of_row W g 4 _ _ _ h, cell_of_row W g 5 _ _ _ h, cell_of_row W g 6 _ _ _ h, cell_of_row W g 7 _ _ _ h, cell_of_row W g 8 _ _ _ h, cell_of_row W g 9 _ _ _ h, cell_of_row W g 10 _ _ _ h⟩
theorem RSt.new (w : World) (x : SS) (o i b : Value) : RSt (w.alloc (Obj.cells #[.bool x.rd, .bool x.wt, .int .i64 x.mode, .int .i64 x.size, o, i, b, .int .i64 x.dir, .bool x.fin, .bool x.bad, .bool x.closed] 52)) w.heap.size x o i b := heap_alloc_new w _
theorem RSt.below {W W' : World} {g : Nat} {x : SS} {o i b : Value} (h : RSt W g x o i b) (hB : Below W.heap.size W W') : RSt W' g x o i b := (hB.block g (Array.getElem?_eq_some_iff.1 h).1).trans h
theorem rst_fill (w : World) (g : Nat) (x : SS) (o i b : Value) (h : w.heap[g]? = some (Obj.cells #[.bool false, .bool false, .int .i64 0, .int .i64 0, .slice none 0 0, .slice none 0 0, .slice none 0 0, .int .i64 0, .bool false, .bool false, .bool false] 52)) : RSt (((((((((((w.setCell ⟨g, 0, none⟩ (.bool x.rd)).setCell ⟨g, 1, none⟩ (.bool x.wt)).setCell ⟨g, 2, none⟩ (.int .i64 x.mode)).setCell ⟨g, 3, none⟩ (.int .i64 x.size)).setCell ⟨g, 4, none⟩ (o)).setCell ⟨g, 5, none⟩ (i)).setCell ⟨g, 6, none⟩ (b)).setCell ⟨g, 7, none⟩ (.int .i64 x.dir)).setCell ⟨g, 8, none⟩ (.bool x.fin)).setCell ⟨g, 9, none⟩ (.bool x.bad)).setCell ⟨g, 10, none⟩ (.bool x.closed)) g x o i b ∧ Turned (fun k => k = g) w (((((((((((w.setCell ⟨g, 0, none⟩ (.bool x.rd)).setCell ⟨g, 1, none⟩ (.bool x.wt)).setCell ⟨g, 2, none⟩ (.int .i64 x.mode)).setCell ⟨g, 3, none⟩ (.int .i64 x.size)).setCell ⟨g, 4, none⟩ (o)).setCell ⟨g, 5, none⟩ (i)).setCell ⟨g, 6, none⟩ (b)).setCell ⟨g, 7, none⟩ (.int .i64 x.dir)).setCell ⟨g, 8, none⟩ (.bool x.fin)).setCell ⟨g, 9, none⟩ (.bool x.bad)).setCell ⟨g, 10, none⟩ (.bool x.closed)) := by
  have e0 := Go.heap_setCell_same _ g 0 _ _ (.bool x.rd) h
  simp only [List.setIfInBounds_toArray, List.set_cons_zero] at e0
  have e1 := Go.heap_setCell_same _ g 1 _ _ (.bool x.wt) e0
  simp only [List.setIfInBounds_toArray, List.set_cons_zero, List.set_cons_succ] at e1
  have e2 := Go.heap_setCell_same _ g 2 _ _ (.int .i64 x.mode) e1
  simp only [List.setIfInBounds_toArray, List.set_cons_zero, List.set_cons_succ] at e2
  have e3 := Go.heap_setCell_same _ g 3 _ _ (.int .i64 x.size) e2
  simp only [List.setIfInBounds_toArray, List.set_cons_zero, List.set_cons_succ] at e3
  have e4 := Go.heap_setCell_same _ g 4 _ _ (o) e3
  simp only [List.setIfInBounds_toArray, List.set_cons_zero, List.set_cons_succ] at e4
  have e5 := Go.heap_setCell_same _ g 5 _ _ (i) e4
  simp only [List.setIfInBounds_toArray, List.set_cons_zero, List.set_cons_succ] at e5
  have e6 := Go.heap_setCell_same _ g 6 _ _ (b) e5
  simp only [List.setIfInBounds_toArray, List.set_cons_zero, List.set_cons_succ] at e6
  have e7 := Go.heap_setCell_same _ g 7 _ _ (.int .i64 x.dir) e6
  simp only [List.setIfInBounds_toArray, List.set_cons_zero, List.set_cons_succ] at e7
  have e8 := Go.heap_setCell_same _ g 8 _ _ (.bool x.fin) e7
  simp only [List.setIfInBounds_toArray, List.set_cons_zero, List.set_cons_succ] at e8
  have e9 := Go.heap_setCell_same _ g 9 _ _ (.bool x.bad) e8
  simp only [List.setIfInBounds_toArray, List.set_cons_zero, List.set_cons_succ] at e9
  have e10 := Go.heap_setCell_same _ g 10 _ _ (.bool x.closed) e9
  simp only [List.setIfInBounds_toArray, List.set_cons_zero, List.set_cons_succ] at e10
  exact ⟨e10, ((((((((((((Turned.refl (fun k => k = g) w).set (.inl rfl)).set (.inl rfl)).set (.inl rfl)).set (.inl rfl)).set (.inl rfl)).set (.inl rfl)).set (.inl rfl)).set (.inl rfl)).set (.inl rfl)).set (.inl rfl)).set (.inl rfl))⟩
def Ap3 (o i b : Value) : Prop := (∀ k, o.ownBlock = some k → i.ownBlock ≠ some k ∧ b.ownBlock ≠ some k) ∧ (∀ k, i.ownBlock = some k → b.ownBlock ≠ some k)
set_option maxRecDepth 100000 in
set_option maxHeartbeats 40000000 in
theorem rown_any (x : SS) (o i b : Value) (P : Nat → Prop) (w : World) (h : SIn w P x o i b) (ho : x.out.length ≤ 140737488351232) (hi : x.inn.length ≤ 140737488351232) (hb : x.back.length ≤ 140737488351232) :
    Calls Tryz.prog 104 #[.agg #[.bool x.rd, .bool x.wt, .int .i64 x.mode, .int .i64 x.size, o, i, b, .int .i64 x.dir, .bool x.fin, .bool x.bad, .bool x.closed]] w fun e w' => ∃ o' i' b', e = .returned (.agg #[.bool x.rd, .bool x.wt, .int .i64 x.mode, .int .i64 x.size, o', i', b', .int .i64 x.dir, .bool x.fin, .bool x.bad, .bool x.closed]) ∧ w'.ownsRow w.heap.size 5 1 o' x.out.length (x.out.map bv) ∧ w'.ownsRow w.heap.size 5 1 i' x.inn.length (x.inn.map bv) ∧ w'.ownsRow w.heap.size 5 1 b' x.back.length (x.back.map bv) ∧ Below w.heap.size w w' ∧ Ap3 o' i' b' := by
  have HC1 := hide (fun W (hB : Below w.heap.size w W) => rcopy11_any o x.out W ((h.so.turned (Turned.of_below (S := fun _ => False) hB) (fun _ _ _ => id)).choose_spec.choose_spec.2.1) ho)
  have HC2 := hide (fun W (hB : Below w.heap.size w W) => rcopy11_any i x.inn W ((h.si.turned (Turned.of_below (S := fun _ => False) hB) (fun _ _ _ => id)).choose_spec.choose_spec.2.1) hi)
  have HC3 := hide (fun W (hB : Below w.heap.size w W) => rcopy11_any b x.back W ((h.sb.turned (Turned.of_below (S := fun _ => False) hB) (fun _ _ _ => id)).choose_spec.choose_spec.2.1) hb)
  obtain ⟨oa, oc, rfl, -⟩ := h.so
  obtain ⟨ia, ic, rfl, -⟩ := h.si
  obtain ⟨ba, bc, rfl, -⟩ := h.sb
  clear h
  go_enter Tryz.func104, Tryz.ntmps104
  go_wp2_with fail
  have HB0 := hide ((recv_below w (Obj.cells #[.bool x.rd, .bool x.wt, .int .i64 x.mode, .int .i64 x.size, .slice oa x.out.length oc, .slice ia x.inn.length ic, .slice ba x.back.length bc, .int .i64 x.dir, .bool x.fin, .bool x.bad, .bool x.closed] 52)).trans ((recv_below (w.alloc (Obj.cells #[.bool x.rd, .bool x.wt, .int .i64 x.mode, .int .i64 x.size, .slice oa x.out.length oc, .slice ia x.inn.length ic, .slice ba x.back.length bc, .int .i64 x.dir, .bool x.fin, .bool x.bad, .bool x.closed] 52)) (Obj.cells #[.bool false, .bool false, .int .i64 0, .int .i64 0, .slice none 0 0, .slice none 0 0, .slice none 0 0, .int .i64 0, .bool false, .bool false, .bool false] 52)).mono (recv_below w (Obj.cells #[.bool x.rd, .bool x.wt, .int .i64 x.mode, .int .i64 x.size, .slice oa x.out.length oc, .slice ia x.inn.length ic, .slice ba x.back.length bc, .int .i64 x.dir, .bool x.fin, .bool x.bad, .bool x.closed] 52)).size))
  have HS0 := hide ((RSt.new w x (.slice oa x.out.length oc) (.slice ia x.inn.length ic) (.slice ba x.back.length bc)).below (recv_below _ (Obj.cells #[.bool false, .bool false, .int .i64 0, .int .i64 0, .slice none 0 0, .slice none 0 0, .slice none 0 0, .int .i64 0, .bool false, .bool false, .bool false] 52)))
  have HZ0 : Hid (((w.alloc (Obj.cells #[.bool x.rd, .bool x.wt, .int .i64 x.mode, .int .i64 x.size, .slice oa x.out.length oc, .slice ia x.inn.length ic, .slice ba x.back.length bc, .int .i64 x.dir, .bool x.fin, .bool x.bad, .bool x.closed] 52)).alloc (Obj.cells #[.bool false, .bool false, .int .i64 0, .int .i64 0, .slice none 0 0, .slice none 0 0, .slice none 0 0, .int .i64 0, .bool false, .bool false, .bool false] 52)).heap[w.heap.size + 1]? = some (Obj.cells #[.bool false, .bool false, .int .i64 0, .int .i64 0, .slice none 0 0, .slice none 0 0, .slice none 0 0, .int .i64 0, .bool false, .bool false, .bool false] 52)) := hide (by have := heap_alloc_new (w.alloc (Obj.cells #[.bool x.rd, .bool x.wt, .int .i64 x.mode, .int .i64 x.size, .slice oa x.out.length oc, .slice ia x.inn.length ic, .slice ba x.back.length bc, .int .i64 x.dir, .bool x.fin, .bool x.bad, .bool x.closed] 52)) (Obj.cells #[.bool false, .bool false, .int .i64 0, .int .i64 0, .slice none 0 0, .slice none 0 0, .slice none 0 0, .int .i64 0, .bool false, .bool false, .bool false] 52); rw [show (w.alloc (Obj.cells #[.bool x.rd, .bool x.wt, .int .i64 x.mode, .int .i64 x.size, .slice oa x.out.length oc, .slice ia x.inn.length ic, .slice ba x.back.length bc, .int .i64 x.dir, .bool x.fin, .bool x.bad, .bool x.closed] 52)).heap.size = w.heap.size + 1 from Array.size_push ..] at this; exact this)
  generalize (w.alloc (Obj.cells #[.bool x.rd, .bool x.wt, .int .i64 x.mode, .int .i64 x.size, .slice oa x.out.length oc, .slice ia x.inn.length ic, .slice ba x.back.length bc, .int .i64 x.dir, .bool x.fin, .bool x.bad, .bool x.closed] 52)).alloc (Obj.cells #[.bool false, .bool false, .int .i64 0, .int .i64 0, .slice none 0 0, .slice none 0 0, .slice none 0 0, .int .i64 0, .bool false, .bool false, .bool false] 52) = w0 at *
  have hz0 : w.heap.size + 1 < w0.heap.size := (Array.getElem?_eq_some_iff.1 HZ0.out).1
  obtain ⟨-, -, -, -, c4, c5, c6, -⟩ := HS0.out.cs
  go_region_law (first
    | (go_simp; go_at_call 191; have := HB2; refine (HC3.out _ HB2.out).mono ?_; rintro _ w3 ⟨u3, rfl, hO3, hB3⟩; obtain ⟨a3, k3, rfl⟩ := owns_slice hO3; have HS3 := hide (HS2.out.below hB3); have HZ3 := hide ((hB3.block (w.heap.size + 1) (Array.getElem?_eq_some_iff.1 HZ2.out).1).trans HZ2.out); have HB3 := hide (HB2.out.trans (hB3.mono HB2.out.size)); have HO3 := hide (And.intro (And.intro (owns_below HO2.out.1 hB3) (owns_below HO2.out.2 hB3)) hO3); clear hO3 hB3; obtain ⟨f0, f1, f2, f3, f4, f5, f6, f7, f8, f9, f10⟩ := HS3.out.cs; have g4 := frozen_of_row w3 w.heap.size 4 _ _ HS3.out; have g5 := frozen_of_row w3 w.heap.size 5 _ _ HS3.out; have g6 := frozen_of_row w3 w.heap.size 6 _ _ HS3.out)
    | (go_simp; go_at_call 191; have := HB1; refine (HC2.out _ HB1.out).mono ?_; rintro _ w2 ⟨u2, rfl, hO2, hB2⟩; obtain ⟨a2, k2, rfl⟩ := owns_slice hO2; have HS2 := hide (HS1.out.below hB2); have HZ2 := hide ((hB2.block (w.heap.size + 1) (Array.getElem?_eq_some_iff.1 HZ1.out).1).trans HZ1.out); have HB2 := hide (HB1.out.trans (hB2.mono HB1.out.size)); have hs2 := hB2.size; have HO2 := hide (And.intro (owns_below HO1.out hB2) hO2); clear hO2 hB2; obtain ⟨-, -, -, -, e4, e5, e6, -⟩ := HS2.out.cs)
    | (go_simp; go_at_call 191; refine (HC1.out _ (by exact HB0.out.drew)).mono ?_; rintro _ w1 ⟨u1, rfl, hO1, hB1⟩; obtain ⟨a1, k1, rfl⟩ := owns_slice hO1; have HS1 := hide (HS0.out.below ((Below.refl _ _).drew.trans hB1)); have HZ1 := hide ((hB1.block (w.heap.size + 1) (Array.getElem?_eq_some_iff.1 HZ0.out).1).trans HZ0.out); have HB1 := hide (HB0.out.trans (((Below.refl _ _).drew.trans hB1).mono HB0.out.size)); have hs1 : w0.heap.size ≤ w1.heap.size := hB1.size; have HO1 := hide hO1; clear hO1 hB1; obtain ⟨-, -, -, -, d4, d5, d6, -⟩ := HS1.out.cs)
    | fail)
  all_goals
    have e4 := Go.heap_setCell_same w3 w.heap.size 4 _ _ (.slice a1 x.out.length k1) HS3.out
    have e5 := Go.heap_setCell_same _ w.heap.size 5 _ _ (.slice a2 x.inn.length k2) e4
    have e6 := Go.heap_setCell_same _ w.heap.size 6 _ _ (.slice a3 x.back.length k3) e5
    have HS4 : Hid (RSt (((w3.setCell ⟨w.heap.size, 4, none⟩ (.slice a1 x.out.length k1)).setCell ⟨w.heap.size, 5, none⟩ (.slice a2 x.inn.length k2)).setCell ⟨w.heap.size, 6, none⟩ (.slice a3 x.back.length k3)) w.heap.size x (.slice a1 x.out.length k1) (.slice a2 x.inn.length k2) (.slice a3 x.back.length k3)) := hide e6
    have HT4 : Hid (Turned (fun k => k = w.heap.size) w3 (((w3.setCell ⟨w.heap.size, 4, none⟩ (.slice a1 x.out.length k1)).setCell ⟨w.heap.size, 5, none⟩ (.slice a2 x.inn.length k2)).setCell ⟨w.heap.size, 6, none⟩ (.slice a3 x.back.length k3))) := hide ((((Turned.refl (fun k => k = w.heap.size) w3).set (.inl rfl)).set (.inl rfl)).set (.inl rfl))
    clear e4 e5 e6 f0 f1 f2 f3 f4 f5 f6 f7 f8 f9 f10 g4 g5 g6 c4 c5 c6 d4 d5 d6 HS0 HS1 HS2 HS3 HZ0 HZ1 HZ2 HC1 HC2 HC3
    generalize ((w3.setCell ⟨w.heap.size, 4, none⟩ (.slice a1 x.out.length k1)).setCell ⟨w.heap.size, 5, none⟩ (.slice a2 x.inn.length k2)).setCell ⟨w.heap.size, 6, none⟩ (.slice a3 x.back.length k3) = w4 at *
    have HZ4 := hide ((HT4.out.block (w.heap.size + 1) (Array.getElem?_eq_some_iff.1 HZ3.out).1 (by omega)).trans HZ3.out)
    obtain ⟨f0, f1, f2, f3, f4, f5, f6, f7, f8, f9, f10⟩ := HS4.out.cs
    have z0 := cell_of_row w4 (w.heap.size + 1) 0 _ _ _ HZ4.out
    have z1 := cell_of_row w4 (w.heap.size + 1) 1 _ _ _ HZ4.out
    have z2 := cell_of_row w4 (w.heap.size + 1) 2 _ _ _ HZ4.out
    have z3 := cell_of_row w4 (w.heap.size + 1) 3 _ _ _ HZ4.out
    have z4 := cell_of_row w4 (w.heap.size + 1) 4 _ _ _ HZ4.out
    have z5 := cell_of_row w4 (w.heap.size + 1) 5 _ _ _ HZ4.out
    have z6 := cell_of_row w4 (w.heap.size + 1) 6 _ _ _ HZ4.out
    have z7 := cell_of_row w4 (w.heap.size + 1) 7 _ _ _ HZ4.out
    have z8 := cell_of_row w4 (w.heap.size + 1) 8 _ _ _ HZ4.out
    have z9 := cell_of_row w4 (w.heap.size + 1) 9 _ _ _ HZ4.out
    have z10 := cell_of_row w4 (w.heap.size + 1) 10 _ _ _ HZ4.out
    have y0 := frozen_of_row w4 (w.heap.size + 1) 0 _ _ HZ4.out
    have y1 := frozen_of_row w4 (w.heap.size + 1) 1 _ _ HZ4.out
    have y2 := frozen_of_row w4 (w.heap.size + 1) 2 _ _ HZ4.out
    have y3 := frozen_of_row w4 (w.heap.size + 1) 3 _ _ HZ4.out
    have y4 := frozen_of_row w4 (w.heap.size + 1) 4 _ _ HZ4.out
    have y5 := frozen_of_row w4 (w.heap.size + 1) 5 _ _ HZ4.out
    have y6 := frozen_of_row w4 (w.heap.size + 1) 6 _ _ HZ4.out
    have y7 := frozen_of_row w4 (w.heap.size + 1) 7 _ _ HZ4.out
    have y8 := frozen_of_row w4 (w.heap.size + 1) 8 _ _ HZ4.out
    have y9 := frozen_of_row w4 (w.heap.size + 1) 9 _ _ HZ4.out
    have y10 := frozen_of_row w4 (w.heap.size + 1) 10 _ _ HZ4.out
    simp at z0 z1 z2 z3 z4 z5 z6 z7 z8 z9 z10
    go_wp2
    obtain ⟨e1, e2⟩ := rst_fill w4 (w.heap.size + 1) x (.slice a1 x.out.length k1) (.slice a2 x.inn.length k2) (.slice a3 x.back.length k3) HZ4.out
    have HTw := hide ((HT4.out.mono fun k e => (.inl e : k = w.heap.size ∨ k = w.heap.size + 1)).trans (e2.mono fun k e => (.inr e : k = w.heap.size ∨ k = w.heap.size + 1)) (fun _ _ e => e))
    refine bodyPost_ret (results_cell_row rfl _ _ (w.heap.size + 1) _ _ _ _ rfl e1 Tryz.underlying52 rfl (by kernel_rfl)) rfl ?_
    have far : ∀ k, w.heap.size + 1 < k → ¬ (k = w.heap.size ∨ k = w.heap.size + 1) := fun k h e => by omega
    have hr1 := HO3.out.1.1
    have hr2 := HO3.out.1.2
    have hr3 := HO3.out.2
    have hs0 : w.heap.size + 1 < w0.drew.heap.size := hz0
    exact ⟨_, _, _, rfl, owns_mono (owns_turned hr1 HTw.out (fun k e => far k (by have := (hr1.lt k e).1; omega))) (by omega), owns_mono (owns_turned hr2 HTw.out (fun k e => far k (by have := (hr2.lt k e).1; omega))) (by omega), owns_mono (owns_turned hr3 HTw.out (fun k e => far k (by have := (hr3.lt k e).1; omega))) (by omega), (HTw.out.below (B := w.heap.size) (fun k e => by omega) HB3.out.size) |> HB3.out.trans, fun k e => ⟨fun e' => by have := (HO1.out.lt k e).2; have := (HO2.out.2.lt k e').1; omega, fun e' => by have := (HO1.out.lt k e).2; have := (HO3.out.2.lt k e').1; omega⟩, fun k e e' => by have := (HO2.out.2.lt k e).2; have := (HO3.out.2.lt k e').1; omega⟩
end Go.Proofs.YtdmkjbdlidadiaaGreat

/- Streams: three lists of a state, apart; a state that a call gave, in a variable of its own. -/
namespace Go.Proofs.YtdmkjbdlidadiaaGreat
open Go.RowKit

def Own3 (B : Nat) (W : World) (x : SS) (o i b : Value) : Prop := W.ownsRow B 5 1 o x.out.length (x.out.map bv) ∧ W.ownsRow B 5 1 i x.inn.length (x.inn.map bv) ∧ W.ownsRow B 5 1 b x.back.length (x.back.map bv) ∧ Ap3 o i b
def Ub (C : Nat) (o i b : Value) : Prop := (∀ k, o.ownBlock = some k → k < C) ∧ (∀ k, i.ownBlock = some k → k < C) ∧ ∀ k, b.ownBlock = some k → k < C
theorem Own3.lt {B : Nat} {W : World} {x : SS} {o i b : Value} (h : Own3 B W x o i b) : (∀ k, o.ownBlock = some k → B ≤ k ∧ k < W.heap.size) ∧ (∀ k, i.ownBlock = some k → B ≤ k ∧ k < W.heap.size) ∧ ∀ k, b.ownBlock = some k → B ≤ k ∧ k < W.heap.size := ⟨h.1.lt, h.2.1.lt, h.2.2.1.lt⟩
theorem Own3.mono {B B' : Nat} {W : World} {x : SS} {o i b : Value} (h : Own3 B W x o i b) (hB : B' ≤ B) : Own3 B' W x o i b := ⟨owns_mono h.1 hB, owns_mono h.2.1 hB, owns_mono h.2.2.1 hB, h.2.2.2⟩
theorem Own3.turned {B : Nat} {P : Nat → Prop} {W W' : World} {x : SS} {o i b : Value} (h : Own3 B W x o i b) (hT : Turned P W W') (hS : ∀ k, B ≤ k → k < W.heap.size → ¬ P k) : Own3 B W' x o i b :=
  ⟨owns_turned h.1 hT fun k e => hS k (h.1.lt k e).1 (h.1.lt k e).2, owns_turned h.2.1 hT fun k e => hS k (h.2.1.lt k e).1 (h.2.1.lt k e).2, owns_turned h.2.2.1 hT fun k e => hS k (h.2.2.1.lt k e).1 (h.2.2.1.lt k e).2, h.2.2.2⟩
theorem Own3.turned2 {B C : Nat} {P : Nat → Prop} {W W' : World} {x : SS} {o i b : Value} (h : Own3 B W x o i b ∧ Ub C o i b) (hT : Turned P W W') (hS : ∀ k, B ≤ k → k < C → ¬ P k) : Own3 B W' x o i b ∧ Ub C o i b :=
  ⟨⟨owns_turned h.1.1 hT fun k e => hS k (h.1.1.lt k e).1 (h.2.1 k e), owns_turned h.1.2.1 hT fun k e => hS k (h.1.2.1.lt k e).1 (h.2.2.1 k e), owns_turned h.1.2.2.1 hT fun k e => hS k (h.1.2.2.1.lt k e).1 (h.2.2.2 k e), h.1.2.2.2⟩, h.2⟩
theorem Own3.below {B : Nat} {W W' : World} {x : SS} {o i b : Value} (h : Own3 B W x o i b) (hB : Below W.heap.size W W') : Own3 B W' x o i b := ⟨owns_below h.1 hB, owns_below h.2.1 hB, owns_below h.2.2.1 hB, h.2.2.2⟩
theorem Own3.sin {B : Nat} {W : World} {x : SS} {o i b : Value} (h : Own3 B W x o i b) : SIn W (fun k => B ≤ k ∧ k < W.heap.size) x o i b :=
  ⟨Sl.own h.1, Sl.own h.2.1, Sl.own h.2.2.1, fun k e => h.1.lt k e, fun k e => h.2.1.lt k e, fun k e => h.2.2.1.lt k e⟩
theorem StAt.turned1 {W W' : World} {g g' : Nat} {x : SS} {o i b : Value} (h : StAt W g x o i b) (hT : Turned (fun k => k = g') W W') (hn : g ≠ g') : StAt W' g x o i b := (hT.block g h.lt hn).trans h
theorem row_not_state {W : World} {g base k : Nat} {v : Value} {xs : List Value} (h : W.heap[g]? = some (Obj.cells #[.bool false, .bool false, .int .i64 0, .int .i64 0, .slice none 0 0, .slice none 0 0, .slice none 0 0, .int .i64 0, .bool false, .bool false, .bool false] 58)) (hr : W.ownsRow base 5 1 v k xs) : v.ownBlock ≠ some g := by
  intro e
  rcases hr.2 with ⟨rfl, _⟩ | ⟨g', cap, cur, rfl, _, hgb, _⟩
  · simp [Value.ownBlock] at e
  · obtain rfl : g' = g := by simpa [Value.ownBlock] using e
    have := h.symm.trans hgb
    simp at this
theorem Own3.past {B g : Nat} {W W' : World} {x : SS} {o i b : Value} (h : Own3 B W x o i b) (hT : Turned (fun k => k = g) W W') (hz : W.heap[g]? = some (Obj.cells #[.bool false, .bool false, .int .i64 0, .int .i64 0, .slice none 0 0, .slice none 0 0, .slice none 0 0, .int .i64 0, .bool false, .bool false, .bool false] 58)) : Own3 B W' x o i b :=
  ⟨owns_turned h.1 hT fun k e e2 => row_not_state hz h.1 ((e2 : k = g) ▸ e), owns_turned h.2.1 hT fun k e e2 => row_not_state hz h.2.1 ((e2 : k = g) ▸ e), owns_turned h.2.2.1 hT fun k e e2 => row_not_state hz h.2.2.1 ((e2 : k = g) ▸ e), h.2.2.2⟩
structure Got {S : Type} (At : World → (Nat → Prop) → S → Prop) (W0 : World) (O O' : Nat → Prop) (W : World) (g : Nat) (x : SS) (s : S) (o i b : Value) : Prop where
  st : StAt W g x o i b
  ls : SIn W (fun k => W0.heap.size ≤ k ∧ ¬ O' k ∧ k < W.heap.size) x o i b
  raw : At W O' s
  ol : ∀ j, O' j → j < W.heap.size
  oo : ∀ k, O' k → O k ∨ W0.heap.size ≤ k
  og : ¬ O' g
  g0 : W0.heap.size ≤ g
  t : Turned O W0 W
theorem Got.behind {S : Type} {At : World → (Nat → Prop) → S → Prop} (hT : ∀ s, OAt (fun w O => At w O s)) {W0 W1 : World} {O : Nat → Prop} {x : SS} {s : S} {o i b : Value} (h : SOut At W0 O x s o i b W1) : ∃ O', Got At W0 O O' (W1.alloc (Obj.cells #[.bool x.rd, .bool x.wt, .int .i64 x.mode, .int .i64 x.size, o, i, b, .int .i64 x.dir, .bool x.fin, .bool x.bad, .bool x.closed] 58)) W1.heap.size x s o i b := by
  obtain ⟨O', s1, s2, s3, s4, s5⟩ := h
  have hB := recv_below W1 (Obj.cells #[.bool x.rd, .bool x.wt, .int .i64 x.mode, .int .i64 x.size, o, i, b, .int .i64 x.dir, .bool x.fin, .bool x.bad, .bool x.closed] 58)
  have hz := hB.size
  exact ⟨O', StAt.new W1 x o i b, (s1.below hB).mono fun k e => ⟨e.1, e.2.1, by have := e.2.2; omega⟩, (hT s).keep s2 (fun j _ hj => hB.block j hj) hz, fun j e => by have := s3 j e; omega, s4, fun e => by have := s3 _ e; omega, s5.size, s5.trans (Turned.of_below (S := O) hB) (fun _ _ e => e)⟩
theorem Got.ahead {S : Type} {At : World → (Nat → Prop) → S → Prop} (hT : ∀ s, OAt (fun w O => At w O s)) {W0 W1 : World} {O : Nat → Prop} {x : SS} {s : S} {o i b : Value} (h : SOut At (W0.alloc (Obj.cells #[.bool false, .bool false, .int .i64 0, .int .i64 0, .slice none 0 0, .slice none 0 0, .slice none 0 0, .int .i64 0, .bool false, .bool false, .bool false] 58)) O x s o i b W1) (hO : ∀ j, O j → j < W0.heap.size) : ∃ O', Got At W0 O O' ((((((((((((W1.setCell ⟨W0.heap.size, 0, none⟩ (.bool x.rd)).setCell ⟨W0.heap.size, 1, none⟩ (.bool x.wt)).setCell ⟨W0.heap.size, 2, none⟩ (.int .i64 x.mode)).setCell ⟨W0.heap.size, 3, none⟩ (.int .i64 x.size)).setCell ⟨W0.heap.size, 4, none⟩ (o)).setCell ⟨W0.heap.size, 5, none⟩ (i)).setCell ⟨W0.heap.size, 6, none⟩ (b)).setCell ⟨W0.heap.size, 7, none⟩ (.int .i64 x.dir)).setCell ⟨W0.heap.size, 8, none⟩ (.bool x.fin)).setCell ⟨W0.heap.size, 9, none⟩ (.bool x.bad)).setCell ⟨W0.heap.size, 10, none⟩ (.bool x.closed))) W0.heap.size x s o i b := by
  obtain ⟨O', s1, s2, s3, s4, s5⟩ := h
  have hB := recv_below W0 (Obj.cells #[.bool false, .bool false, .int .i64 0, .int .i64 0, .slice none 0 0, .slice none 0 0, .slice none 0 0, .int .i64 0, .bool false, .bool false, .bool false] 58)
  have hzs : (W0.alloc (Obj.cells #[.bool false, .bool false, .int .i64 0, .int .i64 0, .slice none 0 0, .slice none 0 0, .slice none 0 0, .int .i64 0, .bool false, .bool false, .bool false] 58)).heap.size = W0.heap.size + 1 := World.size_alloc ..
  have hz5 := s5.size
  have hz9 : W1.heap[W0.heap.size]? = some (Obj.cells #[.bool false, .bool false, .int .i64 0, .int .i64 0, .slice none 0 0, .slice none 0 0, .slice none 0 0, .int .i64 0, .bool false, .bool false, .bool false] 58) := (s5.block W0.heap.size (by omega) (fun e => by have := hO _ e; omega)).trans (heap_alloc_new W0 _)
  obtain ⟨e1, e2⟩ := st_fill W1 W0.heap.size x o i b hz9
  have hz6 := e2.size
  have hn : ¬ O' W0.heap.size := fun e => by
    rcases s4 _ e with e | e
    · have := hO _ e; omega
    · omega
  refine ⟨O', e1, ((s1.turned e2 (fun k e _ e' => ?_)).mono fun k e => ⟨by have := e.1; omega, e.2.1, by have := e.2.2; omega⟩), (hT s).keep s2 (fun j e hj => e2.block j hj (fun e' => hn (e' ▸ e))) hz6, fun j e => by have := s3 j e; omega, fun k e => (s4 k e).imp id (fun e => by omega), hn, Nat.le_refl _, ?_⟩
  · have h1 : k = W0.heap.size := e'
    have := e.1
    omega
  · exact ((Turned.of_below (S := O) hB).trans s5 (fun _ _ e => e)).trans e2 (fun k hk e => by have h1 : k = W0.heap.size := e; omega)
end Go.Proofs.YtdmkjbdlidadiaaGreat

/- Streams: a state of the program's in a call's variable, beside a Raw. -/
namespace Go.Proofs.YtdmkjbdlidadiaaGreat
open Go.RowKit

theorem StAt.set {W : World} {g : Nat} {x x' : SS} {o i b o' i' b' : Value} (h : StAt W g x o i b) (j : Nat) (u : Value) (hl : ([.bool x.rd, .bool x.wt, .int .i64 x.mode, .int .i64 x.size, o, i, b, .int .i64 x.dir, .bool x.fin, .bool x.bad, .bool x.closed] : List Value).set j u = [.bool x'.rd, .bool x'.wt, .int .i64 x'.mode, .int .i64 x'.size, o', i', b', .int .i64 x'.dir, .bool x'.fin, .bool x'.bad, .bool x'.closed]) : StAt (W.setCell ⟨g, j, none⟩ u) g x' o' i' b' ∧ Turned (fun k => k = g) W (W.setCell ⟨g, j, none⟩ u) := by
  refine ⟨?_, (Turned.refl (fun k => k = g) W).set (.inl rfl)⟩
  have := Go.heap_setCell_same W g j _ _ u h
  unfold StAt
  rw [this]
  simp only [List.setIfInBounds_toArray, hl]
theorem StAt.turned {P : Nat → Prop} {W W' : World} {g : Nat} {x : SS} {o i b : Value} (h : StAt W g x o i b) (hT : Turned P W W') (hn : ¬ P g) : StAt W' g x o i b := (hT.block g h.lt hn).trans h
theorem st_fill3 (w : World) (r : Nat) (x : SS) (o i b : Value) (h : w.heap[r]? = some (Obj.cells #[.bool false, .bool false, .int .i64 0, .int .i64 0, .slice none 0 0, .slice none 0 0, .slice none 0 0, .int .i64 0, .bool false, .bool false, .bool false] 58)) : StAt (filled w r x o i b) r x o i b ∧ Turned (fun k => k = r) w (filled w r x o i b) := st_fill w r x o i b h
structure QV {σ : Type} (B : World → (Nat → Prop) → σ → Prop) (w : World) (O0 : Nat → Prop) (r g : Nat) (W : World) (O : Nat → Prop) (x : SS) (s : σ) (o i b : Value) : Prop where
  st : StAt W g x o i b
  ls : SIn W (fun k => w.heap.size ≤ k ∧ ¬ O k ∧ k ≠ g ∧ k ≠ r ∧ k < W.heap.size) x o i b
  raw : B W O s
  ol : ∀ j, O j → j < W.heap.size
  og : ¬ O g
  orr : ¬ O r
  zr : W.heap[r]? = some (Obj.cells #[.bool false, .bool false, .int .i64 0, .int .i64 0, .slice none 0 0, .slice none 0 0, .slice none 0 0, .int .i64 0, .bool false, .bool false, .bool false] 58)
  gr : g ≠ r
  gw : w.heap.size ≤ g
  rw : w.heap.size ≤ r
  oo : ∀ k, O k → O0 k ∨ w.heap.size ≤ k
  tu : Turned O0 w W
theorem QV.rlt {σ : Type} {B : World → (Nat → Prop) → σ → Prop} {w : World} {O0 : Nat → Prop} {r g : Nat} {W : World} {O : Nat → Prop} {x : SS} {s : σ} {o i b : Value} (h : QV B w O0 r g W O x s o i b) : r < W.heap.size := (Array.getElem?_eq_some_iff.1 h.zr).1
theorem QV.below {σ : Type} {B : World → (Nat → Prop) → σ → Prop} (hT : ∀ s, OAt (fun w O => B w O s)) {w : World} {O0 : Nat → Prop} {r g : Nat} {W W' : World} {O : Nat → Prop} {x : SS} {s : σ} {o i b : Value} (h : QV B w O0 r g W O x s o i b) (hB : Below W.heap.size W W') : QV B w O0 r g W' O x s o i b := by
  have hz := hB.size
  exact ⟨h.st.below hB, (h.ls.below hB).mono fun k e => ⟨e.1, e.2.1, e.2.2.1, e.2.2.2.1, by have := e.2.2.2.2; omega⟩, (hT s).keep h.raw (fun j _ hj => hB.block j hj) hz, fun j e => Nat.lt_of_lt_of_le (h.ol j e) hz, h.og, h.orr, (hB.block r h.rlt).trans h.zr, h.gr, h.gw, h.rw, h.oo, h.tu.trans (Turned.of_below (S := O0) hB) (fun _ _ e => e)⟩
theorem QV.at {σ : Type} {B : World → (Nat → Prop) → σ → Prop} (hT : ∀ s, OAt (fun w O => B w O s)) {w : World} {O0 : Nat → Prop} {r g : Nat} {W W' : World} {O : Nat → Prop} {x x' : SS} {s : σ} {o i b o' i' b' : Value} (h : QV B w O0 r g W O x s o i b) (hs : StAt W' g x' o' i' b') (ht : Turned (fun k => k = g) W W') (hl : SIn W (fun k => w.heap.size ≤ k ∧ ¬ O k ∧ k ≠ g ∧ k ≠ r ∧ k < W.heap.size) x' o' i' b') : QV B w O0 r g W' O x' s o' i' b' := by
  have hz := ht.size
  have hg := h.gw
  exact ⟨hs, (hl.turned ht fun k e _ => e.2.2.1).mono fun k e => ⟨e.1, e.2.1, e.2.2.1, e.2.2.2.1, by have := e.2.2.2.2; omega⟩, (hT s).keep h.raw (fun j e hj => ht.block j hj (fun e' => h.og (e' ▸ e))) hz, fun j e => Nat.lt_of_lt_of_le (h.ol j e) hz, h.og, h.orr, (ht.block r h.rlt (fun e => h.gr e.symm)).trans h.zr, h.gr, h.gw, h.rw, h.oo, h.tu.trans ht (fun k hk e => by have e' : k = g := e; omega)⟩
theorem QV.set {σ : Type} {B : World → (Nat → Prop) → σ → Prop} (hT : ∀ s, OAt (fun w O => B w O s)) {w : World} {O0 : Nat → Prop} {r g : Nat} {W : World} {O : Nat → Prop} {x : SS} {s : σ} {o i b : Value} (h : QV B w O0 r g W O x s o i b) (x' : SS) (o' i' b' : Value) (j : Nat) (u : Value) (he : ([.bool x.rd, .bool x.wt, .int .i64 x.mode, .int .i64 x.size, o, i, b, .int .i64 x.dir, .bool x.fin, .bool x.bad, .bool x.closed] : List Value).set j u = [.bool x'.rd, .bool x'.wt, .int .i64 x'.mode, .int .i64 x'.size, o', i', b', .int .i64 x'.dir, .bool x'.fin, .bool x'.bad, .bool x'.closed]) (hl : SIn W (fun k => w.heap.size ≤ k ∧ ¬ O k ∧ k ≠ g ∧ k ≠ r ∧ k < W.heap.size) x' o' i' b') : QV B w O0 r g (W.setCell ⟨g, j, none⟩ u) O x' s o' i' b' := by
  obtain ⟨h1, h2⟩ := h.st.set j u he
  exact h.at hT h1 h2 hl
theorem QV.step {σ : Type} {B : World → (Nat → Prop) → σ → Prop} (hT : ∀ s, OAt (fun w O => B w O s)) {w : World} {O0 : Nat → Prop} {r g : Nat} {W W1 : World} {O : Nat → Prop} {x : SS} {s s' : σ} {o i b : Value} (h : QV B w O0 r g W O x s o i b) (hS : OStep (fun w O => B w O s') W O W1) : ∃ O', QV B w O0 r g W1 O' x s' o i b ∧ ∀ k, k < W.heap.size → ¬ O k → ¬ O' k := by
  obtain ⟨O1, q1, q2, q3⟩ := hS
  have hz := q3.size
  have hn : ∀ k, k < W.heap.size → ¬ O k → ¬ (O1 k ∧ k < W1.heap.size) := fun k hk hno e => (q2 k e.1).elim hno (fun e => by omega)
  have hw := h.tu.size
  exact ⟨fun k => O1 k ∧ k < W1.heap.size, ⟨h.st.turned q3 h.og, (h.ls.turned q3 fun k e _ => e.2.1).mono fun k e => ⟨e.1, hn k e.2.2.2.2 e.2.1, e.2.2.1, e.2.2.2.1, by have := e.2.2.2.2; omega⟩, (hT s').trim q1, fun j e => e.2, hn g h.st.lt h.og, hn r h.rlt h.orr, (q3.block r h.rlt h.orr).trans h.zr, h.gr, h.gw, h.rw, fun k e => (q2 k e.1).elim (h.oo k) (fun e => .inr (by omega)), h.tu.trans q3 (fun k hk e => (h.oo k e).resolve_right (by omega))⟩, hn⟩
theorem QV.out {σ : Type} {B : World → (Nat → Prop) → σ → Prop} (hT : ∀ s, OAt (fun w O => B w O s)) {w : World} {O0 : Nat → Prop} {r g : Nat} {W : World} {O : Nat → Prop} {x : SS} {s : σ} {o i b : Value} (h : QV B w O0 r g W O x s o i b) : StAt (filled W r x o i b) r x o i b ∧ SOut B w O0 x s o i b (filled W r x o i b) := by
  obtain ⟨e1, e2⟩ := st_fill3 W r x o i b h.zr
  have hz := e2.size
  have hr := h.rw
  exact ⟨e1, O, (h.ls.turned e2 fun k e _ => e.2.2.2.1).mono fun k e => ⟨e.1, e.2.1, by have := e.2.2.2.2; omega⟩, (hT s).keep h.raw (fun j e hj => e2.block j hj (fun e' => h.orr (e' ▸ e))) hz, fun j e => Nat.lt_of_lt_of_le (h.ol j e) hz, h.oo, h.tu.trans e2 (fun k hk e => by have e' : k = r := e; omega)⟩
end Go.Proofs.YtdmkjbdlidadiaaGreat

/- Streams: a call's variable takes what another call gave. -/
namespace Go.Proofs.YtdmkjbdlidadiaaGreat
open Go.RowKit

theorem QV.of_out {σ : Type} {B : World → (Nat → Prop) → σ → Prop} (hT : ∀ s, OAt (fun w O => B w O s)) {w w1 w2 : World} {O : Nat → Prop} {r g : Nat} {x x' : SS} {s' : σ} {o i b o' i' b' : Value} (hB : Below w.heap.size w w1) (hs : StAt w1 g x o i b) (hz : w1.heap[r]? = some (Obj.cells #[.bool false, .bool false, .int .i64 0, .int .i64 0, .slice none 0 0, .slice none 0 0, .slice none 0 0, .int .i64 0, .bool false, .bool false, .bool false] 58)) (hgr : g ≠ r) (hg : w.heap.size ≤ g) (hr : w.heap.size ≤ r) (hO : ∀ j, O j → j < w.heap.size) (hS : SOut B w1 O x' s' o' i' b' w2) :
    StAt w2 g x o i b ∧ ∃ O', QV B w O r g (filled w2 g x' o' i' b') O' x' s' o' i' b' := by
  obtain ⟨O', h1, h2, h3, h4, h5⟩ := hS
  have hz1 := hB.size
  have hz5 := h5.size
  have hgl := hs.lt
  have hrl : r < w1.heap.size := (Array.getElem?_eq_some_iff.1 hz).1
  have hst : StAt w2 g x o i b := (h5.block g hgl (fun e => by have := hO g e; omega)).trans hs
  obtain ⟨e1, e2⟩ := st_fill2 w2 g x x' o i b o' i' b' hst
  have hz2 := e2.size
  have no : ∀ k, w.heap.size ≤ k → k < w1.heap.size → ¬ O' k := fun k ha hb e => by
    rcases h4 k e with e | e
    · have := hO k e; omega
    · omega
  refine ⟨hst, O', e1, (h1.turned e2 fun k e _ e' => by have := e.1; omega).mono fun k e => ⟨by have := e.1; omega, e.2.1, by have := e.1; omega, by have := e.1; omega, by have := e.2.2; omega⟩, (hT s').keep h2 (fun j e hj => e2.block j hj (fun e' => no g hg hgl (e' ▸ e))) hz2, fun j e => Nat.lt_of_lt_of_le (h3 j e) hz2, no g hg hgl, no r hr hrl, ?_, hgr, hg, hr, fun k e => (h4 k e).imp id (fun e => by omega), ?_⟩
  · exact (e2.block r (by omega) (fun e => hgr e.symm)).trans ((h5.block r hrl (fun e => by have := hO r e; omega)).trans hz)
  · exact ((Turned.of_below (S := O) hB).trans h5 (fun _ _ e => e)).trans e2 (fun k hk e => by have e' : k = g := e; omega)
theorem QV.of_new {σ : Type} {B : World → (Nat → Prop) → σ → Prop} (hT : ∀ s, OAt (fun w O => B w O s)) {w w1 w2 : World} {O : Nat → Prop} {r : Nat} {x' : SS} {s' : σ} {o' i' b' : Value} (hB : Below w.heap.size w w1) (hz : w1.heap[r]? = some (Obj.cells #[.bool false, .bool false, .int .i64 0, .int .i64 0, .slice none 0 0, .slice none 0 0, .slice none 0 0, .int .i64 0, .bool false, .bool false, .bool false] 58)) (hr : w.heap.size ≤ r) (hO : ∀ j, O j → j < w.heap.size) (hS : SOut B w1 O x' s' o' i' b' w2) :
    ∃ O', QV B w O r w2.heap.size (w2.alloc (Obj.cells #[.bool x'.rd, .bool x'.wt, .int .i64 x'.mode, .int .i64 x'.size, o', i', b', .int .i64 x'.dir, .bool x'.fin, .bool x'.bad, .bool x'.closed] 58)) O' x' s' o' i' b' := by
  obtain ⟨O', h1, h2, h3, h4, h5⟩ := hS
  have hz1 := hB.size
  have hz5 := h5.size
  have hrl : r < w1.heap.size := (Array.getElem?_eq_some_iff.1 hz).1
  have hBn := recv_below w2 (Obj.cells #[.bool x'.rd, .bool x'.wt, .int .i64 x'.mode, .int .i64 x'.size, o', i', b', .int .i64 x'.dir, .bool x'.fin, .bool x'.bad, .bool x'.closed] 58)
  have hzn := hBn.size
  have hst := StAt.new w2 x' o' i' b'
  refine ⟨O', hst, (h1.below hBn).mono fun k e => ⟨by have := e.1; omega, e.2.1, by have := e.2.2; omega, by have := e.1; omega, by have := e.2.2; omega⟩, (hT s').keep h2 (fun j _ hj => hBn.block j hj) hzn, fun j e => Nat.lt_of_lt_of_le (h3 j e) hzn, fun e => by have := h3 _ e; omega, fun e => ?_, ?_, by omega, by omega, hr, fun k e => (h4 k e).imp id (fun e => by omega), ?_⟩
  · rcases h4 r e with e | e
    · have := hO r e; omega
    · omega
  · exact (hBn.block r (by omega)).trans ((h5.block r hrl (fun e => by have := hO r e; omega)).trans hz)
  · exact ((Turned.of_below (S := O) hB).trans h5 (fun _ _ e => e)).trans (Turned.of_below (S := O) hBn) (fun _ _ e => e)
theorem SIn.nils0 {W : World} {P : Nat → Prop} {x : SS} (h1 : x.out = []) (h2 : x.inn = []) (h3 : x.back = []) : SIn W P x (.slice none 0 0) (.slice none 0 0) (.slice none 0 0) := by
  have hno : ∀ k, (Value.slice none 0 0).ownBlock = some k → False := fun k e => by simp [Value.ownBlock] at e
  exact ⟨h1 ▸ Sl.nil, h2 ▸ Sl.nil, h3 ▸ Sl.nil, fun k e => (hno k e).elim, fun k e => (hno k e).elim, fun k e => (hno k e).elim⟩
theorem QV.out2 {σ : Type} {B : World → (Nat → Prop) → σ → Prop} (hT : ∀ s, OAt (fun w O => B w O s)) {w : World} {O0 : Nat → Prop} {r g : Nat} {W : World} {O : Nat → Prop} {x : SS} {s : σ} {o i b : Value} (h : QV B w O0 r g W O x s o i b) (x' : SS) (o' i' b' : Value) (hl : SIn W (fun k => w.heap.size ≤ k ∧ ¬ O k ∧ k ≠ g ∧ k ≠ r ∧ k < W.heap.size) x' o' i' b') : StAt (filled W r x' o' i' b') r x' o' i' b' ∧ SOut B w O0 x' s o' i' b' (filled W r x' o' i' b') := by
  obtain ⟨e1, e2⟩ := st_fill3 W r x' o' i' b' h.zr
  have hz := e2.size
  have hr := h.rw
  exact ⟨e1, O, (hl.turned e2 fun k e _ => e.2.2.2.1).mono fun k e => ⟨e.1, e.2.1, by have := e.2.2.2.2; omega⟩, (hT s).keep h.raw (fun j e hj => e2.block j hj (fun e' => h.orr (e' ▸ e))) hz, fun j e => Nat.lt_of_lt_of_le (h.ol j e) hz, h.oo, h.tu.trans e2 (fun k hk e => by have e' : k = r := e; omega)⟩
end Go.Proofs.YtdmkjbdlidadiaaGreat

/- Position: what was put is delivered, the way stays. -/
namespace Go.Proofs.YtdmkjbdlidadiaaGreat
open Go.RowKit

set_option maxRecDepth 100000 in
set_option maxHeartbeats 4000000 in
theorem delivered_any {S : Type} {D : RawD S} {T : TypeId} {v : Value} {fr fw : FuncId} {rok wok : S → Prop} {At : World → (Nat → Prop) → S → Prop} (R : RawM D T v fr fw rok wok At) (hT : ∀ s, OAt (fun w O => At w O s)) {G : Nat → S → Prop} (hG : Bears D rok wok G) {w : World} {O P : Nat → Prop} {s : S} {x : SS} {o i b : Value} (h : SIn w P x o i b) (hA : At w O s) (hO : ∀ j, O j → j < w.heap.size) (hg : G 2 s) (ho : x.out.length ≤ 140737488351232) (hi : x.inn.length ≤ 140737488351232) (hb : x.back.length ≤ 140737488351232) (hr : x.refuse true = 0) :
    Calls Tryz.prog 133 #[.agg #[.bool x.rd, .bool x.wt, .int .i64 x.mode, .int .i64 x.size, o, i, b, .int .i64 x.dir, .bool x.fin, .bool x.bad, .bool x.closed], .iface T v] w fun e w' => ∃ o' i' b', e = .returned (.tuple #[.agg #[.bool (x.deliver D s).1.rd, .bool (x.deliver D s).1.wt, .int .i64 (x.deliver D s).1.mode, .int .i64 (x.deliver D s).1.size, o', i', b', .int .i64 (x.deliver D s).1.dir, .bool (x.deliver D s).1.fin, .bool (x.deliver D s).1.bad, .bool (x.deliver D s).1.closed], .int .i64 (x.deliver D s).2.1]) ∧ SOut At w O (x.deliver D s).1 (x.deliver D s).2.2 o' i' b' w' := by
  have HFl := hide (fun (W : World) (hW : Below w.heap.size w W) => sFlush_any R hT hG (h.below hW) ((hT s).keep hA (fun j _ hj => hW.block j hj) hW.size) (fun j e => Nat.lt_of_lt_of_le (hO j e) hW.size) hg ho hi hb)
  have HD := hide (flush_deliver D s hr)
  clear hr
  obtain ⟨oa, oc, rfl, -⟩ := h.so
  obtain ⟨ia, ic, rfl, -⟩ := h.si
  obtain ⟨ba, bc, rfl, -⟩ := h.sb
  clear h
  generalize x.deliver D s = q at *
  obtain ⟨qx, qe, qs⟩ := q
  go_enter Tryz.func133, Tryz.ntmps133
  go_wp2_with fail
  have HB0 := hide ((recv_below w (Obj.cells #[.bool x.rd, .bool x.wt, .int .i64 x.mode, .int .i64 x.size, .slice oa x.out.length oc, .slice ia x.inn.length ic, .slice ba x.back.length bc, .int .i64 x.dir, .bool x.fin, .bool x.bad, .bool x.closed] 58)).trans ((recv_below (w.alloc (Obj.cells #[.bool x.rd, .bool x.wt, .int .i64 x.mode, .int .i64 x.size, .slice oa x.out.length oc, .slice ia x.inn.length ic, .slice ba x.back.length bc, .int .i64 x.dir, .bool x.fin, .bool x.bad, .bool x.closed] 58)) (Obj.cells #[.bool false, .bool false, .int .i64 0, .int .i64 0, .slice none 0 0, .slice none 0 0, .slice none 0 0, .int .i64 0, .bool false, .bool false, .bool false] 58)).mono (recv_below w (Obj.cells #[.bool x.rd, .bool x.wt, .int .i64 x.mode, .int .i64 x.size, .slice oa x.out.length oc, .slice ia x.inn.length ic, .slice ba x.back.length bc, .int .i64 x.dir, .bool x.fin, .bool x.bad, .bool x.closed] 58)).size))
  have HS0 := hide ((StAt.new w x (.slice oa x.out.length oc) (.slice ia x.inn.length ic) (.slice ba x.back.length bc)).below (recv_below _ (Obj.cells #[.bool false, .bool false, .int .i64 0, .int .i64 0, .slice none 0 0, .slice none 0 0, .slice none 0 0, .int .i64 0, .bool false, .bool false, .bool false] 58)))
  have HZ0 : Hid (((w.alloc (Obj.cells #[.bool x.rd, .bool x.wt, .int .i64 x.mode, .int .i64 x.size, .slice oa x.out.length oc, .slice ia x.inn.length ic, .slice ba x.back.length bc, .int .i64 x.dir, .bool x.fin, .bool x.bad, .bool x.closed] 58)).alloc (Obj.cells #[.bool false, .bool false, .int .i64 0, .int .i64 0, .slice none 0 0, .slice none 0 0, .slice none 0 0, .int .i64 0, .bool false, .bool false, .bool false] 58)).heap[w.heap.size + 1]? = some (Obj.cells #[.bool false, .bool false, .int .i64 0, .int .i64 0, .slice none 0 0, .slice none 0 0, .slice none 0 0, .int .i64 0, .bool false, .bool false, .bool false] 58)) := hide (by have := heap_alloc_new (w.alloc (Obj.cells #[.bool x.rd, .bool x.wt, .int .i64 x.mode, .int .i64 x.size, .slice oa x.out.length oc, .slice ia x.inn.length ic, .slice ba x.back.length bc, .int .i64 x.dir, .bool x.fin, .bool x.bad, .bool x.closed] 58)) (Obj.cells #[.bool false, .bool false, .int .i64 0, .int .i64 0, .slice none 0 0, .slice none 0 0, .slice none 0 0, .int .i64 0, .bool false, .bool false, .bool false] 58); rw [show (w.alloc (Obj.cells #[.bool x.rd, .bool x.wt, .int .i64 x.mode, .int .i64 x.size, .slice oa x.out.length oc, .slice ia x.inn.length ic, .slice ba x.back.length bc, .int .i64 x.dir, .bool x.fin, .bool x.bad, .bool x.closed] 58)).heap.size = w.heap.size + 1 from Array.size_push ..] at this; exact this)
  generalize (w.alloc (Obj.cells #[.bool x.rd, .bool x.wt, .int .i64 x.mode, .int .i64 x.size, .slice oa x.out.length oc, .slice ia x.inn.length ic, .slice ba x.back.length bc, .int .i64 x.dir, .bool x.fin, .bool x.bad, .bool x.closed] 58)).alloc (Obj.cells #[.bool false, .bool false, .int .i64 0, .int .i64 0, .slice none 0 0, .slice none 0 0, .slice none 0 0, .int .i64 0, .bool false, .bool false, .bool false] 58) = w0 at *
  have hz0 : w.heap.size + 1 < w0.heap.size := (Array.getElem?_eq_some_iff.1 HZ0.out).1
  have hp := HFl.out _ HB0.out
  clear HFl
  generalize x.flush D s = X at *
  obtain ⟨fx, fe, fs⟩ := X
  simp only at hp HD
  have HP := hide hp
  clear hp
  refine HP.out.mono ?_
  rintro _ w2 ⟨o1, i1, b1, rfl, hS⟩
  obtain ⟨a1, k1, rfl, -⟩ := hS.choose_spec.1.so
  obtain ⟨a2, k2, rfl, -⟩ := hS.choose_spec.1.si
  obtain ⟨a3, k3, rfl, -⟩ := hS.choose_spec.1.sb
  have hTu : Turned O w0 w2 := by obtain ⟨_, _, _, _, _, t⟩ := hS; exact t
  have hS2 : StAt w2 w.heap.size x (.slice oa x.out.length oc) (.slice ia x.inn.length ic) (.slice ba x.back.length bc) := (hTu.block _ (by omega) (fun e => by have := hO _ e; omega)).trans HS0.out
  have HS3 := hide (hS2.below (recv_below w2 (Obj.cells #[.bool fx.rd, .bool fx.wt, .int .i64 fx.mode, .int .i64 fx.size, .slice a1 fx.out.length k1, .slice a2 fx.inn.length k2, .slice a3 fx.back.length k3, .int .i64 fx.dir, .bool fx.fin, .bool fx.bad, .bool fx.closed] 58)))
  obtain ⟨O3, hV3⟩ := QV.of_new hT HB0.out HZ0.out (Nat.le_succ _) hO hS
  have HV3 := hide hV3
  clear hV3 hS hTu hS2 HS0 HZ0 HP
  go_upto_region 2 with fail
  generalize w2.alloc (Obj.cells #[.bool fx.rd, .bool fx.wt, .int .i64 fx.mode, .int .i64 fx.size, .slice a1 fx.out.length k1, .slice a2 fx.inn.length k2, .slice a3 fx.back.length k3, .int .i64 fx.dir, .bool fx.fin, .bool fx.bad, .bool fx.closed] 58) = w3 at *
  generalize w2.heap.size = g2 at *
  obtain ⟨rfl, rfl⟩ : fe = qe ∧ fs = qs := by have := HD.out; simp only [Prod.mk.injEq] at this; exact ⟨this.2.1, this.2.2⟩
  have HX : Hid (SS.mk fx.rd fx.wt fx.mode fx.size fx.out fx.inn fx.back x.dir fx.fin fx.bad fx.closed = qx) := hide (by have := HD.out; simp only [Prod.mk.injEq] at this; exact this.1)
  clear HD
  have HV4 := hide (HV3.out.set hT (SS.mk fx.rd fx.wt fx.mode fx.size fx.out fx.inn fx.back x.dir fx.fin fx.bad fx.closed) _ _ _ 7 (.int .i64 x.dir) rfl ⟨HV3.out.ls.so, HV3.out.ls.si, HV3.out.ls.sb, HV3.out.ls.po, HV3.out.ls.pi, HV3.out.ls.pb⟩)
  have s7 := HV3.out.st.soft 7
  have c7 := HS3.out.cs.2.2.2.2.2.2.2.1
  have d7 := HV3.out.st.cs.2.2.2.2.2.2.2.1
  clear HV3 HS3
  go_upto_region 3 with fail
  clear s7 c7 d7
  generalize w3.setCell ⟨g2, 7, none⟩ (.int .i64 x.dir) = w4 at *
  obtain ⟨e1, e2⟩ := HV4.out.out hT
  unfold filled at e1 e2
  have HE := hide e1
  have HF := hide e2
  have HZr := hide HV4.out.zr
  obtain ⟨c0, c1, c2, c3, c4, c5, c6, c7, c8, c9, c10⟩ := HV4.out.st.cs
  have f0 := frozen_of_row w4 (w.heap.size + 1) 0 _ _ HZr.out
  have f1 := frozen_of_row w4 (w.heap.size + 1) 1 _ _ HZr.out
  have f2 := frozen_of_row w4 (w.heap.size + 1) 2 _ _ HZr.out
  have f3 := frozen_of_row w4 (w.heap.size + 1) 3 _ _ HZr.out
  have f4 := frozen_of_row w4 (w.heap.size + 1) 4 _ _ HZr.out
  have f5 := frozen_of_row w4 (w.heap.size + 1) 5 _ _ HZr.out
  have f6 := frozen_of_row w4 (w.heap.size + 1) 6 _ _ HZr.out
  have f7 := frozen_of_row w4 (w.heap.size + 1) 7 _ _ HZr.out
  have f8 := frozen_of_row w4 (w.heap.size + 1) 8 _ _ HZr.out
  have f9 := frozen_of_row w4 (w.heap.size + 1) 9 _ _ HZr.out
  have f10 := frozen_of_row w4 (w.heap.size + 1) 10 _ _ HZr.out
  have d0 := cell_of_row w4 (w.heap.size + 1) 0 _ _ _ HZr.out
  have d1 := cell_of_row w4 (w.heap.size + 1) 1 _ _ _ HZr.out
  have d2 := cell_of_row w4 (w.heap.size + 1) 2 _ _ _ HZr.out
  have d3 := cell_of_row w4 (w.heap.size + 1) 3 _ _ _ HZr.out
  have d4 := cell_of_row w4 (w.heap.size + 1) 4 _ _ _ HZr.out
  have d5 := cell_of_row w4 (w.heap.size + 1) 5 _ _ _ HZr.out
  have d6 := cell_of_row w4 (w.heap.size + 1) 6 _ _ _ HZr.out
  have d7 := cell_of_row w4 (w.heap.size + 1) 7 _ _ _ HZr.out
  have d8 := cell_of_row w4 (w.heap.size + 1) 8 _ _ _ HZr.out
  have d9 := cell_of_row w4 (w.heap.size + 1) 9 _ _ _ HZr.out
  have d10 := cell_of_row w4 (w.heap.size + 1) 10 _ _ _ HZr.out
  simp at d0 d1 d2 d3 d4 d5 d6 d7 d8 d9 d10
  clear e1 e2
  go_wp2
  refine bodyPost_ret (res_two rfl _ (w.heap.size + 1) rfl _ _ _ _ HE.out) rfl ?_
  obtain rfl := HX.out
  exact ⟨_, _, _, rfl, HF.out⟩
end Go.Proofs.YtdmkjbdlidadiaaGreat

/- Position: a Raw's place is set. -/
namespace Go.Proofs.YtdmkjbdlidadiaaGreat
open Go.RowKit

set_option maxRecDepth 100000 in
set_option maxHeartbeats 4000000 in
theorem moved_any {S : Type} {K : SkV S} {T : TypeId} {v : Value} {fs : FuncId} {sok : S → Prop} {At : World → (Nat → Prop) → S → Prop} (Q : RawS K T v fs sok At) {G : Nat → S → Prop} (hK : BearsS K sok G) {w : World} {O : Nat → Prop} {s : S} (n off wh : Int) (hA : At w O s) (hg : G 2 s) (hn : 0 ≤ n ∧ n ≤ 1000000000000000) (ho : -9223372036854775808 ≤ off ∧ off ≤ 9223372036854775807) :
    Calls Tryz.prog 136 #[.iface T v, .int .i64 n, .int .i64 off, .int .i64 wh] w fun e w' => e = .returned (.tuple #[.int .i64 (movedV K s n off wh).1, .int .i64 (movedV K s n off wh).2.1]) ∧ OStep (fun w O => At w O (movedV K s n off wh).2.2) w O w' := by
  have hm := Q.mseek
  have hc := Q.cseek
  obtain ⟨q, hq⟩ : ∃ q, q = movedV K s n off wh := ⟨_, rfl⟩
  rw [← hq]
  obtain ⟨qp, qe, qs⟩ := q
  unfold movedV at hq
  by_cases hw : wh = 1
  case neg =>
    rw [if_pos hw] at hq
    have HS := hide (Q.seek off wh hA (hK 1 s off wh hg).1 ho)
    rw [← hq] at HS
    simp only at HS
    have hb : (wh != 1) = true := by simp [hw]
    have hb2 : (wh == 1) = false := by simp [hw]
    clear hw hq ho hn
    go_enter Tryz.func136, Tryz.ntmps136
    go_wp2_with fail
    refine HS.out.mono ?_
    rintro _ w1 ⟨rfl, hS1⟩
    have HS1 := hide hS1
    clear hS1
    go_wp2
    go_ret2
    exact ⟨rfl, HS1.out⟩
  subst hw
  rw [if_neg (by simp)] at hq
  have HS := hide (Q.seek 0 1 hA (hK 1 s 0 1 hg).1 (by omega))
  have hpt := Q.told 0 1 hA
  have HG1 := hide (hK 1 s 0 1 hg).2
  obtain ⟨p1, f1, s1, h1⟩ : ∃ p1 f1 s1, K s 0 1 = (p1, f1, s1) := ⟨_, _, _, rfl⟩
  rw [h1] at HS HG1 hq hpt
  simp only at HS HG1 hq hpt
  clear h1
  by_cases hf : f1 = 0
  case neg =>
    rw [if_pos hf] at hq
    obtain ⟨rfl, rfl, rfl⟩ : qp = 0 ∧ qe = f1 ∧ qs = s1 := by simpa using hq
    have hb : (qe != 0) = true := by simp [hf]
    have hb2 : (qe == 0) = false := by simp [hf]
    clear hf hq ho hn hpt
    go_enter Tryz.func136, Tryz.ntmps136
    go_wp2_with fail
    refine HS.out.mono ?_
    rintro _ w1 ⟨rfl, hS1⟩
    have HS1 := hide hS1
    clear hS1
    go_wp2
    go_ret2
    exact ⟨rfl, HS1.out⟩
  subst hf
  rw [if_neg (by simp)] at hq
  have HP := hide (fun W => placeOf_any p1 n off W hpt hn ho)
  unfold placeV at HP
  by_cases hin : 0 ≤ p1 - n + off ∧ p1 - n + off ≤ 1048576
  case neg =>
    rw [if_neg hin] at hq HP
    obtain ⟨rfl, rfl, rfl⟩ : qp = 0 ∧ qe = 4 ∧ qs = s1 := by simpa using hq
    simp only at HP
    clear hin hq ho hn hpt
    go_enter Tryz.func136, Tryz.ntmps136
    go_wp2_with fail
    refine HS.out.mono ?_
    rintro _ w1 ⟨rfl, hS1⟩
    have HS1 := hide hS1
    clear hS1
    go_wp2_with fail
    refine (HP.out _).mono ?_
    rintro _ _ ⟨rfl, rfl⟩
    go_wp2
    go_ret2
    exact ⟨rfl, HS1.out⟩
  rw [if_pos hin] at hq HP
  simp only at HP
  have HS2 := hide (fun (W : World) (O' : Nat → Prop) (hA' : At W O' s1) => Q.seek (p1 - n + off) 0 hA' (hK 0 s1 (p1 - n + off) 0 HG1.out).1 (by omega))
  rw [← hq] at HS2
  simp only at HS2
  generalize p1 - n + off = t at *
  clear hin hq ho hn hpt
  go_enter Tryz.func136, Tryz.ntmps136
  go_wp2_with fail
  refine HS.out.mono ?_
  rintro _ w1 ⟨rfl, O1, hA1, hO1, hT1⟩
  have HA1 := hide hA1
  have HO1 := hide hO1
  have HT1 := hide hT1
  clear hA1 hO1 hT1
  go_wp2_with fail
  refine (HP.out _).mono ?_
  rintro _ _ ⟨rfl, rfl⟩
  go_wp2_with fail
  refine (HS2.out _ _ HA1.out).mono ?_
  rintro _ w2 ⟨rfl, O2, hA2, hO2, hT2⟩
  have HA2 := hide hA2
  have HO2 := hide hO2
  have HT2 := hide hT2
  clear hA2 hO2 hT2
  go_wp2
  go_ret2
  have hz := HT1.out.size
  refine ⟨rfl, O2, HA2.out, fun k e => ?_, HT1.out.trans HT2.out (fun k hk e => (HO1.out k e).resolve_right (by omega))⟩
  rcases HO2.out k e with e | e
  · exact HO1.out k e
  · exact .inr (by omega)
end Go.Proofs.YtdmkjbdlidadiaaGreat

/- Position: a state's lists, by an array of their places. -/
namespace Go.Proofs.YtdmkjbdlidadiaaGreat
open Go.RowKit

def ps3 (g : Nat) : Array Value := #[.pointer (some ⟨g, 4, none⟩), .pointer (some ⟨g, 5, none⟩), .pointer (some ⟨g, 6, none⟩)]
theorem ps_build (g : Nat) (w : World) : (Instr.build 324 #[(0, .pointer (some ⟨g, 4, none⟩)), (1, .pointer (some ⟨g, 5, none⟩)), (2, .pointer (some ⟨g, 6, none⟩))]).run Tryz.prog w = .ok (.agg #[.pointer (some ⟨g, 4, none⟩), .pointer (some ⟨g, 5, none⟩), .pointer (some ⟨g, 6, none⟩)]) w := by
  kernel_rfl
theorem listsOf_any (g : Nat) (w : World) : Calls Tryz.prog 212 #[.pointer (some ⟨g, 0, none⟩)] w fun e w' => e = .returned (.agg (ps3 g)) ∧ Below w.heap.size w w' := by
  have hb := ps_build g
  go_enter Tryz.func212, Tryz.ntmps212
  go_wp2_with fail
  go_region
  go_wp2
  refine bodyPost_ret (results_cell_row rfl _ _ w.heap.size _ _ _ _ rfl (heap_alloc_new w _) Tryz.underlying324 rfl (by kernel_rfl)) rfl ?_
  exact ⟨rfl, (recv_below w _).drew⟩
theorem ps_info : (Tryz.prog.info? 323).map (fun i => i.size) = some 1 := by kernel_rfl
theorem index_ps0 (g : Nat) (W : World) : (Instr.index 324 (.agg (ps3 g)) (.int .i64 0)).run Tryz.prog W = .ok (.pointer (some ⟨g, 4, none⟩)) W := by
  have hu := Tryz.underlying324
  have hi := ps_info
  cases hq : Tryz.prog.info? 323 with
  | none => rw [hq] at hi; cases hi
  | some i =>
    rw [hq] at hi
    have hs : i.size = 1 := by simpa using hi
    unfold Instr.index
    simp [asIntOf, Sem.run_bind, run_underlying hu W, part, sizeOf, typeInfo, hq, hs, ps3]
theorem index_ps1 (g : Nat) (W : World) : (Instr.index 324 (.agg (ps3 g)) (.int .i64 1)).run Tryz.prog W = .ok (.pointer (some ⟨g, 5, none⟩)) W := by
  have hu := Tryz.underlying324
  have hi := ps_info
  cases hq : Tryz.prog.info? 323 with
  | none => rw [hq] at hi; cases hi
  | some i =>
    rw [hq] at hi
    have hs : i.size = 1 := by simpa using hi
    unfold Instr.index
    simp [asIntOf, Sem.run_bind, run_underlying hu W, part, sizeOf, typeInfo, hq, hs, ps3]
theorem index_ps2 (g : Nat) (W : World) : (Instr.index 324 (.agg (ps3 g)) (.int .i64 2)).run Tryz.prog W = .ok (.pointer (some ⟨g, 6, none⟩)) W := by
  have hu := Tryz.underlying324
  have hi := ps_info
  cases hq : Tryz.prog.info? 323 with
  | none => rw [hq] at hi; cases hi
  | some i =>
    rw [hq] at hi
    have hs : i.size = 1 := by simpa using hi
    unfold Instr.index
    simp [asIntOf, Sem.run_bind, run_underlying hu W, part, sizeOf, typeInfo, hq, hs, ps3]
def SS.upto (x : SS) (k : Nat) : Int := if k = 0 then 0 else if k = 1 then x.out.length else if k = 2 then (x.out.length : Int) + x.inn.length else (x.out.length : Int) + x.inn.length + x.back.length
set_option maxRecDepth 100000 in
set_option maxHeartbeats 4000000 in
theorem pheld14 (x : SS) (oa ia ba : Option Addr) (oc ic bc : Nat) (w : World) (ho : x.out.length ≤ 140737488351232) (hi : x.inn.length ≤ 140737488351232) (hb : x.back.length ≤ 140737488351232) :
    Calls Tryz.prog 134 #[.agg #[.bool x.rd, .bool x.wt, .int .i64 x.mode, .int .i64 x.size, .slice oa x.out.length oc, .slice ia x.inn.length ic, .slice ba x.back.length bc, .int .i64 x.dir, .bool x.fin, .bool x.bad, .bool x.closed]] w fun e w' => e = .returned (.int .i64 ((x.out.length : Int) + x.inn.length + x.back.length)) ∧ Below w.heap.size w w' := by
  go_enter Tryz.func134, Tryz.ntmps134
  go_wp2_with fail
  have HS0 := hide (StAt.new w x (.slice oa x.out.length oc) (.slice ia x.inn.length ic) (.slice ba x.back.length bc))
  have HB0 := hide (recv_below w (Obj.cells #[.bool x.rd, .bool x.wt, .int .i64 x.mode, .int .i64 x.size, .slice oa x.out.length oc, .slice ia x.inn.length ic, .slice ba x.back.length bc, .int .i64 x.dir, .bool x.fin, .bool x.bad, .bool x.closed] 58))
  generalize w.alloc (Obj.cells #[.bool x.rd, .bool x.wt, .int .i64 x.mode, .int .i64 x.size, .slice oa x.out.length oc, .slice ia x.inn.length ic, .slice ba x.back.length bc, .int .i64 x.dir, .bool x.fin, .bool x.bad, .bool x.closed] 58) = w0 at *
  refine (listsOf_any _ _).mono ?_
  rintro _ w1 ⟨rfl, hB1⟩
  have HS1 := hide (HS0.out.below hB1)
  have HB1 := hide (HB0.out.trans (hB1.mono HB0.out.size))
  clear hB1 HS0 HB0
  go_wp2_with fail
  have hx0 := index_ps0 w.heap.size
  have hx1 := index_ps1 w.heap.size
  have hx2 := index_ps2 w.heap.size
  have hl1 : (x.out.length : Int) ≤ 140737488351232 := by omega
  have hl2 : (x.inn.length : Int) ≤ 140737488351232 := by omega
  have hl3 : (x.back.length : Int) ≤ 140737488351232 := by omega
  have HL := hide (And.intro hl1 (And.intro hl2 hl3))
  clear hl1 hl2 hl3 ho hi hb
  generalize hA : ps3 w.heap.size = A at *
  clear hA
  go_loopw [3, 7] (fun n i wr => ∃ k : Nat, k ≤ 3 ∧ i = .int .i64 k ∧ n = .int .i64 (x.upto k) ∧ Hid (Below w1.heap.size w1 wr)) (fun _ i _ => 3 - (intOf i).toNat)
  case atStart => exact ⟨0, Nat.zero_le _, rfl, rfl, hide (Below.refl _ _)⟩
  case round =>
    obtain ⟨k, hk, rfl, rfl, HB⟩ := hrel
    obtain ⟨c0, c1, c2, c3, c4, c5, c6, c7, c8, c9, c10⟩ := (HS1.out.below HB.out).cs
    clear c0 c1 c2 c3 c7 c8 c9 c10
    match k, hk with
    | 0, _ =>
      have HU : Hid (wrap64 (x.upto 0 + (x.out.length : Int)) = x.upto 1) := hide (by have := HL.out; simp only [SS.upto, wrap64]; simp; omega)
      generalize x.upto 0 = U at *
      go_wp2_with fail
      exact ⟨⟨1, by decide, rfl, by rw [HU.out], HB⟩, by simp [intOf]⟩
    | 1, _ =>
      have HU : Hid (wrap64 (x.upto 1 + (x.inn.length : Int)) = x.upto 2) := hide (by have := HL.out; simp only [SS.upto, wrap64]; simp; omega)
      generalize x.upto 1 = U at *
      go_wp2_with fail
      exact ⟨⟨2, by decide, rfl, by rw [HU.out], HB⟩, by simp [intOf]⟩
    | 2, _ =>
      have HU : Hid (wrap64 (x.upto 2 + (x.back.length : Int)) = x.upto 3) := hide (by have := HL.out; simp only [SS.upto, wrap64]; simp; omega)
      generalize x.upto 2 = U at *
      go_wp2_with fail
      exact ⟨⟨3, by decide, rfl, by rw [HU.out], HB⟩, by simp [intOf]⟩
    | 3, _ =>
      go_wp2_with fail
      go_ret
      exact ⟨by simp only [SS.upto]; simp, HB1.out.trans (HB.out.mono HB1.out.size)⟩
end Go.Proofs.YtdmkjbdlidadiaaGreat

/- What the proof stands on, part 3: the contracts of the program's calls that it reaches. -/
import Derived.Test.YtmogciopaffccaaKB2
import Derived.Deep.RegionLaw
/- Streams: a copy of a state. -/
namespace Go.Proofs.Ytmogciopaffccaa
open Go.RowKit

theorem st_fill (w : World) (g : Nat) (x : SS) (o i b : Value) (h : w.heap[g]? = some (Obj.cells #[.bool false, .bool false, .int .i64 0, .int .i64 0, .slice none 0 0, .slice none 0 0, .slice none 0 0, .int .i64 0, .bool false, .bool false, .bool false] 29)) : StAt (((((((((((w.setCell ⟨g, 0, none⟩ (.bool x.rd)).setCell ⟨g, 1, none⟩ (.bool x.wt)).setCell ⟨g, 2, none⟩ (.int .i64 x.mode)).setCell ⟨g, 3, none⟩ (.int .i64 x.size)).setCell ⟨g, 4, none⟩ (o)).setCell ⟨g, 5, none⟩ (i)).setCell ⟨g, 6, none⟩ (b)).setCell ⟨g, 7, none⟩ (.int .i64 x.dir)).setCell ⟨g, 8, none⟩ (.bool x.fin)).setCell ⟨g, 9, none⟩ (.bool x.bad)).setCell ⟨g, 10, none⟩ (.bool x.closed)) g x o i b ∧ Turned (fun k => k = g) w (((((((((((w.setCell ⟨g, 0, none⟩ (.bool x.rd)).setCell ⟨g, 1, none⟩ (.bool x.wt)).setCell ⟨g, 2, none⟩ (.int .i64 x.mode)).setCell ⟨g, 3, none⟩ (.int .i64 x.size)).setCell ⟨g, 4, none⟩ (o)).setCell ⟨g, 5, none⟩ (i)).setCell ⟨g, 6, none⟩ (b)).setCell ⟨g, 7, none⟩ (.int .i64 x.dir)).setCell ⟨g, 8, none⟩ (.bool x.fin)).setCell ⟨g, 9, none⟩ (.bool x.bad)).setCell ⟨g, 10, none⟩ (.bool x.closed)) := by
  have e0 := Go.heap_setCell_same _ g 0 _ _ (.bool x.rd) h
  simp only [List.setIfInBounds_toArray, List.set_cons_zero] at e0
  have e1 := Go.heap_setCell_same _ g 1 _ _ (.bool x.wt) e0
  simp only [List.setIfInBounds_toArray, List.set_cons_zero, List.set_cons_succ] at e1
  have e2 := Go.heap_setCell_same _ g 2 _ _ (.int .i64 x.mode) e1
  simp only [List.setIfInBounds_toArray, List.set_cons_zero, List.set_cons_succ] at e2
  have e3 := Go.heap_setCell_same _ g 3 _ _ (.int .i64 x.size) e2
  simp only [List.setIfInBounds_toArray, List.set_cons_zero, List.set_cons_succ] at e3
  have e4 := Go.heap_setCell_same _ g 4 _ _ (o) e3
  simp only [List.setIfInBounds_toArray, List.set_cons_zero, List.set_cons_succ] at e4
  have e5 := Go.heap_setCell_same _ g 5 _ _ (i) e4
  simp only [List.setIfInBounds_toArray, List.set_cons_zero, List.set_cons_succ] at e5
  have e6 := Go.heap_setCell_same _ g 6 _ _ (b) e5
  simp only [List.setIfInBounds_toArray, List.set_cons_zero, List.set_cons_succ] at e6
  have e7 := Go.heap_setCell_same _ g 7 _ _ (.int .i64 x.dir) e6
  simp only [List.setIfInBounds_toArray, List.set_cons_zero, List.set_cons_succ] at e7
  have e8 := Go.heap_setCell_same _ g 8 _ _ (.bool x.fin) e7
  simp only [List.setIfInBounds_toArray, List.set_cons_zero, List.set_cons_succ] at e8
  have e9 := Go.heap_setCell_same _ g 9 _ _ (.bool x.bad) e8
  simp only [List.setIfInBounds_toArray, List.set_cons_zero, List.set_cons_succ] at e9
  have e10 := Go.heap_setCell_same _ g 10 _ _ (.bool x.closed) e9
  simp only [List.setIfInBounds_toArray, List.set_cons_zero, List.set_cons_succ] at e10
  exact ⟨e10, ((((((((((((Turned.refl (fun k => k = g) w).set (.inl rfl)).set (.inl rfl)).set (.inl rfl)).set (.inl rfl)).set (.inl rfl)).set (.inl rfl)).set (.inl rfl)).set (.inl rfl)).set (.inl rfl)).set (.inl rfl)).set (.inl rfl))⟩
set_option maxRecDepth 100000 in
set_option maxHeartbeats 40000000 in
theorem scopied_any (x : SS) (o i b : Value) (P : Nat → Prop) (w : World) (h : SIn w P x o i b) (ho : x.out.length ≤ 140737488351232) (hi : x.inn.length ≤ 140737488351232) (hb : x.back.length ≤ 140737488351232) :
    Calls Try.prog 38 #[.agg #[.bool x.rd, .bool x.wt, .int .i64 x.mode, .int .i64 x.size, o, i, b, .int .i64 x.dir, .bool x.fin, .bool x.bad, .bool x.closed]] w fun e w' => ∃ o' i' b', e = .returned (.agg #[.bool x.rd, .bool x.wt, .int .i64 x.mode, .int .i64 x.size, o', i', b', .int .i64 x.dir, .bool x.fin, .bool x.bad, .bool x.closed]) ∧ w'.ownsRow w.heap.size 5 1 o' x.out.length (x.out.map bv) ∧ w'.ownsRow w.heap.size 5 1 i' x.inn.length (x.inn.map bv) ∧ w'.ownsRow w.heap.size 5 1 b' x.back.length (x.back.map bv) ∧ Below w.heap.size w w' := by
  have HC1 := hide (fun W (hB : Below w.heap.size w W) => bclone_any o x.out W ((h.so.turned (Turned.of_below (S := fun _ => False) hB) (fun _ _ _ => id)).choose_spec.choose_spec.2.1) ho)
  have HC2 := hide (fun W (hB : Below w.heap.size w W) => bclone_any i x.inn W ((h.si.turned (Turned.of_below (S := fun _ => False) hB) (fun _ _ _ => id)).choose_spec.choose_spec.2.1) hi)
  have HC3 := hide (fun W (hB : Below w.heap.size w W) => bclone_any b x.back W ((h.sb.turned (Turned.of_below (S := fun _ => False) hB) (fun _ _ _ => id)).choose_spec.choose_spec.2.1) hb)
  obtain ⟨oa, oc, rfl, -⟩ := h.so
  obtain ⟨ia, ic, rfl, -⟩ := h.si
  obtain ⟨ba, bc, rfl, -⟩ := h.sb
  clear h
  go_enter Try.func38, Try.ntmps38
  go_wp2_with fail
  have HB0 := hide ((recv_below w (Obj.cells #[.bool x.rd, .bool x.wt, .int .i64 x.mode, .int .i64 x.size, .slice oa x.out.length oc, .slice ia x.inn.length ic, .slice ba x.back.length bc, .int .i64 x.dir, .bool x.fin, .bool x.bad, .bool x.closed] 29)).trans ((recv_below (w.alloc (Obj.cells #[.bool x.rd, .bool x.wt, .int .i64 x.mode, .int .i64 x.size, .slice oa x.out.length oc, .slice ia x.inn.length ic, .slice ba x.back.length bc, .int .i64 x.dir, .bool x.fin, .bool x.bad, .bool x.closed] 29)) (Obj.cells #[.bool false, .bool false, .int .i64 0, .int .i64 0, .slice none 0 0, .slice none 0 0, .slice none 0 0, .int .i64 0, .bool false, .bool false, .bool false] 29)).mono (recv_below w (Obj.cells #[.bool x.rd, .bool x.wt, .int .i64 x.mode, .int .i64 x.size, .slice oa x.out.length oc, .slice ia x.inn.length ic, .slice ba x.back.length bc, .int .i64 x.dir, .bool x.fin, .bool x.bad, .bool x.closed] 29)).size))
  have HS0 := hide ((StAt.new w x (.slice oa x.out.length oc) (.slice ia x.inn.length ic) (.slice ba x.back.length bc)).below (recv_below _ (Obj.cells #[.bool false, .bool false, .int .i64 0, .int .i64 0, .slice none 0 0, .slice none 0 0, .slice none 0 0, .int .i64 0, .bool false, .bool false, .bool false] 29)))
  have HZ0 : Hid (((w.alloc (Obj.cells #[.bool x.rd, .bool x.wt, .int .i64 x.mode, .int .i64 x.size, .slice oa x.out.length oc, .slice ia x.inn.length ic, .slice ba x.back.length bc, .int .i64 x.dir, .bool x.fin, .bool x.bad, .bool x.closed] 29)).alloc (Obj.cells #[.bool false, .bool false, .int .i64 0, .int .i64 0, .slice none 0 0, .slice none 0 0, .slice none 0 0, .int .i64 0, .bool false, .bool false, .bool false] 29)).heap[w.heap.size + 1]? = some (Obj.cells #[.bool false, .bool false, .int .i64 0, .int .i64 0, .slice none 0 0, .slice none 0 0, .slice none 0 0, .int .i64 0, .bool false, .bool false, .bool false] 29)) := hide (by have := heap_alloc_new (w.alloc (Obj.cells #[.bool x.rd, .bool x.wt, .int .i64 x.mode, .int .i64 x.size, .slice oa x.out.length oc, .slice ia x.inn.length ic, .slice ba x.back.length bc, .int .i64 x.dir, .bool x.fin, .bool x.bad, .bool x.closed] 29)) (Obj.cells #[.bool false, .bool false, .int .i64 0, .int .i64 0, .slice none 0 0, .slice none 0 0, .slice none 0 0, .int .i64 0, .bool false, .bool false, .bool false] 29); rw [show (w.alloc (Obj.cells #[.bool x.rd, .bool x.wt, .int .i64 x.mode, .int .i64 x.size, .slice oa x.out.length oc, .slice ia x.inn.length ic, .slice ba x.back.length bc, .int .i64 x.dir, .bool x.fin, .bool x.bad, .bool x.closed] 29)).heap.size = w.heap.size + 1 from Array.size_push ..] at this; exact this)
  generalize (w.alloc (Obj.cells #[.bool x.rd, .bool x.wt, .int .i64 x.mode, .int .i64 x.size, .slice oa x.out.length oc, .slice ia x.inn.length ic, .slice ba x.back.length bc, .int .i64 x.dir, .bool x.fin, .bool x.bad, .bool x.closed] 29)).alloc (Obj.cells #[.bool false, .bool false, .int .i64 0, .int .i64 0, .slice none 0 0, .slice none 0 0, .slice none 0 0, .int .i64 0, .bool false, .bool false, .bool false] 29) = w0 at *
  have hz0 : w.heap.size + 1 < w0.heap.size := (Array.getElem?_eq_some_iff.1 HZ0.out).1
  obtain ⟨-, -, -, -, c4, c5, c6, -⟩ := HS0.out.cs
  go_region_law (first
    | (go_simp; go_at_call 34; have := HB2; refine (HC3.out _ HB2.out).mono ?_; rintro _ w3 ⟨u3, rfl, hO3, hB3⟩; obtain ⟨a3, k3, rfl⟩ := owns_slice hO3; have HS3 := hide (HS2.out.below hB3); have HZ3 := hide ((hB3.block (w.heap.size + 1) (Array.getElem?_eq_some_iff.1 HZ2.out).1).trans HZ2.out); have HB3 := hide (HB2.out.trans (hB3.mono HB2.out.size)); have HO3 := hide (And.intro (And.intro (owns_below HO2.out.1 hB3) (owns_below HO2.out.2 hB3)) hO3); clear hO3 hB3; obtain ⟨f0, f1, f2, f3, f4, f5, f6, f7, f8, f9, f10⟩ := HS3.out.cs; have g4 := frozen_of_row w3 w.heap.size 4 _ _ HS3.out; have g5 := frozen_of_row w3 w.heap.size 5 _ _ HS3.out; have g6 := frozen_of_row w3 w.heap.size 6 _ _ HS3.out)
    | (go_simp; go_at_call 34; have := HB1; refine (HC2.out _ HB1.out).mono ?_; rintro _ w2 ⟨u2, rfl, hO2, hB2⟩; obtain ⟨a2, k2, rfl⟩ := owns_slice hO2; have HS2 := hide (HS1.out.below hB2); have HZ2 := hide ((hB2.block (w.heap.size + 1) (Array.getElem?_eq_some_iff.1 HZ1.out).1).trans HZ1.out); have HB2 := hide (HB1.out.trans (hB2.mono HB1.out.size)); have hs2 := hB2.size; have HO2 := hide (And.intro (owns_below HO1.out hB2) hO2); clear hO2 hB2; obtain ⟨-, -, -, -, e4, e5, e6, -⟩ := HS2.out.cs)
    | (go_simp; go_at_call 34; refine (HC1.out _ (by exact HB0.out.drew)).mono ?_; rintro _ w1 ⟨u1, rfl, hO1, hB1⟩; obtain ⟨a1, k1, rfl⟩ := owns_slice hO1; have HS1 := hide (HS0.out.below ((Below.refl _ _).drew.trans hB1)); have HZ1 := hide ((hB1.block (w.heap.size + 1) (Array.getElem?_eq_some_iff.1 HZ0.out).1).trans HZ0.out); have HB1 := hide (HB0.out.trans (((Below.refl _ _).drew.trans hB1).mono HB0.out.size)); have hs1 : w0.heap.size ≤ w1.heap.size := hB1.size; have HO1 := hide hO1; clear hO1 hB1; obtain ⟨-, -, -, -, d4, d5, d6, -⟩ := HS1.out.cs)
    | fail)
  all_goals
    have e4 := Go.heap_setCell_same w3 w.heap.size 4 _ _ (.slice a1 x.out.length k1) HS3.out
    have e5 := Go.heap_setCell_same _ w.heap.size 5 _ _ (.slice a2 x.inn.length k2) e4
    have e6 := Go.heap_setCell_same _ w.heap.size 6 _ _ (.slice a3 x.back.length k3) e5
    have HS4 : Hid (StAt (((w3.setCell ⟨w.heap.size, 4, none⟩ (.slice a1 x.out.length k1)).setCell ⟨w.heap.size, 5, none⟩ (.slice a2 x.inn.length k2)).setCell ⟨w.heap.size, 6, none⟩ (.slice a3 x.back.length k3)) w.heap.size x (.slice a1 x.out.length k1) (.slice a2 x.inn.length k2) (.slice a3 x.back.length k3)) := hide e6
    have HT4 : Hid (Turned (fun k => k = w.heap.size) w3 (((w3.setCell ⟨w.heap.size, 4, none⟩ (.slice a1 x.out.length k1)).setCell ⟨w.heap.size, 5, none⟩ (.slice a2 x.inn.length k2)).setCell ⟨w.heap.size, 6, none⟩ (.slice a3 x.back.length k3))) := hide ((((Turned.refl (fun k => k = w.heap.size) w3).set (.inl rfl)).set (.inl rfl)).set (.inl rfl))
    clear e4 e5 e6 f0 f1 f2 f3 f4 f5 f6 f7 f8 f9 f10 g4 g5 g6 c4 c5 c6 d4 d5 d6 HS0 HS1 HS2 HS3 HZ0 HZ1 HZ2 HC1 HC2 HC3
    generalize ((w3.setCell ⟨w.heap.size, 4, none⟩ (.slice a1 x.out.length k1)).setCell ⟨w.heap.size, 5, none⟩ (.slice a2 x.inn.length k2)).setCell ⟨w.heap.size, 6, none⟩ (.slice a3 x.back.length k3) = w4 at *
    have HZ4 := hide ((HT4.out.block (w.heap.size + 1) (Array.getElem?_eq_some_iff.1 HZ3.out).1 (by omega)).trans HZ3.out)
    obtain ⟨f0, f1, f2, f3, f4, f5, f6, f7, f8, f9, f10⟩ := HS4.out.cs
    have z0 := cell_of_row w4 (w.heap.size + 1) 0 _ _ _ HZ4.out
    have z1 := cell_of_row w4 (w.heap.size + 1) 1 _ _ _ HZ4.out
    have z2 := cell_of_row w4 (w.heap.size + 1) 2 _ _ _ HZ4.out
    have z3 := cell_of_row w4 (w.heap.size + 1) 3 _ _ _ HZ4.out
    have z4 := cell_of_row w4 (w.heap.size + 1) 4 _ _ _ HZ4.out
    have z5 := cell_of_row w4 (w.heap.size + 1) 5 _ _ _ HZ4.out
    have z6 := cell_of_row w4 (w.heap.size + 1) 6 _ _ _ HZ4.out
    have z7 := cell_of_row w4 (w.heap.size + 1) 7 _ _ _ HZ4.out
    have z8 := cell_of_row w4 (w.heap.size + 1) 8 _ _ _ HZ4.out
    have z9 := cell_of_row w4 (w.heap.size + 1) 9 _ _ _ HZ4.out
    have z10 := cell_of_row w4 (w.heap.size + 1) 10 _ _ _ HZ4.out
    have y0 := frozen_of_row w4 (w.heap.size + 1) 0 _ _ HZ4.out
    have y1 := frozen_of_row w4 (w.heap.size + 1) 1 _ _ HZ4.out
    have y2 := frozen_of_row w4 (w.heap.size + 1) 2 _ _ HZ4.out
    have y3 := frozen_of_row w4 (w.heap.size + 1) 3 _ _ HZ4.out
    have y4 := frozen_of_row w4 (w.heap.size + 1) 4 _ _ HZ4.out
    have y5 := frozen_of_row w4 (w.heap.size + 1) 5 _ _ HZ4.out
    have y6 := frozen_of_row w4 (w.heap.size + 1) 6 _ _ HZ4.out
    have y7 := frozen_of_row w4 (w.heap.size + 1) 7 _ _ HZ4.out
    have y8 := frozen_of_row w4 (w.heap.size + 1) 8 _ _ HZ4.out
    have y9 := frozen_of_row w4 (w.heap.size + 1) 9 _ _ HZ4.out
    have y10 := frozen_of_row w4 (w.heap.size + 1) 10 _ _ HZ4.out
    simp at z0 z1 z2 z3 z4 z5 z6 z7 z8 z9 z10
    go_wp2
    obtain ⟨e1, e2⟩ := st_fill w4 (w.heap.size + 1) x (.slice a1 x.out.length k1) (.slice a2 x.inn.length k2) (.slice a3 x.back.length k3) HZ4.out
    have HTw := hide ((HT4.out.mono fun k e => (.inl e : k = w.heap.size ∨ k = w.heap.size + 1)).trans (e2.mono fun k e => (.inr e : k = w.heap.size ∨ k = w.heap.size + 1)) (fun _ _ e => e))
    refine bodyPost_ret (results_cell_row rfl _ _ (w.heap.size + 1) _ _ _ _ rfl e1 Try.underlying29 rfl (by kernel_rfl)) rfl ?_
    have far : ∀ k, w.heap.size + 1 < k → ¬ (k = w.heap.size ∨ k = w.heap.size + 1) := fun k h e => by omega
    have hr1 := HO3.out.1.1
    have hr2 := HO3.out.1.2
    have hr3 := HO3.out.2
    have hs0 : w.heap.size + 1 < w0.drew.heap.size := hz0
    exact ⟨_, _, _, rfl, owns_mono (owns_turned hr1 HTw.out (fun k e => far k (by have := (hr1.lt k e).1; omega))) (by omega), owns_mono (owns_turned hr2 HTw.out (fun k e => far k (by have := (hr2.lt k e).1; omega))) (by omega), owns_mono (owns_turned hr3 HTw.out (fun k e => far k (by have := (hr3.lt k e).1; omega))) (by omega), (HTw.out.below (B := w.heap.size) (fun k e => by omega) HB3.out.size) |> HB3.out.trans⟩
end Go.Proofs.Ytmogciopaffccaa

/- Streams: a state on its way, in memory. -/
namespace Go.Proofs.Ytmogciopaffccaa
open Go.RowKit

def Way (W : World) (g : Nat) (x : SS) (o i b r : Value) : Prop := W.heap[g]? = some (.cells #[.bool x.rd, .bool x.wt, .int .i64 x.mode, .int .i64 x.size, o, i, b, .int .i64 x.dir, .bool x.fin, .bool x.bad, .bool x.closed, r] 69)
theorem Way.cs {W : World} {g : Nat} {x : SS} {o i b r : Value} (h : Way W g x o i b r) : W.cell? ⟨g, 0, none⟩ = some (.bool x.rd) ∧ W.cell? ⟨g, 1, none⟩ = some (.bool x.wt) ∧ W.cell? ⟨g, 2, none⟩ = some (.int .i64 x.mode) ∧ W.cell? ⟨g, 3, none⟩ = some (.int .i64 x.size) ∧ W.cell? ⟨g, 4, none⟩ = some (o) ∧ W.cell? ⟨g, 5, none⟩ = some (i) ∧ W.cell? ⟨g, 6, none⟩ = some (b) ∧ W.cell? ⟨g, 7, none⟩ = some (.int .i64 x.dir) ∧ W.cell? ⟨g, 8, none⟩ = some (.bool x.fin) ∧ W.cell? ⟨g, 9, none⟩ = some (.bool x.bad) ∧ W.cell? ⟨g, 10, none⟩ = some (.bool x.closed) ∧ W.cell? ⟨g, 11, none⟩ = some (r) :=
  ⟨cell_of_row W g 0 _ _ _ h, cell_of_row W g 1 _ _ _ h, cell_of_row W g 2 _ _ _ h, cell_of_row W g 3 _ _ _ h, cell_of_row W g 4 _ _ _ h, cell_of_row W g 5 _ _ _ h, cell_of_row W g 6 _ _ _ h, cell_of_row W g 7 _ _ _ h, cell_of_row W g 8 _ _ _ h, cell_of_row W g 9 _ _ _ h, cell_of_row W g 10 _ _ _ h, cell_of_row W g 11 _ _ _ h⟩
theorem Way.lt {W : World} {g : Nat} {x : SS} {o i b r : Value} (h : Way W g x o i b r) : g < W.heap.size := (Array.getElem?_eq_some_iff.1 h).1
theorem Way.soft {W : World} {g : Nat} {x : SS} {o i b r : Value} (h : Way W g x o i b r) (j : Nat) : W.frozen? ⟨g, j, none⟩ = false := frozen_of_row W g j _ _ h
theorem Way.set {W : World} {g : Nat} {x x' : SS} {o i b o' i' b' r : Value} (h : Way W g x o i b r) (j : Nat) (u : Value) (hl : ([.bool x.rd, .bool x.wt, .int .i64 x.mode, .int .i64 x.size, o, i, b, .int .i64 x.dir, .bool x.fin, .bool x.bad, .bool x.closed, r] : List Value).set j u = [.bool x'.rd, .bool x'.wt, .int .i64 x'.mode, .int .i64 x'.size, o', i', b', .int .i64 x'.dir, .bool x'.fin, .bool x'.bad, .bool x'.closed, r]) : Way (W.setCell ⟨g, j, none⟩ u) g x' o' i' b' r := by
  have := Go.heap_setCell_same W g j _ _ u h
  unfold Way
  rw [this]
  simp only [List.setIfInBounds_toArray, hl]
structure On {S : Type} (At : World → (Nat → Prop) → S → Prop) (W : World) (O : Nat → Prop) (s : S) (B g : Nat) (x : SS) (o i b r : Value) : Prop where
  way : Way W g x o i b r
  ls : SIn W (fun k => B ≤ k ∧ ¬ O k ∧ k ≠ g ∧ k < W.heap.size) x o i b
  raw : At W O s
  og : ¬ O g
  gB : B ≤ g
  ol : ∀ j, O j → j < W.heap.size
theorem marked_any (x : SS) (g : Nat) (e : Int) (o i b r : Value) (w : World) (h : Way w g x o i b r) : Calls Try.prog 42 #[.pointer (some ⟨g, 0, none⟩), .int .i64 e] w fun en w' => en = .returned (.int .i64 e) ∧ Way w' g (x.mark e) o i b r ∧ Turned (fun k => k = g) w w' := by
  have HW := hide h
  have g9 := h.soft 9
  have c9 := h.cs.2.2.2.2.2.2.2.2.2.1
  clear h
  obtain ⟨y, hy⟩ : ∃ y, y = x.mark e := ⟨_, rfl⟩
  rw [← hy]
  unfold SS.mark at hy
  by_cases h0 : e = 0
  · subst h0
    have HY : Hid (y = x) := hide (by rw [hy, if_pos (.inl rfl)])
    clear hy
    go_enter Try.func42, Try.ntmps42
    go_wp2
    go_ret
    exact ⟨rfl, by rw [HY.out]; exact HW.out, Turned.refl _ _⟩
  by_cases h1 : e = 52
  · subst h1
    have HY : Hid (y = x) := hide (by rw [hy, if_pos (.inr rfl)])
    clear hy
    go_enter Try.func42, Try.ntmps42
    go_wp2
    go_ret
    exact ⟨rfl, by rw [HY.out]; exact HW.out, Turned.refl _ _⟩
  have HY : Hid (y = { x with bad := true }) := hide (by rw [hy, if_neg (by intro h; rcases h with h | h; exact h0 h; exact h1 h)])
  clear hy
  have h2 : (e == 0) = false := by simp [h0]
  have h3 : (e == 52) = false := by simp [h1]
  have h4 : (e != 0) = true := by simp [h0]
  have h5 : (e != 52) = true := by simp [h1]
  go_enter Try.func42, Try.ntmps42
  go_wp2
  go_ret
  exact ⟨rfl, by rw [HY.out]; exact HW.out.set 9 (.bool true) rfl, (Turned.refl _ _).set (.inl rfl)⟩
theorem Way.below {W W' : World} {g : Nat} {x : SS} {o i b r : Value} (h : Way W g x o i b r) (hB : Below W.heap.size W W') : Way W' g x o i b r := (hB.block g h.lt).trans h
theorem Way.turned {P : Nat → Prop} {W W' : World} {g : Nat} {x : SS} {o i b r : Value} (h : Way W g x o i b r) (hT : Turned P W W') (hg : ¬ P g) : Way W' g x o i b r := (hT.block g h.lt hg).trans h
theorem drewN_below (w : World) (n : Nat) : Below w.heap.size w (w.drewN n) := ⟨rfl, rfl, rfl, Nat.le_refl _, fun _ _ => rfl⟩
theorem isFull_any (x : SS) (g : Nat) (oa : Option Addr) (oc : Nat) (i b r : Value) (w : World) (h : Way w g x (.slice oa x.out.length oc) i b r) : Calls Try.prog 43 #[.pointer (some ⟨g, 0, none⟩)] w fun en w' => en = .returned (.bool (decide ((x.out.length : Int) = x.size))) ∧ Below w.heap.size w w' := by
  obtain ⟨c0, c1, c2, c3, c4, c5, c6, c7, c8, c9, c10, c11⟩ := h.cs
  clear h
  generalize hr : decide ((x.out.length : Int) = x.size) = q
  by_cases he : (x.out.length : Int) = x.size
  · have HR : Hid (true = q) := hide (by rw [← hr, decide_eq_true he])
    have hq : ((x.out.length : Int) == x.size) = true := by simp [he]
    clear hr he
    go_enter Try.func43, Try.ntmps43
    go_wp2
    go_quiet (fail)
    go_wp2
    go_ret
    exact ⟨by rw [← HR.out]; rfl, drewN_below _ _⟩
  · have HR : Hid (false = q) := hide (by rw [← hr, decide_eq_false he])
    have hq : ((x.out.length : Int) == x.size) = false := by simp [he]
    clear hr he
    go_enter Try.func43, Try.ntmps43
    go_wp2
    go_quiet (fail)
    go_wp2
    go_ret
    exact ⟨by rw [← HR.out]; rfl, drewN_below _ _⟩
set_option maxHeartbeats 1000000 in
theorem isReadOut_any (x : SS) (g : Nat) (ia ba : Option Addr) (ic bc : Nat) (o r : Value) (w : World) (h : Way w g x o (.slice ia x.inn.length ic) (.slice ba x.back.length bc) r) (hi : x.inn.length ≤ 140737488351232) (hb : x.back.length ≤ 140737488351232) : Calls Try.prog 40 #[.pointer (some ⟨g, 0, none⟩)] w fun en w' => en = .returned (.bool (x.fin && decide ((x.inn.length : Int) + (x.back.length : Int) = 0))) ∧ Below w.heap.size w w' := by
  obtain ⟨c0, c1, c2, c3, c4, c5, c6, c7, c8, c9, c10, c11⟩ := h.cs
  clear h
  generalize hr : (x.fin && decide ((x.inn.length : Int) + (x.back.length : Int) = 0)) = q
  rcases Bool.eq_false_or_eq_true x.fin with hf | hf
  · rw [hf] at c8 hr
    by_cases he : (x.inn.length : Int) + (x.back.length : Int) = 0
    · have HR : Hid (true = q) := hide (by rw [← hr, decide_eq_true he]; rfl)
      have hq : ((x.inn.length : Int) + (x.back.length : Int) == 0) = true := by simp [he]
      clear hr he hf
      go_enter Try.func40, Try.ntmps40
      go_wp2
      go_quiet (fail)
      go_wp2
      go_ret
      exact ⟨by rw [← HR.out]; rfl, drewN_below _ _⟩
    · have HR : Hid (false = q) := hide (by rw [← hr, decide_eq_false he]; rfl)
      have hq : ((x.inn.length : Int) + (x.back.length : Int) == 0) = false := by simp only [beq_eq_false_iff_ne]; exact he
      clear hr he hf
      go_enter Try.func40, Try.ntmps40
      go_wp2
      go_quiet (fail)
      go_wp2
      go_ret
      exact ⟨by rw [← HR.out]; rfl, drewN_below _ _⟩
  · rw [hf] at c8 hr
    have HR : Hid (false = q) := hide hr
    clear hr hf
    go_enter Try.func40, Try.ntmps40
    go_wp2
    go_quiet (fail)
    go_wp2
    go_ret
    exact ⟨by rw [← HR.out]; rfl, drewN_below _ _⟩
set_option maxRecDepth 100000 in
set_option maxHeartbeats 1000000 in
theorem wrefusal_any (x : SS) (g : Nat) (oa ia ba : Option Addr) (oc ic bc : Nat) (T : TypeId) (v : Value) (w : World) (h : Way w g x (.slice oa x.out.length oc) (.slice ia x.inn.length ic) (.slice ba x.back.length bc) (.iface T v)) (hi : x.inn.length ≤ 140737488351232) (hb : x.back.length ≤ 140737488351232) : Calls Try.prog 39 #[.pointer (some ⟨g, 0, none⟩)] w fun en w' => en = .returned (.int .i64 (x.refuse true)) ∧ Below w.heap.size w w' := by
  obtain ⟨c0, c1, c2, c3, c4, c5, c6, c7, c8, c9, c10, c11⟩ := h.cs
  have HC := hide (fun W => srefusal_any x true oa ia ba oc ic bc W hi hb)
  have HK := hide (fun (w' : World) (hB : Below w.heap.size w w') => (show w'.cell? ⟨g, 0, none⟩ = some (.bool x.rd) ∧ w'.cell? ⟨g, 1, none⟩ = some (.bool x.wt) ∧ w'.cell? ⟨g, 2, none⟩ = some (.int .i64 x.mode) ∧ w'.cell? ⟨g, 3, none⟩ = some (.int .i64 x.size) ∧ w'.cell? ⟨g, 4, none⟩ = some (.slice oa x.out.length oc) ∧ w'.cell? ⟨g, 5, none⟩ = some (.slice ia x.inn.length ic) ∧ w'.cell? ⟨g, 6, none⟩ = some (.slice ba x.back.length bc) ∧ w'.cell? ⟨g, 7, none⟩ = some (.int .i64 x.dir) ∧ w'.cell? ⟨g, 8, none⟩ = some (.bool x.fin) ∧ w'.cell? ⟨g, 9, none⟩ = some (.bool x.bad) ∧ w'.cell? ⟨g, 10, none⟩ = some (.bool x.closed) ∧ w'.cell? ⟨g, 11, none⟩ = some (.iface T v) from (h.below hB).cs))
  clear h c0 c1 c2 c3 c4 c5 c6 c7 c8 c9 c10 c11
  go_enter Try.func39, Try.ntmps39
  go_wp2_with fail
  go_region_held3 (fun w' => w'.cell? ⟨g, 0, none⟩ = some (.bool x.rd) ∧ w'.cell? ⟨g, 1, none⟩ = some (.bool x.wt) ∧ w'.cell? ⟨g, 2, none⟩ = some (.int .i64 x.mode) ∧ w'.cell? ⟨g, 3, none⟩ = some (.int .i64 x.size) ∧ w'.cell? ⟨g, 4, none⟩ = some (.slice oa x.out.length oc) ∧ w'.cell? ⟨g, 5, none⟩ = some (.slice ia x.inn.length ic) ∧ w'.cell? ⟨g, 6, none⟩ = some (.slice ba x.back.length bc) ∧ w'.cell? ⟨g, 7, none⟩ = some (.int .i64 x.dir) ∧ w'.cell? ⟨g, 8, none⟩ = some (.bool x.fin) ∧ w'.cell? ⟨g, 9, none⟩ = some (.bool x.bad) ∧ w'.cell? ⟨g, 10, none⟩ = some (.bool x.closed) ∧ w'.cell? ⟨g, 11, none⟩ = some (.iface T v)) (first | exact HK.out _ (Below.refl _ _).drew | exact HK.out _ HB1.out) (first | (go_at_call 54; refine (HC.out _).mono ?_; rintro _ w1 ⟨rfl, hB1⟩; have HB1 := hide ((Below.refl _ _).drew.trans hB1)) | fail)
  go_wp2
  go_ret
  exact ⟨rfl, HB1.out⟩
end Go.Proofs.Ytmogciopaffccaa

/- Streams: a state is turned to writing, to reading. -/
namespace Go.Proofs.Ytmogciopaffccaa
open Go.RowKit

set_option maxRecDepth 100000 in
set_option maxHeartbeats 2000000 in
theorem turnToWriting_any (x : SS) (g : Nat) (oa ia ba : Option Addr) (oc ic bc : Nat) (T : TypeId) (v : Value) (w : World) (h : Way w g x (.slice oa x.out.length oc) (.slice ia x.inn.length ic) (.slice ba x.back.length bc) (.iface T v)) (hi : x.inn.length ≤ 140737488351232) (hb : x.back.length ≤ 140737488351232) :
    Calls Try.prog 25 #[.pointer (some ⟨g, 0, none⟩)] w fun en w' => en = .returned (.int .i64 x.noWrite) ∧ Way w' g (if x.noWrite = 0 then { x with dir := 2 } else x) (.slice oa x.out.length oc) (.slice ia x.inn.length ic) (.slice ba x.back.length bc) (.iface T v) ∧ Turned (fun k => k = g) w w' := by
  have HC := hide (wrefusal_any x g oa ia ba oc ic bc T v w h hi hb)
  have HW := hide h
  clear h
  generalize hn : x.noWrite = q
  unfold SS.noWrite at hn
  by_cases h0 : x.refuse true = 0
  case neg =>
    rw [if_pos h0] at hn
    subst hn
    have HN := hide h0
    have HE : Hid (x.refuse true = x.refuse true) := hide rfl
    generalize hrr : x.refuse true = rr at *
    have h2 : (rr != 0) = true := by simp [h0]
    have h3 : ¬ rr = 0 := h0
    clear h0 hrr
    go_enter Try.func25, Try.ntmps25
    go_wp2_with fail
    refine (HC.out).mono ?_
    rintro _ w1 ⟨rfl, hB1⟩
    have HW1 := hide (HW.out.below hB1)
    have HB1 := hide hB1
    clear hB1
    go_wp2
    go_ret
    exact ⟨rfl, by first | exact HW1.out | (rw [if_neg HN.out]; exact HW1.out), Turned.of_below HB1.out⟩
  rw [if_neg (by simp [h0])] at hn
  have HE := hide h0
  clear h0
  rcases Bool.eq_false_or_eq_true x.wt with hf | hf
  case inr =>
    rw [if_pos hf] at hn
    subst hn
    have HF := hide hf
    clear hf
    go_enter Try.func25, Try.ntmps25
    go_wp2_with fail
    refine (HC.out).mono ?_
    rintro _ w1 ⟨rfl, hB1⟩
    rw [HE.out]
    have HW1 := hide (HW.out.below hB1)
    have HB1 := hide hB1
    clear hB1
    obtain ⟨c0, c1, c2, c3, c4, c5, c6, c7, c8, c9, c10, c11⟩ := HW1.out.cs
    rw [HF.out] at c1
    go_wp2
    go_ret
    exact ⟨rfl, by first | exact HW1.out | (rw [if_neg (by decide)]; exact HW1.out), Turned.of_below HB1.out⟩
  rw [if_neg (by simp [hf])] at hn
  have HF := hide hf
  clear hf
  by_cases hd : x.dir = 1
  · have HD := hide hd
    by_cases hq : x.fin = true ∧ (x.inn.length : Int) + (x.back.length : Int) = 0
    · rw [if_neg (by simp [hq])] at hn
      subst hn
      have HQ : Hid ((x.fin && decide ((x.inn.length : Int) + (x.back.length : Int) = 0)) = true) := hide (by simp [hq])
      clear hq hd
      go_enter Try.func25, Try.ntmps25
      go_wp2_with fail
      refine (HC.out).mono ?_
      rintro _ w1 ⟨rfl, hB1⟩
      rw [HE.out]
      have HW1 := hide (HW.out.below hB1)
      have HB1 := hide hB1
      clear hB1
      obtain ⟨c0, c1, c2, c3, c4, c5, c6, c7, c8, c9, c10, c11⟩ := HW1.out.cs
      have g7 := HW1.out.soft 7
      rw [HF.out] at c1
      rw [HD.out] at c7
      go_wp2_with fail
      refine (isReadOut_any x g ia ba ic bc _ _ w1 HW1.out hi hb).mono ?_
      rintro _ w2 ⟨rfl, hB2⟩
      rw [HQ.out]
      have HW2 := hide (HW1.out.below hB2)
      have HB2 := hide (HB1.out.trans (hB2.mono HB1.out.size))
      clear hB2 c0 c1 c2 c3 c4 c5 c6 c7 c8 c9 c10 c11 g7
      obtain ⟨c0, c1, c2, c3, c4, c5, c6, c7, c8, c9, c10, c11⟩ := HW2.out.cs
      have g7 := HW2.out.soft 7
      go_wp2
      go_ret
      exact ⟨rfl, by first | exact HW2.out.set 7 (.int .i64 2) rfl | (rw [if_pos rfl]; exact HW2.out.set 7 (.int .i64 2) rfl), (Turned.of_below HB2.out).set (.inl rfl)⟩
    · rw [if_pos ⟨hd, hq⟩] at hn
      subst hn
      have HQ : Hid ((x.fin && decide ((x.inn.length : Int) + (x.back.length : Int) = 0)) = false) := hide (by
        cases hfi : x.fin with
        | false => rfl
        | true => rw [Bool.true_and]; exact decide_eq_false fun e => hq ⟨hfi, e⟩)
      clear hq hd
      go_enter Try.func25, Try.ntmps25
      go_wp2_with fail
      refine (HC.out).mono ?_
      rintro _ w1 ⟨rfl, hB1⟩
      rw [HE.out]
      have HW1 := hide (HW.out.below hB1)
      have HB1 := hide hB1
      clear hB1
      obtain ⟨c0, c1, c2, c3, c4, c5, c6, c7, c8, c9, c10, c11⟩ := HW1.out.cs
      rw [HF.out] at c1
      rw [HD.out] at c7
      go_wp2_with fail
      refine (isReadOut_any x g ia ba ic bc _ _ w1 HW1.out hi hb).mono ?_
      rintro _ w2 ⟨rfl, hB2⟩
      rw [HQ.out]
      have HW2 := hide (HW1.out.below hB2)
      have HB2 := hide (HB1.out.trans (hB2.mono HB1.out.size))
      clear hB2 c0 c1 c2 c3 c4 c5 c6 c7 c8 c9 c10 c11
      go_wp2
      go_ret
      exact ⟨rfl, by first | exact HW2.out | (rw [if_neg (by decide)]; exact HW2.out), Turned.of_below HB2.out⟩
  rw [if_neg (fun h => hd h.1)] at hn
  subst hn
  have hd2 : (x.dir == 1) = false := by simp [hd]
  go_enter Try.func25, Try.ntmps25
  go_wp2_with fail
  refine (HC.out).mono ?_
  rintro _ w1 ⟨rfl, hB1⟩
  rw [HE.out]
  have HW1 := hide (HW.out.below hB1)
  have HB1 := hide hB1
  clear hB1
  obtain ⟨c0, c1, c2, c3, c4, c5, c6, c7, c8, c9, c10, c11⟩ := HW1.out.cs
  have g7 := HW1.out.soft 7
  rw [HF.out] at c1
  go_wp2
  go_ret
  exact ⟨rfl, by first | exact HW1.out.set 7 (.int .i64 2) rfl | (rw [if_pos rfl]; exact HW1.out.set 7 (.int .i64 2) rfl), (Turned.of_below HB1.out).set (.inl rfl)⟩
set_option maxRecDepth 100000 in
set_option maxHeartbeats 2000000 in
theorem turnToReading_any (x : SS) (g : Nat) (oa ia ba : Option Addr) (oc ic bc : Nat) (T : TypeId) (v : Value) (w : World) (h : Way w g x (.slice oa x.out.length oc) (.slice ia x.inn.length ic) (.slice ba x.back.length bc) (.iface T v)) (hi : x.inn.length ≤ 140737488351232) (hb : x.back.length ≤ 140737488351232) :
    Calls Try.prog 77 #[.pointer (some ⟨g, 0, none⟩)] w fun en w' => en = .returned (.int .i64 x.noRead) ∧ Way w' g (if x.noRead = 0 then { x with dir := 1 } else x) (.slice oa x.out.length oc) (.slice ia x.inn.length ic) (.slice ba x.back.length bc) (.iface T v) ∧ Turned (fun k => k = g) w w' := by
  have HC := hide (wrefusal_any x g oa ia ba oc ic bc T v w h hi hb)
  have HW := hide h
  clear h
  generalize hn : x.noRead = q
  unfold SS.noRead at hn
  by_cases h0 : x.refuse true = 0
  case neg =>
    rw [if_pos h0] at hn
    subst hn
    have HN := hide h0
    have HE : Hid (x.refuse true = x.refuse true) := hide rfl
    generalize hrr : x.refuse true = rr at *
    have h2 : (rr != 0) = true := by simp [h0]
    have h3 : ¬ rr = 0 := h0
    clear h0 hrr
    go_enter Try.func77, Try.ntmps77
    go_wp2_with fail
    refine (HC.out).mono ?_
    rintro _ w1 ⟨rfl, hB1⟩
    have HW1 := hide (HW.out.below hB1)
    have HB1 := hide hB1
    clear hB1
    go_wp2
    go_ret
    exact ⟨rfl, by first | exact HW1.out | (rw [if_neg HN.out]; exact HW1.out), Turned.of_below HB1.out⟩
  rw [if_neg (by simp [h0])] at hn
  have HE := hide h0
  clear h0
  rcases Bool.eq_false_or_eq_true x.rd with hf | hf
  case inr =>
    rw [if_pos hf] at hn
    subst hn
    have HF := hide hf
    clear hf
    go_enter Try.func77, Try.ntmps77
    go_wp2_with fail
    refine (HC.out).mono ?_
    rintro _ w1 ⟨rfl, hB1⟩
    rw [HE.out]
    have HW1 := hide (HW.out.below hB1)
    have HB1 := hide hB1
    clear hB1
    obtain ⟨c0, c1, c2, c3, c4, c5, c6, c7, c8, c9, c10, c11⟩ := HW1.out.cs
    rw [HF.out] at c0
    go_wp2
    go_ret
    exact ⟨rfl, by first | exact HW1.out | (rw [if_neg (by decide)]; exact HW1.out), Turned.of_below HB1.out⟩
  rw [if_neg (by simp [hf])] at hn
  have HF := hide hf
  clear hf
  by_cases hd : x.dir = 2
  · rw [if_pos hd] at hn
    subst hn
    have HD := hide hd
    clear hd
    go_enter Try.func77, Try.ntmps77
    go_wp2_with fail
    refine (HC.out).mono ?_
    rintro _ w1 ⟨rfl, hB1⟩
    rw [HE.out]
    have HW1 := hide (HW.out.below hB1)
    have HB1 := hide hB1
    clear hB1
    obtain ⟨c0, c1, c2, c3, c4, c5, c6, c7, c8, c9, c10, c11⟩ := HW1.out.cs
    rw [HF.out] at c0
    rw [HD.out] at c7
    go_wp2
    go_ret
    exact ⟨rfl, by first | exact HW1.out | (rw [if_neg (by decide)]; exact HW1.out), Turned.of_below HB1.out⟩
  rw [if_neg hd] at hn
  subst hn
  have hd2 : (x.dir == 2) = false := by simp [hd]
  go_enter Try.func77, Try.ntmps77
  go_wp2_with fail
  refine (HC.out).mono ?_
  rintro _ w1 ⟨rfl, hB1⟩
  rw [HE.out]
  have HW1 := hide (HW.out.below hB1)
  have HB1 := hide hB1
  clear hB1
  obtain ⟨c0, c1, c2, c3, c4, c5, c6, c7, c8, c9, c10, c11⟩ := HW1.out.cs
  have g7 := HW1.out.soft 7
  rw [HF.out] at c0
  go_wp2
  go_ret
  exact ⟨rfl, by first | exact HW1.out.set 7 (.int .i64 1) rfl | (rw [if_pos rfl]; exact HW1.out.set 7 (.int .i64 1) rfl), (Turned.of_below HB1.out).set (.inl rfl)⟩
end Go.Proofs.Ytmogciopaffccaa

/- Streams: what was put is delivered. -/
namespace Go.Proofs.Ytmogciopaffccaa
open Go.RowKit

theorem On.step {S : Type} {At : World → (Nat → Prop) → S → Prop} (hT : ∀ s, OAt (fun w O => At w O s)) {w w1 : World} {O : Nat → Prop} {s s' : S} {B g : Nat} {x : SS} {o i b r : Value} (h : On At w O s B g x o i b r) (hS : RStep At w O s' w1) : ∃ O', On At w1 O' s' B g x o i b r ∧ (∀ k, O' k → O k ∨ w.heap.size ≤ k) ∧ Turned O w w1 := by
  obtain ⟨O', h1, h2, h3⟩ := hS
  have hz := h3.size
  refine ⟨fun k => O' k ∧ k < w1.heap.size, ⟨h.way.turned h3 h.og, (h.ls.turned h3 fun k e _ => e.2.1).mono fun k e => ⟨e.1, fun e' => ?_, e.2.2.1, by have := e.2.2.2; omega⟩, (hT s').trim h1, fun e => ?_, h.gB, fun j e => e.2⟩, fun k e => h2 k e.1, h3⟩
  · rcases h2 k e'.1 with e2 | e2
    · exact e.2.1 e2
    · have := e.2.2.2; omega
  · rcases h2 g e.1 with e2 | e2
    · exact h.og e2
    · have := h.way.lt; omega
theorem On.below {S : Type} {At : World → (Nat → Prop) → S → Prop} (hT : ∀ s, OAt (fun w O => At w O s)) {w w1 : World} {O : Nat → Prop} {s : S} {B g : Nat} {x : SS} {o i b r : Value} (h : On At w O s B g x o i b r) (hB : Below w.heap.size w w1) : On At w1 O s B g x o i b r := by
  have hz := hB.size
  exact ⟨h.way.below hB, (h.ls.below hB).mono fun k e => ⟨e.1, e.2.1, e.2.2.1, by have := e.2.2.2; omega⟩, (hT s).keep h.raw (fun j _ hj => hB.block j hj) hz, h.og, h.gB, fun j e => Nat.lt_of_lt_of_le (h.ol j e) hz⟩
theorem On.at {S : Type} {At : World → (Nat → Prop) → S → Prop} (hT : ∀ s, OAt (fun w O => At w O s)) {w w1 : World} {O : Nat → Prop} {s : S} {B g : Nat} {x x' : SS} {o i b o' i' b' r r' : Value} (h : On At w O s B g x o i b r) (hw : Way w1 g x' o' i' b' r') (hT1 : Turned (fun k => k = g) w w1) (hl : SIn w (fun k => B ≤ k ∧ ¬ O k ∧ k ≠ g ∧ k < w.heap.size) x' o' i' b') : On At w1 O s B g x' o' i' b' r' := by
  have hz := hT1.size
  exact ⟨hw, (hl.turned hT1 fun k e _ => e.2.2.1).mono fun k e => ⟨e.1, e.2.1, e.2.2.1, by have := e.2.2.2; omega⟩, (hT s).keep h.raw (fun j e hj => hT1.block j hj (fun e' => h.og (e' ▸ e))) hz, h.og, h.gB, fun j e => Nat.lt_of_lt_of_le (h.ol j e) hz⟩
theorem SIn.mark {W : World} {P : Nat → Prop} {x : SS} {o i b : Value} {e : Int} (h : SIn W P x o i b) : SIn W P (x.mark e) o i b := by
  unfold SS.mark
  split
  · exact h
  · exact ⟨h.so, h.si, h.sb, h.po, h.pi, h.pb⟩
set_option maxRecDepth 100000 in
set_option maxHeartbeats 4000000 in
theorem deliver_any {S : Type} {D : RawD S} {T : TypeId} {v : Value} {fr fw : FuncId} {rok wok : S → Prop} {At : World → (Nat → Prop) → S → Prop} (R : RawM D T v fr fw rok wok At) (hT : ∀ s, OAt (fun w O => At w O s)) {w : World} {O : Nat → Prop} {s : S} {B g : Nat} {x : SS} {o i b : Value} (h : On At w O s B g x o i b (.iface T v)) (hl : x.out.length ≤ 65536) (hok : putOk D wok x.out (putF x.out) s 0 0) :
    Calls Try.prog 44 #[.pointer (some ⟨g, 0, none⟩)] w fun en w' => en = .returned (.int .i64 (x.deliver D s).2.1) ∧ ∃ o' O', On At w' O' (x.deliver D s).2.2 B g (x.deliver D s).1 o' i b (.iface T v) ∧ ((x.deliver D s).2.1 = 0 → o' = .slice none 0 0) ∧ (∀ k, O' k → O k ∨ w.heap.size ≤ k) ∧ Turned (fun k => O k ∨ k = g) w w' := by
  obtain ⟨oa, oc, rfl, hby, hcap⟩ := h.ls.so
  have HP := hide (fun (W : World) (hW : Below w.heap.size w W) => rput_any R (w := W) (O := O) (s := s) x.out oa oc (R.keep h.raw (fun j _ hj => hW.block j hj) hW.size) (fun j e => Nat.lt_of_lt_of_le (h.ol j e) hW.size) (hby.below hW) hcap (by omega) (fun _ k e => (h.ls.po k e).2.1) hok)
  have HH := hide h
  have hfit := putV_fits D x.out s
  have HAll := hide (putV_all D x.out s)
  have HV : Hid (x.deliver D s = (({ x with out := x.out.drop (putV D x.out (putF x.out) s 0 0).1 } : SS).mark (putV D x.out (putF x.out) s 0 0).2.1, (putV D x.out (putF x.out) s 0 0).2.1, (putV D x.out (putF x.out) s 0 0).2.2)) := hide rfl
  obtain ⟨dx, de, ds, hd⟩ : ∃ dx de ds, x.deliver D s = (dx, de, ds) := ⟨_, _, _, rfl⟩
  rw [hd] at HV ⊢
  clear hd
  generalize putV D x.out (putF x.out) s 0 0 = X at *
  obtain ⟨n, e, s2⟩ := X
  simp only at HV hfit HAll HP ⊢
  obtain ⟨rfl, rfl, rfl⟩ : dx = ({ x with out := x.out.drop n } : SS).mark e ∧ de = e ∧ ds = s2 := by
    have := HV.out
    simp only [Prod.mk.injEq] at this
    exact this
  have HK := hide (fun (W : World) (hW : Below w.heap.size w W) => (show W.cell? ⟨g, 4, none⟩ = some (.slice oa x.out.length oc) ∧ W.cell? ⟨g, 11, none⟩ = some (.iface T v) from ⟨(h.way.below hW).cs.2.2.2.2.1, (h.way.below hW).cs.2.2.2.2.2.2.2.2.2.2.2⟩))
  clear h hby HV hok
  go_enter Try.func44, Try.ntmps44
  go_wp2_with fail
  go_region_held3 (fun W => W.cell? ⟨g, 4, none⟩ = some (.slice oa x.out.length oc) ∧ W.cell? ⟨g, 11, none⟩ = some (.iface T v)) (first | exact HK.out _ (Below.refl _ _).drew | exact HK1.out) (first | (go_at_call 41; refine (HP.out _ (Below.refl _ _).drew).mono ?_; rintro _ w1 ⟨rfl, hS⟩; obtain ⟨O1, hO1, hO2, hO3⟩ := On.step hT (On.below hT HH.out (Below.refl _ _).drew) hS; have HK1 := hide (And.intro hO1.way.cs.2.2.2.2.1 hO1.way.cs.2.2.2.2.2.2.2.2.2.2.2); have HO1 := hide hO1; have HO2 := hide hO2; have HO3 := hide ((Turned.of_below (S := O) (Below.refl _ w).drew).trans hO3 (fun _ _ e => e)); clear hO1 hO2 hO3 hS) | fail)
  have hs1 : w.heap.size ≤ w1.heap.size := HO3.out.size
  have c4 := HO1.out.way.cs.2.2.2.2.1
  have g4 := HO1.out.way.soft 4
  clear HP HK HK1
  go_wp2_with fail
  refine (behind_any x.out _ n w1 HO1.out.ls.so hfit).mono ?_
  rintro _ _ ⟨u, rfl, hu, hub, hnil, rfl⟩
  have HNil : Hid (de = 0 → u = .slice none 0 0) := hide (fun e => hnil (HAll.out e))
  obtain ⟨L, hL⟩ : ∃ L, L = x.out.drop n := ⟨_, rfl⟩
  rw [← hL] at hu
  have HL := hide hL
  clear hL
  have hu2 := hu
  obtain ⟨ua, uc, rfl, -⟩ := hu2
  have HW2 := hide (HO1.out.way.set (x' := { x with out := L }) (o' := .slice ua L.length uc) (i' := i) (b' := b) 4 (.slice ua L.length uc) rfl)
  have HOn2 := hide (On.at hT HO1.out HW2.out ((Turned.refl (fun k => k = g) w1).set (.inl rfl)) ⟨hu, HO1.out.ls.si, HO1.out.ls.sb, fun k e => HO1.out.ls.po k (hub k e), HO1.out.ls.pi, HO1.out.ls.pb⟩)
  have HT2 : Hid (Turned (fun k => O k ∨ k = g) w (w1.setCell ⟨g, 4, none⟩ (.slice ua L.length uc))) := hide ((HO3.out.mono fun k e => .inl e).set (.inl (.inr rfl)))
  clear hu hub hnil
  go_wp2_with fail
  refine (marked_any _ g de _ i b _ _ HW2.out).mono ?_
  rintro _ w3 ⟨rfl, hW3, hT3⟩
  have HOn3 := hide (On.at hT HOn2.out hW3 hT3 HOn2.out.ls.mark)
  have HT3 := hide (HT2.out.trans hT3 (fun _ _ e => .inr e))
  clear hW3 hT3
  go_wp2
  go_ret
  exact ⟨rfl, _, O1, by rw [← HL.out]; exact HOn3.out, HNil.out, HO2.out, HT3.out⟩
end Go.Proofs.Ytmogciopaffccaa

/- Streams: a byte is put. -/
namespace Go.Proofs.Ytmogciopaffccaa
open Go.RowKit

def WStep {S : Type} (At : World → (Nat → Prop) → S → Prop) (w : World) (O : Nat → Prop) (B g : Nat) (r : Value) (x : SS) (s : S) (w' : World) : Prop := ∃ o i b O', On At w' O' s B g x o i b r ∧ (∀ k, O' k → O k ∨ w.heap.size ≤ k) ∧ Turned (fun k => O k ∨ B ≤ k) w w'
theorem one_bys {W : World} {a : Nat} {c : UInt8} (hc : W.cell? ⟨a, 0, none⟩ = some (.int .u8 (c.toNat : Int))) : Bys W (.slice (some ⟨a, 0, none⟩) [c].length 1) [c] := by
  refine .inr (.inr ⟨a, 0, 1, rfl, by simp, fun j hj => ?_⟩)
  obtain rfl : j = 0 := by simp at hj; omega
  simpa using hc
set_option maxRecDepth 100000 in
set_option maxHeartbeats 4000000 in
theorem put_raw {S : Type} {D : RawD S} {T : TypeId} {v : Value} {fr fw : FuncId} {rok wok : S → Prop} {At : World → (Nat → Prop) → S → Prop} (R : RawM D T v fr fw rok wok At) (hT : ∀ s, OAt (fun w O => At w O s)) {w : World} {O : Nat → Prop} {s : S} {B g : Nat} {x : SS} {o i b : Value} (c : UInt8) (h : On At w O s B g x o i b (.iface T v)) (hm : x.mode = 1) (hok : putOk D wok [c] (putF [c]) s 0 0) :
    Calls Try.prog 26 #[.pointer (some ⟨g, 0, none⟩), .int .u8 (c.toNat : Int)] w fun en w' => en = .returned (.int .i64 (putV D [c] (putF [c]) s 0 0).2.1) ∧ WStep At w O B g (.iface T v) (x.mark (putV D [c] (putF [c]) s 0 0).2.1) (putV D [c] (putF [c]) s 0 0).2.2 w' := by
  have HP := hide (fun (W : World) (a : Nat) (hW : Below w.heap.size w W) (hc : W.cell? ⟨a, 0, none⟩ = some (.int .u8 (c.toNat : Int))) (ha : w.heap.size ≤ a) => rput_any R (w := W) (O := O) (s := s) [c] (some ⟨a, 0, none⟩) 1 (R.keep h.raw (fun j _ hj => hW.block j hj) hW.size) (fun j e => Nat.lt_of_lt_of_le (h.ol j e) hW.size) (one_bys hc) (by simp) (by simp) (fun _ k e e' => by
    have : a = k := by simpa [Value.ownBlock] using e
    have := h.ol k e'
    omega) hok)
  have HH := hide h
  generalize putV D [c] (putF [c]) s 0 0 = X at *
  obtain ⟨n, e, s2⟩ := X
  simp only at HP ⊢
  obtain ⟨c0, c1, c2, c3, c4, c5, c6, c7, c8, c9, c10, c11⟩ := h.way.cs
  rw [hm] at c2
  have HBa : Hid (Below w.heap.size w (w.alloc (Obj.cells #[.int .u8 (c.toNat : Int)] 5))) := hide (recv_below w _)
  clear h hok c0 c1 c3 c4 c5 c6 c7 c8 c9 c10
  go_enter Try.func26, Try.ntmps26
  go_wp2_with fail
  refine (HP.out _ w.heap.size HBa.out (cell_one_new _ _ _ 0 _ rfl) (Nat.le_refl _)).mono ?_
  rintro _ w1 ⟨rfl, hS⟩
  obtain ⟨O1, hO1, hO2, hO3⟩ := On.step hT (On.below hT HH.out HBa.out) hS
  have HO1 := hide hO1
  have HO2 : Hid (∀ k, O1 k → O k ∨ w.heap.size ≤ k) := hide (fun k e => (hO2 k e).imp id (fun e => Nat.le_trans HBa.out.size e))
  have HO3 := hide ((Turned.of_below (S := O) HBa.out).trans hO3 (fun _ _ e => e))
  clear hO1 hO2 hO3 hS HP
  go_wp2_with fail
  refine (marked_any _ g e _ i b _ _ HO1.out.way).mono ?_
  rintro _ w3 ⟨rfl, hW3, hT3⟩
  have HOn3 := hide (On.at hT HO1.out hW3 hT3 HO1.out.ls.mark)
  have HT3 := hide ((HO3.out.mono (fun k e => (.inl e : O k ∨ k = g))).trans hT3 (fun _ _ e => .inr e))
  clear hW3 hT3
  go_wp2
  go_ret
  exact ⟨rfl, _, _, _, O1, HOn3.out, HO2.out, HT3.out.mono fun k e => e.imp id (fun e => by have := HH.out.gB; omega)⟩
theorem Sl.empty {W W' : World} {v : Value} (h : Sl W v []) : Sl W' v [] := by
  obtain ⟨a, c, rfl, hb, hc⟩ := h
  cases a with
  | none =>
    rcases hb with ⟨h1, -⟩ | ⟨a, cap, h1, -⟩ | ⟨b, off, cap, h1, h2, -⟩
    · exact ⟨none, c, rfl, .inl ⟨h1, rfl⟩, hc⟩
    · cases h1
    · cases h1
  | some a => exact ⟨some a, c, rfl, .inr (.inl ⟨a, c, rfl, rfl⟩), hc⟩
theorem out_more {w : World} {O : Nat → Prop} {B g : Nat} {x : SS} {o i b : Value} (c : UInt8) (hl : SIn w (fun k => B ≤ k ∧ ¬ O k ∧ k ≠ g ∧ k < w.heap.size) x o i b) (ho : w.ownsRow B 5 1 o x.out.length (x.out.map bv)) (hn : x.out.length ≤ 65536) (hB : B ≤ w.heap.size) (hO : ∀ j, O j → j < w.heap.size) (hg : g < w.heap.size)
    (hi : x.inn = []) (hb : x.back = []) :
    ∃ a k w2, (Builtin.append_ #[22, 22] 22 #[o, .slice (some ⟨w.heap.size, 0, none⟩) 1 1]).run Try.prog (w.alloc (Obj.cells #[.int .u8 (c.toNat : Int)] 5)) = .ok (.slice a (x.out ++ [c]).length k) w2 ∧
      SIn w2 (fun k => B ≤ k ∧ ¬ O k ∧ k ≠ g ∧ k < w2.heap.size) { x with out := x.out ++ [c] } (.slice a (x.out ++ [c]).length k) i b ∧ Turned (fun k => B ≤ k ∧ ¬ O k ∧ k ≠ g) w w2 := by
  have hBa := recv_below w (Obj.cells #[.int .u8 (c.toNat : Int)] 5)
  have hz : (w.alloc (Obj.cells #[.int .u8 (c.toNat : Int)] 5)).heap.size = w.heap.size + 1 := Array.size_push ..
  obtain ⟨s', w2, hrun, HO, hgr, hbl⟩ := run_append_bytes (w.alloc (Obj.cells #[.int .u8 (c.toNat : Int)] 5)) 22 B o (.slice (some ⟨w.heap.size, 0, none⟩) 1 1) x.out [c] (owns_below ho hBa) (one_bys (cell_one_new _ _ _ 0 _ rfl)) (by simp; omega) (by omega)
  obtain ⟨a, k, rfl⟩ := owns_slice HO.out
  have hz2 := hgr.size
  have hTu : Turned (fun k => o.ownBlock = some k) w w2 := (Turned.of_below hBa).grown hgr (fun k e => .inl e)
  refine ⟨a, k, w2, hrun, ⟨Sl.own HO.out, by rw [hi]; exact (hi ▸ hl.si).empty, by rw [hb]; exact (hb ▸ hl.sb).empty, fun k e => ?_, fun k e => ?_, fun k e => ?_⟩, hTu.mono fun k e => ⟨(hl.po k e).1, (hl.po k e).2.1, (hl.po k e).2.2.1⟩⟩
  · rcases hbl with e' | e'
    · have := hl.po k (by rw [← e', e])
      exact ⟨this.1, this.2.1, this.2.2.1, by omega⟩
    · rw [e'] at e
      obtain rfl := Option.some.inj e
      rw [hz]
      exact ⟨by omega, fun e2 => by have := hO _ e2; omega, by omega, by have := (HO.out.lt _ e').2; omega⟩
  · have := hl.pi k e
    exact ⟨this.1, this.2.1, this.2.2.1, by omega⟩
  · have := hl.pb k e
    exact ⟨this.1, this.2.1, this.2.2.1, by omega⟩
end Go.Proofs.Ytmogciopaffccaa

/- Streams: a byte is put into the buffer. -/
namespace Go.Proofs.Ytmogciopaffccaa
open Go.RowKit

structure Laid {S : Type} (At : World → (Nat → Prop) → S → Prop) (w : World) (O : Nat → Prop) (s : S) (B g : Nat) (x : SS) (o i b r : Value) (c : UInt8) (L : List UInt8) (a : Option Addr) (k : Nat) (w2 : World) : Prop where
  len : L.length = x.out.length + 1
  eq : L = x.out ++ [c]
  run : (Builtin.append_ #[22, 22] 22 #[o, .slice (some ⟨w.heap.size, 0, none⟩) 1 1]).run Try.prog (w.alloc (Obj.cells #[.int .u8 (c.toNat : Int)] 5)) = .ok (.slice a L.length k) w2
  d4 : w2.cell? ⟨g, 4, none⟩ = some o
  g4 : w2.frozen? ⟨g, 4, none⟩ = false
  on : On At (w2.setCell ⟨g, 4, none⟩ (.slice a L.length k)) O s B g { x with out := L } (.slice a L.length k) i b r
  tu : Turned (fun k => O k ∨ B ≤ k) w (w2.setCell ⟨g, 4, none⟩ (.slice a L.length k))
theorem laid_any {S : Type} {At : World → (Nat → Prop) → S → Prop} (hT : ∀ s, OAt (fun w O => At w O s)) {w : World} {O : Nat → Prop} {s : S} {B g : Nat} {x : SS} {o i b r : Value} (c : UInt8) (h : On At w O s B g x o i b r) (ho : w.ownsRow B 5 1 o x.out.length (x.out.map bv)) (hn : x.out.length ≤ 65536) (hB : B ≤ w.heap.size) (hi : x.inn = []) (hb : x.back = []) :
    ∃ L a k w2, Laid At w O s B g x o i b r c L a k w2 := by
  obtain ⟨a, k, w2, hrun, hIn, hTu⟩ := out_more c h.ls ho hn hB h.ol h.way.lt hi hb
  have hz := hTu.size
  have hW := h.way.turned hTu (fun e => e.2.2 rfl)
  have hR := (hT s).keep h.raw (fun j e hj => hTu.block j hj (fun e' => e'.2.1 e)) hz
  refine ⟨x.out ++ [c], a, k, w2, by simp, rfl, hrun, hW.cs.2.2.2.2.1, hW.soft 4, ?_, ?_⟩
  · have hWy := hW.set (x' := { x with out := x.out ++ [c] }) (o' := .slice a (x.out ++ [c]).length k) (i' := i) (b' := b) 4 (.slice a (x.out ++ [c]).length k) rfl
    have hz3 : (w2.setCell ⟨g, 4, none⟩ (.slice a (x.out ++ [c]).length k)).heap.size = w2.heap.size := by simp [World.setCell]
    have hT3 : Turned (fun k => k = g) w2 (w2.setCell ⟨g, 4, none⟩ (.slice a (x.out ++ [c]).length k)) := (Turned.refl (fun k => k = g) w2).set (.inl rfl)
    exact ⟨hWy, (hIn.turned hT3 fun k e _ => e.2.2.1).mono fun k e => ⟨e.1, e.2.1, e.2.2.1, by rw [hz3]; exact e.2.2.2⟩, (hT s).keep hR (fun j e hj => hT3.block j hj (fun e' => h.og (e' ▸ e))) hT3.size, h.og, h.gB, fun j e => by rw [hz3]; exact Nat.lt_of_lt_of_le (h.ol j e) hz⟩
  · exact (hTu.mono fun k e => .inr e.1).set (.inl (.inr h.gB))
set_option maxRecDepth 100000 in
set_option maxHeartbeats 4000000 in
theorem put_lay {S : Type} {D : RawD S} {T : TypeId} {v : Value} {fr fw : FuncId} {rok wok : S → Prop} {At : World → (Nat → Prop) → S → Prop} (R : RawM D T v fr fw rok wok At) (hT : ∀ s, OAt (fun w O => At w O s)) {w : World} {O : Nat → Prop} {s : S} {B g : Nat} {x : SS} {o i b : Value} (c : UInt8) (h : On At w O s B g x o i b (.iface T v)) (ho : w.ownsRow B 5 1 o x.out.length (x.out.map bv)) (hB : B ≤ w.heap.size) (hm : ¬ x.mode = 1) (hs : x.size ≤ 65536) (hf : (x.out.length : Int) < x.size) (hi : x.inn = []) (hb : x.back = []) (hok : putOk D wok (x.out ++ [c]) (putF (x.out ++ [c])) s 0 0) :
    Calls Try.prog 26 #[.pointer (some ⟨g, 0, none⟩), .int .u8 (c.toNat : Int)] w fun en w' => en = .returned (.int .i64 (x.lay D s c).2.1) ∧ WStep At w O B g (.iface T v) (x.lay D s c).1 (x.lay D s c).2.2 w' := by
  obtain ⟨oa, oc, rfl, -⟩ := h.ls.so
  have hgB := h.gB
  have HF0 := hide (isFull_any x g oa oc i b _ w h.way)
  have hne : decide ((x.out.length : Int) = x.size) = false := decide_eq_false (by omega)
  rw [hne] at HF0
  have HOn := hide h
  obtain ⟨c0, c1, c2, c3, c4, c5, c6, c7, c8, c9, c10, c11⟩ := h.way.cs
  have hm1 : (x.mode == 1) = false := by simp [hm]
  generalize hq : x.lay D s c = q
  obtain ⟨qx, qe, qs⟩ := q
  unfold SS.lay at hq
  have HOw := hide ho
  clear h ho hne c0 c1 c3 c4 c5 c6 c7 c8 c9 c10 c11
  go_enter Try.func26, Try.ntmps26
  go_wp2_with fail
  refine HF0.out.mono ?_
  rintro _ w1 ⟨rfl, hB1⟩
  have HOn1 := hide (On.below hT HOn.out hB1)
  have HT1 := hide (Turned.of_below (S := fun k => O k ∨ B ≤ k) hB1)
  have hs1 := hB1.size
  have hOw1 := owns_below HOw.out hB1
  clear hB1 c2
  obtain ⟨L, a, k, w2, hL⟩ := laid_any hT c HOn1.out hOw1 (by omega) (by omega) hi hb
  have HL := hide hL
  have HLl := hide hL.len
  have HLe := hide hL.eq
  rw [← hL.eq] at hok
  rw [← hL.eq] at hq
  have HOk := hide hok
  clear hL hOw1 hok
  have HR := hide HL.out.run
  have c4 := HOn1.out.way.cs.2.2.2.2.1
  have d4 := HL.out.d4
  have g4 := HL.out.g4
  go_wp2_with (first | (at_builtin; refine Lib.wpList_append_run _ rfl _ _ _ _ rfl _ _ rfl rfl _ _ HR.out ?_) | fail)
  refine (isFull_any _ g _ _ i b _ _ HL.out.on.way).mono ?_
  rintro _ w3 ⟨rfl, hB3⟩
  have HOn3 := hide (On.below hT HL.out.on hB3)
  have HT3 := hide ((HT1.out.trans HL.out.tu (fun _ _ e => e)).trans (Turned.of_below hB3) (fun _ _ e => e))
  have hs3 := hB3.size
  clear hB3 c4 d4 g4
  by_cases hfull : ((x.out.length + 1 : Nat) : Int) = x.size
  · rw [if_pos (.inl hfull)] at hq
    have HQ := hide hq
    rw [show decide ((L.length : Int) = x.size) = true from decide_eq_true (by have := HLl.out; omega)]
    clear hq
    go_wp2_with fail
    refine (deliver_any R hT HOn3.out (by show L.length ≤ 65536; have := HLl.out; omega) HOk.out).mono ?_
    rintro _ w4 ⟨rfl, o', O', hO4, -, hO5, hT4⟩
    have HOn4 := hide hO4
    have HO5 : Hid (∀ k, O' k → O k ∨ w.heap.size ≤ k) := hide (fun k e => (hO5 k e).imp id (fun e => by have := HT3.out.size; omega))
    have HT4 := hide (HT3.out.trans hT4 (fun k _ e => e.imp id (fun e => by omega)))
    clear hO4 hO5 hT4
    rw [HQ.out] at HOn4 ⊢
    go_wp2
    go_ret
    exact ⟨rfl, _, _, _, O', HOn4.out, HO5.out, HT4.out⟩
  have hfd : decide ((L.length : Int) = x.size) = false := decide_eq_false (by have := HLl.out; omega)
  rw [hfd]
  obtain ⟨c0, c1, c2, c3, c4, c5, c6, c7, c8, c9, c10, c11⟩ := HOn3.out.way.cs
  by_cases hl2 : x.mode = 2
  · by_cases hc : c = 10
    · rw [if_pos (.inr ⟨hl2, hc⟩)] at hq
      have HQ := hide hq
      have hcc : ((c.toNat : Int) == 10) = true := by rw [hc]; rfl
      have hce : (c.toNat : Int) = 10 := by rw [hc]; rfl
      rw [hl2] at c2
      clear hq hc hfd hm1 hm
      go_wp2_with fail
      refine (deliver_any R hT HOn3.out (by show L.length ≤ 65536; have := HLl.out; omega) HOk.out).mono ?_
      rintro _ w4 ⟨rfl, o', O', hO4, -, hO5, hT4⟩
      have HOn4 := hide hO4
      have HO5 : Hid (∀ k, O' k → O k ∨ w.heap.size ≤ k) := hide (fun k e => (hO5 k e).imp id (fun e => by have := HT3.out.size; omega))
      have HT4 := hide (HT3.out.trans hT4 (fun k _ e => e.imp id (fun e => by omega)))
      clear hO4 hO5 hT4 c0 c1 c2 c3 c4 c5 c6 c7 c8 c9 c10 c11
      rw [HQ.out] at HOn4 ⊢
      go_wp2
      go_ret
      exact ⟨rfl, _, _, _, O', HOn4.out, HO5.out, HT4.out⟩
    · rw [if_neg (fun e => e.elim hfull (fun e => hc e.2))] at hq
      obtain ⟨rfl, rfl, rfl⟩ : { x with out := L } = qx ∧ 0 = qe ∧ s = qs := by simpa using hq
      have hcn : ¬ (c.toNat : Int) = 10 := fun e => hc (UInt8.toNat_inj.1 (by show c.toNat = 10; omega))
      have hcc : ((c.toNat : Int) == 10) = false := by simp only [beq_eq_false_iff_ne]; exact hcn
      rw [hl2] at c2
      clear hq hc hfd hm1 hm
      go_wp2
      go_ret
      exact ⟨rfl, _, _, _, O, HOn3.out, fun _ e => .inl e, HT3.out⟩
  · rw [if_neg (fun e => e.elim hfull (fun e => hl2 e.1))] at hq
    obtain ⟨rfl, rfl, rfl⟩ : { x with out := L } = qx ∧ 0 = qe ∧ s = qs := by simpa using hq
    have hm2 : (x.mode == 2) = false := by simp [hl2]
    clear hq hfd
    go_wp2
    go_ret
    exact ⟨rfl, _, _, _, O, HOn3.out, fun _ e => .inl e, HT3.out⟩
set_option maxRecDepth 100000 in
set_option maxHeartbeats 4000000 in
theorem put_full {S : Type} {D : RawD S} {T : TypeId} {v : Value} {fr fw : FuncId} {rok wok : S → Prop} {At : World → (Nat → Prop) → S → Prop} (R : RawM D T v fr fw rok wok At) (hT : ∀ s, OAt (fun w O => At w O s)) {w : World} {O : Nat → Prop} {s : S} {B g : Nat} {x : SS} {o i b : Value} (c : UInt8) (h : On At w O s B g x o i b (.iface T v)) (ho : w.ownsRow B 5 1 o x.out.length (x.out.map bv)) (hB : B ≤ w.heap.size) (hm : ¬ x.mode = 1) (hs : x.size ≤ 65536) (hf : (x.out.length : Int) = x.size) (h1 : 1 ≤ x.size) (hi : x.inn = []) (hb : x.back = []) (hok0 : putOk D wok x.out (putF x.out) s 0 0) (hok : (x.deliver D s).2.1 = 0 → putOk D wok [c] (putF [c]) (x.deliver D s).2.2 0 0) :
    Calls Try.prog 26 #[.pointer (some ⟨g, 0, none⟩), .int .u8 (c.toNat : Int)] w fun en w' => en = .returned (.int .i64 ((if (x.deliver D s).2.1 = 0 then (x.deliver D s).1.lay D (x.deliver D s).2.2 c else x.deliver D s)).2.1) ∧ WStep At w O B g (.iface T v) ((if (x.deliver D s).2.1 = 0 then (x.deliver D s).1.lay D (x.deliver D s).2.2 c else x.deliver D s)).1 ((if (x.deliver D s).2.1 = 0 then (x.deliver D s).1.lay D (x.deliver D s).2.2 c else x.deliver D s)).2.2 w' := by
  obtain ⟨oa, oc, rfl, -⟩ := h.ls.so
  have hgB := h.gB
  have HF0 := hide (isFull_any x g oa oc i b _ w h.way)
  have hne : decide ((x.out.length : Int) = x.size) = true := decide_eq_true hf
  rw [hne] at HF0
  have HOn := hide h
  obtain ⟨c0, c1, c2, c3, c4, c5, c6, c7, c8, c9, c10, c11⟩ := h.way.cs
  have hm1 : (x.mode == 1) = false := by simp [hm]
  generalize hq : (if (x.deliver D s).2.1 = 0 then (x.deliver D s).1.lay D (x.deliver D s).2.2 c else x.deliver D s) = q
  obtain ⟨qx, qe, qs⟩ := q
  have HDel := hide (fun (W : World) (hW : Below w.heap.size w W) => deliver_any R hT (On.below hT h hW) (by omega) hok0)
  have HDok := hide (deliver_ok D x s)
  obtain ⟨dx, de, ds, hd⟩ : ∃ dx de ds, x.deliver D s = (dx, de, ds) := ⟨_, _, _, rfl⟩
  rw [hd] at hq hok HDel HDok
  simp only at hq hok HDel HDok
  clear h ho hne hd hok0 c0 c1 c3 c4 c5 c6 c7 c8 c9 c10 c11
  go_enter Try.func26, Try.ntmps26
  go_wp2_with fail
  refine HF0.out.mono ?_
  rintro _ w1 ⟨rfl, hB1⟩
  have hs1 := hB1.size
  have HB1 := hide hB1
  clear hB1 c2
  go_wp2_with fail
  refine (HDel.out _ HB1.out).mono ?_
  rintro _ w2 ⟨rfl, o', O', hO4, hnil, hO5, hT4⟩
  have HOn2 := hide hO4
  have hs2 := hT4.size
  have HO5 : Hid (∀ k, O' k → O k ∨ w.heap.size ≤ k) := hide (fun k e => (hO5 k e).imp id (fun e => by omega))
  have HT2 := hide ((Turned.of_below (S := fun k => O k ∨ B ≤ k) HB1.out).trans hT4 (fun k _ e => e.imp id (fun e => by omega)))
  clear hO4 hO5 hT4
  by_cases hde : de = 0
  case neg =>
    rw [if_neg hde] at hq
    obtain ⟨rfl, rfl, rfl⟩ : dx = qx ∧ de = qe ∧ ds = qs := by simpa using hq
    have hd1 : (de != 0) = true := by simp [hde]
    clear hq
    go_wp2
    go_ret
    exact ⟨rfl, _, _, _, O', HOn2.out, HO5.out, HT2.out⟩
  rw [if_pos hde] at hq
  obtain rfl := hnil hde
  have hdx := HDok.out hde
  subst hde hdx
  unfold SS.lay at hq
  have hok := hok rfl
  clear hnil
  obtain ⟨L, a, k, w2x, hL⟩ := laid_any hT c HOn2.out (World.ownsRow_nil _ _ _ _) (by simp) (by omega) hi hb
  have HL := hide hL
  have HLl := hide hL.len
  have HLe := hide hL.eq
  rw [show ([c] : List UInt8) = L from hL.eq.symm] at hok
  rw [← hL.eq] at hq
  have HOk := hide hok
  clear hL hok
  have HR := hide HL.out.run
  have c4 := HOn2.out.way.cs.2.2.2.2.1
  have d4 := HL.out.d4
  have g4 := HL.out.g4
  go_wp2_with (first | (at_builtin; refine Lib.wpList_append_run _ rfl _ _ _ _ rfl _ _ rfl rfl _ _ HR.out ?_) | fail)
  refine (isFull_any _ g _ _ i b _ _ HL.out.on.way).mono ?_
  rintro _ w3 ⟨rfl, hB3⟩
  have HOn3 := hide (On.below hT HL.out.on hB3)
  have HT3 := hide ((HT2.out.trans HL.out.tu (fun k _ e => e.elim (fun e => (HO5.out k e).imp id (fun e => Nat.le_trans hB e)) .inr)).trans (Turned.of_below hB3) (fun _ _ e => e))
  have hs3 := hB3.size
  clear hB3 c4 d4 g4
  by_cases hfull : ((([] : List UInt8).length + 1 : Nat) : Int) = x.size
  · rw [if_pos (.inl hfull)] at hq
    have HQ := hide hq
    rw [show decide ((L.length : Int) = x.size) = true from decide_eq_true (by have := HLl.out; simp only [List.length_nil] at *; omega)]
    clear hq
    go_wp2_with fail
    refine (deliver_any R hT HOn3.out (by show L.length ≤ 65536; have := HLl.out; simp only [List.length_nil] at this; omega) HOk.out).mono ?_
    rintro _ w4 ⟨rfl, o2, O2, hO4, -, hO6, hT4⟩
    have HOn4 := hide hO4
    have HO6 : Hid (∀ k, O2 k → O k ∨ w.heap.size ≤ k) := hide (fun k e => (hO6 k e).elim (fun e => HO5.out k e) (fun e => .inr (by have := HT3.out.size; omega)))
    have HT4 := hide (HT3.out.trans hT4 (fun k _ e => e.elim (fun e => (HO5.out k e).imp id (fun e => Nat.le_trans hB e)) (fun e => .inr (by omega))))
    clear hO4 hO6 hT4
    rw [HQ.out] at HOn4 ⊢
    go_wp2
    go_ret
    exact ⟨rfl, _, _, _, O2, HOn4.out, HO6.out, HT4.out⟩
  have hfd : decide ((L.length : Int) = x.size) = false := decide_eq_false (by have := HLl.out; simp only [List.length_nil] at *; omega)
  rw [hfd]
  obtain ⟨c0, c1, c2, c3, c4, c5, c6, c7, c8, c9, c10, c11⟩ := HOn3.out.way.cs
  by_cases hl2 : x.mode = 2
  · by_cases hc : c = 10
    · rw [if_pos (.inr ⟨hl2, hc⟩)] at hq
      have HQ := hide hq
      have hcc : ((c.toNat : Int) == 10) = true := by rw [hc]; rfl
      have hce : (c.toNat : Int) = 10 := by rw [hc]; rfl
      rw [hl2] at c2
      clear hq hc hfd hm1 hm
      go_wp2_with fail
      refine (deliver_any R hT HOn3.out (by show L.length ≤ 65536; have := HLl.out; simp only [List.length_nil] at this; omega) HOk.out).mono ?_
      rintro _ w4 ⟨rfl, o2, O2, hO4, -, hO6, hT4⟩
      have HOn4 := hide hO4
      have HO6 : Hid (∀ k, O2 k → O k ∨ w.heap.size ≤ k) := hide (fun k e => (hO6 k e).elim (fun e => HO5.out k e) (fun e => .inr (by have := HT3.out.size; omega)))
      have HT4 := hide (HT3.out.trans hT4 (fun k _ e => e.elim (fun e => (HO5.out k e).imp id (fun e => Nat.le_trans hB e)) (fun e => .inr (by omega))))
      clear hO4 hO6 hT4 c0 c1 c2 c3 c4 c5 c6 c7 c8 c9 c10 c11
      rw [HQ.out] at HOn4 ⊢
      go_wp2
      go_ret
      exact ⟨rfl, _, _, _, O2, HOn4.out, HO6.out, HT4.out⟩
    · rw [if_neg (fun e => e.elim hfull (fun e => hc e.2))] at hq
      obtain ⟨rfl, rfl, rfl⟩ : { x with out := L } = qx ∧ 0 = qe ∧ ds = qs := by simpa using hq
      have hcn : ¬ (c.toNat : Int) = 10 := fun e => hc (UInt8.toNat_inj.1 (by show c.toNat = 10; omega))
      have hcc : ((c.toNat : Int) == 10) = false := by simp only [beq_eq_false_iff_ne]; exact hcn
      rw [hl2] at c2
      clear hq hc hfd hm1 hm
      go_wp2
      go_ret
      exact ⟨rfl, _, _, _, O', HOn3.out, HO5.out, HT3.out⟩
  · rw [if_neg (fun e => e.elim hfull (fun e => hl2 e.1))] at hq
    obtain ⟨rfl, rfl, rfl⟩ : { x with out := L } = qx ∧ 0 = qe ∧ ds = qs := by simpa using hq
    have hm2 : (x.mode == 2) = false := by simp [hl2]
    clear hq hfd
    go_wp2
    go_ret
    exact ⟨rfl, _, _, _, O', HOn3.out, HO5.out, HT3.out⟩
end Go.Proofs.Ytmogciopaffccaa

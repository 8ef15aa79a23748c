/- What the proof stands on, part 8: the contracts of the program's calls that it reaches. -/
import Derived.Test.YtgbkhmiphaefgaaKK7
import Derived.Deep.RegionLaw
import Derived.BigRegion
import Derived.Lib.MinMax
import Derived.Deep.DeepCutAuto
/- Lines: a copy of a state, its lists apart. -/
namespace Go.Proofs.Ytgbkhmiphaefgaa
open Go.RowKit

set_option maxRecDepth 100000 in
set_option maxHeartbeats 40000000 in
theorem lcopied_any (x : SS) (o i b : Value) (P : Nat → Prop) (w : World) (h : SIn w P x o i b) (ho : x.out.length ≤ 140737488351232) (hi : x.inn.length ≤ 140737488351232) (hb : x.back.length ≤ 140737488351232) :
    Calls Try.prog 37 #[.agg #[.bool x.rd, .bool x.wt, .int .i64 x.mode, .int .i64 x.size, o, i, b, .int .i64 x.dir, .bool x.fin, .bool x.bad, .bool x.closed]] w fun e w' => ∃ o' i' b', e = .returned (.agg #[.bool x.rd, .bool x.wt, .int .i64 x.mode, .int .i64 x.size, o', i', b', .int .i64 x.dir, .bool x.fin, .bool x.bad, .bool x.closed]) ∧ w'.ownsRow w.heap.size 5 1 o' x.out.length (x.out.map bv) ∧ w'.ownsRow w.heap.size 5 1 i' x.inn.length (x.inn.map bv) ∧ w'.ownsRow w.heap.size 5 1 b' x.back.length (x.back.map bv) ∧ Below w.heap.size w w' ∧ Ap3 o' i' b' := by
  have HC1 := hide (fun W (hB : Below w.heap.size w W) => bclone_any o x.out W ((h.so.turned (Turned.of_below (S := fun _ => False) hB) (fun _ _ _ => id)).choose_spec.choose_spec.2.1) ho)
  have HC2 := hide (fun W (hB : Below w.heap.size w W) => bclone_any i x.inn W ((h.si.turned (Turned.of_below (S := fun _ => False) hB) (fun _ _ _ => id)).choose_spec.choose_spec.2.1) hi)
  have HC3 := hide (fun W (hB : Below w.heap.size w W) => bclone_any b x.back W ((h.sb.turned (Turned.of_below (S := fun _ => False) hB) (fun _ _ _ => id)).choose_spec.choose_spec.2.1) hb)
  obtain ⟨oa, oc, rfl, -⟩ := h.so
  obtain ⟨ia, ic, rfl, -⟩ := h.si
  obtain ⟨ba, bc, rfl, -⟩ := h.sb
  clear h
  go_enter Try.func37, Try.ntmps37
  go_wp2_with fail
  have HB0 := hide ((recv_below w (Obj.cells #[.bool x.rd, .bool x.wt, .int .i64 x.mode, .int .i64 x.size, .slice oa x.out.length oc, .slice ia x.inn.length ic, .slice ba x.back.length bc, .int .i64 x.dir, .bool x.fin, .bool x.bad, .bool x.closed] 35)).trans ((recv_below (w.alloc (Obj.cells #[.bool x.rd, .bool x.wt, .int .i64 x.mode, .int .i64 x.size, .slice oa x.out.length oc, .slice ia x.inn.length ic, .slice ba x.back.length bc, .int .i64 x.dir, .bool x.fin, .bool x.bad, .bool x.closed] 35)) (Obj.cells #[.bool false, .bool false, .int .i64 0, .int .i64 0, .slice none 0 0, .slice none 0 0, .slice none 0 0, .int .i64 0, .bool false, .bool false, .bool false] 35)).mono (recv_below w (Obj.cells #[.bool x.rd, .bool x.wt, .int .i64 x.mode, .int .i64 x.size, .slice oa x.out.length oc, .slice ia x.inn.length ic, .slice ba x.back.length bc, .int .i64 x.dir, .bool x.fin, .bool x.bad, .bool x.closed] 35)).size))
  have HS0 := hide ((StAt.new w x (.slice oa x.out.length oc) (.slice ia x.inn.length ic) (.slice ba x.back.length bc)).below (recv_below _ (Obj.cells #[.bool false, .bool false, .int .i64 0, .int .i64 0, .slice none 0 0, .slice none 0 0, .slice none 0 0, .int .i64 0, .bool false, .bool false, .bool false] 35)))
  have HZ0 : Hid (((w.alloc (Obj.cells #[.bool x.rd, .bool x.wt, .int .i64 x.mode, .int .i64 x.size, .slice oa x.out.length oc, .slice ia x.inn.length ic, .slice ba x.back.length bc, .int .i64 x.dir, .bool x.fin, .bool x.bad, .bool x.closed] 35)).alloc (Obj.cells #[.bool false, .bool false, .int .i64 0, .int .i64 0, .slice none 0 0, .slice none 0 0, .slice none 0 0, .int .i64 0, .bool false, .bool false, .bool false] 35)).heap[w.heap.size + 1]? = some (Obj.cells #[.bool false, .bool false, .int .i64 0, .int .i64 0, .slice none 0 0, .slice none 0 0, .slice none 0 0, .int .i64 0, .bool false, .bool false, .bool false] 35)) := hide (by have := heap_alloc_new (w.alloc (Obj.cells #[.bool x.rd, .bool x.wt, .int .i64 x.mode, .int .i64 x.size, .slice oa x.out.length oc, .slice ia x.inn.length ic, .slice ba x.back.length bc, .int .i64 x.dir, .bool x.fin, .bool x.bad, .bool x.closed] 35)) (Obj.cells #[.bool false, .bool false, .int .i64 0, .int .i64 0, .slice none 0 0, .slice none 0 0, .slice none 0 0, .int .i64 0, .bool false, .bool false, .bool false] 35); rw [show (w.alloc (Obj.cells #[.bool x.rd, .bool x.wt, .int .i64 x.mode, .int .i64 x.size, .slice oa x.out.length oc, .slice ia x.inn.length ic, .slice ba x.back.length bc, .int .i64 x.dir, .bool x.fin, .bool x.bad, .bool x.closed] 35)).heap.size = w.heap.size + 1 from Array.size_push ..] at this; exact this)
  generalize (w.alloc (Obj.cells #[.bool x.rd, .bool x.wt, .int .i64 x.mode, .int .i64 x.size, .slice oa x.out.length oc, .slice ia x.inn.length ic, .slice ba x.back.length bc, .int .i64 x.dir, .bool x.fin, .bool x.bad, .bool x.closed] 35)).alloc (Obj.cells #[.bool false, .bool false, .int .i64 0, .int .i64 0, .slice none 0 0, .slice none 0 0, .slice none 0 0, .int .i64 0, .bool false, .bool false, .bool false] 35) = w0 at *
  have hz0 : w.heap.size + 1 < w0.heap.size := (Array.getElem?_eq_some_iff.1 HZ0.out).1
  obtain ⟨-, -, -, -, c4, c5, c6, -⟩ := HS0.out.cs
  go_region_law (first
    | (go_simp; go_at_call 35; have := HB2; refine (HC3.out _ HB2.out).mono ?_; rintro _ w3 ⟨u3, rfl, hO3, hB3⟩; obtain ⟨a3, k3, rfl⟩ := owns_slice hO3; have HS3 := hide (HS2.out.below hB3); have HZ3 := hide ((hB3.block (w.heap.size + 1) (Array.getElem?_eq_some_iff.1 HZ2.out).1).trans HZ2.out); have HB3 := hide (HB2.out.trans (hB3.mono HB2.out.size)); have HO3 := hide (And.intro (And.intro (owns_below HO2.out.1 hB3) (owns_below HO2.out.2 hB3)) hO3); clear hO3 hB3; obtain ⟨f0, f1, f2, f3, f4, f5, f6, f7, f8, f9, f10⟩ := HS3.out.cs; have g4 := frozen_of_row w3 w.heap.size 4 _ _ HS3.out; have g5 := frozen_of_row w3 w.heap.size 5 _ _ HS3.out; have g6 := frozen_of_row w3 w.heap.size 6 _ _ HS3.out)
    | (go_simp; go_at_call 35; have := HB1; refine (HC2.out _ HB1.out).mono ?_; rintro _ w2 ⟨u2, rfl, hO2, hB2⟩; obtain ⟨a2, k2, rfl⟩ := owns_slice hO2; have HS2 := hide (HS1.out.below hB2); have HZ2 := hide ((hB2.block (w.heap.size + 1) (Array.getElem?_eq_some_iff.1 HZ1.out).1).trans HZ1.out); have HB2 := hide (HB1.out.trans (hB2.mono HB1.out.size)); have hs2 := hB2.size; have HO2 := hide (And.intro (owns_below HO1.out hB2) hO2); clear hO2 hB2; obtain ⟨-, -, -, -, e4, e5, e6, -⟩ := HS2.out.cs)
    | (go_simp; go_at_call 35; refine (HC1.out _ (by exact HB0.out.drew)).mono ?_; rintro _ w1 ⟨u1, rfl, hO1, hB1⟩; obtain ⟨a1, k1, rfl⟩ := owns_slice hO1; have HS1 := hide (HS0.out.below ((Below.refl _ _).drew.trans hB1)); have HZ1 := hide ((hB1.block (w.heap.size + 1) (Array.getElem?_eq_some_iff.1 HZ0.out).1).trans HZ0.out); have HB1 := hide (HB0.out.trans (((Below.refl _ _).drew.trans hB1).mono HB0.out.size)); have hs1 : w0.heap.size ≤ w1.heap.size := hB1.size; have HO1 := hide hO1; clear hO1 hB1; obtain ⟨-, -, -, -, d4, d5, d6, -⟩ := HS1.out.cs)
    | fail)
  all_goals
    have e4 := Go.heap_setCell_same w3 w.heap.size 4 _ _ (.slice a1 x.out.length k1) HS3.out
    have e5 := Go.heap_setCell_same _ w.heap.size 5 _ _ (.slice a2 x.inn.length k2) e4
    have e6 := Go.heap_setCell_same _ w.heap.size 6 _ _ (.slice a3 x.back.length k3) e5
    have HS4 : Hid (StAt (((w3.setCell ⟨w.heap.size, 4, none⟩ (.slice a1 x.out.length k1)).setCell ⟨w.heap.size, 5, none⟩ (.slice a2 x.inn.length k2)).setCell ⟨w.heap.size, 6, none⟩ (.slice a3 x.back.length k3)) w.heap.size x (.slice a1 x.out.length k1) (.slice a2 x.inn.length k2) (.slice a3 x.back.length k3)) := hide e6
    have HT4 : Hid (Turned (fun k => k = w.heap.size) w3 (((w3.setCell ⟨w.heap.size, 4, none⟩ (.slice a1 x.out.length k1)).setCell ⟨w.heap.size, 5, none⟩ (.slice a2 x.inn.length k2)).setCell ⟨w.heap.size, 6, none⟩ (.slice a3 x.back.length k3))) := hide ((((Turned.refl (fun k => k = w.heap.size) w3).set (.inl rfl)).set (.inl rfl)).set (.inl rfl))
    clear e4 e5 e6 f0 f1 f2 f3 f4 f5 f6 f7 f8 f9 f10 g4 g5 g6 c4 c5 c6 d4 d5 d6 HS0 HS1 HS2 HS3 HZ0 HZ1 HZ2 HC1 HC2 HC3
    generalize ((w3.setCell ⟨w.heap.size, 4, none⟩ (.slice a1 x.out.length k1)).setCell ⟨w.heap.size, 5, none⟩ (.slice a2 x.inn.length k2)).setCell ⟨w.heap.size, 6, none⟩ (.slice a3 x.back.length k3) = w4 at *
    have HZ4 := hide ((HT4.out.block (w.heap.size + 1) (Array.getElem?_eq_some_iff.1 HZ3.out).1 (by omega)).trans HZ3.out)
    obtain ⟨f0, f1, f2, f3, f4, f5, f6, f7, f8, f9, f10⟩ := HS4.out.cs
    have z0 := cell_of_row w4 (w.heap.size + 1) 0 _ _ _ HZ4.out
    have z1 := cell_of_row w4 (w.heap.size + 1) 1 _ _ _ HZ4.out
    have z2 := cell_of_row w4 (w.heap.size + 1) 2 _ _ _ HZ4.out
    have z3 := cell_of_row w4 (w.heap.size + 1) 3 _ _ _ HZ4.out
    have z4 := cell_of_row w4 (w.heap.size + 1) 4 _ _ _ HZ4.out
    have z5 := cell_of_row w4 (w.heap.size + 1) 5 _ _ _ HZ4.out
    have z6 := cell_of_row w4 (w.heap.size + 1) 6 _ _ _ HZ4.out
    have z7 := cell_of_row w4 (w.heap.size + 1) 7 _ _ _ HZ4.out
    have z8 := cell_of_row w4 (w.heap.size + 1) 8 _ _ _ HZ4.out
    have z9 := cell_of_row w4 (w.heap.size + 1) 9 _ _ _ HZ4.out
    have z10 := cell_of_row w4 (w.heap.size + 1) 10 _ _ _ HZ4.out
    have y0 := frozen_of_row w4 (w.heap.size + 1) 0 _ _ HZ4.out
    have y1 := frozen_of_row w4 (w.heap.size + 1) 1 _ _ HZ4.out
    have y2 := frozen_of_row w4 (w.heap.size + 1) 2 _ _ HZ4.out
    have y3 := frozen_of_row w4 (w.heap.size + 1) 3 _ _ HZ4.out
    have y4 := frozen_of_row w4 (w.heap.size + 1) 4 _ _ HZ4.out
    have y5 := frozen_of_row w4 (w.heap.size + 1) 5 _ _ HZ4.out
    have y6 := frozen_of_row w4 (w.heap.size + 1) 6 _ _ HZ4.out
    have y7 := frozen_of_row w4 (w.heap.size + 1) 7 _ _ HZ4.out
    have y8 := frozen_of_row w4 (w.heap.size + 1) 8 _ _ HZ4.out
    have y9 := frozen_of_row w4 (w.heap.size + 1) 9 _ _ HZ4.out
    have y10 := frozen_of_row w4 (w.heap.size + 1) 10 _ _ HZ4.out
    simp at z0 z1 z2 z3 z4 z5 z6 z7 z8 z9 z10
    go_wp2
    obtain ⟨e1, e2⟩ := st_fill w4 (w.heap.size + 1) x (.slice a1 x.out.length k1) (.slice a2 x.inn.length k2) (.slice a3 x.back.length k3) HZ4.out
    have HTw := hide ((HT4.out.mono fun k e => (.inl e : k = w.heap.size ∨ k = w.heap.size + 1)).trans (e2.mono fun k e => (.inr e : k = w.heap.size ∨ k = w.heap.size + 1)) (fun _ _ e => e))
    refine bodyPost_ret (results_cell_row rfl _ _ (w.heap.size + 1) _ _ _ _ rfl e1 Try.underlying35 rfl (by kernel_rfl)) rfl ?_
    have far : ∀ k, w.heap.size + 1 < k → ¬ (k = w.heap.size ∨ k = w.heap.size + 1) := fun k h e => by omega
    have hr1 := HO3.out.1.1
    have hr2 := HO3.out.1.2
    have hr3 := HO3.out.2
    have hs0 : w.heap.size + 1 < w0.drew.heap.size := hz0
    exact ⟨_, _, _, rfl, owns_mono (owns_turned hr1 HTw.out (fun k e => far k (by have := (hr1.lt k e).1; omega))) (by omega), owns_mono (owns_turned hr2 HTw.out (fun k e => far k (by have := (hr2.lt k e).1; omega))) (by omega), owns_mono (owns_turned hr3 HTw.out (fun k e => far k (by have := (hr3.lt k e).1; omega))) (by omega), (HTw.out.below (B := w.heap.size) (fun k e => by omega) HB3.out.size) |> HB3.out.trans, fun k e => ⟨fun e' => by have := (HO1.out.lt k e).2; have := (HO2.out.2.lt k e').1; omega, fun e' => by have := (HO1.out.lt k e).2; have := (HO3.out.2.lt k e').1; omega⟩, fun k e e' => by have := (HO2.out.2.lt k e).2; have := (HO3.out.2.lt k e').1; omega⟩
end Go.Proofs.Ytgbkhmiphaefgaa

/- Lines: a source: a state on its way, most of what was read apart; in memory. -/
namespace Go.Proofs.Ytgbkhmiphaefgaa
open Go.RowKit

theorem slNone {W W' : World} {v : Value} (h : Sl W v []) : Sl W' v [] := by
  obtain ⟨a, c, rfl, hb, hc⟩ := h
  refine ⟨a, c, rfl, ?_, hc⟩
  rcases hb with ⟨e, -⟩ | ⟨a', c', e, -⟩ | ⟨_, _, _, _, h0, _⟩
  · exact .inl ⟨e, rfl⟩
  · exact .inr (.inl ⟨a', c', e, rfl⟩)
  · simp at h0
theorem Sl.zero {W : World} {a : Addr} {c : Nat} : Sl W (.slice (some a) 0 c) [] := ⟨_, _, rfl, .inr (.inl ⟨_, _, rfl, rfl⟩), Nat.zero_le _⟩
end Go.Proofs.Ytgbkhmiphaefgaa

/- Lines: whether it is enough; a source that other blocks leave alone. -/
namespace Go.Proofs.Ytgbkhmiphaefgaa
open Go.RowKit
def OffS (k : Nat) (O : Nat → Prop) (g : Nat) (o i b f : Value) : Prop := ¬ O k ∧ k ≠ g ∧ o.ownBlock ≠ some k ∧ i.ownBlock ≠ some k ∧ b.ownBlock ≠ some k ∧ f.ownBlock ≠ some k
theorem bear_down {S : Type} {D : RawD S} {rok wok : S → Prop} {G : Nat → S → Prop} (hG : Bears D rok wok G) : ∀ a b s, G (a + b) s → G b s
  | 0, b, s, h => by rwa [Nat.zero_add] at h
  | a + 1, b, s, h => bear_down hG a b s (hG.less _ s (by rwa [show a + 1 + b = a + b + 1 by omega] at h))
end Go.Proofs.Ytgbkhmiphaefgaa

/- Blocks: a copy of a state, its lists apart. -/
namespace Go.Proofs.Ytgbkhmiphaefgaa
open Go.RowKit

set_option maxRecDepth 100000 in
set_option maxHeartbeats 40000000 in
theorem kcopied_any (x : SS) (o i b : Value) (P : Nat → Prop) (w : World) (h : SIn w P x o i b) (ho : x.out.length ≤ 140737488351232) (hi : x.inn.length ≤ 140737488351232) (hb : x.back.length ≤ 140737488351232) :
    Calls Try.prog 23 #[.agg #[.bool x.rd, .bool x.wt, .int .i64 x.mode, .int .i64 x.size, o, i, b, .int .i64 x.dir, .bool x.fin, .bool x.bad, .bool x.closed]] w fun e w' => ∃ o' i' b', e = .returned (.agg #[.bool x.rd, .bool x.wt, .int .i64 x.mode, .int .i64 x.size, o', i', b', .int .i64 x.dir, .bool x.fin, .bool x.bad, .bool x.closed]) ∧ w'.ownsRow w.heap.size 5 1 o' x.out.length (x.out.map bv) ∧ w'.ownsRow w.heap.size 5 1 i' x.inn.length (x.inn.map bv) ∧ w'.ownsRow w.heap.size 5 1 b' x.back.length (x.back.map bv) ∧ Below w.heap.size w w' ∧ Ap3 o' i' b' := by
  have HC1 := hide (fun W (hB : Below w.heap.size w W) => bclone_any o x.out W ((h.so.turned (Turned.of_below (S := fun _ => False) hB) (fun _ _ _ => id)).choose_spec.choose_spec.2.1) ho)
  have HC2 := hide (fun W (hB : Below w.heap.size w W) => bclone_any i x.inn W ((h.si.turned (Turned.of_below (S := fun _ => False) hB) (fun _ _ _ => id)).choose_spec.choose_spec.2.1) hi)
  have HC3 := hide (fun W (hB : Below w.heap.size w W) => bclone_any b x.back W ((h.sb.turned (Turned.of_below (S := fun _ => False) hB) (fun _ _ _ => id)).choose_spec.choose_spec.2.1) hb)
  obtain ⟨oa, oc, rfl, -⟩ := h.so
  obtain ⟨ia, ic, rfl, -⟩ := h.si
  obtain ⟨ba, bc, rfl, -⟩ := h.sb
  clear h
  go_enter Try.func23, Try.ntmps23
  go_wp2_with fail
  have HB0 := hide ((recv_below w (Obj.cells #[.bool x.rd, .bool x.wt, .int .i64 x.mode, .int .i64 x.size, .slice oa x.out.length oc, .slice ia x.inn.length ic, .slice ba x.back.length bc, .int .i64 x.dir, .bool x.fin, .bool x.bad, .bool x.closed] 35)).trans ((recv_below (w.alloc (Obj.cells #[.bool x.rd, .bool x.wt, .int .i64 x.mode, .int .i64 x.size, .slice oa x.out.length oc, .slice ia x.inn.length ic, .slice ba x.back.length bc, .int .i64 x.dir, .bool x.fin, .bool x.bad, .bool x.closed] 35)) (Obj.cells #[.bool false, .bool false, .int .i64 0, .int .i64 0, .slice none 0 0, .slice none 0 0, .slice none 0 0, .int .i64 0, .bool false, .bool false, .bool false] 35)).mono (recv_below w (Obj.cells #[.bool x.rd, .bool x.wt, .int .i64 x.mode, .int .i64 x.size, .slice oa x.out.length oc, .slice ia x.inn.length ic, .slice ba x.back.length bc, .int .i64 x.dir, .bool x.fin, .bool x.bad, .bool x.closed] 35)).size))
  have HS0 := hide ((StAt.new w x (.slice oa x.out.length oc) (.slice ia x.inn.length ic) (.slice ba x.back.length bc)).below (recv_below _ (Obj.cells #[.bool false, .bool false, .int .i64 0, .int .i64 0, .slice none 0 0, .slice none 0 0, .slice none 0 0, .int .i64 0, .bool false, .bool false, .bool false] 35)))
  have HZ0 : Hid (((w.alloc (Obj.cells #[.bool x.rd, .bool x.wt, .int .i64 x.mode, .int .i64 x.size, .slice oa x.out.length oc, .slice ia x.inn.length ic, .slice ba x.back.length bc, .int .i64 x.dir, .bool x.fin, .bool x.bad, .bool x.closed] 35)).alloc (Obj.cells #[.bool false, .bool false, .int .i64 0, .int .i64 0, .slice none 0 0, .slice none 0 0, .slice none 0 0, .int .i64 0, .bool false, .bool false, .bool false] 35)).heap[w.heap.size + 1]? = some (Obj.cells #[.bool false, .bool false, .int .i64 0, .int .i64 0, .slice none 0 0, .slice none 0 0, .slice none 0 0, .int .i64 0, .bool false, .bool false, .bool false] 35)) := hide (by have := heap_alloc_new (w.alloc (Obj.cells #[.bool x.rd, .bool x.wt, .int .i64 x.mode, .int .i64 x.size, .slice oa x.out.length oc, .slice ia x.inn.length ic, .slice ba x.back.length bc, .int .i64 x.dir, .bool x.fin, .bool x.bad, .bool x.closed] 35)) (Obj.cells #[.bool false, .bool false, .int .i64 0, .int .i64 0, .slice none 0 0, .slice none 0 0, .slice none 0 0, .int .i64 0, .bool false, .bool false, .bool false] 35); rw [show (w.alloc (Obj.cells #[.bool x.rd, .bool x.wt, .int .i64 x.mode, .int .i64 x.size, .slice oa x.out.length oc, .slice ia x.inn.length ic, .slice ba x.back.length bc, .int .i64 x.dir, .bool x.fin, .bool x.bad, .bool x.closed] 35)).heap.size = w.heap.size + 1 from Array.size_push ..] at this; exact this)
  generalize (w.alloc (Obj.cells #[.bool x.rd, .bool x.wt, .int .i64 x.mode, .int .i64 x.size, .slice oa x.out.length oc, .slice ia x.inn.length ic, .slice ba x.back.length bc, .int .i64 x.dir, .bool x.fin, .bool x.bad, .bool x.closed] 35)).alloc (Obj.cells #[.bool false, .bool false, .int .i64 0, .int .i64 0, .slice none 0 0, .slice none 0 0, .slice none 0 0, .int .i64 0, .bool false, .bool false, .bool false] 35) = w0 at *
  have hz0 : w.heap.size + 1 < w0.heap.size := (Array.getElem?_eq_some_iff.1 HZ0.out).1
  obtain ⟨-, -, -, -, c4, c5, c6, -⟩ := HS0.out.cs
  go_region_law (first
    | (go_simp; go_at_call 35; have := HB2; refine (HC3.out _ HB2.out).mono ?_; rintro _ w3 ⟨u3, rfl, hO3, hB3⟩; obtain ⟨a3, k3, rfl⟩ := owns_slice hO3; have HS3 := hide (HS2.out.below hB3); have HZ3 := hide ((hB3.block (w.heap.size + 1) (Array.getElem?_eq_some_iff.1 HZ2.out).1).trans HZ2.out); have HB3 := hide (HB2.out.trans (hB3.mono HB2.out.size)); have HO3 := hide (And.intro (And.intro (owns_below HO2.out.1 hB3) (owns_below HO2.out.2 hB3)) hO3); clear hO3 hB3; obtain ⟨f0, f1, f2, f3, f4, f5, f6, f7, f8, f9, f10⟩ := HS3.out.cs; have g4 := frozen_of_row w3 w.heap.size 4 _ _ HS3.out; have g5 := frozen_of_row w3 w.heap.size 5 _ _ HS3.out; have g6 := frozen_of_row w3 w.heap.size 6 _ _ HS3.out)
    | (go_simp; go_at_call 35; have := HB1; refine (HC2.out _ HB1.out).mono ?_; rintro _ w2 ⟨u2, rfl, hO2, hB2⟩; obtain ⟨a2, k2, rfl⟩ := owns_slice hO2; have HS2 := hide (HS1.out.below hB2); have HZ2 := hide ((hB2.block (w.heap.size + 1) (Array.getElem?_eq_some_iff.1 HZ1.out).1).trans HZ1.out); have HB2 := hide (HB1.out.trans (hB2.mono HB1.out.size)); have hs2 := hB2.size; have HO2 := hide (And.intro (owns_below HO1.out hB2) hO2); clear hO2 hB2; obtain ⟨-, -, -, -, e4, e5, e6, -⟩ := HS2.out.cs)
    | (go_simp; go_at_call 35; refine (HC1.out _ (by exact HB0.out.drew)).mono ?_; rintro _ w1 ⟨u1, rfl, hO1, hB1⟩; obtain ⟨a1, k1, rfl⟩ := owns_slice hO1; have HS1 := hide (HS0.out.below ((Below.refl _ _).drew.trans hB1)); have HZ1 := hide ((hB1.block (w.heap.size + 1) (Array.getElem?_eq_some_iff.1 HZ0.out).1).trans HZ0.out); have HB1 := hide (HB0.out.trans (((Below.refl _ _).drew.trans hB1).mono HB0.out.size)); have hs1 : w0.heap.size ≤ w1.heap.size := hB1.size; have HO1 := hide hO1; clear hO1 hB1; obtain ⟨-, -, -, -, d4, d5, d6, -⟩ := HS1.out.cs)
    | fail)
  all_goals
    have e4 := Go.heap_setCell_same w3 w.heap.size 4 _ _ (.slice a1 x.out.length k1) HS3.out
    have e5 := Go.heap_setCell_same _ w.heap.size 5 _ _ (.slice a2 x.inn.length k2) e4
    have e6 := Go.heap_setCell_same _ w.heap.size 6 _ _ (.slice a3 x.back.length k3) e5
    have HS4 : Hid (StAt (((w3.setCell ⟨w.heap.size, 4, none⟩ (.slice a1 x.out.length k1)).setCell ⟨w.heap.size, 5, none⟩ (.slice a2 x.inn.length k2)).setCell ⟨w.heap.size, 6, none⟩ (.slice a3 x.back.length k3)) w.heap.size x (.slice a1 x.out.length k1) (.slice a2 x.inn.length k2) (.slice a3 x.back.length k3)) := hide e6
    have HT4 : Hid (Turned (fun k => k = w.heap.size) w3 (((w3.setCell ⟨w.heap.size, 4, none⟩ (.slice a1 x.out.length k1)).setCell ⟨w.heap.size, 5, none⟩ (.slice a2 x.inn.length k2)).setCell ⟨w.heap.size, 6, none⟩ (.slice a3 x.back.length k3))) := hide ((((Turned.refl (fun k => k = w.heap.size) w3).set (.inl rfl)).set (.inl rfl)).set (.inl rfl))
    clear e4 e5 e6 f0 f1 f2 f3 f4 f5 f6 f7 f8 f9 f10 g4 g5 g6 c4 c5 c6 d4 d5 d6 HS0 HS1 HS2 HS3 HZ0 HZ1 HZ2 HC1 HC2 HC3
    generalize ((w3.setCell ⟨w.heap.size, 4, none⟩ (.slice a1 x.out.length k1)).setCell ⟨w.heap.size, 5, none⟩ (.slice a2 x.inn.length k2)).setCell ⟨w.heap.size, 6, none⟩ (.slice a3 x.back.length k3) = w4 at *
    have HZ4 := hide ((HT4.out.block (w.heap.size + 1) (Array.getElem?_eq_some_iff.1 HZ3.out).1 (by omega)).trans HZ3.out)
    obtain ⟨f0, f1, f2, f3, f4, f5, f6, f7, f8, f9, f10⟩ := HS4.out.cs
    have z0 := cell_of_row w4 (w.heap.size + 1) 0 _ _ _ HZ4.out
    have z1 := cell_of_row w4 (w.heap.size + 1) 1 _ _ _ HZ4.out
    have z2 := cell_of_row w4 (w.heap.size + 1) 2 _ _ _ HZ4.out
    have z3 := cell_of_row w4 (w.heap.size + 1) 3 _ _ _ HZ4.out
    have z4 := cell_of_row w4 (w.heap.size + 1) 4 _ _ _ HZ4.out
    have z5 := cell_of_row w4 (w.heap.size + 1) 5 _ _ _ HZ4.out
    have z6 := cell_of_row w4 (w.heap.size + 1) 6 _ _ _ HZ4.out
    have z7 := cell_of_row w4 (w.heap.size + 1) 7 _ _ _ HZ4.out
    have z8 := cell_of_row w4 (w.heap.size + 1) 8 _ _ _ HZ4.out
    have z9 := cell_of_row w4 (w.heap.size + 1) 9 _ _ _ HZ4.out
    have z10 := cell_of_row w4 (w.heap.size + 1) 10 _ _ _ HZ4.out
    have y0 := frozen_of_row w4 (w.heap.size + 1) 0 _ _ HZ4.out
    have y1 := frozen_of_row w4 (w.heap.size + 1) 1 _ _ HZ4.out
    have y2 := frozen_of_row w4 (w.heap.size + 1) 2 _ _ HZ4.out
    have y3 := frozen_of_row w4 (w.heap.size + 1) 3 _ _ HZ4.out
    have y4 := frozen_of_row w4 (w.heap.size + 1) 4 _ _ HZ4.out
    have y5 := frozen_of_row w4 (w.heap.size + 1) 5 _ _ HZ4.out
    have y6 := frozen_of_row w4 (w.heap.size + 1) 6 _ _ HZ4.out
    have y7 := frozen_of_row w4 (w.heap.size + 1) 7 _ _ HZ4.out
    have y8 := frozen_of_row w4 (w.heap.size + 1) 8 _ _ HZ4.out
    have y9 := frozen_of_row w4 (w.heap.size + 1) 9 _ _ HZ4.out
    have y10 := frozen_of_row w4 (w.heap.size + 1) 10 _ _ HZ4.out
    simp at z0 z1 z2 z3 z4 z5 z6 z7 z8 z9 z10
    go_wp2
    obtain ⟨e1, e2⟩ := st_fill w4 (w.heap.size + 1) x (.slice a1 x.out.length k1) (.slice a2 x.inn.length k2) (.slice a3 x.back.length k3) HZ4.out
    have HTw := hide ((HT4.out.mono fun k e => (.inl e : k = w.heap.size ∨ k = w.heap.size + 1)).trans (e2.mono fun k e => (.inr e : k = w.heap.size ∨ k = w.heap.size + 1)) (fun _ _ e => e))
    refine bodyPost_ret (results_cell_row rfl _ _ (w.heap.size + 1) _ _ _ _ rfl e1 Try.underlying35 rfl (by kernel_rfl)) rfl ?_
    have far : ∀ k, w.heap.size + 1 < k → ¬ (k = w.heap.size ∨ k = w.heap.size + 1) := fun k h e => by omega
    have hr1 := HO3.out.1.1
    have hr2 := HO3.out.1.2
    have hr3 := HO3.out.2
    have hs0 : w.heap.size + 1 < w0.drew.heap.size := hz0
    exact ⟨_, _, _, rfl, owns_mono (owns_turned hr1 HTw.out (fun k e => far k (by have := (hr1.lt k e).1; omega))) (by omega), owns_mono (owns_turned hr2 HTw.out (fun k e => far k (by have := (hr2.lt k e).1; omega))) (by omega), owns_mono (owns_turned hr3 HTw.out (fun k e => far k (by have := (hr3.lt k e).1; omega))) (by omega), (HTw.out.below (B := w.heap.size) (fun k e => by omega) HB3.out.size) |> HB3.out.trans, fun k e => ⟨fun e' => by have := (HO1.out.lt k e).2; have := (HO2.out.2.lt k e').1; omega, fun e' => by have := (HO1.out.lt k e).2; have := (HO3.out.2.lt k e').1; omega⟩, fun k e e' => by have := (HO2.out.2.lt k e).2; have := (HO3.out.2.lt k e').1; omega⟩
end Go.Proofs.Ytgbkhmiphaefgaa

/- Blocks: a source: a state on its way, what was read stands apart; in memory. -/
namespace Go.Proofs.Ytgbkhmiphaefgaa
open Go.RowKit

theorem Sl.cut1 {W : World} {q o c : Nat} {l : List UInt8} {n : Nat} (h : Sl W (.slice (some ⟨q, o, none⟩) n c) l) (hn : 0 < n) : ∃ ch t, l = ch :: t ∧ n = t.length + 1 ∧ W.cell? ⟨q, o, none⟩ = some (.int .u8 (ch.toNat : Int)) ∧ Sl W (.slice (some ⟨q, o + 1, none⟩) (n - 1) (c - 1)) t ∧ n ≤ c := by
  obtain ⟨a2, c2, e, hb, hc⟩ := h
  have hnl : n = l.length := by cases e; rfl
  subst hnl
  cases l with
  | nil => simp at hn
  | cons ch t =>
    obtain ⟨-, qb, qo, e2, -, hcell⟩ := bys_block hb (by simp)
    cases e2
    cases e
    have h0 := hcell 0 (by simp)
    have h1 := bys_cut hb 1 t.length (c - 1) (by simp only [List.length_cons]; omega)
    rw [List.drop_succ_cons, List.drop_zero, List.take_length] at h1
    exact ⟨ch, t, rfl, rfl, by simpa using h0, ⟨_, _, rfl, h1, by simp only [List.length_cons] at hc; omega⟩, hc⟩
def BSrc (W : World) (g : Nat) (x : SS) (o i b r f : Value) : Prop := W.heap[g]? = some (.cells #[.bool x.rd, .bool x.wt, .int .i64 x.mode, .int .i64 x.size, o, i, b, .int .i64 x.dir, .bool x.fin, .bool x.bad, .bool x.closed, r, f] 88)
theorem BSrc.cs {W : World} {g : Nat} {x : SS} {o i b r f : Value} (h : BSrc W g x o i b r f) : W.cell? ⟨g, 0, none⟩ = some (.bool x.rd) ∧ W.cell? ⟨g, 1, none⟩ = some (.bool x.wt) ∧ W.cell? ⟨g, 2, none⟩ = some (.int .i64 x.mode) ∧ W.cell? ⟨g, 3, none⟩ = some (.int .i64 x.size) ∧ W.cell? ⟨g, 4, none⟩ = some (o) ∧ W.cell? ⟨g, 5, none⟩ = some (i) ∧ W.cell? ⟨g, 6, none⟩ = some (b) ∧ W.cell? ⟨g, 7, none⟩ = some (.int .i64 x.dir) ∧ W.cell? ⟨g, 8, none⟩ = some (.bool x.fin) ∧ W.cell? ⟨g, 9, none⟩ = some (.bool x.bad) ∧ W.cell? ⟨g, 10, none⟩ = some (.bool x.closed) ∧ W.cell? ⟨g, 11, none⟩ = some (r) ∧ W.cell? ⟨g, 12, none⟩ = some (f) :=
  ⟨cell_of_row W g 0 _ _ _ h, cell_of_row W g 1 _ _ _ h, cell_of_row W g 2 _ _ _ h, cell_of_row W g 3 _ _ _ h, cell_of_row W g 4 _ _ _ h, cell_of_row W g 5 _ _ _ h, cell_of_row W g 6 _ _ _ h, cell_of_row W g 7 _ _ _ h, cell_of_row W g 8 _ _ _ h, cell_of_row W g 9 _ _ _ h, cell_of_row W g 10 _ _ _ h, cell_of_row W g 11 _ _ _ h, cell_of_row W g 12 _ _ _ h⟩
theorem BSrc.lt {W : World} {g : Nat} {x : SS} {o i b r f : Value} (h : BSrc W g x o i b r f) : g < W.heap.size := (Array.getElem?_eq_some_iff.1 h).1
theorem BSrc.soft {W : World} {g : Nat} {x : SS} {o i b r f : Value} (h : BSrc W g x o i b r f) (j : Nat) : W.frozen? ⟨g, j, none⟩ = false := frozen_of_row W g j _ _ h
theorem BSrc.set {W : World} {g : Nat} {x x' : SS} {o i b o' i' b' r r' f f' : Value} (h : BSrc W g x o i b r f) (j : Nat) (u : Value) (hl : ([.bool x.rd, .bool x.wt, .int .i64 x.mode, .int .i64 x.size, o, i, b, .int .i64 x.dir, .bool x.fin, .bool x.bad, .bool x.closed, r, f] : List Value).set j u = [.bool x'.rd, .bool x'.wt, .int .i64 x'.mode, .int .i64 x'.size, o', i', b', .int .i64 x'.dir, .bool x'.fin, .bool x'.bad, .bool x'.closed, r', f']) : BSrc (W.setCell ⟨g, j, none⟩ u) g x' o' i' b' r' f' := by
  have := Go.heap_setCell_same W g j _ _ u h
  unfold BSrc
  rw [this]
  simp only [List.setIfInBounds_toArray, hl]
theorem BSrc.below {W W' : World} {g : Nat} {x : SS} {o i b r f : Value} (h : BSrc W g x o i b r f) (hB : Below W.heap.size W W') : BSrc W' g x o i b r f := (hB.block g h.lt).trans h
theorem BSrc.turned {P : Nat → Prop} {W W' : World} {g : Nat} {x : SS} {o i b r f : Value} (h : BSrc W g x o i b r f) (hT : Turned P W W') (hg : ¬ P g) : BSrc W' g x o i b r f := (hT.block g h.lt hg).trans h
theorem BSrc.two {W : World} {g : Nat} {x : SS} {o i b r f : Value} (h : BSrc W g x o i b r f) (n : List UInt8) (i' f' : Value) : BSrc ((W.setCell ⟨g, 5, none⟩ i').setCell ⟨g, 12, none⟩ f') g (x.near n) o i' b r f' := BSrc.set (x := x.near n) (BSrc.set (x' := x.near n) h 5 i' rfl) 12 f' rfl
theorem BSrc.one {W : World} {g : Nat} {x : SS} {o i b r f : Value} (h : BSrc W g x o i b r f) (f' : Value) : BSrc (W.setCell ⟨g, 12, none⟩ f') g x o i b r f' := BSrc.set h 12 f' rfl
theorem BSrc.fill {w : World} {g : Nat} {y : SS} {o0 i0 b0 r f : Value} (h : BSrc w g y o0 i0 b0 r f) (x : SS) (o i b : Value) : BSrc (filled w g x o i b) g x o i b r f ∧ Turned (fun k => k = g) w (filled w g x o i b) := by
  have e0 := Go.heap_setCell_same _ g 0 _ _ (.bool x.rd) h
  simp only [List.setIfInBounds_toArray, List.set_cons_zero] at e0
  have e1 := Go.heap_setCell_same _ g 1 _ _ (.bool x.wt) e0
  simp only [List.setIfInBounds_toArray, List.set_cons_zero, List.set_cons_succ] at e1
  have e2 := Go.heap_setCell_same _ g 2 _ _ (.int .i64 x.mode) e1
  simp only [List.setIfInBounds_toArray, List.set_cons_zero, List.set_cons_succ] at e2
  have e3 := Go.heap_setCell_same _ g 3 _ _ (.int .i64 x.size) e2
  simp only [List.setIfInBounds_toArray, List.set_cons_zero, List.set_cons_succ] at e3
  have e4 := Go.heap_setCell_same _ g 4 _ _ (o) e3
  simp only [List.setIfInBounds_toArray, List.set_cons_zero, List.set_cons_succ] at e4
  have e5 := Go.heap_setCell_same _ g 5 _ _ (i) e4
  simp only [List.setIfInBounds_toArray, List.set_cons_zero, List.set_cons_succ] at e5
  have e6 := Go.heap_setCell_same _ g 6 _ _ (b) e5
  simp only [List.setIfInBounds_toArray, List.set_cons_zero, List.set_cons_succ] at e6
  have e7 := Go.heap_setCell_same _ g 7 _ _ (.int .i64 x.dir) e6
  simp only [List.setIfInBounds_toArray, List.set_cons_zero, List.set_cons_succ] at e7
  have e8 := Go.heap_setCell_same _ g 8 _ _ (.bool x.fin) e7
  simp only [List.setIfInBounds_toArray, List.set_cons_zero, List.set_cons_succ] at e8
  have e9 := Go.heap_setCell_same _ g 9 _ _ (.bool x.bad) e8
  simp only [List.setIfInBounds_toArray, List.set_cons_zero, List.set_cons_succ] at e9
  have e10 := Go.heap_setCell_same _ g 10 _ _ (.bool x.closed) e9
  simp only [List.setIfInBounds_toArray, List.set_cons_zero, List.set_cons_succ] at e10
  exact ⟨e10, ((((((((((((Turned.refl (fun k => k = g) w).set (.inl rfl)).set (.inl rfl)).set (.inl rfl)).set (.inl rfl)).set (.inl rfl)).set (.inl rfl)).set (.inl rfl)).set (.inl rfl)).set (.inl rfl)).set (.inl rfl)).set (.inl rfl))⟩
structure BSrcOn {S : Type} (At : World → (Nat → Prop) → S → Prop) (W : World) (O : Nat → Prop) (s : S) (B g : Nat) (y : SS) (far : List UInt8) (o i b r f : Value) : Prop where
  src : BSrc W g y o i b r f
  ls : SIn W (fun k => B ≤ k ∧ ¬ O k ∧ k ≠ g ∧ k < W.heap.size) y o i b
  fl : Sl W f far
  fp : ∀ k, f.ownBlock = some k → B ≤ k ∧ ¬ O k ∧ k ≠ g ∧ k < W.heap.size
  raw : At W O s
  og : ¬ O g
  gB : B ≤ g
  ol : ∀ j, O j → j < W.heap.size
  nr : far ≠ [] → y.inn = [] ∧ y.back = []
theorem BSrc.new (w : World) (x : SS) (o i b r f : Value) : BSrc (w.alloc (Obj.cells #[.bool x.rd, .bool x.wt, .int .i64 x.mode, .int .i64 x.size, o, i, b, .int .i64 x.dir, .bool x.fin, .bool x.bad, .bool x.closed, r, f] 88)) w.heap.size x o i b r f := heap_alloc_new w _
theorem BSrcOn.turned {S : Type} {At : World → (Nat → Prop) → S → Prop} (hT : ∀ s, OAt (fun w O => At w O s)) {W W' : World} {Q O : Nat → Prop} {s : S} {B g : Nat} {y : SS} {far : List UInt8} {o i b r f : Value} (h : BSrcOn At W O s B g y far o i b r f) (t : Turned Q W W') (hQ : ∀ k, k < W.heap.size → Q k → OffS k O g o i b f) : BSrcOn At W' O s B g y far o i b r f := by
  have hz := t.size
  refine ⟨h.src.turned t (fun e => (hQ g h.src.lt e).2.1 rfl), ?_, h.fl.turned t (fun k e hk e2 => (hQ k hk e2).2.2.2.2.2 e), fun k e => ?_, (hT s).keep h.raw (fun j e hj => t.block j hj (fun e2 => (hQ j hj e2).1 e)) hz, h.og, h.gB, fun j e => Nat.lt_of_lt_of_le (h.ol j e) hz, h.nr⟩
  · exact ⟨h.ls.so.turned t (fun k e hk e2 => (hQ k hk e2).2.2.1 e), h.ls.si.turned t (fun k e hk e2 => (hQ k hk e2).2.2.2.1 e), h.ls.sb.turned t (fun k e hk e2 => (hQ k hk e2).2.2.2.2.1 e), fun k e => ⟨(h.ls.po k e).1, (h.ls.po k e).2.1, (h.ls.po k e).2.2.1, Nat.lt_of_lt_of_le (h.ls.po k e).2.2.2 hz⟩, fun k e => ⟨(h.ls.pi k e).1, (h.ls.pi k e).2.1, (h.ls.pi k e).2.2.1, Nat.lt_of_lt_of_le (h.ls.pi k e).2.2.2 hz⟩, fun k e => ⟨(h.ls.pb k e).1, (h.ls.pb k e).2.1, (h.ls.pb k e).2.2.1, Nat.lt_of_lt_of_le (h.ls.pb k e).2.2.2 hz⟩⟩
  · exact ⟨(h.fp k e).1, (h.fp k e).2.1, (h.fp k e).2.2.1, Nat.lt_of_lt_of_le (h.fp k e).2.2.2 hz⟩
theorem BSrcOn.below {S : Type} {At : World → (Nat → Prop) → S → Prop} (hT : ∀ s, OAt (fun w O => At w O s)) {W W' : World} {O : Nat → Prop} {s : S} {B g : Nat} {y : SS} {far : List UInt8} {o i b r f : Value} (h : BSrcOn At W O s B g y far o i b r f) (hB : Below W.heap.size W W') : BSrcOn At W' O s B g y far o i b r f := h.turned hT (Turned.of_below (S := fun _ => False) hB) (fun _ _ e => e.elim)
end Go.Proofs.Ytgbkhmiphaefgaa

/- Streams: three lists of a state, apart; a state that a call gave, in a variable of its own. -/
namespace Go.Proofs.Ytgbkhmiphaefgaa
open Go.RowKit

end Go.Proofs.Ytgbkhmiphaefgaa

/- Streams: a state of the program's in a call's variable, beside a Raw. -/
namespace Go.Proofs.Ytgbkhmiphaefgaa
open Go.RowKit

theorem StAt.set {W : World} {g : Nat} {x x' : SS} {o i b o' i' b' : Value} (h : StAt W g x o i b) (j : Nat) (u : Value) (hl : ([.bool x.rd, .bool x.wt, .int .i64 x.mode, .int .i64 x.size, o, i, b, .int .i64 x.dir, .bool x.fin, .bool x.bad, .bool x.closed] : List Value).set j u = [.bool x'.rd, .bool x'.wt, .int .i64 x'.mode, .int .i64 x'.size, o', i', b', .int .i64 x'.dir, .bool x'.fin, .bool x'.bad, .bool x'.closed]) : StAt (W.setCell ⟨g, j, none⟩ u) g x' o' i' b' ∧ Turned (fun k => k = g) W (W.setCell ⟨g, j, none⟩ u) := by
  refine ⟨?_, (Turned.refl (fun k => k = g) W).set (.inl rfl)⟩
  have := Go.heap_setCell_same W g j _ _ u h
  unfold StAt
  rw [this]
  simp only [List.setIfInBounds_toArray, hl]
theorem StAt.turned {P : Nat → Prop} {W W' : World} {g : Nat} {x : SS} {o i b : Value} (h : StAt W g x o i b) (hT : Turned P W W') (hn : ¬ P g) : StAt W' g x o i b := (hT.block g h.lt hn).trans h
theorem st_fill3 (w : World) (r : Nat) (x : SS) (o i b : Value) (h : w.heap[r]? = some (Obj.cells #[.bool false, .bool false, .int .i64 0, .int .i64 0, .slice none 0 0, .slice none 0 0, .slice none 0 0, .int .i64 0, .bool false, .bool false, .bool false] 35)) : StAt (filled w r x o i b) r x o i b ∧ Turned (fun k => k = r) w (filled w r x o i b) := st_fill w r x o i b h
structure QV {σ : Type} (B : World → (Nat → Prop) → σ → Prop) (w : World) (O0 : Nat → Prop) (r g : Nat) (W : World) (O : Nat → Prop) (x : SS) (s : σ) (o i b : Value) : Prop where
  st : StAt W g x o i b
  ls : SIn W (fun k => w.heap.size ≤ k ∧ ¬ O k ∧ k ≠ g ∧ k ≠ r ∧ k < W.heap.size) x o i b
  raw : B W O s
  ol : ∀ j, O j → j < W.heap.size
  og : ¬ O g
  orr : ¬ O r
  zr : W.heap[r]? = some (Obj.cells #[.bool false, .bool false, .int .i64 0, .int .i64 0, .slice none 0 0, .slice none 0 0, .slice none 0 0, .int .i64 0, .bool false, .bool false, .bool false] 35)
  gr : g ≠ r
  gw : w.heap.size ≤ g
  rw : w.heap.size ≤ r
  oo : ∀ k, O k → O0 k ∨ w.heap.size ≤ k
  tu : Turned O0 w W
theorem QV.rlt {σ : Type} {B : World → (Nat → Prop) → σ → Prop} {w : World} {O0 : Nat → Prop} {r g : Nat} {W : World} {O : Nat → Prop} {x : SS} {s : σ} {o i b : Value} (h : QV B w O0 r g W O x s o i b) : r < W.heap.size := (Array.getElem?_eq_some_iff.1 h.zr).1
theorem QV.below {σ : Type} {B : World → (Nat → Prop) → σ → Prop} (hT : ∀ s, OAt (fun w O => B w O s)) {w : World} {O0 : Nat → Prop} {r g : Nat} {W W' : World} {O : Nat → Prop} {x : SS} {s : σ} {o i b : Value} (h : QV B w O0 r g W O x s o i b) (hB : Below W.heap.size W W') : QV B w O0 r g W' O x s o i b := by
  have hz := hB.size
  exact ⟨h.st.below hB, (h.ls.below hB).mono fun k e => ⟨e.1, e.2.1, e.2.2.1, e.2.2.2.1, by have := e.2.2.2.2; omega⟩, (hT s).keep h.raw (fun j _ hj => hB.block j hj) hz, fun j e => Nat.lt_of_lt_of_le (h.ol j e) hz, h.og, h.orr, (hB.block r h.rlt).trans h.zr, h.gr, h.gw, h.rw, h.oo, h.tu.trans (Turned.of_below (S := O0) hB) (fun _ _ e => e)⟩
theorem QV.out {σ : Type} {B : World → (Nat → Prop) → σ → Prop} (hT : ∀ s, OAt (fun w O => B w O s)) {w : World} {O0 : Nat → Prop} {r g : Nat} {W : World} {O : Nat → Prop} {x : SS} {s : σ} {o i b : Value} (h : QV B w O0 r g W O x s o i b) : StAt (filled W r x o i b) r x o i b ∧ SOut B w O0 x s o i b (filled W r x o i b) := by
  obtain ⟨e1, e2⟩ := st_fill3 W r x o i b h.zr
  have hz := e2.size
  have hr := h.rw
  exact ⟨e1, O, (h.ls.turned e2 fun k e _ => e.2.2.2.1).mono fun k e => ⟨e.1, e.2.1, by have := e.2.2.2.2; omega⟩, (hT s).keep h.raw (fun j e hj => e2.block j hj (fun e' => h.orr (e' ▸ e))) hz, fun j e => Nat.lt_of_lt_of_le (h.ol j e) hz, h.oo, h.tu.trans e2 (fun k hk e => by have e' : k = r := e; omega)⟩
end Go.Proofs.Ytgbkhmiphaefgaa

/- Streams: a call's variable takes what another call gave. -/
namespace Go.Proofs.Ytgbkhmiphaefgaa
open Go.RowKit

theorem QV.of_out {σ : Type} {B : World → (Nat → Prop) → σ → Prop} (hT : ∀ s, OAt (fun w O => B w O s)) {w w1 w2 : World} {O : Nat → Prop} {r g : Nat} {x x' : SS} {s' : σ} {o i b o' i' b' : Value} (hB : Below w.heap.size w w1) (hs : StAt w1 g x o i b) (hz : w1.heap[r]? = some (Obj.cells #[.bool false, .bool false, .int .i64 0, .int .i64 0, .slice none 0 0, .slice none 0 0, .slice none 0 0, .int .i64 0, .bool false, .bool false, .bool false] 35)) (hgr : g ≠ r) (hg : w.heap.size ≤ g) (hr : w.heap.size ≤ r) (hO : ∀ j, O j → j < w.heap.size) (hS : SOut B w1 O x' s' o' i' b' w2) :
    StAt w2 g x o i b ∧ ∃ O', QV B w O r g (filled w2 g x' o' i' b') O' x' s' o' i' b' := by
  obtain ⟨O', h1, h2, h3, h4, h5⟩ := hS
  have hz1 := hB.size
  have hz5 := h5.size
  have hgl := hs.lt
  have hrl : r < w1.heap.size := (Array.getElem?_eq_some_iff.1 hz).1
  have hst : StAt w2 g x o i b := (h5.block g hgl (fun e => by have := hO g e; omega)).trans hs
  obtain ⟨e1, e2⟩ := st_fill2 w2 g x x' o i b o' i' b' hst
  have hz2 := e2.size
  have no : ∀ k, w.heap.size ≤ k → k < w1.heap.size → ¬ O' k := fun k ha hb e => by
    rcases h4 k e with e | e
    · have := hO k e; omega
    · omega
  refine ⟨hst, O', e1, (h1.turned e2 fun k e _ e' => by have := e.1; omega).mono fun k e => ⟨by have := e.1; omega, e.2.1, by have := e.1; omega, by have := e.1; omega, by have := e.2.2; omega⟩, (hT s').keep h2 (fun j e hj => e2.block j hj (fun e' => no g hg hgl (e' ▸ e))) hz2, fun j e => Nat.lt_of_lt_of_le (h3 j e) hz2, no g hg hgl, no r hr hrl, ?_, hgr, hg, hr, fun k e => (h4 k e).imp id (fun e => by omega), ?_⟩
  · exact (e2.block r (by omega) (fun e => hgr e.symm)).trans ((h5.block r hrl (fun e => by have := hO r e; omega)).trans hz)
  · exact ((Turned.of_below (S := O) hB).trans h5 (fun _ _ e => e)).trans e2 (fun k hk e => by have e' : k = g := e; omega)
theorem SIn.nils0 {W : World} {P : Nat → Prop} {x : SS} (h1 : x.out = []) (h2 : x.inn = []) (h3 : x.back = []) : SIn W P x (.slice none 0 0) (.slice none 0 0) (.slice none 0 0) := by
  have hno : ∀ k, (Value.slice none 0 0).ownBlock = some k → False := fun k e => by simp [Value.ownBlock] at e
  exact ⟨h1 ▸ Sl.nil, h2 ▸ Sl.nil, h3 ▸ Sl.nil, fun k e => (hno k e).elim, fun k e => (hno k e).elim, fun k e => (hno k e).elim⟩
end Go.Proofs.Ytgbkhmiphaefgaa

/- Streams: what a call leaves, carried on. -/
namespace Go.Proofs.Ytgbkhmiphaefgaa
open Go.RowKit

theorem SOut.below {S : Type} {At : World → (Nat → Prop) → S → Prop} (hT : ∀ s, OAt (fun w O => At w O s)) {w w2 w3 : World} {O : Nat → Prop} {x x' : SS} {s : S} {o i b : Value} (h : SOut At w O x s o i b w2) (hB : Below w2.heap.size w2 w3) (e1 : x'.out = x.out) (e2 : x'.inn = x.inn) (e3 : x'.back = x.back) : SOut At w O x' s o i b w3 := by
  obtain ⟨O', h1, h2, h3, h4, h5⟩ := h
  have hz := hB.size
  refine ⟨O', ?_, (hT s).keep h2 (fun j _ hj => hB.block j hj) hz, fun j e => Nat.lt_of_lt_of_le (h3 j e) hz, h4, h5.trans (Turned.of_below (S := O) hB) (fun _ _ e => e)⟩
  have h6 := (h1.below hB).mono (Q := fun k => w.heap.size ≤ k ∧ ¬ O' k ∧ k < w3.heap.size) fun k e => ⟨e.1, e.2.1, by have := e.2.2; omega⟩
  exact ⟨by rw [e1]; exact h6.so, by rw [e2]; exact h6.si, by rw [e3]; exact h6.sb, h6.po, h6.pi, h6.pb⟩
theorem SOut.of_own {S : Type} {At : World → (Nat → Prop) → S → Prop} (hT : ∀ s, OAt (fun w O => At w O s)) {w w3 : World} {O : Nat → Prop} {x : SS} {s : S} {o i b : Value} (hA : At w O s) (hO : ∀ j, O j → j < w.heap.size) (h1 : w3.ownsRow w.heap.size 5 1 o x.out.length (x.out.map bv)) (h2 : w3.ownsRow w.heap.size 5 1 i x.inn.length (x.inn.map bv)) (h3 : w3.ownsRow w.heap.size 5 1 b x.back.length (x.back.map bv)) (hB : Below w.heap.size w w3) : SOut At w O x s o i b w3 := by
  have hz := hB.size
  have far : ∀ k, w.heap.size ≤ k → ¬ O k := fun k h e => by have := hO k e; omega
  exact ⟨O, ⟨Sl.own h1, Sl.own h2, Sl.own h3, fun k e => ⟨(h1.lt k e).1, far k (h1.lt k e).1, (h1.lt k e).2⟩, fun k e => ⟨(h2.lt k e).1, far k (h2.lt k e).1, (h2.lt k e).2⟩, fun k e => ⟨(h3.lt k e).1, far k (h3.lt k e).1, (h3.lt k e).2⟩⟩, (hT s).keep hA (fun j _ hj => hB.block j hj) hz, fun j e => Nat.lt_of_lt_of_le (hO j e) hz, fun k e => .inl e, Turned.of_below (S := O) hB⟩
end Go.Proofs.Ytgbkhmiphaefgaa

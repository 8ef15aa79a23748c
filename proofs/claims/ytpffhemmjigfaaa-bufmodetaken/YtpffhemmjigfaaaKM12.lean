/- What the proof stands on, part 12: the contracts of the program's calls that it reaches. -/
import Derived.Test.YtpffhemmjigfaaaKM11
import Derived.Laws.AppendOwnNone
import Derived.Deep.QuietTactic
import Derived.BigQuiet
import Derived.Lib.SlBytesConst
import Derived.Deep.RegionHeld3
/- Bytes pushed back: the reference's UngetAll, Unget, Held. -/
namespace Go.Proofs.Ytpffhemmjigfaaa
open Go.RowKit

theorem RSt.lt {W : World} {g : Nat} {x : SS} {o i b : Value} (h : RSt W g x o i b) : g < W.heap.size := (Array.getElem?_eq_some_iff.1 h).1
theorem RSt.soft {W : World} {g : Nat} {x : SS} {o i b : Value} (h : RSt W g x o i b) (j : Nat) : W.frozen? ⟨g, j, none⟩ = false := frozen_of_row W g j _ _ h
theorem rst_turn (w : World) (g : Nat) (x : SS) (o i b : Value) (h : RSt w g x o i b) : RSt ((w.setCell ⟨g, 7, none⟩ (.int .i64 1)).setCell ⟨g, 8, none⟩ (.bool false)) g { x with dir := 1, fin := false } o i b ∧ Turned (fun k => k = g) w ((w.setCell ⟨g, 7, none⟩ (.int .i64 1)).setCell ⟨g, 8, none⟩ (.bool false)) := by
  have e0 := Go.heap_setCell_same _ g 7 _ _ (.int .i64 1) h
  simp only [List.setIfInBounds_toArray, List.set_cons_zero, List.set_cons_succ] at e0
  have e1 := Go.heap_setCell_same _ g 8 _ _ (.bool false) e0
  simp only [List.setIfInBounds_toArray, List.set_cons_zero, List.set_cons_succ] at e1
  exact ⟨e1, ((Turned.refl (fun k => k = g) w).set (.inl rfl)).set (.inl rfl)⟩
theorem rst_back (w : World) (g : Nat) (x y : SS) (o i b b' : Value) (h : RSt w g x o i b) (e : y = { x with back := y.back }) : RSt (w.setCell ⟨g, 6, none⟩ b') g y o i b' := by
  have e0 := Go.heap_setCell_same _ g 6 _ _ b' h
  simp only [List.setIfInBounds_toArray, List.set_cons_zero, List.set_cons_succ] at e0
  rw [e]
  exact e0
theorem RSt.not_row {W : World} {g : Nat} {x : SS} {o i b : Value} (h : RSt W g x o i b) {base k : Nat} {v : Value} {xs : List Value} (hr : W.ownsRow base 5 1 v k xs) : v.ownBlock ≠ some g := by
  intro e
  rcases hr.2 with ⟨rfl, _⟩ | ⟨g', cap, cur, rfl, _, hgb, _⟩
  · simp [Value.ownBlock] at e
  · obtain rfl : g' = g := by simpa [Value.ownBlock] using e
    have := (show W.heap[g']? = _ from h).symm.trans hgb
    simp at this
theorem rres_two {fn : Func} {p u : Tmp} {w : World} (h : fn.results = #[.cell p 24, .tmp u]) (tmps : Array Value) (g : Nat) (hp : tmps.getD p undef = .pointer (some ⟨g, 0, none⟩)) (x : SS) (o i b : Value) (hg : RSt w g x o i b) : (results fn tmps).run Try.prog w = .ok (.tuple #[.agg #[.bool x.rd, .bool x.wt, .int .i64 x.mode, .int .i64 x.size, o, i, b, .int .i64 x.dir, .bool x.fin, .bool x.bad, .bool x.closed], tmps.getD u undef]) w := by
  have hp' : tmps[p]?.getD undef = .pointer (some ⟨g, 0, none⟩) := by simpa using hp
  simp [results, h, hp', asAddr, run_loadVar_row w g _ 24 _ _ _ hg Try.underlying24 rfl (by kernel_rfl)]
/-- Where the reference's loop stands. -/
def RbJ (g B : Nat) (x : SS) (o i b0 : Value) (w0 : World) (pre : List UInt8) (W : World) (v : Value) : Prop :=
  RSt W g { x with back := x.back ++ pre } o i v ∧ W.ownsRow B 5 1 v (x.back ++ pre).length ((x.back ++ pre).map bv) ∧ (∀ k, v.ownBlock = some k → b0.ownBlock = some k ∨ w0.heap.size ≤ k) ∧ Turned (fun k => k = g ∨ b0.ownBlock = some k) w0 W
theorem RbJ.next {g B : Nat} {x : SS} {o i b0 : Value} {w0 : World} {pre : List UInt8} {W Wt w1 : World} {c : UInt8} {v v' : Value}
    (h : RbJ g B x o i b0 w0 pre W v) (hT : Below W.heap.size W Wt) (hown : w1.ownsRow B 5 1 v' ((x.back ++ pre).length + 1) ((x.back ++ pre).map bv ++ [bv c])) (hgrow : Wt.grownBy w1 v.ownBlock) (hv' : v'.ownBlock = v.ownBlock ∨ v'.ownBlock = some Wt.heap.size) :
    RSt w1 g { x with back := x.back ++ pre } o i v ∧ RbJ g B x o i b0 w0 (pre ++ [c]) (w1.setCell ⟨g, 6, none⟩ v') v' := by
  obtain ⟨h1, h2, h3, h5⟩ := h
  have hz0 := h5.size
  have hs0 := hT.size
  have g1 : RSt Wt g { x with back := x.back ++ pre } o i v := h1.below hT
  have g2 : RSt w1 g { x with back := x.back ++ pre } o i v := (hgrow.block g g1.lt fun e => h1.not_row h2 e.symm).trans g1
  refine ⟨g2, rst_back w1 g _ _ o i v v' g2 rfl, ?_, ?_, ?_⟩
  · have := owns_turned hown ((Turned.refl (fun k => k = g) w1).set (j := 6) (u := v') (.inl rfl)) (fun k e e' => g2.not_row hown (e' ▸ e))
    rw [← List.append_assoc]
    simpa [Nat.add_assoc] using this
  · intro k e
    rcases hv' with h | h
    · exact h3 k (h ▸ e)
    · rw [h] at e
      cases e
      right; omega
  · refine Turned.set ?_ (.inl (.inl rfl))
    refine Turned.grown (wr := Wt) ?_ hgrow fun k e => ?_
    · exact h5.trans (Turned.of_below (S := fun _ => False) hT) (fun k _ e => e.elim)
    · rcases h3 k e with h | h
      · exact .inl (.inr h)
      · exact .inr h
set_option maxRecDepth 100000 in
set_option maxHeartbeats 8000000 in
theorem rungetAll_any (x : SS) (o i b : Value) (P : Nat → Prop) (ta : Option Addr) (tc : Nat) (t : List UInt8) (w : World) (h : SIn w P x o i b) (ho : x.out.length ≤ 140737488351232) (hi : x.inn.length ≤ 140737488351232) (hb : x.back.length ≤ 140737488351232) (hby : Bys w (.slice ta t.length tc) t) (htl : t.length ≤ 140737488351232) :
    Calls Try.prog 12 #[.agg #[.bool x.rd, .bool x.wt, .int .i64 x.mode, .int .i64 x.size, o, i, b, .int .i64 x.dir, .bool x.fin, .bool x.bad, .bool x.closed], .slice ta t.length tc] w fun e w' => ∃ o' i' b', e = .returned (.tuple #[.agg #[.bool (x.unget t).1.rd, .bool (x.unget t).1.wt, .int .i64 (x.unget t).1.mode, .int .i64 (x.unget t).1.size, o', i', b', .int .i64 (x.unget t).1.dir, .bool (x.unget t).1.fin, .bool (x.unget t).1.bad, .bool (x.unget t).1.closed], .int .i64 (x.unget t).2]) ∧ Own3 w.heap.size w' (x.unget t).1 o' i' b' ∧ Below w.heap.size w w' := by
  have HCp := hide (fun W (hW : Below w.heap.size w W) => rown_any x o i b P W (h.below hW) ho hi hb)
  obtain ⟨oa, oc, rfl, -⟩ := h.so
  obtain ⟨ia, ic, rfl, -⟩ := h.si
  obtain ⟨ba, bc, rfl, -⟩ := h.sb
  clear h
  have HBg := hide (fun (pa qa ra : Option Addr) (pc qc rc : Nat) W => rbegin_any x pa qa ra pc qc rc W hi hb)
  generalize hq : x.unget t = q
  obtain ⟨qx, qe⟩ := q
  unfold SS.unget at hq
  have HBy := hide hby
  clear hby
  go_enter Try.func12, Try.ntmps12
  go_wp2_with fail
  have HB0 := hide ((recv_below w (Obj.cells #[.bool x.rd, .bool x.wt, .int .i64 x.mode, .int .i64 x.size, .slice oa x.out.length oc, .slice ia x.inn.length ic, .slice ba x.back.length bc, .int .i64 x.dir, .bool x.fin, .bool x.bad, .bool x.closed] 24)).trans ((recv_below (w.alloc (Obj.cells #[.bool x.rd, .bool x.wt, .int .i64 x.mode, .int .i64 x.size, .slice oa x.out.length oc, .slice ia x.inn.length ic, .slice ba x.back.length bc, .int .i64 x.dir, .bool x.fin, .bool x.bad, .bool x.closed] 24)) (Obj.cells #[.bool false, .bool false, .int .i64 0, .int .i64 0, .slice none 0 0, .slice none 0 0, .slice none 0 0, .int .i64 0, .bool false, .bool false, .bool false] 24)).mono (recv_below w (Obj.cells #[.bool x.rd, .bool x.wt, .int .i64 x.mode, .int .i64 x.size, .slice oa x.out.length oc, .slice ia x.inn.length ic, .slice ba x.back.length bc, .int .i64 x.dir, .bool x.fin, .bool x.bad, .bool x.closed] 24)).size))
  have HZ0 : Hid (((w.alloc (Obj.cells #[.bool x.rd, .bool x.wt, .int .i64 x.mode, .int .i64 x.size, .slice oa x.out.length oc, .slice ia x.inn.length ic, .slice ba x.back.length bc, .int .i64 x.dir, .bool x.fin, .bool x.bad, .bool x.closed] 24)).alloc (Obj.cells #[.bool false, .bool false, .int .i64 0, .int .i64 0, .slice none 0 0, .slice none 0 0, .slice none 0 0, .int .i64 0, .bool false, .bool false, .bool false] 24)).heap[w.heap.size + 1]? = some (Obj.cells #[.bool false, .bool false, .int .i64 0, .int .i64 0, .slice none 0 0, .slice none 0 0, .slice none 0 0, .int .i64 0, .bool false, .bool false, .bool false] 24)) := hide (by have := heap_alloc_new (w.alloc (Obj.cells #[.bool x.rd, .bool x.wt, .int .i64 x.mode, .int .i64 x.size, .slice oa x.out.length oc, .slice ia x.inn.length ic, .slice ba x.back.length bc, .int .i64 x.dir, .bool x.fin, .bool x.bad, .bool x.closed] 24)) (Obj.cells #[.bool false, .bool false, .int .i64 0, .int .i64 0, .slice none 0 0, .slice none 0 0, .slice none 0 0, .int .i64 0, .bool false, .bool false, .bool false] 24); rw [show (w.alloc (Obj.cells #[.bool x.rd, .bool x.wt, .int .i64 x.mode, .int .i64 x.size, .slice oa x.out.length oc, .slice ia x.inn.length ic, .slice ba x.back.length bc, .int .i64 x.dir, .bool x.fin, .bool x.bad, .bool x.closed] 24)).heap.size = w.heap.size + 1 from Array.size_push ..] at this; exact this)
  generalize (w.alloc (Obj.cells #[.bool x.rd, .bool x.wt, .int .i64 x.mode, .int .i64 x.size, .slice oa x.out.length oc, .slice ia x.inn.length ic, .slice ba x.back.length bc, .int .i64 x.dir, .bool x.fin, .bool x.bad, .bool x.closed] 24)).alloc (Obj.cells #[.bool false, .bool false, .int .i64 0, .int .i64 0, .slice none 0 0, .slice none 0 0, .slice none 0 0, .int .i64 0, .bool false, .bool false, .bool false] 24) = w0 at *
  have hz0' : w.heap.size + 1 < w0.heap.size := (Array.getElem?_eq_some_iff.1 HZ0.out).1
  refine (HCp.out _ HB0.out).mono ?_
  rintro _ w1 ⟨o1, i1, b1, rfl, y1, y2, y3, hB1, hAp⟩
  obtain ⟨a1, k1, rfl⟩ := owns_slice y1
  obtain ⟨a2, k2, rfl⟩ := owns_slice y2
  obtain ⟨a3, k3, rfl⟩ := owns_slice y3
  have hz1' := hB1.size
  have HZ1 := hide ((hB1.block (w.heap.size + 1) hz0').trans HZ0.out)
  have HB1 := hide (HB0.out.trans (hB1.mono HB0.out.size))
  have HY1 : Hid (Own3 w0.heap.size w1 x (.slice a1 x.out.length k1) (.slice a2 x.inn.length k2) (.slice a3 x.back.length k3)) := hide ⟨y1, y2, y3, hAp⟩
  clear y1 y2 y3 hAp hB1 HZ0 HB0 HCp
  have HLt := hide HY1.out.lt
  have hst := RSt.new w1 x (.slice a1 x.out.length k1) (.slice a2 x.inn.length k2) (.slice a3 x.back.length k3)
  have hBn := recv_below w1 (Obj.cells #[.bool x.rd, .bool x.wt, .int .i64 x.mode, .int .i64 x.size, .slice a1 x.out.length k1, .slice a2 x.inn.length k2, .slice a3 x.back.length k3, .int .i64 x.dir, .bool x.fin, .bool x.bad, .bool x.closed] 24)
  have HS2 := hide hst
  have HY2 := hide (HY1.out.below hBn)
  have HZ2 := hide ((hBn.block (w.heap.size + 1) (by omega)).trans HZ1.out)
  have HB2 := hide (HB1.out.trans (hBn.mono HB1.out.size))
  have hz2' := hst.lt
  obtain ⟨c0, c1, c2, c3, c4, c5, c6, c7, c8, c9, c10⟩ := hst.cs
  clear hst hBn HY1 HZ1 HB1
  go_wp2_with fail
  generalize w1.alloc (Obj.cells #[.bool x.rd, .bool x.wt, .int .i64 x.mode, .int .i64 x.size, .slice a1 x.out.length k1, .slice a2 x.inn.length k2, .slice a3 x.back.length k3, .int .i64 x.dir, .bool x.fin, .bool x.bad, .bool x.closed] 24) = w2 at *
  have hgg : w.heap.size + 1 < w1.heap.size := by omega
  generalize w1.heap.size = g at *
  refine (HBg.out _ _ _ _ _ _ _).mono ?_
  rintro _ w3 ⟨rfl, hB3⟩
  have hz3 := hB3.size
  have HS3 := hide (HS2.out.below hB3)
  have HY3 := hide (HY2.out.below hB3)
  have HZ3 := hide ((hB3.block (w.heap.size + 1) (by omega)).trans HZ2.out)
  have HB3 := hide (HB2.out.trans (hB3.mono HB2.out.size))
  have HBy3 := hide (HBy.out.below HB3.out)
  clear HY2 HZ2 HB2 HS2 hB3 HBg c0 c1 c2 c3 c4 c5 c6 c7 c8 c9 c10
  have fin : ∀ W, RSt W (w.heap.size + 1) x (.slice a1 x.out.length k1) (.slice a2 x.inn.length k2) (.slice a3 x.back.length k3) ∧ Turned (fun k => k = w.heap.size + 1) w3 W → Own3 w.heap.size W x (.slice a1 x.out.length k1) (.slice a2 x.inn.length k2) (.slice a3 x.back.length k3) ∧ Below w.heap.size w W := fun W hW =>
    ⟨((HY3.out.turned hW.2 (fun k e1 e2 e => by have e' : k = w.heap.size + 1 := e; omega))).mono (by omega), HB3.out.trans (hW.2.below (fun k e => by have e' : k = w.heap.size + 1 := e; omega) HB3.out.size)⟩
  have HFin := hide fin
  have HZe := hide (rst_fill w3 (w.heap.size + 1) x (.slice a1 x.out.length k1) (.slice a2 x.inn.length k2) (.slice a3 x.back.length k3) HZ3.out)
  clear fin
  obtain ⟨c0, c1, c2, c3, c4, c5, c6, c7, c8, c9, c10⟩ := HS3.out.cs
  have f0 := frozen_of_row w3 (w.heap.size + 1) 0 _ _ HZ3.out
  have f1 := frozen_of_row w3 (w.heap.size + 1) 1 _ _ HZ3.out
  have f2 := frozen_of_row w3 (w.heap.size + 1) 2 _ _ HZ3.out
  have f3 := frozen_of_row w3 (w.heap.size + 1) 3 _ _ HZ3.out
  have f4 := frozen_of_row w3 (w.heap.size + 1) 4 _ _ HZ3.out
  have f5 := frozen_of_row w3 (w.heap.size + 1) 5 _ _ HZ3.out
  have f6 := frozen_of_row w3 (w.heap.size + 1) 6 _ _ HZ3.out
  have f7 := frozen_of_row w3 (w.heap.size + 1) 7 _ _ HZ3.out
  have f8 := frozen_of_row w3 (w.heap.size + 1) 8 _ _ HZ3.out
  have f9 := frozen_of_row w3 (w.heap.size + 1) 9 _ _ HZ3.out
  have f10 := frozen_of_row w3 (w.heap.size + 1) 10 _ _ HZ3.out
  have d0 := cell_of_row w3 (w.heap.size + 1) 0 _ _ _ HZ3.out
  have d1 := cell_of_row w3 (w.heap.size + 1) 1 _ _ _ HZ3.out
  have d2 := cell_of_row w3 (w.heap.size + 1) 2 _ _ _ HZ3.out
  have d3 := cell_of_row w3 (w.heap.size + 1) 3 _ _ _ HZ3.out
  have d4 := cell_of_row w3 (w.heap.size + 1) 4 _ _ _ HZ3.out
  have d5 := cell_of_row w3 (w.heap.size + 1) 5 _ _ _ HZ3.out
  have d6 := cell_of_row w3 (w.heap.size + 1) 6 _ _ _ HZ3.out
  have d7 := cell_of_row w3 (w.heap.size + 1) 7 _ _ _ HZ3.out
  have d8 := cell_of_row w3 (w.heap.size + 1) 8 _ _ _ HZ3.out
  have d9 := cell_of_row w3 (w.heap.size + 1) 9 _ _ _ HZ3.out
  have d10 := cell_of_row w3 (w.heap.size + 1) 10 _ _ _ HZ3.out
  simp at d0 d1 d2 d3 d4 d5 d6 d7 d8 d9 d10
  have hNP : x.noPush t.length = if x.refuse true ≠ 0 then x.refuse true else if x.rd = false then 65 else if x.dir = 2 then 112 else if (8 : Int) - x.back.length < t.length then 31 else 0 := rfl
  generalize x.refuse true = rf at *
  by_cases hr0 : rf = 0
  case neg =>
    rw [if_pos hr0] at hNP
    rw [if_pos (.inl (by rw [hNP]; exact hr0)), hNP] at hq
    obtain ⟨rfl, rfl⟩ : x = qx ∧ rf = qe := by simpa using hq
    have hb1 : (rf == 0) = false := by simp [hr0]
    have hb2 : (rf != 0) = true := by simp [hr0]
    clear hNP hq
    go_wp2
    refine bodyPost_ret (rres_two rfl _ (w.heap.size + 1) rfl x _ _ _ HZe.out.1) rfl ?_
    exact ⟨_, _, _, rfl, HFin.out _ HZe.out⟩
  subst hr0
  rw [if_neg (by simp)] at hNP
  rcases Bool.eq_false_or_eq_true x.rd with h2 | h2
  case inr =>
    rw [if_pos h2] at hNP
    rw [if_pos (.inl (by rw [hNP]; decide)), hNP] at hq
    obtain ⟨rfl, rfl⟩ : x = qx ∧ 65 = qe := by simpa using hq
    have hb1 : (!x.rd) = true := by simp [h2]
    clear hNP hq h2
    go_wp2
    refine bodyPost_ret (rres_two rfl _ (w.heap.size + 1) rfl x _ _ _ HZe.out.1) rfl ?_
    exact ⟨_, _, _, rfl, HFin.out _ HZe.out⟩
  rw [if_neg (by simp [h2])] at hNP
  have hb1 : (!x.rd) = false := by simp [h2]
  clear h2
  by_cases h3 : x.dir = 2
  · rw [if_pos h3] at hNP
    rw [if_pos (.inl (by rw [hNP]; decide)), hNP] at hq
    obtain ⟨rfl, rfl⟩ : x = qx ∧ 112 = qe := by simpa using hq
    have hb2 : (x.dir == 2) = true := by simp [h3]
    clear hNP hq h3
    go_wp2
    refine bodyPost_ret (rres_two rfl _ (w.heap.size + 1) rfl x _ _ _ HZe.out.1) rfl ?_
    exact ⟨_, _, _, rfl, HFin.out _ HZe.out⟩
  rw [if_neg h3] at hNP
  have hb2 : (x.dir == 2) = false := by simp [h3]
  clear h3
  by_cases h4 : (8 : Int) - x.back.length < t.length
  · rw [if_pos h4] at hNP
    rw [if_pos (.inl (by rw [hNP]; decide)), hNP] at hq
    obtain ⟨rfl, rfl⟩ : x = qx ∧ 31 = qe := by simpa using hq
    clear hNP hq
    go_wp2
    refine bodyPost_ret (rres_two rfl _ (w.heap.size + 1) rfl x _ _ _ HZe.out.1) rfl ?_
    exact ⟨_, _, _, rfl, HFin.out _ HZe.out⟩
  rw [if_neg h4] at hNP
  by_cases ht : t = []
  · subst ht
    rw [if_pos (.inr rfl), hNP] at hq
    obtain ⟨rfl, rfl⟩ : x = qx ∧ 0 = qe := by simpa using hq
    clear hNP hq
    go_wp2
    refine bodyPost_ret (rres_two rfl _ (w.heap.size + 1) rfl x _ _ _ HZe.out.1) rfl ?_
    exact ⟨_, _, _, rfl, HFin.out _ HZe.out⟩
  rw [if_neg (by rw [hNP]; simp [ht])] at hq
  obtain ⟨rfl, rfl⟩ : ({ x with back := x.back ++ t.reverse, dir := 1, fin := false } : SS) = qx ∧ (0 : Int) = qe := by simpa using hq
  have hbl : x.back.length + t.length ≤ 8 := by omega
  have htp : 0 < t.length := List.length_pos_iff.2 ht
  have htb : ((t.length : Int) == 0) = false := by simp; omega
  have ht1 : ¬ (t.length : Int) = 0 := by omega
  clear hNP hq ht HFin HZe
  go_wp2
  clear c0 c1 c2 c3 c4 c5 c6 c7 c8 c9 c10 f0 f1 f2 f3 f4 f5 f6 f7 f8 f9 f10 d0 d1 d2 d3 d4 d5 d6 d7 d8 d9 d10 h4 hb1 hb2
  go_loopw [8] (fun s8 wr => ∃ (k : Nat) (v : Value), k ≤ t.length ∧ s8 = .int .i64 ((k : Int) - 1) ∧ Hid (RbJ g w.heap.size x (.slice a1 x.out.length k1) (.slice a2 x.inn.length k2) (.slice a3 x.back.length k3) w3 (t.drop k).reverse wr v)) (fun s8 _ => (intOf s8 + 1).toNat)
  case atStart => exact ⟨t.length, _, Nat.le_refl _, rfl, hide ⟨by simpa using HS3.out, by simpa using owns_mono HY3.out.2.2.1 (show w.heap.size ≤ w0.heap.size by omega), fun k e => .inl e, Turned.refl _ _⟩⟩
  case round =>
    obtain ⟨k, v, hk, rfl, HJ⟩ := hrel
    have hBw : Below w.heap.size w wr := HB3.out.trans (HJ.out.2.2.2.below (fun k e => by
      rcases e with e | e
      · omega
      · have := HLt.out.2.2 k e; omega) HB3.out.size)
    have hzr := HJ.out.2.2.2.size
    rcases k with _ | j
    · obtain ⟨g1, g2, g3, g5⟩ := HJ.out
      rw [List.drop_zero] at g1 g2
      obtain ⟨va, vc, rfl⟩ := owns_slice g2
      obtain ⟨e1, e2⟩ := rst_turn wr g _ _ _ _ g1
      have hZW : wr.heap[w.heap.size + 1]? = some (Obj.cells #[.bool false, .bool false, .int .i64 0, .int .i64 0, .slice none 0 0, .slice none 0 0, .slice none 0 0, .int .i64 0, .bool false, .bool false, .bool false] 24) := (g5.block (w.heap.size + 1) (by omega) (fun e => by
        rcases e with e | e
        · omega
        · have := HLt.out.2.2 _ e; omega)).trans HZ3.out
      have hZ5 := (e2.block (w.heap.size + 1) (by omega) (by omega)).trans hZW
      obtain ⟨q1, q2⟩ := rst_fill _ (w.heap.size + 1) { x with back := x.back ++ t.reverse, dir := 1, fin := false } (.slice a1 x.out.length k1) (.slice a2 x.inn.length k2) (.slice va (x.back ++ t.reverse).length vc) hZ5
      have hT6 := ((e2.mono fun k e => (.inl e : k = g ∨ k = w.heap.size + 1)).trans (q2.mono fun k e => (.inr e : k = g ∨ k = w.heap.size + 1)) (fun _ _ e => e))
      have HS7 := hide q1
      have hy := HY3.out
      have hl := HLt.out
      have ho5 := owns_turned hy.1 g5 (fun k e e' => by
        rcases e' with e' | e'
        · have := hl.1 k e; omega
        · exact (hy.2.2.2.1 k e).2 e')
      have hi5 := owns_turned hy.2.1 g5 (fun k e e' => by
        rcases e' with e' | e'
        · have := hl.2.1 k e; omega
        · exact hy.2.2.2.2 k e e')
      have far : ∀ k, w0.heap.size ≤ k ∧ k < g → ¬ (k = g ∨ k = w.heap.size + 1) := fun k h1 e => by omega
      have HO7 : Hid (Own3 w.heap.size _ { x with back := x.back ++ t.reverse, dir := 1, fin := false } (.slice a1 x.out.length k1) (.slice a2 x.inn.length k2) (.slice va (x.back ++ t.reverse).length vc)) := hide
        ⟨owns_mono (owns_turned ho5 hT6 (fun k e => far k (hl.1 k e))) (by omega), owns_mono (owns_turned hi5 hT6 (fun k e => far k (hl.2.1 k e))) (by omega), owns_turned g2 hT6 (fun k e e' => by
          rcases e' with e' | e'
          · exact g1.not_row g2 (e' ▸ e)
          · rcases g3 k e with h | h
            · have := hl.2.2 k h; omega
            · omega), fun k e => ⟨(hy.2.2.2.1 k e).1, fun e' => by
          rcases g3 k e' with h | h
          · exact (hy.2.2.2.1 k e).2 h
          · have := hl.1 k e; omega⟩, fun k e e' => by
          rcases g3 k e' with h | h
          · exact hy.2.2.2.2 k e h
          · have := hl.2.1 k e; omega⟩
      have HB7 := hide (hBw.trans (hT6.below (B := w.heap.size) (fun k e => by rcases e with e | e <;> omega) hBw.size))
      obtain ⟨c0, c1, c2, c3, c4, c5, c6, c7, c8, c9, c10⟩ := g1.cs
      have s7 := g1.soft 7
      have s8 := g1.soft 8
      have f0 := frozen_of_row wr (w.heap.size + 1) 0 _ _ hZW
      have f1 := frozen_of_row wr (w.heap.size + 1) 1 _ _ hZW
      have f2 := frozen_of_row wr (w.heap.size + 1) 2 _ _ hZW
      have f3 := frozen_of_row wr (w.heap.size + 1) 3 _ _ hZW
      have f4 := frozen_of_row wr (w.heap.size + 1) 4 _ _ hZW
      have f5 := frozen_of_row wr (w.heap.size + 1) 5 _ _ hZW
      have f6 := frozen_of_row wr (w.heap.size + 1) 6 _ _ hZW
      have f7 := frozen_of_row wr (w.heap.size + 1) 7 _ _ hZW
      have f8 := frozen_of_row wr (w.heap.size + 1) 8 _ _ hZW
      have f9 := frozen_of_row wr (w.heap.size + 1) 9 _ _ hZW
      have f10 := frozen_of_row wr (w.heap.size + 1) 10 _ _ hZW
      have d0 := cell_of_row wr (w.heap.size + 1) 0 _ _ _ hZW
      have d1 := cell_of_row wr (w.heap.size + 1) 1 _ _ _ hZW
      have d2 := cell_of_row wr (w.heap.size + 1) 2 _ _ _ hZW
      have d3 := cell_of_row wr (w.heap.size + 1) 3 _ _ _ hZW
      have d4 := cell_of_row wr (w.heap.size + 1) 4 _ _ _ hZW
      have d5 := cell_of_row wr (w.heap.size + 1) 5 _ _ _ hZW
      have d6 := cell_of_row wr (w.heap.size + 1) 6 _ _ _ hZW
      have d7 := cell_of_row wr (w.heap.size + 1) 7 _ _ _ hZW
      have d8 := cell_of_row wr (w.heap.size + 1) 8 _ _ _ hZW
      have d9 := cell_of_row wr (w.heap.size + 1) 9 _ _ _ hZW
      have d10 := cell_of_row wr (w.heap.size + 1) 10 _ _ _ hZW
      simp at d0 d1 d2 d3 d4 d5 d6 d7 d8 d9 d10
      simp only at c0 c1 c2 c3 c4 c5 c6 c7 c8 c9 c10
      clear g1 g2 g3 g5 e1 e2 hZW hZ5 q1 q2 hT6 hy hl ho5 hi5 far HBy HBy3 HY3 HZ3 HS3 HJ hBw HB3
      generalize (x.back ++ t.reverse).length = L at *
      go_wp2
      refine bodyPost_ret (rres_two rfl _ (w.heap.size + 1) rfl ({ x with back := x.back ++ t.reverse, dir := 1, fin := false } : SS) (.slice a1 x.out.length k1) (.slice a2 x.inn.length k2) (.slice va L vc) HS7.out) rfl ?_
      exact ⟨_, _, _, rfl, HO7.out, HB7.out⟩
    have e1 : ((j + 1 : Nat) : Int) - 1 = (j : Int) := by omega
    rw [e1]
    obtain ⟨-, bb, boff, rfl, -, hc⟩ := bys_block (HBy.out.below hBw) (by omega)
    have hcj := hc j (by omega)
    have HSt := hide (beh_step t j (by omega))
    have hj0 : (0 : Int) ≤ (j : Int) := by omega
    have hj1 : (j : Int) < (t.length : Int) := by omega
    have hpl : (t.drop (j + 1)).reverse.length ≤ t.length := by rw [List.length_reverse, List.length_drop]; omega
    generalize t.getD j 0 = c at *
    generalize (t.drop (j + 1)).reverse = pre at *
    clear hc
    have hlen : (x.back ++ pre).length ≤ 8 + t.length := by rw [List.length_append]; omega
    obtain ⟨g1, g2, g3, g5⟩ := HJ.out
    have hBa : Below wr.heap.size wr ((wr.alloc (Obj.cells #[.int .u8 (c.toNat : Int)] 5)).drew) := ((Below.refl _ wr).alloc (Nat.le_refl _) _).drew
    obtain ⟨v', w5, hrun, HO, hgrow, hloc⟩ := run_append_bytes ((wr.alloc (Obj.cells #[.int .u8 (c.toNat : Int)] 5)).drew) 22 w.heap.size v (.slice (some ⟨wr.heap.size, 0, none⟩) 1 1) (x.back ++ pre) [c] (owns_below g2 hBa) ((pone_bys wr c).below ((Below.refl _ _).drew)) (by simp only [List.length_cons, List.length_nil]; omega) (by have := hBa.size; omega)
    have HO' : w5.ownsRow w.heap.size 5 1 v' ((x.back ++ pre).length + 1) ((x.back ++ pre).map bv ++ [bv c]) := by
      have := HO.out
      rw [List.length_append, List.map_append] at this
      exact this
    obtain ⟨n1, n2⟩ := RbJ.next HJ.out hBa HO' hgrow hloc
    have HN2 := hide n2
    have HRun := hide hrun
    have c6 := g1.cs.2.2.2.2.2.2.1
    have c6a : (wr.alloc (Obj.cells #[.int .u8 (c.toNat : Int)] 5)).cell? ⟨g, 6, none⟩ = some v := (g1.below ((Below.refl _ wr).alloc (Nat.le_refl _) _)).cs.2.2.2.2.2.2.1
    have p6 := n1.cs.2.2.2.2.2.2.1
    have s6 := n1.soft 6
    obtain ⟨va, vc, rfl⟩ := owns_slice g2
    obtain ⟨ua, uc, rfl⟩ := owns_slice HO'
    clear n1 n2 hrun hgrow hloc g1 g2 g3 g5 HO HO' HJ hBa hBw
    generalize (x.back ++ pre).length = L at *
    go_wp2_with fail
    go_region_law (first | (refine step_append_run _ (by rfl) _ _ _ _ (by rfl) _ _ (by rfl) (by rfl) _ _ HRun.out ?_) | fail)
    all_goals
      go_wp2
      go_roundw
      case rel => exact ⟨j, _, by omega, by go_num, hide (by rw [HSt.out]; exact HN2.out)⟩
      case measure => simp [intOf]
set_option maxRecDepth 100000 in
set_option maxHeartbeats 2000000 in
theorem runget_any (c : UInt8) (x : SS) (o i b : Value) (P : Nat → Prop) (w : World) (h : SIn w P x o i b) (ho : x.out.length ≤ 140737488351232) (hi : x.inn.length ≤ 140737488351232) (hb : x.back.length ≤ 140737488351232) :
    Calls Try.prog 10 #[.agg #[.bool x.rd, .bool x.wt, .int .i64 x.mode, .int .i64 x.size, o, i, b, .int .i64 x.dir, .bool x.fin, .bool x.bad, .bool x.closed], .int .u8 (c.toNat : Int)] w fun e w' => ∃ o' i' b', e = .returned (.tuple #[.agg #[.bool (x.unget [c]).1.rd, .bool (x.unget [c]).1.wt, .int .i64 (x.unget [c]).1.mode, .int .i64 (x.unget [c]).1.size, o', i', b', .int .i64 (x.unget [c]).1.dir, .bool (x.unget [c]).1.fin, .bool (x.unget [c]).1.bad, .bool (x.unget [c]).1.closed], .int .i64 (x.unget [c]).2]) ∧ Own3 w.heap.size w' (x.unget [c]).1 o' i' b' ∧ Below w.heap.size w w' := by
  have HU := hide (fun W (hW : Below w.heap.size w W) (a : Option Addr) (hc : Bys W (.slice a 1 1) [c]) => rungetAll_any x o i b P a 1 [c] W (h.below hW) ho hi hb hc (by simp))
  obtain ⟨oa, oc, rfl, -⟩ := h.so
  obtain ⟨ia, ic, rfl, -⟩ := h.si
  obtain ⟨ba, bc, rfl, -⟩ := h.sb
  clear h
  generalize x.unget [c] = q at *
  obtain ⟨y, e⟩ := q
  simp only [List.length_cons, List.length_nil, Nat.reduceAdd] at HU ⊢
  go_enter Try.func10, Try.ntmps10
  go_wp2_with fail
  have HB0 := hide ((recv_below w (Obj.cells #[.bool x.rd, .bool x.wt, .int .i64 x.mode, .int .i64 x.size, .slice oa x.out.length oc, .slice ia x.inn.length ic, .slice ba x.back.length bc, .int .i64 x.dir, .bool x.fin, .bool x.bad, .bool x.closed] 24)).trans ((recv_below (w.alloc (Obj.cells #[.bool x.rd, .bool x.wt, .int .i64 x.mode, .int .i64 x.size, .slice oa x.out.length oc, .slice ia x.inn.length ic, .slice ba x.back.length bc, .int .i64 x.dir, .bool x.fin, .bool x.bad, .bool x.closed] 24)) (Obj.cells #[.bool false, .bool false, .int .i64 0, .int .i64 0, .slice none 0 0, .slice none 0 0, .slice none 0 0, .int .i64 0, .bool false, .bool false, .bool false] 24)).mono (recv_below w (Obj.cells #[.bool x.rd, .bool x.wt, .int .i64 x.mode, .int .i64 x.size, .slice oa x.out.length oc, .slice ia x.inn.length ic, .slice ba x.back.length bc, .int .i64 x.dir, .bool x.fin, .bool x.bad, .bool x.closed] 24)).size))
  have HZ0 : Hid (((w.alloc (Obj.cells #[.bool x.rd, .bool x.wt, .int .i64 x.mode, .int .i64 x.size, .slice oa x.out.length oc, .slice ia x.inn.length ic, .slice ba x.back.length bc, .int .i64 x.dir, .bool x.fin, .bool x.bad, .bool x.closed] 24)).alloc (Obj.cells #[.bool false, .bool false, .int .i64 0, .int .i64 0, .slice none 0 0, .slice none 0 0, .slice none 0 0, .int .i64 0, .bool false, .bool false, .bool false] 24)).heap[w.heap.size + 1]? = some (Obj.cells #[.bool false, .bool false, .int .i64 0, .int .i64 0, .slice none 0 0, .slice none 0 0, .slice none 0 0, .int .i64 0, .bool false, .bool false, .bool false] 24)) := hide (by have := heap_alloc_new (w.alloc (Obj.cells #[.bool x.rd, .bool x.wt, .int .i64 x.mode, .int .i64 x.size, .slice oa x.out.length oc, .slice ia x.inn.length ic, .slice ba x.back.length bc, .int .i64 x.dir, .bool x.fin, .bool x.bad, .bool x.closed] 24)) (Obj.cells #[.bool false, .bool false, .int .i64 0, .int .i64 0, .slice none 0 0, .slice none 0 0, .slice none 0 0, .int .i64 0, .bool false, .bool false, .bool false] 24); rw [show (w.alloc (Obj.cells #[.bool x.rd, .bool x.wt, .int .i64 x.mode, .int .i64 x.size, .slice oa x.out.length oc, .slice ia x.inn.length ic, .slice ba x.back.length bc, .int .i64 x.dir, .bool x.fin, .bool x.bad, .bool x.closed] 24)).heap.size = w.heap.size + 1 from Array.size_push ..] at this; exact this)
  have hzz : ((w.alloc (Obj.cells #[.bool x.rd, .bool x.wt, .int .i64 x.mode, .int .i64 x.size, .slice oa x.out.length oc, .slice ia x.inn.length ic, .slice ba x.back.length bc, .int .i64 x.dir, .bool x.fin, .bool x.bad, .bool x.closed] 24)).alloc (Obj.cells #[.bool false, .bool false, .int .i64 0, .int .i64 0, .slice none 0 0, .slice none 0 0, .slice none 0 0, .int .i64 0, .bool false, .bool false, .bool false] 24)).heap.size = w.heap.size + 2 := by rw [World.size_alloc, World.size_alloc]
  rw [← hzz]
  generalize (w.alloc (Obj.cells #[.bool x.rd, .bool x.wt, .int .i64 x.mode, .int .i64 x.size, .slice oa x.out.length oc, .slice ia x.inn.length ic, .slice ba x.back.length bc, .int .i64 x.dir, .bool x.fin, .bool x.bad, .bool x.closed] 24)).alloc (Obj.cells #[.bool false, .bool false, .int .i64 0, .int .i64 0, .slice none 0 0, .slice none 0 0, .slice none 0 0, .int .i64 0, .bool false, .bool false, .bool false] 24) = w0 at *
  have HBc := hide (recv_below w0 (Obj.cells #[.int .u8 (c.toNat : Int)] 5))
  have HB1 := hide (HB0.out.trans (HBc.out.mono HB0.out.size))
  have HZ1 := hide ((HBc.out.block (w.heap.size + 1) (by omega)).trans HZ0.out)
  have HC := hide (pone_bys w0 c)
  have hzc := HBc.out.size
  generalize w0.alloc (Obj.cells #[.int .u8 (c.toNat : Int)] 5) = w1 at *
  refine (HU.out w1 HB1.out _ HC.out).mono ?_
  rintro _ w2 ⟨o2, i2, b2, rfl, hO, hB2⟩
  obtain ⟨a1, k1, rfl⟩ := owns_slice hO.1
  obtain ⟨a2, k2, rfl⟩ := owns_slice hO.2.1
  obtain ⟨a3, k3, rfl⟩ := owns_slice hO.2.2.1
  have hz2 := hB2.size
  have HZ2 := hide ((hB2.block (w.heap.size + 1) (by omega)).trans HZ1.out)
  obtain ⟨e1, e2⟩ := rst_fill w2 (w.heap.size + 1) y (.slice a1 y.out.length k1) (.slice a2 y.inn.length k2) (.slice a3 y.back.length k3) HZ2.out
  have HE := hide e1
  have HF := hide (And.intro ((hO.turned e2 (fun k h1 h2 e => by have e' : k = w.heap.size + 1 := e; omega)).mono (show w.heap.size ≤ w1.heap.size by omega)) ((HB1.out.trans (hB2.mono HB1.out.size)).trans (e2.below (B := w.heap.size) (fun k e => by have e' : k = w.heap.size + 1 := e; omega) (by omega))))
  clear hO hB2 HU HB0 HZ0 HB1 HZ1 HC HBc e1 e2
  have f0 := frozen_of_row w2 (w.heap.size + 1) 0 _ _ HZ2.out
  have f1 := frozen_of_row w2 (w.heap.size + 1) 1 _ _ HZ2.out
  have f2 := frozen_of_row w2 (w.heap.size + 1) 2 _ _ HZ2.out
  have f3 := frozen_of_row w2 (w.heap.size + 1) 3 _ _ HZ2.out
  have f4 := frozen_of_row w2 (w.heap.size + 1) 4 _ _ HZ2.out
  have f5 := frozen_of_row w2 (w.heap.size + 1) 5 _ _ HZ2.out
  have f6 := frozen_of_row w2 (w.heap.size + 1) 6 _ _ HZ2.out
  have f7 := frozen_of_row w2 (w.heap.size + 1) 7 _ _ HZ2.out
  have f8 := frozen_of_row w2 (w.heap.size + 1) 8 _ _ HZ2.out
  have f9 := frozen_of_row w2 (w.heap.size + 1) 9 _ _ HZ2.out
  have f10 := frozen_of_row w2 (w.heap.size + 1) 10 _ _ HZ2.out
  have d0 := cell_of_row w2 (w.heap.size + 1) 0 _ _ _ HZ2.out
  have d1 := cell_of_row w2 (w.heap.size + 1) 1 _ _ _ HZ2.out
  have d2 := cell_of_row w2 (w.heap.size + 1) 2 _ _ _ HZ2.out
  have d3 := cell_of_row w2 (w.heap.size + 1) 3 _ _ _ HZ2.out
  have d4 := cell_of_row w2 (w.heap.size + 1) 4 _ _ _ HZ2.out
  have d5 := cell_of_row w2 (w.heap.size + 1) 5 _ _ _ HZ2.out
  have d6 := cell_of_row w2 (w.heap.size + 1) 6 _ _ _ HZ2.out
  have d7 := cell_of_row w2 (w.heap.size + 1) 7 _ _ _ HZ2.out
  have d8 := cell_of_row w2 (w.heap.size + 1) 8 _ _ _ HZ2.out
  have d9 := cell_of_row w2 (w.heap.size + 1) 9 _ _ _ HZ2.out
  have d10 := cell_of_row w2 (w.heap.size + 1) 10 _ _ _ HZ2.out
  simp at d0 d1 d2 d3 d4 d5 d6 d7 d8 d9 d10
  go_wp2
  refine bodyPost_ret (rres_two rfl _ (w.heap.size + 1) rfl y _ _ _ HE.out) rfl ?_
  exact ⟨_, _, _, rfl, HF.out.1, HF.out.2⟩
set_option maxRecDepth 100000 in
set_option maxHeartbeats 4000000 in
theorem rheld13_any (x : SS) (o i b : Value) (P : Nat → Prop) (w : World) (h : SIn w P x o i b) (hi : x.inn.length ≤ 140737488351232) (hb : x.back.length ≤ 140737488351232) :
    Calls Try.prog 14 #[.agg #[.bool x.rd, .bool x.wt, .int .i64 x.mode, .int .i64 x.size, o, i, b, .int .i64 x.dir, .bool x.fin, .bool x.bad, .bool x.closed]] w fun e w' => ∃ v, e = .returned (.tuple #[v, .int .i64 (x.refuse true)]) ∧ w'.ownsRow w.heap.size 5 1 v x.heldL.length (x.heldL.map bv) ∧ Below w.heap.size w w' := by
  obtain ⟨oa, oc, rfl, -⟩ := h.so
  obtain ⟨ia, ic, rfl, -⟩ := h.si
  obtain ⟨ba, bc, rfl, hbb, -⟩ := h.sb
  have HRf := hide (rbegin_any x oa ia ba oc ic bc · hi hb)
  have HBb := hide hbb
  have HBi := hide (show Bys w (.slice ia x.inn.length ic) x.inn from by obtain ⟨_, _, e, h2, -⟩ := h.si; cases e; exact h2)
  clear h hbb
  have hLq : x.heldL = if x.refuse true ≠ 0 then [] else x.back.reverse ++ x.inn := rfl
  generalize x.heldL = L at *
  obtain ⟨q, hqq⟩ : ∃ q, q = x.refuse true := ⟨_, rfl⟩
  rw [← hqq] at hLq HRf ⊢
  have HQ := hide hqq
  clear hqq
  go_enter Try.func14, Try.ntmps14
  go_wp2_with fail
  have HB0 := hide (recv_below w (Obj.cells #[.bool x.rd, .bool x.wt, .int .i64 x.mode, .int .i64 x.size, .slice oa x.out.length oc, .slice ia x.inn.length ic, .slice ba x.back.length bc, .int .i64 x.dir, .bool x.fin, .bool x.bad, .bool x.closed] 24))
  have HS0 := hide (RSt.new w x (.slice oa x.out.length oc) (.slice ia x.inn.length ic) (.slice ba x.back.length bc))
  generalize w.alloc (Obj.cells #[.bool x.rd, .bool x.wt, .int .i64 x.mode, .int .i64 x.size, .slice oa x.out.length oc, .slice ia x.inn.length ic, .slice ba x.back.length bc, .int .i64 x.dir, .bool x.fin, .bool x.bad, .bool x.closed] 24) = w0 at *
  refine (HRf.out _).mono ?_
  rintro _ w1 ⟨rfl, hB1⟩
  have HS1 := hide (HS0.out.below hB1)
  have HB1 := hide (HB0.out.trans (hB1.mono HB0.out.size))
  have hz1' := hB1.size
  have hg1 : w.heap.size < w1.heap.size := HS1.out.lt
  clear hB1 HS0 HB0 HRf
  by_cases hq : q = 0
  case neg =>
    rw [if_pos hq] at hLq
    subst hLq
    have hq2 : (q == 0) = false := by simp [hq]
    have hq3 : (q != 0) = true := by simp [hq]
    go_wp2
    go_ret2
    exact ⟨_, rfl, World.ownsRow_nil _ _ _ _, HB1.out⟩
  subst hq
  have hmay := may_buf (refuse_may HQ.out.symm).1
  rw [if_neg (by simp)] at hLq
  have HL := hide hLq
  clear hLq
  have hbl : x.back.length ≤ 8 := hmay.2.2.2.2.2.2.2
  have hil : x.inn.length ≤ 65536 := hmay.2.2.2.2.2.2.1
  clear hmay hi hb
  have c6 := HS1.out.cs.2.2.2.2.2.2.1
  have c5 := HS1.out.cs.2.2.2.2.2.1
  go_wp2
  clear c6 c5
  go_loopw [5, 6] (fun s5 s6 wr => ∃ (k : Nat) (va : Option Addr) (vc : Nat) (pre : List UInt8), k ≤ x.back.length ∧ s5 = .slice va pre.length vc ∧ s6 = .int .i64 ((k : Int) - 1) ∧ Hid (pre = (x.back.drop k).reverse ∧ pre.length + k = x.back.length) ∧ Hid (wr.ownsRow w1.heap.size 5 1 (.slice va pre.length vc) pre.length (pre.map bv)) ∧ Hid (Below w1.heap.size w1 wr)) (fun _ s6 _ => (intOf s6 + 1).toNat)
  case atStart => exact ⟨x.back.length, none, 0, [], Nat.le_refl _, rfl, rfl, hide ⟨by rw [List.drop_length]; rfl, by simp⟩, hide (World.ownsRow_nil _ _ _ _), hide (Below.refl _ _)⟩
  case round =>
    obtain ⟨k, va, vc, pre, hk, rfl, rfl, HP, HO, HB⟩ := hrel
    have hSr := HS1.out.below HB.out
    have c6 := hSr.cs.2.2.2.2.2.2.1
    have c5 := hSr.cs.2.2.2.2.2.1
    have hzr := HB.out.size
    have hBw := HB1.out.trans (HB.out.mono HB1.out.size)
    have hpl : pre.length ≤ 8 := by have := HP.out.2; omega
    clear hSr
    rcases k with _ | j
    · obtain ⟨v', w6, hrun, HO6, hgrow, hloc⟩ := run_append_bytes wr 22 w1.heap.size (.slice va pre.length vc) (.slice ia x.inn.length ic) pre x.inn HO.out (HBi.out.below hBw) (by omega) hzr
      have hpe := HP.out.1
      rw [List.drop_zero] at hpe
      have hO6 := HO6.out
      rw [hpe, ← HL.out] at hO6
      have HO7 := hide (owns_mono hO6 HB1.out.size)
      have HB6 := hide (HB1.out.trans ((HB.out.grown hgrow hzr (fun k e => (HO.out.lt k e).1)).mono HB1.out.size))
      have HRun := hide hrun
      clear hrun hgrow hloc hpe hO6 HO6 HP HO HL
      go_wp2_with (at_builtin; refine Lib.wpList_append_run _ rfl _ _ _ _ rfl _ _ rfl rfl _ _ HRun.out ?_)
      go_ret2
      exact ⟨_, rfl, HO7.out, HB6.out⟩
    have e1 : ((j + 1 : Nat) : Int) - 1 = (j : Int) := by omega
    rw [e1]
    obtain ⟨-, bb, boff, rfl, -, hc⟩ := bys_block (HBb.out.below hBw) (by omega)
    have hcj := hc j (by omega)
    have HSt := hide (beh_step x.back j (by omega))
    have hj0 : (0 : Int) ≤ (j : Int) := by omega
    have hj1 : (j : Int) < (x.back.length : Int) := by omega
    generalize x.back.getD j 0 = c at *
    clear hc
    obtain ⟨v', w5, hrun, HO5, hgrow, hloc⟩ := run_append_bytes (wr.alloc (Obj.cells #[.int .u8 (c.toNat : Int)] 5)) 22 w1.heap.size (.slice va pre.length vc) (.slice (some ⟨wr.heap.size, 0, none⟩) 1 1) pre [c] (HO.out.alloc _) (pone_bys wr c) (by simp only [List.length_cons, List.length_nil]; omega) (by rw [World.size_alloc]; omega)
    obtain ⟨ua, uc, rfl⟩ := owns_slice HO5.out
    have HB5 := hide ((HB.out.alloc hzr (Obj.cells #[.int .u8 (c.toNat : Int)] 5)).grown hgrow (by rw [World.size_alloc]; omega) (fun k e => (HO.out.lt k e).1))
    have HRun := hide hrun
    have HP5 : Hid (pre ++ [c] = (x.back.drop j).reverse ∧ (pre ++ [c]).length + j = x.back.length) := hide ⟨by rw [HSt.out, HP.out.1], by have := HP.out.2; simp; omega⟩
    clear hrun hgrow hloc HO HP HB hBw
    generalize hll : (pre ++ [c]).length = ll at *
    have HLL := hide hll
    clear hll
    go_wp2_with (at_builtin; refine Lib.wpList_append_run _ rfl _ _ _ _ rfl _ _ rfl rfl _ _ HRun.out ?_)
    go_roundw
    case rel => exact ⟨j, ua, uc, pre ++ [c], by omega, by rw [HLL.out], by go_num, hide (by rw [HLL.out]; exact HP5.out), hide (by rw [HLL.out]; exact HO5.out), HB5⟩
    case measure => simp [intOf]
end Go.Proofs.Ytpffhemmjigfaaa

/- What bufmode's Writes and Reads and the reference's answer, for every input. -/
namespace Go.Proofs.Ytpffhemmjigfaaa
open Go.RowKit

def bwE (mode size : Int) (t : List UInt8) : Int := if bref mode size ≠ 0 then bref mode size else if 1048576 < t.length then 5 else 0
def bwL (mode size : Int) (t : List UInt8) : List Nat := if bwE mode size t = 0 then rwr (decide (mode = 2)) (brm mode size).toNat 0 t else []
theorem bwE_ok {mode size : Int} {t : List UInt8} (h : bwE mode size t = 0) : bref mode size = 0 ∧ t.length ≤ 1048576 := by
  unfold bwE at h
  split at h
  · contradiction
  split at h
  · omega
  rename_i h1 h2
  exact ⟨by simpa using h1, by omega⟩
theorem brm_nat {mode size : Int} (h : bref mode size = 0) : ∃ m : Nat, brm mode size = (m : Int) ∧ (brm mode size).toNat = m ∧ 1 ≤ m ∧ m ≤ 65536 := by
  obtain ⟨q1, q2, q3, q4⟩ := bref_ok h
  have hbm : 1 ≤ brm mode size ∧ brm mode size ≤ 65536 := by unfold brm; split <;> omega
  exact ⟨(brm mode size).toNat, by omega, rfl, by omega, by omega⟩
theorem bwL_len {mode size : Int} {t : List UInt8} : (bwL mode size t).length ≤ 1048576 := by
  unfold bwL
  split
  · rename_i h
    obtain ⟨h1, h2⟩ := bwE_ok h
    obtain ⟨m, -, h3, h4, -⟩ := brm_nat h1
    rw [h3]
    have := rwr_len_le (decide (mode = 2)) m t 0 (by omega)
    omega
  · simp
set_option maxRecDepth 100000 in
set_option maxHeartbeats 1000000 in
theorem bwrites_any (mode size : Int) (ta : Option Addr) (tc : Nat) (t : List UInt8) (htc : t.length ≤ tc) (w : World) (hb : Bys w (.slice ta t.length tc) t) :
    Calls Try.prog 41 #[.int .i64 mode, .int .i64 size, .slice ta t.length tc] w fun e w' => ∃ v, e = .returned (.tuple #[v, .int .i64 (bwE mode size t)]) ∧ w'.ownsRow w.heap.size 3 1 v (bwL mode size t).length (nvs (bwL mode size t)) ∧ Below w.heap.size w w' := by
  by_cases h1 : bref mode size = 0
  · by_cases h2 : 1048576 < t.length
    · have h3 : bwE mode size t = 5 := by unfold bwE; rw [if_neg (by simpa using h1), if_pos h2]
      have h4 : bwL mode size t = [] := by unfold bwL; rw [h3, if_neg (by decide)]
      rw [h3, h4]
      have h5 : (1048576 : Int) < (t.length : Int) := by omega
      have HB := hide (fun W => bref_any mode size W)
      rw [h1] at HB
      clear h1 h2 h3 h4 hb
      go_enter Try.func41, Try.ntmps41
      go_wp2_with (go_at_call 61; refine (HB.out _).mono ?_; rintro _ _ ⟨rfl, rfl⟩)
      go_ret2
      exact ⟨_, rfl, World.ownsRow_nil _ _ _ _, Below.refl _ _⟩
    · have h3 : bwE mode size t = 0 := by unfold bwE; rw [if_neg (by simpa using h1), if_neg h2]
      have h4 : bwL mode size t = rwr (decide (mode = 2)) (brm mode size).toNat 0 t := by unfold bwL; rw [h3, if_pos rfl]
      rw [h3, h4]
      exact callsIn_wide.1 (bwrites_in 3 (Nat.le_refl _) mode size ta tc t h1 (by omega) htc w hb)
  · have h3 : bwE mode size t = bref mode size := by unfold bwE; rw [if_pos h1]
    have h4 : bwL mode size t = [] := by unfold bwL; rw [h3, if_neg h1]
    rw [h3, h4]
    have HB := hide (fun W => bref_any mode size W)
    generalize bref mode size = q at *
    have h5 : (q == 0) = false := by simpa using h1
    have h6 : (q != 0) = true := by simpa using h1
    clear h3 h4 hb
    go_enter Try.func41, Try.ntmps41
    go_wp2_with (go_at_call 61; refine (HB.out _).mono ?_; rintro _ _ ⟨rfl, rfl⟩)
    go_ret2
    exact ⟨_, rfl, World.ownsRow_nil _ _ _ _, Below.refl _ _⟩

end Go.Proofs.Ytpffhemmjigfaaa

/- What bufmode's Reads and the reference's answer; slices of numbers that are the same. -/
namespace Go.Proofs.Ytpffhemmjigfaaa
open Go.RowKit

def brE (mode size n hv : Int) : Int := if bref mode size ≠ 0 then bref mode size else if cntB n = true ∧ cntB hv = true then 0 else 4
def brN (mode size n hv : Int) : Int := if brE mode size n hv = 0 then (rds (brm mode size).toNat n.toNat hv.toNat : Int) else 0
set_option maxRecDepth 100000 in
set_option maxHeartbeats 2000000 in
theorem breads_any (mode size n hv : Int) (w : World) :
    Calls Try.prog 42 #[.int .i64 mode, .int .i64 size, .int .i64 n, .int .i64 hv] w fun e w' => e = .returned (.tuple #[.int .i64 (brN mode size n hv), .int .i64 (brE mode size n hv)]) ∧ w = w' := by
  have HB := hide (fun W => bref_any mode size W)
  by_cases h1 : bref mode size = 0
  · rw [h1] at HB
    by_cases h2 : cntB n = true
    · by_cases h3 : cntB hv = true
      · have h4 : brE mode size n hv = 0 := by unfold brE; rw [if_neg (by simpa using h1), if_pos ⟨h2, h3⟩]
        obtain ⟨m, hm, hmt, hm1, hm2⟩ := brm_nat h1
        have h5 : brN mode size n hv = (rds m n.toNat hv.toNat : Int) := by unfold brN; rw [h4, if_pos rfl, hmt]
        rw [h4, h5]
        have HM := hide (fun W => broom_any mode size W)
        rw [hm] at HM
        have g2 := h2
        have g3 := h3
        unfold cntB at h2 h3
        rw [decide_eq_true_eq] at h2 h3
        obtain ⟨n', rfl⟩ : ∃ n' : Nat, n = (n' : Int) := ⟨n.toNat, by omega⟩
        obtain ⟨hv', rfl⟩ : ∃ n' : Nat, hv = (n' : Int) := ⟨hv.toNat, by omega⟩
        simp only [Int.toNat_natCast]
        unfold rds
        have hn6 : n' ≤ 1048576 := by omega
        have hh6 : hv' ≤ 1048576 := by omega
        have HP1 := hide (fun W => bpieces_any n' m W hn6 hm1 hm2)
        have HP2 := hide (fun W => bpieces_any hv' m W hh6 hm1 hm2)
        have hl1 := pcs_le (n := hv') hm1
        clear h1 h2 h3 h4 h5 hm hmt
        by_cases h7 : hv' < n'
        · rw [if_pos h7]
          have h8 : (hv' : Int) < (n' : Int) := by omega
          generalize pcs hv' m = P at *
          go_enter Try.func42, Try.ntmps42
          go_wp2_with (first | (go_at_call 61; refine (HB.out _).mono ?_; rintro _ _ ⟨rfl, rfl⟩) | (go_at_call 63; refine (bcount_any _ _).mono ?_; rintro _ _ ⟨rfl, rfl⟩) | (go_at_call 64; refine (HM.out _).mono ?_; rintro _ _ ⟨rfl, rfl⟩) | (go_at_call 65; refine (HP2.out _).mono ?_; rintro _ _ ⟨rfl, rfl⟩) | fail)
          go_ret2
          exact ⟨rfl, rfl⟩
        · rw [if_neg h7]
          have h8 : ¬ (hv' : Int) < (n' : Int) := by omega
          generalize pcs n' m = P at *
          go_enter Try.func42, Try.ntmps42
          go_wp2_with (first | (go_at_call 61; refine (HB.out _).mono ?_; rintro _ _ ⟨rfl, rfl⟩) | (go_at_call 63; refine (bcount_any _ _).mono ?_; rintro _ _ ⟨rfl, rfl⟩) | (go_at_call 64; refine (HM.out _).mono ?_; rintro _ _ ⟨rfl, rfl⟩) | (go_at_call 65; refine (HP1.out _).mono ?_; rintro _ _ ⟨rfl, rfl⟩) | fail)
          go_ret2
          exact ⟨rfl, rfl⟩
      · have h4 : brE mode size n hv = 4 := by unfold brE; rw [if_neg (by simpa using h1), if_neg (fun e => h3 e.2)]
        have h5 : brN mode size n hv = 0 := by unfold brN; rw [h4, if_neg (by decide)]
        rw [h4, h5]
        have h3' : cntB hv = false := by simpa using h3
        clear h1 h3 h4 h5
        go_enter Try.func42, Try.ntmps42
        go_wp2_with (first | (go_at_call 61; refine (HB.out _).mono ?_; rintro _ _ ⟨rfl, rfl⟩) | (go_at_call 63; refine (bcount_any _ _).mono ?_; rintro _ _ ⟨rfl, rfl⟩) | fail)
        go_ret2
        exact ⟨rfl, rfl⟩
    · have h4 : brE mode size n hv = 4 := by unfold brE; rw [if_neg (by simpa using h1), if_neg (fun e => h2 e.1)]
      have h5 : brN mode size n hv = 0 := by unfold brN; rw [h4, if_neg (by decide)]
      rw [h4, h5]
      have h3' : cntB n = false := by simpa using h2
      clear h1 h2 h4 h5
      go_enter Try.func42, Try.ntmps42
      go_wp2_with (first | (go_at_call 61; refine (HB.out _).mono ?_; rintro _ _ ⟨rfl, rfl⟩) | (go_at_call 63; refine (bcount_any _ _).mono ?_; rintro _ _ ⟨rfl, rfl⟩) | fail)
      go_ret2
      exact ⟨rfl, rfl⟩
  · have h4 : brE mode size n hv = bref mode size := by unfold brE; rw [if_pos h1]
    have h5 : brN mode size n hv = 0 := by unfold brN; rw [h4, if_neg h1]
    rw [h4, h5]
    generalize bref mode size = q at *
    have h6 : (q == 0) = false := by simpa using h1
    have h7 : (q != 0) = true := by simpa using h1
    clear h4 h5
    go_enter Try.func42, Try.ntmps42
    go_wp2_with (first | (go_at_call 61; refine (HB.out _).mono ?_; rintro _ _ ⟨rfl, rfl⟩) | fail)
    go_ret2
    exact ⟨rfl, rfl⟩
/-- The reference's loop: c reads were made, i bytes were got of v; h are held, r are left. -/
structure RdI (m v c i h r : Nat) (fin : Bool) : Prop where
  live : fin = false → r + h + i = v ∧ ((c = 0 ∧ i = 0 ∧ h = 0) ∨ (1 ≤ c ∧ (c - 1) * m < i ∧ i + h = min (c * m) v))
  dead : fin = true → i = v + 1 ∧ c = pcs v m + 1
theorem RdI.start (m v : Nat) : RdI m v 0 0 0 v false := ⟨fun _ => ⟨by omega, .inl ⟨rfl, rfl, rfl⟩⟩, fun e => by cases e⟩
theorem RdI.calls {m v c i r : Nat} (hm : 1 ≤ m) (h : RdI m v c i 0 r false) : pcs i m = c := by
  obtain ⟨-, h1⟩ := h.live rfl
  refine pcs_of hm ?_
  rcases h1 with ⟨h1, h2, -⟩ | ⟨h1, h2, h3⟩
  · exact .inl ⟨h1, h2⟩
  · exact .inr ⟨h1, h2, by omega⟩
theorem RdI.pcs {m v c i h r : Nat} (hm : 1 ≤ m) (hI : RdI m v c i h r false) : pcs i m = c := by
  obtain ⟨-, h1⟩ := hI.live rfl
  refine pcs_of hm ?_
  rcases h1 with ⟨h1, h2, -⟩ | ⟨h1, h2, h3⟩
  · exact .inl ⟨h1, h2⟩
  · exact .inr ⟨h1, h2, by omega⟩
/-- One is held. -/
theorem RdI.held {m v c i h r : Nat} (hI : RdI m v c i h r false) (hh : 1 ≤ h) : RdI m v c (i + 1) (h - 1) r false := by
  obtain ⟨h0, h1⟩ := hI.live rfl
  refine ⟨fun _ => ⟨by omega, ?_⟩, fun e => by cases e⟩
  rcases h1 with ⟨-, -, h2⟩ | ⟨h1, h2, h3⟩
  · omega
  · exact .inr ⟨h1, by omega, by omega⟩
/-- None is held: a read. -/
theorem RdI.read {m v c i r : Nat} (hm : 1 ≤ m) (hI : RdI m v c i 0 r false) (hr : 0 < r) : RdI m v (c + 1) (i + 1) (min m r - 1) (r - min m r) false := by
  obtain ⟨h0, h1⟩ := hI.live rfl
  have key : i = c * m := by
    rcases h1 with ⟨h1, h2, -⟩ | ⟨h1, h2, h3⟩
    · rw [h1, h2, Nat.zero_mul]
    · omega
  refine ⟨fun _ => ⟨by omega, .inr ⟨by omega, ?_, ?_⟩⟩, fun e => by cases e⟩
  · rw [Nat.add_sub_cancel]; omega
  · rw [Nat.add_mul]; omega
theorem RdI.end {m v c i : Nat} (hm : 1 ≤ m) (hI : RdI m v c i 0 0 false) : RdI m v (c + 1) (i + 1) 0 0 true := by
  have hc := hI.calls hm
  obtain ⟨h0, -⟩ := hI.live rfl
  refine ⟨fun e => (by cases e), fun _ => ⟨by omega, ?_⟩⟩
  rw [← hc]
  congr 2
  omega
theorem RdI.le {m v c i h r : Nat} {fin : Bool} (hm : 1 ≤ m) (hI : RdI m v c i h r fin) : c ≤ v + 1 ∧ (fin = false → i ≤ v ∧ r ≤ v ∧ h ≤ v) := by
  cases fin with
  | false =>
    have hc := hI.pcs hm
    obtain ⟨h0, -⟩ := hI.live rfl
    have := pcs_le (n := i) hm
    exact ⟨by omega, fun _ => by omega⟩
  | true =>
    obtain ⟨h0, h1⟩ := hI.dead rfl
    have := pcs_le (n := v) hm
    exact ⟨by omega, fun e => by cases e⟩

end Go.Proofs.Ytpffhemmjigfaaa

/- The page's examples of buffers' modes; numbers that are the same. -/
namespace Go.Proofs.Ytpffhemmjigfaaa
open Go.RowKit

theorem bnum_is (x : Int) (w : World) : Calls Try.prog 24 #[.int .i64 x] w fun e w' => e = .returned (.int .i64 x) ∧ w = w' := by
  go_enter Try.func24, Try.ntmps24
  go_wp2
  go_ret
  exact ⟨rfl, rfl⟩
/-- A slice value that holds numbers. -/
def Nus (W : World) (v : Value) (l : List Nat) : Prop := ∃ a c, v = .slice a l.length c ∧ (0 < l.length → ∃ b off, a = some ⟨b, off, none⟩ ∧ ∀ j, j < l.length → W.cell? ⟨b, off + j, none⟩ = some (.int .i64 ((l.getD j 0 : Nat) : Int)))
theorem Nus.below {W W' : World} {v : Value} {l : List Nat} (h : Nus W v l) (hB : Below W.heap.size W W') : Nus W' v l := by
  obtain ⟨a, c, rfl, h⟩ := h
  refine ⟨a, c, rfl, fun h0 => ?_⟩
  obtain ⟨b, off, rfl, hc⟩ := h h0
  exact ⟨b, off, rfl, fun j hj => (hB.cell (p := ⟨b, off + j, none⟩) (World.block_lt_of_cell? W _ (hc j hj))).trans (hc j hj)⟩
theorem nvs_at (l : List Nat) (k : Nat) (h : k < l.length) : (nvs l)[k]? = some (.int .i64 ((l[k] : Nat) : Int)) := by simp [nvs, h]
theorem nvs_cell {W : World} {B : Nat} {va : Option Addr} {vc N k : Nat} {xs : List Value} {u : Value} (h : W.ownsRow B 3 1 (.slice va N vc) N xs) (hk : k < N) (hs : xs[k]? = some u) : ∃ vb, va = some ⟨vb, 0, none⟩ ∧ W.cell? ⟨vb, k, none⟩ = some u := by
  have hx := h
  rcases h.2 with ⟨e, _⟩ | ⟨g, cap, cur, e, _⟩
  · simp only [Value.slice.injEq] at e; omega
  · simp only [Value.slice.injEq] at e
    obtain ⟨rfl, _, rfl⟩ := e
    refine ⟨g, rfl, ?_⟩
    rw [hx.cellAt k (by omega), hs]
theorem Nus.of_owns {W : World} {B : Nat} {v : Value} {l : List Nat} (h : W.ownsRow B 3 1 v l.length (nvs l)) : Nus W v l := by
  obtain ⟨a, c, rfl⟩ := owns_slice h
  refine ⟨a, c, rfl, fun h0 => ?_⟩
  obtain ⟨b, rfl, _⟩ := nvs_cell h h0 (nvs_at l 0 h0)
  refine ⟨b, 0, rfl, fun j hj => ?_⟩
  obtain ⟨b', e, hc⟩ := nvs_cell h hj (nvs_at l j hj)
  cases e
  rw [Nat.zero_add, hc]
  simp [hj]
set_option maxRecDepth 100000 in
set_option maxHeartbeats 2000000 in
theorem sameNus_any (x y : Value) (l : List Nat) (w : World) (hx : Nus w x l) (hy : Nus w y l) (hl : l.length ≤ 9223372036854775807) :
    Calls Try.prog 43 #[x, y] w fun e w' => e = .returned (.bool true) ∧ Below w.heap.size w w' := by
  obtain ⟨xa, xc, rfl, hx⟩ := hx
  obtain ⟨ya, yc, rfl, hy⟩ := hy
  have HX := hide hx
  have HY := hide hy
  clear hx hy
  go_enter Try.func43, Try.ntmps43
  go_wp2
  go_loopw [5] (fun i wr => ∃ (k : Nat), k ≤ l.length ∧ i = .int .i64 k ∧ ∃ q, wr = w.drewN q) (fun i _ => l.length - (intOf i).toNat)
  case atStart => exact ⟨0, Nat.zero_le _, rfl, 0, rfl⟩
  case round =>
    obtain ⟨k, hk, rfl, q, rfl⟩ := hrel
    by_cases hlt : k < l.length
    · obtain ⟨b1, o1, rfl, hc1⟩ := HX.out (by omega)
      obtain ⟨b2, o2, rfl, hc2⟩ := HY.out (by omega)
      have g1 := hc1 k hlt
      have g2 := hc2 k hlt
      clear hc1 hc2 HX HY
      have hk1 : (0 : Int) ≤ (k : Int) := by omega
      have hk2 : (k : Int) < (l.length : Int) := by omega
      generalize ((l.getD k 0 : Nat) : Int) = x at g1 g2
      go_wp2
      go_quiet (fail)
      go_wp2
      go_roundw
      case rel => exact ⟨k + 1, by omega, by go_num, _, rfl⟩
      case measure => simp [intOf]; omega
    · go_wp2
      go_ret
      exact ⟨rfl, below_drewN (Below.refl _ _) _⟩
theorem nus_lit (w : World) (l : List Nat) (cs : Array Value) (n : Nat) (hn : n = l.length) (hcs : cs.toList = nvs l) : Nus (w.alloc (Obj.cells cs 3)) (.slice (some ⟨w.heap.size, 0, none⟩) n n) l := by
  subst hn
  refine ⟨_, _, rfl, fun _ => ⟨w.heap.size, 0, rfl, fun j hj => ?_⟩⟩
  rw [cell_of_row _ w.heap.size _ cs _ _ (heap_alloc_new w _)]
  have h1 : cs.toList[0 + j]? = (nvs l)[j]? := by rw [hcs, Nat.zero_add]
  rw [Array.getElem?_toList] at h1
  rw [h1, nvs_at l j hj]
  simp [hj]
theorem blit_bys (w : World) (l : List UInt8) (cs : Array Value) (n : Nat) (fr : Nat × Nat) (hn : n = l.length) (hcs : cs.toList = l.map bv) : Bys (w.alloc (Obj.cells cs 5 fr)) (.slice (some ⟨w.heap.size, 0, none⟩) n n) l := by
  subst hn
  by_cases h0 : l.length = 0
  · exact .inr (.inl ⟨_, _, by rw [h0], List.length_eq_zero_iff.1 h0⟩)
  · refine .inr (.inr ⟨w.heap.size, 0, l.length, rfl, by omega, fun j hj => ?_⟩)
    rw [cell_of_row _ w.heap.size _ cs _ fr (heap_alloc_new w _)]
    have h1 : cs.toList[0 + j]? = (l.map bv)[j]? := by rw [hcs, Nat.zero_add]
    rw [Array.getElem?_toList] at h1
    rw [h1]
    simp [List.getD_eq_getElem?_getD, List.getElem?_eq_getElem hj, bv]
theorem bconv_lit (w : World) (C : Array Value) (n m : Nat) (hm : C.size = m) : (convert 22 22 (.slice (some ⟨w.heap.size, 0, none⟩) n n)).run Try.prog (w.alloc (.cells C 5)) = .ok (.slice (some ⟨w.heap.size, 0, none⟩) n n) (w.alloc (.cells C 5 (m, m + 1))) := by
  subst hm
  exact Lib.run_convert_bytes_const w 22 5 C n n Try.underlying22 Try.underlying5
set_option maxRecDepth 100000 in
set_option maxHeartbeats 4000000 in
theorem balive_any (w : World) : Calls Try.prog 23 #[] w fun e w' => e = .returned (.bool true) ∧ Below w.heap.size w w' := by
  have v1 : bwL 3 4 [0, 0, 0, 0, 0, 0, 0, 0, 0, 0] = [4, 4, 2] := by decide
  have v2 : bwL 2 4 [97, 98, 10, 99, 100, 101, 102, 103, 104] = [3, 4, 2] := by decide
  have v3 : bwE 3 4 [0, 0, 0, 0, 0, 0, 0, 0, 0, 0] = 0 := by decide
  have v4 : bwE 2 4 [97, 98, 10, 99, 100, 101, 102, 103, 104] = 0 := by decide
  have v5 : brN 3 4 10 6 = 3 := by decide
  have v6 : brE 3 4 10 6 = 0 := by decide
  obtain ⟨i0, hi, hz0, hz1, hz2⟩ := info_parts Try.infoB
  have HV := hide (And.intro v1 (And.intro v2 (And.intro v3 (And.intro v4 (And.intro v5 v6)))))
  clear v1 v2 v3 v4 v5 v6
  go_enter Try.func23, Try.ntmps23
  go_wp2_with (first | (at_make; refine wpList_make_full _ rfl _ _ 22 rfl w.heap.size 5 i0 (.int .u8 0) 1 Try.underlying22 hi hz0 hz1 _ _ _ _ 10 rfl rfl rfl rfl (by rw [hz2]; decide) (by decide) (Nat.le_refl _) ?_; intro w1 hown hgrow) | fail)
  have hby : Bys w1 (.slice (some ⟨w.heap.size, 0, none⟩) 10 10) [0, 0, 0, 0, 0, 0, 0, 0, 0, 0] := Bys.of_owns (base := w.heap.size) (by
    have e : (madeCells (Value.int .u8 0).cells (10 * 1)).toList = ([0, 0, 0, 0, 0, 0, 0, 0, 0, 0] : List UInt8).map bv := by kernel_rfl
    rw [e] at hown
    exact hown)
  have HB1 := hide ((Below.refl _ w).grown hgrow (Nat.le_refl _) (fun k e => by cases e))
  have HW1 := hide (bwrites_any 3 4 _ 10 [0, 0, 0, 0, 0, 0, 0, 0, 0, 0] (Nat.le_refl _) w1 hby)
  rw [HV.out.1, HV.out.2.2.1] at HW1
  clear hown hgrow hby
  refine HW1.out.mono ?_
  rintro _ w2 ⟨u, rfl, hO2, hB2⟩
  obtain ⟨ua, uc, rfl⟩ := owns_slice hO2
  have HN2 := hide (Nus.of_owns hO2)
  have HB2 := hide (HB1.out.trans (hB2.mono HB1.out.size))
  clear hO2 hB2 HW1
  have cl := bconv_lit w2 #[.int .u8 97, .int .u8 98, .int .u8 10, .int .u8 99, .int .u8 100, .int .u8 101, .int .u8 102, .int .u8 103, .int .u8 104] 9 9 rfl
  have hb3 := blit_bys w2 [97, 98, 10, 99, 100, 101, 102, 103, 104] #[.int .u8 97, .int .u8 98, .int .u8 10, .int .u8 99, .int .u8 100, .int .u8 101, .int .u8 102, .int .u8 103, .int .u8 104] 9 (9, 10) rfl rfl
  have HB3 := hide ((Below.refl _ w2).alloc (Nat.le_refl _) (Obj.cells #[.int .u8 97, .int .u8 98, .int .u8 10, .int .u8 99, .int .u8 100, .int .u8 101, .int .u8 102, .int .u8 103, .int .u8 104] 5 (9, 10)))
  have HW3 := hide (bwrites_any 2 4 _ 9 [97, 98, 10, 99, 100, 101, 102, 103, 104] (Nat.le_refl _) _ hb3)
  rw [HV.out.2.1, HV.out.2.2.2.1] at HW3
  clear hb3
  go_wp2_with fail
  refine HW3.out.mono ?_
  rintro _ w4 ⟨u, rfl, hO4, hB4⟩
  obtain ⟨va, vc, rfl⟩ := owns_slice hO4
  have HN4 := hide (Nus.of_owns hO4)
  have hB24 := HB3.out.trans (hB4.mono HB3.out.size)
  have HN24 := hide (HN2.out.below hB24)
  have HB4 := hide (HB2.out.trans (hB24.mono HB2.out.size))
  clear hO4 hB4 HW3 cl HB3 hB24
  have HR := hide (fun W => breads_any 3 4 10 6 W)
  rw [HV.out.2.2.2.2.1, HV.out.2.2.2.2.2] at HR
  go_wp2_with (first | (go_at_call 42; refine (HR.out _).mono ?_; rintro _ _ ⟨rfl, rfl⟩) | (go_at_call 24; refine (bnum_is _ _).mono ?_; rintro _ _ ⟨rfl, rfl⟩) | fail)
  have hBa : Below w4.heap.size w4 (w4.alloc (Obj.cells #[.int .i64 4, .int .i64 4, .int .i64 2] 3)) := (Below.refl _ w4).alloc (Nat.le_refl _) _
  refine (sameNus_any _ _ [4, 4, 2] _ (HN24.out.below hBa) (nus_lit w4 [4, 4, 2] #[.int .i64 4, .int .i64 4, .int .i64 2] 3 rfl rfl) (by decide)).mono ?_
  rintro _ w5 ⟨rfl, hB5⟩
  have hB45 := hBa.trans (hB5.mono hBa.size)
  have HN5 := hide (HN4.out.below hB45)
  have HB5 := hide (HB4.out.trans (hB45.mono HB4.out.size))
  clear hBa hB5 hB45
  go_wp2_with fail
  have hBb : Below w5.heap.size w5 (w5.alloc (Obj.cells #[.int .i64 3, .int .i64 4, .int .i64 2] 3)) := (Below.refl _ w5).alloc (Nat.le_refl _) _
  refine (sameNus_any _ _ [3, 4, 2] _ (HN5.out.below hBb) (nus_lit w5 [3, 4, 2] #[.int .i64 3, .int .i64 4, .int .i64 2] 3 rfl rfl) (by decide)).mono ?_
  rintro _ w6 ⟨rfl, hB6⟩
  go_wp2
  go_ret
  exact ⟨rfl, HB5.out.trans ((hBb.trans (hB6.mono hBb.size)).mono HB5.out.size)⟩
end Go.Proofs.Ytpffhemmjigfaaa

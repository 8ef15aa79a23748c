/- What the proof stands on, part 14: the contracts of the program's calls that it reaches. -/
import Derived.Test.YtgbkhmiphaefgaaKK13
/- Lines: Put. -/
namespace Go.Proofs.Ytgbkhmiphaefgaa
open Go.RowKit

theorem SOut.after {S : Type} {At : World → (Nat → Prop) → S → Prop} {w wc w6 : World} {O O' : Nat → Prop} {x : SS} {s : S} {o i b : Value} (h3 : ∀ k, O' k → O k ∨ w.heap.size ≤ k) (h5 : Turned O w wc) (hS : SOut At wc O' x s o i b w6) : SOut At w O x s o i b w6 := by
  obtain ⟨O2, a1, a2, a3, a4, a5⟩ := hS
  have z1 := h5.size
  exact ⟨O2, a1.mono fun k e => ⟨by have := e.1; omega, e.2⟩, a2, a3, fun k e => (a4 k e).elim (fun e => h3 k e) (fun e => .inr (by omega)), h5.trans a5 (fun k hk e => (h3 k e).resolve_right (by omega))⟩
theorem RStep.out {S : Type} {At : World → (Nat → Prop) → S → Prop} {wc w6 : World} {O : Nat → Prop} {y x' : SS} {s' : S} {o i b : Value} {z : Nat} (h : RStep At wc O s' w6) (hl : SIn wc (fun k => z ≤ k ∧ ¬ O k ∧ k < wc.heap.size) y o i b) (e1 : x'.out = y.out) (e2 : x'.inn = y.inn) (e3 : x'.back = y.back) (hz : ∀ W' : World, ∀ O', At W' O' s' → At W' (fun k => O' k ∧ k < W'.heap.size) s') : ∃ O', SIn w6 (fun k => z ≤ k ∧ ¬ O' k ∧ k < w6.heap.size) x' o i b ∧ At w6 O' s' ∧ (∀ j, O' j → j < w6.heap.size) ∧ (∀ k, O' k → O k ∨ wc.heap.size ≤ k) ∧ Turned O wc w6 := by
  obtain ⟨O', g1, g2, g3⟩ := h
  have z3 := g3.size
  have h6 := (hl.turned g3 (fun k e _ => e.2.1)).mono (Q := fun k => z ≤ k ∧ ¬ (O' k ∧ k < w6.heap.size) ∧ k < w6.heap.size) fun k e => ⟨e.1, fun e2 => (g2 k e2.1).elim e.2.1 (fun e3 => by have := e.2.2; omega), by have := e.2.2; omega⟩
  exact ⟨fun k => O' k ∧ k < w6.heap.size, ⟨by rw [e1]; exact h6.so, by rw [e2]; exact h6.si, by rw [e3]; exact h6.sb, h6.po, h6.pi, h6.pb⟩, hz _ _ g1, fun j e => e.2, fun k e => g2 k e.1, g3⟩
set_option linter.unusedSimpArgs false in
set_option maxRecDepth 100000 in
set_option maxHeartbeats 8000000 in
theorem lput_any {S : Type} {D : RawD S} {T : TypeId} {v : Value} {fr fw : FuncId} {rok wok : S → Prop} {At : World → (Nat → Prop) → S → Prop} (R : RawM D T v fr fw rok wok At) (hT : ∀ s, OAt (fun w O => At w O s)) {G : Nat → S → Prop} (hG : Bears D rok wok G) {w : World} {O P : Nat → Prop} {s : S} {x : SS} {o i b : Value} (t : List UInt8) (ta : Option Addr) (tc : Nat) (h : SIn w P x o i b) (hA : At w O s) (hO : ∀ j, O j → j < w.heap.size) (hP : ∀ k, P k → ¬ O k) (hg : G (2 * t.length + 4) s) (hok : x.mode = 1 → t.length ≤ 1048576 → putOk D wok t (putF t) s 0 0) (ho : x.out.length ≤ 140737488351232) (hi : x.inn.length ≤ 140737488351232) (hb : x.back.length ≤ 140737488351232) (ht : Bys w (.slice ta t.length tc) t) (htc : t.length ≤ tc) (hap : 0 < t.length → ∀ k, (Value.slice ta t.length tc).ownBlock = some k → ¬ O k) :
    Calls Try.prog 24 #[.agg #[.bool x.rd, .bool x.wt, .int .i64 x.mode, .int .i64 x.size, o, i, b, .int .i64 x.dir, .bool x.fin, .bool x.bad, .bool x.closed], .iface T v, .slice ta t.length tc] w fun e w' => ∃ o' i' b', e = .returned (.tuple #[.agg #[.bool (x.aput D s t).1.rd, .bool (x.aput D s t).1.wt, .int .i64 (x.aput D s t).1.mode, .int .i64 (x.aput D s t).1.size, o', i', b', .int .i64 (x.aput D s t).1.dir, .bool (x.aput D s t).1.fin, .bool (x.aput D s t).1.bad, .bool (x.aput D s t).1.closed], .int .i64 (x.aput D s t).2.1, .int .i64 (x.aput D s t).2.2.1]) ∧ SOut At w O (x.aput D s t).1 (x.aput D s t).2.2.2 o' i' b' w' := by
  have HI := hide h
  obtain ⟨oa, oc, rfl, -⟩ := h.so
  obtain ⟨ia, ic, rfl, -⟩ := h.si
  obtain ⟨ba, bc, rfl, -⟩ := h.sb
  have HRf := hide (fun W => putRefusal_any x oa ia ba oc ic bc T v ta t.length tc 1048576 W hi hb)
  have HO := hide hO
  have HA := hide hA
  have HL := hide (And.intro ho (And.intro hi hb))
  clear h hO hA ho hi hb
  by_cases hr : x.prefuse true t.length 1048576 ≠ 0 ∨ t.length = 0
  · have hun : x.aput D s t = (x, 0, x.prefuse true t.length 1048576, s) := by unfold SS.aput; rw [if_pos hr]
    rw [hun]
    simp only
    generalize x.prefuse true t.length 1048576 = r at *
    have HRr := hide hr
    clear hun hg hok ht htc hap hP hr
    go_enter Try.func24, Try.ntmps24
    go_wp2_with fail
    have HB0 := hide ((recv_below w (Obj.cells #[.bool x.rd, .bool x.wt, .int .i64 x.mode, .int .i64 x.size, .slice oa x.out.length oc, .slice ia x.inn.length ic, .slice ba x.back.length bc, .int .i64 x.dir, .bool x.fin, .bool x.bad, .bool x.closed] 35)).trans ((recv_below (w.alloc (Obj.cells #[.bool x.rd, .bool x.wt, .int .i64 x.mode, .int .i64 x.size, .slice oa x.out.length oc, .slice ia x.inn.length ic, .slice ba x.back.length bc, .int .i64 x.dir, .bool x.fin, .bool x.bad, .bool x.closed] 35)) (Obj.cells #[.bool false, .bool false, .int .i64 0, .int .i64 0, .slice none 0 0, .slice none 0 0, .slice none 0 0, .int .i64 0, .bool false, .bool false, .bool false] 35)).mono (recv_below w (Obj.cells #[.bool x.rd, .bool x.wt, .int .i64 x.mode, .int .i64 x.size, .slice oa x.out.length oc, .slice ia x.inn.length ic, .slice ba x.back.length bc, .int .i64 x.dir, .bool x.fin, .bool x.bad, .bool x.closed] 35)).size))
    have HS0 := hide ((StAt.new w x (.slice oa x.out.length oc) (.slice ia x.inn.length ic) (.slice ba x.back.length bc)).below (recv_below _ (Obj.cells #[.bool false, .bool false, .int .i64 0, .int .i64 0, .slice none 0 0, .slice none 0 0, .slice none 0 0, .int .i64 0, .bool false, .bool false, .bool false] 35)))
    have HZ0 : Hid (((w.alloc (Obj.cells #[.bool x.rd, .bool x.wt, .int .i64 x.mode, .int .i64 x.size, .slice oa x.out.length oc, .slice ia x.inn.length ic, .slice ba x.back.length bc, .int .i64 x.dir, .bool x.fin, .bool x.bad, .bool x.closed] 35)).alloc (Obj.cells #[.bool false, .bool false, .int .i64 0, .int .i64 0, .slice none 0 0, .slice none 0 0, .slice none 0 0, .int .i64 0, .bool false, .bool false, .bool false] 35)).heap[w.heap.size + 1]? = some (Obj.cells #[.bool false, .bool false, .int .i64 0, .int .i64 0, .slice none 0 0, .slice none 0 0, .slice none 0 0, .int .i64 0, .bool false, .bool false, .bool false] 35)) := hide (by have := heap_alloc_new (w.alloc (Obj.cells #[.bool x.rd, .bool x.wt, .int .i64 x.mode, .int .i64 x.size, .slice oa x.out.length oc, .slice ia x.inn.length ic, .slice ba x.back.length bc, .int .i64 x.dir, .bool x.fin, .bool x.bad, .bool x.closed] 35)) (Obj.cells #[.bool false, .bool false, .int .i64 0, .int .i64 0, .slice none 0 0, .slice none 0 0, .slice none 0 0, .int .i64 0, .bool false, .bool false, .bool false] 35); rw [show (w.alloc (Obj.cells #[.bool x.rd, .bool x.wt, .int .i64 x.mode, .int .i64 x.size, .slice oa x.out.length oc, .slice ia x.inn.length ic, .slice ba x.back.length bc, .int .i64 x.dir, .bool x.fin, .bool x.bad, .bool x.closed] 35)).heap.size = w.heap.size + 1 from Array.size_push ..] at this; exact this)
    generalize (w.alloc (Obj.cells #[.bool x.rd, .bool x.wt, .int .i64 x.mode, .int .i64 x.size, .slice oa x.out.length oc, .slice ia x.inn.length ic, .slice ba x.back.length bc, .int .i64 x.dir, .bool x.fin, .bool x.bad, .bool x.closed] 35)).alloc (Obj.cells #[.bool false, .bool false, .int .i64 0, .int .i64 0, .slice none 0 0, .slice none 0 0, .slice none 0 0, .int .i64 0, .bool false, .bool false, .bool false] 35) = w0 at *
    have hz0 : w.heap.size + 1 < w0.heap.size := (Array.getElem?_eq_some_iff.1 HZ0.out).1
    refine (HRf.out w0).mono ?_
    rintro _ w1 ⟨rfl, hB1⟩
    have HB1 := hide (HB0.out.trans (hB1.mono HB0.out.size))
    have HS1 := hide (HS0.out.below hB1)
    have HZ1 : Hid (w1.heap[w.heap.size + 1]? = some (Obj.cells #[.bool false, .bool false, .int .i64 0, .int .i64 0, .slice none 0 0, .slice none 0 0, .slice none 0 0, .int .i64 0, .bool false, .bool false, .bool false] 35)) := hide ((hB1.block _ hz0).trans HZ0.out)
    have hz1 : w.heap.size + 1 < w1.heap.size := (Array.getElem?_eq_some_iff.1 HZ1.out).1
    clear HB0 HS0 HZ0 hz0 hB1 HRf
    have HC := hide (lcopied_any x _ _ _ P w1 (HI.out.below HB1.out) HL.out.1 HL.out.2.1 HL.out.2.2)
    obtain ⟨c0, c1, c2, c3, c4, c5, c6, c7, c8, c9, c10⟩ := HS1.out.cs
    by_cases hr0 : r = 0
    case' pos =>
      subst hr0
      have hl0 : (t.length : Int) = 0 := by have := HRr.out; omega
      have hb1 : ((t.length : Int) == 0) = true := by simp [hl0]
      clear HRr hl0
    case' neg =>
      have hb1 : (r != 0) = true := by simp [hr0]
      have hb2 : (r == 0) = false := by simp [hr0]
      clear HRr hr0
    all_goals
      go_wp2_with fail
      refine HC.out.mono ?_
      rintro _ w3 ⟨o3, i3, b3, rfl, h1, h2, h3, hB3, -⟩
      obtain ⟨oa3, oc3, rfl⟩ := owns_slice h1
      obtain ⟨ia3, ic3, rfl⟩ := owns_slice h2
      obtain ⟨ba3, bc3, rfl⟩ := owns_slice h3
      have HZ3 : Hid (w3.heap[w.heap.size + 1]? = some (Obj.cells #[.bool false, .bool false, .int .i64 0, .int .i64 0, .slice none 0 0, .slice none 0 0, .slice none 0 0, .int .i64 0, .bool false, .bool false, .bool false] 35)) := hide ((hB3.block _ hz1).trans HZ1.out)
      have H1 := hide h1
      have H2 := hide h2
      have H3 := hide h3
      have HB3 := hide hB3
      clear h1 h2 h3 hB3 HC c0 c1 c2 c3 c4 c5 c6 c7 c8 c9 c10
      have f0 := frozen_of_row w3 (w.heap.size + 1) 0 _ _ HZ3.out
      have f1 := frozen_of_row w3 (w.heap.size + 1) 1 _ _ HZ3.out
      have f2 := frozen_of_row w3 (w.heap.size + 1) 2 _ _ HZ3.out
      have f3 := frozen_of_row w3 (w.heap.size + 1) 3 _ _ HZ3.out
      have f4 := frozen_of_row w3 (w.heap.size + 1) 4 _ _ HZ3.out
      have f5 := frozen_of_row w3 (w.heap.size + 1) 5 _ _ HZ3.out
      have f6 := frozen_of_row w3 (w.heap.size + 1) 6 _ _ HZ3.out
      have f7 := frozen_of_row w3 (w.heap.size + 1) 7 _ _ HZ3.out
      have f8 := frozen_of_row w3 (w.heap.size + 1) 8 _ _ HZ3.out
      have f9 := frozen_of_row w3 (w.heap.size + 1) 9 _ _ HZ3.out
      have f10 := frozen_of_row w3 (w.heap.size + 1) 10 _ _ HZ3.out
      have d0 := cell_of_row w3 (w.heap.size + 1) 0 _ _ _ HZ3.out
      have d1 := cell_of_row w3 (w.heap.size + 1) 1 _ _ _ HZ3.out
      have d2 := cell_of_row w3 (w.heap.size + 1) 2 _ _ _ HZ3.out
      have d3 := cell_of_row w3 (w.heap.size + 1) 3 _ _ _ HZ3.out
      have d4 := cell_of_row w3 (w.heap.size + 1) 4 _ _ _ HZ3.out
      have d5 := cell_of_row w3 (w.heap.size + 1) 5 _ _ _ HZ3.out
      have d6 := cell_of_row w3 (w.heap.size + 1) 6 _ _ _ HZ3.out
      have d7 := cell_of_row w3 (w.heap.size + 1) 7 _ _ _ HZ3.out
      have d8 := cell_of_row w3 (w.heap.size + 1) 8 _ _ _ HZ3.out
      have d9 := cell_of_row w3 (w.heap.size + 1) 9 _ _ _ HZ3.out
      have d10 := cell_of_row w3 (w.heap.size + 1) 10 _ _ _ HZ3.out
      simp at d0 d1 d2 d3 d4 d5 d6 d7 d8 d9 d10
      go_wp2
      obtain ⟨e1, e2⟩ := st_fill w3 (w.heap.size + 1) x (.slice oa3 x.out.length oc3) (.slice ia3 x.inn.length ic3) (.slice ba3 x.back.length bc3) HZ3.out
      refine bodyPost_ret (res_three rfl _ (w.heap.size + 1) rfl x _ _ _ e1) rfl ?_
      refine ⟨_, _, _, rfl, ?_⟩
      have hz2 := HB3.out.size
      have hz3 := HB1.out.size
      have g0 : SOut At w1 O x s (.slice oa3 x.out.length oc3) (.slice ia3 x.inn.length ic3) (.slice ba3 x.back.length bc3) w3 :=
        ⟨O, ⟨Sl.own H1.out, Sl.own H2.out, Sl.own H3.out, fun k e => ⟨(H1.out.lt k e).1, fun e2 => by have := HO.out k e2; have := (H1.out.lt k e).1; omega, (H1.out.lt k e).2⟩, fun k e => ⟨(H2.out.lt k e).1, fun e2 => by have := HO.out k e2; have := (H2.out.lt k e).1; omega, (H2.out.lt k e).2⟩, fun k e => ⟨(H3.out.lt k e).1, fun e2 => by have := HO.out k e2; have := (H3.out.lt k e).1; omega, (H3.out.lt k e).2⟩⟩, (hT s).keep HA.out (fun j e hj => (HB3.out.block j (by omega)).trans (HB1.out.block j hj)) (by omega), fun j e => by have := HO.out j e; omega, fun _ e => .inl e, Turned.of_below HB3.out⟩
      exact g0.fin hT HB1.out hz1 (Nat.le_succ _) HO.out e2
  · obtain ⟨hr0, hl0⟩ := not_or.1 hr
    have hr0 : x.prefuse true t.length 1048576 = 0 := by simpa using hr0
    have hl1 : 0 < t.length := by omega
    obtain ⟨-, tb, tq, rfl, hqb, hcell⟩ := bys_block ht hl1
    have ht2 : t.length ≤ 1048576 := by
      unfold SS.prefuse at hr0
      by_cases h0 : x.refuse true = 0
      · rw [if_neg (by simp [h0])] at hr0
        by_cases h1 : (1048576 : Int) < (t.length : Int)
        · rw [if_pos h1] at hr0; omega
        · omega
      · rw [if_pos h0] at hr0; exact absurd hr0 h0
    have htb : ¬ O tb := hap hl1 tb rfl
    have hun : x.aput D s t = if x.noWrite ≠ 0 then (x, 0, x.noWrite, s) else if x.mode = 1 then SS.once D { x with dir := 2 } s t else x.through D s t := by unfold SS.aput; rw [if_neg hr]
    obtain ⟨Q, hQ⟩ : ∃ Q, Q = x.aput D s t := ⟨_, rfl⟩
    rw [← hQ]
    rw [hun] at hQ
    obtain ⟨qx, qn, qe, qs⟩ := Q
    have HQ := hide hQ
    simp only
    rw [hr0] at HRf
    have HV := hide (And.intro hl1 (And.intro ht2 (And.intro htb hqb)))
    have HG := hide hg
    have HOk := hide hok
    have HBy := hide ht
    have HCl := hide hcell
    have HPo := hide hP
    have hnl : ((t.length : Int) == 0) = false := beq_eq_false_iff_ne.2 (by omega)
    have hl2 : (0 : Int) < (t.length : Int) := by omega
    clear hr hr0 hl0 hl1 ht2 htb hun hg hok ht hcell hap hqb hP hQ
    go_enter Try.func24, Try.ntmps24
    go_wp2_with fail
    have HB0 := hide ((recv_below w (Obj.cells #[.bool x.rd, .bool x.wt, .int .i64 x.mode, .int .i64 x.size, .slice oa x.out.length oc, .slice ia x.inn.length ic, .slice ba x.back.length bc, .int .i64 x.dir, .bool x.fin, .bool x.bad, .bool x.closed] 35)).trans ((recv_below (w.alloc (Obj.cells #[.bool x.rd, .bool x.wt, .int .i64 x.mode, .int .i64 x.size, .slice oa x.out.length oc, .slice ia x.inn.length ic, .slice ba x.back.length bc, .int .i64 x.dir, .bool x.fin, .bool x.bad, .bool x.closed] 35)) (Obj.cells #[.bool false, .bool false, .int .i64 0, .int .i64 0, .slice none 0 0, .slice none 0 0, .slice none 0 0, .int .i64 0, .bool false, .bool false, .bool false] 35)).mono (recv_below w (Obj.cells #[.bool x.rd, .bool x.wt, .int .i64 x.mode, .int .i64 x.size, .slice oa x.out.length oc, .slice ia x.inn.length ic, .slice ba x.back.length bc, .int .i64 x.dir, .bool x.fin, .bool x.bad, .bool x.closed] 35)).size))
    have HS0 := hide ((StAt.new w x (.slice oa x.out.length oc) (.slice ia x.inn.length ic) (.slice ba x.back.length bc)).below (recv_below _ (Obj.cells #[.bool false, .bool false, .int .i64 0, .int .i64 0, .slice none 0 0, .slice none 0 0, .slice none 0 0, .int .i64 0, .bool false, .bool false, .bool false] 35)))
    have HZ0 : Hid (((w.alloc (Obj.cells #[.bool x.rd, .bool x.wt, .int .i64 x.mode, .int .i64 x.size, .slice oa x.out.length oc, .slice ia x.inn.length ic, .slice ba x.back.length bc, .int .i64 x.dir, .bool x.fin, .bool x.bad, .bool x.closed] 35)).alloc (Obj.cells #[.bool false, .bool false, .int .i64 0, .int .i64 0, .slice none 0 0, .slice none 0 0, .slice none 0 0, .int .i64 0, .bool false, .bool false, .bool false] 35)).heap[w.heap.size + 1]? = some (Obj.cells #[.bool false, .bool false, .int .i64 0, .int .i64 0, .slice none 0 0, .slice none 0 0, .slice none 0 0, .int .i64 0, .bool false, .bool false, .bool false] 35)) := hide (by have := heap_alloc_new (w.alloc (Obj.cells #[.bool x.rd, .bool x.wt, .int .i64 x.mode, .int .i64 x.size, .slice oa x.out.length oc, .slice ia x.inn.length ic, .slice ba x.back.length bc, .int .i64 x.dir, .bool x.fin, .bool x.bad, .bool x.closed] 35)) (Obj.cells #[.bool false, .bool false, .int .i64 0, .int .i64 0, .slice none 0 0, .slice none 0 0, .slice none 0 0, .int .i64 0, .bool false, .bool false, .bool false] 35); rw [show (w.alloc (Obj.cells #[.bool x.rd, .bool x.wt, .int .i64 x.mode, .int .i64 x.size, .slice oa x.out.length oc, .slice ia x.inn.length ic, .slice ba x.back.length bc, .int .i64 x.dir, .bool x.fin, .bool x.bad, .bool x.closed] 35)).heap.size = w.heap.size + 1 from Array.size_push ..] at this; exact this)
    generalize (w.alloc (Obj.cells #[.bool x.rd, .bool x.wt, .int .i64 x.mode, .int .i64 x.size, .slice oa x.out.length oc, .slice ia x.inn.length ic, .slice ba x.back.length bc, .int .i64 x.dir, .bool x.fin, .bool x.bad, .bool x.closed] 35)).alloc (Obj.cells #[.bool false, .bool false, .int .i64 0, .int .i64 0, .slice none 0 0, .slice none 0 0, .slice none 0 0, .int .i64 0, .bool false, .bool false, .bool false] 35) = w0 at *
    have hz0 : w.heap.size + 1 < w0.heap.size := (Array.getElem?_eq_some_iff.1 HZ0.out).1
    refine (HRf.out w0).mono ?_
    rintro _ w1 ⟨rfl, hB1⟩
    have HB1 := hide (HB0.out.trans (hB1.mono HB0.out.size))
    have HS1 := hide (HS0.out.below hB1)
    have HZ1 : Hid (w1.heap[w.heap.size + 1]? = some (Obj.cells #[.bool false, .bool false, .int .i64 0, .int .i64 0, .slice none 0 0, .slice none 0 0, .slice none 0 0, .int .i64 0, .bool false, .bool false, .bool false] 35)) := hide ((hB1.block _ hz0).trans HZ0.out)
    have hz1 : w.heap.size + 1 < w1.heap.size := (Array.getElem?_eq_some_iff.1 HZ1.out).1
    clear HB0 HS0 HZ0 hz0 hB1 HRf
    have hBZ : Below w1.heap.size w1 (w1.alloc (Obj.cells #[.bool false, .bool false, .int .i64 0, .int .i64 0, .slice none 0 0, .slice none 0 0, .slice none 0 0, .int .i64 0, .bool false, .bool false, .bool false] 35)).drew := (recv_below w1 (Obj.cells #[.bool false, .bool false, .int .i64 0, .int .i64 0, .slice none 0 0, .slice none 0 0, .slice none 0 0, .int .i64 0, .bool false, .bool false, .bool false] 35)).trans (Below.refl _ _).drew
    have hI1 := HI.out.below HB1.out
    have hz2 := HB1.out.size
    have hA1 : At w1 O s := (hT s).keep HA.out (fun j _ hj => HB1.out.block j hj) hz2
    have hO1 : ∀ j, O j → j < w1.heap.size := fun j e => Nat.lt_of_lt_of_le (HO.out j e) hz2
    have hp := sPutW_any (shut_raw R) hT (shut_bears D) (t.getD 0 0) (hI1.below (Below.refl _ w1).drew) ((hT s).keep hA1 (fun j _ hj => (Below.refl w1.heap.size w1).drew.block j hj) (Nat.le_refl _)) hO1 trivial HL.out.1 HL.out.2.1 HL.out.2.2
    have hpz := sPutW_any (shut_raw R) hT (shut_bears D) (t.getD 0 0) (hI1.below hBZ) ((hT s).keep hA1 (fun j _ hj => hBZ.block j hj) hBZ.size) (fun j e => Nat.lt_of_lt_of_le (hO1 j e) hBZ.size) trivial HL.out.1 HL.out.2.1 HL.out.2.2
    have hzZ : (w1.alloc (Obj.cells #[.bool false, .bool false, .int .i64 0, .int .i64 0, .slice none 0 0, .slice none 0 0, .slice none 0 0, .int .i64 0, .bool false, .bool false, .bool false] 35)).heap.size = w1.heap.size + 1 := Array.size_push ..
    have hd1 : w1.cell? ⟨tb, tq, none⟩ = some (.int .u8 ((t.getD 0 0).toNat : Int)) := by have := HCl.out 0 HV.out.1; rw [Nat.add_zero] at this; exact (HB1.out.cell HV.out.2.2.2).trans this
    have hsh := fun e => shut_says D x s (t.getD 0 0) e
    have hnw : x.noWrite ≠ 0 → x.put (shutD D) s (t.getD 0 0) = (x, x.noWrite, s) := fun e => by unfold SS.put; rw [if_neg e]
    generalize t.getD 0 0 = ch at *
    generalize x.put (shutD D) s ch = q at *
    obtain ⟨y, e, s2⟩ := q
    simp only at hp hpz hsh hnw
    obtain rfl : s2 = s := by
      by_cases h0 : x.noWrite = 0
      · exact (hsh h0).2.1
      · have := hnw h0; simp only [Prod.mk.injEq] at this; exact this.2.2
    have HP := hide hp
    have HPz := hide hpz
    have HSh := hide hsh
    have HNw := hide hnw
    have HSn : Hid (∀ W W', Below w1.heap.size w1 W → Turned O W W' → (fun W => StAt W w.heap.size x (.slice oa x.out.length oc) (.slice ia x.inn.length ic) (.slice ba x.back.length bc) ∧ W.cell? ⟨tb, tq, none⟩ = some (.int .u8 (ch.toNat : Int))) W') := hide (fun W W' hW hT2 => ⟨(hT2.block w.heap.size (by have := hW.size; omega) (fun e => by have := HO.out _ e; omega)).trans (HS1.out.below hW), hT2.cell ((hW.cell (World.block_lt_of_cell? w1 _ hd1)).trans hd1) (fun e => HV.out.2.2.1 e)⟩)
    have HSt : Hid (∀ W W', (fun W => StAt W w.heap.size x (.slice oa x.out.length oc) (.slice ia x.inn.length ic) (.slice ba x.back.length bc) ∧ W.cell? ⟨tb, tq, none⟩ = some (.int .u8 (ch.toNat : Int))) W → Turned (fun k => k = w1.heap.size) W W' → (fun W => StAt W w.heap.size x (.slice oa x.out.length oc) (.slice ia x.inn.length ic) (.slice ba x.back.length bc) ∧ W.cell? ⟨tb, tq, none⟩ = some (.int .u8 (ch.toNat : Int))) W') := hide (fun W W' h hT2 => ⟨(hT2.block w.heap.size h.1.lt (by omega)).trans h.1, hT2.cell h.2 (fun e => by have h1 : tb = w1.heap.size := e; have := HV.out.2.2.2; omega)⟩)
    have HSb : Hid (∀ W W', (fun W => StAt W w.heap.size x (.slice oa x.out.length oc) (.slice ia x.inn.length ic) (.slice ba x.back.length bc) ∧ W.cell? ⟨tb, tq, none⟩ = some (.int .u8 (ch.toNat : Int))) W → Below W.heap.size W W' → (fun W => StAt W w.heap.size x (.slice oa x.out.length oc) (.slice ia x.inn.length ic) (.slice ba x.back.length bc) ∧ W.cell? ⟨tb, tq, none⟩ = some (.int .u8 (ch.toNat : Int))) W') := hide (fun W W' h hB => ⟨h.1.below hB, (hB.cell (World.block_lt_of_cell? W _ h.2)).trans h.2⟩)
    have HZ2 : Hid ((w1.alloc (Obj.cells #[.bool false, .bool false, .int .i64 0, .int .i64 0, .slice none 0 0, .slice none 0 0, .slice none 0 0, .int .i64 0, .bool false, .bool false, .bool false] 35)).drew.heap[w1.heap.size]? = some (Obj.cells #[.bool false, .bool false, .int .i64 0, .int .i64 0, .slice none 0 0, .slice none 0 0, .slice none 0 0, .int .i64 0, .bool false, .bool false, .bool false] 35)) := hide (heap_alloc_new w1 (Obj.cells #[.bool false, .bool false, .int .i64 0, .int .i64 0, .slice none 0 0, .slice none 0 0, .slice none 0 0, .int .i64 0, .bool false, .bool false, .bool false] 35))
    clear hp hpz hsh hnw hBZ hI1 hA1 hO1
    have hlp : 0 < t.length := HV.out.1
    go_upto_region 4 with fail
    go_cut [9, 10] (fun e9 p10 wx => ∃ (gt : Nat) (a1 a2 a3 : Option Addr) (a4 a5 a6 : Nat), e9 = .int .i64 e ∧ p10 = .pointer (some ⟨gt, 0, none⟩) ∧ Hid (StAt wx gt y (.slice a1 y.out.length a4) (.slice a2 y.inn.length a5) (.slice a3 y.back.length a6)) ∧ Hid (SOut At w1.drew O y s2 (.slice a1 y.out.length a4) (.slice a2 y.inn.length a5) (.slice a3 y.back.length a6) wx))
    case first =>
      refine wp_region_noPanic ?_
      refine wp_region_held_drew (S := fun W => StAt W w.heap.size x (.slice oa x.out.length oc) (.slice ia x.inn.length ic) (.slice ba x.back.length bc) ∧ W.cell? ⟨tb, tq, none⟩ = some (.int .u8 (ch.toNat : Int))) (by kernel_rfl) (HSn.out _ _ (Below.refl _ _).drew (Turned.refl _ _)) (fun hHeld => ?_)
      refine wpAnyH_take (i := 0) (oi := ?_) (v := ?_) ?_ (by kernel_rfl) (by kernel_rfl) (by kernel_rfl) (fun _ _ _ h => (h : False).elim) (Or.inl ⟨?_, ?_⟩) hHeld ?_
      rotate_left 2
      · (simp only [List.getElem?_toArray, List.getElem?_cons_zero]; rfl)
      · rfl
      · (intro W hSw; obtain ⟨hq1, hq2⟩ := hSw; obtain ⟨m0, m1, m2, m3, m4, m5, m6, m7, m8, m9, m10⟩ := hq1.cs; go_simp <;> with_reducible rfl)
      try simp only [Act.put, List.setIfInBounds_toArray, List.set_cons_zero, List.set_cons_succ]
      refine wpAnyH_take (i := 1) (oi := ?_) (v := ?_) ?_ (by kernel_rfl) (by kernel_rfl) (by kernel_rfl) (fun _ _ _ h => (h : False).elim) (Or.inl ⟨?_, ?_⟩) hHeld ?_
      rotate_left 2
      · (simp only [List.getElem?_toArray, List.getElem?_cons_zero, List.getElem?_cons_succ]; rfl)
      · rfl
      · (intro W hSw; obtain ⟨hq1, hq2⟩ := hSw; obtain ⟨m0, m1, m2, m3, m4, m5, m6, m7, m8, m9, m10⟩ := hq1.cs; go_simp <;> with_reducible rfl)
      try simp only [Act.put, List.setIfInBounds_toArray, List.set_cons_zero, List.set_cons_succ]
      refine wpAnyH_take (i := 2) (oi := ?_) (v := ?_) ?_ (by kernel_rfl) (by kernel_rfl) (by kernel_rfl) (fun _ _ _ h => (h : False).elim) (Or.inl ⟨?_, ?_⟩) hHeld ?_
      rotate_left 2
      · (simp only [List.getElem?_toArray, List.getElem?_cons_zero, List.getElem?_cons_succ]; rfl)
      · rfl
      · (intro W hSw; obtain ⟨hq1, hq2⟩ := hSw; obtain ⟨m0, m1, m2, m3, m4, m5, m6, m7, m8, m9, m10⟩ := hq1.cs; go_simp <;> with_reducible rfl)
      try simp only [Act.put, List.setIfInBounds_toArray, List.set_cons_zero, List.set_cons_succ]
      refine wpAnyH_take (i := 3) (oi := ?_) (v := ?_) ?_ (by kernel_rfl) (by kernel_rfl) (by kernel_rfl) (fun _ _ _ h => (h : False).elim) (Or.inl ⟨?_, ?_⟩) hHeld ?_
      rotate_left 2
      · (simp only [List.getElem?_toArray, List.getElem?_cons_zero, List.getElem?_cons_succ]; rfl)
      · rfl
      · (intro W hSw; obtain ⟨hq1, hq2⟩ := hSw; obtain ⟨m0, m1, m2, m3, m4, m5, m6, m7, m8, m9, m10⟩ := hq1.cs; go_simp <;> with_reducible rfl)
      try simp only [Act.put, List.setIfInBounds_toArray, List.set_cons_zero, List.set_cons_succ]
      refine wpAnyH_take (i := 4) (oi := ?_) (v := ?_) ?_ (by kernel_rfl) (by kernel_rfl) (by kernel_rfl) (fun _ _ _ h => (h : False).elim) (Or.inl ⟨?_, ?_⟩) hHeld ?_
      rotate_left 2
      · (simp only [List.getElem?_toArray, List.getElem?_cons_zero, List.getElem?_cons_succ]; rfl)
      · rfl
      · (intro W hSw; obtain ⟨hq1, hq2⟩ := hSw; obtain ⟨m0, m1, m2, m3, m4, m5, m6, m7, m8, m9, m10⟩ := hq1.cs; go_simp <;> with_reducible rfl)
      try simp only [Act.put, List.setIfInBounds_toArray, List.set_cons_zero, List.set_cons_succ]
      refine wpAnyH_take (i := 5) (oi := ?_) (v := ?_) ?_ (by kernel_rfl) (by kernel_rfl) (by kernel_rfl) (fun _ _ _ h => (h : False).elim) (Or.inl ⟨?_, ?_⟩) hHeld ?_
      rotate_left 2
      · (simp only [List.getElem?_toArray, List.getElem?_cons_zero, List.getElem?_cons_succ]; rfl)
      · rfl
      · (intro W hSw; obtain ⟨hq1, hq2⟩ := hSw; obtain ⟨m0, m1, m2, m3, m4, m5, m6, m7, m8, m9, m10⟩ := hq1.cs; go_simp <;> with_reducible rfl)
      try simp only [Act.put, List.setIfInBounds_toArray, List.set_cons_zero, List.set_cons_succ]
      refine wpAnyH_take (i := 6) (oi := ?_) (v := ?_) ?_ (by kernel_rfl) (by kernel_rfl) (by kernel_rfl) (fun _ _ _ h => (h : False).elim) (Or.inl ⟨?_, ?_⟩) hHeld ?_
      rotate_left 2
      · (simp only [List.getElem?_toArray, List.getElem?_cons_zero, List.getElem?_cons_succ]; rfl)
      · rfl
      · (intro W hSw; obtain ⟨hq1, hq2⟩ := hSw; obtain ⟨m0, m1, m2, m3, m4, m5, m6, m7, m8, m9, m10⟩ := hq1.cs; go_simp <;> with_reducible rfl)
      try simp only [Act.put, List.setIfInBounds_toArray, List.set_cons_zero, List.set_cons_succ]
      refine wpAnyH_ready (rs := [7, 11]) (by kernel_rfl) (by simp) ?_
      refine AllReadyH.cons (o := ?_) ?_ (fun K' hK => ?_) (AllReadyH.cons (o := ?_) ?_ (fun K' hK => ?_) AllReadyH.nil)
      rotate_left 1
      · (simp only [List.getElem?_toArray, List.getElem?_cons_zero, List.getElem?_cons_succ]; rfl)
      · go_simp
        go_at_call 38
        refine HP.out.mono ?_
        rintro _ w5' ⟨o', i', b'', rfl, hS⟩
        obtain ⟨a1, a4, rfl, -⟩ := hS.choose_spec.1.so
        obtain ⟨a2, a5, rfl, -⟩ := hS.choose_spec.1.si
        obtain ⟨a3, a6, rfl, -⟩ := hS.choose_spec.1.sb
        have hT5 : Turned O w1.drew w5' := (by obtain ⟨_, _, _, _, _, t⟩ := hS; exact t)
        have HS5 := hide hS
        clear hS
        have h9 := HSn.out _ w5' ((Below.refl _ _).drew) hT5
        refine hK.out _ _ (h9) (fun hHeld2 => ?_)
        clear hK K' hHeld
        have hHeld := hHeld2
        clear hHeld2
        try simp only [Act.put, List.setIfInBounds_toArray, List.set_cons_zero, List.set_cons_succ]
        refine wpAnyH_take (i := 8) (oi := ?_) (v := ?_) ?_ (by kernel_rfl) (by kernel_rfl) (by kernel_rfl) (fun _ _ _ h => (h : False).elim) (Or.inl ⟨?_, ?_⟩) hHeld ?_
        rotate_left 2
        · (simp only [List.getElem?_toArray, List.getElem?_cons_zero, List.getElem?_cons_succ]; rfl)
        · rfl
        · (intro W hSw; obtain ⟨hq1, hq2⟩ := hSw; obtain ⟨m0, m1, m2, m3, m4, m5, m6, m7, m8, m9, m10⟩ := hq1.cs; go_simp <;> with_reducible rfl)
        try simp only [Act.put, List.setIfInBounds_toArray, List.set_cons_zero, List.set_cons_succ]
        refine wpAnyH_take (i := 9) (oi := ?_) (v := ?_) ?_ (by kernel_rfl) (by kernel_rfl) (by kernel_rfl) (fun _ _ _ h => (h : False).elim) (Or.inl ⟨?_, ?_⟩) hHeld ?_
        rotate_left 2
        · (simp only [List.getElem?_toArray, List.getElem?_cons_zero, List.getElem?_cons_succ]; rfl)
        · rfl
        · (intro W hSw; obtain ⟨hq1, hq2⟩ := hSw; obtain ⟨m0, m1, m2, m3, m4, m5, m6, m7, m8, m9, m10⟩ := hq1.cs; go_simp <;> with_reducible rfl)
        try simp only [Act.put, List.setIfInBounds_toArray, List.set_cons_zero, List.set_cons_succ]
        refine wpAnyH_take (i := 10) (oi := ?_) (v := ?_) ?_ (by kernel_rfl) (by kernel_rfl) (by kernel_rfl) (fun _ _ _ h => (h : False).elim) (Or.inl ⟨?_, ?_⟩) hHeld ?_
        rotate_left 2
        · (simp only [List.getElem?_toArray, List.getElem?_cons_zero, List.getElem?_cons_succ]; rfl)
        · rfl
        · (intro W hSw; obtain ⟨hq1, hq2⟩ := hSw; obtain ⟨m0, m1, m2, m3, m4, m5, m6, m7, m8, m9, m10⟩ := hq1.cs; go_simp <;> with_reducible rfl)
        try simp only [Act.put, List.setIfInBounds_toArray, List.set_cons_zero, List.set_cons_succ]
        refine wpAnyH_ready (rs := [11]) (by kernel_rfl) (by simp) ?_
        refine AllReadyH.cons (o := ?_) ?_ (fun K' hK => ?_) AllReadyH.nil
        rotate_left 1
        · (simp only [List.getElem?_toArray, List.getElem?_cons_zero, List.getElem?_cons_succ]; rfl)
        go_simp
        refine hK.out _ _ (HSb.out _ _ h9 (recv_below w5' (Obj.cells #[.bool false, .bool false, .int .i64 0, .int .i64 0, .slice none 0 0, .slice none 0 0, .slice none 0 0, .int .i64 0, .bool false, .bool false, .bool false] 35))) (fun hHeld2 => ?_)
        clear hK K' hHeld
        have hHeld := hHeld2
        clear hHeld2
        try simp only [Act.put, List.setIfInBounds_toArray, List.set_cons_zero, List.set_cons_succ]
        refine wpAnyH_ready (rs := [12]) (by kernel_rfl) (by simp) ?_
        refine AllReadyH.cons (o := ?_) ?_ (fun K' hK => ?_) AllReadyH.nil
        rotate_left 1
        · (simp only [List.getElem?_toArray, List.getElem?_cons_zero, List.getElem?_cons_succ]; rfl)
        go_simp
        refine hK.out _ _ (HSb.out _ _ h9 (recv_below w5' (Obj.cells #[.bool y.rd, .bool y.wt, .int .i64 y.mode, .int .i64 y.size, .slice a1 y.out.length a4, .slice a2 y.inn.length a5, .slice a3 y.back.length a6, .int .i64 y.dir, .bool y.fin, .bool y.bad, .bool y.closed] 35))) (fun hHeld2 => ?_)
        clear hK K' hHeld
        have hHeld := hHeld2
        clear hHeld2
        try simp only [Act.put, List.setIfInBounds_toArray, List.set_cons_zero, List.set_cons_succ]
        refine wpAnyH_take (i := 13) (oi := ?_) (v := ?_) ?_ (by kernel_rfl) (by kernel_rfl) (by kernel_rfl) (fun _ _ _ h => (h : False).elim) (Or.inl ⟨?_, ?_⟩) hHeld ?_
        rotate_left 2
        · (simp only [List.getElem?_toArray, List.getElem?_cons_zero, List.getElem?_cons_succ]; rfl)
        · rfl
        · (intro W hSw; obtain ⟨hq1, hq2⟩ := hSw; obtain ⟨m0, m1, m2, m3, m4, m5, m6, m7, m8, m9, m10⟩ := hq1.cs; go_simp <;> with_reducible rfl)
        try simp only [Act.put, List.setIfInBounds_toArray, List.set_cons_zero, List.set_cons_succ]
        refine wpAnyH_done (by kernel_rfl) ?_ _
        refine NoPanic.normal ?_
        clear hHeld h9 hT5
        go_wp2
        go_meet
        exact ⟨_, _, _, _, _, _, _, rfl, rfl, hide (StAt.new w5' y (.slice a1 y.out.length a4) (.slice a2 y.inn.length a5) (.slice a3 y.back.length a6)), hide (SOut.below hT HS5.out (recv_below w5' (Obj.cells #[.bool y.rd, .bool y.wt, .int .i64 y.mode, .int .i64 y.size, .slice a1 y.out.length a4, .slice a2 y.inn.length a5, .slice a3 y.back.length a6, .int .i64 y.dir, .bool y.fin, .bool y.bad, .bool y.closed] 35)) rfl rfl rfl)⟩
      rotate_left 1
      · (simp only [List.getElem?_toArray, List.getElem?_cons_zero, List.getElem?_cons_succ]; rfl)
      · go_simp
        refine hK.out _ _ (HSn.out _ _ ((Below.refl _ w1).alloc (Nat.le_refl _) (Obj.cells #[.bool false, .bool false, .int .i64 0, .int .i64 0, .slice none 0 0, .slice none 0 0, .slice none 0 0, .int .i64 0, .bool false, .bool false, .bool false] 35)).drew (Turned.refl _ _)) (fun hHeld2 => ?_)
        clear hK K' hHeld
        have hHeld := hHeld2
        clear hHeld2
        try simp only [Act.put, List.setIfInBounds_toArray, List.set_cons_zero, List.set_cons_succ]
        refine wpAnyH_ready (rs := [7]) (by kernel_rfl) (by simp) ?_
        refine AllReadyH.cons (o := ?_) ?_ (fun K' hK => ?_) AllReadyH.nil
        rotate_left 1
        · (simp only [List.getElem?_toArray, List.getElem?_cons_zero, List.getElem?_cons_succ]; rfl)
        go_simp
        go_at_call 38
        refine HPz.out.mono ?_
        rintro _ w5' ⟨o', i', b'', rfl, hS⟩
        obtain ⟨a1, a4, rfl, -⟩ := hS.choose_spec.1.so
        obtain ⟨a2, a5, rfl, -⟩ := hS.choose_spec.1.si
        obtain ⟨a3, a6, rfl, -⟩ := hS.choose_spec.1.sb
        have hT5 : Turned O (w1.alloc (Obj.cells #[.bool false, .bool false, .int .i64 0, .int .i64 0, .slice none 0 0, .slice none 0 0, .slice none 0 0, .int .i64 0, .bool false, .bool false, .bool false] 35)).drew w5' := (by obtain ⟨_, _, _, _, _, t⟩ := hS; exact t)
        have HS5 := hide hS
        clear hS
        have h9 := HSn.out _ w5' (((Below.refl _ w1).alloc (Nat.le_refl _) (Obj.cells #[.bool false, .bool false, .int .i64 0, .int .i64 0, .slice none 0 0, .slice none 0 0, .slice none 0 0, .int .i64 0, .bool false, .bool false, .bool false] 35)).drew) hT5
        refine hK.out _ _ (h9) (fun hHeld2 => ?_)
        clear hK K' hHeld
        have hHeld := hHeld2
        clear hHeld2
        try simp only [Act.put, List.setIfInBounds_toArray, List.set_cons_zero, List.set_cons_succ]
        refine wpAnyH_take (i := 8) (oi := ?_) (v := ?_) ?_ (by kernel_rfl) (by kernel_rfl) (by kernel_rfl) (fun _ _ _ h => (h : False).elim) (Or.inl ⟨?_, ?_⟩) hHeld ?_
        rotate_left 2
        · (simp only [List.getElem?_toArray, List.getElem?_cons_zero, List.getElem?_cons_succ]; rfl)
        · rfl
        · (intro W hSw; obtain ⟨hq1, hq2⟩ := hSw; obtain ⟨m0, m1, m2, m3, m4, m5, m6, m7, m8, m9, m10⟩ := hq1.cs; go_simp <;> with_reducible rfl)
        try simp only [Act.put, List.setIfInBounds_toArray, List.set_cons_zero, List.set_cons_succ]
        refine wpAnyH_take (i := 9) (oi := ?_) (v := ?_) ?_ (by kernel_rfl) (by kernel_rfl) (by kernel_rfl) (fun _ _ _ h => (h : False).elim) (Or.inl ⟨?_, ?_⟩) hHeld ?_
        rotate_left 2
        · (simp only [List.getElem?_toArray, List.getElem?_cons_zero, List.getElem?_cons_succ]; rfl)
        · rfl
        · (intro W hSw; obtain ⟨hq1, hq2⟩ := hSw; obtain ⟨m0, m1, m2, m3, m4, m5, m6, m7, m8, m9, m10⟩ := hq1.cs; go_simp <;> with_reducible rfl)
        try simp only [Act.put, List.setIfInBounds_toArray, List.set_cons_zero, List.set_cons_succ]
        refine wpAnyH_take (i := 10) (oi := ?_) (v := ?_) ?_ (by kernel_rfl) (by kernel_rfl) (by kernel_rfl) (fun _ _ _ h => (h : False).elim) (Or.inl ⟨?_, ?_⟩) hHeld ?_
        rotate_left 2
        · (simp only [List.getElem?_toArray, List.getElem?_cons_zero, List.getElem?_cons_succ]; rfl)
        · rfl
        · (intro W hSw; obtain ⟨hq1, hq2⟩ := hSw; obtain ⟨m0, m1, m2, m3, m4, m5, m6, m7, m8, m9, m10⟩ := hq1.cs; go_simp <;> with_reducible rfl)
        try simp only [Act.put, List.setIfInBounds_toArray, List.set_cons_zero, List.set_cons_succ]
        have hz9 : w5'.heap[w1.heap.size]? = some (Obj.cells #[.bool false, .bool false, .int .i64 0, .int .i64 0, .slice none 0 0, .slice none 0 0, .slice none 0 0, .int .i64 0, .bool false, .bool false, .bool false] 35) := (hT5.block w1.heap.size (by show _ < (w1.alloc (Obj.cells #[.bool false, .bool false, .int .i64 0, .int .i64 0, .slice none 0 0, .slice none 0 0, .slice none 0 0, .int .i64 0, .bool false, .bool false, .bool false] 35)).heap.size; have := hzZ; omega) (fun e => by have := HO.out _ e; omega)).trans HZ2.out
        obtain ⟨e1, e2⟩ := st_fill w5' w1.heap.size y (.slice a1 y.out.length a4) (.slice a2 y.inn.length a5) (.slice a3 y.back.length a6) hz9
        have HS9 := hide (HSt.out _ _ h9 e2)
        have HE1 := hide e1
        have HE2x := hide e2
        have u0' := frozen_of_row w5' w1.heap.size 0 _ _ hz9
        have u1' := frozen_of_row w5' w1.heap.size 1 _ _ hz9
        have u2' := frozen_of_row w5' w1.heap.size 2 _ _ hz9
        have u3' := frozen_of_row w5' w1.heap.size 3 _ _ hz9
        have u4' := frozen_of_row w5' w1.heap.size 4 _ _ hz9
        have u5' := frozen_of_row w5' w1.heap.size 5 _ _ hz9
        have u6' := frozen_of_row w5' w1.heap.size 6 _ _ hz9
        have u7' := frozen_of_row w5' w1.heap.size 7 _ _ hz9
        have u8' := frozen_of_row w5' w1.heap.size 8 _ _ hz9
        have u9' := frozen_of_row w5' w1.heap.size 9 _ _ hz9
        have u10' := frozen_of_row w5' w1.heap.size 10 _ _ hz9
        have z0' := cell_of_row w5' w1.heap.size 0 _ _ _ hz9
        have z1' := cell_of_row w5' w1.heap.size 1 _ _ _ hz9
        have z2' := cell_of_row w5' w1.heap.size 2 _ _ _ hz9
        have z3' := cell_of_row w5' w1.heap.size 3 _ _ _ hz9
        have z4' := cell_of_row w5' w1.heap.size 4 _ _ _ hz9
        have z5' := cell_of_row w5' w1.heap.size 5 _ _ _ hz9
        have z6' := cell_of_row w5' w1.heap.size 6 _ _ _ hz9
        have z7' := cell_of_row w5' w1.heap.size 7 _ _ _ hz9
        have z8' := cell_of_row w5' w1.heap.size 8 _ _ _ hz9
        have z9' := cell_of_row w5' w1.heap.size 9 _ _ _ hz9
        have z10' := cell_of_row w5' w1.heap.size 10 _ _ _ hz9
        simp at z0' z1' z2' z3' z4' z5' z6' z7' z8' z9' z10'
        clear e1 e2 hz9 hT5
        refine wpAnyH_ready (rs := [12]) (by kernel_rfl) (by simp) ?_
        refine AllReadyH.cons (o := ?_) ?_ (fun K' hK => ?_) AllReadyH.nil
        rotate_left 1
        · (simp only [List.getElem?_toArray, List.getElem?_cons_zero, List.getElem?_cons_succ]; rfl)
        go_simp
        refine hK.out _ _ (HS9.out) (fun hHeld2 => ?_)
        clear hK K' hHeld
        have hHeld := hHeld2
        clear hHeld2
        try simp only [Act.put, List.setIfInBounds_toArray, List.set_cons_zero, List.set_cons_succ]
        clear u0' z0' u1' z1' u2' z2' u3' z3' u4' z4' u5' z5' u6' z6' u7' z7' u8' z8' u9' z9' u10' z10'
        refine wpAnyH_take (i := 13) (oi := ?_) (v := ?_) ?_ (by kernel_rfl) (by kernel_rfl) (by kernel_rfl) (fun _ _ _ h => (h : False).elim) (Or.inl ⟨?_, ?_⟩) hHeld ?_
        rotate_left 2
        · (simp only [List.getElem?_toArray, List.getElem?_cons_zero, List.getElem?_cons_succ]; rfl)
        · rfl
        · (intro W hSw; obtain ⟨hq1, hq2⟩ := hSw; obtain ⟨m0, m1, m2, m3, m4, m5, m6, m7, m8, m9, m10⟩ := hq1.cs; go_simp <;> with_reducible rfl)
        try simp only [Act.put, List.setIfInBounds_toArray, List.set_cons_zero, List.set_cons_succ]
        refine wpAnyH_done (by kernel_rfl) ?_ _
        refine NoPanic.normal ?_
        clear hHeld h9
        go_wp2
        go_meet
        exact ⟨_, _, _, _, _, _, _, rfl, rfl, HE1, hide (SOut.fin hT HS5.out (show Below w1.heap.size w1.drew (w1.alloc (Obj.cells #[.bool false, .bool false, .int .i64 0, .int .i64 0, .slice none 0 0, .slice none 0 0, .slice none 0 0, .int .i64 0, .bool false, .bool false, .bool false] 35)).drew from recv_below w1.drew (Obj.cells #[.bool false, .bool false, .int .i64 0, .int .i64 0, .slice none 0 0, .slice none 0 0, .slice none 0 0, .int .i64 0, .bool false, .bool false, .bool false] 35)) (by show w1.heap.size < (w1.alloc (Obj.cells #[.bool false, .bool false, .int .i64 0, .int .i64 0, .slice none 0 0, .slice none 0 0, .slice none 0 0, .int .i64 0, .bool false, .bool false, .bool false] 35)).heap.size; have := hzZ; omega) (Nat.le_refl _) (fun j e => by have := HO.out j e; show j < w1.heap.size; omega) HE2x.out)⟩
    case rest =>
      obtain ⟨gt, a1, a2, a3, a4, a5, a6, rfl, rfl, HTb, HSo⟩ := hcut
      clear HP HPz HSn HSt HSb HZ2 hd1 hzZ hlp
      obtain ⟨O', h1, h2, h3, h4, h5⟩ := HSo.out
      have HC5 := hide (And.intro h1 (And.intro h2 (And.intro h3 (And.intro h4 h5))))
      have hz5 : w1.heap.size ≤ wc.heap.size := h5.size
      have HS5 : Hid (StAt wc w.heap.size x (.slice oa x.out.length oc) (.slice ia x.inn.length ic) (.slice ba x.back.length bc)) := hide ((h5.block w.heap.size (by show _ < w1.heap.size; omega) (fun e => by have := HO.out _ e; omega)).trans (HS1.out.below (Below.refl _ w1).drew))
      have HZ5 : Hid (wc.heap[w.heap.size + 1]? = some (Obj.cells #[.bool false, .bool false, .int .i64 0, .int .i64 0, .slice none 0 0, .slice none 0 0, .slice none 0 0, .int .i64 0, .bool false, .bool false, .bool false] 35)) := hide ((h5.block _ hz1 (fun e => by have := HO.out _ e; omega)).trans HZ1.out)
      have HBy5 := hide ((HBy.out.below (HB1.out.trans ((Below.refl _ w1).drew.mono hz2))).turned h5 (fun k e _ e2 => HV.out.2.2.1 (by cases e; exact e2)))
      have hno : ¬ O' tb := fun e => (h4 tb e).elim HV.out.2.2.1 (fun e => by have := HV.out.2.2.2; have e : w1.heap.size ≤ tb := e; omega)
      have hBd : Below w.heap.size w w1.drew := HB1.out.trans ((Below.refl _ w1).drew.mono hz2)
      have HBd := hide hBd
      have HNo := hide hno
      have HZK : Hid (w1.drew.heap[w.heap.size + 1]? = some (Obj.cells #[.bool false, .bool false, .int .i64 0, .int .i64 0, .slice none 0 0, .slice none 0 0, .slice none 0 0, .int .i64 0, .bool false, .bool false, .bool false] 35)) := hide HZ1.out
      clear h1 h2 h3 h4 h5 hno hBd HS1 HZ1
      by_cases h0 : x.noWrite = 0
      case neg =>
        have hq := HNw.out h0
        simp only [Prod.mk.injEq] at hq
        obtain ⟨rfl, rfl, -⟩ := hq
        have hX := HQ.out
        rw [if_pos h0] at hX
        have HX : Hid (qx = y ∧ qn = 0 ∧ qe = y.noWrite ∧ qs = s2) := hide (by simpa using hX)
        have h52 := noWrite_odd y
        clear hX HQ
        generalize y.noWrite = e at *
        have hb1 : (e != 0) = true := by simp [h0]
        have hb2 : (e == 0) = false := by simp [h0]
        have hb3 : (e != 52) = true := by simp [h52]
        have hb4 : (e == 52) = false := by simp [h52]
        clear h0 h52 HSh HNw
        obtain ⟨t0, t1, t2, t3, t4, t5, t6, t7, t8, t9, t10⟩ := HTb.out.cs
        have f0 := frozen_of_row wc (w.heap.size + 1) 0 _ _ HZ5.out
        have f1 := frozen_of_row wc (w.heap.size + 1) 1 _ _ HZ5.out
        have f2 := frozen_of_row wc (w.heap.size + 1) 2 _ _ HZ5.out
        have f3 := frozen_of_row wc (w.heap.size + 1) 3 _ _ HZ5.out
        have f4 := frozen_of_row wc (w.heap.size + 1) 4 _ _ HZ5.out
        have f5 := frozen_of_row wc (w.heap.size + 1) 5 _ _ HZ5.out
        have f6 := frozen_of_row wc (w.heap.size + 1) 6 _ _ HZ5.out
        have f7 := frozen_of_row wc (w.heap.size + 1) 7 _ _ HZ5.out
        have f8 := frozen_of_row wc (w.heap.size + 1) 8 _ _ HZ5.out
        have f9 := frozen_of_row wc (w.heap.size + 1) 9 _ _ HZ5.out
        have f10 := frozen_of_row wc (w.heap.size + 1) 10 _ _ HZ5.out
        have d0 := cell_of_row wc (w.heap.size + 1) 0 _ _ _ HZ5.out
        have d1 := cell_of_row wc (w.heap.size + 1) 1 _ _ _ HZ5.out
        have d2 := cell_of_row wc (w.heap.size + 1) 2 _ _ _ HZ5.out
        have d3 := cell_of_row wc (w.heap.size + 1) 3 _ _ _ HZ5.out
        have d4 := cell_of_row wc (w.heap.size + 1) 4 _ _ _ HZ5.out
        have d5 := cell_of_row wc (w.heap.size + 1) 5 _ _ _ HZ5.out
        have d6 := cell_of_row wc (w.heap.size + 1) 6 _ _ _ HZ5.out
        have d7 := cell_of_row wc (w.heap.size + 1) 7 _ _ _ HZ5.out
        have d8 := cell_of_row wc (w.heap.size + 1) 8 _ _ _ HZ5.out
        have d9 := cell_of_row wc (w.heap.size + 1) 9 _ _ _ HZ5.out
        have d10 := cell_of_row wc (w.heap.size + 1) 10 _ _ _ HZ5.out
        simp at d0 d1 d2 d3 d4 d5 d6 d7 d8 d9 d10
        obtain ⟨e1, e2⟩ := st_fill wc (w.heap.size + 1) y (.slice a1 y.out.length a4) (.slice a2 y.inn.length a5) (.slice a3 y.back.length a6) HZ5.out
        have HE1 := hide e1
        have HE2 := hide e2
        clear e1 e2
        go_wp2
        refine bodyPost_ret (res_three rfl _ (w.heap.size + 1) rfl y _ _ _ HE1.out) rfl ?_
        obtain ⟨rfl, rfl, rfl, rfl⟩ := HX.out
        exact ⟨_, _, _, rfl, HSo.out.fin hT HBd.out (by show _ < w1.heap.size; omega) (Nat.le_succ _) HO.out HE2.out⟩
      case pos =>
        obtain ⟨he, -, hy1⟩ := HSh.out h0
        have hX := HQ.out
        rw [if_neg (by simp [h0])] at hX
        clear HQ
        by_cases hm : x.mode = 1
        case pos =>
          rw [if_pos hm] at hX
          obtain rfl := hy1 hm
          have HPt := hide (putAtOnce_any R hT t (some ⟨tb, tq, none⟩) tc HC5.out.1 HC5.out.2.1 HC5.out.2.2.1 HBy5.out htc HV.out.2.1 (fun _ k e e2 => HNo.out (by cases e; exact e2)) (HOk.out hm HV.out.2.1))
          have hon : ({ x with dir := 2 } : SS).once D s2 t = (({ x with dir := 2 } : SS).mark (putV D t (putF t) s2 0 0).2.1, (putV D t (putF t) s2 0 0).1, (putV D t (putF t) s2 0 0).2.1, (putV D t (putF t) s2 0 0).2.2) := rfl
          rw [hon] at HPt hX
          generalize putV D t (putF t) s2 0 0 = q at *
          obtain ⟨m, e4, s4⟩ := q
          simp only at HPt hX
          have HX : Hid (qx = ({ x with dir := 2 } : SS).mark e4 ∧ qn = m ∧ qe = e4 ∧ qs = s4) := hide (by simpa using hX)
          clear hX
          have hb1 : (x.mode == 1) = true := by simp [hm]
          clear hon hy1 HSh HNw HOk h0 hm
          obtain ⟨t0, t1, t2, t3, t4, t5, t6, t7, t8, t9, t10⟩ := HTb.out.cs
          have c2 := HS5.out.cs.2.2.1
          rcases he with rfl | rfl
          all_goals
            go_wp2_with fail
            clear t0 t1 t2 t3 t4 t5 t6 t7 t8 t9 t10 c2
            refine HPt.out.mono ?_
            rintro _ w5 ⟨rfl, hR⟩
            have hS6 : SOut At w1.drew O (({ x with dir := 2 } : SS).mark e4) s4 (.slice a1 x.out.length a4) (.slice a2 x.inn.length a5) (.slice a3 x.back.length a6) w5 := by
              obtain ⟨O2, q1, q2, q3, q4, q5⟩ := hR.out (z := w1.heap.size) (x' := ({ x with dir := 2 } : SS).mark e4) HC5.out.1 (mark_out _ _) (mark_inn _ _) (mark_back _ _) (fun W' O' h => (hT s4).trim h)
              have z9 : w1.heap.size ≤ wc.heap.size := hz5
              exact ⟨O2, q1, q2, q3, fun k e => (q4 k e).elim (HC5.out.2.2.2.1 k) (fun e => .inr (by show w1.heap.size ≤ k; omega)), HC5.out.2.2.2.2.trans q5 (fun k hk e => (HC5.out.2.2.2.1 k e).resolve_right (by omega))⟩
            have hTu : Turned O w1.drew w5 := by obtain ⟨_, _, _, _, _, t⟩ := hS6; exact t
            have HZ6 : Hid (w5.heap[w.heap.size + 1]? = some (Obj.cells #[.bool false, .bool false, .int .i64 0, .int .i64 0, .slice none 0 0, .slice none 0 0, .slice none 0 0, .int .i64 0, .bool false, .bool false, .bool false] 35)) := hide ((hTu.block _ hz1 (fun e => by have := HO.out _ e; omega)).trans HZK.out)
            have HS6 := hide hS6
            clear hR hTu hS6 HPt
            obtain ⟨X, hX⟩ : ∃ X, X = ({ x with dir := 2 } : SS).mark e4 := ⟨_, rfl⟩
            have hx1 : X.out.length = x.out.length := by rw [hX, mark_out]
            have hx2 : X.inn.length = x.inn.length := by rw [hX, mark_inn]
            have hx3 : X.back.length = x.back.length := by rw [hX, mark_back]
            rw [← hX] at HS6 HX ⊢
            generalize x.out.length = n1 at *
            generalize x.inn.length = n2 at *
            generalize x.back.length = n3 at *
            subst hx1 hx2 hx3
            clear hX
            have f0 := frozen_of_row w5 (w.heap.size + 1) 0 _ _ HZ6.out
            have f1 := frozen_of_row w5 (w.heap.size + 1) 1 _ _ HZ6.out
            have f2 := frozen_of_row w5 (w.heap.size + 1) 2 _ _ HZ6.out
            have f3 := frozen_of_row w5 (w.heap.size + 1) 3 _ _ HZ6.out
            have f4 := frozen_of_row w5 (w.heap.size + 1) 4 _ _ HZ6.out
            have f5 := frozen_of_row w5 (w.heap.size + 1) 5 _ _ HZ6.out
            have f6 := frozen_of_row w5 (w.heap.size + 1) 6 _ _ HZ6.out
            have f7 := frozen_of_row w5 (w.heap.size + 1) 7 _ _ HZ6.out
            have f8 := frozen_of_row w5 (w.heap.size + 1) 8 _ _ HZ6.out
            have f9 := frozen_of_row w5 (w.heap.size + 1) 9 _ _ HZ6.out
            have f10 := frozen_of_row w5 (w.heap.size + 1) 10 _ _ HZ6.out
            have d0 := cell_of_row w5 (w.heap.size + 1) 0 _ _ _ HZ6.out
            have d1 := cell_of_row w5 (w.heap.size + 1) 1 _ _ _ HZ6.out
            have d2 := cell_of_row w5 (w.heap.size + 1) 2 _ _ _ HZ6.out
            have d3 := cell_of_row w5 (w.heap.size + 1) 3 _ _ _ HZ6.out
            have d4 := cell_of_row w5 (w.heap.size + 1) 4 _ _ _ HZ6.out
            have d5 := cell_of_row w5 (w.heap.size + 1) 5 _ _ _ HZ6.out
            have d6 := cell_of_row w5 (w.heap.size + 1) 6 _ _ _ HZ6.out
            have d7 := cell_of_row w5 (w.heap.size + 1) 7 _ _ _ HZ6.out
            have d8 := cell_of_row w5 (w.heap.size + 1) 8 _ _ _ HZ6.out
            have d9 := cell_of_row w5 (w.heap.size + 1) 9 _ _ _ HZ6.out
            have d10 := cell_of_row w5 (w.heap.size + 1) 10 _ _ _ HZ6.out
            simp at d0 d1 d2 d3 d4 d5 d6 d7 d8 d9 d10
            obtain ⟨e1, e2⟩ := st_fill w5 (w.heap.size + 1) X (.slice a1 X.out.length a4) (.slice a2 X.inn.length a5) (.slice a3 X.back.length a6) HZ6.out
            have HE1 := hide e1
            have HE2 := hide e2
            clear e1 e2
            go_wp2
            refine bodyPost_ret (res_three rfl _ (w.heap.size + 1) rfl X _ _ _ HE1.out) rfl ?_
            obtain ⟨rfl, rfl, rfl, rfl⟩ := HX.out
            exact ⟨_, _, _, rfl, HS6.out.fin hT HBd.out (by show _ < w1.heap.size; omega) (Nat.le_succ _) HO.out HE2.out⟩
        case neg =>
          rw [if_neg hm] at hX
          have HTh := hide (through_any R hT hG t tb tq tc ((HI.out.below HBd.out).turned HC5.out.2.2.2.2 (fun k e _ => HPo.out k e)) HC5.out.2.1 HC5.out.2.2.1 HG.out HL.out.1 HL.out.2.1 HL.out.2.2 h0 hm (fun j hj => by have := HCl.out j hj; exact HC5.out.2.2.2.2.cell ((HBd.out.cell (World.block_lt_of_cell? w _ this)).trans this) HV.out.2.2.1) HBy5.out htc HV.out.1 HV.out.2.1 HNo.out)
          generalize x.through D s2 t = q at *
          obtain ⟨x', m, e4, s4⟩ := q
          simp only at HTh
          have HX : Hid (qx = x' ∧ qn = m ∧ qe = e4 ∧ qs = s4) := hide (by simpa using hX)
          clear hX
          have hb1 : (x.mode == 1) = false := by simp [hm]
          clear hy1 HSh HNw HOk h0 hm
          obtain ⟨c0, c1, c2, c3, c4, c5, c6, c7, c8, c9, c10⟩ := HS5.out.cs
          rcases he with rfl | rfl
          all_goals
            go_wp2_with fail
            clear c0 c1 c2 c3 c4 c5 c6 c7 c8 c9 c10
            refine HTh.out.mono ?_
            rintro _ w5 ⟨o', i', b', rfl, hS⟩
            obtain ⟨b1, b4, rfl, -⟩ := hS.choose_spec.1.so
            obtain ⟨b2, b5, rfl, -⟩ := hS.choose_spec.1.si
            obtain ⟨b3, b6, rfl, -⟩ := hS.choose_spec.1.sb
            have hS6 := SOut.after HC5.out.2.2.2.1 HC5.out.2.2.2.2 hS
            have hTu : Turned O w1.drew w5 := by obtain ⟨_, _, _, _, _, t⟩ := hS6; exact t
            have HZ6 : Hid (w5.heap[w.heap.size + 1]? = some (Obj.cells #[.bool false, .bool false, .int .i64 0, .int .i64 0, .slice none 0 0, .slice none 0 0, .slice none 0 0, .int .i64 0, .bool false, .bool false, .bool false] 35)) := hide ((hTu.block _ hz1 (fun e => by have := HO.out _ e; omega)).trans HZK.out)
            have HS6 := hide hS6
            clear hS hTu hS6 HTh
            have f0 := frozen_of_row w5 (w.heap.size + 1) 0 _ _ HZ6.out
            have f1 := frozen_of_row w5 (w.heap.size + 1) 1 _ _ HZ6.out
            have f2 := frozen_of_row w5 (w.heap.size + 1) 2 _ _ HZ6.out
            have f3 := frozen_of_row w5 (w.heap.size + 1) 3 _ _ HZ6.out
            have f4 := frozen_of_row w5 (w.heap.size + 1) 4 _ _ HZ6.out
            have f5 := frozen_of_row w5 (w.heap.size + 1) 5 _ _ HZ6.out
            have f6 := frozen_of_row w5 (w.heap.size + 1) 6 _ _ HZ6.out
            have f7 := frozen_of_row w5 (w.heap.size + 1) 7 _ _ HZ6.out
            have f8 := frozen_of_row w5 (w.heap.size + 1) 8 _ _ HZ6.out
            have f9 := frozen_of_row w5 (w.heap.size + 1) 9 _ _ HZ6.out
            have f10 := frozen_of_row w5 (w.heap.size + 1) 10 _ _ HZ6.out
            have d0 := cell_of_row w5 (w.heap.size + 1) 0 _ _ _ HZ6.out
            have d1 := cell_of_row w5 (w.heap.size + 1) 1 _ _ _ HZ6.out
            have d2 := cell_of_row w5 (w.heap.size + 1) 2 _ _ _ HZ6.out
            have d3 := cell_of_row w5 (w.heap.size + 1) 3 _ _ _ HZ6.out
            have d4 := cell_of_row w5 (w.heap.size + 1) 4 _ _ _ HZ6.out
            have d5 := cell_of_row w5 (w.heap.size + 1) 5 _ _ _ HZ6.out
            have d6 := cell_of_row w5 (w.heap.size + 1) 6 _ _ _ HZ6.out
            have d7 := cell_of_row w5 (w.heap.size + 1) 7 _ _ _ HZ6.out
            have d8 := cell_of_row w5 (w.heap.size + 1) 8 _ _ _ HZ6.out
            have d9 := cell_of_row w5 (w.heap.size + 1) 9 _ _ _ HZ6.out
            have d10 := cell_of_row w5 (w.heap.size + 1) 10 _ _ _ HZ6.out
            simp at d0 d1 d2 d3 d4 d5 d6 d7 d8 d9 d10
            obtain ⟨e1, e2⟩ := st_fill w5 (w.heap.size + 1) x' (.slice b1 x'.out.length b4) (.slice b2 x'.inn.length b5) (.slice b3 x'.back.length b6) HZ6.out
            have HE1 := hide e1
            have HE2 := hide e2
            clear e1 e2
            go_wp2
            refine bodyPost_ret (res_three rfl _ (w.heap.size + 1) rfl x' _ _ _ HE1.out) rfl ?_
            obtain ⟨rfl, rfl, rfl, rfl⟩ := HX.out
            exact ⟨_, _, _, rfl, HS6.out.fin hT HBd.out (by show _ < w1.heap.size; omega) (Nat.le_succ _) HO.out HE2.out⟩
end Go.Proofs.Ytgbkhmiphaefgaa

/- What the proof stands on, part 15: the contracts of the program's calls that it reaches. -/
import Derived.Test.YtmogciopaffccaaGreatKK14
import Derived.Deep.DeepCutAuto
/- Lines: PutLine. -/
namespace Go.Proofs.YtmogciopaffccaaGreat
open Go.RowKit

set_option linter.unusedSimpArgs false in
set_option maxRecDepth 100000 in
set_option maxHeartbeats 8000000 in
theorem lputline_any {S : Type} {D : RawD S} {T : TypeId} {v : Value} {fr fw : FuncId} {rok wok : S → Prop} {At : World → (Nat → Prop) → S → Prop} (R : RawM D T v fr fw rok wok At) (hT : ∀ s, OAt (fun w O => At w O s)) {G : Nat → S → Prop} (hG : Bears D rok wok G) {w : World} {O P : Nat → Prop} {s : S} {x : SS} {o i b : Value} (t : List UInt8) (ta : Option Addr) (tc : Nat) (h : SIn w P x o i b) (hA : At w O s) (hO : ∀ j, O j → j < w.heap.size) (hP : ∀ k, P k → ¬ O k) (hg : G (2 * (t.length + 1) + 4) s) (hok : x.mode = 1 → t.length + 1 ≤ 1048576 → putOk D wok (t ++ [10]) (putF (t ++ [10])) s 0 0) (ho : x.out.length ≤ 140737488351232) (hi : x.inn.length ≤ 140737488351232) (hb : x.back.length ≤ 140737488351232) (ht : Bys w (.slice ta t.length tc) t) :
    Calls Tryz.prog 8 #[.agg #[.bool x.rd, .bool x.wt, .int .i64 x.mode, .int .i64 x.size, o, i, b, .int .i64 x.dir, .bool x.fin, .bool x.bad, .bool x.closed], .iface T v, .slice ta t.length tc] w fun e w' => ∃ o' i' b', e = .returned (.tuple #[.agg #[.bool (x.aline D s t).1.rd, .bool (x.aline D s t).1.wt, .int .i64 (x.aline D s t).1.mode, .int .i64 (x.aline D s t).1.size, o', i', b', .int .i64 (x.aline D s t).1.dir, .bool (x.aline D s t).1.fin, .bool (x.aline D s t).1.bad, .bool (x.aline D s t).1.closed], .int .i64 (x.aline D s t).2.1, .int .i64 (x.aline D s t).2.2.1]) ∧ SOut At w O (x.aline D s t).1 (x.aline D s t).2.2.2 o' i' b' w' := by
  have HI := hide h
  obtain ⟨oa, oc, rfl, -⟩ := h.so
  obtain ⟨ia, ic, rfl, -⟩ := h.si
  obtain ⟨ba, bc, rfl, -⟩ := h.sb
  have HRf := hide (fun W => putRefusal_any x oa ia ba oc ic bc T v ta t.length tc 1048575 W hi hb)
  have HO := hide hO
  have HA := hide hA
  have HL := hide (And.intro ho (And.intro hi hb))
  clear h hO hA ho hi hb
  by_cases hr : x.prefuse true t.length 1048575 ≠ 0
  · have hun : x.aline D s t = (x, 0, x.prefuse true t.length 1048575, s) := by unfold SS.aline; rw [if_pos hr]
    rw [hun]
    simp only
    generalize x.prefuse true t.length 1048575 = r at *
    clear hun hg hok ht hP
    have hb1 : (r != 0) = true := by simp [hr]
    have hb2 : (r == 0) = false := by simp [hr]
    clear hr
    go_enter Tryz.func8, Tryz.ntmps8
    go_wp2_with fail
    have HB0 := hide ((recv_below w (Obj.cells #[.bool x.rd, .bool x.wt, .int .i64 x.mode, .int .i64 x.size, .slice oa x.out.length oc, .slice ia x.inn.length ic, .slice ba x.back.length bc, .int .i64 x.dir, .bool x.fin, .bool x.bad, .bool x.closed] 30)).trans ((recv_below (w.alloc (Obj.cells #[.bool x.rd, .bool x.wt, .int .i64 x.mode, .int .i64 x.size, .slice oa x.out.length oc, .slice ia x.inn.length ic, .slice ba x.back.length bc, .int .i64 x.dir, .bool x.fin, .bool x.bad, .bool x.closed] 30)) (Obj.cells #[.bool false, .bool false, .int .i64 0, .int .i64 0, .slice none 0 0, .slice none 0 0, .slice none 0 0, .int .i64 0, .bool false, .bool false, .bool false] 30)).mono (recv_below w (Obj.cells #[.bool x.rd, .bool x.wt, .int .i64 x.mode, .int .i64 x.size, .slice oa x.out.length oc, .slice ia x.inn.length ic, .slice ba x.back.length bc, .int .i64 x.dir, .bool x.fin, .bool x.bad, .bool x.closed] 30)).size))
    have HS0 := hide ((StAt.new w x (.slice oa x.out.length oc) (.slice ia x.inn.length ic) (.slice ba x.back.length bc)).below (recv_below _ (Obj.cells #[.bool false, .bool false, .int .i64 0, .int .i64 0, .slice none 0 0, .slice none 0 0, .slice none 0 0, .int .i64 0, .bool false, .bool false, .bool false] 30)))
    have HZ0 : Hid (((w.alloc (Obj.cells #[.bool x.rd, .bool x.wt, .int .i64 x.mode, .int .i64 x.size, .slice oa x.out.length oc, .slice ia x.inn.length ic, .slice ba x.back.length bc, .int .i64 x.dir, .bool x.fin, .bool x.bad, .bool x.closed] 30)).alloc (Obj.cells #[.bool false, .bool false, .int .i64 0, .int .i64 0, .slice none 0 0, .slice none 0 0, .slice none 0 0, .int .i64 0, .bool false, .bool false, .bool false] 30)).heap[w.heap.size + 1]? = some (Obj.cells #[.bool false, .bool false, .int .i64 0, .int .i64 0, .slice none 0 0, .slice none 0 0, .slice none 0 0, .int .i64 0, .bool false, .bool false, .bool false] 30)) := hide (by have := heap_alloc_new (w.alloc (Obj.cells #[.bool x.rd, .bool x.wt, .int .i64 x.mode, .int .i64 x.size, .slice oa x.out.length oc, .slice ia x.inn.length ic, .slice ba x.back.length bc, .int .i64 x.dir, .bool x.fin, .bool x.bad, .bool x.closed] 30)) (Obj.cells #[.bool false, .bool false, .int .i64 0, .int .i64 0, .slice none 0 0, .slice none 0 0, .slice none 0 0, .int .i64 0, .bool false, .bool false, .bool false] 30); rw [show (w.alloc (Obj.cells #[.bool x.rd, .bool x.wt, .int .i64 x.mode, .int .i64 x.size, .slice oa x.out.length oc, .slice ia x.inn.length ic, .slice ba x.back.length bc, .int .i64 x.dir, .bool x.fin, .bool x.bad, .bool x.closed] 30)).heap.size = w.heap.size + 1 from Array.size_push ..] at this; exact this)
    generalize (w.alloc (Obj.cells #[.bool x.rd, .bool x.wt, .int .i64 x.mode, .int .i64 x.size, .slice oa x.out.length oc, .slice ia x.inn.length ic, .slice ba x.back.length bc, .int .i64 x.dir, .bool x.fin, .bool x.bad, .bool x.closed] 30)).alloc (Obj.cells #[.bool false, .bool false, .int .i64 0, .int .i64 0, .slice none 0 0, .slice none 0 0, .slice none 0 0, .int .i64 0, .bool false, .bool false, .bool false] 30) = w0 at *
    have hz0 : w.heap.size + 1 < w0.heap.size := (Array.getElem?_eq_some_iff.1 HZ0.out).1
    refine (HRf.out w0).mono ?_
    rintro _ w1 ⟨rfl, hB1⟩
    have HB1 := hide (HB0.out.trans (hB1.mono HB0.out.size))
    have HS1 := hide (HS0.out.below hB1)
    have HZ1 : Hid (w1.heap[w.heap.size + 1]? = some (Obj.cells #[.bool false, .bool false, .int .i64 0, .int .i64 0, .slice none 0 0, .slice none 0 0, .slice none 0 0, .int .i64 0, .bool false, .bool false, .bool false] 30)) := hide ((hB1.block _ hz0).trans HZ0.out)
    have hz1 : w.heap.size + 1 < w1.heap.size := (Array.getElem?_eq_some_iff.1 HZ1.out).1
    clear HB0 HS0 HZ0 hz0 hB1 HRf
    have HC := hide (lcopied_any x _ _ _ P w1 (HI.out.below HB1.out) HL.out.1 HL.out.2.1 HL.out.2.2)
    obtain ⟨c0, c1, c2, c3, c4, c5, c6, c7, c8, c9, c10⟩ := HS1.out.cs
    go_wp2_with fail
    refine HC.out.mono ?_
    rintro _ w3 ⟨o3, i3, b3, rfl, h1, h2, h3, hB3, -⟩
    obtain ⟨oa3, oc3, rfl⟩ := owns_slice h1
    obtain ⟨ia3, ic3, rfl⟩ := owns_slice h2
    obtain ⟨ba3, bc3, rfl⟩ := owns_slice h3
    have HZ3 : Hid (w3.heap[w.heap.size + 1]? = some (Obj.cells #[.bool false, .bool false, .int .i64 0, .int .i64 0, .slice none 0 0, .slice none 0 0, .slice none 0 0, .int .i64 0, .bool false, .bool false, .bool false] 30)) := hide ((hB3.block _ hz1).trans HZ1.out)
    have H1 := hide h1
    have H2 := hide h2
    have H3 := hide h3
    have HB3 := hide hB3
    clear h1 h2 h3 hB3 HC c0 c1 c2 c3 c4 c5 c6 c7 c8 c9 c10
    have f0 := frozen_of_row w3 (w.heap.size + 1) 0 _ _ HZ3.out
    have f1 := frozen_of_row w3 (w.heap.size + 1) 1 _ _ HZ3.out
    have f2 := frozen_of_row w3 (w.heap.size + 1) 2 _ _ HZ3.out
    have f3 := frozen_of_row w3 (w.heap.size + 1) 3 _ _ HZ3.out
    have f4 := frozen_of_row w3 (w.heap.size + 1) 4 _ _ HZ3.out
    have f5 := frozen_of_row w3 (w.heap.size + 1) 5 _ _ HZ3.out
    have f6 := frozen_of_row w3 (w.heap.size + 1) 6 _ _ HZ3.out
    have f7 := frozen_of_row w3 (w.heap.size + 1) 7 _ _ HZ3.out
    have f8 := frozen_of_row w3 (w.heap.size + 1) 8 _ _ HZ3.out
    have f9 := frozen_of_row w3 (w.heap.size + 1) 9 _ _ HZ3.out
    have f10 := frozen_of_row w3 (w.heap.size + 1) 10 _ _ HZ3.out
    have d0 := cell_of_row w3 (w.heap.size + 1) 0 _ _ _ HZ3.out
    have d1 := cell_of_row w3 (w.heap.size + 1) 1 _ _ _ HZ3.out
    have d2 := cell_of_row w3 (w.heap.size + 1) 2 _ _ _ HZ3.out
    have d3 := cell_of_row w3 (w.heap.size + 1) 3 _ _ _ HZ3.out
    have d4 := cell_of_row w3 (w.heap.size + 1) 4 _ _ _ HZ3.out
    have d5 := cell_of_row w3 (w.heap.size + 1) 5 _ _ _ HZ3.out
    have d6 := cell_of_row w3 (w.heap.size + 1) 6 _ _ _ HZ3.out
    have d7 := cell_of_row w3 (w.heap.size + 1) 7 _ _ _ HZ3.out
    have d8 := cell_of_row w3 (w.heap.size + 1) 8 _ _ _ HZ3.out
    have d9 := cell_of_row w3 (w.heap.size + 1) 9 _ _ _ HZ3.out
    have d10 := cell_of_row w3 (w.heap.size + 1) 10 _ _ _ HZ3.out
    simp at d0 d1 d2 d3 d4 d5 d6 d7 d8 d9 d10
    go_wp2
    obtain ⟨e1, e2⟩ := st_fill w3 (w.heap.size + 1) x (.slice oa3 x.out.length oc3) (.slice ia3 x.inn.length ic3) (.slice ba3 x.back.length bc3) HZ3.out
    refine bodyPost_ret (res_three rfl _ (w.heap.size + 1) rfl x _ _ _ e1) rfl ?_
    refine ⟨_, _, _, rfl, ?_⟩
    have hz2 := HB3.out.size
    have hz3 := HB1.out.size
    have g0 : SOut At w1 O x s (.slice oa3 x.out.length oc3) (.slice ia3 x.inn.length ic3) (.slice ba3 x.back.length bc3) w3 :=
      ⟨O, ⟨Sl.own H1.out, Sl.own H2.out, Sl.own H3.out, fun k e => ⟨(H1.out.lt k e).1, fun e2 => by have := HO.out k e2; have := (H1.out.lt k e).1; omega, (H1.out.lt k e).2⟩, fun k e => ⟨(H2.out.lt k e).1, fun e2 => by have := HO.out k e2; have := (H2.out.lt k e).1; omega, (H2.out.lt k e).2⟩, fun k e => ⟨(H3.out.lt k e).1, fun e2 => by have := HO.out k e2; have := (H3.out.lt k e).1; omega, (H3.out.lt k e).2⟩⟩, (hT s).keep HA.out (fun j e hj => (HB3.out.block j (by omega)).trans (HB1.out.block j hj)) (by omega), fun j e => by have := HO.out j e; omega, fun _ e => .inl e, Turned.of_below HB3.out⟩
    exact g0.fin hT HB1.out hz1 (Nat.le_succ _) HO.out e2
  · have hr0 : x.prefuse true t.length 1048575 = 0 := by simpa using hr
    have ht2 : t.length + 1 ≤ 1048576 := by
      unfold SS.prefuse at hr0
      by_cases h0 : x.refuse true = 0
      · rw [if_neg (by simp [h0])] at hr0
        by_cases h1 : (1048575 : Int) < (t.length : Int)
        · rw [if_pos h1] at hr0; omega
        · omega
      · rw [if_pos h0] at hr0; exact absurd hr0 h0
    obtain ⟨U, hU⟩ : ∃ U, U = t ++ [10] := ⟨_, rfl⟩
    have hUl : t.length + [(10 : UInt8)].length = U.length := by rw [hU, List.length_append]
    have hun : x.aline D s t = x.aput D s U := by unfold SS.aline; rw [if_neg hr, ← hU]
    rw [hun]
    rw [hr0] at HRf
    rw [← hU] at hok
    have HPu := hide (fun (W : World) (va : Option Addr) (vc : Nat) (hW : Below w.heap.size w W) (q : Nat) (hq : w.heap.size ≤ q) (ho : W.ownsRow q 5 1 (.slice va U.length vc) U.length (U.map bv)) => lput_any R hT hG U va vc (HI.out.below hW) ((hT s).keep HA.out (fun j _ hj => hW.block j hj) hW.size) (fun j e => Nat.lt_of_lt_of_le (HO.out j e) hW.size) hP (by rw [← hUl]; exact hg) (fun e _ => hok e ht2) HL.out.1 HL.out.2.1 HL.out.2.2 (Bys.of_owns ho) (owns_cap ho) (fun _ k e e2 => by have := (ho.lt k e).1; have := HO.out k e2; omega))
    generalize x.aput D s U = q at *
    obtain ⟨x', n, e', s'⟩ := q
    obtain ⟨Q, hQ⟩ : ∃ Q, Q = (x', n, e', s') := ⟨_, rfl⟩
    rw [← hQ]
    obtain ⟨qx, qn, qe, qs⟩ := Q
    simp only at HPu ⊢
    have HX : Hid (qx = x' ∧ qn = n ∧ qe = e' ∧ qs = s') := hide (by simpa using hQ)
    have HBy := hide ht
    have HU := hide (And.intro hU (And.intro hUl ht2))
    have HPu0 := HPu
    clear hr hr0 hun hg hok ht hP hQ hU hUl ht2 HPu
    go_enter Tryz.func8, Tryz.ntmps8
    go_wp2_with fail
    have HB0 := hide ((recv_below w (Obj.cells #[.bool x.rd, .bool x.wt, .int .i64 x.mode, .int .i64 x.size, .slice oa x.out.length oc, .slice ia x.inn.length ic, .slice ba x.back.length bc, .int .i64 x.dir, .bool x.fin, .bool x.bad, .bool x.closed] 30)).trans ((recv_below (w.alloc (Obj.cells #[.bool x.rd, .bool x.wt, .int .i64 x.mode, .int .i64 x.size, .slice oa x.out.length oc, .slice ia x.inn.length ic, .slice ba x.back.length bc, .int .i64 x.dir, .bool x.fin, .bool x.bad, .bool x.closed] 30)) (Obj.cells #[.bool false, .bool false, .int .i64 0, .int .i64 0, .slice none 0 0, .slice none 0 0, .slice none 0 0, .int .i64 0, .bool false, .bool false, .bool false] 30)).mono (recv_below w (Obj.cells #[.bool x.rd, .bool x.wt, .int .i64 x.mode, .int .i64 x.size, .slice oa x.out.length oc, .slice ia x.inn.length ic, .slice ba x.back.length bc, .int .i64 x.dir, .bool x.fin, .bool x.bad, .bool x.closed] 30)).size))
    have HS0 := hide ((StAt.new w x (.slice oa x.out.length oc) (.slice ia x.inn.length ic) (.slice ba x.back.length bc)).below (recv_below _ (Obj.cells #[.bool false, .bool false, .int .i64 0, .int .i64 0, .slice none 0 0, .slice none 0 0, .slice none 0 0, .int .i64 0, .bool false, .bool false, .bool false] 30)))
    have HZ0 : Hid (((w.alloc (Obj.cells #[.bool x.rd, .bool x.wt, .int .i64 x.mode, .int .i64 x.size, .slice oa x.out.length oc, .slice ia x.inn.length ic, .slice ba x.back.length bc, .int .i64 x.dir, .bool x.fin, .bool x.bad, .bool x.closed] 30)).alloc (Obj.cells #[.bool false, .bool false, .int .i64 0, .int .i64 0, .slice none 0 0, .slice none 0 0, .slice none 0 0, .int .i64 0, .bool false, .bool false, .bool false] 30)).heap[w.heap.size + 1]? = some (Obj.cells #[.bool false, .bool false, .int .i64 0, .int .i64 0, .slice none 0 0, .slice none 0 0, .slice none 0 0, .int .i64 0, .bool false, .bool false, .bool false] 30)) := hide (by have := heap_alloc_new (w.alloc (Obj.cells #[.bool x.rd, .bool x.wt, .int .i64 x.mode, .int .i64 x.size, .slice oa x.out.length oc, .slice ia x.inn.length ic, .slice ba x.back.length bc, .int .i64 x.dir, .bool x.fin, .bool x.bad, .bool x.closed] 30)) (Obj.cells #[.bool false, .bool false, .int .i64 0, .int .i64 0, .slice none 0 0, .slice none 0 0, .slice none 0 0, .int .i64 0, .bool false, .bool false, .bool false] 30); rw [show (w.alloc (Obj.cells #[.bool x.rd, .bool x.wt, .int .i64 x.mode, .int .i64 x.size, .slice oa x.out.length oc, .slice ia x.inn.length ic, .slice ba x.back.length bc, .int .i64 x.dir, .bool x.fin, .bool x.bad, .bool x.closed] 30)).heap.size = w.heap.size + 1 from Array.size_push ..] at this; exact this)
    generalize (w.alloc (Obj.cells #[.bool x.rd, .bool x.wt, .int .i64 x.mode, .int .i64 x.size, .slice oa x.out.length oc, .slice ia x.inn.length ic, .slice ba x.back.length bc, .int .i64 x.dir, .bool x.fin, .bool x.bad, .bool x.closed] 30)).alloc (Obj.cells #[.bool false, .bool false, .int .i64 0, .int .i64 0, .slice none 0 0, .slice none 0 0, .slice none 0 0, .int .i64 0, .bool false, .bool false, .bool false] 30) = w0 at *
    have hz0 : w.heap.size + 1 < w0.heap.size := (Array.getElem?_eq_some_iff.1 HZ0.out).1
    refine (HRf.out w0).mono ?_
    rintro _ w1 ⟨rfl, hB1⟩
    have HB1 := hide (HB0.out.trans (hB1.mono HB0.out.size))
    have HS1 := hide (HS0.out.below hB1)
    have HZ1 : Hid (w1.heap[w.heap.size + 1]? = some (Obj.cells #[.bool false, .bool false, .int .i64 0, .int .i64 0, .slice none 0 0, .slice none 0 0, .slice none 0 0, .int .i64 0, .bool false, .bool false, .bool false] 30)) := hide ((hB1.block _ hz0).trans HZ0.out)
    have hz1 : w.heap.size + 1 < w1.heap.size := (Array.getElem?_eq_some_iff.1 HZ1.out).1
    clear HB0 HS0 HZ0 hz0 hB1 HRf
    have HSn : Hid (∀ W, Below w1.heap.size w1 W → (fun W => StAt W w.heap.size x (.slice oa x.out.length oc) (.slice ia x.inn.length ic) (.slice ba x.back.length bc)) W) := hide (fun W hW => HS1.out.below hW)
    have HPu := hide (fun (w3 : World) (va : Option Addr) (vc : Nat) (hW : Below w1.heap.size w1 w3) (ho : w3.ownsRow ((w1.drew.alloc (Obj.cells #[.int .u8 10] 5)).alloc (Obj.cells #[.slice ta t.length tc, .slice (some ⟨w1.heap.size, 0, none⟩) 1 1] 28)).heap.size 5 1 (.slice va U.length vc) U.length (U.map bv)) => HPu0.out w3 va vc (HB1.out.trans (hW.mono HB1.out.size)) _ (by have := HB1.out.size; have : ((w1.drew.alloc (Obj.cells #[.int .u8 10] 5)).alloc (Obj.cells #[.slice ta t.length tc, .slice (some ⟨w1.heap.size, 0, none⟩) 1 1] 28)).heap.size = w1.heap.size + 1 + 1 := (Array.size_push ..).trans (by rw [show (w1.drew.alloc (Obj.cells #[.int .u8 10] 5)).heap.size = w1.heap.size + 1 from Array.size_push ..]); omega) ho)
    have HBb : Hid (Below w1.heap.size w1 ((w1.drew.alloc (Obj.cells #[.int .u8 10] 5)).alloc (Obj.cells #[.slice ta t.length tc, .slice (some ⟨w1.heap.size, 0, none⟩) 1 1] 28))) := hide (((Below.refl _ w1).drew.trans (recv_below w1.drew (Obj.cells #[.int .u8 10] 5))).trans ((recv_below (w1.drew.alloc (Obj.cells #[.int .u8 10] 5)) (Obj.cells #[.slice ta t.length tc, .slice (some ⟨w1.heap.size, 0, none⟩) 1 1] 28)).mono (recv_below w1.drew (Obj.cells #[.int .u8 10] 5)).size))
    have hza : (w1.drew.alloc (Obj.cells #[.int .u8 10] 5)).heap.size = w1.heap.size + 1 := Array.size_push ..
    have hcb := heap_alloc_new (w1.drew.alloc (Obj.cells #[.int .u8 10] 5)) (Obj.cells #[.slice ta t.length tc, .slice (some ⟨w1.heap.size, 0, none⟩) 1 1] 28)
    rw [hza] at hcb
    have hca : ((w1.drew.alloc (Obj.cells #[.int .u8 10] 5)).alloc (Obj.cells #[.slice ta t.length tc, .slice (some ⟨w1.heap.size, 0, none⟩) 1 1] 28)).cell? ⟨w1.heap.size, 0, none⟩ = some (.int .u8 ((10 : UInt8).toNat : Int)) := ((recv_below (w1.drew.alloc (Obj.cells #[.int .u8 10] 5)) (Obj.cells #[.slice ta t.length tc, .slice (some ⟨w1.heap.size, 0, none⟩) 1 1] 28)).cell (by show w1.heap.size < (w1.drew.alloc (Obj.cells #[.int .u8 10] 5)).heap.size; omega)).trans (cell_one_new w1.drew _ _ 0 _ rfl)
    have hco := lconcat_by ta (some ⟨w1.heap.size, 0, none⟩) tc 1 t [10] (w1.heap.size + 1) ((w1.drew.alloc (Obj.cells #[.int .u8 10] 5)).alloc (Obj.cells #[.slice ta t.length tc, .slice (some ⟨w1.heap.size, 0, none⟩) 1 1] 28)) (cell_of_row _ _ 0 _ _ _ hcb) (cell_of_row _ _ 1 _ _ _ hcb) (HBy.out.below (HB1.out.trans (HBb.out.mono HB1.out.size))) (one_bys hca) (by have := HU.out.2.2; simp only [List.length_cons, List.length_nil]; omega)
    rw [HU.out.2.1, ← HU.out.1] at hco
    have HCo := hide hco
    clear hco hcb hca hza
    have hb1 : ((0 : Int) != 0) = false := rfl
    obtain ⟨c0, c1, c2, c3, c4, c5, c6, c7, c8, c9, c10⟩ := HS1.out.cs
    go_upto_region 4 with fail
    clear c0 c1 c2 c3 c4 c5 c6 c7 c8 c9 c10
    refine wp_region_noPanic ?_
    refine wp_region_held_drew (S := fun W => StAt W w.heap.size x (.slice oa x.out.length oc) (.slice ia x.inn.length ic) (.slice ba x.back.length bc)) (by kernel_rfl) (HSn.out _ (Below.refl _ _).drew) (fun hHeld => ?_)
    refine wpAnyH_take (i := 0) (oi := ?_) (v := ?_) ?_ (by kernel_rfl) (by kernel_rfl) (by kernel_rfl) (fun _ _ _ h => (h : False).elim) (Or.inl ⟨?_, ?_⟩) hHeld ?_
    rotate_left 2
    · (simp only [List.getElem?_toArray, List.getElem?_cons_zero]; rfl)
    · rfl
    · (intro W hSw; obtain ⟨m0, m1, m2, m3, m4, m5, m6, m7, m8, m9, m10⟩ := hSw.cs; go_simp <;> with_reducible rfl)
    try simp only [Act.put, List.setIfInBounds_toArray, List.set_cons_zero, List.set_cons_succ]
    refine wpAnyH_take (i := 1) (oi := ?_) (v := ?_) ?_ (by kernel_rfl) (by kernel_rfl) (by kernel_rfl) (fun _ _ _ h => (h : False).elim) (Or.inl ⟨?_, ?_⟩) hHeld ?_
    rotate_left 2
    · (simp only [List.getElem?_toArray, List.getElem?_cons_zero, List.getElem?_cons_succ]; rfl)
    · rfl
    · (intro W hSw; obtain ⟨m0, m1, m2, m3, m4, m5, m6, m7, m8, m9, m10⟩ := hSw.cs; go_simp <;> with_reducible rfl)
    try simp only [Act.put, List.setIfInBounds_toArray, List.set_cons_zero, List.set_cons_succ]
    refine wpAnyH_take (i := 2) (oi := ?_) (v := ?_) ?_ (by kernel_rfl) (by kernel_rfl) (by kernel_rfl) (fun _ _ _ h => (h : False).elim) (Or.inl ⟨?_, ?_⟩) hHeld ?_
    rotate_left 2
    · (simp only [List.getElem?_toArray, List.getElem?_cons_zero, List.getElem?_cons_succ]; rfl)
    · rfl
    · (intro W hSw; obtain ⟨m0, m1, m2, m3, m4, m5, m6, m7, m8, m9, m10⟩ := hSw.cs; go_simp <;> with_reducible rfl)
    try simp only [Act.put, List.setIfInBounds_toArray, List.set_cons_zero, List.set_cons_succ]
    refine wpAnyH_ready (rs := [3]) (by kernel_rfl) (by simp) ?_
    refine AllReadyH.cons (o := ?_) ?_ (fun K' hK => ?_) AllReadyH.nil
    rotate_left 1
    · (simp only [List.getElem?_toArray, List.getElem?_cons_zero, List.getElem?_cons_succ]; rfl)
    go_simp
    refine hK.out _ _ (HSn.out _ ((Below.refl _ w1).drew.trans (recv_below w1.drew _))) (fun hHeld2 => ?_)
    clear hK K' hHeld
    have hHeld := hHeld2
    clear hHeld2
    try simp only [Act.put, List.setIfInBounds_toArray, List.set_cons_zero, List.set_cons_succ]
    refine wpAnyH_ready (rs := [4]) (by kernel_rfl) (by simp) ?_
    refine AllReadyH.cons (o := ?_) ?_ (fun K' hK => ?_) AllReadyH.nil
    rotate_left 1
    · (simp only [List.getElem?_toArray, List.getElem?_cons_zero, List.getElem?_cons_succ]; rfl)
    go_simp
    refine hK.out _ _ (HSn.out _ HBb.out) (fun hHeld2 => ?_)
    clear hK K' hHeld
    have hHeld := hHeld2
    clear hHeld2
    try simp only [Act.put, List.setIfInBounds_toArray, List.set_cons_zero, List.set_cons_succ]
    refine wpAnyH_ready (rs := [5]) (by kernel_rfl) (by simp) ?_
    refine AllReadyH.cons (o := ?_) ?_ (fun K' hK => ?_) AllReadyH.nil
    rotate_left 1
    · (simp only [List.getElem?_toArray, List.getElem?_cons_zero, List.getElem?_cons_succ]; rfl)
    go_simp
    go_at_call 21
    refine HCo.out.mono ?_
    rintro _ w3 ⟨vv, rfl, hv, hB3⟩
    obtain ⟨va, vc, rfl⟩ := owns_slice hv
    have HV3 := hide hv
    have HB3 := hide (HBb.out.trans (hB3.mono HBb.out.size))
    clear hv hB3
    refine hK.out _ _ (HSn.out _ HB3.out) (fun hHeld2 => ?_)
    clear hK K' hHeld
    have hHeld := hHeld2
    clear hHeld2
    try simp only [Act.put, List.setIfInBounds_toArray, List.set_cons_zero, List.set_cons_succ]
    refine wpAnyH_ready (rs := [6]) (by kernel_rfl) (by simp) ?_
    refine AllReadyH.cons (o := ?_) ?_ (fun K' hK => ?_) AllReadyH.nil
    rotate_left 1
    · (simp only [List.getElem?_toArray, List.getElem?_cons_zero, List.getElem?_cons_succ]; rfl)
    have hp := HPu.out w3 va vc HB3.out HV3.out
    go_simp
    go_at_call 20
    refine hp.mono ?_
    rintro _ w4 ⟨o', i', b', rfl, hS⟩
    obtain ⟨b1, b4, rfl, -⟩ := hS.choose_spec.1.so
    obtain ⟨b2, b5, rfl, -⟩ := hS.choose_spec.1.si
    obtain ⟨b3, b6, rfl, -⟩ := hS.choose_spec.1.sb
    have HS4 := hide hS
    have hT4 : Turned O w3 w4 := (by obtain ⟨_, _, _, _, _, t⟩ := hS; exact t)
    have hS9 := (hT4.block w.heap.size (by have := HB3.out.size; omega) (fun e => by have := HO.out _ e; omega)).trans (HSn.out _ HB3.out)
    have HZ4 : Hid (w4.heap[w.heap.size + 1]? = some (Obj.cells #[.bool false, .bool false, .int .i64 0, .int .i64 0, .slice none 0 0, .slice none 0 0, .slice none 0 0, .int .i64 0, .bool false, .bool false, .bool false] 30)) := hide ((hT4.block _ (by have := HB3.out.size; omega) (fun e => by have := HO.out _ e; omega)).trans ((HB3.out.block _ hz1).trans HZ1.out))
    have HS9 := hide hS9
    clear hp hS hT4 hS9
    refine hK.out _ _ (HS9.out) (fun hHeld2 => ?_)
    clear hK K' hHeld
    have hHeld := hHeld2
    clear hHeld2
    try simp only [Act.put, List.setIfInBounds_toArray, List.set_cons_zero, List.set_cons_succ]
    have f0 := frozen_of_row w4 (w.heap.size + 1) 0 _ _ HZ4.out
    have f1 := frozen_of_row w4 (w.heap.size + 1) 1 _ _ HZ4.out
    have f2 := frozen_of_row w4 (w.heap.size + 1) 2 _ _ HZ4.out
    have f3 := frozen_of_row w4 (w.heap.size + 1) 3 _ _ HZ4.out
    have f4 := frozen_of_row w4 (w.heap.size + 1) 4 _ _ HZ4.out
    have f5 := frozen_of_row w4 (w.heap.size + 1) 5 _ _ HZ4.out
    have f6 := frozen_of_row w4 (w.heap.size + 1) 6 _ _ HZ4.out
    have f7 := frozen_of_row w4 (w.heap.size + 1) 7 _ _ HZ4.out
    have f8 := frozen_of_row w4 (w.heap.size + 1) 8 _ _ HZ4.out
    have f9 := frozen_of_row w4 (w.heap.size + 1) 9 _ _ HZ4.out
    have f10 := frozen_of_row w4 (w.heap.size + 1) 10 _ _ HZ4.out
    have d0 := cell_of_row w4 (w.heap.size + 1) 0 _ _ _ HZ4.out
    have d1 := cell_of_row w4 (w.heap.size + 1) 1 _ _ _ HZ4.out
    have d2 := cell_of_row w4 (w.heap.size + 1) 2 _ _ _ HZ4.out
    have d3 := cell_of_row w4 (w.heap.size + 1) 3 _ _ _ HZ4.out
    have d4 := cell_of_row w4 (w.heap.size + 1) 4 _ _ _ HZ4.out
    have d5 := cell_of_row w4 (w.heap.size + 1) 5 _ _ _ HZ4.out
    have d6 := cell_of_row w4 (w.heap.size + 1) 6 _ _ _ HZ4.out
    have d7 := cell_of_row w4 (w.heap.size + 1) 7 _ _ _ HZ4.out
    have d8 := cell_of_row w4 (w.heap.size + 1) 8 _ _ _ HZ4.out
    have d9 := cell_of_row w4 (w.heap.size + 1) 9 _ _ _ HZ4.out
    have d10 := cell_of_row w4 (w.heap.size + 1) 10 _ _ _ HZ4.out
    simp at d0 d1 d2 d3 d4 d5 d6 d7 d8 d9 d10
    obtain ⟨e1, e2⟩ := st_fill w4 (w.heap.size + 1) x' (.slice b1 x'.out.length b4) (.slice b2 x'.inn.length b5) (.slice b3 x'.back.length b6) HZ4.out
    have HE1 := hide e1
    have HE2 := hide e2
    have HS10 : Hid ((fun W => StAt W w.heap.size x (.slice oa x.out.length oc) (.slice ia x.inn.length ic) (.slice ba x.back.length bc)) (filled w4 (w.heap.size + 1) x' (.slice b1 x'.out.length b4) (.slice b2 x'.inn.length b5) (.slice b3 x'.back.length b6))) := hide ((e2.block w.heap.size (by have h9 : w.heap.size < w4.heap.size := (Array.getElem?_eq_some_iff.1 HS9.out).1; omega) (by show ¬ w.heap.size = w.heap.size + 1; omega)).trans HS9.out)
    unfold filled at HS10
    clear e1 e2
    refine wpAnyH_take (i := 7) (oi := ?_) (v := ?_) ?_ (by kernel_rfl) (by kernel_rfl) (by kernel_rfl) (fun _ _ _ h => (h : False).elim) (Or.inl ⟨?_, ?_⟩) hHeld ?_
    rotate_left 2
    · (simp only [List.getElem?_toArray, List.getElem?_cons_zero, List.getElem?_cons_succ]; rfl)
    · rfl
    · (intro W hSw; obtain ⟨m0, m1, m2, m3, m4, m5, m6, m7, m8, m9, m10⟩ := hSw.cs; go_simp <;> with_reducible rfl)
    try simp only [Act.put, List.setIfInBounds_toArray, List.set_cons_zero, List.set_cons_succ]
    refine wpAnyH_take (i := 8) (oi := ?_) (v := ?_) ?_ (by kernel_rfl) (by kernel_rfl) (by kernel_rfl) (fun _ _ _ h => (h : False).elim) (Or.inl ⟨?_, ?_⟩) hHeld ?_
    rotate_left 2
    · (simp only [List.getElem?_toArray, List.getElem?_cons_zero, List.getElem?_cons_succ]; rfl)
    · rfl
    · (intro W hSw; obtain ⟨m0, m1, m2, m3, m4, m5, m6, m7, m8, m9, m10⟩ := hSw.cs; go_simp <;> with_reducible rfl)
    try simp only [Act.put, List.setIfInBounds_toArray, List.set_cons_zero, List.set_cons_succ]
    refine wpAnyH_take (i := 9) (oi := ?_) (v := ?_) ?_ (by kernel_rfl) (by kernel_rfl) (by kernel_rfl) (fun _ _ _ h => (h : False).elim) (Or.inl ⟨?_, ?_⟩) hHeld ?_
    rotate_left 2
    · (simp only [List.getElem?_toArray, List.getElem?_cons_zero, List.getElem?_cons_succ]; rfl)
    · rfl
    · (intro W hSw; obtain ⟨m0, m1, m2, m3, m4, m5, m6, m7, m8, m9, m10⟩ := hSw.cs; go_simp <;> with_reducible rfl)
    try simp only [Act.put, List.setIfInBounds_toArray, List.set_cons_zero, List.set_cons_succ]
    refine wpAnyH_ready (rs := [10]) (by kernel_rfl) (by simp) ?_
    refine AllReadyH.cons (o := ?_) ?_ (fun K' hK => ?_) AllReadyH.nil
    rotate_left 1
    · (simp only [List.getElem?_toArray, List.getElem?_cons_zero, List.getElem?_cons_succ]; rfl)
    go_simp
    refine hK.out _ _ (HS10.out) (fun hHeld2 => ?_)
    clear hK K' hHeld
    have hHeld := hHeld2
    clear hHeld2
    try simp only [Act.put, List.setIfInBounds_toArray, List.set_cons_zero, List.set_cons_succ]
    refine wpAnyH_take (i := 11) (oi := ?_) (v := ?_) ?_ (by kernel_rfl) (by kernel_rfl) (by kernel_rfl) (fun _ _ _ h => (h : False).elim) (Or.inl ⟨?_, ?_⟩) hHeld ?_
    rotate_left 2
    · (simp only [List.getElem?_toArray, List.getElem?_cons_zero, List.getElem?_cons_succ]; rfl)
    · rfl
    · (intro W hSw; obtain ⟨m0, m1, m2, m3, m4, m5, m6, m7, m8, m9, m10⟩ := hSw.cs; go_simp <;> with_reducible rfl)
    try simp only [Act.put, List.setIfInBounds_toArray, List.set_cons_zero, List.set_cons_succ]
    refine wpAnyH_take (i := 12) (oi := ?_) (v := ?_) ?_ (by kernel_rfl) (by kernel_rfl) (by kernel_rfl) (fun _ _ _ h => (h : False).elim) (Or.inl ⟨?_, ?_⟩) hHeld ?_
    rotate_left 2
    · (simp only [List.getElem?_toArray, List.getElem?_cons_zero, List.getElem?_cons_succ]; rfl)
    · rfl
    · (intro W hSw; obtain ⟨m0, m1, m2, m3, m4, m5, m6, m7, m8, m9, m10⟩ := hSw.cs; go_simp <;> with_reducible rfl)
    try simp only [Act.put, List.setIfInBounds_toArray, List.set_cons_zero, List.set_cons_succ]
    refine wpAnyH_done (by kernel_rfl) ?_ _
    refine NoPanic.normal ?_
    clear hHeld
    clear f0 f1 f2 f3 f4 f5 f6 f7 f8 f9 f10 d0 d1 d2 d3 d4 d5 d6 d7 d8 d9 d10
    go_wp2
    refine bodyPost_ret (res_three rfl _ (w.heap.size + 1) rfl x' _ _ _ HE1.out) rfl ?_
    obtain ⟨rfl, rfl, rfl, rfl⟩ := HX.out
    exact ⟨_, _, _, rfl, HS4.out.fin hT (HB1.out.trans (HB3.out.mono HB1.out.size)) (by have := HB3.out.size; omega) (Nat.le_succ _) HO.out HE2.out⟩
end Go.Proofs.YtmogciopaffccaaGreat

/- Two variables that hold states, each beside a Raw of its own; all of it apart. -/
namespace Go.Proofs.YtmogciopaffccaaGreat
open Go.RowKit

def Us (g : Nat) (O : Nat → Prop) (o i b : Value) (k : Nat) : Prop := k = g ∨ O k ∨ o.ownBlock = some k ∨ i.ownBlock = some k ∨ b.ownBlock = some k
theorem LV.us_lt {S : Type} {At : World → (Nat → Prop) → S → Prop} {w : World} {B g : Nat} {O : Nat → Prop} {x : SS} {s : S} {o i b : Value} (h : LV At w B g O x s o i b) {k : Nat} (e : Us g O o i b k) : k < w.heap.size := by
  rcases e with e | e | e | e | e
  · rw [e]; exact h.st.lt
  · exact h.ol k e
  · exact (h.ls.po k e).2.2.2
  · exact (h.ls.pi k e).2.2.2
  · exact (h.ls.pb k e).2.2.2
theorem LV.turned {S : Type} {At : World → (Nat → Prop) → S → Prop} (hT : ∀ s, OAt (fun w O => At w O s)) {w w' : World} {B g : Nat} {O Q : Nat → Prop} {x : SS} {s : S} {o i b : Value} (h : LV At w B g O x s o i b) (ht : Turned Q w w') (hq : ∀ k, Us g O o i b k → ¬ Q k) : LV At w' B g O x s o i b := by
  have hz := ht.size
  exact ⟨(ht.block g h.st.lt (hq g (.inl rfl))).trans h.st, ⟨h.ls.so.turned ht (fun k e _ => hq k (.inr (.inr (.inl e)))), h.ls.si.turned ht (fun k e _ => hq k (.inr (.inr (.inr (.inl e))))), h.ls.sb.turned ht (fun k e _ => hq k (.inr (.inr (.inr (.inr e))))), fun k e => by have := h.ls.po k e; exact ⟨this.1, this.2.1, this.2.2.1, by omega⟩, fun k e => by have := h.ls.pi k e; exact ⟨this.1, this.2.1, this.2.2.1, by omega⟩, fun k e => by have := h.ls.pb k e; exact ⟨this.1, this.2.1, this.2.2.1, by omega⟩⟩,
    (hT s).keep h.raw (fun j e hj => ht.block j hj (hq j (.inr (.inl e)))) hz, fun j e => Nat.lt_of_lt_of_le (h.ol j e) hz, h.ob, h.og, h.gB⟩
end Go.Proofs.YtmogciopaffccaaGreat

/- Position: Tell, Seek and Rewind, as values, over any Raw that is one. -/
namespace Go.Proofs.YtmogciopaffccaaGreat
open Go.RowKit

end Go.Proofs.YtmogciopaffccaaGreat

/- Position over memory that grows: values. -/
namespace Go.Proofs.YtmogciopaffccaaGreat
open Go.RowKit

end Go.Proofs.YtmogciopaffccaaGreat

/- PositionCounts: values; a variable that stays while its Raw goes on. -/
namespace Go.Proofs.YtmogciopaffccaaGreat
open Go.RowKit

theorem bys_first14 {W : World} {va : Option Addr} {vc : Nat} {t : List UInt8} (h : Bys W (.slice va t.length vc) t) (m : Nat) (hm : m ≤ t.length) : Bys W (.slice va m vc) (t.take m) := by
  by_cases h0 : 0 < t.length
  · obtain ⟨_, yb, yo, rfl, _, _⟩ := bys_block h h0
    simpa using bys_cut h 0 m vc (by omega)
  · obtain rfl : m = t.length := by omega
    rw [List.take_of_length_le (Nat.le_refl _)]
    exact h
end Go.Proofs.YtmogciopaffccaaGreat

/- LinesBack: what is kept beside a stream. -/
namespace Go.Proofs.YtmogciopaffccaaGreat
open Go.RowKit

theorem LV.by15 {S1 S2 : Type} {A1 : World → (Nat → Prop) → S1 → Prop} {A2 : World → (Nat → Prop) → S2 → Prop} (hT1 : ∀ s, OAt (fun w O => A1 w O s)) (hT2 : ∀ s, OAt (fun w O => A2 w O s)) {w w1 : World} {B g : Nat} {O P : Nat → Prop} {x x' : SS} {s s' : S2} {s1 : S1} {o i b o' i' b' : Value} (h : LV A2 w B g O x s o i b) (hC : A1 w P s1) (hd : ∀ k, Us g O o i b k → ¬ P k) (hP : ∀ k, P k → k < w.heap.size) (hB : B ≤ w.heap.size) (hS : SOut A2 w O x' s' o' i' b' w1) :
    StAt w1 g x o i b ∧ (∃ O', LV A2 (filled w1 g x' o' i' b') B g O' x' s' o' i' b' ∧ A1 (filled w1 g x' o' i' b') P s1 ∧ (∀ k, Us g O' o' i' b' k → ¬ P k) ∧ (∀ k, P k → k < (filled w1 g x' o' i' b').heap.size)) ∧ Turned (fun k => B ≤ k) w (filled w1 g x' o' i' b') := by
  obtain ⟨hst, -, ht⟩ := LV.next hT2 h hB hS
  obtain ⟨O', q1, q2, q3, q4, q5⟩ := hS
  have hl := LV.next1 hT2 h hB O' q1 q2 q3 q4 q5
  obtain ⟨-, e2⟩ := st_fill2 w1 g x x' o i b o' i' b' hst
  have hz := q5.size
  have hz2 := e2.size
  refine ⟨hst, ⟨O', hl, (hT1 s1).keep ((hT1 s1).keep hC (fun j e hj => q5.block j hj (fun e' => hd j (.inr (.inl e')) e)) hz) (fun j e hj => e2.block j hj (fun e' => hd j (.inl e') e)) hz2, fun k e e' => ?_, fun k e => by have := hP k e; omega⟩, ht⟩
  have hlt := hP k e'
  rcases e with e | e | e | e | e
  · exact hd k (.inl e) e'
  · rcases q4 k e with e | e
    · exact hd k (.inr (.inl e)) e'
    · omega
  · have := (q1.po k e).1; omega
  · have := (q1.pi k e).1; omega
  · have := (q1.pb k e).1; omega
structure Kr (w0 : World) (B : Nat) (W : World) (P : Nat → Prop) (s : Value × List (List UInt8)) : Prop where
  row : ∃ xs, W.ownsRow B 28 1 s.1 s.2.length xs ∧ xs.length = s.2.length ∧ ∀ j, j < s.2.length → ∃ va vc, xs[j]? = some (.slice va (s.2.getD j []).length vc) ∧ Bys w0 (.slice va (s.2.getD j []).length vc) (s.2.getD j [])
  own : ∀ k, s.1.ownBlock = some k → P k
theorem kr_o (w0 : World) (B : Nat) (s : Value × List (List UInt8)) : OAt (fun W P => Kr w0 B W P s) :=
  ⟨fun h hk _ => ⟨by obtain ⟨xs, a, b, c⟩ := h.row; exact ⟨xs, owns_keep a (fun k e => hk k (h.own k e) (a.lt k e).2), b, c⟩, h.own⟩, fun h => ⟨h.row, fun k e => by obtain ⟨xs, a, -⟩ := h.row; exact ⟨h.own k e, (a.lt k e).2⟩⟩⟩
structure Kp (w0 : World) (B gt : Nat) (y : SS) (W : World) (P : Nat → Prop) (s : Value × List (List UInt8)) : Prop where
  kr : Kr w0 B W P s
  st : StAt W gt y (.slice none 0 0) (.slice none 0 0) (.slice none 0 0)
  off : ∀ k, s.1.ownBlock = some k → k ≠ gt
  pg : P gt
theorem kp_o (w0 : World) (B gt : Nat) (y : SS) (s : Value × List (List UInt8)) : OAt (fun W P => Kp w0 B gt y W P s) :=
  ⟨fun h hk hz => ⟨(kr_o w0 B s).keep h.kr hk hz, (hk gt h.pg h.st.lt).trans h.st, h.off, h.pg⟩, fun h => ⟨(kr_o w0 B s).trim h.kr, h.st, h.off, ⟨h.pg, h.st.lt⟩⟩⟩
theorem Kp.more {S : Type} {At : World → (Nat → Prop) → S → Prop} (hT : ∀ s, OAt (fun w O => At w O s)) {w0 W : World} {B gt g : Nat} {y x : SS} {P O : Nat → Prop} {kv o i b : Value} {K : List (List UInt8)} {s : S} (h : Kp w0 B gt y W P (kv, K)) (hL : LV At W B g O x s o i b) (hd : ∀ k, Us g O o i b k → ¬ P k) (hP : ∀ k, P k → k < W.heap.size) (hB : B ≤ W.heap.size) (t : List UInt8) (va : Option Addr) (vc : Nat) (ht : Bys w0 (.slice va t.length vc) t) (hn : K.length ≤ 60) :
    ∃ a c w2 P', (Builtin.append_ #[22, 22] 22 #[kv, .slice (some ⟨W.heap.size, 0, none⟩) 1 1]).run Tryz.prog (W.alloc (Obj.cells #[.slice va t.length vc] 28)) = .ok (.slice a (K ++ [t]).length c) w2 ∧ LV At w2 B g O x s o i b ∧ Kp w0 B gt y w2 P' (.slice a (K ++ [t]).length c, K ++ [t]) ∧ (∀ k, Us g O o i b k → ¬ P' k) ∧ (∀ k, P' k → k < w2.heap.size) ∧ Turned (fun k => B ≤ k) W w2 := by
  obtain ⟨xs, hr, hx1, hx2⟩ := h.kr.row
  simp only at hr hx1 hx2
  have hBa := recv_below W (Obj.cells #[.slice va t.length vc] 28)
  have hz : (W.alloc (Obj.cells #[.slice va t.length vc] 28)).heap.size = W.heap.size + 1 := Array.size_push ..
  have hrl : ∀ k, kv.ownBlock = some k → B ≤ k ∧ k < W.heap.size := hr.lt
  obtain ⟨s', w2, hrun, HO, hgr, hbl⟩ := run_append_line (W.alloc (Obj.cells #[.slice va t.length vc] 28)) 22 B kv K.length xs W.heap.size 1 (.slice va t.length vc) (owns_below hr hBa) (cell_one_new W _ _ 0 _ rfl) rfl (by omega) (by omega)
  have hT2 : Turned (fun k => kv.ownBlock = some k) W w2 := (Turned.of_below hBa).grown hgr (fun k e => .inl e)
  have hz2 := hT2.size
  have hO := HO.out
  rw [show K.length + 1 = (K ++ [t]).length by simp] at hO
  obtain ⟨a, c, rfl⟩ := owns_slice hO
  have hwh : ∀ k, (Value.slice a (K ++ [t]).length c).ownBlock = some k → kv.ownBlock = some k ∨ k = W.heap.size + 1 := fun k e => by
    rcases hbl with e2 | e2
    · exact .inl (by rw [← e2]; exact e)
    · rw [hz] at e2
      rw [e2] at e
      exact .inr (Option.some.inj e).symm
  refine ⟨a, c, w2, fun k => P k ∨ (Value.slice a (K ++ [t]).length c).ownBlock = some k, hrun, hL.turned hT hT2 (fun k e e' => hd k e (h.kr.own k e')), ⟨⟨⟨xs ++ [.slice va t.length vc], hO, by simp [hx1], fun j hj => ?_⟩, fun k e => .inr e⟩, (hT2.block gt h.st.lt (fun e => h.off gt e rfl)).trans h.st, fun k e => ?_, .inl h.pg⟩, fun k e e' => ?_, fun k e => ?_, hT2.mono fun k e => (hrl k e).1⟩
  · by_cases hj2 : j < K.length
    · obtain ⟨ua, uc, h1, h2⟩ := hx2 j hj2
      have e : (K ++ [t]).getD j [] = K.getD j [] := by rw [List.getD_eq_getElem?_getD, List.getD_eq_getElem?_getD, List.getElem?_append_left hj2]
      refine ⟨ua, uc, ?_, ?_⟩
      · show (xs ++ _)[j]? = _
        rw [List.getElem?_append_left (by omega)]
        show xs[j]? = some (.slice ua ((K ++ [t]).getD j []).length uc)
        rw [e]
        exact h1
      · show Bys w0 (.slice ua ((K ++ [t]).getD j []).length uc) ((K ++ [t]).getD j [])
        rw [e]
        exact h2
    · have hj3 : j = K.length := by
        have hj : j < (K ++ [t]).length := hj
        simp at hj
        omega
      subst hj3
      have e : (K ++ [t]).getD K.length [] = t := by rw [List.getD_eq_getElem?_getD, List.getElem?_append_right (Nat.le_refl _)]; simp
      refine ⟨va, vc, ?_, ?_⟩
      · show (xs ++ [_])[K.length]? = some (.slice va ((K ++ [t]).getD K.length []).length vc)
        rw [e, List.getElem?_append_right (by omega), hx1]
        simp
      · show Bys w0 (.slice va ((K ++ [t]).getD K.length []).length vc) ((K ++ [t]).getD K.length [])
        rw [e]
        exact ht
  · rcases hwh k e with e2 | e2
    · exact h.off k e2
    · have := h.st.lt; omega
  · rcases e' with e' | e'
    · exact hd k e e'
    · rcases hwh k e' with e2 | e2
      · exact hd k e (h.kr.own k e2)
      · have := hL.us_lt e; omega
  · rcases e with e | e
    · have := hP k e; omega
    · exact (hO.lt k e).2
theorem Kr.cell {w0 W : World} {B : Nat} {P : Nat → Prop} {a : Option Addr} {c : Nat} {K : List (List UInt8)} (h : Kr w0 B W P (.slice a K.length c, K)) (j : Nat) (hj : j < K.length) : ∃ kb va vc, a = some ⟨kb, 0, none⟩ ∧ W.cell? ⟨kb, j, none⟩ = some (.slice va (K.getD j []).length vc) ∧ Bys w0 (.slice va (K.getD j []).length vc) (K.getD j []) := by
  obtain ⟨xs, hr, hx1, hx2⟩ := h.row
  simp only at hr hx1 hx2
  obtain ⟨va, vc, h1, h2⟩ := hx2 j hj
  have hr' : W.ownsRow B 28 1 (.slice a K.length c) K.length xs := hr
  rcases hr'.2 with ⟨e, h0⟩ | ⟨g, cap, cur, e, -⟩
  · have := (Value.slice.inj e).2.1
    omega
  · obtain ⟨rfl, -, rfl⟩ := Value.slice.inj e
    exact ⟨g, va, vc, rfl, by rw [hr'.cellAt j (by omega)]; exact h1, h2⟩
end Go.Proofs.YtmogciopaffccaaGreat

/- LinesJoin: the walk. -/
namespace Go.Proofs.YtmogciopaffccaaGreat
open Go.RowKit

theorem rr_new (mode size : Int) (l : List UInt8) (h : (1 ≤ mode ∧ mode ≤ 3) ∧ (1 ≤ size ∧ size ≤ 65536)) (hl : l.length ≤ 1048576) : RdR (xR mode size) ⟨l, l.length, 0⟩ l 0 :=
  ⟨rfl, h.1.1, h.1.2, h.2.1, h.2.2, rfl, rfl, rfl, .inr ⟨rfl, rfl⟩, by simp [xR], rfl, hl, Nat.zero_le _, rfl, Nat.zero_le _, by simp [xR], fun e => by simp [xR] at e⟩
theorem RdR.lens {x : SS} {S : MS} {l : List UInt8} {k : Nat} (h : RdR x S l k) : x.out.length ≤ 140737488351232 ∧ x.inn.length ≤ 140737488351232 ∧ x.back.length ≤ 140737488351232 := ⟨by rw [h.out]; simp, Nat.le_trans h.il (by decide), by rw [h.back]; simp⟩

end Go.Proofs.YtmogciopaffccaaGreat

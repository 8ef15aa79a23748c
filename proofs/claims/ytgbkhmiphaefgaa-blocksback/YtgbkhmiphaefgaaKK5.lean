/- What the proof stands on, part 5: the contracts of the program's calls that it reaches. -/
import Derived.Test.YtgbkhmiphaefgaaKK4
/- Streams: Put, Get, Flush, Close over any Raw. -/
namespace Go.Proofs.Ytgbkhmiphaefgaa
open Go.RowKit

def SOut {S : Type} (At : World → (Nat → Prop) → S → Prop) (w : World) (O : Nat → Prop) (x : SS) (s : S) (o i b : Value) (w' : World) : Prop :=
  ∃ O', SIn w' (fun k => w.heap.size ≤ k ∧ ¬ O' k ∧ k < w'.heap.size) x o i b ∧ At w' O' s ∧ (∀ j, O' j → j < w'.heap.size) ∧ (∀ k, O' k → O k ∨ w.heap.size ≤ k) ∧ Turned O w w'
theorem On.out {S : Type} {At : World → (Nat → Prop) → S → Prop} {w w1 w2 : World} {O O' : Nat → Prop} {s : S} {g : Nat} {x : SS} {o i b r : Value} (h : On At w2 O' s w.heap.size g x o i b r) (hB : Below w.heap.size w w1) (hO : ∀ k, O' k → O k ∨ w1.heap.size ≤ k) (hT : Turned (fun k => O k ∨ w.heap.size ≤ k) w1 w2) : SOut At w O x s o i b w2 := by
  have hz := hB.size
  exact ⟨O', h.ls.mono fun k e => ⟨e.1, e.2.1, e.2.2.2⟩, h.raw, h.ol, fun k e => (hO k e).imp id (fun e => by omega), (Turned.of_below (S := O) hB).trans hT (fun k hk e => e.resolve_right (by omega))⟩
theorem On.begin {S : Type} {At : World → (Nat → Prop) → S → Prop} (hT : ∀ s, OAt (fun w O => At w O s)) {w w1 : World} {O : Nat → Prop} {s : S} {g : Nat} {x : SS} {o i b r : Value} (hA : At w O s) (hO : ∀ j, O j → j < w.heap.size) (hW : Way w1 g x o i b r) (hg : w.heap.size ≤ g) (h1 : w1.ownsRow w.heap.size 5 1 o x.out.length (x.out.map bv)) (h2 : w1.ownsRow w.heap.size 5 1 i x.inn.length (x.inn.map bv)) (h3 : w1.ownsRow w.heap.size 5 1 b x.back.length (x.back.map bv)) (hn : ∀ k, o.ownBlock = some k ∨ i.ownBlock = some k ∨ b.ownBlock = some k → k ≠ g) (hB : Below w.heap.size w w1) : On At w1 O s w.heap.size g x o i b r := by
  have hz := hB.size
  exact ⟨hW, ⟨Sl.own h1, Sl.own h2, Sl.own h3, fun k e => ⟨(h1.lt k e).1, fun e' => by have := hO k e'; have := (h1.lt k e).1; omega, hn k (.inl e), (h1.lt k e).2⟩, fun k e => ⟨(h2.lt k e).1, fun e' => by have := hO k e'; have := (h2.lt k e).1; omega, hn k (.inr (.inl e)), (h2.lt k e).2⟩, fun k e => ⟨(h3.lt k e).1, fun e' => by have := hO k e'; have := (h3.lt k e).1; omega, hn k (.inr (.inr e)), (h3.lt k e).2⟩⟩, (hT s).keep hA (fun j _ hj => hB.block j hj) hz, fun e => by have := hO g e; omega, hg, fun j e => Nat.lt_of_lt_of_le (hO j e) hz⟩
theorem noWrite_none {x : SS} (h : x.noWrite = 0) : x.inn = [] ∧ x.back = [] := by
  have hm := (refuse_may (noWrite_may h).1).1
  have hd : ¬ (x.dir = 1 ∧ ¬ (x.fin = true ∧ (x.inn.length : Int) + (x.back.length : Int) = 0)) := by
    intro e
    have hy := noWrite_may h
    unfold SS.noWrite at h
    rw [if_neg (by simp [hy.1]), if_neg (by simp [hy.2]), if_pos e] at h
    omega
  have hw : x.way = true := by
    unfold SS.may at hm
    simp only [Bool.and_eq_true] at hm
    exact hm.2
  have key : (x.inn.length : Int) + (x.back.length : Int) ≤ 0 := by
    unfold SS.way SS.toR at hw
    split at hw
    · simp only [Bool.and_eq_true, Bool.not_eq_true', decide_eq_false_iff_not] at hw
      omega
    split at hw
    · rename_i h1
      by_cases hc : x.fin = true ∧ (x.inn.length : Int) + (x.back.length : Int) = 0
      · omega
      · exact absurd ⟨h1, hc⟩ hd
    split at hw
    · simp only [Bool.and_eq_true, Bool.not_eq_true', decide_eq_false_iff_not] at hw
      omega
    · simp at hw
  exact ⟨List.length_eq_zero_iff.1 (by omega), List.length_eq_zero_iff.1 (by omega)⟩
theorem SOut.fin {S : Type} {At : World → (Nat → Prop) → S → Prop} (hT : ∀ s, OAt (fun w O => At w O s)) {w w0 w3 w4 : World} {O : Nat → Prop} {x : SS} {s : S} {o i b : Value} {g : Nat} (h : SOut At w0 O x s o i b w3) (hB : Below w.heap.size w w0) (hg : g < w0.heap.size) (hgw : w.heap.size ≤ g) (hO : ∀ j, O j → j < w.heap.size) (hT4 : Turned (fun k => k = g) w3 w4) : SOut At w O x s o i b w4 := by
  obtain ⟨O', h1, h2, h3, h4, h5⟩ := h
  have hz := hB.size
  have hz4 := hT4.size
  have hg' : ¬ O' g := fun e => by
    rcases h4 g e with e | e
    · have := hO g e; omega
    · omega
  exact ⟨O', (h1.turned hT4 fun k e _ e' => by have := e.1; omega).mono fun k e => ⟨by have := e.1; omega, e.2.1, by have := e.2.2; omega⟩, (hT s).keep h2 (fun j e hj => hT4.block j hj (fun e' => hg' (e' ▸ e))) hz4, fun j e => Nat.lt_of_lt_of_le (h3 j e) hz4, fun k e => (h4 k e).imp id (fun e => by omega), ((Turned.of_below (S := O) hB).trans h5 (fun _ _ e => e)).trans hT4 (fun k hk e => by omega)⟩
theorem res_two {fn : Func} {p u : Tmp} {w : World} (h : fn.results = #[.cell p 35, .tmp u]) (tmps : Array Value) (g : Nat) (hp : tmps.getD p undef = .pointer (some ⟨g, 0, none⟩)) (x : SS) (o i b : Value) (hg : StAt w g x o i b) : (results fn tmps).run Try.prog w = .ok (.tuple #[.agg #[.bool x.rd, .bool x.wt, .int .i64 x.mode, .int .i64 x.size, o, i, b, .int .i64 x.dir, .bool x.fin, .bool x.bad, .bool x.closed], tmps.getD u undef]) w := by
  have hp' : tmps[p]?.getD undef = .pointer (some ⟨g, 0, none⟩) := by simpa using hp
  simp [results, h, hp', asAddr, run_loadVar_row w g _ 35 _ _ _ hg Try.underlying35 rfl (by kernel_rfl)]
theorem res_three {fn : Func} {p u t : Tmp} {w : World} (h : fn.results = #[.cell p 35, .tmp u, .tmp t]) (tmps : Array Value) (g : Nat) (hp : tmps.getD p undef = .pointer (some ⟨g, 0, none⟩)) (x : SS) (o i b : Value) (hg : StAt w g x o i b) : (results fn tmps).run Try.prog w = .ok (.tuple #[.agg #[.bool x.rd, .bool x.wt, .int .i64 x.mode, .int .i64 x.size, o, i, b, .int .i64 x.dir, .bool x.fin, .bool x.bad, .bool x.closed], tmps.getD u undef, tmps.getD t undef]) w := by
  have hp' : tmps[p]?.getD undef = .pointer (some ⟨g, 0, none⟩) := by simpa using hp
  simp [results, h, hp', asAddr, run_loadVar_row w g _ 35 _ _ _ hg Try.underlying35 rfl (by kernel_rfl)]
set_option maxRecDepth 100000 in
set_option maxHeartbeats 4000000 in
theorem sPutW_any {S : Type} {D : RawD S} {T : TypeId} {v : Value} {fr fw : FuncId} {rok wok : S → Prop} {At : World → (Nat → Prop) → S → Prop} (R : RawM D T v fr fw rok wok At) (hT : ∀ s, OAt (fun w O => At w O s)) {G : Nat → S → Prop} (hG : BearsW D wok G) {w : World} {O P : Nat → Prop} {s : S} {x : SS} {o i b : Value} (c : UInt8) (h : SIn w P x o i b) (hA : At w O s) (hO : ∀ j, O j → j < w.heap.size) (hg : G 2 s) (ho : x.out.length ≤ 140737488351232) (hi : x.inn.length ≤ 140737488351232) (hb : x.back.length ≤ 140737488351232) :
    Calls Try.prog 38 #[.agg #[.bool x.rd, .bool x.wt, .int .i64 x.mode, .int .i64 x.size, o, i, b, .int .i64 x.dir, .bool x.fin, .bool x.bad, .bool x.closed], .iface T v, .int .u8 (c.toNat : Int)] w fun e w' => ∃ o' i' b', e = .returned (.tuple #[.agg #[.bool (x.put D s c).1.rd, .bool (x.put D s c).1.wt, .int .i64 (x.put D s c).1.mode, .int .i64 (x.put D s c).1.size, o', i', b', .int .i64 (x.put D s c).1.dir, .bool (x.put D s c).1.fin, .bool (x.put D s c).1.bad, .bool (x.put D s c).1.closed], .int .i64 (x.put D s c).2.1]) ∧ SOut At w O (x.put D s c).1 (x.put D s c).2.2 o' i' b' w' := by
  have HWx := hide (fun (W : World) (hW : Below w.heap.size w W) => onWay_any x o i b P (.iface T v) W (h.below hW) ho hi hb (.inr ⟨T, v, rfl⟩))
  obtain ⟨oa, oc, rfl, -⟩ := h.so
  obtain ⟨ia, ic, rfl, -⟩ := h.si
  obtain ⟨ba, bc, rfl, -⟩ := h.sb
  clear h
  generalize hq : x.put D s c = q
  obtain ⟨qx, qe, qs⟩ := q
  unfold SS.put at hq
  go_enter Try.func38, Try.ntmps38
  go_wp2_with fail
  have HB0 := hide ((recv_below w (Obj.cells #[.bool x.rd, .bool x.wt, .int .i64 x.mode, .int .i64 x.size, .slice oa x.out.length oc, .slice ia x.inn.length ic, .slice ba x.back.length bc, .int .i64 x.dir, .bool x.fin, .bool x.bad, .bool x.closed] 35)).trans ((recv_below (w.alloc (Obj.cells #[.bool x.rd, .bool x.wt, .int .i64 x.mode, .int .i64 x.size, .slice oa x.out.length oc, .slice ia x.inn.length ic, .slice ba x.back.length bc, .int .i64 x.dir, .bool x.fin, .bool x.bad, .bool x.closed] 35)) (Obj.cells #[.bool false, .bool false, .int .i64 0, .int .i64 0, .slice none 0 0, .slice none 0 0, .slice none 0 0, .int .i64 0, .bool false, .bool false, .bool false] 35)).mono (recv_below w (Obj.cells #[.bool x.rd, .bool x.wt, .int .i64 x.mode, .int .i64 x.size, .slice oa x.out.length oc, .slice ia x.inn.length ic, .slice ba x.back.length bc, .int .i64 x.dir, .bool x.fin, .bool x.bad, .bool x.closed] 35)).size))
  have HZ0 : Hid (((w.alloc (Obj.cells #[.bool x.rd, .bool x.wt, .int .i64 x.mode, .int .i64 x.size, .slice oa x.out.length oc, .slice ia x.inn.length ic, .slice ba x.back.length bc, .int .i64 x.dir, .bool x.fin, .bool x.bad, .bool x.closed] 35)).alloc (Obj.cells #[.bool false, .bool false, .int .i64 0, .int .i64 0, .slice none 0 0, .slice none 0 0, .slice none 0 0, .int .i64 0, .bool false, .bool false, .bool false] 35)).heap[w.heap.size + 1]? = some (Obj.cells #[.bool false, .bool false, .int .i64 0, .int .i64 0, .slice none 0 0, .slice none 0 0, .slice none 0 0, .int .i64 0, .bool false, .bool false, .bool false] 35)) := hide (by have := heap_alloc_new (w.alloc (Obj.cells #[.bool x.rd, .bool x.wt, .int .i64 x.mode, .int .i64 x.size, .slice oa x.out.length oc, .slice ia x.inn.length ic, .slice ba x.back.length bc, .int .i64 x.dir, .bool x.fin, .bool x.bad, .bool x.closed] 35)) (Obj.cells #[.bool false, .bool false, .int .i64 0, .int .i64 0, .slice none 0 0, .slice none 0 0, .slice none 0 0, .int .i64 0, .bool false, .bool false, .bool false] 35); rw [show (w.alloc (Obj.cells #[.bool x.rd, .bool x.wt, .int .i64 x.mode, .int .i64 x.size, .slice oa x.out.length oc, .slice ia x.inn.length ic, .slice ba x.back.length bc, .int .i64 x.dir, .bool x.fin, .bool x.bad, .bool x.closed] 35)).heap.size = w.heap.size + 1 from Array.size_push ..] at this; exact this)
  generalize (w.alloc (Obj.cells #[.bool x.rd, .bool x.wt, .int .i64 x.mode, .int .i64 x.size, .slice oa x.out.length oc, .slice ia x.inn.length ic, .slice ba x.back.length bc, .int .i64 x.dir, .bool x.fin, .bool x.bad, .bool x.closed] 35)).alloc (Obj.cells #[.bool false, .bool false, .int .i64 0, .int .i64 0, .slice none 0 0, .slice none 0 0, .slice none 0 0, .int .i64 0, .bool false, .bool false, .bool false] 35) = w0 at *
  have hz0 : w.heap.size + 1 < w0.heap.size := (Array.getElem?_eq_some_iff.1 HZ0.out).1
  refine (HWx.out _ HB0.out).mono ?_
  rintro _ w1 ⟨g, o1, i1, b1, rfl, y1, y2, y3, y4, y5, y6, hB1⟩
  obtain ⟨a1, k1, rfl⟩ := owns_slice y3
  obtain ⟨a2, k2, rfl⟩ := owns_slice y4
  obtain ⟨a3, k3, rfl⟩ := owns_slice y5
  have HOn1 := hide (On.begin hT ((hT s).keep hA (fun j _ hj => HB0.out.block j hj) HB0.out.size) (fun j e => Nat.lt_of_lt_of_le (hO j e) HB0.out.size) y1 y2 y3 y4 y5 y6 hB1)
  have HTu := hide (turnToWriting_any x g a1 a2 a3 k1 k2 k3 T v w1 y1 hi hb)
  have HOw := hide y3
  have HB1 := hide hB1
  have hz1 := hB1.size
  clear y1 y2 y3 y4 y5 y6 hB1 HWx
  go_wp2_with fail
  refine HTu.out.mono ?_
  rintro _ w2 ⟨rfl, hW2, hT2⟩
  by_cases hn : x.noWrite = 0
  · rw [if_pos hn] at hq hW2
    rw [hn]
    have hOn2 := On.at hT HOn1.out hW2 hT2 (HOn1.out.ls.kin rfl rfl rfl)
    obtain ⟨m1, m2, m3, m4, m5, m6, m7, m8⟩ := may_buf (refuse_may (noWrite_may hn).1).1
    obtain ⟨n1, n2⟩ := noWrite_none hn
    have hown := owns_turned HOw.out hT2 (fun k e e' => (HOn1.out.ls.po k e).2.2.1 e')
    have hz2 := hT2.size
    have HP := hide (wput_any R hT hG c hOn2 hown (by omega) m3 m4 m5 n1 n2 hg).1
    rw [hq] at HP
    have HT2 := hide (hT2.mono fun k e => (.inr (by have := HOn1.out.gB; omega) : O k ∨ w0.heap.size ≤ k))
    clear hOn2 hown hW2 hT2 hq m1 m2 m3 m4 m5 m6 m7 m8 n1 n2 hn
    go_wp2_with fail
    refine HP.out.mono ?_
    rintro _ w3 ⟨rfl, o3, i3, b3, O3, hOn3, hO3, hT3⟩
    obtain ⟨a4, k4, rfl, -⟩ := hOn3.ls.so
    obtain ⟨a5, k5, rfl, -⟩ := hOn3.ls.si
    obtain ⟨a6, k6, rfl, -⟩ := hOn3.ls.sb
    obtain ⟨c0, c1, c2, c3, c4, c5, c6, c7, c8, c9, c10, c11⟩ := hOn3.way.cs
    have hT13 := HT2.out.trans hT3 (fun _ _ e => e)
    have HF := hide (On.out hOn3 HB1.out (fun k e => (hO3 k e).imp id (fun e => by omega)) hT13)
    have HZ3 := hide ((hT13.block (w.heap.size + 1) (by omega) (fun e => by rcases e with e | e; exact absurd (hO _ e) (by omega); omega)).trans ((HB1.out.block (w.heap.size + 1) hz0).trans HZ0.out))
    clear hOn3 hO3 hT3 hT13
    have z0 := cell_of_row w3 (w.heap.size + 1) 0 _ _ _ HZ3.out
    have z1 := cell_of_row w3 (w.heap.size + 1) 1 _ _ _ HZ3.out
    have z2 := cell_of_row w3 (w.heap.size + 1) 2 _ _ _ HZ3.out
    have z3 := cell_of_row w3 (w.heap.size + 1) 3 _ _ _ HZ3.out
    have z4 := cell_of_row w3 (w.heap.size + 1) 4 _ _ _ HZ3.out
    have z5 := cell_of_row w3 (w.heap.size + 1) 5 _ _ _ HZ3.out
    have z6 := cell_of_row w3 (w.heap.size + 1) 6 _ _ _ HZ3.out
    have z7 := cell_of_row w3 (w.heap.size + 1) 7 _ _ _ HZ3.out
    have z8 := cell_of_row w3 (w.heap.size + 1) 8 _ _ _ HZ3.out
    have z9 := cell_of_row w3 (w.heap.size + 1) 9 _ _ _ HZ3.out
    have z10 := cell_of_row w3 (w.heap.size + 1) 10 _ _ _ HZ3.out
    have u0 := frozen_of_row w3 (w.heap.size + 1) 0 _ _ HZ3.out
    have u1 := frozen_of_row w3 (w.heap.size + 1) 1 _ _ HZ3.out
    have u2 := frozen_of_row w3 (w.heap.size + 1) 2 _ _ HZ3.out
    have u3 := frozen_of_row w3 (w.heap.size + 1) 3 _ _ HZ3.out
    have u4 := frozen_of_row w3 (w.heap.size + 1) 4 _ _ HZ3.out
    have u5 := frozen_of_row w3 (w.heap.size + 1) 5 _ _ HZ3.out
    have u6 := frozen_of_row w3 (w.heap.size + 1) 6 _ _ HZ3.out
    have u7 := frozen_of_row w3 (w.heap.size + 1) 7 _ _ HZ3.out
    have u8 := frozen_of_row w3 (w.heap.size + 1) 8 _ _ HZ3.out
    have u9 := frozen_of_row w3 (w.heap.size + 1) 9 _ _ HZ3.out
    have u10 := frozen_of_row w3 (w.heap.size + 1) 10 _ _ HZ3.out
    simp at z0 z1 z2 z3 z4 z5 z6 z7 z8 z9 z10
    go_wp2
    obtain ⟨e1, e2⟩ := st_fill w3 (w.heap.size + 1) qx (.slice a4 qx.out.length k4) (.slice a5 qx.inn.length k5) (.slice a6 qx.back.length k6) HZ3.out
    refine bodyPost_ret (res_two rfl _ (w.heap.size + 1) rfl qx _ _ _ e1) rfl ?_
    exact ⟨_, _, _, rfl, SOut.fin hT HF.out HB0.out hz0 (Nat.le_succ _) hO e2⟩
  · rw [if_neg hn] at hq hW2
    obtain ⟨rfl, rfl, rfl⟩ : x = qx ∧ x.noWrite = qe ∧ s = qs := by simpa using hq
    have hT12 := hT2.mono fun k e => (.inr (by have := HOn1.out.gB; omega) : O k ∨ w0.heap.size ≤ k)
    have HF := hide (On.out (O := O) (On.at hT HOn1.out hW2 hT2 HOn1.out.ls) HB1.out (fun _ e => .inl e) hT12)
    obtain ⟨c0, c1, c2, c3, c4, c5, c6, c7, c8, c9, c10, c11⟩ := hW2.cs
    have HZ3 := hide ((hT12.block (w.heap.size + 1) (by omega) (fun e => by rcases e with e | e; exact absurd (hO _ e) (by omega); omega)).trans ((HB1.out.block (w.heap.size + 1) hz0).trans HZ0.out))
    obtain ⟨nw, hnw⟩ : ∃ nw, nw = x.noWrite := ⟨_, rfl⟩
    rw [← hnw] at hn ⊢
    have HNw := hide hnw
    have hn2 : (nw == 0) = false := by simp [hn]
    clear hq hW2 hT2 hT12 hnw
    have z0 := cell_of_row w2 (w.heap.size + 1) 0 _ _ _ HZ3.out
    have z1 := cell_of_row w2 (w.heap.size + 1) 1 _ _ _ HZ3.out
    have z2 := cell_of_row w2 (w.heap.size + 1) 2 _ _ _ HZ3.out
    have z3 := cell_of_row w2 (w.heap.size + 1) 3 _ _ _ HZ3.out
    have z4 := cell_of_row w2 (w.heap.size + 1) 4 _ _ _ HZ3.out
    have z5 := cell_of_row w2 (w.heap.size + 1) 5 _ _ _ HZ3.out
    have z6 := cell_of_row w2 (w.heap.size + 1) 6 _ _ _ HZ3.out
    have z7 := cell_of_row w2 (w.heap.size + 1) 7 _ _ _ HZ3.out
    have z8 := cell_of_row w2 (w.heap.size + 1) 8 _ _ _ HZ3.out
    have z9 := cell_of_row w2 (w.heap.size + 1) 9 _ _ _ HZ3.out
    have z10 := cell_of_row w2 (w.heap.size + 1) 10 _ _ _ HZ3.out
    have u0 := frozen_of_row w2 (w.heap.size + 1) 0 _ _ HZ3.out
    have u1 := frozen_of_row w2 (w.heap.size + 1) 1 _ _ HZ3.out
    have u2 := frozen_of_row w2 (w.heap.size + 1) 2 _ _ HZ3.out
    have u3 := frozen_of_row w2 (w.heap.size + 1) 3 _ _ HZ3.out
    have u4 := frozen_of_row w2 (w.heap.size + 1) 4 _ _ HZ3.out
    have u5 := frozen_of_row w2 (w.heap.size + 1) 5 _ _ HZ3.out
    have u6 := frozen_of_row w2 (w.heap.size + 1) 6 _ _ HZ3.out
    have u7 := frozen_of_row w2 (w.heap.size + 1) 7 _ _ HZ3.out
    have u8 := frozen_of_row w2 (w.heap.size + 1) 8 _ _ HZ3.out
    have u9 := frozen_of_row w2 (w.heap.size + 1) 9 _ _ HZ3.out
    have u10 := frozen_of_row w2 (w.heap.size + 1) 10 _ _ HZ3.out
    simp at z0 z1 z2 z3 z4 z5 z6 z7 z8 z9 z10
    go_wp2
    obtain ⟨e1, e2⟩ := st_fill w2 (w.heap.size + 1) x (.slice a1 x.out.length k1) (.slice a2 x.inn.length k2) (.slice a3 x.back.length k3) HZ3.out
    refine bodyPost_ret (res_two rfl _ (w.heap.size + 1) rfl x _ _ _ e1) rfl ?_
    exact ⟨_, _, _, by rw [← HNw.out]; rfl, SOut.fin hT HF.out HB0.out hz0 (Nat.le_succ _) hO e2⟩
set_option maxRecDepth 100000 in
set_option maxHeartbeats 4000000 in
theorem sGetR_any {S : Type} {D : RawD S} {T : TypeId} {v : Value} {fr fw : FuncId} {rok wok : S → Prop} {At : World → (Nat → Prop) → S → Prop} (R : RawM D T v fr fw rok wok At) (hT : ∀ s, OAt (fun w O => At w O s)) {w : World} {O P : Nat → Prop} {s : S} {x : SS} {o i b : Value} (h : SIn w P x o i b) (hA : At w O s) (hO : ∀ j, O j → j < w.heap.size) (hso : ∀ m, 1 ≤ m → m ≤ 65536 → someOk D rok m 8192 s) (ho : x.out.length ≤ 140737488351232) (hi : x.inn.length ≤ 140737488351232) (hb : x.back.length ≤ 140737488351232) :
    Calls Try.prog 61 #[.agg #[.bool x.rd, .bool x.wt, .int .i64 x.mode, .int .i64 x.size, o, i, b, .int .i64 x.dir, .bool x.fin, .bool x.bad, .bool x.closed], .iface T v] w fun e w' => ∃ o' i' b', e = .returned (.tuple #[.agg #[.bool (x.get D s).1.rd, .bool (x.get D s).1.wt, .int .i64 (x.get D s).1.mode, .int .i64 (x.get D s).1.size, o', i', b', .int .i64 (x.get D s).1.dir, .bool (x.get D s).1.fin, .bool (x.get D s).1.bad, .bool (x.get D s).1.closed], .int .u8 ((x.get D s).2.1.toNat : Int), .int .i64 (x.get D s).2.2.1]) ∧ SOut At w O (x.get D s).1 (x.get D s).2.2.2 o' i' b' w' := by
  have HWx := hide (fun (W : World) (hW : Below w.heap.size w W) => onWay_any x o i b P (.iface T v) W (h.below hW) ho hi hb (.inr ⟨T, v, rfl⟩))
  obtain ⟨oa, oc, rfl, -⟩ := h.so
  obtain ⟨ia, ic, rfl, -⟩ := h.si
  obtain ⟨ba, bc, rfl, -⟩ := h.sb
  clear h
  generalize hq : x.get D s = q
  obtain ⟨qx, qc, qe, qs⟩ := q
  unfold SS.get at hq
  go_enter Try.func61, Try.ntmps61
  go_wp2_with fail
  have HB0 := hide ((recv_below w (Obj.cells #[.bool x.rd, .bool x.wt, .int .i64 x.mode, .int .i64 x.size, .slice oa x.out.length oc, .slice ia x.inn.length ic, .slice ba x.back.length bc, .int .i64 x.dir, .bool x.fin, .bool x.bad, .bool x.closed] 35)).trans ((recv_below (w.alloc (Obj.cells #[.bool x.rd, .bool x.wt, .int .i64 x.mode, .int .i64 x.size, .slice oa x.out.length oc, .slice ia x.inn.length ic, .slice ba x.back.length bc, .int .i64 x.dir, .bool x.fin, .bool x.bad, .bool x.closed] 35)) (Obj.cells #[.bool false, .bool false, .int .i64 0, .int .i64 0, .slice none 0 0, .slice none 0 0, .slice none 0 0, .int .i64 0, .bool false, .bool false, .bool false] 35)).mono (recv_below w (Obj.cells #[.bool x.rd, .bool x.wt, .int .i64 x.mode, .int .i64 x.size, .slice oa x.out.length oc, .slice ia x.inn.length ic, .slice ba x.back.length bc, .int .i64 x.dir, .bool x.fin, .bool x.bad, .bool x.closed] 35)).size))
  have HZ0 : Hid (((w.alloc (Obj.cells #[.bool x.rd, .bool x.wt, .int .i64 x.mode, .int .i64 x.size, .slice oa x.out.length oc, .slice ia x.inn.length ic, .slice ba x.back.length bc, .int .i64 x.dir, .bool x.fin, .bool x.bad, .bool x.closed] 35)).alloc (Obj.cells #[.bool false, .bool false, .int .i64 0, .int .i64 0, .slice none 0 0, .slice none 0 0, .slice none 0 0, .int .i64 0, .bool false, .bool false, .bool false] 35)).heap[w.heap.size + 1]? = some (Obj.cells #[.bool false, .bool false, .int .i64 0, .int .i64 0, .slice none 0 0, .slice none 0 0, .slice none 0 0, .int .i64 0, .bool false, .bool false, .bool false] 35)) := hide (by have := heap_alloc_new (w.alloc (Obj.cells #[.bool x.rd, .bool x.wt, .int .i64 x.mode, .int .i64 x.size, .slice oa x.out.length oc, .slice ia x.inn.length ic, .slice ba x.back.length bc, .int .i64 x.dir, .bool x.fin, .bool x.bad, .bool x.closed] 35)) (Obj.cells #[.bool false, .bool false, .int .i64 0, .int .i64 0, .slice none 0 0, .slice none 0 0, .slice none 0 0, .int .i64 0, .bool false, .bool false, .bool false] 35); rw [show (w.alloc (Obj.cells #[.bool x.rd, .bool x.wt, .int .i64 x.mode, .int .i64 x.size, .slice oa x.out.length oc, .slice ia x.inn.length ic, .slice ba x.back.length bc, .int .i64 x.dir, .bool x.fin, .bool x.bad, .bool x.closed] 35)).heap.size = w.heap.size + 1 from Array.size_push ..] at this; exact this)
  generalize (w.alloc (Obj.cells #[.bool x.rd, .bool x.wt, .int .i64 x.mode, .int .i64 x.size, .slice oa x.out.length oc, .slice ia x.inn.length ic, .slice ba x.back.length bc, .int .i64 x.dir, .bool x.fin, .bool x.bad, .bool x.closed] 35)).alloc (Obj.cells #[.bool false, .bool false, .int .i64 0, .int .i64 0, .slice none 0 0, .slice none 0 0, .slice none 0 0, .int .i64 0, .bool false, .bool false, .bool false] 35) = w0 at *
  have hz0 : w.heap.size + 1 < w0.heap.size := (Array.getElem?_eq_some_iff.1 HZ0.out).1
  refine (HWx.out _ HB0.out).mono ?_
  rintro _ w1 ⟨g, o1, i1, b1, rfl, y1, y2, y3, y4, y5, y6, hB1⟩
  obtain ⟨a1, k1, rfl⟩ := owns_slice y3
  obtain ⟨a2, k2, rfl⟩ := owns_slice y4
  obtain ⟨a3, k3, rfl⟩ := owns_slice y5
  have HOn1 := hide (On.begin hT ((hT s).keep hA (fun j _ hj => HB0.out.block j hj) HB0.out.size) (fun j e => Nat.lt_of_lt_of_le (hO j e) HB0.out.size) y1 y2 y3 y4 y5 y6 hB1)
  have HTu := hide (turnToReading_any x g a1 a2 a3 k1 k2 k3 T v w1 y1 hi hb)
  have HOw := hide y3
  have HB1 := hide hB1
  have hz1 := hB1.size
  clear y1 y2 y3 y4 y5 y6 hB1 HWx
  go_wp2_with fail
  refine HTu.out.mono ?_
  rintro _ w2 ⟨rfl, hW2, hT2⟩
  by_cases hn : x.noRead = 0
  · rw [if_pos hn] at hq hW2
    rw [hn]
    have hOn2 := On.at hT HOn1.out hW2 hT2 (HOn1.out.ls.kin rfl rfl rfl)
    obtain ⟨m1, m2, m3, m4, m5, m6, m7, m8⟩ := may_buf (refuse_may (noRead_may hn).1).1
    have hz2 := hT2.size
    have hmost : 1 ≤ ({ x with dir := 1 } : SS).most ∧ ({ x with dir := 1 } : SS).most ≤ 65536 := by
      unfold SS.most
      simp only
      split <;> omega
    have HP := hide (get_any R hT hOn2 (by omega) m3 m4 m8 m7 (hso _ hmost.1 hmost.2))
    rw [hq] at HP
    have HT2 := hide (hT2.mono fun k e => (.inr (by have := HOn1.out.gB; omega) : O k ∨ w0.heap.size ≤ k))
    clear hOn2 hW2 hT2 hq m1 m2 m3 m4 m5 m6 m7 m8 hn hmost
    go_wp2_with fail
    refine HP.out.mono ?_
    rintro _ w3 ⟨rfl, i3, b3, hOn3, hT3⟩
    obtain ⟨a4, k4, e4, -⟩ := hOn3.ls.so
    obtain ⟨a5, k5, rfl, -⟩ := hOn3.ls.si
    obtain ⟨a6, k6, rfl, -⟩ := hOn3.ls.sb
    rw [e4] at hOn3
    obtain ⟨c0, c1, c2, c3, c4, c5, c6, c7, c8, c9, c10, c11⟩ := hOn3.way.cs
    have hT13 := HT2.out.trans (hT3.mono fun k e => (e.imp id (fun e => by have := HOn1.out.gB; omega) : O k ∨ w0.heap.size ≤ k)) (fun _ _ e => e)
    have HF := hide (On.out hOn3 HB1.out (fun k e => .inl e) hT13)
    have HZ3 := hide ((hT13.block (w.heap.size + 1) (by omega) (fun e => by rcases e with e | e; exact absurd (hO _ e) (by omega); omega)).trans ((HB1.out.block (w.heap.size + 1) hz0).trans HZ0.out))
    clear hOn3 hT3 hT13 e4
    have z0 := cell_of_row w3 (w.heap.size + 1) 0 _ _ _ HZ3.out
    have z1 := cell_of_row w3 (w.heap.size + 1) 1 _ _ _ HZ3.out
    have z2 := cell_of_row w3 (w.heap.size + 1) 2 _ _ _ HZ3.out
    have z3 := cell_of_row w3 (w.heap.size + 1) 3 _ _ _ HZ3.out
    have z4 := cell_of_row w3 (w.heap.size + 1) 4 _ _ _ HZ3.out
    have z5 := cell_of_row w3 (w.heap.size + 1) 5 _ _ _ HZ3.out
    have z6 := cell_of_row w3 (w.heap.size + 1) 6 _ _ _ HZ3.out
    have z7 := cell_of_row w3 (w.heap.size + 1) 7 _ _ _ HZ3.out
    have z8 := cell_of_row w3 (w.heap.size + 1) 8 _ _ _ HZ3.out
    have z9 := cell_of_row w3 (w.heap.size + 1) 9 _ _ _ HZ3.out
    have z10 := cell_of_row w3 (w.heap.size + 1) 10 _ _ _ HZ3.out
    have u0 := frozen_of_row w3 (w.heap.size + 1) 0 _ _ HZ3.out
    have u1 := frozen_of_row w3 (w.heap.size + 1) 1 _ _ HZ3.out
    have u2 := frozen_of_row w3 (w.heap.size + 1) 2 _ _ HZ3.out
    have u3 := frozen_of_row w3 (w.heap.size + 1) 3 _ _ HZ3.out
    have u4 := frozen_of_row w3 (w.heap.size + 1) 4 _ _ HZ3.out
    have u5 := frozen_of_row w3 (w.heap.size + 1) 5 _ _ HZ3.out
    have u6 := frozen_of_row w3 (w.heap.size + 1) 6 _ _ HZ3.out
    have u7 := frozen_of_row w3 (w.heap.size + 1) 7 _ _ HZ3.out
    have u8 := frozen_of_row w3 (w.heap.size + 1) 8 _ _ HZ3.out
    have u9 := frozen_of_row w3 (w.heap.size + 1) 9 _ _ HZ3.out
    have u10 := frozen_of_row w3 (w.heap.size + 1) 10 _ _ HZ3.out
    simp at z0 z1 z2 z3 z4 z5 z6 z7 z8 z9 z10
    go_wp2
    obtain ⟨e1, e2⟩ := st_fill w3 (w.heap.size + 1) qx (.slice a4 qx.out.length k4) (.slice a5 qx.inn.length k5) (.slice a6 qx.back.length k6) HZ3.out
    refine bodyPost_ret (res_three rfl _ (w.heap.size + 1) rfl qx _ _ _ e1) rfl ?_
    exact ⟨_, _, _, rfl, SOut.fin hT HF.out HB0.out hz0 (Nat.le_succ _) hO e2⟩
  · rw [if_neg hn] at hq hW2
    obtain ⟨rfl, rfl, rfl, rfl⟩ : x = qx ∧ 0 = qc ∧ x.noRead = qe ∧ s = qs := by simpa using hq
    have hT12 := hT2.mono fun k e => (.inr (by have := HOn1.out.gB; omega) : O k ∨ w0.heap.size ≤ k)
    have HF := hide (On.out (O := O) (On.at hT HOn1.out hW2 hT2 HOn1.out.ls) HB1.out (fun _ e => .inl e) hT12)
    obtain ⟨c0, c1, c2, c3, c4, c5, c6, c7, c8, c9, c10, c11⟩ := hW2.cs
    have HZ3 := hide ((hT12.block (w.heap.size + 1) (by omega) (fun e => by rcases e with e | e; exact absurd (hO _ e) (by omega); omega)).trans ((HB1.out.block (w.heap.size + 1) hz0).trans HZ0.out))
    obtain ⟨nw, hnw⟩ : ∃ nw, nw = x.noRead := ⟨_, rfl⟩
    rw [← hnw] at hn ⊢
    have HNw := hide hnw
    have hn2 : (nw != 0) = true := by simp [hn]
    clear hq hW2 hT2 hT12 hnw
    have z0 := cell_of_row w2 (w.heap.size + 1) 0 _ _ _ HZ3.out
    have z1 := cell_of_row w2 (w.heap.size + 1) 1 _ _ _ HZ3.out
    have z2 := cell_of_row w2 (w.heap.size + 1) 2 _ _ _ HZ3.out
    have z3 := cell_of_row w2 (w.heap.size + 1) 3 _ _ _ HZ3.out
    have z4 := cell_of_row w2 (w.heap.size + 1) 4 _ _ _ HZ3.out
    have z5 := cell_of_row w2 (w.heap.size + 1) 5 _ _ _ HZ3.out
    have z6 := cell_of_row w2 (w.heap.size + 1) 6 _ _ _ HZ3.out
    have z7 := cell_of_row w2 (w.heap.size + 1) 7 _ _ _ HZ3.out
    have z8 := cell_of_row w2 (w.heap.size + 1) 8 _ _ _ HZ3.out
    have z9 := cell_of_row w2 (w.heap.size + 1) 9 _ _ _ HZ3.out
    have z10 := cell_of_row w2 (w.heap.size + 1) 10 _ _ _ HZ3.out
    have u0 := frozen_of_row w2 (w.heap.size + 1) 0 _ _ HZ3.out
    have u1 := frozen_of_row w2 (w.heap.size + 1) 1 _ _ HZ3.out
    have u2 := frozen_of_row w2 (w.heap.size + 1) 2 _ _ HZ3.out
    have u3 := frozen_of_row w2 (w.heap.size + 1) 3 _ _ HZ3.out
    have u4 := frozen_of_row w2 (w.heap.size + 1) 4 _ _ HZ3.out
    have u5 := frozen_of_row w2 (w.heap.size + 1) 5 _ _ HZ3.out
    have u6 := frozen_of_row w2 (w.heap.size + 1) 6 _ _ HZ3.out
    have u7 := frozen_of_row w2 (w.heap.size + 1) 7 _ _ HZ3.out
    have u8 := frozen_of_row w2 (w.heap.size + 1) 8 _ _ HZ3.out
    have u9 := frozen_of_row w2 (w.heap.size + 1) 9 _ _ HZ3.out
    have u10 := frozen_of_row w2 (w.heap.size + 1) 10 _ _ HZ3.out
    simp at z0 z1 z2 z3 z4 z5 z6 z7 z8 z9 z10
    go_wp2
    obtain ⟨e1, e2⟩ := st_fill w2 (w.heap.size + 1) x (.slice a1 x.out.length k1) (.slice a2 x.inn.length k2) (.slice a3 x.back.length k3) HZ3.out
    refine bodyPost_ret (res_three rfl _ (w.heap.size + 1) rfl x _ _ _ e1) rfl ?_
    exact ⟨_, _, _, by rw [← HNw.out]; rfl, SOut.fin hT HF.out HB0.out hz0 (Nat.le_succ _) hO e2⟩
theorem sGet_any {S : Type} {D : RawD S} {T : TypeId} {v : Value} {fr fw : FuncId} {rok wok : S → Prop} {At : World → (Nat → Prop) → S → Prop} (R : RawM D T v fr fw rok wok At) (hT : ∀ s, OAt (fun w O => At w O s)) {G : Nat → S → Prop} (hG : Bears D rok wok G) {w : World} {O P : Nat → Prop} {s : S} {x : SS} {o i b : Value} (h : SIn w P x o i b) (hA : At w O s) (hO : ∀ j, O j → j < w.heap.size) (hg : G 2 s) (ho : x.out.length ≤ 140737488351232) (hi : x.inn.length ≤ 140737488351232) (hb : x.back.length ≤ 140737488351232) :
    Calls Try.prog 61 #[.agg #[.bool x.rd, .bool x.wt, .int .i64 x.mode, .int .i64 x.size, o, i, b, .int .i64 x.dir, .bool x.fin, .bool x.bad, .bool x.closed], .iface T v] w fun e w' => ∃ o' i' b', e = .returned (.tuple #[.agg #[.bool (x.get D s).1.rd, .bool (x.get D s).1.wt, .int .i64 (x.get D s).1.mode, .int .i64 (x.get D s).1.size, o', i', b', .int .i64 (x.get D s).1.dir, .bool (x.get D s).1.fin, .bool (x.get D s).1.bad, .bool (x.get D s).1.closed], .int .u8 ((x.get D s).2.1.toNat : Int), .int .i64 (x.get D s).2.2.1]) ∧ SOut At w O (x.get D s).1 (x.get D s).2.2.2 o' i' b' w' :=
  sGetR_any R hT h hA hO (fun m h1 h2 => (hG.some 1 s m hg h1 h2).1) ho hi hb
set_option maxRecDepth 100000 in
set_option maxHeartbeats 4000000 in
theorem sFlush_any {S : Type} {D : RawD S} {T : TypeId} {v : Value} {fr fw : FuncId} {rok wok : S → Prop} {At : World → (Nat → Prop) → S → Prop} (R : RawM D T v fr fw rok wok At) (hT : ∀ s, OAt (fun w O => At w O s)) {G : Nat → S → Prop} (hG : Bears D rok wok G) {w : World} {O P : Nat → Prop} {s : S} {x : SS} {o i b : Value} (h : SIn w P x o i b) (hA : At w O s) (hO : ∀ j, O j → j < w.heap.size) (hg : G 2 s) (ho : x.out.length ≤ 140737488351232) (hi : x.inn.length ≤ 140737488351232) (hb : x.back.length ≤ 140737488351232) :
    Calls Try.prog 81 #[.agg #[.bool x.rd, .bool x.wt, .int .i64 x.mode, .int .i64 x.size, o, i, b, .int .i64 x.dir, .bool x.fin, .bool x.bad, .bool x.closed], .iface T v] w fun e w' => ∃ o' i' b', e = .returned (.tuple #[.agg #[.bool (x.flush D s).1.rd, .bool (x.flush D s).1.wt, .int .i64 (x.flush D s).1.mode, .int .i64 (x.flush D s).1.size, o', i', b', .int .i64 (x.flush D s).1.dir, .bool (x.flush D s).1.fin, .bool (x.flush D s).1.bad, .bool (x.flush D s).1.closed], .int .i64 (x.flush D s).2.1]) ∧ SOut At w O (x.flush D s).1 (x.flush D s).2.2 o' i' b' w' := by
  have HWx := hide (fun (W : World) (hW : Below w.heap.size w W) => onWay_any x o i b P (.iface T v) W (h.below hW) ho hi hb (.inr ⟨T, v, rfl⟩))
  obtain ⟨oa, oc, rfl, -⟩ := h.so
  obtain ⟨ia, ic, rfl, -⟩ := h.si
  obtain ⟨ba, bc, rfl, -⟩ := h.sb
  clear h
  generalize hq : x.flush D s = q
  obtain ⟨qx, qe, qs⟩ := q
  unfold SS.flush at hq
  go_enter Try.func81, Try.ntmps81
  go_wp2_with fail
  have HB0 := hide ((recv_below w (Obj.cells #[.bool x.rd, .bool x.wt, .int .i64 x.mode, .int .i64 x.size, .slice oa x.out.length oc, .slice ia x.inn.length ic, .slice ba x.back.length bc, .int .i64 x.dir, .bool x.fin, .bool x.bad, .bool x.closed] 35)).trans ((recv_below (w.alloc (Obj.cells #[.bool x.rd, .bool x.wt, .int .i64 x.mode, .int .i64 x.size, .slice oa x.out.length oc, .slice ia x.inn.length ic, .slice ba x.back.length bc, .int .i64 x.dir, .bool x.fin, .bool x.bad, .bool x.closed] 35)) (Obj.cells #[.bool false, .bool false, .int .i64 0, .int .i64 0, .slice none 0 0, .slice none 0 0, .slice none 0 0, .int .i64 0, .bool false, .bool false, .bool false] 35)).mono (recv_below w (Obj.cells #[.bool x.rd, .bool x.wt, .int .i64 x.mode, .int .i64 x.size, .slice oa x.out.length oc, .slice ia x.inn.length ic, .slice ba x.back.length bc, .int .i64 x.dir, .bool x.fin, .bool x.bad, .bool x.closed] 35)).size))
  have HZ0 : Hid (((w.alloc (Obj.cells #[.bool x.rd, .bool x.wt, .int .i64 x.mode, .int .i64 x.size, .slice oa x.out.length oc, .slice ia x.inn.length ic, .slice ba x.back.length bc, .int .i64 x.dir, .bool x.fin, .bool x.bad, .bool x.closed] 35)).alloc (Obj.cells #[.bool false, .bool false, .int .i64 0, .int .i64 0, .slice none 0 0, .slice none 0 0, .slice none 0 0, .int .i64 0, .bool false, .bool false, .bool false] 35)).heap[w.heap.size + 1]? = some (Obj.cells #[.bool false, .bool false, .int .i64 0, .int .i64 0, .slice none 0 0, .slice none 0 0, .slice none 0 0, .int .i64 0, .bool false, .bool false, .bool false] 35)) := hide (by have := heap_alloc_new (w.alloc (Obj.cells #[.bool x.rd, .bool x.wt, .int .i64 x.mode, .int .i64 x.size, .slice oa x.out.length oc, .slice ia x.inn.length ic, .slice ba x.back.length bc, .int .i64 x.dir, .bool x.fin, .bool x.bad, .bool x.closed] 35)) (Obj.cells #[.bool false, .bool false, .int .i64 0, .int .i64 0, .slice none 0 0, .slice none 0 0, .slice none 0 0, .int .i64 0, .bool false, .bool false, .bool false] 35); rw [show (w.alloc (Obj.cells #[.bool x.rd, .bool x.wt, .int .i64 x.mode, .int .i64 x.size, .slice oa x.out.length oc, .slice ia x.inn.length ic, .slice ba x.back.length bc, .int .i64 x.dir, .bool x.fin, .bool x.bad, .bool x.closed] 35)).heap.size = w.heap.size + 1 from Array.size_push ..] at this; exact this)
  generalize (w.alloc (Obj.cells #[.bool x.rd, .bool x.wt, .int .i64 x.mode, .int .i64 x.size, .slice oa x.out.length oc, .slice ia x.inn.length ic, .slice ba x.back.length bc, .int .i64 x.dir, .bool x.fin, .bool x.bad, .bool x.closed] 35)).alloc (Obj.cells #[.bool false, .bool false, .int .i64 0, .int .i64 0, .slice none 0 0, .slice none 0 0, .slice none 0 0, .int .i64 0, .bool false, .bool false, .bool false] 35) = w0 at *
  have hz0 : w.heap.size + 1 < w0.heap.size := (Array.getElem?_eq_some_iff.1 HZ0.out).1
  refine (HWx.out _ HB0.out).mono ?_
  rintro _ w1 ⟨g, o1, i1, b1, rfl, y1, y2, y3, y4, y5, y6, hB1⟩
  obtain ⟨a1, k1, rfl⟩ := owns_slice y3
  obtain ⟨a2, k2, rfl⟩ := owns_slice y4
  obtain ⟨a3, k3, rfl⟩ := owns_slice y5
  have HOn1 := hide (On.begin hT ((hT s).keep hA (fun j _ hj => HB0.out.block j hj) HB0.out.size) (fun j e => Nat.lt_of_lt_of_le (hO j e) HB0.out.size) y1 y2 y3 y4 y5 y6 hB1)
  have HTu := hide (wrefusal_any x g a1 a2 a3 k1 k2 k3 T v w1 y1 hi hb)
  have HOw := hide y3
  have HB1 := hide hB1
  have hz1 := hB1.size
  clear y1 y2 y3 y4 y5 y6 hB1 HWx
  go_wp2_with fail
  refine HTu.out.mono ?_
  rintro _ w2 ⟨rfl, hB2⟩
  have hz2 := hB2.size
  have hOn2 := On.below hT HOn1.out hB2
  have HT2 := hide (Turned.of_below (S := fun k => O k ∨ w0.heap.size ≤ k) hB2)
  by_cases hn : x.refuse true = 0
  case neg =>
    rw [if_pos hn] at hq
    obtain ⟨rfl, rfl, rfl⟩ : x = qx ∧ x.refuse true = qe ∧ s = qs := by simpa using hq
    have HF := hide (On.out (O := O) hOn2 HB1.out (fun _ e => .inl e) HT2.out)
    obtain ⟨c0, c1, c2, c3, c4, c5, c6, c7, c8, c9, c10, c11⟩ := hOn2.way.cs
    have HZ3 := hide ((HT2.out.block (w.heap.size + 1) (by omega) (fun e => by rcases e with e | e; exact absurd (hO _ e) (by omega); omega)).trans ((HB1.out.block (w.heap.size + 1) hz0).trans HZ0.out))
    obtain ⟨nw, hnw⟩ : ∃ nw, nw = x.refuse true := ⟨_, rfl⟩
    rw [← hnw] at hn ⊢
    have HNw := hide hnw
    have hn2 : (nw == 0) = false := by simp [hn]
    clear hq hOn2 hB2 hnw
    have z0 := cell_of_row w2 (w.heap.size + 1) 0 _ _ _ HZ3.out
    have z1 := cell_of_row w2 (w.heap.size + 1) 1 _ _ _ HZ3.out
    have z2 := cell_of_row w2 (w.heap.size + 1) 2 _ _ _ HZ3.out
    have z3 := cell_of_row w2 (w.heap.size + 1) 3 _ _ _ HZ3.out
    have z4 := cell_of_row w2 (w.heap.size + 1) 4 _ _ _ HZ3.out
    have z5 := cell_of_row w2 (w.heap.size + 1) 5 _ _ _ HZ3.out
    have z6 := cell_of_row w2 (w.heap.size + 1) 6 _ _ _ HZ3.out
    have z7 := cell_of_row w2 (w.heap.size + 1) 7 _ _ _ HZ3.out
    have z8 := cell_of_row w2 (w.heap.size + 1) 8 _ _ _ HZ3.out
    have z9 := cell_of_row w2 (w.heap.size + 1) 9 _ _ _ HZ3.out
    have z10 := cell_of_row w2 (w.heap.size + 1) 10 _ _ _ HZ3.out
    have u0 := frozen_of_row w2 (w.heap.size + 1) 0 _ _ HZ3.out
    have u1 := frozen_of_row w2 (w.heap.size + 1) 1 _ _ HZ3.out
    have u2 := frozen_of_row w2 (w.heap.size + 1) 2 _ _ HZ3.out
    have u3 := frozen_of_row w2 (w.heap.size + 1) 3 _ _ HZ3.out
    have u4 := frozen_of_row w2 (w.heap.size + 1) 4 _ _ HZ3.out
    have u5 := frozen_of_row w2 (w.heap.size + 1) 5 _ _ HZ3.out
    have u6 := frozen_of_row w2 (w.heap.size + 1) 6 _ _ HZ3.out
    have u7 := frozen_of_row w2 (w.heap.size + 1) 7 _ _ HZ3.out
    have u8 := frozen_of_row w2 (w.heap.size + 1) 8 _ _ HZ3.out
    have u9 := frozen_of_row w2 (w.heap.size + 1) 9 _ _ HZ3.out
    have u10 := frozen_of_row w2 (w.heap.size + 1) 10 _ _ HZ3.out
    simp at z0 z1 z2 z3 z4 z5 z6 z7 z8 z9 z10
    go_wp2
    obtain ⟨e1, e2⟩ := st_fill w2 (w.heap.size + 1) x (.slice a1 x.out.length k1) (.slice a2 x.inn.length k2) (.slice a3 x.back.length k3) HZ3.out
    refine bodyPost_ret (res_two rfl _ (w.heap.size + 1) rfl x _ _ _ e1) rfl ?_
    exact ⟨_, _, _, by rw [← HNw.out]; rfl, SOut.fin hT HF.out HB0.out hz0 (Nat.le_succ _) hO e2⟩
  rw [if_neg (by simp [hn])] at hq
  rw [hn]
  obtain ⟨m1, m2, m3, m4, m5, m6, m7, m8⟩ := may_buf (refuse_may hn).1
  have hput := (hG.put 1 s x.out hg (by omega)).1
  by_cases hd : x.dir = 2
  · rw [if_pos hd] at hq
    have HP := hide (flush_any R hT hOn2 (by omega) hput)
    have HOn2 := hide hOn2
    have hd7 := hOn2.way.cs.2.2.2.2.2.2.2.1
    rw [hd] at hd7
    have hv : (if (x.deliver D s).2.1 = 0 then { (x.deliver D s).1 with dir := 0 } else (x.deliver D s).1) = qx ∧ (x.deliver D s).2.1 = qe ∧ (x.deliver D s).2.2 = qs := by
      by_cases hde : (x.deliver D s).2.1 = 0
      · rw [if_pos hde] at hq ⊢
        simp only [Prod.mk.injEq] at hq
        exact ⟨hq.1, by rw [hde]; exact hq.2.1, hq.2.2⟩
      · rw [if_neg hde] at hq ⊢
        rw [hq]
        exact ⟨rfl, rfl, rfl⟩
    rw [hv.1, hv.2.1, hv.2.2] at HP
    clear hOn2 hB2 hq m1 m2 m3 m4 m5 m6 m7 m8 hput hn hv hd
    go_wp2_with fail
    refine HP.out.mono ?_
    rintro _ w3 ⟨rfl, o3, i3, b3, O3, hOn3, hO3, hT3⟩
    obtain ⟨a4, k4, rfl, -⟩ := hOn3.ls.so
    obtain ⟨a5, k5, rfl, -⟩ := hOn3.ls.si
    obtain ⟨a6, k6, rfl, -⟩ := hOn3.ls.sb
    obtain ⟨c0, c1, c2, c3, c4, c5, c6, c7, c8, c9, c10, c11⟩ := hOn3.way.cs
    have hT13 := HT2.out.trans hT3 (fun _ _ e => e)
    have HF := hide (On.out hOn3 HB1.out (fun k e => (hO3 k e).imp id (fun e => by omega)) hT13)
    have HZ3 := hide ((hT13.block (w.heap.size + 1) (by omega) (fun e => by rcases e with e | e; exact absurd (hO _ e) (by omega); omega)).trans ((HB1.out.block (w.heap.size + 1) hz0).trans HZ0.out))
    clear hOn3 hO3 hT3 hT13
    have z0 := cell_of_row w3 (w.heap.size + 1) 0 _ _ _ HZ3.out
    have z1 := cell_of_row w3 (w.heap.size + 1) 1 _ _ _ HZ3.out
    have z2 := cell_of_row w3 (w.heap.size + 1) 2 _ _ _ HZ3.out
    have z3 := cell_of_row w3 (w.heap.size + 1) 3 _ _ _ HZ3.out
    have z4 := cell_of_row w3 (w.heap.size + 1) 4 _ _ _ HZ3.out
    have z5 := cell_of_row w3 (w.heap.size + 1) 5 _ _ _ HZ3.out
    have z6 := cell_of_row w3 (w.heap.size + 1) 6 _ _ _ HZ3.out
    have z7 := cell_of_row w3 (w.heap.size + 1) 7 _ _ _ HZ3.out
    have z8 := cell_of_row w3 (w.heap.size + 1) 8 _ _ _ HZ3.out
    have z9 := cell_of_row w3 (w.heap.size + 1) 9 _ _ _ HZ3.out
    have z10 := cell_of_row w3 (w.heap.size + 1) 10 _ _ _ HZ3.out
    have u0 := frozen_of_row w3 (w.heap.size + 1) 0 _ _ HZ3.out
    have u1 := frozen_of_row w3 (w.heap.size + 1) 1 _ _ HZ3.out
    have u2 := frozen_of_row w3 (w.heap.size + 1) 2 _ _ HZ3.out
    have u3 := frozen_of_row w3 (w.heap.size + 1) 3 _ _ HZ3.out
    have u4 := frozen_of_row w3 (w.heap.size + 1) 4 _ _ HZ3.out
    have u5 := frozen_of_row w3 (w.heap.size + 1) 5 _ _ HZ3.out
    have u6 := frozen_of_row w3 (w.heap.size + 1) 6 _ _ HZ3.out
    have u7 := frozen_of_row w3 (w.heap.size + 1) 7 _ _ HZ3.out
    have u8 := frozen_of_row w3 (w.heap.size + 1) 8 _ _ HZ3.out
    have u9 := frozen_of_row w3 (w.heap.size + 1) 9 _ _ HZ3.out
    have u10 := frozen_of_row w3 (w.heap.size + 1) 10 _ _ HZ3.out
    simp at z0 z1 z2 z3 z4 z5 z6 z7 z8 z9 z10
    go_wp2
    obtain ⟨e1, e2⟩ := st_fill w3 (w.heap.size + 1) qx (.slice a4 qx.out.length k4) (.slice a5 qx.inn.length k5) (.slice a6 qx.back.length k6) HZ3.out
    refine bodyPost_ret (res_two rfl _ (w.heap.size + 1) rfl qx _ _ _ e1) rfl ?_
    exact ⟨_, _, _, rfl, SOut.fin hT HF.out HB0.out hz0 (Nat.le_succ _) hO e2⟩
  · rw [if_neg hd] at hq
    obtain ⟨rfl, rfl, rfl⟩ : x = qx ∧ 0 = qe ∧ s = qs := by simpa using hq
    have HF := hide (On.out (O := O) hOn2 HB1.out (fun _ e => .inl e) HT2.out)
    obtain ⟨c0, c1, c2, c3, c4, c5, c6, c7, c8, c9, c10, c11⟩ := hOn2.way.cs
    have HZ3 := hide ((HT2.out.block (w.heap.size + 1) (by omega) (fun e => by rcases e with e | e; exact absurd (hO _ e) (by omega); omega)).trans ((HB1.out.block (w.heap.size + 1) hz0).trans HZ0.out))
    have hd2 : (x.dir == 2) = false := by simp [hd]
    clear hq hOn2 hB2 m1 m2 m3 m4 m5 m6 m7 m8 hput hn
    have z0 := cell_of_row w2 (w.heap.size + 1) 0 _ _ _ HZ3.out
    have z1 := cell_of_row w2 (w.heap.size + 1) 1 _ _ _ HZ3.out
    have z2 := cell_of_row w2 (w.heap.size + 1) 2 _ _ _ HZ3.out
    have z3 := cell_of_row w2 (w.heap.size + 1) 3 _ _ _ HZ3.out
    have z4 := cell_of_row w2 (w.heap.size + 1) 4 _ _ _ HZ3.out
    have z5 := cell_of_row w2 (w.heap.size + 1) 5 _ _ _ HZ3.out
    have z6 := cell_of_row w2 (w.heap.size + 1) 6 _ _ _ HZ3.out
    have z7 := cell_of_row w2 (w.heap.size + 1) 7 _ _ _ HZ3.out
    have z8 := cell_of_row w2 (w.heap.size + 1) 8 _ _ _ HZ3.out
    have z9 := cell_of_row w2 (w.heap.size + 1) 9 _ _ _ HZ3.out
    have z10 := cell_of_row w2 (w.heap.size + 1) 10 _ _ _ HZ3.out
    have u0 := frozen_of_row w2 (w.heap.size + 1) 0 _ _ HZ3.out
    have u1 := frozen_of_row w2 (w.heap.size + 1) 1 _ _ HZ3.out
    have u2 := frozen_of_row w2 (w.heap.size + 1) 2 _ _ HZ3.out
    have u3 := frozen_of_row w2 (w.heap.size + 1) 3 _ _ HZ3.out
    have u4 := frozen_of_row w2 (w.heap.size + 1) 4 _ _ HZ3.out
    have u5 := frozen_of_row w2 (w.heap.size + 1) 5 _ _ HZ3.out
    have u6 := frozen_of_row w2 (w.heap.size + 1) 6 _ _ HZ3.out
    have u7 := frozen_of_row w2 (w.heap.size + 1) 7 _ _ HZ3.out
    have u8 := frozen_of_row w2 (w.heap.size + 1) 8 _ _ HZ3.out
    have u9 := frozen_of_row w2 (w.heap.size + 1) 9 _ _ HZ3.out
    have u10 := frozen_of_row w2 (w.heap.size + 1) 10 _ _ HZ3.out
    simp at z0 z1 z2 z3 z4 z5 z6 z7 z8 z9 z10
    go_wp2
    obtain ⟨e1, e2⟩ := st_fill w2 (w.heap.size + 1) x (.slice a1 x.out.length k1) (.slice a2 x.inn.length k2) (.slice a3 x.back.length k3) HZ3.out
    refine bodyPost_ret (res_two rfl _ (w.heap.size + 1) rfl x _ _ _ e1) rfl ?_
    exact ⟨_, _, _, rfl, SOut.fin hT HF.out HB0.out hz0 (Nat.le_succ _) hO e2⟩
set_option maxRecDepth 100000 in
set_option maxHeartbeats 4000000 in
theorem sClose_any {S : Type} {D : RawD S} {T : TypeId} {v : Value} {fr fw : FuncId} {rok wok : S → Prop} {At : World → (Nat → Prop) → S → Prop} (R : RawM D T v fr fw rok wok At) (hT : ∀ s, OAt (fun w O => At w O s)) {G : Nat → S → Prop} (hG : Bears D rok wok G) {w : World} {O P : Nat → Prop} {s : S} {x : SS} {o i b : Value} (h : SIn w P x o i b) (hA : At w O s) (hO : ∀ j, O j → j < w.heap.size) (hg : G 2 s) (ho : x.out.length ≤ 140737488351232) (hi : x.inn.length ≤ 140737488351232) (hb : x.back.length ≤ 140737488351232) :
    Calls Try.prog 13 #[.agg #[.bool x.rd, .bool x.wt, .int .i64 x.mode, .int .i64 x.size, o, i, b, .int .i64 x.dir, .bool x.fin, .bool x.bad, .bool x.closed], .iface T v] w fun e w' => ∃ o' i' b', e = .returned (.tuple #[.agg #[.bool (x.close D s).1.rd, .bool (x.close D s).1.wt, .int .i64 (x.close D s).1.mode, .int .i64 (x.close D s).1.size, o', i', b', .int .i64 (x.close D s).1.dir, .bool (x.close D s).1.fin, .bool (x.close D s).1.bad, .bool (x.close D s).1.closed], .int .i64 (x.close D s).2.1]) ∧ SOut At w O (x.close D s).1 (x.close D s).2.2 o' i' b' w' := by
  have HWx := hide (fun (W : World) (hW : Below w.heap.size w W) => onWay_any x o i b P (.iface T v) W (h.below hW) ho hi hb (.inr ⟨T, v, rfl⟩))
  obtain ⟨oa, oc, rfl, -⟩ := h.so
  obtain ⟨ia, ic, rfl, -⟩ := h.si
  obtain ⟨ba, bc, rfl, -⟩ := h.sb
  clear h
  generalize hq : x.close D s = q
  obtain ⟨qx, qe, qs⟩ := q
  unfold SS.close at hq
  go_enter Try.func13, Try.ntmps13
  go_wp2_with fail
  have HB0 := hide ((recv_below w (Obj.cells #[.bool x.rd, .bool x.wt, .int .i64 x.mode, .int .i64 x.size, .slice oa x.out.length oc, .slice ia x.inn.length ic, .slice ba x.back.length bc, .int .i64 x.dir, .bool x.fin, .bool x.bad, .bool x.closed] 35)).trans ((recv_below (w.alloc (Obj.cells #[.bool x.rd, .bool x.wt, .int .i64 x.mode, .int .i64 x.size, .slice oa x.out.length oc, .slice ia x.inn.length ic, .slice ba x.back.length bc, .int .i64 x.dir, .bool x.fin, .bool x.bad, .bool x.closed] 35)) (Obj.cells #[.bool false, .bool false, .int .i64 0, .int .i64 0, .slice none 0 0, .slice none 0 0, .slice none 0 0, .int .i64 0, .bool false, .bool false, .bool false] 35)).mono (recv_below w (Obj.cells #[.bool x.rd, .bool x.wt, .int .i64 x.mode, .int .i64 x.size, .slice oa x.out.length oc, .slice ia x.inn.length ic, .slice ba x.back.length bc, .int .i64 x.dir, .bool x.fin, .bool x.bad, .bool x.closed] 35)).size))
  have HZ0 : Hid (((w.alloc (Obj.cells #[.bool x.rd, .bool x.wt, .int .i64 x.mode, .int .i64 x.size, .slice oa x.out.length oc, .slice ia x.inn.length ic, .slice ba x.back.length bc, .int .i64 x.dir, .bool x.fin, .bool x.bad, .bool x.closed] 35)).alloc (Obj.cells #[.bool false, .bool false, .int .i64 0, .int .i64 0, .slice none 0 0, .slice none 0 0, .slice none 0 0, .int .i64 0, .bool false, .bool false, .bool false] 35)).heap[w.heap.size + 1]? = some (Obj.cells #[.bool false, .bool false, .int .i64 0, .int .i64 0, .slice none 0 0, .slice none 0 0, .slice none 0 0, .int .i64 0, .bool false, .bool false, .bool false] 35)) := hide (by have := heap_alloc_new (w.alloc (Obj.cells #[.bool x.rd, .bool x.wt, .int .i64 x.mode, .int .i64 x.size, .slice oa x.out.length oc, .slice ia x.inn.length ic, .slice ba x.back.length bc, .int .i64 x.dir, .bool x.fin, .bool x.bad, .bool x.closed] 35)) (Obj.cells #[.bool false, .bool false, .int .i64 0, .int .i64 0, .slice none 0 0, .slice none 0 0, .slice none 0 0, .int .i64 0, .bool false, .bool false, .bool false] 35); rw [show (w.alloc (Obj.cells #[.bool x.rd, .bool x.wt, .int .i64 x.mode, .int .i64 x.size, .slice oa x.out.length oc, .slice ia x.inn.length ic, .slice ba x.back.length bc, .int .i64 x.dir, .bool x.fin, .bool x.bad, .bool x.closed] 35)).heap.size = w.heap.size + 1 from Array.size_push ..] at this; exact this)
  generalize (w.alloc (Obj.cells #[.bool x.rd, .bool x.wt, .int .i64 x.mode, .int .i64 x.size, .slice oa x.out.length oc, .slice ia x.inn.length ic, .slice ba x.back.length bc, .int .i64 x.dir, .bool x.fin, .bool x.bad, .bool x.closed] 35)).alloc (Obj.cells #[.bool false, .bool false, .int .i64 0, .int .i64 0, .slice none 0 0, .slice none 0 0, .slice none 0 0, .int .i64 0, .bool false, .bool false, .bool false] 35) = w0 at *
  have hz0 : w.heap.size + 1 < w0.heap.size := (Array.getElem?_eq_some_iff.1 HZ0.out).1
  refine (HWx.out _ HB0.out).mono ?_
  rintro _ w1 ⟨g, o1, i1, b1, rfl, y1, y2, y3, y4, y5, y6, hB1⟩
  obtain ⟨a1, k1, rfl⟩ := owns_slice y3
  obtain ⟨a2, k2, rfl⟩ := owns_slice y4
  obtain ⟨a3, k3, rfl⟩ := owns_slice y5
  have HOn1 := hide (On.begin hT ((hT s).keep hA (fun j _ hj => HB0.out.block j hj) HB0.out.size) (fun j e => Nat.lt_of_lt_of_le (hO j e) HB0.out.size) y1 y2 y3 y4 y5 y6 hB1)
  have HTu := hide (wrefusal_any x g a1 a2 a3 k1 k2 k3 T v w1 y1 hi hb)
  have HOw := hide y3
  have HB1 := hide hB1
  have hz1 := hB1.size
  clear y1 y2 y3 y4 y5 y6 hB1 HWx
  go_wp2_with fail
  refine HTu.out.mono ?_
  rintro _ w2 ⟨rfl, hB2⟩
  have hz2 := hB2.size
  have hOn2 := On.below hT HOn1.out hB2
  have HT2 := hide (Turned.of_below (S := fun k => O k ∨ w0.heap.size ≤ k) hB2)
  by_cases hn : x.refuse true = 0
  case neg =>
    rw [if_pos hn] at hq
    obtain ⟨rfl, rfl, rfl⟩ : x = qx ∧ x.refuse true = qe ∧ s = qs := by simpa using hq
    have HF := hide (On.out (O := O) hOn2 HB1.out (fun _ e => .inl e) HT2.out)
    obtain ⟨c0, c1, c2, c3, c4, c5, c6, c7, c8, c9, c10, c11⟩ := hOn2.way.cs
    have HZ3 := hide ((HT2.out.block (w.heap.size + 1) (by omega) (fun e => by rcases e with e | e; exact absurd (hO _ e) (by omega); omega)).trans ((HB1.out.block (w.heap.size + 1) hz0).trans HZ0.out))
    obtain ⟨nw, hnw⟩ : ∃ nw, nw = x.refuse true := ⟨_, rfl⟩
    rw [← hnw] at hn ⊢
    have HNw := hide hnw
    have hn2 : (nw == 0) = false := by simp [hn]
    clear hq hOn2 hB2 hnw
    have z0 := cell_of_row w2 (w.heap.size + 1) 0 _ _ _ HZ3.out
    have z1 := cell_of_row w2 (w.heap.size + 1) 1 _ _ _ HZ3.out
    have z2 := cell_of_row w2 (w.heap.size + 1) 2 _ _ _ HZ3.out
    have z3 := cell_of_row w2 (w.heap.size + 1) 3 _ _ _ HZ3.out
    have z4 := cell_of_row w2 (w.heap.size + 1) 4 _ _ _ HZ3.out
    have z5 := cell_of_row w2 (w.heap.size + 1) 5 _ _ _ HZ3.out
    have z6 := cell_of_row w2 (w.heap.size + 1) 6 _ _ _ HZ3.out
    have z7 := cell_of_row w2 (w.heap.size + 1) 7 _ _ _ HZ3.out
    have z8 := cell_of_row w2 (w.heap.size + 1) 8 _ _ _ HZ3.out
    have z9 := cell_of_row w2 (w.heap.size + 1) 9 _ _ _ HZ3.out
    have z10 := cell_of_row w2 (w.heap.size + 1) 10 _ _ _ HZ3.out
    have u0 := frozen_of_row w2 (w.heap.size + 1) 0 _ _ HZ3.out
    have u1 := frozen_of_row w2 (w.heap.size + 1) 1 _ _ HZ3.out
    have u2 := frozen_of_row w2 (w.heap.size + 1) 2 _ _ HZ3.out
    have u3 := frozen_of_row w2 (w.heap.size + 1) 3 _ _ HZ3.out
    have u4 := frozen_of_row w2 (w.heap.size + 1) 4 _ _ HZ3.out
    have u5 := frozen_of_row w2 (w.heap.size + 1) 5 _ _ HZ3.out
    have u6 := frozen_of_row w2 (w.heap.size + 1) 6 _ _ HZ3.out
    have u7 := frozen_of_row w2 (w.heap.size + 1) 7 _ _ HZ3.out
    have u8 := frozen_of_row w2 (w.heap.size + 1) 8 _ _ HZ3.out
    have u9 := frozen_of_row w2 (w.heap.size + 1) 9 _ _ HZ3.out
    have u10 := frozen_of_row w2 (w.heap.size + 1) 10 _ _ HZ3.out
    simp at z0 z1 z2 z3 z4 z5 z6 z7 z8 z9 z10
    go_wp2
    obtain ⟨e1, e2⟩ := st_fill w2 (w.heap.size + 1) x (.slice a1 x.out.length k1) (.slice a2 x.inn.length k2) (.slice a3 x.back.length k3) HZ3.out
    refine bodyPost_ret (res_two rfl _ (w.heap.size + 1) rfl x _ _ _ e1) rfl ?_
    exact ⟨_, _, _, by rw [← HNw.out]; rfl, SOut.fin hT HF.out HB0.out hz0 (Nat.le_succ _) hO e2⟩
  rw [if_neg (by simp [hn])] at hq
  rw [hn]
  obtain ⟨m1, m2, m3, m4, m5, m6, m7, m8⟩ := may_buf (refuse_may hn).1
  have hput := (hG.put 1 s x.out hg (by omega)).1
  have HP := hide (wclose_any R hT hOn2 (by omega) hput)
  have HOn2 := hide hOn2
  have hv : (x.deliver D s).1.shut = qx ∧ (x.deliver D s).2.1 = qe ∧ (x.deliver D s).2.2 = qs := by
    simp only [Prod.mk.injEq] at hq
    exact hq
  rw [hv.1, hv.2.1, hv.2.2] at HP
  clear hv
  clear hOn2 hB2 hq m1 m2 m3 m4 m5 m6 m7 m8 hput hn
  go_wp2_with fail
  refine HP.out.mono ?_
  rintro _ w3 ⟨rfl, o3, i3, b3, O3, hOn3, hO3, hT3⟩
  obtain ⟨a4, k4, rfl, -⟩ := hOn3.ls.so
  obtain ⟨a5, k5, rfl, -⟩ := hOn3.ls.si
  obtain ⟨a6, k6, rfl, -⟩ := hOn3.ls.sb
  obtain ⟨c0, c1, c2, c3, c4, c5, c6, c7, c8, c9, c10, c11⟩ := hOn3.way.cs
  have hT13 := HT2.out.trans hT3 (fun _ _ e => e)
  have HF := hide (On.out hOn3 HB1.out (fun k e => (hO3 k e).imp id (fun e => by omega)) hT13)
  have HZ3 := hide ((hT13.block (w.heap.size + 1) (by omega) (fun e => by rcases e with e | e; exact absurd (hO _ e) (by omega); omega)).trans ((HB1.out.block (w.heap.size + 1) hz0).trans HZ0.out))
  clear hOn3 hO3 hT3 hT13
  have z0 := cell_of_row w3 (w.heap.size + 1) 0 _ _ _ HZ3.out
  have z1 := cell_of_row w3 (w.heap.size + 1) 1 _ _ _ HZ3.out
  have z2 := cell_of_row w3 (w.heap.size + 1) 2 _ _ _ HZ3.out
  have z3 := cell_of_row w3 (w.heap.size + 1) 3 _ _ _ HZ3.out
  have z4 := cell_of_row w3 (w.heap.size + 1) 4 _ _ _ HZ3.out
  have z5 := cell_of_row w3 (w.heap.size + 1) 5 _ _ _ HZ3.out
  have z6 := cell_of_row w3 (w.heap.size + 1) 6 _ _ _ HZ3.out
  have z7 := cell_of_row w3 (w.heap.size + 1) 7 _ _ _ HZ3.out
  have z8 := cell_of_row w3 (w.heap.size + 1) 8 _ _ _ HZ3.out
  have z9 := cell_of_row w3 (w.heap.size + 1) 9 _ _ _ HZ3.out
  have z10 := cell_of_row w3 (w.heap.size + 1) 10 _ _ _ HZ3.out
  have u0 := frozen_of_row w3 (w.heap.size + 1) 0 _ _ HZ3.out
  have u1 := frozen_of_row w3 (w.heap.size + 1) 1 _ _ HZ3.out
  have u2 := frozen_of_row w3 (w.heap.size + 1) 2 _ _ HZ3.out
  have u3 := frozen_of_row w3 (w.heap.size + 1) 3 _ _ HZ3.out
  have u4 := frozen_of_row w3 (w.heap.size + 1) 4 _ _ HZ3.out
  have u5 := frozen_of_row w3 (w.heap.size + 1) 5 _ _ HZ3.out
  have u6 := frozen_of_row w3 (w.heap.size + 1) 6 _ _ HZ3.out
  have u7 := frozen_of_row w3 (w.heap.size + 1) 7 _ _ HZ3.out
  have u8 := frozen_of_row w3 (w.heap.size + 1) 8 _ _ HZ3.out
  have u9 := frozen_of_row w3 (w.heap.size + 1) 9 _ _ HZ3.out
  have u10 := frozen_of_row w3 (w.heap.size + 1) 10 _ _ HZ3.out
  simp at z0 z1 z2 z3 z4 z5 z6 z7 z8 z9 z10
  go_wp2
  obtain ⟨e1, e2⟩ := st_fill w3 (w.heap.size + 1) qx (.slice a4 qx.out.length k4) (.slice a5 qx.inn.length k5) (.slice a6 qx.back.length k6) HZ3.out
  refine bodyPost_ret (res_two rfl _ (w.heap.size + 1) rfl qx _ _ _ e1) rfl ?_
  exact ⟨_, _, _, rfl, SOut.fin hT HF.out HB0.out hz0 (Nat.le_succ _) hO e2⟩
end Go.Proofs.Ytgbkhmiphaefgaa

/- Streams over memory that grows. -/
namespace Go.Proofs.Ytgbkhmiphaefgaa
open Go.RowKit

theorem someOk_true {S : Type} (D : RawD S) (n : Nat) : ∀ k s, someOk D (fun _ => True) n k s
  | 0, _ => trivial
  | k + 1, _ => ⟨trivial, fun _ => someOk_true D n k _⟩
theorem putOk_true {S : Type} (D : RawD S) (bs : List UInt8) : ∀ k s d t, putOk D (fun _ => True) bs k s d t
  | 0, _, _, _ => trivial
  | k + 1, _, _, _ => fun _ => ⟨trivial, fun _ _ => putOk_true D bs k _ _ _, fun _ _ _ => putOk_true D bs k _ _ _⟩
theorem bears_true {S : Type} (D : RawD S) : Bears D (fun _ => True) (fun _ => True) (fun _ _ => True) := ⟨fun _ s bs _ _ => ⟨putOk_true D bs _ s _ _, trivial⟩, fun _ s m _ _ _ => ⟨someOk_true D m _ s, trivial⟩, fun _ _ h => h⟩
def msR : RawD MS := ⟨fun S n => S.read n, fun S x => S.write x⟩
theorem gmem_o (g : Nat) (S : MS) : OAt (fun w O => MemAt w O g S) := ⟨fun h hk _ => h.keep hk, fun h => h.trim⟩
theorem piece_le (l : List UInt8) (p n : Nat) : (piece l p n).length ≤ l.length := by
  unfold piece
  simp
  omega
theorem gro_rawP (g : Nat) : RawP msR 31 (.pointer (some ⟨g, 0, none⟩)) 105 106 (fun _ => True) (fun _ => True) (fun w O S => MemAt w O g S) where
  mread w := by kernel_rfl
  mwrite w := by kernel_rfl
  cread a w := by kernel_rfl
  cwrite a w := by kernel_rfl
  keep h hk _ := h.keep hk
  few {w O s} n h := by
    have := h.ok
    show (s.read n).1.length ≤ _
    unfold MS.read
    split
    · have := piece_le s.l s.pl (n : Int).toNat
      simp only
      omega
    · simp
  read n h _ _ _ := (gmread_any _ g _ n _ h).mono fun _ _ e => view_own e
  write bs a c h _ hb hc _ _ hap := gmwrite_any _ g _ bs a c _ h hb hc (fun _ => hap)
theorem gro_raw (g : Nat) : RawM msR 31 (.pointer (some ⟨g, 0, none⟩)) 105 106 (fun _ => True) (fun _ => True) (fun w O S => MemAt w O g S) := (gro_rawP g).gen
theorem lay_tail (l x : List UInt8) : lay l l.length x = l ++ x := by
  unfold lay
  split
  · rename_i h; subst h; simp
  · have h1 : grow l (l.length + x.length) = l ++ List.replicate x.length 0 := by
      unfold grow
      rw [show l.length + x.length - l.length = x.length by omega]
    rw [h1, List.take_left, List.drop_eq_nil_of_le (by simp), List.append_nil]
theorem ms_put (S : MS) (bs : List UInt8) (h1 : S.pl = S.l.length) (h2 : S.room = 1048576) (h3 : S.l.length + bs.length ≤ 1048576) : putV msR bs (putF bs) S 0 0 = (bs.length, 0, ⟨S.l ++ bs, 1048576, S.l.length + bs.length⟩) := by
  obtain ⟨l, room, pl⟩ := S
  simp only at h1 h2 h3
  subst h1 h2
  by_cases h0 : bs = []
  · subst h0
    rw [putV_done _ _ _ _ _ _ (by simp)]
    simp
  have hpos : 0 < bs.length := List.length_pos_iff.2 h0
  have hw : msR.write ⟨l, 1048576, l.length⟩ (bs.drop 0) = ((bs.length : Int), 0, ⟨l ++ bs, 1048576, l.length + bs.length⟩) := by
    show MS.write _ (bs.drop 0) = _
    unfold MS.write
    rw [List.drop_zero, if_neg (by omega), if_neg h0, if_neg (by simp only; omega)]
    simp only
    rw [Nat.min_eq_left (by omega), List.take_length, lay_tail]
  obtain ⟨k, hk⟩ : ∃ k, putF bs = k + 1 := ⟨putF bs - 1, by unfold putF; omega⟩
  rw [hk, putV_next msR bs k _ 0 0 hw, if_pos hpos, if_neg (by omega), if_neg (by omega), if_pos rfl, putV_done _ _ _ _ _ _ (by omega)]
  simp
structure Thr (x : SS) (S : MS) : Prop where
  rd : x.rd = false
  wt : x.wt = true
  m1 : 1 ≤ x.mode
  m3 : x.mode ≤ 3
  s1 : 1 ≤ x.size
  s2 : x.size ≤ 65536
  ol : (x.out.length : Int) < x.size
  o1 : x.mode = 1 → x.out = []
  inn : x.inn = []
  back : x.back = []
  fin : x.fin = false
  bad : x.bad = false
  closed : x.closed = false
  dir : x.dir = 2 ∨ (x.dir = 0 ∧ x.out = [])
  pl : S.pl = S.l.length
  room : S.room = 1048576
theorem Thr.may {x : SS} {S : MS} (h : Thr x S) : x.may = true := by
  unfold SS.may SS.buf SS.way SS.toR SS.toW
  have h1 : (x.out.length : Int) ≤ if x.mode = 1 then 0 else x.size := by
    split
    · rename_i e
      rw [h.o1 e]; simp
    · have := h.ol; omega
  rw [h.inn, h.back, h.closed, h.wt]
  simp only [h.m1, h.m3, h.s1, h.s2, h1, decide_true, Bool.true_and, List.length_nil]
  rcases h.dir with e | ⟨e, e2⟩
  · simp [e]
  · simp [e, e2]
theorem Thr.refuse {x : SS} {S : MS} (h : Thr x S) : x.refuse true = 0 := by
  unfold SS.refuse
  rw [if_neg (by simp [h.may]), if_neg (by simp), if_neg (by simp [h.closed])]
theorem Thr.noWrite {x : SS} {S : MS} (h : Thr x S) : x.noWrite = 0 := by
  unfold SS.noWrite
  rw [if_neg (by simp [h.refuse]), if_neg (by simp [h.wt]), if_neg (fun e => by rcases h.dir with d | d <;> omega)]
theorem ms_deliver (x : SS) (S : MS) (h1 : S.pl = S.l.length) (h2 : S.room = 1048576) (h3 : S.l.length + x.out.length ≤ 1048576) : x.deliver msR S = ({ x with out := [] }, 0, ⟨S.l ++ x.out, 1048576, S.l.length + x.out.length⟩) := by
  unfold SS.deliver SS.mark
  rw [ms_put S x.out h1 h2 h3]
  simp
theorem thr_put {x : SS} {S : MS} (h : Thr x S) (c : UInt8) (hr : S.l.length + x.out.length + 1 ≤ 1048576) : (x.put msR S c).2.1 = 0 ∧ Thr (x.put msR S c).1 (x.put msR S c).2.2 ∧ (x.put msR S c).2.2.l ++ (x.put msR S c).1.out = S.l ++ x.out ++ [c] := by
  unfold SS.put
  rw [if_pos h.noWrite]
  unfold SS.put1
  by_cases hm : x.mode = 1
  · rw [if_pos hm, ms_put S [c] h.pl h.room (by simp; omega)]
    refine ⟨rfl, ?_, ?_⟩
    · unfold SS.mark
      rw [if_pos (.inl rfl)]
      exact ⟨h.rd, h.wt, h.m1, h.m3, h.s1, h.s2, h.ol, h.o1, h.inn, h.back, h.fin, h.bad, h.closed, .inl rfl, by simp, rfl⟩
    · unfold SS.mark
      rw [if_pos (.inl rfl)]
      simp [h.o1 hm]
  rw [if_neg hm]
  have ho := h.ol
  rw [if_neg (by simp only; omega)]
  unfold SS.lay
  simp only
  split
  · rename_i hc
    rw [ms_deliver _ S h.pl h.room (by simp; omega)]
    have hs := h.s1
    exact ⟨rfl, ⟨h.rd, h.wt, h.m1, h.m3, h.s1, h.s2, by simp; omega, fun _ => rfl, h.inn, h.back, h.fin, h.bad, h.closed, .inl rfl, by simp, rfl⟩, by simp⟩
  · rename_i hc
    refine ⟨rfl, ⟨h.rd, h.wt, h.m1, h.m3, h.s1, h.s2, ?_, fun e => absurd e hm, h.inn, h.back, h.fin, h.bad, h.closed, .inl rfl, h.pl, h.room⟩, by simp⟩
    have : ¬ ((x.out.length + 1 : Nat) : Int) = x.size := fun e => hc (.inl e)
    simp
    omega
theorem thr_close {x : SS} {S : MS} (h : Thr x S) (hr : S.l.length + x.out.length ≤ 1048576) : (x.close msR S).2.1 = 0 ∧ (x.close msR S).1.closed = true ∧ (x.close msR S).2.2.l = S.l ++ x.out := by
  unfold SS.close
  rw [if_neg (by simp [h.refuse]), ms_deliver x S h.pl h.room hr]
  exact ⟨rfl, rfl, rfl⟩
end Go.Proofs.Ytgbkhmiphaefgaa

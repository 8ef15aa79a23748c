/- What the proof stands on, part 5: the contracts of the program's calls that it reaches. -/
import Derived.Test.YtmogciopaffccaaKB4
import Derived.Laws.ResultCell
/- Streams: Put, Get, Flush, Close over any Raw. -/
namespace Go.Proofs.Ytmogciopaffccaa
open Go.RowKit

def SOut {S : Type} (At : World → (Nat → Prop) → S → Prop) (w : World) (O : Nat → Prop) (x : SS) (s : S) (o i b : Value) (w' : World) : Prop :=
  ∃ O', SIn w' (fun k => w.heap.size ≤ k ∧ ¬ O' k ∧ k < w'.heap.size) x o i b ∧ At w' O' s ∧ (∀ j, O' j → j < w'.heap.size) ∧ (∀ k, O' k → O k ∨ w.heap.size ≤ k) ∧ Turned O w w'
theorem On.out {S : Type} {At : World → (Nat → Prop) → S → Prop} {w w1 w2 : World} {O O' : Nat → Prop} {s : S} {g : Nat} {x : SS} {o i b r : Value} (h : On At w2 O' s w.heap.size g x o i b r) (hB : Below w.heap.size w w1) (hO : ∀ k, O' k → O k ∨ w1.heap.size ≤ k) (hT : Turned (fun k => O k ∨ w.heap.size ≤ k) w1 w2) : SOut At w O x s o i b w2 := by
  have hz := hB.size
  exact ⟨O', h.ls.mono fun k e => ⟨e.1, e.2.1, e.2.2.2⟩, h.raw, h.ol, fun k e => (hO k e).imp id (fun e => by omega), (Turned.of_below (S := O) hB).trans hT (fun k hk e => e.resolve_right (by omega))⟩
theorem On.begin {S : Type} {At : World → (Nat → Prop) → S → Prop} (hT : ∀ s, OAt (fun w O => At w O s)) {w w1 : World} {O : Nat → Prop} {s : S} {g : Nat} {x : SS} {o i b r : Value} (hA : At w O s) (hO : ∀ j, O j → j < w.heap.size) (hW : Way w1 g x o i b r) (hg : w.heap.size ≤ g) (h1 : w1.ownsRow w.heap.size 5 1 o x.out.length (x.out.map bv)) (h2 : w1.ownsRow w.heap.size 5 1 i x.inn.length (x.inn.map bv)) (h3 : w1.ownsRow w.heap.size 5 1 b x.back.length (x.back.map bv)) (hn : ∀ k, o.ownBlock = some k ∨ i.ownBlock = some k ∨ b.ownBlock = some k → k ≠ g) (hB : Below w.heap.size w w1) : On At w1 O s w.heap.size g x o i b r := by
  have hz := hB.size
  exact ⟨hW, ⟨Sl.own h1, Sl.own h2, Sl.own h3, fun k e => ⟨(h1.lt k e).1, fun e' => by have := hO k e'; have := (h1.lt k e).1; omega, hn k (.inl e), (h1.lt k e).2⟩, fun k e => ⟨(h2.lt k e).1, fun e' => by have := hO k e'; have := (h2.lt k e).1; omega, hn k (.inr (.inl e)), (h2.lt k e).2⟩, fun k e => ⟨(h3.lt k e).1, fun e' => by have := hO k e'; have := (h3.lt k e).1; omega, hn k (.inr (.inr e)), (h3.lt k e).2⟩⟩, (hT s).keep hA (fun j _ hj => hB.block j hj) hz, fun e => by have := hO g e; omega, hg, fun j e => Nat.lt_of_lt_of_le (hO j e) hz⟩
theorem noWrite_none {x : SS} (h : x.noWrite = 0) : x.inn = [] ∧ x.back = [] := by
  have hm := (refuse_may (noWrite_may h).1).1
  have hd : ¬ (x.dir = 1 ∧ ¬ (x.fin = true ∧ (x.inn.length : Int) + (x.back.length : Int) = 0)) := by
    intro e
    have hy := noWrite_may h
    unfold SS.noWrite at h
    rw [if_neg (by simp [hy.1]), if_neg (by simp [hy.2]), if_pos e] at h
    omega
  have hw : x.way = true := by
    unfold SS.may at hm
    simp only [Bool.and_eq_true] at hm
    exact hm.2
  have key : (x.inn.length : Int) + (x.back.length : Int) ≤ 0 := by
    unfold SS.way SS.toR at hw
    split at hw
    · simp only [Bool.and_eq_true, Bool.not_eq_true', decide_eq_false_iff_not] at hw
      omega
    split at hw
    · rename_i h1
      by_cases hc : x.fin = true ∧ (x.inn.length : Int) + (x.back.length : Int) = 0
      · omega
      · exact absurd ⟨h1, hc⟩ hd
    split at hw
    · simp only [Bool.and_eq_true, Bool.not_eq_true', decide_eq_false_iff_not] at hw
      omega
    · simp at hw
  exact ⟨List.length_eq_zero_iff.1 (by omega), List.length_eq_zero_iff.1 (by omega)⟩
theorem SOut.fin {S : Type} {At : World → (Nat → Prop) → S → Prop} (hT : ∀ s, OAt (fun w O => At w O s)) {w w0 w3 w4 : World} {O : Nat → Prop} {x : SS} {s : S} {o i b : Value} {g : Nat} (h : SOut At w0 O x s o i b w3) (hB : Below w.heap.size w w0) (hg : g < w0.heap.size) (hgw : w.heap.size ≤ g) (hO : ∀ j, O j → j < w.heap.size) (hT4 : Turned (fun k => k = g) w3 w4) : SOut At w O x s o i b w4 := by
  obtain ⟨O', h1, h2, h3, h4, h5⟩ := h
  have hz := hB.size
  have hz4 := hT4.size
  have hg' : ¬ O' g := fun e => by
    rcases h4 g e with e | e
    · have := hO g e; omega
    · omega
  exact ⟨O', (h1.turned hT4 fun k e _ e' => by have := e.1; omega).mono fun k e => ⟨by have := e.1; omega, e.2.1, by have := e.2.2; omega⟩, (hT s).keep h2 (fun j e hj => hT4.block j hj (fun e' => hg' (e' ▸ e))) hz4, fun j e => Nat.lt_of_lt_of_le (h3 j e) hz4, fun k e => (h4 k e).imp id (fun e => by omega), ((Turned.of_below (S := O) hB).trans h5 (fun _ _ e => e)).trans hT4 (fun k hk e => by omega)⟩
theorem res_two {fn : Func} {p u : Tmp} {w : World} (h : fn.results = #[.cell p 29, .tmp u]) (tmps : Array Value) (g : Nat) (hp : tmps.getD p undef = .pointer (some ⟨g, 0, none⟩)) (x : SS) (o i b : Value) (hg : StAt w g x o i b) : (results fn tmps).run Try.prog w = .ok (.tuple #[.agg #[.bool x.rd, .bool x.wt, .int .i64 x.mode, .int .i64 x.size, o, i, b, .int .i64 x.dir, .bool x.fin, .bool x.bad, .bool x.closed], tmps.getD u undef]) w := by
  have hp' : tmps[p]?.getD undef = .pointer (some ⟨g, 0, none⟩) := by simpa using hp
  simp [results, h, hp', asAddr, run_loadVar_row w g _ 29 _ _ _ hg Try.underlying29 rfl (by kernel_rfl)]
theorem res_three {fn : Func} {p u t : Tmp} {w : World} (h : fn.results = #[.cell p 29, .tmp u, .tmp t]) (tmps : Array Value) (g : Nat) (hp : tmps.getD p undef = .pointer (some ⟨g, 0, none⟩)) (x : SS) (o i b : Value) (hg : StAt w g x o i b) : (results fn tmps).run Try.prog w = .ok (.tuple #[.agg #[.bool x.rd, .bool x.wt, .int .i64 x.mode, .int .i64 x.size, o, i, b, .int .i64 x.dir, .bool x.fin, .bool x.bad, .bool x.closed], tmps.getD u undef, tmps.getD t undef]) w := by
  have hp' : tmps[p]?.getD undef = .pointer (some ⟨g, 0, none⟩) := by simpa using hp
  simp [results, h, hp', asAddr, run_loadVar_row w g _ 29 _ _ _ hg Try.underlying29 rfl (by kernel_rfl)]
set_option maxRecDepth 100000 in
set_option maxHeartbeats 4000000 in
theorem sPutW_any {S : Type} {D : RawD S} {T : TypeId} {v : Value} {fr fw : FuncId} {rok wok : S → Prop} {At : World → (Nat → Prop) → S → Prop} (R : RawM D T v fr fw rok wok At) (hT : ∀ s, OAt (fun w O => At w O s)) {G : Nat → S → Prop} (hG : BearsW D wok G) {w : World} {O P : Nat → Prop} {s : S} {x : SS} {o i b : Value} (c : UInt8) (h : SIn w P x o i b) (hA : At w O s) (hO : ∀ j, O j → j < w.heap.size) (hg : G 2 s) (ho : x.out.length ≤ 140737488351232) (hi : x.inn.length ≤ 140737488351232) (hb : x.back.length ≤ 140737488351232) :
    Calls Try.prog 12 #[.agg #[.bool x.rd, .bool x.wt, .int .i64 x.mode, .int .i64 x.size, o, i, b, .int .i64 x.dir, .bool x.fin, .bool x.bad, .bool x.closed], .iface T v, .int .u8 (c.toNat : Int)] w fun e w' => ∃ o' i' b', e = .returned (.tuple #[.agg #[.bool (x.put D s c).1.rd, .bool (x.put D s c).1.wt, .int .i64 (x.put D s c).1.mode, .int .i64 (x.put D s c).1.size, o', i', b', .int .i64 (x.put D s c).1.dir, .bool (x.put D s c).1.fin, .bool (x.put D s c).1.bad, .bool (x.put D s c).1.closed], .int .i64 (x.put D s c).2.1]) ∧ SOut At w O (x.put D s c).1 (x.put D s c).2.2 o' i' b' w' := by
  have HWx := hide (fun (W : World) (hW : Below w.heap.size w W) => onWay_any x o i b P (.iface T v) W (h.below hW) ho hi hb (.inr ⟨T, v, rfl⟩))
  obtain ⟨oa, oc, rfl, -⟩ := h.so
  obtain ⟨ia, ic, rfl, -⟩ := h.si
  obtain ⟨ba, bc, rfl, -⟩ := h.sb
  clear h
  generalize hq : x.put D s c = q
  obtain ⟨qx, qe, qs⟩ := q
  unfold SS.put at hq
  go_enter Try.func12, Try.ntmps12
  go_wp2_with fail
  have HB0 := hide ((recv_below w (Obj.cells #[.bool x.rd, .bool x.wt, .int .i64 x.mode, .int .i64 x.size, .slice oa x.out.length oc, .slice ia x.inn.length ic, .slice ba x.back.length bc, .int .i64 x.dir, .bool x.fin, .bool x.bad, .bool x.closed] 29)).trans ((recv_below (w.alloc (Obj.cells #[.bool x.rd, .bool x.wt, .int .i64 x.mode, .int .i64 x.size, .slice oa x.out.length oc, .slice ia x.inn.length ic, .slice ba x.back.length bc, .int .i64 x.dir, .bool x.fin, .bool x.bad, .bool x.closed] 29)) (Obj.cells #[.bool false, .bool false, .int .i64 0, .int .i64 0, .slice none 0 0, .slice none 0 0, .slice none 0 0, .int .i64 0, .bool false, .bool false, .bool false] 29)).mono (recv_below w (Obj.cells #[.bool x.rd, .bool x.wt, .int .i64 x.mode, .int .i64 x.size, .slice oa x.out.length oc, .slice ia x.inn.length ic, .slice ba x.back.length bc, .int .i64 x.dir, .bool x.fin, .bool x.bad, .bool x.closed] 29)).size))
  have HZ0 : Hid (((w.alloc (Obj.cells #[.bool x.rd, .bool x.wt, .int .i64 x.mode, .int .i64 x.size, .slice oa x.out.length oc, .slice ia x.inn.length ic, .slice ba x.back.length bc, .int .i64 x.dir, .bool x.fin, .bool x.bad, .bool x.closed] 29)).alloc (Obj.cells #[.bool false, .bool false, .int .i64 0, .int .i64 0, .slice none 0 0, .slice none 0 0, .slice none 0 0, .int .i64 0, .bool false, .bool false, .bool false] 29)).heap[w.heap.size + 1]? = some (Obj.cells #[.bool false, .bool false, .int .i64 0, .int .i64 0, .slice none 0 0, .slice none 0 0, .slice none 0 0, .int .i64 0, .bool false, .bool false, .bool false] 29)) := hide (by have := heap_alloc_new (w.alloc (Obj.cells #[.bool x.rd, .bool x.wt, .int .i64 x.mode, .int .i64 x.size, .slice oa x.out.length oc, .slice ia x.inn.length ic, .slice ba x.back.length bc, .int .i64 x.dir, .bool x.fin, .bool x.bad, .bool x.closed] 29)) (Obj.cells #[.bool false, .bool false, .int .i64 0, .int .i64 0, .slice none 0 0, .slice none 0 0, .slice none 0 0, .int .i64 0, .bool false, .bool false, .bool false] 29); rw [show (w.alloc (Obj.cells #[.bool x.rd, .bool x.wt, .int .i64 x.mode, .int .i64 x.size, .slice oa x.out.length oc, .slice ia x.inn.length ic, .slice ba x.back.length bc, .int .i64 x.dir, .bool x.fin, .bool x.bad, .bool x.closed] 29)).heap.size = w.heap.size + 1 from Array.size_push ..] at this; exact this)
  generalize (w.alloc (Obj.cells #[.bool x.rd, .bool x.wt, .int .i64 x.mode, .int .i64 x.size, .slice oa x.out.length oc, .slice ia x.inn.length ic, .slice ba x.back.length bc, .int .i64 x.dir, .bool x.fin, .bool x.bad, .bool x.closed] 29)).alloc (Obj.cells #[.bool false, .bool false, .int .i64 0, .int .i64 0, .slice none 0 0, .slice none 0 0, .slice none 0 0, .int .i64 0, .bool false, .bool false, .bool false] 29) = w0 at *
  have hz0 : w.heap.size + 1 < w0.heap.size := (Array.getElem?_eq_some_iff.1 HZ0.out).1
  refine (HWx.out _ HB0.out).mono ?_
  rintro _ w1 ⟨g, o1, i1, b1, rfl, y1, y2, y3, y4, y5, y6, hB1⟩
  obtain ⟨a1, k1, rfl⟩ := owns_slice y3
  obtain ⟨a2, k2, rfl⟩ := owns_slice y4
  obtain ⟨a3, k3, rfl⟩ := owns_slice y5
  have HOn1 := hide (On.begin hT ((hT s).keep hA (fun j _ hj => HB0.out.block j hj) HB0.out.size) (fun j e => Nat.lt_of_lt_of_le (hO j e) HB0.out.size) y1 y2 y3 y4 y5 y6 hB1)
  have HTu := hide (turnToWriting_any x g a1 a2 a3 k1 k2 k3 T v w1 y1 hi hb)
  have HOw := hide y3
  have HB1 := hide hB1
  have hz1 := hB1.size
  clear y1 y2 y3 y4 y5 y6 hB1 HWx
  go_wp2_with fail
  refine HTu.out.mono ?_
  rintro _ w2 ⟨rfl, hW2, hT2⟩
  by_cases hn : x.noWrite = 0
  · rw [if_pos hn] at hq hW2
    rw [hn]
    have hOn2 := On.at hT HOn1.out hW2 hT2 (HOn1.out.ls.kin rfl rfl rfl)
    obtain ⟨m1, m2, m3, m4, m5, m6, m7, m8⟩ := may_buf (refuse_may (noWrite_may hn).1).1
    obtain ⟨n1, n2⟩ := noWrite_none hn
    have hown := owns_turned HOw.out hT2 (fun k e e' => (HOn1.out.ls.po k e).2.2.1 e')
    have hz2 := hT2.size
    have HP := hide (wput_any R hT hG c hOn2 hown (by omega) m3 m4 m5 n1 n2 hg).1
    rw [hq] at HP
    have HT2 := hide (hT2.mono fun k e => (.inr (by have := HOn1.out.gB; omega) : O k ∨ w0.heap.size ≤ k))
    clear hOn2 hown hW2 hT2 hq m1 m2 m3 m4 m5 m6 m7 m8 n1 n2 hn
    go_wp2_with fail
    refine HP.out.mono ?_
    rintro _ w3 ⟨rfl, o3, i3, b3, O3, hOn3, hO3, hT3⟩
    obtain ⟨a4, k4, rfl, -⟩ := hOn3.ls.so
    obtain ⟨a5, k5, rfl, -⟩ := hOn3.ls.si
    obtain ⟨a6, k6, rfl, -⟩ := hOn3.ls.sb
    obtain ⟨c0, c1, c2, c3, c4, c5, c6, c7, c8, c9, c10, c11⟩ := hOn3.way.cs
    have hT13 := HT2.out.trans hT3 (fun _ _ e => e)
    have HF := hide (On.out hOn3 HB1.out (fun k e => (hO3 k e).imp id (fun e => by omega)) hT13)
    have HZ3 := hide ((hT13.block (w.heap.size + 1) (by omega) (fun e => by rcases e with e | e; exact absurd (hO _ e) (by omega); omega)).trans ((HB1.out.block (w.heap.size + 1) hz0).trans HZ0.out))
    clear hOn3 hO3 hT3 hT13
    have z0 := cell_of_row w3 (w.heap.size + 1) 0 _ _ _ HZ3.out
    have z1 := cell_of_row w3 (w.heap.size + 1) 1 _ _ _ HZ3.out
    have z2 := cell_of_row w3 (w.heap.size + 1) 2 _ _ _ HZ3.out
    have z3 := cell_of_row w3 (w.heap.size + 1) 3 _ _ _ HZ3.out
    have z4 := cell_of_row w3 (w.heap.size + 1) 4 _ _ _ HZ3.out
    have z5 := cell_of_row w3 (w.heap.size + 1) 5 _ _ _ HZ3.out
    have z6 := cell_of_row w3 (w.heap.size + 1) 6 _ _ _ HZ3.out
    have z7 := cell_of_row w3 (w.heap.size + 1) 7 _ _ _ HZ3.out
    have z8 := cell_of_row w3 (w.heap.size + 1) 8 _ _ _ HZ3.out
    have z9 := cell_of_row w3 (w.heap.size + 1) 9 _ _ _ HZ3.out
    have z10 := cell_of_row w3 (w.heap.size + 1) 10 _ _ _ HZ3.out
    have u0 := frozen_of_row w3 (w.heap.size + 1) 0 _ _ HZ3.out
    have u1 := frozen_of_row w3 (w.heap.size + 1) 1 _ _ HZ3.out
    have u2 := frozen_of_row w3 (w.heap.size + 1) 2 _ _ HZ3.out
    have u3 := frozen_of_row w3 (w.heap.size + 1) 3 _ _ HZ3.out
    have u4 := frozen_of_row w3 (w.heap.size + 1) 4 _ _ HZ3.out
    have u5 := frozen_of_row w3 (w.heap.size + 1) 5 _ _ HZ3.out
    have u6 := frozen_of_row w3 (w.heap.size + 1) 6 _ _ HZ3.out
    have u7 := frozen_of_row w3 (w.heap.size + 1) 7 _ _ HZ3.out
    have u8 := frozen_of_row w3 (w.heap.size + 1) 8 _ _ HZ3.out
    have u9 := frozen_of_row w3 (w.heap.size + 1) 9 _ _ HZ3.out
    have u10 := frozen_of_row w3 (w.heap.size + 1) 10 _ _ HZ3.out
    simp at z0 z1 z2 z3 z4 z5 z6 z7 z8 z9 z10
    go_wp2
    obtain ⟨e1, e2⟩ := st_fill w3 (w.heap.size + 1) qx (.slice a4 qx.out.length k4) (.slice a5 qx.inn.length k5) (.slice a6 qx.back.length k6) HZ3.out
    refine bodyPost_ret (res_two rfl _ (w.heap.size + 1) rfl qx _ _ _ e1) rfl ?_
    exact ⟨_, _, _, rfl, SOut.fin hT HF.out HB0.out hz0 (Nat.le_succ _) hO e2⟩
  · rw [if_neg hn] at hq hW2
    obtain ⟨rfl, rfl, rfl⟩ : x = qx ∧ x.noWrite = qe ∧ s = qs := by simpa using hq
    have hT12 := hT2.mono fun k e => (.inr (by have := HOn1.out.gB; omega) : O k ∨ w0.heap.size ≤ k)
    have HF := hide (On.out (O := O) (On.at hT HOn1.out hW2 hT2 HOn1.out.ls) HB1.out (fun _ e => .inl e) hT12)
    obtain ⟨c0, c1, c2, c3, c4, c5, c6, c7, c8, c9, c10, c11⟩ := hW2.cs
    have HZ3 := hide ((hT12.block (w.heap.size + 1) (by omega) (fun e => by rcases e with e | e; exact absurd (hO _ e) (by omega); omega)).trans ((HB1.out.block (w.heap.size + 1) hz0).trans HZ0.out))
    obtain ⟨nw, hnw⟩ : ∃ nw, nw = x.noWrite := ⟨_, rfl⟩
    rw [← hnw] at hn ⊢
    have HNw := hide hnw
    have hn2 : (nw == 0) = false := by simp [hn]
    clear hq hW2 hT2 hT12 hnw
    have z0 := cell_of_row w2 (w.heap.size + 1) 0 _ _ _ HZ3.out
    have z1 := cell_of_row w2 (w.heap.size + 1) 1 _ _ _ HZ3.out
    have z2 := cell_of_row w2 (w.heap.size + 1) 2 _ _ _ HZ3.out
    have z3 := cell_of_row w2 (w.heap.size + 1) 3 _ _ _ HZ3.out
    have z4 := cell_of_row w2 (w.heap.size + 1) 4 _ _ _ HZ3.out
    have z5 := cell_of_row w2 (w.heap.size + 1) 5 _ _ _ HZ3.out
    have z6 := cell_of_row w2 (w.heap.size + 1) 6 _ _ _ HZ3.out
    have z7 := cell_of_row w2 (w.heap.size + 1) 7 _ _ _ HZ3.out
    have z8 := cell_of_row w2 (w.heap.size + 1) 8 _ _ _ HZ3.out
    have z9 := cell_of_row w2 (w.heap.size + 1) 9 _ _ _ HZ3.out
    have z10 := cell_of_row w2 (w.heap.size + 1) 10 _ _ _ HZ3.out
    have u0 := frozen_of_row w2 (w.heap.size + 1) 0 _ _ HZ3.out
    have u1 := frozen_of_row w2 (w.heap.size + 1) 1 _ _ HZ3.out
    have u2 := frozen_of_row w2 (w.heap.size + 1) 2 _ _ HZ3.out
    have u3 := frozen_of_row w2 (w.heap.size + 1) 3 _ _ HZ3.out
    have u4 := frozen_of_row w2 (w.heap.size + 1) 4 _ _ HZ3.out
    have u5 := frozen_of_row w2 (w.heap.size + 1) 5 _ _ HZ3.out
    have u6 := frozen_of_row w2 (w.heap.size + 1) 6 _ _ HZ3.out
    have u7 := frozen_of_row w2 (w.heap.size + 1) 7 _ _ HZ3.out
    have u8 := frozen_of_row w2 (w.heap.size + 1) 8 _ _ HZ3.out
    have u9 := frozen_of_row w2 (w.heap.size + 1) 9 _ _ HZ3.out
    have u10 := frozen_of_row w2 (w.heap.size + 1) 10 _ _ HZ3.out
    simp at z0 z1 z2 z3 z4 z5 z6 z7 z8 z9 z10
    go_wp2
    obtain ⟨e1, e2⟩ := st_fill w2 (w.heap.size + 1) x (.slice a1 x.out.length k1) (.slice a2 x.inn.length k2) (.slice a3 x.back.length k3) HZ3.out
    refine bodyPost_ret (res_two rfl _ (w.heap.size + 1) rfl x _ _ _ e1) rfl ?_
    exact ⟨_, _, _, by rw [← HNw.out]; rfl, SOut.fin hT HF.out HB0.out hz0 (Nat.le_succ _) hO e2⟩
theorem sPut_any {S : Type} {D : RawD S} {T : TypeId} {v : Value} {fr fw : FuncId} {rok wok : S → Prop} {At : World → (Nat → Prop) → S → Prop} (R : RawM D T v fr fw rok wok At) (hT : ∀ s, OAt (fun w O => At w O s)) {G : Nat → S → Prop} (hG : Bears D rok wok G) {w : World} {O P : Nat → Prop} {s : S} {x : SS} {o i b : Value} (c : UInt8) (h : SIn w P x o i b) (hA : At w O s) (hO : ∀ j, O j → j < w.heap.size) (hg : G 2 s) (ho : x.out.length ≤ 140737488351232) (hi : x.inn.length ≤ 140737488351232) (hb : x.back.length ≤ 140737488351232) :
    Calls Try.prog 12 #[.agg #[.bool x.rd, .bool x.wt, .int .i64 x.mode, .int .i64 x.size, o, i, b, .int .i64 x.dir, .bool x.fin, .bool x.bad, .bool x.closed], .iface T v, .int .u8 (c.toNat : Int)] w fun e w' => ∃ o' i' b', e = .returned (.tuple #[.agg #[.bool (x.put D s c).1.rd, .bool (x.put D s c).1.wt, .int .i64 (x.put D s c).1.mode, .int .i64 (x.put D s c).1.size, o', i', b', .int .i64 (x.put D s c).1.dir, .bool (x.put D s c).1.fin, .bool (x.put D s c).1.bad, .bool (x.put D s c).1.closed], .int .i64 (x.put D s c).2.1]) ∧ SOut At w O (x.put D s c).1 (x.put D s c).2.2 o' i' b' w' :=
  sPutW_any R hT hG.w c h hA hO hg ho hi hb
set_option maxRecDepth 100000 in
set_option maxHeartbeats 4000000 in
theorem sGetR_any {S : Type} {D : RawD S} {T : TypeId} {v : Value} {fr fw : FuncId} {rok wok : S → Prop} {At : World → (Nat → Prop) → S → Prop} (R : RawM D T v fr fw rok wok At) (hT : ∀ s, OAt (fun w O => At w O s)) {w : World} {O P : Nat → Prop} {s : S} {x : SS} {o i b : Value} (h : SIn w P x o i b) (hA : At w O s) (hO : ∀ j, O j → j < w.heap.size) (hso : ∀ m, 1 ≤ m → m ≤ 65536 → someOk D rok m 8192 s) (ho : x.out.length ≤ 140737488351232) (hi : x.inn.length ≤ 140737488351232) (hb : x.back.length ≤ 140737488351232) :
    Calls Try.prog 52 #[.agg #[.bool x.rd, .bool x.wt, .int .i64 x.mode, .int .i64 x.size, o, i, b, .int .i64 x.dir, .bool x.fin, .bool x.bad, .bool x.closed], .iface T v] w fun e w' => ∃ o' i' b', e = .returned (.tuple #[.agg #[.bool (x.get D s).1.rd, .bool (x.get D s).1.wt, .int .i64 (x.get D s).1.mode, .int .i64 (x.get D s).1.size, o', i', b', .int .i64 (x.get D s).1.dir, .bool (x.get D s).1.fin, .bool (x.get D s).1.bad, .bool (x.get D s).1.closed], .int .u8 ((x.get D s).2.1.toNat : Int), .int .i64 (x.get D s).2.2.1]) ∧ SOut At w O (x.get D s).1 (x.get D s).2.2.2 o' i' b' w' := by
  have HWx := hide (fun (W : World) (hW : Below w.heap.size w W) => onWay_any x o i b P (.iface T v) W (h.below hW) ho hi hb (.inr ⟨T, v, rfl⟩))
  obtain ⟨oa, oc, rfl, -⟩ := h.so
  obtain ⟨ia, ic, rfl, -⟩ := h.si
  obtain ⟨ba, bc, rfl, -⟩ := h.sb
  clear h
  generalize hq : x.get D s = q
  obtain ⟨qx, qc, qe, qs⟩ := q
  unfold SS.get at hq
  go_enter Try.func52, Try.ntmps52
  go_wp2_with fail
  have HB0 := hide ((recv_below w (Obj.cells #[.bool x.rd, .bool x.wt, .int .i64 x.mode, .int .i64 x.size, .slice oa x.out.length oc, .slice ia x.inn.length ic, .slice ba x.back.length bc, .int .i64 x.dir, .bool x.fin, .bool x.bad, .bool x.closed] 29)).trans ((recv_below (w.alloc (Obj.cells #[.bool x.rd, .bool x.wt, .int .i64 x.mode, .int .i64 x.size, .slice oa x.out.length oc, .slice ia x.inn.length ic, .slice ba x.back.length bc, .int .i64 x.dir, .bool x.fin, .bool x.bad, .bool x.closed] 29)) (Obj.cells #[.bool false, .bool false, .int .i64 0, .int .i64 0, .slice none 0 0, .slice none 0 0, .slice none 0 0, .int .i64 0, .bool false, .bool false, .bool false] 29)).mono (recv_below w (Obj.cells #[.bool x.rd, .bool x.wt, .int .i64 x.mode, .int .i64 x.size, .slice oa x.out.length oc, .slice ia x.inn.length ic, .slice ba x.back.length bc, .int .i64 x.dir, .bool x.fin, .bool x.bad, .bool x.closed] 29)).size))
  have HZ0 : Hid (((w.alloc (Obj.cells #[.bool x.rd, .bool x.wt, .int .i64 x.mode, .int .i64 x.size, .slice oa x.out.length oc, .slice ia x.inn.length ic, .slice ba x.back.length bc, .int .i64 x.dir, .bool x.fin, .bool x.bad, .bool x.closed] 29)).alloc (Obj.cells #[.bool false, .bool false, .int .i64 0, .int .i64 0, .slice none 0 0, .slice none 0 0, .slice none 0 0, .int .i64 0, .bool false, .bool false, .bool false] 29)).heap[w.heap.size + 1]? = some (Obj.cells #[.bool false, .bool false, .int .i64 0, .int .i64 0, .slice none 0 0, .slice none 0 0, .slice none 0 0, .int .i64 0, .bool false, .bool false, .bool false] 29)) := hide (by have := heap_alloc_new (w.alloc (Obj.cells #[.bool x.rd, .bool x.wt, .int .i64 x.mode, .int .i64 x.size, .slice oa x.out.length oc, .slice ia x.inn.length ic, .slice ba x.back.length bc, .int .i64 x.dir, .bool x.fin, .bool x.bad, .bool x.closed] 29)) (Obj.cells #[.bool false, .bool false, .int .i64 0, .int .i64 0, .slice none 0 0, .slice none 0 0, .slice none 0 0, .int .i64 0, .bool false, .bool false, .bool false] 29); rw [show (w.alloc (Obj.cells #[.bool x.rd, .bool x.wt, .int .i64 x.mode, .int .i64 x.size, .slice oa x.out.length oc, .slice ia x.inn.length ic, .slice ba x.back.length bc, .int .i64 x.dir, .bool x.fin, .bool x.bad, .bool x.closed] 29)).heap.size = w.heap.size + 1 from Array.size_push ..] at this; exact this)
  generalize (w.alloc (Obj.cells #[.bool x.rd, .bool x.wt, .int .i64 x.mode, .int .i64 x.size, .slice oa x.out.length oc, .slice ia x.inn.length ic, .slice ba x.back.length bc, .int .i64 x.dir, .bool x.fin, .bool x.bad, .bool x.closed] 29)).alloc (Obj.cells #[.bool false, .bool false, .int .i64 0, .int .i64 0, .slice none 0 0, .slice none 0 0, .slice none 0 0, .int .i64 0, .bool false, .bool false, .bool false] 29) = w0 at *
  have hz0 : w.heap.size + 1 < w0.heap.size := (Array.getElem?_eq_some_iff.1 HZ0.out).1
  refine (HWx.out _ HB0.out).mono ?_
  rintro _ w1 ⟨g, o1, i1, b1, rfl, y1, y2, y3, y4, y5, y6, hB1⟩
  obtain ⟨a1, k1, rfl⟩ := owns_slice y3
  obtain ⟨a2, k2, rfl⟩ := owns_slice y4
  obtain ⟨a3, k3, rfl⟩ := owns_slice y5
  have HOn1 := hide (On.begin hT ((hT s).keep hA (fun j _ hj => HB0.out.block j hj) HB0.out.size) (fun j e => Nat.lt_of_lt_of_le (hO j e) HB0.out.size) y1 y2 y3 y4 y5 y6 hB1)
  have HTu := hide (turnToReading_any x g a1 a2 a3 k1 k2 k3 T v w1 y1 hi hb)
  have HOw := hide y3
  have HB1 := hide hB1
  have hz1 := hB1.size
  clear y1 y2 y3 y4 y5 y6 hB1 HWx
  go_wp2_with fail
  refine HTu.out.mono ?_
  rintro _ w2 ⟨rfl, hW2, hT2⟩
  by_cases hn : x.noRead = 0
  · rw [if_pos hn] at hq hW2
    rw [hn]
    have hOn2 := On.at hT HOn1.out hW2 hT2 (HOn1.out.ls.kin rfl rfl rfl)
    obtain ⟨m1, m2, m3, m4, m5, m6, m7, m8⟩ := may_buf (refuse_may (noRead_may hn).1).1
    have hz2 := hT2.size
    have hmost : 1 ≤ ({ x with dir := 1 } : SS).most ∧ ({ x with dir := 1 } : SS).most ≤ 65536 := by
      unfold SS.most
      simp only
      split <;> omega
    have HP := hide (get_any R hT hOn2 (by omega) m3 m4 m8 m7 (hso _ hmost.1 hmost.2))
    rw [hq] at HP
    have HT2 := hide (hT2.mono fun k e => (.inr (by have := HOn1.out.gB; omega) : O k ∨ w0.heap.size ≤ k))
    clear hOn2 hW2 hT2 hq m1 m2 m3 m4 m5 m6 m7 m8 hn hmost
    go_wp2_with fail
    refine HP.out.mono ?_
    rintro _ w3 ⟨rfl, i3, b3, hOn3, hT3⟩
    obtain ⟨a4, k4, e4, -⟩ := hOn3.ls.so
    obtain ⟨a5, k5, rfl, -⟩ := hOn3.ls.si
    obtain ⟨a6, k6, rfl, -⟩ := hOn3.ls.sb
    rw [e4] at hOn3
    obtain ⟨c0, c1, c2, c3, c4, c5, c6, c7, c8, c9, c10, c11⟩ := hOn3.way.cs
    have hT13 := HT2.out.trans (hT3.mono fun k e => (e.imp id (fun e => by have := HOn1.out.gB; omega) : O k ∨ w0.heap.size ≤ k)) (fun _ _ e => e)
    have HF := hide (On.out hOn3 HB1.out (fun k e => .inl e) hT13)
    have HZ3 := hide ((hT13.block (w.heap.size + 1) (by omega) (fun e => by rcases e with e | e; exact absurd (hO _ e) (by omega); omega)).trans ((HB1.out.block (w.heap.size + 1) hz0).trans HZ0.out))
    clear hOn3 hT3 hT13 e4
    have z0 := cell_of_row w3 (w.heap.size + 1) 0 _ _ _ HZ3.out
    have z1 := cell_of_row w3 (w.heap.size + 1) 1 _ _ _ HZ3.out
    have z2 := cell_of_row w3 (w.heap.size + 1) 2 _ _ _ HZ3.out
    have z3 := cell_of_row w3 (w.heap.size + 1) 3 _ _ _ HZ3.out
    have z4 := cell_of_row w3 (w.heap.size + 1) 4 _ _ _ HZ3.out
    have z5 := cell_of_row w3 (w.heap.size + 1) 5 _ _ _ HZ3.out
    have z6 := cell_of_row w3 (w.heap.size + 1) 6 _ _ _ HZ3.out
    have z7 := cell_of_row w3 (w.heap.size + 1) 7 _ _ _ HZ3.out
    have z8 := cell_of_row w3 (w.heap.size + 1) 8 _ _ _ HZ3.out
    have z9 := cell_of_row w3 (w.heap.size + 1) 9 _ _ _ HZ3.out
    have z10 := cell_of_row w3 (w.heap.size + 1) 10 _ _ _ HZ3.out
    have u0 := frozen_of_row w3 (w.heap.size + 1) 0 _ _ HZ3.out
    have u1 := frozen_of_row w3 (w.heap.size + 1) 1 _ _ HZ3.out
    have u2 := frozen_of_row w3 (w.heap.size + 1) 2 _ _ HZ3.out
    have u3 := frozen_of_row w3 (w.heap.size + 1) 3 _ _ HZ3.out
    have u4 := frozen_of_row w3 (w.heap.size + 1) 4 _ _ HZ3.out
    have u5 := frozen_of_row w3 (w.heap.size + 1) 5 _ _ HZ3.out
    have u6 := frozen_of_row w3 (w.heap.size + 1) 6 _ _ HZ3.out
    have u7 := frozen_of_row w3 (w.heap.size + 1) 7 _ _ HZ3.out
    have u8 := frozen_of_row w3 (w.heap.size + 1) 8 _ _ HZ3.out
    have u9 := frozen_of_row w3 (w.heap.size + 1) 9 _ _ HZ3.out
    have u10 := frozen_of_row w3 (w.heap.size + 1) 10 _ _ HZ3.out
    simp at z0 z1 z2 z3 z4 z5 z6 z7 z8 z9 z10
    go_wp2
    obtain ⟨e1, e2⟩ := st_fill w3 (w.heap.size + 1) qx (.slice a4 qx.out.length k4) (.slice a5 qx.inn.length k5) (.slice a6 qx.back.length k6) HZ3.out
    refine bodyPost_ret (res_three rfl _ (w.heap.size + 1) rfl qx _ _ _ e1) rfl ?_
    exact ⟨_, _, _, rfl, SOut.fin hT HF.out HB0.out hz0 (Nat.le_succ _) hO e2⟩
  · rw [if_neg hn] at hq hW2
    obtain ⟨rfl, rfl, rfl, rfl⟩ : x = qx ∧ 0 = qc ∧ x.noRead = qe ∧ s = qs := by simpa using hq
    have hT12 := hT2.mono fun k e => (.inr (by have := HOn1.out.gB; omega) : O k ∨ w0.heap.size ≤ k)
    have HF := hide (On.out (O := O) (On.at hT HOn1.out hW2 hT2 HOn1.out.ls) HB1.out (fun _ e => .inl e) hT12)
    obtain ⟨c0, c1, c2, c3, c4, c5, c6, c7, c8, c9, c10, c11⟩ := hW2.cs
    have HZ3 := hide ((hT12.block (w.heap.size + 1) (by omega) (fun e => by rcases e with e | e; exact absurd (hO _ e) (by omega); omega)).trans ((HB1.out.block (w.heap.size + 1) hz0).trans HZ0.out))
    obtain ⟨nw, hnw⟩ : ∃ nw, nw = x.noRead := ⟨_, rfl⟩
    rw [← hnw] at hn ⊢
    have HNw := hide hnw
    have hn2 : (nw != 0) = true := by simp [hn]
    clear hq hW2 hT2 hT12 hnw
    have z0 := cell_of_row w2 (w.heap.size + 1) 0 _ _ _ HZ3.out
    have z1 := cell_of_row w2 (w.heap.size + 1) 1 _ _ _ HZ3.out
    have z2 := cell_of_row w2 (w.heap.size + 1) 2 _ _ _ HZ3.out
    have z3 := cell_of_row w2 (w.heap.size + 1) 3 _ _ _ HZ3.out
    have z4 := cell_of_row w2 (w.heap.size + 1) 4 _ _ _ HZ3.out
    have z5 := cell_of_row w2 (w.heap.size + 1) 5 _ _ _ HZ3.out
    have z6 := cell_of_row w2 (w.heap.size + 1) 6 _ _ _ HZ3.out
    have z7 := cell_of_row w2 (w.heap.size + 1) 7 _ _ _ HZ3.out
    have z8 := cell_of_row w2 (w.heap.size + 1) 8 _ _ _ HZ3.out
    have z9 := cell_of_row w2 (w.heap.size + 1) 9 _ _ _ HZ3.out
    have z10 := cell_of_row w2 (w.heap.size + 1) 10 _ _ _ HZ3.out
    have u0 := frozen_of_row w2 (w.heap.size + 1) 0 _ _ HZ3.out
    have u1 := frozen_of_row w2 (w.heap.size + 1) 1 _ _ HZ3.out
    have u2 := frozen_of_row w2 (w.heap.size + 1) 2 _ _ HZ3.out
    have u3 := frozen_of_row w2 (w.heap.size + 1) 3 _ _ HZ3.out
    have u4 := frozen_of_row w2 (w.heap.size + 1) 4 _ _ HZ3.out
    have u5 := frozen_of_row w2 (w.heap.size + 1) 5 _ _ HZ3.out
    have u6 := frozen_of_row w2 (w.heap.size + 1) 6 _ _ HZ3.out
    have u7 := frozen_of_row w2 (w.heap.size + 1) 7 _ _ HZ3.out
    have u8 := frozen_of_row w2 (w.heap.size + 1) 8 _ _ HZ3.out
    have u9 := frozen_of_row w2 (w.heap.size + 1) 9 _ _ HZ3.out
    have u10 := frozen_of_row w2 (w.heap.size + 1) 10 _ _ HZ3.out
    simp at z0 z1 z2 z3 z4 z5 z6 z7 z8 z9 z10
    go_wp2
    obtain ⟨e1, e2⟩ := st_fill w2 (w.heap.size + 1) x (.slice a1 x.out.length k1) (.slice a2 x.inn.length k2) (.slice a3 x.back.length k3) HZ3.out
    refine bodyPost_ret (res_three rfl _ (w.heap.size + 1) rfl x _ _ _ e1) rfl ?_
    exact ⟨_, _, _, by rw [← HNw.out]; rfl, SOut.fin hT HF.out HB0.out hz0 (Nat.le_succ _) hO e2⟩
theorem sGet_any {S : Type} {D : RawD S} {T : TypeId} {v : Value} {fr fw : FuncId} {rok wok : S → Prop} {At : World → (Nat → Prop) → S → Prop} (R : RawM D T v fr fw rok wok At) (hT : ∀ s, OAt (fun w O => At w O s)) {G : Nat → S → Prop} (hG : Bears D rok wok G) {w : World} {O P : Nat → Prop} {s : S} {x : SS} {o i b : Value} (h : SIn w P x o i b) (hA : At w O s) (hO : ∀ j, O j → j < w.heap.size) (hg : G 2 s) (ho : x.out.length ≤ 140737488351232) (hi : x.inn.length ≤ 140737488351232) (hb : x.back.length ≤ 140737488351232) :
    Calls Try.prog 52 #[.agg #[.bool x.rd, .bool x.wt, .int .i64 x.mode, .int .i64 x.size, o, i, b, .int .i64 x.dir, .bool x.fin, .bool x.bad, .bool x.closed], .iface T v] w fun e w' => ∃ o' i' b', e = .returned (.tuple #[.agg #[.bool (x.get D s).1.rd, .bool (x.get D s).1.wt, .int .i64 (x.get D s).1.mode, .int .i64 (x.get D s).1.size, o', i', b', .int .i64 (x.get D s).1.dir, .bool (x.get D s).1.fin, .bool (x.get D s).1.bad, .bool (x.get D s).1.closed], .int .u8 ((x.get D s).2.1.toNat : Int), .int .i64 (x.get D s).2.2.1]) ∧ SOut At w O (x.get D s).1 (x.get D s).2.2.2 o' i' b' w' :=
  sGetR_any R hT h hA hO (fun m h1 h2 => (hG.some 1 s m hg h1 h2).1) ho hi hb
set_option maxRecDepth 100000 in
set_option maxHeartbeats 4000000 in
theorem sFlush_any {S : Type} {D : RawD S} {T : TypeId} {v : Value} {fr fw : FuncId} {rok wok : S → Prop} {At : World → (Nat → Prop) → S → Prop} (R : RawM D T v fr fw rok wok At) (hT : ∀ s, OAt (fun w O => At w O s)) {G : Nat → S → Prop} (hG : Bears D rok wok G) {w : World} {O P : Nat → Prop} {s : S} {x : SS} {o i b : Value} (h : SIn w P x o i b) (hA : At w O s) (hO : ∀ j, O j → j < w.heap.size) (hg : G 2 s) (ho : x.out.length ≤ 140737488351232) (hi : x.inn.length ≤ 140737488351232) (hb : x.back.length ≤ 140737488351232) :
    Calls Try.prog 57 #[.agg #[.bool x.rd, .bool x.wt, .int .i64 x.mode, .int .i64 x.size, o, i, b, .int .i64 x.dir, .bool x.fin, .bool x.bad, .bool x.closed], .iface T v] w fun e w' => ∃ o' i' b', e = .returned (.tuple #[.agg #[.bool (x.flush D s).1.rd, .bool (x.flush D s).1.wt, .int .i64 (x.flush D s).1.mode, .int .i64 (x.flush D s).1.size, o', i', b', .int .i64 (x.flush D s).1.dir, .bool (x.flush D s).1.fin, .bool (x.flush D s).1.bad, .bool (x.flush D s).1.closed], .int .i64 (x.flush D s).2.1]) ∧ SOut At w O (x.flush D s).1 (x.flush D s).2.2 o' i' b' w' := by
  have HWx := hide (fun (W : World) (hW : Below w.heap.size w W) => onWay_any x o i b P (.iface T v) W (h.below hW) ho hi hb (.inr ⟨T, v, rfl⟩))
  obtain ⟨oa, oc, rfl, -⟩ := h.so
  obtain ⟨ia, ic, rfl, -⟩ := h.si
  obtain ⟨ba, bc, rfl, -⟩ := h.sb
  clear h
  generalize hq : x.flush D s = q
  obtain ⟨qx, qe, qs⟩ := q
  unfold SS.flush at hq
  go_enter Try.func57, Try.ntmps57
  go_wp2_with fail
  have HB0 := hide ((recv_below w (Obj.cells #[.bool x.rd, .bool x.wt, .int .i64 x.mode, .int .i64 x.size, .slice oa x.out.length oc, .slice ia x.inn.length ic, .slice ba x.back.length bc, .int .i64 x.dir, .bool x.fin, .bool x.bad, .bool x.closed] 29)).trans ((recv_below (w.alloc (Obj.cells #[.bool x.rd, .bool x.wt, .int .i64 x.mode, .int .i64 x.size, .slice oa x.out.length oc, .slice ia x.inn.length ic, .slice ba x.back.length bc, .int .i64 x.dir, .bool x.fin, .bool x.bad, .bool x.closed] 29)) (Obj.cells #[.bool false, .bool false, .int .i64 0, .int .i64 0, .slice none 0 0, .slice none 0 0, .slice none 0 0, .int .i64 0, .bool false, .bool false, .bool false] 29)).mono (recv_below w (Obj.cells #[.bool x.rd, .bool x.wt, .int .i64 x.mode, .int .i64 x.size, .slice oa x.out.length oc, .slice ia x.inn.length ic, .slice ba x.back.length bc, .int .i64 x.dir, .bool x.fin, .bool x.bad, .bool x.closed] 29)).size))
  have HZ0 : Hid (((w.alloc (Obj.cells #[.bool x.rd, .bool x.wt, .int .i64 x.mode, .int .i64 x.size, .slice oa x.out.length oc, .slice ia x.inn.length ic, .slice ba x.back.length bc, .int .i64 x.dir, .bool x.fin, .bool x.bad, .bool x.closed] 29)).alloc (Obj.cells #[.bool false, .bool false, .int .i64 0, .int .i64 0, .slice none 0 0, .slice none 0 0, .slice none 0 0, .int .i64 0, .bool false, .bool false, .bool false] 29)).heap[w.heap.size + 1]? = some (Obj.cells #[.bool false, .bool false, .int .i64 0, .int .i64 0, .slice none 0 0, .slice none 0 0, .slice none 0 0, .int .i64 0, .bool false, .bool false, .bool false] 29)) := hide (by have := heap_alloc_new (w.alloc (Obj.cells #[.bool x.rd, .bool x.wt, .int .i64 x.mode, .int .i64 x.size, .slice oa x.out.length oc, .slice ia x.inn.length ic, .slice ba x.back.length bc, .int .i64 x.dir, .bool x.fin, .bool x.bad, .bool x.closed] 29)) (Obj.cells #[.bool false, .bool false, .int .i64 0, .int .i64 0, .slice none 0 0, .slice none 0 0, .slice none 0 0, .int .i64 0, .bool false, .bool false, .bool false] 29); rw [show (w.alloc (Obj.cells #[.bool x.rd, .bool x.wt, .int .i64 x.mode, .int .i64 x.size, .slice oa x.out.length oc, .slice ia x.inn.length ic, .slice ba x.back.length bc, .int .i64 x.dir, .bool x.fin, .bool x.bad, .bool x.closed] 29)).heap.size = w.heap.size + 1 from Array.size_push ..] at this; exact this)
  generalize (w.alloc (Obj.cells #[.bool x.rd, .bool x.wt, .int .i64 x.mode, .int .i64 x.size, .slice oa x.out.length oc, .slice ia x.inn.length ic, .slice ba x.back.length bc, .int .i64 x.dir, .bool x.fin, .bool x.bad, .bool x.closed] 29)).alloc (Obj.cells #[.bool false, .bool false, .int .i64 0, .int .i64 0, .slice none 0 0, .slice none 0 0, .slice none 0 0, .int .i64 0, .bool false, .bool false, .bool false] 29) = w0 at *
  have hz0 : w.heap.size + 1 < w0.heap.size := (Array.getElem?_eq_some_iff.1 HZ0.out).1
  refine (HWx.out _ HB0.out).mono ?_
  rintro _ w1 ⟨g, o1, i1, b1, rfl, y1, y2, y3, y4, y5, y6, hB1⟩
  obtain ⟨a1, k1, rfl⟩ := owns_slice y3
  obtain ⟨a2, k2, rfl⟩ := owns_slice y4
  obtain ⟨a3, k3, rfl⟩ := owns_slice y5
  have HOn1 := hide (On.begin hT ((hT s).keep hA (fun j _ hj => HB0.out.block j hj) HB0.out.size) (fun j e => Nat.lt_of_lt_of_le (hO j e) HB0.out.size) y1 y2 y3 y4 y5 y6 hB1)
  have HTu := hide (wrefusal_any x g a1 a2 a3 k1 k2 k3 T v w1 y1 hi hb)
  have HOw := hide y3
  have HB1 := hide hB1
  have hz1 := hB1.size
  clear y1 y2 y3 y4 y5 y6 hB1 HWx
  go_wp2_with fail
  refine HTu.out.mono ?_
  rintro _ w2 ⟨rfl, hB2⟩
  have hz2 := hB2.size
  have hOn2 := On.below hT HOn1.out hB2
  have HT2 := hide (Turned.of_below (S := fun k => O k ∨ w0.heap.size ≤ k) hB2)
  by_cases hn : x.refuse true = 0
  case neg =>
    rw [if_pos hn] at hq
    obtain ⟨rfl, rfl, rfl⟩ : x = qx ∧ x.refuse true = qe ∧ s = qs := by simpa using hq
    have HF := hide (On.out (O := O) hOn2 HB1.out (fun _ e => .inl e) HT2.out)
    obtain ⟨c0, c1, c2, c3, c4, c5, c6, c7, c8, c9, c10, c11⟩ := hOn2.way.cs
    have HZ3 := hide ((HT2.out.block (w.heap.size + 1) (by omega) (fun e => by rcases e with e | e; exact absurd (hO _ e) (by omega); omega)).trans ((HB1.out.block (w.heap.size + 1) hz0).trans HZ0.out))
    obtain ⟨nw, hnw⟩ : ∃ nw, nw = x.refuse true := ⟨_, rfl⟩
    rw [← hnw] at hn ⊢
    have HNw := hide hnw
    have hn2 : (nw == 0) = false := by simp [hn]
    clear hq hOn2 hB2 hnw
    have z0 := cell_of_row w2 (w.heap.size + 1) 0 _ _ _ HZ3.out
    have z1 := cell_of_row w2 (w.heap.size + 1) 1 _ _ _ HZ3.out
    have z2 := cell_of_row w2 (w.heap.size + 1) 2 _ _ _ HZ3.out
    have z3 := cell_of_row w2 (w.heap.size + 1) 3 _ _ _ HZ3.out
    have z4 := cell_of_row w2 (w.heap.size + 1) 4 _ _ _ HZ3.out
    have z5 := cell_of_row w2 (w.heap.size + 1) 5 _ _ _ HZ3.out
    have z6 := cell_of_row w2 (w.heap.size + 1) 6 _ _ _ HZ3.out
    have z7 := cell_of_row w2 (w.heap.size + 1) 7 _ _ _ HZ3.out
    have z8 := cell_of_row w2 (w.heap.size + 1) 8 _ _ _ HZ3.out
    have z9 := cell_of_row w2 (w.heap.size + 1) 9 _ _ _ HZ3.out
    have z10 := cell_of_row w2 (w.heap.size + 1) 10 _ _ _ HZ3.out
    have u0 := frozen_of_row w2 (w.heap.size + 1) 0 _ _ HZ3.out
    have u1 := frozen_of_row w2 (w.heap.size + 1) 1 _ _ HZ3.out
    have u2 := frozen_of_row w2 (w.heap.size + 1) 2 _ _ HZ3.out
    have u3 := frozen_of_row w2 (w.heap.size + 1) 3 _ _ HZ3.out
    have u4 := frozen_of_row w2 (w.heap.size + 1) 4 _ _ HZ3.out
    have u5 := frozen_of_row w2 (w.heap.size + 1) 5 _ _ HZ3.out
    have u6 := frozen_of_row w2 (w.heap.size + 1) 6 _ _ HZ3.out
    have u7 := frozen_of_row w2 (w.heap.size + 1) 7 _ _ HZ3.out
    have u8 := frozen_of_row w2 (w.heap.size + 1) 8 _ _ HZ3.out
    have u9 := frozen_of_row w2 (w.heap.size + 1) 9 _ _ HZ3.out
    have u10 := frozen_of_row w2 (w.heap.size + 1) 10 _ _ HZ3.out
    simp at z0 z1 z2 z3 z4 z5 z6 z7 z8 z9 z10
    go_wp2
    obtain ⟨e1, e2⟩ := st_fill w2 (w.heap.size + 1) x (.slice a1 x.out.length k1) (.slice a2 x.inn.length k2) (.slice a3 x.back.length k3) HZ3.out
    refine bodyPost_ret (res_two rfl _ (w.heap.size + 1) rfl x _ _ _ e1) rfl ?_
    exact ⟨_, _, _, by rw [← HNw.out]; rfl, SOut.fin hT HF.out HB0.out hz0 (Nat.le_succ _) hO e2⟩
  rw [if_neg (by simp [hn])] at hq
  rw [hn]
  obtain ⟨m1, m2, m3, m4, m5, m6, m7, m8⟩ := may_buf (refuse_may hn).1
  have hput := (hG.put 1 s x.out hg (by omega)).1
  by_cases hd : x.dir = 2
  · rw [if_pos hd] at hq
    have HP := hide (flush_any R hT hOn2 (by omega) hput)
    have HOn2 := hide hOn2
    have hd7 := hOn2.way.cs.2.2.2.2.2.2.2.1
    rw [hd] at hd7
    have hv : (if (x.deliver D s).2.1 = 0 then { (x.deliver D s).1 with dir := 0 } else (x.deliver D s).1) = qx ∧ (x.deliver D s).2.1 = qe ∧ (x.deliver D s).2.2 = qs := by
      by_cases hde : (x.deliver D s).2.1 = 0
      · rw [if_pos hde] at hq ⊢
        simp only [Prod.mk.injEq] at hq
        exact ⟨hq.1, by rw [hde]; exact hq.2.1, hq.2.2⟩
      · rw [if_neg hde] at hq ⊢
        rw [hq]
        exact ⟨rfl, rfl, rfl⟩
    rw [hv.1, hv.2.1, hv.2.2] at HP
    clear hOn2 hB2 hq m1 m2 m3 m4 m5 m6 m7 m8 hput hn hv hd
    go_wp2_with fail
    refine HP.out.mono ?_
    rintro _ w3 ⟨rfl, o3, i3, b3, O3, hOn3, hO3, hT3⟩
    obtain ⟨a4, k4, rfl, -⟩ := hOn3.ls.so
    obtain ⟨a5, k5, rfl, -⟩ := hOn3.ls.si
    obtain ⟨a6, k6, rfl, -⟩ := hOn3.ls.sb
    obtain ⟨c0, c1, c2, c3, c4, c5, c6, c7, c8, c9, c10, c11⟩ := hOn3.way.cs
    have hT13 := HT2.out.trans hT3 (fun _ _ e => e)
    have HF := hide (On.out hOn3 HB1.out (fun k e => (hO3 k e).imp id (fun e => by omega)) hT13)
    have HZ3 := hide ((hT13.block (w.heap.size + 1) (by omega) (fun e => by rcases e with e | e; exact absurd (hO _ e) (by omega); omega)).trans ((HB1.out.block (w.heap.size + 1) hz0).trans HZ0.out))
    clear hOn3 hO3 hT3 hT13
    have z0 := cell_of_row w3 (w.heap.size + 1) 0 _ _ _ HZ3.out
    have z1 := cell_of_row w3 (w.heap.size + 1) 1 _ _ _ HZ3.out
    have z2 := cell_of_row w3 (w.heap.size + 1) 2 _ _ _ HZ3.out
    have z3 := cell_of_row w3 (w.heap.size + 1) 3 _ _ _ HZ3.out
    have z4 := cell_of_row w3 (w.heap.size + 1) 4 _ _ _ HZ3.out
    have z5 := cell_of_row w3 (w.heap.size + 1) 5 _ _ _ HZ3.out
    have z6 := cell_of_row w3 (w.heap.size + 1) 6 _ _ _ HZ3.out
    have z7 := cell_of_row w3 (w.heap.size + 1) 7 _ _ _ HZ3.out
    have z8 := cell_of_row w3 (w.heap.size + 1) 8 _ _ _ HZ3.out
    have z9 := cell_of_row w3 (w.heap.size + 1) 9 _ _ _ HZ3.out
    have z10 := cell_of_row w3 (w.heap.size + 1) 10 _ _ _ HZ3.out
    have u0 := frozen_of_row w3 (w.heap.size + 1) 0 _ _ HZ3.out
    have u1 := frozen_of_row w3 (w.heap.size + 1) 1 _ _ HZ3.out
    have u2 := frozen_of_row w3 (w.heap.size + 1) 2 _ _ HZ3.out
    have u3 := frozen_of_row w3 (w.heap.size + 1) 3 _ _ HZ3.out
    have u4 := frozen_of_row w3 (w.heap.size + 1) 4 _ _ HZ3.out
    have u5 := frozen_of_row w3 (w.heap.size + 1) 5 _ _ HZ3.out
    have u6 := frozen_of_row w3 (w.heap.size + 1) 6 _ _ HZ3.out
    have u7 := frozen_of_row w3 (w.heap.size + 1) 7 _ _ HZ3.out
    have u8 := frozen_of_row w3 (w.heap.size + 1) 8 _ _ HZ3.out
    have u9 := frozen_of_row w3 (w.heap.size + 1) 9 _ _ HZ3.out
    have u10 := frozen_of_row w3 (w.heap.size + 1) 10 _ _ HZ3.out
    simp at z0 z1 z2 z3 z4 z5 z6 z7 z8 z9 z10
    go_wp2
    obtain ⟨e1, e2⟩ := st_fill w3 (w.heap.size + 1) qx (.slice a4 qx.out.length k4) (.slice a5 qx.inn.length k5) (.slice a6 qx.back.length k6) HZ3.out
    refine bodyPost_ret (res_two rfl _ (w.heap.size + 1) rfl qx _ _ _ e1) rfl ?_
    exact ⟨_, _, _, rfl, SOut.fin hT HF.out HB0.out hz0 (Nat.le_succ _) hO e2⟩
  · rw [if_neg hd] at hq
    obtain ⟨rfl, rfl, rfl⟩ : x = qx ∧ 0 = qe ∧ s = qs := by simpa using hq
    have HF := hide (On.out (O := O) hOn2 HB1.out (fun _ e => .inl e) HT2.out)
    obtain ⟨c0, c1, c2, c3, c4, c5, c6, c7, c8, c9, c10, c11⟩ := hOn2.way.cs
    have HZ3 := hide ((HT2.out.block (w.heap.size + 1) (by omega) (fun e => by rcases e with e | e; exact absurd (hO _ e) (by omega); omega)).trans ((HB1.out.block (w.heap.size + 1) hz0).trans HZ0.out))
    have hd2 : (x.dir == 2) = false := by simp [hd]
    clear hq hOn2 hB2 m1 m2 m3 m4 m5 m6 m7 m8 hput hn
    have z0 := cell_of_row w2 (w.heap.size + 1) 0 _ _ _ HZ3.out
    have z1 := cell_of_row w2 (w.heap.size + 1) 1 _ _ _ HZ3.out
    have z2 := cell_of_row w2 (w.heap.size + 1) 2 _ _ _ HZ3.out
    have z3 := cell_of_row w2 (w.heap.size + 1) 3 _ _ _ HZ3.out
    have z4 := cell_of_row w2 (w.heap.size + 1) 4 _ _ _ HZ3.out
    have z5 := cell_of_row w2 (w.heap.size + 1) 5 _ _ _ HZ3.out
    have z6 := cell_of_row w2 (w.heap.size + 1) 6 _ _ _ HZ3.out
    have z7 := cell_of_row w2 (w.heap.size + 1) 7 _ _ _ HZ3.out
    have z8 := cell_of_row w2 (w.heap.size + 1) 8 _ _ _ HZ3.out
    have z9 := cell_of_row w2 (w.heap.size + 1) 9 _ _ _ HZ3.out
    have z10 := cell_of_row w2 (w.heap.size + 1) 10 _ _ _ HZ3.out
    have u0 := frozen_of_row w2 (w.heap.size + 1) 0 _ _ HZ3.out
    have u1 := frozen_of_row w2 (w.heap.size + 1) 1 _ _ HZ3.out
    have u2 := frozen_of_row w2 (w.heap.size + 1) 2 _ _ HZ3.out
    have u3 := frozen_of_row w2 (w.heap.size + 1) 3 _ _ HZ3.out
    have u4 := frozen_of_row w2 (w.heap.size + 1) 4 _ _ HZ3.out
    have u5 := frozen_of_row w2 (w.heap.size + 1) 5 _ _ HZ3.out
    have u6 := frozen_of_row w2 (w.heap.size + 1) 6 _ _ HZ3.out
    have u7 := frozen_of_row w2 (w.heap.size + 1) 7 _ _ HZ3.out
    have u8 := frozen_of_row w2 (w.heap.size + 1) 8 _ _ HZ3.out
    have u9 := frozen_of_row w2 (w.heap.size + 1) 9 _ _ HZ3.out
    have u10 := frozen_of_row w2 (w.heap.size + 1) 10 _ _ HZ3.out
    simp at z0 z1 z2 z3 z4 z5 z6 z7 z8 z9 z10
    go_wp2
    obtain ⟨e1, e2⟩ := st_fill w2 (w.heap.size + 1) x (.slice a1 x.out.length k1) (.slice a2 x.inn.length k2) (.slice a3 x.back.length k3) HZ3.out
    refine bodyPost_ret (res_two rfl _ (w.heap.size + 1) rfl x _ _ _ e1) rfl ?_
    exact ⟨_, _, _, rfl, SOut.fin hT HF.out HB0.out hz0 (Nat.le_succ _) hO e2⟩

end Go.Proofs.Ytmogciopaffccaa

/- Streams over memory that grows. -/
namespace Go.Proofs.Ytmogciopaffccaa
open Go.RowKit

theorem someOk_true {S : Type} (D : RawD S) (n : Nat) : ∀ k s, someOk D (fun _ => True) n k s
  | 0, _ => trivial
  | k + 1, _ => ⟨trivial, fun _ => someOk_true D n k _⟩
theorem putOk_true {S : Type} (D : RawD S) (bs : List UInt8) : ∀ k s d t, putOk D (fun _ => True) bs k s d t
  | 0, _, _, _ => trivial
  | k + 1, _, _, _ => fun _ => ⟨trivial, fun _ _ => putOk_true D bs k _ _ _, fun _ _ _ => putOk_true D bs k _ _ _⟩
theorem bears_true {S : Type} (D : RawD S) : Bears D (fun _ => True) (fun _ => True) (fun _ _ => True) := ⟨fun _ s bs _ _ => ⟨putOk_true D bs _ s _ _, trivial⟩, fun _ s m _ _ _ => ⟨someOk_true D m _ s, trivial⟩, fun _ _ h => h⟩
theorem gmem_o (g : Nat) (S : MS) : OAt (fun w O => MemAt w O g S) := ⟨fun h hk _ => h.keep hk, fun h => h.trim⟩
theorem piece_le (l : List UInt8) (p n : Nat) : (piece l p n).length ≤ l.length := by
  unfold piece
  simp
  omega
end Go.Proofs.Ytmogciopaffccaa

/- Openmode: a mode as eight truths, and what the letters' functions answer of it. -/
namespace Go.Proofs.Ytmogciopaffccaa
open Go.RowKit

structure Mo where
  rd : Bool
  wr : Bool
  ap : Bool
  cr : Bool
  tr : Bool
  ex : Bool
  bi : Bool
  ma : Bool
  deriving DecidableEq
def mv (m : Mo) : Value := .agg #[.bool m.rd, .bool m.wr, .bool m.ap, .bool m.cr, .bool m.tr, .bool m.ex, .bool m.bi, .bool m.ma]
def mo0 : Mo := ⟨false, false, false, false, false, false, false, false⟩
def mc (m : Mo) : Array Value := #[.bool m.rd, .bool m.wr, .bool m.ap, .bool m.cr, .bool m.tr, .bool m.ex, .bool m.bi, .bool m.ma]
def MoAt (W : World) (b : Nat) (m : Mo) : Prop := W.heap[b]? = some (.cells (mc m) 33)
theorem MoAt.lt {W : World} {b : Nat} {m : Mo} (h : MoAt W b m) : b < W.heap.size := (Array.getElem?_eq_some_iff.1 h).1
theorem MoAt.soft {W : World} {b : Nat} {m : Mo} (h : MoAt W b m) (j : Nat) : W.frozen? ⟨b, j, none⟩ = false := frozen_of_row W b j _ _ h
theorem MoAt.cell {W : World} {b : Nat} {m : Mo} (h : MoAt W b m) (j : Nat) : W.cell? ⟨b, j, none⟩ = (mc m)[j]? := cell_of_row W b j _ _ _ h
theorem MoAt.keep {S : Nat → Prop} {W W' : World} {b : Nat} {m : Mo} (h : MoAt W b m) (hT : Turned S W W') (hS : ¬ S b) : MoAt W' b m := (hT.block b h.lt hS).trans h
theorem MoAt.below {W W' : World} {b : Nat} {m : Mo} (h : MoAt W b m) (hB : Below W.heap.size W W') : MoAt W' b m := (hB.block b h.lt).trans h

def isNone (m : Mo) : Bool := !(m.rd || m.wr || m.ap || m.cr || m.tr || m.ex || m.bi || m.ma)

set_option maxRecDepth 100000 in
set_option maxHeartbeats 1000000 in
theorem ohas_r (m : Mo) (w : World) : Calls Try.prog 60 #[mv m] w fun e w' => e = .returned (.bool (m.rd && !m.cr)) ∧ Below w.heap.size w w' := by
  obtain ⟨a, b, c, d, e, f, g, h⟩ := m
  unfold mv
  cases a <;> cases d
  all_goals
    go_enter Try.func60, Try.ntmps60
    go_wp2
    go_ret
    exact ⟨rfl, (Below.refl _ _).alloc (Nat.le_refl _) _⟩
set_option maxRecDepth 100000 in
set_option maxHeartbeats 1000000 in
theorem ohas_w (m : Mo) (w : World) : Calls Try.prog 62 #[mv m] w fun e w' => e = .returned (.bool (m.tr)) ∧ Below w.heap.size w w' := by
  obtain ⟨a, b, c, d, e, f, g, h⟩ := m
  unfold mv
  cases e
  all_goals
    go_enter Try.func62, Try.ntmps62
    go_wp2
    go_ret
    exact ⟨rfl, (Below.refl _ _).alloc (Nat.le_refl _) _⟩
set_option maxRecDepth 100000 in
set_option maxHeartbeats 1000000 in
theorem ohas_a (m : Mo) (w : World) : Calls Try.prog 64 #[mv m] w fun e w' => e = .returned (.bool (m.ap)) ∧ Below w.heap.size w w' := by
  obtain ⟨a, b, c, d, e, f, g, h⟩ := m
  unfold mv
  cases c
  all_goals
    go_enter Try.func64, Try.ntmps64
    go_wp2
    go_ret
    exact ⟨rfl, (Below.refl _ _).alloc (Nat.le_refl _) _⟩
set_option maxRecDepth 100000 in
set_option maxHeartbeats 1000000 in
theorem ohas_p (m : Mo) (w : World) : Calls Try.prog 67 #[mv m] w fun e w' => e = .returned (.bool (m.rd && m.wr)) ∧ Below w.heap.size w w' := by
  obtain ⟨a, b, c, d, e, f, g, h⟩ := m
  unfold mv
  cases a <;> cases b
  all_goals
    go_enter Try.func67, Try.ntmps67
    go_wp2
    go_ret
    exact ⟨rfl, (Below.refl _ _).alloc (Nat.le_refl _) _⟩
set_option maxRecDepth 100000 in
set_option maxHeartbeats 1000000 in
theorem ohas_b (m : Mo) (w : World) : Calls Try.prog 69 #[mv m] w fun e w' => e = .returned (.bool (m.bi)) ∧ Below w.heap.size w w' := by
  obtain ⟨a, b, c, d, e, f, g, h⟩ := m
  unfold mv
  cases g
  all_goals
    go_enter Try.func69, Try.ntmps69
    go_wp2
    go_ret
    exact ⟨rfl, (Below.refl _ _).alloc (Nat.le_refl _) _⟩
set_option maxRecDepth 100000 in
set_option maxHeartbeats 1000000 in
theorem omay_x (m : Mo) (w : World) : Calls Try.prog 70 #[mv m] w fun e w' => e = .returned (.bool (m.tr)) ∧ Below w.heap.size w w' := by
  obtain ⟨a, b, c, d, e, f, g, h⟩ := m
  unfold mv
  cases e
  all_goals
    go_enter Try.func70, Try.ntmps70
    go_wp2
    go_ret
    exact ⟨rfl, (Below.refl _ _).alloc (Nat.le_refl _) _⟩
set_option maxRecDepth 100000 in
set_option maxHeartbeats 1000000 in
theorem ohas_x (m : Mo) (w : World) : Calls Try.prog 72 #[mv m] w fun e w' => e = .returned (.bool (m.ex)) ∧ Below w.heap.size w w' := by
  obtain ⟨a, b, c, d, e, f, g, h⟩ := m
  unfold mv
  cases f
  all_goals
    go_enter Try.func72, Try.ntmps72
    go_wp2
    go_ret
    exact ⟨rfl, (Below.refl _ _).alloc (Nat.le_refl _) _⟩
set_option maxRecDepth 100000 in
set_option maxHeartbeats 1000000 in
theorem ohas_e (m : Mo) (w : World) : Calls Try.prog 74 #[mv m] w fun e w' => e = .returned (.bool (m.ma)) ∧ Below w.heap.size w w' := by
  obtain ⟨a, b, c, d, e, f, g, h⟩ := m
  unfold mv
  cases h
  all_goals
    go_enter Try.func74, Try.ntmps74
    go_wp2
    go_ret
    exact ⟨rfl, (Below.refl _ _).alloc (Nat.le_refl _) _⟩
set_option maxRecDepth 100000 in
set_option maxHeartbeats 1000000 in
theorem isNone_any (m : Mo) (w : World) : Calls Try.prog 49 #[mv m] w fun e w' => e = .returned (.bool (isNone m)) ∧ Below w.heap.size w w' := by
  obtain ⟨a, b, c, d, e, f, g, h⟩ := m
  unfold mv
  go_enter Try.func49, Try.ntmps49
  go_wp2
  all_goals go_ret
  all_goals exact ⟨by simp_all [isNone], (Below.refl _ _).alloc (Nat.le_refl _) _⟩
set_option maxRecDepth 100000 in
set_option maxHeartbeats 1000000 in
theorem olay_r (b : Nat) (m : Mo) (w : World) (h : MoAt w b m) : Calls Try.prog 59 #[.pointer (some ⟨b, 0, none⟩)] w fun e w' => e = .returned (.tuple #[]) ∧ MoAt w' b { m with rd := true } ∧ Turned (fun k => k = b) w w' := by
  have c0 : w.cell? ⟨b, 0, none⟩ = some (.bool m.rd) := h.cell 0
  have s0 := h.soft 0
  have e0 := Go.heap_setCell_same _ b 0 _ _ (.bool true) h
  go_enter Try.func59, Try.ntmps59
  go_wp2
  go_end0
  exact ⟨rfl, e0, Turned.set (S := fun k => k = b) (Turned.refl _ _) (.inl rfl)⟩
set_option maxRecDepth 100000 in
set_option maxHeartbeats 1000000 in
theorem olay_w (b : Nat) (m : Mo) (w : World) (h : MoAt w b m) : Calls Try.prog 61 #[.pointer (some ⟨b, 0, none⟩)] w fun e w' => e = .returned (.tuple #[]) ∧ MoAt w' b { m with wr := true, cr := true, tr := true } ∧ Turned (fun k => k = b) w w' := by
  have c1 : w.cell? ⟨b, 1, none⟩ = some (.bool m.wr) := h.cell 1
  have s1 := h.soft 1
  have c3 : w.cell? ⟨b, 3, none⟩ = some (.bool m.cr) := h.cell 3
  have s3 := h.soft 3
  have c4 : w.cell? ⟨b, 4, none⟩ = some (.bool m.tr) := h.cell 4
  have s4 := h.soft 4
  have e0 := Go.heap_setCell_same _ b 1 _ _ (.bool true) h
  have e1 := Go.heap_setCell_same _ b 3 _ _ (.bool true) e0
  have e2 := Go.heap_setCell_same _ b 4 _ _ (.bool true) e1
  go_enter Try.func61, Try.ntmps61
  go_wp2
  go_end0
  exact ⟨rfl, e2, Turned.set (S := fun k => k = b) (Turned.set (S := fun k => k = b) (Turned.set (S := fun k => k = b) (Turned.refl _ _) (.inl rfl)) (.inl rfl)) (.inl rfl)⟩
set_option maxRecDepth 100000 in
set_option maxHeartbeats 1000000 in
theorem olay_a (b : Nat) (m : Mo) (w : World) (h : MoAt w b m) : Calls Try.prog 63 #[.pointer (some ⟨b, 0, none⟩)] w fun e w' => e = .returned (.tuple #[]) ∧ MoAt w' b { m with wr := true, ap := true, cr := true } ∧ Turned (fun k => k = b) w w' := by
  have c1 : w.cell? ⟨b, 1, none⟩ = some (.bool m.wr) := h.cell 1
  have s1 := h.soft 1
  have c2 : w.cell? ⟨b, 2, none⟩ = some (.bool m.ap) := h.cell 2
  have s2 := h.soft 2
  have c3 : w.cell? ⟨b, 3, none⟩ = some (.bool m.cr) := h.cell 3
  have s3 := h.soft 3
  have e0 := Go.heap_setCell_same _ b 1 _ _ (.bool true) h
  have e1 := Go.heap_setCell_same _ b 2 _ _ (.bool true) e0
  have e2 := Go.heap_setCell_same _ b 3 _ _ (.bool true) e1
  go_enter Try.func63, Try.ntmps63
  go_wp2
  go_end0
  exact ⟨rfl, e2, Turned.set (S := fun k => k = b) (Turned.set (S := fun k => k = b) (Turned.set (S := fun k => k = b) (Turned.refl _ _) (.inl rfl)) (.inl rfl)) (.inl rfl)⟩
set_option maxRecDepth 100000 in
set_option maxHeartbeats 1000000 in
theorem olay_p (b : Nat) (m : Mo) (w : World) (h : MoAt w b m) : Calls Try.prog 66 #[.pointer (some ⟨b, 0, none⟩)] w fun e w' => e = .returned (.tuple #[]) ∧ MoAt w' b { m with rd := true, wr := true } ∧ Turned (fun k => k = b) w w' := by
  have c0 : w.cell? ⟨b, 0, none⟩ = some (.bool m.rd) := h.cell 0
  have s0 := h.soft 0
  have c1 : w.cell? ⟨b, 1, none⟩ = some (.bool m.wr) := h.cell 1
  have s1 := h.soft 1
  have e0 := Go.heap_setCell_same _ b 0 _ _ (.bool true) h
  have e1 := Go.heap_setCell_same _ b 1 _ _ (.bool true) e0
  go_enter Try.func66, Try.ntmps66
  go_wp2
  go_end0
  exact ⟨rfl, e1, Turned.set (S := fun k => k = b) (Turned.set (S := fun k => k = b) (Turned.refl _ _) (.inl rfl)) (.inl rfl)⟩
set_option maxRecDepth 100000 in
set_option maxHeartbeats 1000000 in
theorem olay_b (b : Nat) (m : Mo) (w : World) (h : MoAt w b m) : Calls Try.prog 68 #[.pointer (some ⟨b, 0, none⟩)] w fun e w' => e = .returned (.tuple #[]) ∧ MoAt w' b { m with bi := true } ∧ Turned (fun k => k = b) w w' := by
  have c6 : w.cell? ⟨b, 6, none⟩ = some (.bool m.bi) := h.cell 6
  have s6 := h.soft 6
  have e0 := Go.heap_setCell_same _ b 6 _ _ (.bool true) h
  go_enter Try.func68, Try.ntmps68
  go_wp2
  go_end0
  exact ⟨rfl, e0, Turned.set (S := fun k => k = b) (Turned.refl _ _) (.inl rfl)⟩
set_option maxRecDepth 100000 in
set_option maxHeartbeats 1000000 in
theorem olay_x (b : Nat) (m : Mo) (w : World) (h : MoAt w b m) : Calls Try.prog 71 #[.pointer (some ⟨b, 0, none⟩)] w fun e w' => e = .returned (.tuple #[]) ∧ MoAt w' b { m with ex := true } ∧ Turned (fun k => k = b) w w' := by
  have c5 : w.cell? ⟨b, 5, none⟩ = some (.bool m.ex) := h.cell 5
  have s5 := h.soft 5
  have e0 := Go.heap_setCell_same _ b 5 _ _ (.bool true) h
  go_enter Try.func71, Try.ntmps71
  go_wp2
  go_end0
  exact ⟨rfl, e0, Turned.set (S := fun k => k = b) (Turned.refl _ _) (.inl rfl)⟩
set_option maxRecDepth 100000 in
set_option maxHeartbeats 1000000 in
theorem olay_e (b : Nat) (m : Mo) (w : World) (h : MoAt w b m) : Calls Try.prog 73 #[.pointer (some ⟨b, 0, none⟩)] w fun e w' => e = .returned (.tuple #[]) ∧ MoAt w' b { m with ma := true } ∧ Turned (fun k => k = b) w w' := by
  have c7 : w.cell? ⟨b, 7, none⟩ = some (.bool m.ma) := h.cell 7
  have s7 := h.soft 7
  have e0 := Go.heap_setCell_same _ b 7 _ _ (.bool true) h
  go_enter Try.func73, Try.ntmps73
  go_wp2
  go_end0
  exact ⟨rfl, e0, Turned.set (S := fun k => k = b) (Turned.refl _ _) (.inl rfl)⟩
def ltc : Array Value := #[.int .u8 114, .func (.func 49) #[] #[], .func (.func 59) #[] #[], .func (.func 60) #[] #[],
  .int .u8 119, .func (.func 49) #[] #[], .func (.func 61) #[] #[], .func (.func 62) #[] #[],
  .int .u8 97, .func (.func 49) #[] #[], .func (.func 63) #[] #[], .func (.func 64) #[] #[],
  .int .u8 43, .func (.func 65) #[] #[], .func (.func 66) #[] #[], .func (.func 67) #[] #[],
  .int .u8 98, .func (.func 65) #[] #[], .func (.func 68) #[] #[], .func (.func 69) #[] #[],
  .int .u8 120, .func (.func 70) #[] #[], .func (.func 71) #[] #[], .func (.func 72) #[] #[],
  .int .u8 101, .func (.func 65) #[] #[], .func (.func 73) #[] #[], .func (.func 74) #[] #[]]
def Lt (W : World) (b : Nat) : Prop := W.heap[b]? = some (.cells ltc 96)
theorem Lt.lt {W : World} {b : Nat} (h : Lt W b) : b < W.heap.size := (Array.getElem?_eq_some_iff.1 h).1
theorem Lt.cell {W : World} {b : Nat} (h : Lt W b) (j : Nat) : W.cell? ⟨b, j, none⟩ = ltc[j]? := cell_of_row W b j _ _ _ h
theorem Lt.keep {S : Nat → Prop} {W W' : World} {b : Nat} (h : Lt W b) (hT : Turned S W W') (hS : ¬ S b) : Lt W' b := (hT.block b h.lt hS).trans h
theorem Lt.below {W W' : World} {b : Nat} (h : Lt W b) (hB : Below W.heap.size W W') : Lt W' b := (hB.block b h.lt).trans h
set_option maxRecDepth 100000 in
set_option maxHeartbeats 1000000 in
theorem oletters_any (w : World) : Calls Try.prog 48 #[] w fun e w' => e = .returned (.slice (some ⟨w.heap.size, 0, none⟩) 7 7) ∧ Lt w' w.heap.size ∧ Below w.heap.size w w' := by
  go_enter Try.func48, Try.ntmps48
  go_wp2
  go_ret
  exact ⟨rfl, heap_alloc_new _ _, (Below.refl _ _).alloc (Nat.le_refl _) _⟩
set_option maxRecDepth 100000 in
set_option maxHeartbeats 1000000 in
theorem isBegun_any (m : Mo) (w : World) : Calls Try.prog 65 #[mv m] w fun e w' => e = .returned (.bool (!isNone m)) ∧ Below w.heap.size w w' := by
  obtain ⟨a, b, c, d, e, f, g, h⟩ := m
  have hn := hide fun w => isNone_any ⟨a, b, c, d, e, f, g, h⟩ w
  unfold mv at hn ⊢
  go_enter Try.func65, Try.ntmps65
  go_wp2_with fail
  refine (hn.out _).mono ?_
  rintro e w1 ⟨rfl, hB⟩
  have hB2 := ((Below.refl w.heap.size w).alloc (Nat.le_refl _) _).trans (hB.mono (Nat.le_of_lt (size_new _ _)))
  go_wp2
  go_ret
  exact ⟨rfl, hB2⟩
end Go.Proofs.Ytmogciopaffccaa

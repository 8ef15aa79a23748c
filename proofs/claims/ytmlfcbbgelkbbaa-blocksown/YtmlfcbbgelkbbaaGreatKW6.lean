/- What the proof stands on, part 6: the contracts of the program's calls that it reaches. -/
import Derived.Test.YtmlfcbbgelkbbaaGreatKW5
import Derived.Deep.RegionHeld3
import Derived.Deep.Cut
import Derived.Laws.ResultCell
/- Streams: Put, Get, Flush, Close over any Raw. -/
namespace Go.Proofs.YtmlfcbbgelkbbaaGreat
open Go.RowKit

def SOut {S : Type} (At : World → (Nat → Prop) → S → Prop) (w : World) (O : Nat → Prop) (x : SS) (s : S) (o i b : Value) (w' : World) : Prop :=
  ∃ O', SIn w' (fun k => w.heap.size ≤ k ∧ ¬ O' k ∧ k < w'.heap.size) x o i b ∧ At w' O' s ∧ (∀ j, O' j → j < w'.heap.size) ∧ (∀ k, O' k → O k ∨ w.heap.size ≤ k) ∧ Turned O w w'
theorem On.out {S : Type} {At : World → (Nat → Prop) → S → Prop} {w w1 w2 : World} {O O' : Nat → Prop} {s : S} {g : Nat} {x : SS} {o i b r : Value} (h : On At w2 O' s w.heap.size g x o i b r) (hB : Below w.heap.size w w1) (hO : ∀ k, O' k → O k ∨ w1.heap.size ≤ k) (hT : Turned (fun k => O k ∨ w.heap.size ≤ k) w1 w2) : SOut At w O x s o i b w2 := by
  have hz := hB.size
  exact ⟨O', h.ls.mono fun k e => ⟨e.1, e.2.1, e.2.2.2⟩, h.raw, h.ol, fun k e => (hO k e).imp id (fun e => by omega), (Turned.of_below (S := O) hB).trans hT (fun k hk e => e.resolve_right (by omega))⟩
theorem On.begin {S : Type} {At : World → (Nat → Prop) → S → Prop} (hT : ∀ s, OAt (fun w O => At w O s)) {w w1 : World} {O : Nat → Prop} {s : S} {g : Nat} {x : SS} {o i b r : Value} (hA : At w O s) (hO : ∀ j, O j → j < w.heap.size) (hW : Way w1 g x o i b r) (hg : w.heap.size ≤ g) (h1 : w1.ownsRow w.heap.size 5 1 o x.out.length (x.out.map bv)) (h2 : w1.ownsRow w.heap.size 5 1 i x.inn.length (x.inn.map bv)) (h3 : w1.ownsRow w.heap.size 5 1 b x.back.length (x.back.map bv)) (hn : ∀ k, o.ownBlock = some k ∨ i.ownBlock = some k ∨ b.ownBlock = some k → k ≠ g) (hB : Below w.heap.size w w1) : On At w1 O s w.heap.size g x o i b r := by
  have hz := hB.size
  exact ⟨hW, ⟨Sl.own h1, Sl.own h2, Sl.own h3, fun k e => ⟨(h1.lt k e).1, fun e' => by have := hO k e'; have := (h1.lt k e).1; omega, hn k (.inl e), (h1.lt k e).2⟩, fun k e => ⟨(h2.lt k e).1, fun e' => by have := hO k e'; have := (h2.lt k e).1; omega, hn k (.inr (.inl e)), (h2.lt k e).2⟩, fun k e => ⟨(h3.lt k e).1, fun e' => by have := hO k e'; have := (h3.lt k e).1; omega, hn k (.inr (.inr e)), (h3.lt k e).2⟩⟩, (hT s).keep hA (fun j _ hj => hB.block j hj) hz, fun e => by have := hO g e; omega, hg, fun j e => Nat.lt_of_lt_of_le (hO j e) hz⟩
theorem SOut.fin {S : Type} {At : World → (Nat → Prop) → S → Prop} (hT : ∀ s, OAt (fun w O => At w O s)) {w w0 w3 w4 : World} {O : Nat → Prop} {x : SS} {s : S} {o i b : Value} {g : Nat} (h : SOut At w0 O x s o i b w3) (hB : Below w.heap.size w w0) (hg : g < w0.heap.size) (hgw : w.heap.size ≤ g) (hO : ∀ j, O j → j < w.heap.size) (hT4 : Turned (fun k => k = g) w3 w4) : SOut At w O x s o i b w4 := by
  obtain ⟨O', h1, h2, h3, h4, h5⟩ := h
  have hz := hB.size
  have hz4 := hT4.size
  have hg' : ¬ O' g := fun e => by
    rcases h4 g e with e | e
    · have := hO g e; omega
    · omega
  exact ⟨O', (h1.turned hT4 fun k e _ e' => by have := e.1; omega).mono fun k e => ⟨by have := e.1; omega, e.2.1, by have := e.2.2; omega⟩, (hT s).keep h2 (fun j e hj => hT4.block j hj (fun e' => hg' (e' ▸ e))) hz4, fun j e => Nat.lt_of_lt_of_le (h3 j e) hz4, fun k e => (h4 k e).imp id (fun e => by omega), ((Turned.of_below (S := O) hB).trans h5 (fun _ _ e => e)).trans hT4 (fun k hk e => by omega)⟩
theorem res_two {fn : Func} {p u : Tmp} {w : World} (h : fn.results = #[.cell p 58, .tmp u]) (tmps : Array Value) (g : Nat) (hp : tmps.getD p undef = .pointer (some ⟨g, 0, none⟩)) (x : SS) (o i b : Value) (hg : StAt w g x o i b) : (results fn tmps).run Tryz.prog w = .ok (.tuple #[.agg #[.bool x.rd, .bool x.wt, .int .i64 x.mode, .int .i64 x.size, o, i, b, .int .i64 x.dir, .bool x.fin, .bool x.bad, .bool x.closed], tmps.getD u undef]) w := by
  have hp' : tmps[p]?.getD undef = .pointer (some ⟨g, 0, none⟩) := by simpa using hp
  simp [results, h, hp', asAddr, run_loadVar_row w g _ 58 _ _ _ hg Tryz.underlying58 rfl (by kernel_rfl)]
theorem res_three {fn : Func} {p u t : Tmp} {w : World} (h : fn.results = #[.cell p 58, .tmp u, .tmp t]) (tmps : Array Value) (g : Nat) (hp : tmps.getD p undef = .pointer (some ⟨g, 0, none⟩)) (x : SS) (o i b : Value) (hg : StAt w g x o i b) : (results fn tmps).run Tryz.prog w = .ok (.tuple #[.agg #[.bool x.rd, .bool x.wt, .int .i64 x.mode, .int .i64 x.size, o, i, b, .int .i64 x.dir, .bool x.fin, .bool x.bad, .bool x.closed], tmps.getD u undef, tmps.getD t undef]) w := by
  have hp' : tmps[p]?.getD undef = .pointer (some ⟨g, 0, none⟩) := by simpa using hp
  simp [results, h, hp', asAddr, run_loadVar_row w g _ 58 _ _ _ hg Tryz.underlying58 rfl (by kernel_rfl)]
set_option maxRecDepth 100000 in
set_option maxHeartbeats 4000000 in
theorem sGetR_any {S : Type} {D : RawD S} {T : TypeId} {v : Value} {fr fw : FuncId} {rok wok : S → Prop} {At : World → (Nat → Prop) → S → Prop} (R : RawM D T v fr fw rok wok At) (hT : ∀ s, OAt (fun w O => At w O s)) {w : World} {O P : Nat → Prop} {s : S} {x : SS} {o i b : Value} (h : SIn w P x o i b) (hA : At w O s) (hO : ∀ j, O j → j < w.heap.size) (hso : ∀ m, 1 ≤ m → m ≤ 65536 → someOk D rok m 8192 s) (ho : x.out.length ≤ 140737488351232) (hi : x.inn.length ≤ 140737488351232) (hb : x.back.length ≤ 140737488351232) :
    Calls Tryz.prog 100 #[.agg #[.bool x.rd, .bool x.wt, .int .i64 x.mode, .int .i64 x.size, o, i, b, .int .i64 x.dir, .bool x.fin, .bool x.bad, .bool x.closed], .iface T v] w fun e w' => ∃ o' i' b', e = .returned (.tuple #[.agg #[.bool (x.get D s).1.rd, .bool (x.get D s).1.wt, .int .i64 (x.get D s).1.mode, .int .i64 (x.get D s).1.size, o', i', b', .int .i64 (x.get D s).1.dir, .bool (x.get D s).1.fin, .bool (x.get D s).1.bad, .bool (x.get D s).1.closed], .int .u8 ((x.get D s).2.1.toNat : Int), .int .i64 (x.get D s).2.2.1]) ∧ SOut At w O (x.get D s).1 (x.get D s).2.2.2 o' i' b' w' := by
  have HWx := hide (fun (W : World) (hW : Below w.heap.size w W) => onWay_any x o i b P (.iface T v) W (h.below hW) ho hi hb (.inr ⟨T, v, rfl⟩))
  obtain ⟨oa, oc, rfl, -⟩ := h.so
  obtain ⟨ia, ic, rfl, -⟩ := h.si
  obtain ⟨ba, bc, rfl, -⟩ := h.sb
  clear h
  generalize hq : x.get D s = q
  obtain ⟨qx, qc, qe, qs⟩ := q
  unfold SS.get at hq
  go_enter Tryz.func100, Tryz.ntmps100
  go_wp2_with fail
  have HB0 := hide ((recv_below w (Obj.cells #[.bool x.rd, .bool x.wt, .int .i64 x.mode, .int .i64 x.size, .slice oa x.out.length oc, .slice ia x.inn.length ic, .slice ba x.back.length bc, .int .i64 x.dir, .bool x.fin, .bool x.bad, .bool x.closed] 58)).trans ((recv_below (w.alloc (Obj.cells #[.bool x.rd, .bool x.wt, .int .i64 x.mode, .int .i64 x.size, .slice oa x.out.length oc, .slice ia x.inn.length ic, .slice ba x.back.length bc, .int .i64 x.dir, .bool x.fin, .bool x.bad, .bool x.closed] 58)) (Obj.cells #[.bool false, .bool false, .int .i64 0, .int .i64 0, .slice none 0 0, .slice none 0 0, .slice none 0 0, .int .i64 0, .bool false, .bool false, .bool false] 58)).mono (recv_below w (Obj.cells #[.bool x.rd, .bool x.wt, .int .i64 x.mode, .int .i64 x.size, .slice oa x.out.length oc, .slice ia x.inn.length ic, .slice ba x.back.length bc, .int .i64 x.dir, .bool x.fin, .bool x.bad, .bool x.closed] 58)).size))
  have HZ0 : Hid (((w.alloc (Obj.cells #[.bool x.rd, .bool x.wt, .int .i64 x.mode, .int .i64 x.size, .slice oa x.out.length oc, .slice ia x.inn.length ic, .slice ba x.back.length bc, .int .i64 x.dir, .bool x.fin, .bool x.bad, .bool x.closed] 58)).alloc (Obj.cells #[.bool false, .bool false, .int .i64 0, .int .i64 0, .slice none 0 0, .slice none 0 0, .slice none 0 0, .int .i64 0, .bool false, .bool false, .bool false] 58)).heap[w.heap.size + 1]? = some (Obj.cells #[.bool false, .bool false, .int .i64 0, .int .i64 0, .slice none 0 0, .slice none 0 0, .slice none 0 0, .int .i64 0, .bool false, .bool false, .bool false] 58)) := hide (by have := heap_alloc_new (w.alloc (Obj.cells #[.bool x.rd, .bool x.wt, .int .i64 x.mode, .int .i64 x.size, .slice oa x.out.length oc, .slice ia x.inn.length ic, .slice ba x.back.length bc, .int .i64 x.dir, .bool x.fin, .bool x.bad, .bool x.closed] 58)) (Obj.cells #[.bool false, .bool false, .int .i64 0, .int .i64 0, .slice none 0 0, .slice none 0 0, .slice none 0 0, .int .i64 0, .bool false, .bool false, .bool false] 58); rw [show (w.alloc (Obj.cells #[.bool x.rd, .bool x.wt, .int .i64 x.mode, .int .i64 x.size, .slice oa x.out.length oc, .slice ia x.inn.length ic, .slice ba x.back.length bc, .int .i64 x.dir, .bool x.fin, .bool x.bad, .bool x.closed] 58)).heap.size = w.heap.size + 1 from Array.size_push ..] at this; exact this)
  generalize (w.alloc (Obj.cells #[.bool x.rd, .bool x.wt, .int .i64 x.mode, .int .i64 x.size, .slice oa x.out.length oc, .slice ia x.inn.length ic, .slice ba x.back.length bc, .int .i64 x.dir, .bool x.fin, .bool x.bad, .bool x.closed] 58)).alloc (Obj.cells #[.bool false, .bool false, .int .i64 0, .int .i64 0, .slice none 0 0, .slice none 0 0, .slice none 0 0, .int .i64 0, .bool false, .bool false, .bool false] 58) = w0 at *
  have hz0 : w.heap.size + 1 < w0.heap.size := (Array.getElem?_eq_some_iff.1 HZ0.out).1
  refine (HWx.out _ HB0.out).mono ?_
  rintro _ w1 ⟨g, o1, i1, b1, rfl, y1, y2, y3, y4, y5, y6, hB1⟩
  obtain ⟨a1, k1, rfl⟩ := owns_slice y3
  obtain ⟨a2, k2, rfl⟩ := owns_slice y4
  obtain ⟨a3, k3, rfl⟩ := owns_slice y5
  have HOn1 := hide (On.begin hT ((hT s).keep hA (fun j _ hj => HB0.out.block j hj) HB0.out.size) (fun j e => Nat.lt_of_lt_of_le (hO j e) HB0.out.size) y1 y2 y3 y4 y5 y6 hB1)
  have HTu := hide (turnToReading_any x g a1 a2 a3 k1 k2 k3 T v w1 y1 hi hb)
  have HOw := hide y3
  have HB1 := hide hB1
  have hz1 := hB1.size
  clear y1 y2 y3 y4 y5 y6 hB1 HWx
  go_wp2_with fail
  refine HTu.out.mono ?_
  rintro _ w2 ⟨rfl, hW2, hT2⟩
  by_cases hn : x.noRead = 0
  · rw [if_pos hn] at hq hW2
    rw [hn]
    have hOn2 := On.at hT HOn1.out hW2 hT2 (HOn1.out.ls.kin rfl rfl rfl)
    obtain ⟨m1, m2, m3, m4, m5, m6, m7, m8⟩ := may_buf (refuse_may (noRead_may hn).1).1
    have hz2 := hT2.size
    have hmost : 1 ≤ ({ x with dir := 1 } : SS).most ∧ ({ x with dir := 1 } : SS).most ≤ 65536 := by
      unfold SS.most
      simp only
      split <;> omega
    have HP := hide (get_any R hT hOn2 (by omega) m3 m4 m8 m7 (hso _ hmost.1 hmost.2))
    rw [hq] at HP
    have HT2 := hide (hT2.mono fun k e => (.inr (by have := HOn1.out.gB; omega) : O k ∨ w0.heap.size ≤ k))
    clear hOn2 hW2 hT2 hq m1 m2 m3 m4 m5 m6 m7 m8 hn hmost
    go_wp2_with fail
    refine HP.out.mono ?_
    rintro _ w3 ⟨rfl, i3, b3, hOn3, hT3⟩
    obtain ⟨a4, k4, e4, -⟩ := hOn3.ls.so
    obtain ⟨a5, k5, rfl, -⟩ := hOn3.ls.si
    obtain ⟨a6, k6, rfl, -⟩ := hOn3.ls.sb
    rw [e4] at hOn3
    obtain ⟨c0, c1, c2, c3, c4, c5, c6, c7, c8, c9, c10, c11⟩ := hOn3.way.cs
    have hT13 := HT2.out.trans (hT3.mono fun k e => (e.imp id (fun e => by have := HOn1.out.gB; omega) : O k ∨ w0.heap.size ≤ k)) (fun _ _ e => e)
    have HF := hide (On.out hOn3 HB1.out (fun k e => .inl e) hT13)
    have HZ3 := hide ((hT13.block (w.heap.size + 1) (by omega) (fun e => by rcases e with e | e; exact absurd (hO _ e) (by omega); omega)).trans ((HB1.out.block (w.heap.size + 1) hz0).trans HZ0.out))
    clear hOn3 hT3 hT13 e4
    have z0 := cell_of_row w3 (w.heap.size + 1) 0 _ _ _ HZ3.out
    have z1 := cell_of_row w3 (w.heap.size + 1) 1 _ _ _ HZ3.out
    have z2 := cell_of_row w3 (w.heap.size + 1) 2 _ _ _ HZ3.out
    have z3 := cell_of_row w3 (w.heap.size + 1) 3 _ _ _ HZ3.out
    have z4 := cell_of_row w3 (w.heap.size + 1) 4 _ _ _ HZ3.out
    have z5 := cell_of_row w3 (w.heap.size + 1) 5 _ _ _ HZ3.out
    have z6 := cell_of_row w3 (w.heap.size + 1) 6 _ _ _ HZ3.out
    have z7 := cell_of_row w3 (w.heap.size + 1) 7 _ _ _ HZ3.out
    have z8 := cell_of_row w3 (w.heap.size + 1) 8 _ _ _ HZ3.out
    have z9 := cell_of_row w3 (w.heap.size + 1) 9 _ _ _ HZ3.out
    have z10 := cell_of_row w3 (w.heap.size + 1) 10 _ _ _ HZ3.out
    have u0 := frozen_of_row w3 (w.heap.size + 1) 0 _ _ HZ3.out
    have u1 := frozen_of_row w3 (w.heap.size + 1) 1 _ _ HZ3.out
    have u2 := frozen_of_row w3 (w.heap.size + 1) 2 _ _ HZ3.out
    have u3 := frozen_of_row w3 (w.heap.size + 1) 3 _ _ HZ3.out
    have u4 := frozen_of_row w3 (w.heap.size + 1) 4 _ _ HZ3.out
    have u5 := frozen_of_row w3 (w.heap.size + 1) 5 _ _ HZ3.out
    have u6 := frozen_of_row w3 (w.heap.size + 1) 6 _ _ HZ3.out
    have u7 := frozen_of_row w3 (w.heap.size + 1) 7 _ _ HZ3.out
    have u8 := frozen_of_row w3 (w.heap.size + 1) 8 _ _ HZ3.out
    have u9 := frozen_of_row w3 (w.heap.size + 1) 9 _ _ HZ3.out
    have u10 := frozen_of_row w3 (w.heap.size + 1) 10 _ _ HZ3.out
    simp at z0 z1 z2 z3 z4 z5 z6 z7 z8 z9 z10
    go_wp2
    obtain ⟨e1, e2⟩ := st_fill w3 (w.heap.size + 1) qx (.slice a4 qx.out.length k4) (.slice a5 qx.inn.length k5) (.slice a6 qx.back.length k6) HZ3.out
    refine bodyPost_ret (res_three rfl _ (w.heap.size + 1) rfl qx _ _ _ e1) rfl ?_
    exact ⟨_, _, _, rfl, SOut.fin hT HF.out HB0.out hz0 (Nat.le_succ _) hO e2⟩
  · rw [if_neg hn] at hq hW2
    obtain ⟨rfl, rfl, rfl, rfl⟩ : x = qx ∧ 0 = qc ∧ x.noRead = qe ∧ s = qs := by simpa using hq
    have hT12 := hT2.mono fun k e => (.inr (by have := HOn1.out.gB; omega) : O k ∨ w0.heap.size ≤ k)
    have HF := hide (On.out (O := O) (On.at hT HOn1.out hW2 hT2 HOn1.out.ls) HB1.out (fun _ e => .inl e) hT12)
    obtain ⟨c0, c1, c2, c3, c4, c5, c6, c7, c8, c9, c10, c11⟩ := hW2.cs
    have HZ3 := hide ((hT12.block (w.heap.size + 1) (by omega) (fun e => by rcases e with e | e; exact absurd (hO _ e) (by omega); omega)).trans ((HB1.out.block (w.heap.size + 1) hz0).trans HZ0.out))
    obtain ⟨nw, hnw⟩ : ∃ nw, nw = x.noRead := ⟨_, rfl⟩
    rw [← hnw] at hn ⊢
    have HNw := hide hnw
    have hn2 : (nw != 0) = true := by simp [hn]
    clear hq hW2 hT2 hT12 hnw
    have z0 := cell_of_row w2 (w.heap.size + 1) 0 _ _ _ HZ3.out
    have z1 := cell_of_row w2 (w.heap.size + 1) 1 _ _ _ HZ3.out
    have z2 := cell_of_row w2 (w.heap.size + 1) 2 _ _ _ HZ3.out
    have z3 := cell_of_row w2 (w.heap.size + 1) 3 _ _ _ HZ3.out
    have z4 := cell_of_row w2 (w.heap.size + 1) 4 _ _ _ HZ3.out
    have z5 := cell_of_row w2 (w.heap.size + 1) 5 _ _ _ HZ3.out
    have z6 := cell_of_row w2 (w.heap.size + 1) 6 _ _ _ HZ3.out
    have z7 := cell_of_row w2 (w.heap.size + 1) 7 _ _ _ HZ3.out
    have z8 := cell_of_row w2 (w.heap.size + 1) 8 _ _ _ HZ3.out
    have z9 := cell_of_row w2 (w.heap.size + 1) 9 _ _ _ HZ3.out
    have z10 := cell_of_row w2 (w.heap.size + 1) 10 _ _ _ HZ3.out
    have u0 := frozen_of_row w2 (w.heap.size + 1) 0 _ _ HZ3.out
    have u1 := frozen_of_row w2 (w.heap.size + 1) 1 _ _ HZ3.out
    have u2 := frozen_of_row w2 (w.heap.size + 1) 2 _ _ HZ3.out
    have u3 := frozen_of_row w2 (w.heap.size + 1) 3 _ _ HZ3.out
    have u4 := frozen_of_row w2 (w.heap.size + 1) 4 _ _ HZ3.out
    have u5 := frozen_of_row w2 (w.heap.size + 1) 5 _ _ HZ3.out
    have u6 := frozen_of_row w2 (w.heap.size + 1) 6 _ _ HZ3.out
    have u7 := frozen_of_row w2 (w.heap.size + 1) 7 _ _ HZ3.out
    have u8 := frozen_of_row w2 (w.heap.size + 1) 8 _ _ HZ3.out
    have u9 := frozen_of_row w2 (w.heap.size + 1) 9 _ _ HZ3.out
    have u10 := frozen_of_row w2 (w.heap.size + 1) 10 _ _ HZ3.out
    simp at z0 z1 z2 z3 z4 z5 z6 z7 z8 z9 z10
    go_wp2
    obtain ⟨e1, e2⟩ := st_fill w2 (w.heap.size + 1) x (.slice a1 x.out.length k1) (.slice a2 x.inn.length k2) (.slice a3 x.back.length k3) HZ3.out
    refine bodyPost_ret (res_three rfl _ (w.heap.size + 1) rfl x _ _ _ e1) rfl ?_
    exact ⟨_, _, _, by rw [← HNw.out]; rfl, SOut.fin hT HF.out HB0.out hz0 (Nat.le_succ _) hO e2⟩
theorem sGet_any {S : Type} {D : RawD S} {T : TypeId} {v : Value} {fr fw : FuncId} {rok wok : S → Prop} {At : World → (Nat → Prop) → S → Prop} (R : RawM D T v fr fw rok wok At) (hT : ∀ s, OAt (fun w O => At w O s)) {G : Nat → S → Prop} (hG : Bears D rok wok G) {w : World} {O P : Nat → Prop} {s : S} {x : SS} {o i b : Value} (h : SIn w P x o i b) (hA : At w O s) (hO : ∀ j, O j → j < w.heap.size) (hg : G 2 s) (ho : x.out.length ≤ 140737488351232) (hi : x.inn.length ≤ 140737488351232) (hb : x.back.length ≤ 140737488351232) :
    Calls Tryz.prog 100 #[.agg #[.bool x.rd, .bool x.wt, .int .i64 x.mode, .int .i64 x.size, o, i, b, .int .i64 x.dir, .bool x.fin, .bool x.bad, .bool x.closed], .iface T v] w fun e w' => ∃ o' i' b', e = .returned (.tuple #[.agg #[.bool (x.get D s).1.rd, .bool (x.get D s).1.wt, .int .i64 (x.get D s).1.mode, .int .i64 (x.get D s).1.size, o', i', b', .int .i64 (x.get D s).1.dir, .bool (x.get D s).1.fin, .bool (x.get D s).1.bad, .bool (x.get D s).1.closed], .int .u8 ((x.get D s).2.1.toNat : Int), .int .i64 (x.get D s).2.2.1]) ∧ SOut At w O (x.get D s).1 (x.get D s).2.2.2 o' i' b' w' :=
  sGetR_any R hT h hA hO (fun m h1 h2 => (hG.some 1 s m hg h1 h2).1) ho hi hb
end Go.Proofs.YtmlfcbbgelkbbaaGreat

/- Streams: the law's Given and Same. -/
namespace Go.Proofs.YtmlfcbbgelkbbaaGreat
open Go.RowKit

set_option maxRecDepth 100000 in
set_option maxHeartbeats 4000000 in
theorem given_any (x : SS) (o i b : Value) (P : Nat → Prop) (w : World) (h : SIn w P x o i b) (ho : x.out.length ≤ 140737488351232) (hi : x.inn.length ≤ 140737488351232) (hb : x.back.length ≤ 140737488351232) :
    Calls Tryz.prog 19 #[.agg #[.bool x.rd, .bool x.wt, .int .i64 x.mode, .int .i64 x.size, o, i, b, .int .i64 x.dir, .bool x.fin, .bool x.bad, .bool x.closed]] w fun e w' => ∃ o' i' b', e = .returned (.agg #[.bool x.rd, .bool x.wt, .int .i64 x.mode, .int .i64 x.size, o', i', b', .int .i64 x.dir, .bool x.fin, .bool x.bad, .bool x.closed]) ∧ w'.ownsRow w.heap.size 5 1 o' x.out.length (x.out.map bv) ∧ w'.ownsRow w.heap.size 5 1 i' x.inn.length (x.inn.map bv) ∧ w'.ownsRow w.heap.size 5 1 b' x.back.length (x.back.map bv) ∧ Below w.heap.size w w' ∧ Ap3 o' i' b' := by
  have HOw := hide (fun (W : World) (hW : Below w.heap.size w W) => rown_any x o i b P W (h.below hW) ho hi hb)
  obtain ⟨oa, oc, rfl, -⟩ := h.so
  obtain ⟨ia, ic, rfl, -⟩ := h.si
  obtain ⟨ba, bc, rfl, -⟩ := h.sb
  clear h
  go_enter Tryz.func19, Tryz.ntmps19
  go_wp2_with fail
  have HB0 := hide ((recv_below w (Obj.cells #[.bool x.rd, .bool x.wt, .int .i64 x.mode, .int .i64 x.size, .slice oa x.out.length oc, .slice ia x.inn.length ic, .slice ba x.back.length bc, .int .i64 x.dir, .bool x.fin, .bool x.bad, .bool x.closed] 52)).trans ((recv_below (w.alloc (Obj.cells #[.bool x.rd, .bool x.wt, .int .i64 x.mode, .int .i64 x.size, .slice oa x.out.length oc, .slice ia x.inn.length ic, .slice ba x.back.length bc, .int .i64 x.dir, .bool x.fin, .bool x.bad, .bool x.closed] 52)) (Obj.cells #[.bool false, .bool false, .int .i64 0, .int .i64 0, .slice none 0 0, .slice none 0 0, .slice none 0 0, .int .i64 0, .bool false, .bool false, .bool false] 58)).mono (recv_below w (Obj.cells #[.bool x.rd, .bool x.wt, .int .i64 x.mode, .int .i64 x.size, .slice oa x.out.length oc, .slice ia x.inn.length ic, .slice ba x.back.length bc, .int .i64 x.dir, .bool x.fin, .bool x.bad, .bool x.closed] 52)).size))
  have HZ0 : Hid (((w.alloc (Obj.cells #[.bool x.rd, .bool x.wt, .int .i64 x.mode, .int .i64 x.size, .slice oa x.out.length oc, .slice ia x.inn.length ic, .slice ba x.back.length bc, .int .i64 x.dir, .bool x.fin, .bool x.bad, .bool x.closed] 52)).alloc (Obj.cells #[.bool false, .bool false, .int .i64 0, .int .i64 0, .slice none 0 0, .slice none 0 0, .slice none 0 0, .int .i64 0, .bool false, .bool false, .bool false] 58)).heap[w.heap.size + 1]? = some (Obj.cells #[.bool false, .bool false, .int .i64 0, .int .i64 0, .slice none 0 0, .slice none 0 0, .slice none 0 0, .int .i64 0, .bool false, .bool false, .bool false] 58)) := hide (by have := heap_alloc_new (w.alloc (Obj.cells #[.bool x.rd, .bool x.wt, .int .i64 x.mode, .int .i64 x.size, .slice oa x.out.length oc, .slice ia x.inn.length ic, .slice ba x.back.length bc, .int .i64 x.dir, .bool x.fin, .bool x.bad, .bool x.closed] 52)) (Obj.cells #[.bool false, .bool false, .int .i64 0, .int .i64 0, .slice none 0 0, .slice none 0 0, .slice none 0 0, .int .i64 0, .bool false, .bool false, .bool false] 58); rw [show (w.alloc (Obj.cells #[.bool x.rd, .bool x.wt, .int .i64 x.mode, .int .i64 x.size, .slice oa x.out.length oc, .slice ia x.inn.length ic, .slice ba x.back.length bc, .int .i64 x.dir, .bool x.fin, .bool x.bad, .bool x.closed] 52)).heap.size = w.heap.size + 1 from Array.size_push ..] at this; exact this)
  generalize (w.alloc (Obj.cells #[.bool x.rd, .bool x.wt, .int .i64 x.mode, .int .i64 x.size, .slice oa x.out.length oc, .slice ia x.inn.length ic, .slice ba x.back.length bc, .int .i64 x.dir, .bool x.fin, .bool x.bad, .bool x.closed] 52)).alloc (Obj.cells #[.bool false, .bool false, .int .i64 0, .int .i64 0, .slice none 0 0, .slice none 0 0, .slice none 0 0, .int .i64 0, .bool false, .bool false, .bool false] 58) = w0 at *
  have hz0 : w.heap.size + 1 < w0.heap.size := (Array.getElem?_eq_some_iff.1 HZ0.out).1
  refine (HOw.out _ HB0.out).mono ?_
  rintro _ w1 ⟨o1, i1, b1, rfl, y3, y4, y5, hB1, hAp⟩
  obtain ⟨a1, k1, rfl⟩ := owns_slice y3
  obtain ⟨a2, k2, rfl⟩ := owns_slice y4
  obtain ⟨a3, k3, rfl⟩ := owns_slice y5
  have HZ1 := hide ((hB1.block (w.heap.size + 1) hz0).trans HZ0.out)
  have HB1 := hide (HB0.out.trans (hB1.mono HB0.out.size))
  have HY := hide (And.intro y3 (And.intro y4 y5))
  have HAp := hide hAp
  clear hAp y3 y4 y5 hB1 HZ0 HB0 HOw
  have z0 := cell_of_row w1 (w.heap.size + 1) 0 _ _ _ HZ1.out
  have z1 := cell_of_row w1 (w.heap.size + 1) 1 _ _ _ HZ1.out
  have z2 := cell_of_row w1 (w.heap.size + 1) 2 _ _ _ HZ1.out
  have z3 := cell_of_row w1 (w.heap.size + 1) 3 _ _ _ HZ1.out
  have z4 := cell_of_row w1 (w.heap.size + 1) 4 _ _ _ HZ1.out
  have z5 := cell_of_row w1 (w.heap.size + 1) 5 _ _ _ HZ1.out
  have z6 := cell_of_row w1 (w.heap.size + 1) 6 _ _ _ HZ1.out
  have z7 := cell_of_row w1 (w.heap.size + 1) 7 _ _ _ HZ1.out
  have z8 := cell_of_row w1 (w.heap.size + 1) 8 _ _ _ HZ1.out
  have z9 := cell_of_row w1 (w.heap.size + 1) 9 _ _ _ HZ1.out
  have z10 := cell_of_row w1 (w.heap.size + 1) 10 _ _ _ HZ1.out
  have u0 := frozen_of_row w1 (w.heap.size + 1) 0 _ _ HZ1.out
  have u1 := frozen_of_row w1 (w.heap.size + 1) 1 _ _ HZ1.out
  have u2 := frozen_of_row w1 (w.heap.size + 1) 2 _ _ HZ1.out
  have u3 := frozen_of_row w1 (w.heap.size + 1) 3 _ _ HZ1.out
  have u4 := frozen_of_row w1 (w.heap.size + 1) 4 _ _ HZ1.out
  have u5 := frozen_of_row w1 (w.heap.size + 1) 5 _ _ HZ1.out
  have u6 := frozen_of_row w1 (w.heap.size + 1) 6 _ _ HZ1.out
  have u7 := frozen_of_row w1 (w.heap.size + 1) 7 _ _ HZ1.out
  have u8 := frozen_of_row w1 (w.heap.size + 1) 8 _ _ HZ1.out
  have u9 := frozen_of_row w1 (w.heap.size + 1) 9 _ _ HZ1.out
  have u10 := frozen_of_row w1 (w.heap.size + 1) 10 _ _ HZ1.out
  simp at z0 z1 z2 z3 z4 z5 z6 z7 z8 z9 z10
  go_wp2
  obtain ⟨e1, e2⟩ := st_fill w1 (w.heap.size + 1) x (.slice a1 x.out.length k1) (.slice a2 x.inn.length k2) (.slice a3 x.back.length k3) HZ1.out
  refine bodyPost_ret (results_cell_row rfl _ _ (w.heap.size + 1) _ _ _ _ rfl e1 Tryz.underlying58 rfl (by kernel_rfl)) rfl ?_
  obtain ⟨hr1, hr2, hr3⟩ := HY.out
  exact ⟨_, _, _, rfl, owns_mono (owns_turned hr1 e2 (fun k e => by have := (hr1.lt k e).1; omega)) (by omega), owns_mono (owns_turned hr2 e2 (fun k e => by have := (hr2.lt k e).1; omega)) (by omega), owns_mono (owns_turned hr3 e2 (fun k e => by have := (hr3.lt k e).1; omega)) (by omega), HB1.out.trans (e2.below (fun k e => by omega) HB1.out.size), HAp.out⟩
set_option maxRecDepth 100000 in
set_option maxHeartbeats 4000000 in
theorem ssame_any (x : SS) (o i b p q r : Value) (P Q : Nat → Prop) (w : World) (h : SIn w P x o i b) (h' : SIn w Q x p q r) (ho : x.out.length ≤ 140737488351232) (hi : x.inn.length ≤ 140737488351232) (hb : x.back.length ≤ 140737488351232) :
    Calls Tryz.prog 24 #[.agg #[.bool x.rd, .bool x.wt, .int .i64 x.mode, .int .i64 x.size, o, i, b, .int .i64 x.dir, .bool x.fin, .bool x.bad, .bool x.closed], .agg #[.bool x.rd, .bool x.wt, .int .i64 x.mode, .int .i64 x.size, p, q, r, .int .i64 x.dir, .bool x.fin, .bool x.bad, .bool x.closed]] w fun e w' => e = .returned (.bool true) ∧ Below w.heap.size w w' := by
  obtain ⟨oa, oc, rfl, hb1, -⟩ := h.so
  obtain ⟨ia, ic, rfl, hb2, -⟩ := h.si
  obtain ⟨ba, bc, rfl, hb3, -⟩ := h.sb
  obtain ⟨pa, pc, rfl, hb4, -⟩ := h'.so
  obtain ⟨qa, qc, rfl, hb5, -⟩ := h'.si
  obtain ⟨ra, rc, rfl, hb6, -⟩ := h'.sb
  have HS1 := hide (fun (W : World) (hW : Below w.heap.size w W) => same_any (.slice oa x.out.length oc) (.slice pa x.out.length pc) x.out W (hb1.below hW) (hb4.below hW) (by unfold maxLen; omega))
  have HS2 := hide (fun (W : World) (hW : Below w.heap.size w W) => same_any (.slice ia x.inn.length ic) (.slice qa x.inn.length qc) x.inn W (hb2.below hW) (hb5.below hW) (by unfold maxLen; omega))
  have HS3 := hide (fun (W : World) (hW : Below w.heap.size w W) => same_any (.slice ba x.back.length bc) (.slice ra x.back.length rc) x.back W (hb3.below hW) (hb6.below hW) (by unfold maxLen; omega))
  clear h h' hb1 hb2 hb3 hb4 hb5 hb6
  go_enter Tryz.func24, Tryz.ntmps24
  go_upto_region 1 with fail
  have HB0 := hide ((recv_below w (Obj.cells #[.bool x.rd, .bool x.wt, .int .i64 x.mode, .int .i64 x.size, .slice oa x.out.length oc, .slice ia x.inn.length ic, .slice ba x.back.length bc, .int .i64 x.dir, .bool x.fin, .bool x.bad, .bool x.closed] 58)).trans ((recv_below (w.alloc (Obj.cells #[.bool x.rd, .bool x.wt, .int .i64 x.mode, .int .i64 x.size, .slice oa x.out.length oc, .slice ia x.inn.length ic, .slice ba x.back.length bc, .int .i64 x.dir, .bool x.fin, .bool x.bad, .bool x.closed] 58)) (Obj.cells #[.bool x.rd, .bool x.wt, .int .i64 x.mode, .int .i64 x.size, .slice pa x.out.length pc, .slice qa x.inn.length qc, .slice ra x.back.length rc, .int .i64 x.dir, .bool x.fin, .bool x.bad, .bool x.closed] 52)).mono (recv_below w (Obj.cells #[.bool x.rd, .bool x.wt, .int .i64 x.mode, .int .i64 x.size, .slice oa x.out.length oc, .slice ia x.inn.length ic, .slice ba x.back.length bc, .int .i64 x.dir, .bool x.fin, .bool x.bad, .bool x.closed] 58)).size))
  have HA0 := hide ((StAt.new w x (.slice oa x.out.length oc) (.slice ia x.inn.length ic) (.slice ba x.back.length bc)).below (recv_below _ (Obj.cells #[.bool x.rd, .bool x.wt, .int .i64 x.mode, .int .i64 x.size, .slice pa x.out.length pc, .slice qa x.inn.length qc, .slice ra x.back.length rc, .int .i64 x.dir, .bool x.fin, .bool x.bad, .bool x.closed] 52)))
  have HR0 : Hid (RSt ((w.alloc (Obj.cells #[.bool x.rd, .bool x.wt, .int .i64 x.mode, .int .i64 x.size, .slice oa x.out.length oc, .slice ia x.inn.length ic, .slice ba x.back.length bc, .int .i64 x.dir, .bool x.fin, .bool x.bad, .bool x.closed] 58)).alloc (Obj.cells #[.bool x.rd, .bool x.wt, .int .i64 x.mode, .int .i64 x.size, .slice pa x.out.length pc, .slice qa x.inn.length qc, .slice ra x.back.length rc, .int .i64 x.dir, .bool x.fin, .bool x.bad, .bool x.closed] 52)) (w.heap.size + 1) x (.slice pa x.out.length pc) (.slice qa x.inn.length qc) (.slice ra x.back.length rc)) := hide (by have := RSt.new (w.alloc (Obj.cells #[.bool x.rd, .bool x.wt, .int .i64 x.mode, .int .i64 x.size, .slice oa x.out.length oc, .slice ia x.inn.length ic, .slice ba x.back.length bc, .int .i64 x.dir, .bool x.fin, .bool x.bad, .bool x.closed] 58)) x (.slice pa x.out.length pc) (.slice qa x.inn.length qc) (.slice ra x.back.length rc); rw [show (w.alloc (Obj.cells #[.bool x.rd, .bool x.wt, .int .i64 x.mode, .int .i64 x.size, .slice oa x.out.length oc, .slice ia x.inn.length ic, .slice ba x.back.length bc, .int .i64 x.dir, .bool x.fin, .bool x.bad, .bool x.closed] 58)).heap.size = w.heap.size + 1 from Array.size_push ..] at this; exact this)
  generalize (w.alloc (Obj.cells #[.bool x.rd, .bool x.wt, .int .i64 x.mode, .int .i64 x.size, .slice oa x.out.length oc, .slice ia x.inn.length ic, .slice ba x.back.length bc, .int .i64 x.dir, .bool x.fin, .bool x.bad, .bool x.closed] 58)).alloc (Obj.cells #[.bool x.rd, .bool x.wt, .int .i64 x.mode, .int .i64 x.size, .slice pa x.out.length pc, .slice qa x.inn.length qc, .slice ra x.back.length rc, .int .i64 x.dir, .bool x.fin, .bool x.bad, .bool x.closed] 52) = w0 at *
  have HK := hide (fun (W : World) (hW : Below w0.heap.size w0 W) => (show (fun W => W.cell? ⟨w.heap.size, 0, none⟩ = some (.bool x.rd) ∧ W.cell? ⟨w.heap.size, 1, none⟩ = some (.bool x.wt) ∧ W.cell? ⟨w.heap.size, 2, none⟩ = some (.int .i64 x.mode) ∧ W.cell? ⟨w.heap.size, 3, none⟩ = some (.int .i64 x.size) ∧ W.cell? ⟨w.heap.size, 4, none⟩ = some (.slice oa x.out.length oc) ∧ W.cell? ⟨w.heap.size, 5, none⟩ = some (.slice ia x.inn.length ic) ∧ W.cell? ⟨w.heap.size, 6, none⟩ = some (.slice ba x.back.length bc) ∧ W.cell? ⟨w.heap.size, 7, none⟩ = some (.int .i64 x.dir) ∧ W.cell? ⟨w.heap.size, 8, none⟩ = some (.bool x.fin) ∧ W.cell? ⟨w.heap.size, 9, none⟩ = some (.bool x.bad) ∧ W.cell? ⟨w.heap.size, 10, none⟩ = some (.bool x.closed) ∧ W.cell? ⟨w.heap.size + 1, 0, none⟩ = some (.bool x.rd) ∧ W.cell? ⟨w.heap.size + 1, 1, none⟩ = some (.bool x.wt) ∧ W.cell? ⟨w.heap.size + 1, 2, none⟩ = some (.int .i64 x.mode) ∧ W.cell? ⟨w.heap.size + 1, 3, none⟩ = some (.int .i64 x.size) ∧ W.cell? ⟨w.heap.size + 1, 4, none⟩ = some (.slice pa x.out.length pc) ∧ W.cell? ⟨w.heap.size + 1, 5, none⟩ = some (.slice qa x.inn.length qc) ∧ W.cell? ⟨w.heap.size + 1, 6, none⟩ = some (.slice ra x.back.length rc) ∧ W.cell? ⟨w.heap.size + 1, 7, none⟩ = some (.int .i64 x.dir) ∧ W.cell? ⟨w.heap.size + 1, 8, none⟩ = some (.bool x.fin) ∧ W.cell? ⟨w.heap.size + 1, 9, none⟩ = some (.bool x.bad) ∧ W.cell? ⟨w.heap.size + 1, 10, none⟩ = some (.bool x.closed)) W from by
    obtain ⟨c0, c1, c2, c3, c4, c5, c6, c7, c8, c9, c10⟩ := (HA0.out.below hW).cs
    obtain ⟨d0, d1, d2, d3, d4, d5, d6, d7, d8, d9, d10⟩ := (HR0.out.below hW).cs
    exact ⟨c0, c1, c2, c3, c4, c5, c6, c7, c8, c9, c10, d0, d1, d2, d3, d4, d5, d6, d7, d8, d9, d10⟩))
  clear HA0 HR0
  obtain ⟨c0, c1, c2, c3, c4, c5, c6, c7, c8, c9, c10, d0, d1, d2, d3, d4, d5, d6, d7, d8, d9, d10⟩ := HK.out w0 (Below.refl _ _)
  go_wp2_with fail
  refine (HS1.out _ HB0.out).mono ?_
  rintro _ w1 ⟨rfl, hB1⟩
  have HB1 : Hid (Below w0.heap.size w0 w1) := hide hB1
  clear hB1
  clear c0 c1 c2 c3 c4 c5 c6 c7 c8 c9 c10 d0 d1 d2 d3 d4 d5 d6 d7 d8 d9 d10
  obtain ⟨c0, c1, c2, c3, c4, c5, c6, c7, c8, c9, c10, d0, d1, d2, d3, d4, d5, d6, d7, d8, d9, d10⟩ := HK.out w1 HB1.out
  go_wp2_with fail
  refine (HS2.out _ (HB0.out.trans (HB1.out.mono HB0.out.size))).mono ?_
  rintro _ w2 ⟨rfl, hB2⟩
  have HB2 : Hid (Below w0.heap.size w0 w2) := hide (HB1.out.trans (hB2.mono HB1.out.size))
  clear hB2
  clear c0 c1 c2 c3 c4 c5 c6 c7 c8 c9 c10 d0 d1 d2 d3 d4 d5 d6 d7 d8 d9 d10
  obtain ⟨c0, c1, c2, c3, c4, c5, c6, c7, c8, c9, c10, d0, d1, d2, d3, d4, d5, d6, d7, d8, d9, d10⟩ := HK.out w2 HB2.out
  go_wp2_with fail
  refine (HS3.out _ (HB0.out.trans (HB2.out.mono HB0.out.size))).mono ?_
  rintro _ w3 ⟨rfl, hB3⟩
  have HB3 : Hid (Below w0.heap.size w0 w3) := hide (HB2.out.trans (hB3.mono HB2.out.size))
  clear hB3
  clear c0 c1 c2 c3 c4 c5 c6 c7 c8 c9 c10 d0 d1 d2 d3 d4 d5 d6 d7 d8 d9 d10
  obtain ⟨c0, c1, c2, c3, c4, c5, c6, c7, c8, c9, c10, d0, d1, d2, d3, d4, d5, d6, d7, d8, d9, d10⟩ := HK.out w3 HB3.out
  go_wp2
  go_ret
  exact ⟨rfl, HB0.out.trans (HB3.out.mono HB0.out.size)⟩
end Go.Proofs.YtmlfcbbgelkbbaaGreat

/- Streams over memory that grows. -/
namespace Go.Proofs.YtmlfcbbgelkbbaaGreat
open Go.RowKit

theorem someOk_true {S : Type} (D : RawD S) (n : Nat) : ∀ k s, someOk D (fun _ => True) n k s
  | 0, _ => trivial
  | k + 1, _ => ⟨trivial, fun _ => someOk_true D n k _⟩
theorem putOk_true {S : Type} (D : RawD S) (bs : List UInt8) : ∀ k s d t, putOk D (fun _ => True) bs k s d t
  | 0, _, _, _ => trivial
  | k + 1, _, _, _ => fun _ => ⟨trivial, fun _ _ => putOk_true D bs k _ _ _, fun _ _ _ => putOk_true D bs k _ _ _⟩
theorem bears_true {S : Type} (D : RawD S) : Bears D (fun _ => True) (fun _ => True) (fun _ _ => True) := ⟨fun _ s bs _ _ => ⟨putOk_true D bs _ s _ _, trivial⟩, fun _ s m _ _ _ => ⟨someOk_true D m _ s, trivial⟩, fun _ _ h => h⟩
def msR : RawD MS := ⟨fun S n => S.read n, fun S x => S.write x⟩
theorem gmem_o (g : Nat) (S : MS) : OAt (fun w O => MemAt w O g S) := ⟨fun h hk _ => h.keep hk, fun h => h.trim⟩
theorem piece_le (l : List UInt8) (p n : Nat) : (piece l p n).length ≤ l.length := by
  unfold piece
  simp
  omega
theorem gro_rawP (g : Nat) : RawP msR 77 (.pointer (some ⟨g, 0, none⟩)) 306 308 (fun _ => True) (fun _ => True) (fun w O S => MemAt w O g S) where
  mread w := by kernel_rfl
  mwrite w := by kernel_rfl
  cread a w := by kernel_rfl
  cwrite a w := by kernel_rfl
  keep h hk _ := h.keep hk
  few {w O s} n h := by
    have := h.ok
    show (s.read n).1.length ≤ _
    unfold MS.read
    split
    · have := piece_le s.l s.pl (n : Int).toNat
      simp only
      omega
    · simp
  read n h _ _ _ := (gmread_any _ g _ n _ h).mono fun _ _ e => view_own e
  write bs a c h _ hb hc _ _ hap := gmwrite_any _ g _ bs a c _ h hb hc (fun _ => hap)
theorem gro_raw (g : Nat) : RawM msR 77 (.pointer (some ⟨g, 0, none⟩)) 306 308 (fun _ => True) (fun _ => True) (fun w O S => MemAt w O g S) := (gro_rawP g).gen
end Go.Proofs.YtmlfcbbgelkbbaaGreat

/- Openmode: a mode as eight truths, and what the letters' functions answer of it. -/
namespace Go.Proofs.YtmlfcbbgelkbbaaGreat
open Go.RowKit

structure Mo where
  rd : Bool
  wr : Bool
  ap : Bool
  cr : Bool
  tr : Bool
  ex : Bool
  bi : Bool
  ma : Bool
  deriving DecidableEq
def mv (m : Mo) : Value := .agg #[.bool m.rd, .bool m.wr, .bool m.ap, .bool m.cr, .bool m.tr, .bool m.ex, .bool m.bi, .bool m.ma]
def mo0 : Mo := ⟨false, false, false, false, false, false, false, false⟩
def mc (m : Mo) : Array Value := #[.bool m.rd, .bool m.wr, .bool m.ap, .bool m.cr, .bool m.tr, .bool m.ex, .bool m.bi, .bool m.ma]
def MoAt (W : World) (b : Nat) (m : Mo) : Prop := W.heap[b]? = some (.cells (mc m) 69)
theorem MoAt.lt {W : World} {b : Nat} {m : Mo} (h : MoAt W b m) : b < W.heap.size := (Array.getElem?_eq_some_iff.1 h).1
theorem MoAt.soft {W : World} {b : Nat} {m : Mo} (h : MoAt W b m) (j : Nat) : W.frozen? ⟨b, j, none⟩ = false := frozen_of_row W b j _ _ h
theorem MoAt.cell {W : World} {b : Nat} {m : Mo} (h : MoAt W b m) (j : Nat) : W.cell? ⟨b, j, none⟩ = (mc m)[j]? := cell_of_row W b j _ _ _ h
theorem MoAt.keep {S : Nat → Prop} {W W' : World} {b : Nat} {m : Mo} (h : MoAt W b m) (hT : Turned S W W') (hS : ¬ S b) : MoAt W' b m := (hT.block b h.lt hS).trans h
theorem MoAt.below {W W' : World} {b : Nat} {m : Mo} (h : MoAt W b m) (hB : Below W.heap.size W W') : MoAt W' b m := (hB.block b h.lt).trans h

def isNone (m : Mo) : Bool := !(m.rd || m.wr || m.ap || m.cr || m.tr || m.ex || m.bi || m.ma)

set_option maxRecDepth 100000 in
set_option maxHeartbeats 1000000 in
theorem ohas_r (m : Mo) (w : World) : Calls Tryz.prog 246 #[mv m] w fun e w' => e = .returned (.bool (m.rd && !m.cr)) ∧ Below w.heap.size w w' := by
  obtain ⟨a, b, c, d, e, f, g, h⟩ := m
  unfold mv
  cases a <;> cases d
  all_goals
    go_enter Tryz.func246, Tryz.ntmps246
    go_wp2
    go_ret
    exact ⟨rfl, (Below.refl _ _).alloc (Nat.le_refl _) _⟩
set_option maxRecDepth 100000 in
set_option maxHeartbeats 1000000 in
theorem ohas_w (m : Mo) (w : World) : Calls Tryz.prog 248 #[mv m] w fun e w' => e = .returned (.bool (m.tr)) ∧ Below w.heap.size w w' := by
  obtain ⟨a, b, c, d, e, f, g, h⟩ := m
  unfold mv
  cases e
  all_goals
    go_enter Tryz.func248, Tryz.ntmps248
    go_wp2
    go_ret
    exact ⟨rfl, (Below.refl _ _).alloc (Nat.le_refl _) _⟩
set_option maxRecDepth 100000 in
set_option maxHeartbeats 1000000 in
theorem ohas_a (m : Mo) (w : World) : Calls Tryz.prog 250 #[mv m] w fun e w' => e = .returned (.bool (m.ap)) ∧ Below w.heap.size w w' := by
  obtain ⟨a, b, c, d, e, f, g, h⟩ := m
  unfold mv
  cases c
  all_goals
    go_enter Tryz.func250, Tryz.ntmps250
    go_wp2
    go_ret
    exact ⟨rfl, (Below.refl _ _).alloc (Nat.le_refl _) _⟩
set_option maxRecDepth 100000 in
set_option maxHeartbeats 1000000 in
theorem ohas_p (m : Mo) (w : World) : Calls Tryz.prog 253 #[mv m] w fun e w' => e = .returned (.bool (m.rd && m.wr)) ∧ Below w.heap.size w w' := by
  obtain ⟨a, b, c, d, e, f, g, h⟩ := m
  unfold mv
  cases a <;> cases b
  all_goals
    go_enter Tryz.func253, Tryz.ntmps253
    go_wp2
    go_ret
    exact ⟨rfl, (Below.refl _ _).alloc (Nat.le_refl _) _⟩
set_option maxRecDepth 100000 in
set_option maxHeartbeats 1000000 in
theorem ohas_b (m : Mo) (w : World) : Calls Tryz.prog 255 #[mv m] w fun e w' => e = .returned (.bool (m.bi)) ∧ Below w.heap.size w w' := by
  obtain ⟨a, b, c, d, e, f, g, h⟩ := m
  unfold mv
  cases g
  all_goals
    go_enter Tryz.func255, Tryz.ntmps255
    go_wp2
    go_ret
    exact ⟨rfl, (Below.refl _ _).alloc (Nat.le_refl _) _⟩
set_option maxRecDepth 100000 in
set_option maxHeartbeats 1000000 in
theorem omay_x (m : Mo) (w : World) : Calls Tryz.prog 256 #[mv m] w fun e w' => e = .returned (.bool (m.tr)) ∧ Below w.heap.size w w' := by
  obtain ⟨a, b, c, d, e, f, g, h⟩ := m
  unfold mv
  cases e
  all_goals
    go_enter Tryz.func256, Tryz.ntmps256
    go_wp2
    go_ret
    exact ⟨rfl, (Below.refl _ _).alloc (Nat.le_refl _) _⟩
set_option maxRecDepth 100000 in
set_option maxHeartbeats 1000000 in
theorem ohas_x (m : Mo) (w : World) : Calls Tryz.prog 258 #[mv m] w fun e w' => e = .returned (.bool (m.ex)) ∧ Below w.heap.size w w' := by
  obtain ⟨a, b, c, d, e, f, g, h⟩ := m
  unfold mv
  cases f
  all_goals
    go_enter Tryz.func258, Tryz.ntmps258
    go_wp2
    go_ret
    exact ⟨rfl, (Below.refl _ _).alloc (Nat.le_refl _) _⟩
set_option maxRecDepth 100000 in
set_option maxHeartbeats 1000000 in
theorem ohas_e (m : Mo) (w : World) : Calls Tryz.prog 260 #[mv m] w fun e w' => e = .returned (.bool (m.ma)) ∧ Below w.heap.size w w' := by
  obtain ⟨a, b, c, d, e, f, g, h⟩ := m
  unfold mv
  cases h
  all_goals
    go_enter Tryz.func260, Tryz.ntmps260
    go_wp2
    go_ret
    exact ⟨rfl, (Below.refl _ _).alloc (Nat.le_refl _) _⟩
set_option maxRecDepth 100000 in
set_option maxHeartbeats 1000000 in
theorem isNone_any (m : Mo) (w : World) : Calls Tryz.prog 231 #[mv m] w fun e w' => e = .returned (.bool (isNone m)) ∧ Below w.heap.size w w' := by
  obtain ⟨a, b, c, d, e, f, g, h⟩ := m
  unfold mv
  go_enter Tryz.func231, Tryz.ntmps231
  go_wp2
  all_goals go_ret
  all_goals exact ⟨by simp_all [isNone], (Below.refl _ _).alloc (Nat.le_refl _) _⟩
set_option maxRecDepth 100000 in
set_option maxHeartbeats 1000000 in
theorem olay_r (b : Nat) (m : Mo) (w : World) (h : MoAt w b m) : Calls Tryz.prog 245 #[.pointer (some ⟨b, 0, none⟩)] w fun e w' => e = .returned (.tuple #[]) ∧ MoAt w' b { m with rd := true } ∧ Turned (fun k => k = b) w w' := by
  have c0 : w.cell? ⟨b, 0, none⟩ = some (.bool m.rd) := h.cell 0
  have s0 := h.soft 0
  have e0 := Go.heap_setCell_same _ b 0 _ _ (.bool true) h
  go_enter Tryz.func245, Tryz.ntmps245
  go_wp2
  go_end0
  exact ⟨rfl, e0, Turned.set (S := fun k => k = b) (Turned.refl _ _) (.inl rfl)⟩
set_option maxRecDepth 100000 in
set_option maxHeartbeats 1000000 in
theorem olay_w (b : Nat) (m : Mo) (w : World) (h : MoAt w b m) : Calls Tryz.prog 247 #[.pointer (some ⟨b, 0, none⟩)] w fun e w' => e = .returned (.tuple #[]) ∧ MoAt w' b { m with wr := true, cr := true, tr := true } ∧ Turned (fun k => k = b) w w' := by
  have c1 : w.cell? ⟨b, 1, none⟩ = some (.bool m.wr) := h.cell 1
  have s1 := h.soft 1
  have c3 : w.cell? ⟨b, 3, none⟩ = some (.bool m.cr) := h.cell 3
  have s3 := h.soft 3
  have c4 : w.cell? ⟨b, 4, none⟩ = some (.bool m.tr) := h.cell 4
  have s4 := h.soft 4
  have e0 := Go.heap_setCell_same _ b 1 _ _ (.bool true) h
  have e1 := Go.heap_setCell_same _ b 3 _ _ (.bool true) e0
  have e2 := Go.heap_setCell_same _ b 4 _ _ (.bool true) e1
  go_enter Tryz.func247, Tryz.ntmps247
  go_wp2
  go_end0
  exact ⟨rfl, e2, Turned.set (S := fun k => k = b) (Turned.set (S := fun k => k = b) (Turned.set (S := fun k => k = b) (Turned.refl _ _) (.inl rfl)) (.inl rfl)) (.inl rfl)⟩
set_option maxRecDepth 100000 in
set_option maxHeartbeats 1000000 in
theorem olay_a (b : Nat) (m : Mo) (w : World) (h : MoAt w b m) : Calls Tryz.prog 249 #[.pointer (some ⟨b, 0, none⟩)] w fun e w' => e = .returned (.tuple #[]) ∧ MoAt w' b { m with wr := true, ap := true, cr := true } ∧ Turned (fun k => k = b) w w' := by
  have c1 : w.cell? ⟨b, 1, none⟩ = some (.bool m.wr) := h.cell 1
  have s1 := h.soft 1
  have c2 : w.cell? ⟨b, 2, none⟩ = some (.bool m.ap) := h.cell 2
  have s2 := h.soft 2
  have c3 : w.cell? ⟨b, 3, none⟩ = some (.bool m.cr) := h.cell 3
  have s3 := h.soft 3
  have e0 := Go.heap_setCell_same _ b 1 _ _ (.bool true) h
  have e1 := Go.heap_setCell_same _ b 2 _ _ (.bool true) e0
  have e2 := Go.heap_setCell_same _ b 3 _ _ (.bool true) e1
  go_enter Tryz.func249, Tryz.ntmps249
  go_wp2
  go_end0
  exact ⟨rfl, e2, Turned.set (S := fun k => k = b) (Turned.set (S := fun k => k = b) (Turned.set (S := fun k => k = b) (Turned.refl _ _) (.inl rfl)) (.inl rfl)) (.inl rfl)⟩
set_option maxRecDepth 100000 in
set_option maxHeartbeats 1000000 in
theorem olay_p (b : Nat) (m : Mo) (w : World) (h : MoAt w b m) : Calls Tryz.prog 252 #[.pointer (some ⟨b, 0, none⟩)] w fun e w' => e = .returned (.tuple #[]) ∧ MoAt w' b { m with rd := true, wr := true } ∧ Turned (fun k => k = b) w w' := by
  have c0 : w.cell? ⟨b, 0, none⟩ = some (.bool m.rd) := h.cell 0
  have s0 := h.soft 0
  have c1 : w.cell? ⟨b, 1, none⟩ = some (.bool m.wr) := h.cell 1
  have s1 := h.soft 1
  have e0 := Go.heap_setCell_same _ b 0 _ _ (.bool true) h
  have e1 := Go.heap_setCell_same _ b 1 _ _ (.bool true) e0
  go_enter Tryz.func252, Tryz.ntmps252
  go_wp2
  go_end0
  exact ⟨rfl, e1, Turned.set (S := fun k => k = b) (Turned.set (S := fun k => k = b) (Turned.refl _ _) (.inl rfl)) (.inl rfl)⟩
set_option maxRecDepth 100000 in
set_option maxHeartbeats 1000000 in
theorem olay_b (b : Nat) (m : Mo) (w : World) (h : MoAt w b m) : Calls Tryz.prog 254 #[.pointer (some ⟨b, 0, none⟩)] w fun e w' => e = .returned (.tuple #[]) ∧ MoAt w' b { m with bi := true } ∧ Turned (fun k => k = b) w w' := by
  have c6 : w.cell? ⟨b, 6, none⟩ = some (.bool m.bi) := h.cell 6
  have s6 := h.soft 6
  have e0 := Go.heap_setCell_same _ b 6 _ _ (.bool true) h
  go_enter Tryz.func254, Tryz.ntmps254
  go_wp2
  go_end0
  exact ⟨rfl, e0, Turned.set (S := fun k => k = b) (Turned.refl _ _) (.inl rfl)⟩
set_option maxRecDepth 100000 in
set_option maxHeartbeats 1000000 in
theorem olay_x (b : Nat) (m : Mo) (w : World) (h : MoAt w b m) : Calls Tryz.prog 257 #[.pointer (some ⟨b, 0, none⟩)] w fun e w' => e = .returned (.tuple #[]) ∧ MoAt w' b { m with ex := true } ∧ Turned (fun k => k = b) w w' := by
  have c5 : w.cell? ⟨b, 5, none⟩ = some (.bool m.ex) := h.cell 5
  have s5 := h.soft 5
  have e0 := Go.heap_setCell_same _ b 5 _ _ (.bool true) h
  go_enter Tryz.func257, Tryz.ntmps257
  go_wp2
  go_end0
  exact ⟨rfl, e0, Turned.set (S := fun k => k = b) (Turned.refl _ _) (.inl rfl)⟩
set_option maxRecDepth 100000 in
set_option maxHeartbeats 1000000 in
theorem olay_e (b : Nat) (m : Mo) (w : World) (h : MoAt w b m) : Calls Tryz.prog 259 #[.pointer (some ⟨b, 0, none⟩)] w fun e w' => e = .returned (.tuple #[]) ∧ MoAt w' b { m with ma := true } ∧ Turned (fun k => k = b) w w' := by
  have c7 : w.cell? ⟨b, 7, none⟩ = some (.bool m.ma) := h.cell 7
  have s7 := h.soft 7
  have e0 := Go.heap_setCell_same _ b 7 _ _ (.bool true) h
  go_enter Tryz.func259, Tryz.ntmps259
  go_wp2
  go_end0
  exact ⟨rfl, e0, Turned.set (S := fun k => k = b) (Turned.refl _ _) (.inl rfl)⟩
def ltc : Array Value := #[.int .u8 114, .func (.func 231) #[] #[], .func (.func 245) #[] #[], .func (.func 246) #[] #[],
  .int .u8 119, .func (.func 231) #[] #[], .func (.func 247) #[] #[], .func (.func 248) #[] #[],
  .int .u8 97, .func (.func 231) #[] #[], .func (.func 249) #[] #[], .func (.func 250) #[] #[],
  .int .u8 43, .func (.func 251) #[] #[], .func (.func 252) #[] #[], .func (.func 253) #[] #[],
  .int .u8 98, .func (.func 251) #[] #[], .func (.func 254) #[] #[], .func (.func 255) #[] #[],
  .int .u8 120, .func (.func 256) #[] #[], .func (.func 257) #[] #[], .func (.func 258) #[] #[],
  .int .u8 101, .func (.func 251) #[] #[], .func (.func 259) #[] #[], .func (.func 260) #[] #[]]
def Lt (W : World) (b : Nat) : Prop := W.heap[b]? = some (.cells ltc 348)
theorem Lt.lt {W : World} {b : Nat} (h : Lt W b) : b < W.heap.size := (Array.getElem?_eq_some_iff.1 h).1
theorem Lt.cell {W : World} {b : Nat} (h : Lt W b) (j : Nat) : W.cell? ⟨b, j, none⟩ = ltc[j]? := cell_of_row W b j _ _ _ h
theorem Lt.keep {S : Nat → Prop} {W W' : World} {b : Nat} (h : Lt W b) (hT : Turned S W W') (hS : ¬ S b) : Lt W' b := (hT.block b h.lt hS).trans h
theorem Lt.below {W W' : World} {b : Nat} (h : Lt W b) (hB : Below W.heap.size W W') : Lt W' b := (hB.block b h.lt).trans h
set_option maxRecDepth 100000 in
set_option maxHeartbeats 1000000 in
theorem oletters_any (w : World) : Calls Tryz.prog 230 #[] w fun e w' => e = .returned (.slice (some ⟨w.heap.size, 0, none⟩) 7 7) ∧ Lt w' w.heap.size ∧ Below w.heap.size w w' := by
  go_enter Tryz.func230, Tryz.ntmps230
  go_wp2
  go_ret
  exact ⟨rfl, heap_alloc_new _ _, (Below.refl _ _).alloc (Nat.le_refl _) _⟩
set_option maxRecDepth 100000 in
set_option maxHeartbeats 1000000 in
theorem isBegun_any (m : Mo) (w : World) : Calls Tryz.prog 251 #[mv m] w fun e w' => e = .returned (.bool (!isNone m)) ∧ Below w.heap.size w w' := by
  obtain ⟨a, b, c, d, e, f, g, h⟩ := m
  have hn := hide fun w => isNone_any ⟨a, b, c, d, e, f, g, h⟩ w
  unfold mv at hn ⊢
  go_enter Tryz.func251, Tryz.ntmps251
  go_wp2_with fail
  refine (hn.out _).mono ?_
  rintro e w1 ⟨rfl, hB⟩
  have hB2 := ((Below.refl w.heap.size w).alloc (Nat.le_refl _) _).trans (hB.mono (Nat.le_of_lt (size_new _ _)))
  go_wp2
  go_ret
  exact ⟨rfl, hB2⟩
end Go.Proofs.YtmlfcbbgelkbbaaGreat

/- Openmode: spell. -/
namespace Go.Proofs.YtmlfcbbgelkbbaaGreat
open Go.RowKit

def sg : List UInt8 := [114, 119, 97, 43, 98, 120, 101]
def hasI (m : Mo) : List Bool := [m.rd && !m.cr, m.tr, m.ap, m.rd && m.wr, m.bi, m.ex, m.ma]
def splK (m : Mo) : Nat → List UInt8
  | 0 => []
  | k + 1 => splK m k ++ (if (hasI m).getD k false then [sg.getD k 0] else [])
theorem splK_len (m : Mo) (k : Nat) : (splK m k).length ≤ k := by
  induction k with
  | zero => exact Nat.le_refl _
  | succ k ih => simp only [splK, List.length_append]; split <;> simp <;> omega
def spl (m : Mo) : List UInt8 := splK m 7
def hasF : Nat → FuncId
  | 0 => 246
  | 1 => 248
  | 2 => 250
  | 3 => 253
  | 4 => 255
  | 5 => 258
  | _ => 260

def mayF : Nat → FuncId
  | 0 => 231
  | 1 => 231
  | 2 => 231
  | 3 => 251
  | 4 => 251
  | 5 => 256
  | _ => 251
def layF : Nat → FuncId
  | 0 => 245
  | 1 => 247
  | 2 => 249
  | 3 => 252
  | 4 => 254
  | 5 => 257
  | _ => 259
def mayI (m : Mo) : List Bool := [isNone m, isNone m, isNone m, !isNone m, !isNone m, m.tr, !isNone m]
def layI (m : Mo) : Nat → Mo
  | 0 => { m with rd := true }
  | 1 => { m with wr := true, cr := true, tr := true }
  | 2 => { m with wr := true, ap := true, cr := true }
  | 3 => { m with rd := true, wr := true }
  | 4 => { m with bi := true }
  | 5 => { m with ex := true }
  | _ => { m with ma := true }
theorem omay_any (m : Mo) (k : Nat) (hk : k < 7) (w : World) : Calls Tryz.prog (mayF k) #[mv m] w fun e w' => e = .returned (.bool ((mayI m).getD k false)) ∧ Below w.heap.size w w' := by
  match k, hk with
  | 0, _ => exact isNone_any m w
  | 1, _ => exact isNone_any m w
  | 2, _ => exact isNone_any m w
  | 3, _ => exact isBegun_any m w
  | 4, _ => exact isBegun_any m w
  | 5, _ => exact omay_x m w
  | 6, _ => exact isBegun_any m w
theorem olay_any (b : Nat) (m : Mo) (k : Nat) (hk : k < 7) (w : World) (h : MoAt w b m) : Calls Tryz.prog (layF k) #[.pointer (some ⟨b, 0, none⟩)] w fun e w' => e = .returned (.tuple #[]) ∧ MoAt w' b (layI m k) ∧ Turned (fun k => k = b) w w' := by
  match k, hk with
  | 0, _ => exact olay_r b m w h
  | 1, _ => exact olay_w b m w h
  | 2, _ => exact olay_a b m w h
  | 3, _ => exact olay_p b m w h
  | 4, _ => exact olay_b b m w h
  | 5, _ => exact olay_x b m w h
  | 6, _ => exact olay_e b m w h
theorem ohas_any (m : Mo) (k : Nat) (hk : k < 7) (w : World) : Calls Tryz.prog (hasF k) #[mv m] w fun e w' => e = .returned (.bool ((hasI m).getD k false)) ∧ Below w.heap.size w w' := by
  match k, hk with
  | 0, _ => exact ohas_r m w
  | 1, _ => exact ohas_w m w
  | 2, _ => exact ohas_a m w
  | 3, _ => exact ohas_p m w
  | 4, _ => exact ohas_b m w
  | 5, _ => exact ohas_x m w
  | 6, _ => exact ohas_e m w
set_option maxRecDepth 100000 in
theorem enter_has {k : Nat} (hk : k < 7) (a : Array Value) (w : World) : (callFunc (hasF k) a).run Tryz.prog w = .ok (.enter (hasF k) a) w := by
  match k, hk with
  | 0, _ => exact (by kernel_rfl : (callFunc 246 a).run Tryz.prog w = .ok (.enter 246 a) w)
  | 1, _ => exact (by kernel_rfl : (callFunc 248 a).run Tryz.prog w = .ok (.enter 248 a) w)
  | 2, _ => exact (by kernel_rfl : (callFunc 250 a).run Tryz.prog w = .ok (.enter 250 a) w)
  | 3, _ => exact (by kernel_rfl : (callFunc 253 a).run Tryz.prog w = .ok (.enter 253 a) w)
  | 4, _ => exact (by kernel_rfl : (callFunc 255 a).run Tryz.prog w = .ok (.enter 255 a) w)
  | 5, _ => exact (by kernel_rfl : (callFunc 258 a).run Tryz.prog w = .ok (.enter 258 a) w)
  | 6, _ => exact (by kernel_rfl : (callFunc 260 a).run Tryz.prog w = .ok (.enter 260 a) w)
set_option maxRecDepth 100000 in
theorem enter_may {k : Nat} (hk : k < 7) (a : Array Value) (w : World) : (callFunc (mayF k) a).run Tryz.prog w = .ok (.enter (mayF k) a) w := by
  match k, hk with
  | 0, _ => exact (by kernel_rfl : (callFunc 231 a).run Tryz.prog w = .ok (.enter 231 a) w)
  | 1, _ => exact (by kernel_rfl : (callFunc 231 a).run Tryz.prog w = .ok (.enter 231 a) w)
  | 2, _ => exact (by kernel_rfl : (callFunc 231 a).run Tryz.prog w = .ok (.enter 231 a) w)
  | 3, _ => exact (by kernel_rfl : (callFunc 251 a).run Tryz.prog w = .ok (.enter 251 a) w)
  | 4, _ => exact (by kernel_rfl : (callFunc 251 a).run Tryz.prog w = .ok (.enter 251 a) w)
  | 5, _ => exact (by kernel_rfl : (callFunc 256 a).run Tryz.prog w = .ok (.enter 256 a) w)
  | 6, _ => exact (by kernel_rfl : (callFunc 251 a).run Tryz.prog w = .ok (.enter 251 a) w)
set_option maxRecDepth 100000 in
theorem enter_lay {k : Nat} (hk : k < 7) (a : Array Value) (w : World) : (callFunc (layF k) a).run Tryz.prog w = .ok (.enter (layF k) a) w := by
  match k, hk with
  | 0, _ => exact (by kernel_rfl : (callFunc 245 a).run Tryz.prog w = .ok (.enter 245 a) w)
  | 1, _ => exact (by kernel_rfl : (callFunc 247 a).run Tryz.prog w = .ok (.enter 247 a) w)
  | 2, _ => exact (by kernel_rfl : (callFunc 249 a).run Tryz.prog w = .ok (.enter 249 a) w)
  | 3, _ => exact (by kernel_rfl : (callFunc 252 a).run Tryz.prog w = .ok (.enter 252 a) w)
  | 4, _ => exact (by kernel_rfl : (callFunc 254 a).run Tryz.prog w = .ok (.enter 254 a) w)
  | 5, _ => exact (by kernel_rfl : (callFunc 257 a).run Tryz.prog w = .ok (.enter 257 a) w)
  | 6, _ => exact (by kernel_rfl : (callFunc 259 a).run Tryz.prog w = .ok (.enter 259 a) w)
theorem oone_cell {w : World} {x : Value} {t : TypeId} {j : Nat} {u : Value} (h : [x][j]? = some u) : (w.alloc (Obj.cells #[x] t)).cell? (Addr.add ⟨w.heap.size, 0, none⟩ j) = some u := by
  match j with
  | 0 => rw [show Addr.add ⟨w.heap.size, 0, none⟩ 0 = ⟨w.heap.size, 0, none⟩ from rfl, cell_of_row _ _ 0 _ _ _ (heap_alloc_new _ _)]; exact h
  | j + 1 => simp at h
theorem store_func (w : World) (a : Addr) (f : FuncId) : (store a (.func (.func f) #[] #[]) .plain).run Tryz.prog w = stored Tryz.prog w a (.func (.func f) #[] #[]) .plain := run_store Tryz.prog w a _ _ rfl
theorem ltc_cells {W : World} {b : Nat} (h : Lt W b) {k : Nat} (hk : k < 7) :
    W.cell? ⟨b, k * 4, none⟩ = some (.int .u8 ((sg.getD k 0).toNat : Int)) ∧ W.cell? ⟨b, k * 4 + 1, none⟩ = some (.func (.func (mayF k)) #[] #[]) ∧ W.cell? ⟨b, k * 4 + 2, none⟩ = some (.func (.func (layF k)) #[] #[]) ∧ W.cell? ⟨b, k * 4 + 3, none⟩ = some (.func (.func (hasF k)) #[] #[]) := by
  match k, hk with
  | 0, _ => exact ⟨h.cell 0, h.cell 1, h.cell 2, h.cell 3⟩
  | 1, _ => exact ⟨h.cell 4, h.cell 5, h.cell 6, h.cell 7⟩
  | 2, _ => exact ⟨h.cell 8, h.cell 9, h.cell 10, h.cell 11⟩
  | 3, _ => exact ⟨h.cell 12, h.cell 13, h.cell 14, h.cell 15⟩
  | 4, _ => exact ⟨h.cell 16, h.cell 17, h.cell 18, h.cell 19⟩
  | 5, _ => exact ⟨h.cell 20, h.cell 21, h.cell 22, h.cell 23⟩
  | 6, _ => exact ⟨h.cell 24, h.cell 25, h.cell 26, h.cell 27⟩
set_option maxRecDepth 100000 in
set_option maxHeartbeats 1000000 in
theorem ospell_any (m : Mo) (w : World) : Calls Tryz.prog 195 #[mv m] w fun e w' => e = .returned (.string ⟨(spl m).toArray⟩) ∧ Below w.heap.size w w' := by
  obtain ⟨i0, hi, hz0, hz1, hz2⟩ := info_parts Tryz.infoB
  have hl := hide fun w => oletters_any w
  have hh := hide (ohas_any m)
  generalize hR : spl m = R
  have HR := hide hR
  clear hR
  have hmv : mv m = .agg (mc m) := rfl
  rw [hmv] at hh ⊢
  go_enter Tryz.func195, Tryz.ntmps195
  go_wp2_with fail
  refine (hl.out _).mono ?_
  rintro e w1 ⟨rfl, hL, hB1⟩
  have hM : MoAt w1 w.heap.size m := (show MoAt (w.alloc (Obj.cells (mc m) 69)) w.heap.size m from heap_alloc_new _ _).below hB1
  have hB0 := ((Below.refl w.heap.size w).alloc (Nat.le_refl _) (Obj.cells (mc m) 69)).trans (hB1.mono (Nat.le_of_lt (size_new _ _)))
  rw [show (w.alloc (Obj.cells (mc m) 69)).heap.size = w.heap.size + 1 by simp] at hL
  have hs1 : w.heap.size + 2 ≤ w1.heap.size := hL.lt
  clear hB1 hl
  go_wp2
  go_loopw [3, 8] (fun s i wr => ∃ k : Nat, k ≤ 7 ∧ i = .int .i64 k ∧ wr.ownsRow (w.heap.size + 2) 5 1 s (splK m k).length ((splK m k).map bv) ∧ Lt wr (w.heap.size + 1) ∧ MoAt wr w.heap.size m ∧ Below w.heap.size w wr) (fun _ i _ => 7 - (intOf i).toNat)
  case atStart => exact ⟨0, by omega, rfl, ⟨rfl, .inl ⟨rfl, rfl⟩⟩, hL, hM, hB0⟩
  case round =>
    clear hL hM hB0 hs1
    obtain ⟨k, hk, rfl, hown, hL, hM, hB⟩ := hrel
    obtain ⟨a0, n0, rfl⟩ := owns_slice hown
    by_cases hlt : k < 7
    · have hk1 : (0 : Int) ≤ (k : Int) := by omega
      have hk2 : (k : Int) < 7 := by omega
      obtain ⟨e0, e1, e2, e3⟩ := ltc_cells hL hlt
      have hc := hh.out k hlt
      have HL := hide hL
      have HM := hide hM
      have HO := hide hown
      have HB := hide hB
      clear hL hM hown hB hh
      have b0 : (w.heap.size + 1 : Nat) < wr.heap.size := HL.out.lt
      have hm0 : ∀ o, (wr.alloc o).cell? ⟨w.heap.size, 0, none⟩ = some (.bool m.rd) := fun o => (HM.out.below ((Below.refl _ _).alloc (Nat.le_refl _) o)).cell 0
      have hm1 : ∀ o, (wr.alloc o).cell? ⟨w.heap.size, 1, none⟩ = some (.bool m.wr) := fun o => (HM.out.below ((Below.refl _ _).alloc (Nat.le_refl _) o)).cell 1
      have hm2 : ∀ o, (wr.alloc o).cell? ⟨w.heap.size, 2, none⟩ = some (.bool m.ap) := fun o => (HM.out.below ((Below.refl _ _).alloc (Nat.le_refl _) o)).cell 2
      have hm3 : ∀ o, (wr.alloc o).cell? ⟨w.heap.size, 3, none⟩ = some (.bool m.cr) := fun o => (HM.out.below ((Below.refl _ _).alloc (Nat.le_refl _) o)).cell 3
      have hm4 : ∀ o, (wr.alloc o).cell? ⟨w.heap.size, 4, none⟩ = some (.bool m.tr) := fun o => (HM.out.below ((Below.refl _ _).alloc (Nat.le_refl _) o)).cell 4
      have hm5 : ∀ o, (wr.alloc o).cell? ⟨w.heap.size, 5, none⟩ = some (.bool m.ex) := fun o => (HM.out.below ((Below.refl _ _).alloc (Nat.le_refl _) o)).cell 5
      have hm6 : ∀ o, (wr.alloc o).cell? ⟨w.heap.size, 6, none⟩ = some (.bool m.bi) := fun o => (HM.out.below ((Below.refl _ _).alloc (Nat.le_refl _) o)).cell 6
      have hm7 : ∀ o, (wr.alloc o).cell? ⟨w.heap.size, 7, none⟩ = some (.bool m.ma) := fun o => (HM.out.below ((Below.refl _ _).alloc (Nat.le_refl _) o)).cell 7
      have hsf := store_func
      have hen := enter_has hlt
      go_wp2_with fail
      refine (hc _).mono ?_
      rintro e w2 ⟨rfl, hB2⟩
      have hBa := ((Below.refl wr.heap.size wr).alloc (Nat.le_refl _) _).trans (hB2.mono (Nat.le_of_lt (size_new _ _)))
      have q0 := (hB2.cell (p := ⟨wr.heap.size, 0, none⟩) (size_new _ _)).trans (cell_of_row _ _ 0 _ _ _ (heap_alloc_new _ _))
      have hownA := owns_below HO.out hBa
      clear hm0 hm1 hm2 hm3 hm4 hm5 hm6 hm7 e0 e1 e2 e3 hc hsf
      cases hq : (hasI m).getD k false with
      | false =>
        have HQ := hide hq
        go_wp2
        go_roundw
        case rel => exact ⟨k + 1, by omega, by go_num, by simp only [splK]; rw [HQ.out]; simpa using hownA, HL.out.below hBa, HM.out.below hBa, HB.out.trans (hBa.mono HB.out.size)⟩
        case measure => simp [intOf]; omega
      | true =>
        have HQ := hide hq
        have hln := splK_len m k
        have q1 : w2.cell? ⟨wr.heap.size, 0, none⟩ = some (.int .u8 (sg[k]?.getD 0).toNat) := q0
        have hsz : w.heap.size + 2 ≤ w2.heap.size := Nat.le_trans b0 hBa.size
        clear hen q0
        have HBa := hide hBa
        have HOA := hide hownA
        clear hBa hB2 hownA
        go_wp2_with (at_builtin; refine wpList_append_own _ rfl _ _ 40 rfl (w.heap.size + 2) 5 i0 (.int .u8 0) 1 1 Tryz.underlying40 hi hz0 hz1 hz2 rfl (by decide) _ _ _ rfl (HOA.out.alloc _) ⟨w2.heap.size, 0, none⟩ 1 1 [.int .u8 (sg[k]?.getD 0).toNat] rfl rfl (fun j u hj => oone_cell hj) (by simp [Value.oneCell']) (by unfold maxLen; omega) (by omega) (by simp; omega) ?_; intro v' w4 hown4 hgrow4 hnil4)
        have hBg : Below (w.heap.size + 2) w2 w4 := ((Below.refl _ _).alloc hsz _).grown hgrow4 (by simp; omega) (fun k e => (HOA.out.lt k e).1)
        have hM4 : MoAt w4 w.heap.size m := (hBg.block _ (by omega)).trans (HM.out.below HBa.out)
        have hL4 : Lt w4 (w.heap.size + 1) := (hBg.block _ (by omega)).trans (HL.out.below HBa.out)
        go_roundw
        case rel => exact ⟨k + 1, by omega, by go_num, by simp only [splK]; rw [HQ.out]; simpa [bv] using hown4, hL4, hM4, (HB.out.trans (HBa.out.mono HB.out.size)).trans (hBg.mono (by omega))⟩
        case measure => simp [intOf]; omega
    · obtain rfl : k = 7 := by omega
      have hst := owns_string hown
      have HL := hide hL
      have HM := hide hM
      have HO := hide hown
      have HB := hide hB
      clear hL hM hown hB hh
      go_wp2
      go_ret
      exact ⟨by rw [← HR.out]; rfl, HB.out⟩
end Go.Proofs.YtmlfcbbgelkbbaaGreat

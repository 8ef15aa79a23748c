/- What the proof stands on, part 17: the contracts of the program's calls that it reaches. -/
import Derived.Test.YtkkommomefmpgaaGreatKQ16
import Derived.Deep.RegionLaw
/- Streams: a way is begun. -/
namespace Go.Proofs.YtkkommomefmpgaaGreat
open Go.RowKit

theorem Way.new (w : World) (x : SS) (o i b r : Value) : Way (w.alloc (Obj.cells #[.bool x.rd, .bool x.wt, .int .i64 x.mode, .int .i64 x.size, o, i, b, .int .i64 x.dir, .bool x.fin, .bool x.bad, .bool x.closed, r] 199)) w.heap.size x o i b r := heap_alloc_new w _
set_option maxRecDepth 100000 in
set_option maxHeartbeats 4000000 in
theorem onWay_any (x : SS) (o i b : Value) (P : Nat → Prop) (r : Value) (w : World) (h : SIn w P x o i b) (ho : x.out.length ≤ 140737488351232) (hi : x.inn.length ≤ 140737488351232) (hb : x.back.length ≤ 140737488351232) (hr : r = .nilIface ∨ ∃ T v, r = .iface T v) :
    Calls Tryz.prog 113 #[.agg #[.bool x.rd, .bool x.wt, .int .i64 x.mode, .int .i64 x.size, o, i, b, .int .i64 x.dir, .bool x.fin, .bool x.bad, .bool x.closed], r] w fun e w' => ∃ g o' i' b', e = .returned (.pointer (some ⟨g, 0, none⟩)) ∧ Way w' g x o' i' b' r ∧ w.heap.size ≤ g ∧ w'.ownsRow w.heap.size 5 1 o' x.out.length (x.out.map bv) ∧ w'.ownsRow w.heap.size 5 1 i' x.inn.length (x.inn.map bv) ∧ w'.ownsRow w.heap.size 5 1 b' x.back.length (x.back.map bv) ∧ (∀ k, o'.ownBlock = some k ∨ i'.ownBlock = some k ∨ b'.ownBlock = some k → k ≠ g) ∧ Below w.heap.size w w' := by
  have HC := hide (fun (W : World) (hW : Below w.heap.size w W) => scopied_any x o i b P W (h.below hW) ho hi hb)
  obtain ⟨oa, oc, rfl, -⟩ := h.so
  obtain ⟨ia, ic, rfl, -⟩ := h.si
  obtain ⟨ba, bc, rfl, -⟩ := h.sb
  clear h
  rcases hr with rfl | ⟨T, v, rfl⟩
  · skip
    go_enter Tryz.func113, Tryz.ntmps113
    go_wp2_with fail
    refine (HC.out _ (recv_below w _)).mono ?_
    rintro _ w1 ⟨o', i', b', rfl, q1, q2, q3, hB1⟩
    obtain ⟨a1, k1, rfl⟩ := owns_slice q1
    obtain ⟨a2, k2, rfl⟩ := owns_slice q2
    obtain ⟨a3, k3, rfl⟩ := owns_slice q3
    have HQ := hide (And.intro q1 (And.intro q2 q3))
    have hz := (recv_below w (Obj.cells #[.bool x.rd, .bool x.wt, .int .i64 x.mode, .int .i64 x.size, .slice oa x.out.length oc, .slice ia x.inn.length ic, .slice ba x.back.length bc, .int .i64 x.dir, .bool x.fin, .bool x.bad, .bool x.closed] 58)).size
    have HB1 := hide ((recv_below w _).trans (hB1.mono hz))
    have HZ := hide hz
    clear q1 q2 q3 hB1 HC hz
    go_wp2
    go_ret
    have hBn := recv_below w1 (Obj.cells #[.bool x.rd, .bool x.wt, .int .i64 x.mode, .int .i64 x.size, .slice a1 x.out.length k1, .slice a2 x.inn.length k2, .slice a3 x.back.length k3, .int .i64 x.dir, .bool x.fin, .bool x.bad, .bool x.closed, .nilIface] 199)
    refine ⟨w1.heap.size, _, _, _, rfl, Way.new w1 x _ _ _ _, HB1.out.size, owns_mono (owns_below HQ.out.1 hBn) HZ.out, owns_mono (owns_below HQ.out.2.1 hBn) HZ.out, owns_mono (owns_below HQ.out.2.2 hBn) HZ.out, fun k e e' => ?_, HB1.out.trans (hBn.mono HB1.out.size)⟩
    rcases e with e | e | e
    · have := (HQ.out.1.lt k e).2; omega
    · have := (HQ.out.2.1.lt k e).2; omega
    · have := (HQ.out.2.2.lt k e).2; omega
  · skip
    go_enter Tryz.func113, Tryz.ntmps113
    go_wp2_with fail
    refine (HC.out _ (recv_below w _)).mono ?_
    rintro _ w1 ⟨o', i', b', rfl, q1, q2, q3, hB1⟩
    obtain ⟨a1, k1, rfl⟩ := owns_slice q1
    obtain ⟨a2, k2, rfl⟩ := owns_slice q2
    obtain ⟨a3, k3, rfl⟩ := owns_slice q3
    have HQ := hide (And.intro q1 (And.intro q2 q3))
    have hz := (recv_below w (Obj.cells #[.bool x.rd, .bool x.wt, .int .i64 x.mode, .int .i64 x.size, .slice oa x.out.length oc, .slice ia x.inn.length ic, .slice ba x.back.length bc, .int .i64 x.dir, .bool x.fin, .bool x.bad, .bool x.closed] 58)).size
    have HB1 := hide ((recv_below w _).trans (hB1.mono hz))
    have HZ := hide hz
    clear q1 q2 q3 hB1 HC hz
    go_wp2
    go_ret
    have hBn := recv_below w1 (Obj.cells #[.bool x.rd, .bool x.wt, .int .i64 x.mode, .int .i64 x.size, .slice a1 x.out.length k1, .slice a2 x.inn.length k2, .slice a3 x.back.length k3, .int .i64 x.dir, .bool x.fin, .bool x.bad, .bool x.closed, .iface T v] 199)
    refine ⟨w1.heap.size, _, _, _, rfl, Way.new w1 x _ _ _ _, HB1.out.size, owns_mono (owns_below HQ.out.1 hBn) HZ.out, owns_mono (owns_below HQ.out.2.1 hBn) HZ.out, owns_mono (owns_below HQ.out.2.2 hBn) HZ.out, fun k e e' => ?_, HB1.out.trans (hBn.mono HB1.out.size)⟩
    rcases e with e | e | e
    · have := (HQ.out.1.lt k e).2; omega
    · have := (HQ.out.2.1.lt k e).2; omega
    · have := (HQ.out.2.2.lt k e).2; omega
end Go.Proofs.YtkkommomefmpgaaGreat

/- Streams: Put, Get, Flush, Close over any Raw. -/
namespace Go.Proofs.YtkkommomefmpgaaGreat
open Go.RowKit

def SOut {S : Type} (At : World → (Nat → Prop) → S → Prop) (w : World) (O : Nat → Prop) (x : SS) (s : S) (o i b : Value) (w' : World) : Prop :=
  ∃ O', SIn w' (fun k => w.heap.size ≤ k ∧ ¬ O' k ∧ k < w'.heap.size) x o i b ∧ At w' O' s ∧ (∀ j, O' j → j < w'.heap.size) ∧ (∀ k, O' k → O k ∨ w.heap.size ≤ k) ∧ Turned O w w'
theorem On.out {S : Type} {At : World → (Nat → Prop) → S → Prop} {w w1 w2 : World} {O O' : Nat → Prop} {s : S} {g : Nat} {x : SS} {o i b r : Value} (h : On At w2 O' s w.heap.size g x o i b r) (hB : Below w.heap.size w w1) (hO : ∀ k, O' k → O k ∨ w1.heap.size ≤ k) (hT : Turned (fun k => O k ∨ w.heap.size ≤ k) w1 w2) : SOut At w O x s o i b w2 := by
  have hz := hB.size
  exact ⟨O', h.ls.mono fun k e => ⟨e.1, e.2.1, e.2.2.2⟩, h.raw, h.ol, fun k e => (hO k e).imp id (fun e => by omega), (Turned.of_below (S := O) hB).trans hT (fun k hk e => e.resolve_right (by omega))⟩
theorem On.begin {S : Type} {At : World → (Nat → Prop) → S → Prop} (hT : ∀ s, OAt (fun w O => At w O s)) {w w1 : World} {O : Nat → Prop} {s : S} {g : Nat} {x : SS} {o i b r : Value} (hA : At w O s) (hO : ∀ j, O j → j < w.heap.size) (hW : Way w1 g x o i b r) (hg : w.heap.size ≤ g) (h1 : w1.ownsRow w.heap.size 5 1 o x.out.length (x.out.map bv)) (h2 : w1.ownsRow w.heap.size 5 1 i x.inn.length (x.inn.map bv)) (h3 : w1.ownsRow w.heap.size 5 1 b x.back.length (x.back.map bv)) (hn : ∀ k, o.ownBlock = some k ∨ i.ownBlock = some k ∨ b.ownBlock = some k → k ≠ g) (hB : Below w.heap.size w w1) : On At w1 O s w.heap.size g x o i b r := by
  have hz := hB.size
  exact ⟨hW, ⟨Sl.own h1, Sl.own h2, Sl.own h3, fun k e => ⟨(h1.lt k e).1, fun e' => by have := hO k e'; have := (h1.lt k e).1; omega, hn k (.inl e), (h1.lt k e).2⟩, fun k e => ⟨(h2.lt k e).1, fun e' => by have := hO k e'; have := (h2.lt k e).1; omega, hn k (.inr (.inl e)), (h2.lt k e).2⟩, fun k e => ⟨(h3.lt k e).1, fun e' => by have := hO k e'; have := (h3.lt k e).1; omega, hn k (.inr (.inr e)), (h3.lt k e).2⟩⟩, (hT s).keep hA (fun j _ hj => hB.block j hj) hz, fun e => by have := hO g e; omega, hg, fun j e => Nat.lt_of_lt_of_le (hO j e) hz⟩
theorem noWrite_none {x : SS} (h : x.noWrite = 0) : x.inn = [] ∧ x.back = [] := by
  have hm := (refuse_may (noWrite_may h).1).1
  have hd : ¬ (x.dir = 1 ∧ ¬ (x.fin = true ∧ (x.inn.length : Int) + (x.back.length : Int) = 0)) := by
    intro e
    have hy := noWrite_may h
    unfold SS.noWrite at h
    rw [if_neg (by simp [hy.1]), if_neg (by simp [hy.2]), if_pos e] at h
    omega
  have hw : x.way = true := by
    unfold SS.may at hm
    simp only [Bool.and_eq_true] at hm
    exact hm.2
  have key : (x.inn.length : Int) + (x.back.length : Int) ≤ 0 := by
    unfold SS.way SS.toR at hw
    split at hw
    · simp only [Bool.and_eq_true, Bool.not_eq_true', decide_eq_false_iff_not] at hw
      omega
    split at hw
    · rename_i h1
      by_cases hc : x.fin = true ∧ (x.inn.length : Int) + (x.back.length : Int) = 0
      · omega
      · exact absurd ⟨h1, hc⟩ hd
    split at hw
    · simp only [Bool.and_eq_true, Bool.not_eq_true', decide_eq_false_iff_not] at hw
      omega
    · simp at hw
  exact ⟨List.length_eq_zero_iff.1 (by omega), List.length_eq_zero_iff.1 (by omega)⟩
theorem SOut.fin {S : Type} {At : World → (Nat → Prop) → S → Prop} (hT : ∀ s, OAt (fun w O => At w O s)) {w w0 w3 w4 : World} {O : Nat → Prop} {x : SS} {s : S} {o i b : Value} {g : Nat} (h : SOut At w0 O x s o i b w3) (hB : Below w.heap.size w w0) (hg : g < w0.heap.size) (hgw : w.heap.size ≤ g) (hO : ∀ j, O j → j < w.heap.size) (hT4 : Turned (fun k => k = g) w3 w4) : SOut At w O x s o i b w4 := by
  obtain ⟨O', h1, h2, h3, h4, h5⟩ := h
  have hz := hB.size
  have hz4 := hT4.size
  have hg' : ¬ O' g := fun e => by
    rcases h4 g e with e | e
    · have := hO g e; omega
    · omega
  exact ⟨O', (h1.turned hT4 fun k e _ e' => by have := e.1; omega).mono fun k e => ⟨by have := e.1; omega, e.2.1, by have := e.2.2; omega⟩, (hT s).keep h2 (fun j e hj => hT4.block j hj (fun e' => hg' (e' ▸ e))) hz4, fun j e => Nat.lt_of_lt_of_le (h3 j e) hz4, fun k e => (h4 k e).imp id (fun e => by omega), ((Turned.of_below (S := O) hB).trans h5 (fun _ _ e => e)).trans hT4 (fun k hk e => by omega)⟩
theorem res_two {fn : Func} {p u : Tmp} {w : World} (h : fn.results = #[.cell p 58, .tmp u]) (tmps : Array Value) (g : Nat) (hp : tmps.getD p undef = .pointer (some ⟨g, 0, none⟩)) (x : SS) (o i b : Value) (hg : StAt w g x o i b) : (results fn tmps).run Tryz.prog w = .ok (.tuple #[.agg #[.bool x.rd, .bool x.wt, .int .i64 x.mode, .int .i64 x.size, o, i, b, .int .i64 x.dir, .bool x.fin, .bool x.bad, .bool x.closed], tmps.getD u undef]) w := by
  have hp' : tmps[p]?.getD undef = .pointer (some ⟨g, 0, none⟩) := by simpa using hp
  simp [results, h, hp', asAddr, run_loadVar_row w g _ 58 _ _ _ hg Tryz.underlying58 rfl (by kernel_rfl)]
theorem res_three {fn : Func} {p u t : Tmp} {w : World} (h : fn.results = #[.cell p 58, .tmp u, .tmp t]) (tmps : Array Value) (g : Nat) (hp : tmps.getD p undef = .pointer (some ⟨g, 0, none⟩)) (x : SS) (o i b : Value) (hg : StAt w g x o i b) : (results fn tmps).run Tryz.prog w = .ok (.tuple #[.agg #[.bool x.rd, .bool x.wt, .int .i64 x.mode, .int .i64 x.size, o, i, b, .int .i64 x.dir, .bool x.fin, .bool x.bad, .bool x.closed], tmps.getD u undef, tmps.getD t undef]) w := by
  have hp' : tmps[p]?.getD undef = .pointer (some ⟨g, 0, none⟩) := by simpa using hp
  simp [results, h, hp', asAddr, run_loadVar_row w g _ 58 _ _ _ hg Tryz.underlying58 rfl (by kernel_rfl)]
set_option maxRecDepth 100000 in
set_option maxHeartbeats 4000000 in
theorem sPutW_any {S : Type} {D : RawD S} {T : TypeId} {v : Value} {fr fw : FuncId} {rok wok : S → Prop} {At : World → (Nat → Prop) → S → Prop} (R : RawM D T v fr fw rok wok At) (hT : ∀ s, OAt (fun w O => At w O s)) {G : Nat → S → Prop} (hG : BearsW D wok G) {w : World} {O P : Nat → Prop} {s : S} {x : SS} {o i b : Value} (c : UInt8) (h : SIn w P x o i b) (hA : At w O s) (hO : ∀ j, O j → j < w.heap.size) (hg : G 2 s) (ho : x.out.length ≤ 140737488351232) (hi : x.inn.length ≤ 140737488351232) (hb : x.back.length ≤ 140737488351232) :
    Calls Tryz.prog 30 #[.agg #[.bool x.rd, .bool x.wt, .int .i64 x.mode, .int .i64 x.size, o, i, b, .int .i64 x.dir, .bool x.fin, .bool x.bad, .bool x.closed], .iface T v, .int .u8 (c.toNat : Int)] w fun e w' => ∃ o' i' b', e = .returned (.tuple #[.agg #[.bool (x.put D s c).1.rd, .bool (x.put D s c).1.wt, .int .i64 (x.put D s c).1.mode, .int .i64 (x.put D s c).1.size, o', i', b', .int .i64 (x.put D s c).1.dir, .bool (x.put D s c).1.fin, .bool (x.put D s c).1.bad, .bool (x.put D s c).1.closed], .int .i64 (x.put D s c).2.1]) ∧ SOut At w O (x.put D s c).1 (x.put D s c).2.2 o' i' b' w' := by
  have HWx := hide (fun (W : World) (hW : Below w.heap.size w W) => onWay_any x o i b P (.iface T v) W (h.below hW) ho hi hb (.inr ⟨T, v, rfl⟩))
  obtain ⟨oa, oc, rfl, -⟩ := h.so
  obtain ⟨ia, ic, rfl, -⟩ := h.si
  obtain ⟨ba, bc, rfl, -⟩ := h.sb
  clear h
  generalize hq : x.put D s c = q
  obtain ⟨qx, qe, qs⟩ := q
  unfold SS.put at hq
  go_enter Tryz.func30, Tryz.ntmps30
  go_wp2_with fail
  have HB0 := hide ((recv_below w (Obj.cells #[.bool x.rd, .bool x.wt, .int .i64 x.mode, .int .i64 x.size, .slice oa x.out.length oc, .slice ia x.inn.length ic, .slice ba x.back.length bc, .int .i64 x.dir, .bool x.fin, .bool x.bad, .bool x.closed] 58)).trans ((recv_below (w.alloc (Obj.cells #[.bool x.rd, .bool x.wt, .int .i64 x.mode, .int .i64 x.size, .slice oa x.out.length oc, .slice ia x.inn.length ic, .slice ba x.back.length bc, .int .i64 x.dir, .bool x.fin, .bool x.bad, .bool x.closed] 58)) (Obj.cells #[.bool false, .bool false, .int .i64 0, .int .i64 0, .slice none 0 0, .slice none 0 0, .slice none 0 0, .int .i64 0, .bool false, .bool false, .bool false] 58)).mono (recv_below w (Obj.cells #[.bool x.rd, .bool x.wt, .int .i64 x.mode, .int .i64 x.size, .slice oa x.out.length oc, .slice ia x.inn.length ic, .slice ba x.back.length bc, .int .i64 x.dir, .bool x.fin, .bool x.bad, .bool x.closed] 58)).size))
  have HZ0 : Hid (((w.alloc (Obj.cells #[.bool x.rd, .bool x.wt, .int .i64 x.mode, .int .i64 x.size, .slice oa x.out.length oc, .slice ia x.inn.length ic, .slice ba x.back.length bc, .int .i64 x.dir, .bool x.fin, .bool x.bad, .bool x.closed] 58)).alloc (Obj.cells #[.bool false, .bool false, .int .i64 0, .int .i64 0, .slice none 0 0, .slice none 0 0, .slice none 0 0, .int .i64 0, .bool false, .bool false, .bool false] 58)).heap[w.heap.size + 1]? = some (Obj.cells #[.bool false, .bool false, .int .i64 0, .int .i64 0, .slice none 0 0, .slice none 0 0, .slice none 0 0, .int .i64 0, .bool false, .bool false, .bool false] 58)) := hide (by have := heap_alloc_new (w.alloc (Obj.cells #[.bool x.rd, .bool x.wt, .int .i64 x.mode, .int .i64 x.size, .slice oa x.out.length oc, .slice ia x.inn.length ic, .slice ba x.back.length bc, .int .i64 x.dir, .bool x.fin, .bool x.bad, .bool x.closed] 58)) (Obj.cells #[.bool false, .bool false, .int .i64 0, .int .i64 0, .slice none 0 0, .slice none 0 0, .slice none 0 0, .int .i64 0, .bool false, .bool false, .bool false] 58); rw [show (w.alloc (Obj.cells #[.bool x.rd, .bool x.wt, .int .i64 x.mode, .int .i64 x.size, .slice oa x.out.length oc, .slice ia x.inn.length ic, .slice ba x.back.length bc, .int .i64 x.dir, .bool x.fin, .bool x.bad, .bool x.closed] 58)).heap.size = w.heap.size + 1 from Array.size_push ..] at this; exact this)
  generalize (w.alloc (Obj.cells #[.bool x.rd, .bool x.wt, .int .i64 x.mode, .int .i64 x.size, .slice oa x.out.length oc, .slice ia x.inn.length ic, .slice ba x.back.length bc, .int .i64 x.dir, .bool x.fin, .bool x.bad, .bool x.closed] 58)).alloc (Obj.cells #[.bool false, .bool false, .int .i64 0, .int .i64 0, .slice none 0 0, .slice none 0 0, .slice none 0 0, .int .i64 0, .bool false, .bool false, .bool false] 58) = w0 at *
  have hz0 : w.heap.size + 1 < w0.heap.size := (Array.getElem?_eq_some_iff.1 HZ0.out).1
  refine (HWx.out _ HB0.out).mono ?_
  rintro _ w1 ⟨g, o1, i1, b1, rfl, y1, y2, y3, y4, y5, y6, hB1⟩
  obtain ⟨a1, k1, rfl⟩ := owns_slice y3
  obtain ⟨a2, k2, rfl⟩ := owns_slice y4
  obtain ⟨a3, k3, rfl⟩ := owns_slice y5
  have HOn1 := hide (On.begin hT ((hT s).keep hA (fun j _ hj => HB0.out.block j hj) HB0.out.size) (fun j e => Nat.lt_of_lt_of_le (hO j e) HB0.out.size) y1 y2 y3 y4 y5 y6 hB1)
  have HTu := hide (turnToWriting_any x g a1 a2 a3 k1 k2 k3 T v w1 y1 hi hb)
  have HOw := hide y3
  have HB1 := hide hB1
  have hz1 := hB1.size
  clear y1 y2 y3 y4 y5 y6 hB1 HWx
  go_wp2_with fail
  refine HTu.out.mono ?_
  rintro _ w2 ⟨rfl, hW2, hT2⟩
  by_cases hn : x.noWrite = 0
  · rw [if_pos hn] at hq hW2
    rw [hn]
    have hOn2 := On.at hT HOn1.out hW2 hT2 (HOn1.out.ls.kin rfl rfl rfl)
    obtain ⟨m1, m2, m3, m4, m5, m6, m7, m8⟩ := may_buf (refuse_may (noWrite_may hn).1).1
    obtain ⟨n1, n2⟩ := noWrite_none hn
    have hown := owns_turned HOw.out hT2 (fun k e e' => (HOn1.out.ls.po k e).2.2.1 e')
    have hz2 := hT2.size
    have HP := hide (wput_any R hT hG c hOn2 hown (by omega) m3 m4 m5 n1 n2 hg).1
    rw [hq] at HP
    have HT2 := hide (hT2.mono fun k e => (.inr (by have := HOn1.out.gB; omega) : O k ∨ w0.heap.size ≤ k))
    clear hOn2 hown hW2 hT2 hq m1 m2 m3 m4 m5 m6 m7 m8 n1 n2 hn
    go_wp2_with fail
    refine HP.out.mono ?_
    rintro _ w3 ⟨rfl, o3, i3, b3, O3, hOn3, hO3, hT3⟩
    obtain ⟨a4, k4, rfl, -⟩ := hOn3.ls.so
    obtain ⟨a5, k5, rfl, -⟩ := hOn3.ls.si
    obtain ⟨a6, k6, rfl, -⟩ := hOn3.ls.sb
    obtain ⟨c0, c1, c2, c3, c4, c5, c6, c7, c8, c9, c10, c11⟩ := hOn3.way.cs
    have hT13 := HT2.out.trans hT3 (fun _ _ e => e)
    have HF := hide (On.out hOn3 HB1.out (fun k e => (hO3 k e).imp id (fun e => by omega)) hT13)
    have HZ3 := hide ((hT13.block (w.heap.size + 1) (by omega) (fun e => by rcases e with e | e; exact absurd (hO _ e) (by omega); omega)).trans ((HB1.out.block (w.heap.size + 1) hz0).trans HZ0.out))
    clear hOn3 hO3 hT3 hT13
    have z0 := cell_of_row w3 (w.heap.size + 1) 0 _ _ _ HZ3.out
    have z1 := cell_of_row w3 (w.heap.size + 1) 1 _ _ _ HZ3.out
    have z2 := cell_of_row w3 (w.heap.size + 1) 2 _ _ _ HZ3.out
    have z3 := cell_of_row w3 (w.heap.size + 1) 3 _ _ _ HZ3.out
    have z4 := cell_of_row w3 (w.heap.size + 1) 4 _ _ _ HZ3.out
    have z5 := cell_of_row w3 (w.heap.size + 1) 5 _ _ _ HZ3.out
    have z6 := cell_of_row w3 (w.heap.size + 1) 6 _ _ _ HZ3.out
    have z7 := cell_of_row w3 (w.heap.size + 1) 7 _ _ _ HZ3.out
    have z8 := cell_of_row w3 (w.heap.size + 1) 8 _ _ _ HZ3.out
    have z9 := cell_of_row w3 (w.heap.size + 1) 9 _ _ _ HZ3.out
    have z10 := cell_of_row w3 (w.heap.size + 1) 10 _ _ _ HZ3.out
    have u0 := frozen_of_row w3 (w.heap.size + 1) 0 _ _ HZ3.out
    have u1 := frozen_of_row w3 (w.heap.size + 1) 1 _ _ HZ3.out
    have u2 := frozen_of_row w3 (w.heap.size + 1) 2 _ _ HZ3.out
    have u3 := frozen_of_row w3 (w.heap.size + 1) 3 _ _ HZ3.out
    have u4 := frozen_of_row w3 (w.heap.size + 1) 4 _ _ HZ3.out
    have u5 := frozen_of_row w3 (w.heap.size + 1) 5 _ _ HZ3.out
    have u6 := frozen_of_row w3 (w.heap.size + 1) 6 _ _ HZ3.out
    have u7 := frozen_of_row w3 (w.heap.size + 1) 7 _ _ HZ3.out
    have u8 := frozen_of_row w3 (w.heap.size + 1) 8 _ _ HZ3.out
    have u9 := frozen_of_row w3 (w.heap.size + 1) 9 _ _ HZ3.out
    have u10 := frozen_of_row w3 (w.heap.size + 1) 10 _ _ HZ3.out
    simp at z0 z1 z2 z3 z4 z5 z6 z7 z8 z9 z10
    go_wp2
    obtain ⟨e1, e2⟩ := st_fill w3 (w.heap.size + 1) qx (.slice a4 qx.out.length k4) (.slice a5 qx.inn.length k5) (.slice a6 qx.back.length k6) HZ3.out
    refine bodyPost_ret (res_two rfl _ (w.heap.size + 1) rfl qx _ _ _ e1) rfl ?_
    exact ⟨_, _, _, rfl, SOut.fin hT HF.out HB0.out hz0 (Nat.le_succ _) hO e2⟩
  · rw [if_neg hn] at hq hW2
    obtain ⟨rfl, rfl, rfl⟩ : x = qx ∧ x.noWrite = qe ∧ s = qs := by simpa using hq
    have hT12 := hT2.mono fun k e => (.inr (by have := HOn1.out.gB; omega) : O k ∨ w0.heap.size ≤ k)
    have HF := hide (On.out (O := O) (On.at hT HOn1.out hW2 hT2 HOn1.out.ls) HB1.out (fun _ e => .inl e) hT12)
    obtain ⟨c0, c1, c2, c3, c4, c5, c6, c7, c8, c9, c10, c11⟩ := hW2.cs
    have HZ3 := hide ((hT12.block (w.heap.size + 1) (by omega) (fun e => by rcases e with e | e; exact absurd (hO _ e) (by omega); omega)).trans ((HB1.out.block (w.heap.size + 1) hz0).trans HZ0.out))
    obtain ⟨nw, hnw⟩ : ∃ nw, nw = x.noWrite := ⟨_, rfl⟩
    rw [← hnw] at hn ⊢
    have HNw := hide hnw
    have hn2 : (nw == 0) = false := by simp [hn]
    clear hq hW2 hT2 hT12 hnw
    have z0 := cell_of_row w2 (w.heap.size + 1) 0 _ _ _ HZ3.out
    have z1 := cell_of_row w2 (w.heap.size + 1) 1 _ _ _ HZ3.out
    have z2 := cell_of_row w2 (w.heap.size + 1) 2 _ _ _ HZ3.out
    have z3 := cell_of_row w2 (w.heap.size + 1) 3 _ _ _ HZ3.out
    have z4 := cell_of_row w2 (w.heap.size + 1) 4 _ _ _ HZ3.out
    have z5 := cell_of_row w2 (w.heap.size + 1) 5 _ _ _ HZ3.out
    have z6 := cell_of_row w2 (w.heap.size + 1) 6 _ _ _ HZ3.out
    have z7 := cell_of_row w2 (w.heap.size + 1) 7 _ _ _ HZ3.out
    have z8 := cell_of_row w2 (w.heap.size + 1) 8 _ _ _ HZ3.out
    have z9 := cell_of_row w2 (w.heap.size + 1) 9 _ _ _ HZ3.out
    have z10 := cell_of_row w2 (w.heap.size + 1) 10 _ _ _ HZ3.out
    have u0 := frozen_of_row w2 (w.heap.size + 1) 0 _ _ HZ3.out
    have u1 := frozen_of_row w2 (w.heap.size + 1) 1 _ _ HZ3.out
    have u2 := frozen_of_row w2 (w.heap.size + 1) 2 _ _ HZ3.out
    have u3 := frozen_of_row w2 (w.heap.size + 1) 3 _ _ HZ3.out
    have u4 := frozen_of_row w2 (w.heap.size + 1) 4 _ _ HZ3.out
    have u5 := frozen_of_row w2 (w.heap.size + 1) 5 _ _ HZ3.out
    have u6 := frozen_of_row w2 (w.heap.size + 1) 6 _ _ HZ3.out
    have u7 := frozen_of_row w2 (w.heap.size + 1) 7 _ _ HZ3.out
    have u8 := frozen_of_row w2 (w.heap.size + 1) 8 _ _ HZ3.out
    have u9 := frozen_of_row w2 (w.heap.size + 1) 9 _ _ HZ3.out
    have u10 := frozen_of_row w2 (w.heap.size + 1) 10 _ _ HZ3.out
    simp at z0 z1 z2 z3 z4 z5 z6 z7 z8 z9 z10
    go_wp2
    obtain ⟨e1, e2⟩ := st_fill w2 (w.heap.size + 1) x (.slice a1 x.out.length k1) (.slice a2 x.inn.length k2) (.slice a3 x.back.length k3) HZ3.out
    refine bodyPost_ret (res_two rfl _ (w.heap.size + 1) rfl x _ _ _ e1) rfl ?_
    exact ⟨_, _, _, by rw [← HNw.out]; rfl, SOut.fin hT HF.out HB0.out hz0 (Nat.le_succ _) hO e2⟩
theorem sPut_any {S : Type} {D : RawD S} {T : TypeId} {v : Value} {fr fw : FuncId} {rok wok : S → Prop} {At : World → (Nat → Prop) → S → Prop} (R : RawM D T v fr fw rok wok At) (hT : ∀ s, OAt (fun w O => At w O s)) {G : Nat → S → Prop} (hG : Bears D rok wok G) {w : World} {O P : Nat → Prop} {s : S} {x : SS} {o i b : Value} (c : UInt8) (h : SIn w P x o i b) (hA : At w O s) (hO : ∀ j, O j → j < w.heap.size) (hg : G 2 s) (ho : x.out.length ≤ 140737488351232) (hi : x.inn.length ≤ 140737488351232) (hb : x.back.length ≤ 140737488351232) :
    Calls Tryz.prog 30 #[.agg #[.bool x.rd, .bool x.wt, .int .i64 x.mode, .int .i64 x.size, o, i, b, .int .i64 x.dir, .bool x.fin, .bool x.bad, .bool x.closed], .iface T v, .int .u8 (c.toNat : Int)] w fun e w' => ∃ o' i' b', e = .returned (.tuple #[.agg #[.bool (x.put D s c).1.rd, .bool (x.put D s c).1.wt, .int .i64 (x.put D s c).1.mode, .int .i64 (x.put D s c).1.size, o', i', b', .int .i64 (x.put D s c).1.dir, .bool (x.put D s c).1.fin, .bool (x.put D s c).1.bad, .bool (x.put D s c).1.closed], .int .i64 (x.put D s c).2.1]) ∧ SOut At w O (x.put D s c).1 (x.put D s c).2.2 o' i' b' w' :=
  sPutW_any R hT hG.w c h hA hO hg ho hi hb
set_option maxRecDepth 100000 in
set_option maxHeartbeats 4000000 in
theorem sGetR_any {S : Type} {D : RawD S} {T : TypeId} {v : Value} {fr fw : FuncId} {rok wok : S → Prop} {At : World → (Nat → Prop) → S → Prop} (R : RawM D T v fr fw rok wok At) (hT : ∀ s, OAt (fun w O => At w O s)) {w : World} {O P : Nat → Prop} {s : S} {x : SS} {o i b : Value} (h : SIn w P x o i b) (hA : At w O s) (hO : ∀ j, O j → j < w.heap.size) (hso : ∀ m, 1 ≤ m → m ≤ 65536 → someOk D rok m 8192 s) (ho : x.out.length ≤ 140737488351232) (hi : x.inn.length ≤ 140737488351232) (hb : x.back.length ≤ 140737488351232) :
    Calls Tryz.prog 95 #[.agg #[.bool x.rd, .bool x.wt, .int .i64 x.mode, .int .i64 x.size, o, i, b, .int .i64 x.dir, .bool x.fin, .bool x.bad, .bool x.closed], .iface T v] w fun e w' => ∃ o' i' b', e = .returned (.tuple #[.agg #[.bool (x.get D s).1.rd, .bool (x.get D s).1.wt, .int .i64 (x.get D s).1.mode, .int .i64 (x.get D s).1.size, o', i', b', .int .i64 (x.get D s).1.dir, .bool (x.get D s).1.fin, .bool (x.get D s).1.bad, .bool (x.get D s).1.closed], .int .u8 ((x.get D s).2.1.toNat : Int), .int .i64 (x.get D s).2.2.1]) ∧ SOut At w O (x.get D s).1 (x.get D s).2.2.2 o' i' b' w' := by
  have HWx := hide (fun (W : World) (hW : Below w.heap.size w W) => onWay_any x o i b P (.iface T v) W (h.below hW) ho hi hb (.inr ⟨T, v, rfl⟩))
  obtain ⟨oa, oc, rfl, -⟩ := h.so
  obtain ⟨ia, ic, rfl, -⟩ := h.si
  obtain ⟨ba, bc, rfl, -⟩ := h.sb
  clear h
  generalize hq : x.get D s = q
  obtain ⟨qx, qc, qe, qs⟩ := q
  unfold SS.get at hq
  go_enter Tryz.func95, Tryz.ntmps95
  go_wp2_with fail
  have HB0 := hide ((recv_below w (Obj.cells #[.bool x.rd, .bool x.wt, .int .i64 x.mode, .int .i64 x.size, .slice oa x.out.length oc, .slice ia x.inn.length ic, .slice ba x.back.length bc, .int .i64 x.dir, .bool x.fin, .bool x.bad, .bool x.closed] 58)).trans ((recv_below (w.alloc (Obj.cells #[.bool x.rd, .bool x.wt, .int .i64 x.mode, .int .i64 x.size, .slice oa x.out.length oc, .slice ia x.inn.length ic, .slice ba x.back.length bc, .int .i64 x.dir, .bool x.fin, .bool x.bad, .bool x.closed] 58)) (Obj.cells #[.bool false, .bool false, .int .i64 0, .int .i64 0, .slice none 0 0, .slice none 0 0, .slice none 0 0, .int .i64 0, .bool false, .bool false, .bool false] 58)).mono (recv_below w (Obj.cells #[.bool x.rd, .bool x.wt, .int .i64 x.mode, .int .i64 x.size, .slice oa x.out.length oc, .slice ia x.inn.length ic, .slice ba x.back.length bc, .int .i64 x.dir, .bool x.fin, .bool x.bad, .bool x.closed] 58)).size))
  have HZ0 : Hid (((w.alloc (Obj.cells #[.bool x.rd, .bool x.wt, .int .i64 x.mode, .int .i64 x.size, .slice oa x.out.length oc, .slice ia x.inn.length ic, .slice ba x.back.length bc, .int .i64 x.dir, .bool x.fin, .bool x.bad, .bool x.closed] 58)).alloc (Obj.cells #[.bool false, .bool false, .int .i64 0, .int .i64 0, .slice none 0 0, .slice none 0 0, .slice none 0 0, .int .i64 0, .bool false, .bool false, .bool false] 58)).heap[w.heap.size + 1]? = some (Obj.cells #[.bool false, .bool false, .int .i64 0, .int .i64 0, .slice none 0 0, .slice none 0 0, .slice none 0 0, .int .i64 0, .bool false, .bool false, .bool false] 58)) := hide (by have := heap_alloc_new (w.alloc (Obj.cells #[.bool x.rd, .bool x.wt, .int .i64 x.mode, .int .i64 x.size, .slice oa x.out.length oc, .slice ia x.inn.length ic, .slice ba x.back.length bc, .int .i64 x.dir, .bool x.fin, .bool x.bad, .bool x.closed] 58)) (Obj.cells #[.bool false, .bool false, .int .i64 0, .int .i64 0, .slice none 0 0, .slice none 0 0, .slice none 0 0, .int .i64 0, .bool false, .bool false, .bool false] 58); rw [show (w.alloc (Obj.cells #[.bool x.rd, .bool x.wt, .int .i64 x.mode, .int .i64 x.size, .slice oa x.out.length oc, .slice ia x.inn.length ic, .slice ba x.back.length bc, .int .i64 x.dir, .bool x.fin, .bool x.bad, .bool x.closed] 58)).heap.size = w.heap.size + 1 from Array.size_push ..] at this; exact this)
  generalize (w.alloc (Obj.cells #[.bool x.rd, .bool x.wt, .int .i64 x.mode, .int .i64 x.size, .slice oa x.out.length oc, .slice ia x.inn.length ic, .slice ba x.back.length bc, .int .i64 x.dir, .bool x.fin, .bool x.bad, .bool x.closed] 58)).alloc (Obj.cells #[.bool false, .bool false, .int .i64 0, .int .i64 0, .slice none 0 0, .slice none 0 0, .slice none 0 0, .int .i64 0, .bool false, .bool false, .bool false] 58) = w0 at *
  have hz0 : w.heap.size + 1 < w0.heap.size := (Array.getElem?_eq_some_iff.1 HZ0.out).1
  refine (HWx.out _ HB0.out).mono ?_
  rintro _ w1 ⟨g, o1, i1, b1, rfl, y1, y2, y3, y4, y5, y6, hB1⟩
  obtain ⟨a1, k1, rfl⟩ := owns_slice y3
  obtain ⟨a2, k2, rfl⟩ := owns_slice y4
  obtain ⟨a3, k3, rfl⟩ := owns_slice y5
  have HOn1 := hide (On.begin hT ((hT s).keep hA (fun j _ hj => HB0.out.block j hj) HB0.out.size) (fun j e => Nat.lt_of_lt_of_le (hO j e) HB0.out.size) y1 y2 y3 y4 y5 y6 hB1)
  have HTu := hide (turnToReading_any x g a1 a2 a3 k1 k2 k3 T v w1 y1 hi hb)
  have HOw := hide y3
  have HB1 := hide hB1
  have hz1 := hB1.size
  clear y1 y2 y3 y4 y5 y6 hB1 HWx
  go_wp2_with fail
  refine HTu.out.mono ?_
  rintro _ w2 ⟨rfl, hW2, hT2⟩
  by_cases hn : x.noRead = 0
  · rw [if_pos hn] at hq hW2
    rw [hn]
    have hOn2 := On.at hT HOn1.out hW2 hT2 (HOn1.out.ls.kin rfl rfl rfl)
    obtain ⟨m1, m2, m3, m4, m5, m6, m7, m8⟩ := may_buf (refuse_may (noRead_may hn).1).1
    have hz2 := hT2.size
    have hmost : 1 ≤ ({ x with dir := 1 } : SS).most ∧ ({ x with dir := 1 } : SS).most ≤ 65536 := by
      unfold SS.most
      simp only
      split <;> omega
    have HP := hide (get_any R hT hOn2 (by omega) m3 m4 m8 m7 (hso _ hmost.1 hmost.2))
    rw [hq] at HP
    have HT2 := hide (hT2.mono fun k e => (.inr (by have := HOn1.out.gB; omega) : O k ∨ w0.heap.size ≤ k))
    clear hOn2 hW2 hT2 hq m1 m2 m3 m4 m5 m6 m7 m8 hn hmost
    go_wp2_with fail
    refine HP.out.mono ?_
    rintro _ w3 ⟨rfl, i3, b3, hOn3, hT3⟩
    obtain ⟨a4, k4, e4, -⟩ := hOn3.ls.so
    obtain ⟨a5, k5, rfl, -⟩ := hOn3.ls.si
    obtain ⟨a6, k6, rfl, -⟩ := hOn3.ls.sb
    rw [e4] at hOn3
    obtain ⟨c0, c1, c2, c3, c4, c5, c6, c7, c8, c9, c10, c11⟩ := hOn3.way.cs
    have hT13 := HT2.out.trans (hT3.mono fun k e => (e.imp id (fun e => by have := HOn1.out.gB; omega) : O k ∨ w0.heap.size ≤ k)) (fun _ _ e => e)
    have HF := hide (On.out hOn3 HB1.out (fun k e => .inl e) hT13)
    have HZ3 := hide ((hT13.block (w.heap.size + 1) (by omega) (fun e => by rcases e with e | e; exact absurd (hO _ e) (by omega); omega)).trans ((HB1.out.block (w.heap.size + 1) hz0).trans HZ0.out))
    clear hOn3 hT3 hT13 e4
    have z0 := cell_of_row w3 (w.heap.size + 1) 0 _ _ _ HZ3.out
    have z1 := cell_of_row w3 (w.heap.size + 1) 1 _ _ _ HZ3.out
    have z2 := cell_of_row w3 (w.heap.size + 1) 2 _ _ _ HZ3.out
    have z3 := cell_of_row w3 (w.heap.size + 1) 3 _ _ _ HZ3.out
    have z4 := cell_of_row w3 (w.heap.size + 1) 4 _ _ _ HZ3.out
    have z5 := cell_of_row w3 (w.heap.size + 1) 5 _ _ _ HZ3.out
    have z6 := cell_of_row w3 (w.heap.size + 1) 6 _ _ _ HZ3.out
    have z7 := cell_of_row w3 (w.heap.size + 1) 7 _ _ _ HZ3.out
    have z8 := cell_of_row w3 (w.heap.size + 1) 8 _ _ _ HZ3.out
    have z9 := cell_of_row w3 (w.heap.size + 1) 9 _ _ _ HZ3.out
    have z10 := cell_of_row w3 (w.heap.size + 1) 10 _ _ _ HZ3.out
    have u0 := frozen_of_row w3 (w.heap.size + 1) 0 _ _ HZ3.out
    have u1 := frozen_of_row w3 (w.heap.size + 1) 1 _ _ HZ3.out
    have u2 := frozen_of_row w3 (w.heap.size + 1) 2 _ _ HZ3.out
    have u3 := frozen_of_row w3 (w.heap.size + 1) 3 _ _ HZ3.out
    have u4 := frozen_of_row w3 (w.heap.size + 1) 4 _ _ HZ3.out
    have u5 := frozen_of_row w3 (w.heap.size + 1) 5 _ _ HZ3.out
    have u6 := frozen_of_row w3 (w.heap.size + 1) 6 _ _ HZ3.out
    have u7 := frozen_of_row w3 (w.heap.size + 1) 7 _ _ HZ3.out
    have u8 := frozen_of_row w3 (w.heap.size + 1) 8 _ _ HZ3.out
    have u9 := frozen_of_row w3 (w.heap.size + 1) 9 _ _ HZ3.out
    have u10 := frozen_of_row w3 (w.heap.size + 1) 10 _ _ HZ3.out
    simp at z0 z1 z2 z3 z4 z5 z6 z7 z8 z9 z10
    go_wp2
    obtain ⟨e1, e2⟩ := st_fill w3 (w.heap.size + 1) qx (.slice a4 qx.out.length k4) (.slice a5 qx.inn.length k5) (.slice a6 qx.back.length k6) HZ3.out
    refine bodyPost_ret (res_three rfl _ (w.heap.size + 1) rfl qx _ _ _ e1) rfl ?_
    exact ⟨_, _, _, rfl, SOut.fin hT HF.out HB0.out hz0 (Nat.le_succ _) hO e2⟩
  · rw [if_neg hn] at hq hW2
    obtain ⟨rfl, rfl, rfl, rfl⟩ : x = qx ∧ 0 = qc ∧ x.noRead = qe ∧ s = qs := by simpa using hq
    have hT12 := hT2.mono fun k e => (.inr (by have := HOn1.out.gB; omega) : O k ∨ w0.heap.size ≤ k)
    have HF := hide (On.out (O := O) (On.at hT HOn1.out hW2 hT2 HOn1.out.ls) HB1.out (fun _ e => .inl e) hT12)
    obtain ⟨c0, c1, c2, c3, c4, c5, c6, c7, c8, c9, c10, c11⟩ := hW2.cs
    have HZ3 := hide ((hT12.block (w.heap.size + 1) (by omega) (fun e => by rcases e with e | e; exact absurd (hO _ e) (by omega); omega)).trans ((HB1.out.block (w.heap.size + 1) hz0).trans HZ0.out))
    obtain ⟨nw, hnw⟩ : ∃ nw, nw = x.noRead := ⟨_, rfl⟩
    rw [← hnw] at hn ⊢
    have HNw := hide hnw
    have hn2 : (nw != 0) = true := by simp [hn]
    clear hq hW2 hT2 hT12 hnw
    have z0 := cell_of_row w2 (w.heap.size + 1) 0 _ _ _ HZ3.out
    have z1 := cell_of_row w2 (w.heap.size + 1) 1 _ _ _ HZ3.out
    have z2 := cell_of_row w2 (w.heap.size + 1) 2 _ _ _ HZ3.out
    have z3 := cell_of_row w2 (w.heap.size + 1) 3 _ _ _ HZ3.out
    have z4 := cell_of_row w2 (w.heap.size + 1) 4 _ _ _ HZ3.out
    have z5 := cell_of_row w2 (w.heap.size + 1) 5 _ _ _ HZ3.out
    have z6 := cell_of_row w2 (w.heap.size + 1) 6 _ _ _ HZ3.out
    have z7 := cell_of_row w2 (w.heap.size + 1) 7 _ _ _ HZ3.out
    have z8 := cell_of_row w2 (w.heap.size + 1) 8 _ _ _ HZ3.out
    have z9 := cell_of_row w2 (w.heap.size + 1) 9 _ _ _ HZ3.out
    have z10 := cell_of_row w2 (w.heap.size + 1) 10 _ _ _ HZ3.out
    have u0 := frozen_of_row w2 (w.heap.size + 1) 0 _ _ HZ3.out
    have u1 := frozen_of_row w2 (w.heap.size + 1) 1 _ _ HZ3.out
    have u2 := frozen_of_row w2 (w.heap.size + 1) 2 _ _ HZ3.out
    have u3 := frozen_of_row w2 (w.heap.size + 1) 3 _ _ HZ3.out
    have u4 := frozen_of_row w2 (w.heap.size + 1) 4 _ _ HZ3.out
    have u5 := frozen_of_row w2 (w.heap.size + 1) 5 _ _ HZ3.out
    have u6 := frozen_of_row w2 (w.heap.size + 1) 6 _ _ HZ3.out
    have u7 := frozen_of_row w2 (w.heap.size + 1) 7 _ _ HZ3.out
    have u8 := frozen_of_row w2 (w.heap.size + 1) 8 _ _ HZ3.out
    have u9 := frozen_of_row w2 (w.heap.size + 1) 9 _ _ HZ3.out
    have u10 := frozen_of_row w2 (w.heap.size + 1) 10 _ _ HZ3.out
    simp at z0 z1 z2 z3 z4 z5 z6 z7 z8 z9 z10
    go_wp2
    obtain ⟨e1, e2⟩ := st_fill w2 (w.heap.size + 1) x (.slice a1 x.out.length k1) (.slice a2 x.inn.length k2) (.slice a3 x.back.length k3) HZ3.out
    refine bodyPost_ret (res_three rfl _ (w.heap.size + 1) rfl x _ _ _ e1) rfl ?_
    exact ⟨_, _, _, by rw [← HNw.out]; rfl, SOut.fin hT HF.out HB0.out hz0 (Nat.le_succ _) hO e2⟩
theorem sGet_any {S : Type} {D : RawD S} {T : TypeId} {v : Value} {fr fw : FuncId} {rok wok : S → Prop} {At : World → (Nat → Prop) → S → Prop} (R : RawM D T v fr fw rok wok At) (hT : ∀ s, OAt (fun w O => At w O s)) {G : Nat → S → Prop} (hG : Bears D rok wok G) {w : World} {O P : Nat → Prop} {s : S} {x : SS} {o i b : Value} (h : SIn w P x o i b) (hA : At w O s) (hO : ∀ j, O j → j < w.heap.size) (hg : G 2 s) (ho : x.out.length ≤ 140737488351232) (hi : x.inn.length ≤ 140737488351232) (hb : x.back.length ≤ 140737488351232) :
    Calls Tryz.prog 95 #[.agg #[.bool x.rd, .bool x.wt, .int .i64 x.mode, .int .i64 x.size, o, i, b, .int .i64 x.dir, .bool x.fin, .bool x.bad, .bool x.closed], .iface T v] w fun e w' => ∃ o' i' b', e = .returned (.tuple #[.agg #[.bool (x.get D s).1.rd, .bool (x.get D s).1.wt, .int .i64 (x.get D s).1.mode, .int .i64 (x.get D s).1.size, o', i', b', .int .i64 (x.get D s).1.dir, .bool (x.get D s).1.fin, .bool (x.get D s).1.bad, .bool (x.get D s).1.closed], .int .u8 ((x.get D s).2.1.toNat : Int), .int .i64 (x.get D s).2.2.1]) ∧ SOut At w O (x.get D s).1 (x.get D s).2.2.2 o' i' b' w' :=
  sGetR_any R hT h hA hO (fun m h1 h2 => (hG.some 1 s m hg h1 h2).1) ho hi hb
set_option maxRecDepth 100000 in
set_option maxHeartbeats 4000000 in
theorem sFlush_any {S : Type} {D : RawD S} {T : TypeId} {v : Value} {fr fw : FuncId} {rok wok : S → Prop} {At : World → (Nat → Prop) → S → Prop} (R : RawM D T v fr fw rok wok At) (hT : ∀ s, OAt (fun w O => At w O s)) {G : Nat → S → Prop} (hG : Bears D rok wok G) {w : World} {O P : Nat → Prop} {s : S} {x : SS} {o i b : Value} (h : SIn w P x o i b) (hA : At w O s) (hO : ∀ j, O j → j < w.heap.size) (hg : G 2 s) (ho : x.out.length ≤ 140737488351232) (hi : x.inn.length ≤ 140737488351232) (hb : x.back.length ≤ 140737488351232) :
    Calls Tryz.prog 97 #[.agg #[.bool x.rd, .bool x.wt, .int .i64 x.mode, .int .i64 x.size, o, i, b, .int .i64 x.dir, .bool x.fin, .bool x.bad, .bool x.closed], .iface T v] w fun e w' => ∃ o' i' b', e = .returned (.tuple #[.agg #[.bool (x.flush D s).1.rd, .bool (x.flush D s).1.wt, .int .i64 (x.flush D s).1.mode, .int .i64 (x.flush D s).1.size, o', i', b', .int .i64 (x.flush D s).1.dir, .bool (x.flush D s).1.fin, .bool (x.flush D s).1.bad, .bool (x.flush D s).1.closed], .int .i64 (x.flush D s).2.1]) ∧ SOut At w O (x.flush D s).1 (x.flush D s).2.2 o' i' b' w' := by
  have HWx := hide (fun (W : World) (hW : Below w.heap.size w W) => onWay_any x o i b P (.iface T v) W (h.below hW) ho hi hb (.inr ⟨T, v, rfl⟩))
  obtain ⟨oa, oc, rfl, -⟩ := h.so
  obtain ⟨ia, ic, rfl, -⟩ := h.si
  obtain ⟨ba, bc, rfl, -⟩ := h.sb
  clear h
  generalize hq : x.flush D s = q
  obtain ⟨qx, qe, qs⟩ := q
  unfold SS.flush at hq
  go_enter Tryz.func97, Tryz.ntmps97
  go_wp2_with fail
  have HB0 := hide ((recv_below w (Obj.cells #[.bool x.rd, .bool x.wt, .int .i64 x.mode, .int .i64 x.size, .slice oa x.out.length oc, .slice ia x.inn.length ic, .slice ba x.back.length bc, .int .i64 x.dir, .bool x.fin, .bool x.bad, .bool x.closed] 58)).trans ((recv_below (w.alloc (Obj.cells #[.bool x.rd, .bool x.wt, .int .i64 x.mode, .int .i64 x.size, .slice oa x.out.length oc, .slice ia x.inn.length ic, .slice ba x.back.length bc, .int .i64 x.dir, .bool x.fin, .bool x.bad, .bool x.closed] 58)) (Obj.cells #[.bool false, .bool false, .int .i64 0, .int .i64 0, .slice none 0 0, .slice none 0 0, .slice none 0 0, .int .i64 0, .bool false, .bool false, .bool false] 58)).mono (recv_below w (Obj.cells #[.bool x.rd, .bool x.wt, .int .i64 x.mode, .int .i64 x.size, .slice oa x.out.length oc, .slice ia x.inn.length ic, .slice ba x.back.length bc, .int .i64 x.dir, .bool x.fin, .bool x.bad, .bool x.closed] 58)).size))
  have HZ0 : Hid (((w.alloc (Obj.cells #[.bool x.rd, .bool x.wt, .int .i64 x.mode, .int .i64 x.size, .slice oa x.out.length oc, .slice ia x.inn.length ic, .slice ba x.back.length bc, .int .i64 x.dir, .bool x.fin, .bool x.bad, .bool x.closed] 58)).alloc (Obj.cells #[.bool false, .bool false, .int .i64 0, .int .i64 0, .slice none 0 0, .slice none 0 0, .slice none 0 0, .int .i64 0, .bool false, .bool false, .bool false] 58)).heap[w.heap.size + 1]? = some (Obj.cells #[.bool false, .bool false, .int .i64 0, .int .i64 0, .slice none 0 0, .slice none 0 0, .slice none 0 0, .int .i64 0, .bool false, .bool false, .bool false] 58)) := hide (by have := heap_alloc_new (w.alloc (Obj.cells #[.bool x.rd, .bool x.wt, .int .i64 x.mode, .int .i64 x.size, .slice oa x.out.length oc, .slice ia x.inn.length ic, .slice ba x.back.length bc, .int .i64 x.dir, .bool x.fin, .bool x.bad, .bool x.closed] 58)) (Obj.cells #[.bool false, .bool false, .int .i64 0, .int .i64 0, .slice none 0 0, .slice none 0 0, .slice none 0 0, .int .i64 0, .bool false, .bool false, .bool false] 58); rw [show (w.alloc (Obj.cells #[.bool x.rd, .bool x.wt, .int .i64 x.mode, .int .i64 x.size, .slice oa x.out.length oc, .slice ia x.inn.length ic, .slice ba x.back.length bc, .int .i64 x.dir, .bool x.fin, .bool x.bad, .bool x.closed] 58)).heap.size = w.heap.size + 1 from Array.size_push ..] at this; exact this)
  generalize (w.alloc (Obj.cells #[.bool x.rd, .bool x.wt, .int .i64 x.mode, .int .i64 x.size, .slice oa x.out.length oc, .slice ia x.inn.length ic, .slice ba x.back.length bc, .int .i64 x.dir, .bool x.fin, .bool x.bad, .bool x.closed] 58)).alloc (Obj.cells #[.bool false, .bool false, .int .i64 0, .int .i64 0, .slice none 0 0, .slice none 0 0, .slice none 0 0, .int .i64 0, .bool false, .bool false, .bool false] 58) = w0 at *
  have hz0 : w.heap.size + 1 < w0.heap.size := (Array.getElem?_eq_some_iff.1 HZ0.out).1
  refine (HWx.out _ HB0.out).mono ?_
  rintro _ w1 ⟨g, o1, i1, b1, rfl, y1, y2, y3, y4, y5, y6, hB1⟩
  obtain ⟨a1, k1, rfl⟩ := owns_slice y3
  obtain ⟨a2, k2, rfl⟩ := owns_slice y4
  obtain ⟨a3, k3, rfl⟩ := owns_slice y5
  have HOn1 := hide (On.begin hT ((hT s).keep hA (fun j _ hj => HB0.out.block j hj) HB0.out.size) (fun j e => Nat.lt_of_lt_of_le (hO j e) HB0.out.size) y1 y2 y3 y4 y5 y6 hB1)
  have HTu := hide (wrefusal_any x g a1 a2 a3 k1 k2 k3 T v w1 y1 hi hb)
  have HOw := hide y3
  have HB1 := hide hB1
  have hz1 := hB1.size
  clear y1 y2 y3 y4 y5 y6 hB1 HWx
  go_wp2_with fail
  refine HTu.out.mono ?_
  rintro _ w2 ⟨rfl, hB2⟩
  have hz2 := hB2.size
  have hOn2 := On.below hT HOn1.out hB2
  have HT2 := hide (Turned.of_below (S := fun k => O k ∨ w0.heap.size ≤ k) hB2)
  by_cases hn : x.refuse true = 0
  case neg =>
    rw [if_pos hn] at hq
    obtain ⟨rfl, rfl, rfl⟩ : x = qx ∧ x.refuse true = qe ∧ s = qs := by simpa using hq
    have HF := hide (On.out (O := O) hOn2 HB1.out (fun _ e => .inl e) HT2.out)
    obtain ⟨c0, c1, c2, c3, c4, c5, c6, c7, c8, c9, c10, c11⟩ := hOn2.way.cs
    have HZ3 := hide ((HT2.out.block (w.heap.size + 1) (by omega) (fun e => by rcases e with e | e; exact absurd (hO _ e) (by omega); omega)).trans ((HB1.out.block (w.heap.size + 1) hz0).trans HZ0.out))
    obtain ⟨nw, hnw⟩ : ∃ nw, nw = x.refuse true := ⟨_, rfl⟩
    rw [← hnw] at hn ⊢
    have HNw := hide hnw
    have hn2 : (nw == 0) = false := by simp [hn]
    clear hq hOn2 hB2 hnw
    have z0 := cell_of_row w2 (w.heap.size + 1) 0 _ _ _ HZ3.out
    have z1 := cell_of_row w2 (w.heap.size + 1) 1 _ _ _ HZ3.out
    have z2 := cell_of_row w2 (w.heap.size + 1) 2 _ _ _ HZ3.out
    have z3 := cell_of_row w2 (w.heap.size + 1) 3 _ _ _ HZ3.out
    have z4 := cell_of_row w2 (w.heap.size + 1) 4 _ _ _ HZ3.out
    have z5 := cell_of_row w2 (w.heap.size + 1) 5 _ _ _ HZ3.out
    have z6 := cell_of_row w2 (w.heap.size + 1) 6 _ _ _ HZ3.out
    have z7 := cell_of_row w2 (w.heap.size + 1) 7 _ _ _ HZ3.out
    have z8 := cell_of_row w2 (w.heap.size + 1) 8 _ _ _ HZ3.out
    have z9 := cell_of_row w2 (w.heap.size + 1) 9 _ _ _ HZ3.out
    have z10 := cell_of_row w2 (w.heap.size + 1) 10 _ _ _ HZ3.out
    have u0 := frozen_of_row w2 (w.heap.size + 1) 0 _ _ HZ3.out
    have u1 := frozen_of_row w2 (w.heap.size + 1) 1 _ _ HZ3.out
    have u2 := frozen_of_row w2 (w.heap.size + 1) 2 _ _ HZ3.out
    have u3 := frozen_of_row w2 (w.heap.size + 1) 3 _ _ HZ3.out
    have u4 := frozen_of_row w2 (w.heap.size + 1) 4 _ _ HZ3.out
    have u5 := frozen_of_row w2 (w.heap.size + 1) 5 _ _ HZ3.out
    have u6 := frozen_of_row w2 (w.heap.size + 1) 6 _ _ HZ3.out
    have u7 := frozen_of_row w2 (w.heap.size + 1) 7 _ _ HZ3.out
    have u8 := frozen_of_row w2 (w.heap.size + 1) 8 _ _ HZ3.out
    have u9 := frozen_of_row w2 (w.heap.size + 1) 9 _ _ HZ3.out
    have u10 := frozen_of_row w2 (w.heap.size + 1) 10 _ _ HZ3.out
    simp at z0 z1 z2 z3 z4 z5 z6 z7 z8 z9 z10
    go_wp2
    obtain ⟨e1, e2⟩ := st_fill w2 (w.heap.size + 1) x (.slice a1 x.out.length k1) (.slice a2 x.inn.length k2) (.slice a3 x.back.length k3) HZ3.out
    refine bodyPost_ret (res_two rfl _ (w.heap.size + 1) rfl x _ _ _ e1) rfl ?_
    exact ⟨_, _, _, by rw [← HNw.out]; rfl, SOut.fin hT HF.out HB0.out hz0 (Nat.le_succ _) hO e2⟩
  rw [if_neg (by simp [hn])] at hq
  rw [hn]
  obtain ⟨m1, m2, m3, m4, m5, m6, m7, m8⟩ := may_buf (refuse_may hn).1
  have hput := (hG.put 1 s x.out hg (by omega)).1
  by_cases hd : x.dir = 2
  · rw [if_pos hd] at hq
    have HP := hide (flush_any R hT hOn2 (by omega) hput)
    have HOn2 := hide hOn2
    have hd7 := hOn2.way.cs.2.2.2.2.2.2.2.1
    rw [hd] at hd7
    have hv : (if (x.deliver D s).2.1 = 0 then { (x.deliver D s).1 with dir := 0 } else (x.deliver D s).1) = qx ∧ (x.deliver D s).2.1 = qe ∧ (x.deliver D s).2.2 = qs := by
      by_cases hde : (x.deliver D s).2.1 = 0
      · rw [if_pos hde] at hq ⊢
        simp only [Prod.mk.injEq] at hq
        exact ⟨hq.1, by rw [hde]; exact hq.2.1, hq.2.2⟩
      · rw [if_neg hde] at hq ⊢
        rw [hq]
        exact ⟨rfl, rfl, rfl⟩
    rw [hv.1, hv.2.1, hv.2.2] at HP
    clear hOn2 hB2 hq m1 m2 m3 m4 m5 m6 m7 m8 hput hn hv hd
    go_wp2_with fail
    refine HP.out.mono ?_
    rintro _ w3 ⟨rfl, o3, i3, b3, O3, hOn3, hO3, hT3⟩
    obtain ⟨a4, k4, rfl, -⟩ := hOn3.ls.so
    obtain ⟨a5, k5, rfl, -⟩ := hOn3.ls.si
    obtain ⟨a6, k6, rfl, -⟩ := hOn3.ls.sb
    obtain ⟨c0, c1, c2, c3, c4, c5, c6, c7, c8, c9, c10, c11⟩ := hOn3.way.cs
    have hT13 := HT2.out.trans hT3 (fun _ _ e => e)
    have HF := hide (On.out hOn3 HB1.out (fun k e => (hO3 k e).imp id (fun e => by omega)) hT13)
    have HZ3 := hide ((hT13.block (w.heap.size + 1) (by omega) (fun e => by rcases e with e | e; exact absurd (hO _ e) (by omega); omega)).trans ((HB1.out.block (w.heap.size + 1) hz0).trans HZ0.out))
    clear hOn3 hO3 hT3 hT13
    have z0 := cell_of_row w3 (w.heap.size + 1) 0 _ _ _ HZ3.out
    have z1 := cell_of_row w3 (w.heap.size + 1) 1 _ _ _ HZ3.out
    have z2 := cell_of_row w3 (w.heap.size + 1) 2 _ _ _ HZ3.out
    have z3 := cell_of_row w3 (w.heap.size + 1) 3 _ _ _ HZ3.out
    have z4 := cell_of_row w3 (w.heap.size + 1) 4 _ _ _ HZ3.out
    have z5 := cell_of_row w3 (w.heap.size + 1) 5 _ _ _ HZ3.out
    have z6 := cell_of_row w3 (w.heap.size + 1) 6 _ _ _ HZ3.out
    have z7 := cell_of_row w3 (w.heap.size + 1) 7 _ _ _ HZ3.out
    have z8 := cell_of_row w3 (w.heap.size + 1) 8 _ _ _ HZ3.out
    have z9 := cell_of_row w3 (w.heap.size + 1) 9 _ _ _ HZ3.out
    have z10 := cell_of_row w3 (w.heap.size + 1) 10 _ _ _ HZ3.out
    have u0 := frozen_of_row w3 (w.heap.size + 1) 0 _ _ HZ3.out
    have u1 := frozen_of_row w3 (w.heap.size + 1) 1 _ _ HZ3.out
    have u2 := frozen_of_row w3 (w.heap.size + 1) 2 _ _ HZ3.out
    have u3 := frozen_of_row w3 (w.heap.size + 1) 3 _ _ HZ3.out
    have u4 := frozen_of_row w3 (w.heap.size + 1) 4 _ _ HZ3.out
    have u5 := frozen_of_row w3 (w.heap.size + 1) 5 _ _ HZ3.out
    have u6 := frozen_of_row w3 (w.heap.size + 1) 6 _ _ HZ3.out
    have u7 := frozen_of_row w3 (w.heap.size + 1) 7 _ _ HZ3.out
    have u8 := frozen_of_row w3 (w.heap.size + 1) 8 _ _ HZ3.out
    have u9 := frozen_of_row w3 (w.heap.size + 1) 9 _ _ HZ3.out
    have u10 := frozen_of_row w3 (w.heap.size + 1) 10 _ _ HZ3.out
    simp at z0 z1 z2 z3 z4 z5 z6 z7 z8 z9 z10
    go_wp2
    obtain ⟨e1, e2⟩ := st_fill w3 (w.heap.size + 1) qx (.slice a4 qx.out.length k4) (.slice a5 qx.inn.length k5) (.slice a6 qx.back.length k6) HZ3.out
    refine bodyPost_ret (res_two rfl _ (w.heap.size + 1) rfl qx _ _ _ e1) rfl ?_
    exact ⟨_, _, _, rfl, SOut.fin hT HF.out HB0.out hz0 (Nat.le_succ _) hO e2⟩
  · rw [if_neg hd] at hq
    obtain ⟨rfl, rfl, rfl⟩ : x = qx ∧ 0 = qe ∧ s = qs := by simpa using hq
    have HF := hide (On.out (O := O) hOn2 HB1.out (fun _ e => .inl e) HT2.out)
    obtain ⟨c0, c1, c2, c3, c4, c5, c6, c7, c8, c9, c10, c11⟩ := hOn2.way.cs
    have HZ3 := hide ((HT2.out.block (w.heap.size + 1) (by omega) (fun e => by rcases e with e | e; exact absurd (hO _ e) (by omega); omega)).trans ((HB1.out.block (w.heap.size + 1) hz0).trans HZ0.out))
    have hd2 : (x.dir == 2) = false := by simp [hd]
    clear hq hOn2 hB2 m1 m2 m3 m4 m5 m6 m7 m8 hput hn
    have z0 := cell_of_row w2 (w.heap.size + 1) 0 _ _ _ HZ3.out
    have z1 := cell_of_row w2 (w.heap.size + 1) 1 _ _ _ HZ3.out
    have z2 := cell_of_row w2 (w.heap.size + 1) 2 _ _ _ HZ3.out
    have z3 := cell_of_row w2 (w.heap.size + 1) 3 _ _ _ HZ3.out
    have z4 := cell_of_row w2 (w.heap.size + 1) 4 _ _ _ HZ3.out
    have z5 := cell_of_row w2 (w.heap.size + 1) 5 _ _ _ HZ3.out
    have z6 := cell_of_row w2 (w.heap.size + 1) 6 _ _ _ HZ3.out
    have z7 := cell_of_row w2 (w.heap.size + 1) 7 _ _ _ HZ3.out
    have z8 := cell_of_row w2 (w.heap.size + 1) 8 _ _ _ HZ3.out
    have z9 := cell_of_row w2 (w.heap.size + 1) 9 _ _ _ HZ3.out
    have z10 := cell_of_row w2 (w.heap.size + 1) 10 _ _ _ HZ3.out
    have u0 := frozen_of_row w2 (w.heap.size + 1) 0 _ _ HZ3.out
    have u1 := frozen_of_row w2 (w.heap.size + 1) 1 _ _ HZ3.out
    have u2 := frozen_of_row w2 (w.heap.size + 1) 2 _ _ HZ3.out
    have u3 := frozen_of_row w2 (w.heap.size + 1) 3 _ _ HZ3.out
    have u4 := frozen_of_row w2 (w.heap.size + 1) 4 _ _ HZ3.out
    have u5 := frozen_of_row w2 (w.heap.size + 1) 5 _ _ HZ3.out
    have u6 := frozen_of_row w2 (w.heap.size + 1) 6 _ _ HZ3.out
    have u7 := frozen_of_row w2 (w.heap.size + 1) 7 _ _ HZ3.out
    have u8 := frozen_of_row w2 (w.heap.size + 1) 8 _ _ HZ3.out
    have u9 := frozen_of_row w2 (w.heap.size + 1) 9 _ _ HZ3.out
    have u10 := frozen_of_row w2 (w.heap.size + 1) 10 _ _ HZ3.out
    simp at z0 z1 z2 z3 z4 z5 z6 z7 z8 z9 z10
    go_wp2
    obtain ⟨e1, e2⟩ := st_fill w2 (w.heap.size + 1) x (.slice a1 x.out.length k1) (.slice a2 x.inn.length k2) (.slice a3 x.back.length k3) HZ3.out
    refine bodyPost_ret (res_two rfl _ (w.heap.size + 1) rfl x _ _ _ e1) rfl ?_
    exact ⟨_, _, _, rfl, SOut.fin hT HF.out HB0.out hz0 (Nat.le_succ _) hO e2⟩
end Go.Proofs.YtkkommomefmpgaaGreat

/- Streams: a variable that holds a state, beside a Raw. -/
namespace Go.Proofs.YtkkommomefmpgaaGreat
open Go.RowKit

def filled (w : World) (g : Nat) (x : SS) (o i b : Value) : World := (((((((((((w.setCell ⟨g, 0, none⟩ (.bool x.rd)).setCell ⟨g, 1, none⟩ (.bool x.wt)).setCell ⟨g, 2, none⟩ (.int .i64 x.mode)).setCell ⟨g, 3, none⟩ (.int .i64 x.size)).setCell ⟨g, 4, none⟩ (o)).setCell ⟨g, 5, none⟩ (i)).setCell ⟨g, 6, none⟩ (b)).setCell ⟨g, 7, none⟩ (.int .i64 x.dir)).setCell ⟨g, 8, none⟩ (.bool x.fin)).setCell ⟨g, 9, none⟩ (.bool x.bad)).setCell ⟨g, 10, none⟩ (.bool x.closed))
theorem st_fill2 (w : World) (g : Nat) (y x : SS) (o0 i0 b0 o i b : Value) (h : StAt w g y o0 i0 b0) : StAt (filled w g x o i b) g x o i b ∧ Turned (fun k => k = g) w (filled w g x o i b) := by
  have e0 := Go.heap_setCell_same _ g 0 _ _ (.bool x.rd) h
  simp only [List.setIfInBounds_toArray, List.set_cons_zero] at e0
  have e1 := Go.heap_setCell_same _ g 1 _ _ (.bool x.wt) e0
  simp only [List.setIfInBounds_toArray, List.set_cons_zero, List.set_cons_succ] at e1
  have e2 := Go.heap_setCell_same _ g 2 _ _ (.int .i64 x.mode) e1
  simp only [List.setIfInBounds_toArray, List.set_cons_zero, List.set_cons_succ] at e2
  have e3 := Go.heap_setCell_same _ g 3 _ _ (.int .i64 x.size) e2
  simp only [List.setIfInBounds_toArray, List.set_cons_zero, List.set_cons_succ] at e3
  have e4 := Go.heap_setCell_same _ g 4 _ _ (o) e3
  simp only [List.setIfInBounds_toArray, List.set_cons_zero, List.set_cons_succ] at e4
  have e5 := Go.heap_setCell_same _ g 5 _ _ (i) e4
  simp only [List.setIfInBounds_toArray, List.set_cons_zero, List.set_cons_succ] at e5
  have e6 := Go.heap_setCell_same _ g 6 _ _ (b) e5
  simp only [List.setIfInBounds_toArray, List.set_cons_zero, List.set_cons_succ] at e6
  have e7 := Go.heap_setCell_same _ g 7 _ _ (.int .i64 x.dir) e6
  simp only [List.setIfInBounds_toArray, List.set_cons_zero, List.set_cons_succ] at e7
  have e8 := Go.heap_setCell_same _ g 8 _ _ (.bool x.fin) e7
  simp only [List.setIfInBounds_toArray, List.set_cons_zero, List.set_cons_succ] at e8
  have e9 := Go.heap_setCell_same _ g 9 _ _ (.bool x.bad) e8
  simp only [List.setIfInBounds_toArray, List.set_cons_zero, List.set_cons_succ] at e9
  have e10 := Go.heap_setCell_same _ g 10 _ _ (.bool x.closed) e9
  simp only [List.setIfInBounds_toArray, List.set_cons_zero, List.set_cons_succ] at e10
  exact ⟨e10, ((((((((((((Turned.refl (fun k => k = g) w).set (.inl rfl)).set (.inl rfl)).set (.inl rfl)).set (.inl rfl)).set (.inl rfl)).set (.inl rfl)).set (.inl rfl)).set (.inl rfl)).set (.inl rfl)).set (.inl rfl)).set (.inl rfl))⟩
structure LV {S : Type} (At : World → (Nat → Prop) → S → Prop) (W : World) (B g : Nat) (O : Nat → Prop) (x : SS) (s : S) (o i b : Value) : Prop where
  st : StAt W g x o i b
  ls : SIn W (fun k => B ≤ k ∧ ¬ O k ∧ k ≠ g ∧ k < W.heap.size) x o i b
  raw : At W O s
  ol : ∀ j, O j → j < W.heap.size
  ob : ∀ j, O j → B ≤ j
  og : ¬ O g
  gB : B ≤ g
theorem StAt.lt {W : World} {g : Nat} {x : SS} {o i b : Value} (h : StAt W g x o i b) : g < W.heap.size := (Array.getElem?_eq_some_iff.1 h).1
theorem StAt.soft {W : World} {g : Nat} {x : SS} {o i b : Value} (h : StAt W g x o i b) (j : Nat) : W.frozen? ⟨g, j, none⟩ = false := frozen_of_row W g j _ _ h
theorem LV.below {S : Type} {At : World → (Nat → Prop) → S → Prop} (hT : ∀ s, OAt (fun w O => At w O s)) {w w' : World} {B g : Nat} {O : Nat → Prop} {x : SS} {s : S} {o i b : Value} (h : LV At w B g O x s o i b) (hB : Below w.heap.size w w') : LV At w' B g O x s o i b := by
  have hz := hB.size
  exact ⟨h.st.below hB, (h.ls.below hB).mono fun k e => ⟨e.1, e.2.1, e.2.2.1, by have := e.2.2.2; omega⟩, (hT s).keep h.raw (fun j _ hj => hB.block j hj) hz, fun j e => Nat.lt_of_lt_of_le (h.ol j e) hz, h.ob, h.og, h.gB⟩
theorem LV.next {S : Type} {At : World → (Nat → Prop) → S → Prop} (hT : ∀ s, OAt (fun w O => At w O s)) {w w1 : World} {B g : Nat} {O : Nat → Prop} {x x' : SS} {s s' : S} {o i b o' i' b' : Value} (h : LV At w B g O x s o i b) (hB : B ≤ w.heap.size) (hS : SOut At w O x' s' o' i' b' w1) :
    StAt w1 g x o i b ∧ (∃ O', LV At (filled w1 g x' o' i' b') B g O' x' s' o' i' b') ∧ Turned (fun k => B ≤ k) w (filled w1 g x' o' i' b') := by
  obtain ⟨O', h1, h2, h3, h4, h5⟩ := hS
  have hz := h5.size
  have hg := h.st.lt
  have hst : StAt w1 g x o i b := (h5.block g hg h.og).trans h.st
  obtain ⟨e1, e2⟩ := st_fill2 w1 g x x' o i b o' i' b' hst
  have hz2 := e2.size
  have hog : ¬ O' g := fun e => by
    rcases h4 g e with e | e
    · exact h.og e
    · omega
  refine ⟨hst, ⟨O', e1, (h1.turned e2 fun k e _ e' => by have := e.1; omega).mono fun k e => ⟨by have := e.1; omega, e.2.1, by have := e.1; omega, by have := e.2.2; omega⟩, (hT s').keep h2 (fun j e hj => e2.block j hj (fun e' => hog (e' ▸ e))) hz2, fun j e => Nat.lt_of_lt_of_le (h3 j e) hz2, fun j e => ?_, hog, h.gB⟩, (h5.mono fun k e => h.ob k e).trans (e2.mono fun k e => (by have := h.gB; omega : B ≤ k)) (fun _ _ e => e)⟩
  rcases h4 j e with e | e
  · exact h.ob j e
  · omega
theorem LV.next1 {S : Type} {At : World → (Nat → Prop) → S → Prop} (hT : ∀ s, OAt (fun w O => At w O s)) {w w1 : World} {B g : Nat} {O : Nat → Prop} {x x' : SS} {s s' : S} {o i b o' i' b' : Value} (h : LV At w B g O x s o i b) (hB : B ≤ w.heap.size) (O' : Nat → Prop) (h1 : SIn w1 (fun k => w.heap.size ≤ k ∧ ¬ O' k ∧ k < w1.heap.size) x' o' i' b') (h2 : At w1 O' s') (h3 : ∀ j, O' j → j < w1.heap.size) (h4 : ∀ k, O' k → O k ∨ w.heap.size ≤ k) (h5 : Turned O w w1) :
    LV At (filled w1 g x' o' i' b') B g O' x' s' o' i' b' := by
  have hz := h5.size
  have hg := h.st.lt
  have hst : StAt w1 g x o i b := (h5.block g hg h.og).trans h.st
  obtain ⟨e1, e2⟩ := st_fill2 w1 g x x' o i b o' i' b' hst
  have hz2 := e2.size
  have hog : ¬ O' g := fun e => by
    rcases h4 g e with e | e
    · exact h.og e
    · omega
  refine ⟨e1, (h1.turned e2 fun k e _ e' => by have := e.1; omega).mono fun k e => ⟨by have := e.1; omega, e.2.1, by have := e.1; omega, by have := e.2.2; omega⟩, (hT s').keep h2 (fun j e hj => e2.block j hj (fun e' => hog (e' ▸ e))) hz2, fun j e => Nat.lt_of_lt_of_le (h3 j e) hz2, fun j e => ?_, hog, h.gB⟩
  rcases h4 j e with e | e
  · exact h.ob j e
  · omega
end Go.Proofs.YtkkommomefmpgaaGreat

/- Streams: the reference's copy of a state. -/
namespace Go.Proofs.YtkkommomefmpgaaGreat
open Go.RowKit

end Go.Proofs.YtkkommomefmpgaaGreat

/- Streams: three lists of a state, apart; a state that a call gave, in a variable of its own. -/
namespace Go.Proofs.YtkkommomefmpgaaGreat
open Go.RowKit

end Go.Proofs.YtkkommomefmpgaaGreat

/- Streams: a state of the program's in a call's variable, beside a Raw. -/
namespace Go.Proofs.YtkkommomefmpgaaGreat
open Go.RowKit

theorem StAt.set {W : World} {g : Nat} {x x' : SS} {o i b o' i' b' : Value} (h : StAt W g x o i b) (j : Nat) (u : Value) (hl : ([.bool x.rd, .bool x.wt, .int .i64 x.mode, .int .i64 x.size, o, i, b, .int .i64 x.dir, .bool x.fin, .bool x.bad, .bool x.closed] : List Value).set j u = [.bool x'.rd, .bool x'.wt, .int .i64 x'.mode, .int .i64 x'.size, o', i', b', .int .i64 x'.dir, .bool x'.fin, .bool x'.bad, .bool x'.closed]) : StAt (W.setCell ⟨g, j, none⟩ u) g x' o' i' b' ∧ Turned (fun k => k = g) W (W.setCell ⟨g, j, none⟩ u) := by
  refine ⟨?_, (Turned.refl (fun k => k = g) W).set (.inl rfl)⟩
  have := Go.heap_setCell_same W g j _ _ u h
  unfold StAt
  rw [this]
  simp only [List.setIfInBounds_toArray, hl]
theorem StAt.turned {P : Nat → Prop} {W W' : World} {g : Nat} {x : SS} {o i b : Value} (h : StAt W g x o i b) (hT : Turned P W W') (hn : ¬ P g) : StAt W' g x o i b := (hT.block g h.lt hn).trans h
theorem st_fill3 (w : World) (r : Nat) (x : SS) (o i b : Value) (h : w.heap[r]? = some (Obj.cells #[.bool false, .bool false, .int .i64 0, .int .i64 0, .slice none 0 0, .slice none 0 0, .slice none 0 0, .int .i64 0, .bool false, .bool false, .bool false] 58)) : StAt (filled w r x o i b) r x o i b ∧ Turned (fun k => k = r) w (filled w r x o i b) := st_fill w r x o i b h
structure QV {σ : Type} (B : World → (Nat → Prop) → σ → Prop) (w : World) (O0 : Nat → Prop) (r g : Nat) (W : World) (O : Nat → Prop) (x : SS) (s : σ) (o i b : Value) : Prop where
  st : StAt W g x o i b
  ls : SIn W (fun k => w.heap.size ≤ k ∧ ¬ O k ∧ k ≠ g ∧ k ≠ r ∧ k < W.heap.size) x o i b
  raw : B W O s
  ol : ∀ j, O j → j < W.heap.size
  og : ¬ O g
  orr : ¬ O r
  zr : W.heap[r]? = some (Obj.cells #[.bool false, .bool false, .int .i64 0, .int .i64 0, .slice none 0 0, .slice none 0 0, .slice none 0 0, .int .i64 0, .bool false, .bool false, .bool false] 58)
  gr : g ≠ r
  gw : w.heap.size ≤ g
  rw : w.heap.size ≤ r
  oo : ∀ k, O k → O0 k ∨ w.heap.size ≤ k
  tu : Turned O0 w W
theorem QV.rlt {σ : Type} {B : World → (Nat → Prop) → σ → Prop} {w : World} {O0 : Nat → Prop} {r g : Nat} {W : World} {O : Nat → Prop} {x : SS} {s : σ} {o i b : Value} (h : QV B w O0 r g W O x s o i b) : r < W.heap.size := (Array.getElem?_eq_some_iff.1 h.zr).1
theorem QV.below {σ : Type} {B : World → (Nat → Prop) → σ → Prop} (hT : ∀ s, OAt (fun w O => B w O s)) {w : World} {O0 : Nat → Prop} {r g : Nat} {W W' : World} {O : Nat → Prop} {x : SS} {s : σ} {o i b : Value} (h : QV B w O0 r g W O x s o i b) (hB : Below W.heap.size W W') : QV B w O0 r g W' O x s o i b := by
  have hz := hB.size
  exact ⟨h.st.below hB, (h.ls.below hB).mono fun k e => ⟨e.1, e.2.1, e.2.2.1, e.2.2.2.1, by have := e.2.2.2.2; omega⟩, (hT s).keep h.raw (fun j _ hj => hB.block j hj) hz, fun j e => Nat.lt_of_lt_of_le (h.ol j e) hz, h.og, h.orr, (hB.block r h.rlt).trans h.zr, h.gr, h.gw, h.rw, h.oo, h.tu.trans (Turned.of_below (S := O0) hB) (fun _ _ e => e)⟩
theorem QV.at {σ : Type} {B : World → (Nat → Prop) → σ → Prop} (hT : ∀ s, OAt (fun w O => B w O s)) {w : World} {O0 : Nat → Prop} {r g : Nat} {W W' : World} {O : Nat → Prop} {x x' : SS} {s : σ} {o i b o' i' b' : Value} (h : QV B w O0 r g W O x s o i b) (hs : StAt W' g x' o' i' b') (ht : Turned (fun k => k = g) W W') (hl : SIn W (fun k => w.heap.size ≤ k ∧ ¬ O k ∧ k ≠ g ∧ k ≠ r ∧ k < W.heap.size) x' o' i' b') : QV B w O0 r g W' O x' s o' i' b' := by
  have hz := ht.size
  have hg := h.gw
  exact ⟨hs, (hl.turned ht fun k e _ => e.2.2.1).mono fun k e => ⟨e.1, e.2.1, e.2.2.1, e.2.2.2.1, by have := e.2.2.2.2; omega⟩, (hT s).keep h.raw (fun j e hj => ht.block j hj (fun e' => h.og (e' ▸ e))) hz, fun j e => Nat.lt_of_lt_of_le (h.ol j e) hz, h.og, h.orr, (ht.block r h.rlt (fun e => h.gr e.symm)).trans h.zr, h.gr, h.gw, h.rw, h.oo, h.tu.trans ht (fun k hk e => by have e' : k = g := e; omega)⟩
theorem QV.set {σ : Type} {B : World → (Nat → Prop) → σ → Prop} (hT : ∀ s, OAt (fun w O => B w O s)) {w : World} {O0 : Nat → Prop} {r g : Nat} {W : World} {O : Nat → Prop} {x : SS} {s : σ} {o i b : Value} (h : QV B w O0 r g W O x s o i b) (x' : SS) (o' i' b' : Value) (j : Nat) (u : Value) (he : ([.bool x.rd, .bool x.wt, .int .i64 x.mode, .int .i64 x.size, o, i, b, .int .i64 x.dir, .bool x.fin, .bool x.bad, .bool x.closed] : List Value).set j u = [.bool x'.rd, .bool x'.wt, .int .i64 x'.mode, .int .i64 x'.size, o', i', b', .int .i64 x'.dir, .bool x'.fin, .bool x'.bad, .bool x'.closed]) (hl : SIn W (fun k => w.heap.size ≤ k ∧ ¬ O k ∧ k ≠ g ∧ k ≠ r ∧ k < W.heap.size) x' o' i' b') : QV B w O0 r g (W.setCell ⟨g, j, none⟩ u) O x' s o' i' b' := by
  obtain ⟨h1, h2⟩ := h.st.set j u he
  exact h.at hT h1 h2 hl
theorem QV.step {σ : Type} {B : World → (Nat → Prop) → σ → Prop} (hT : ∀ s, OAt (fun w O => B w O s)) {w : World} {O0 : Nat → Prop} {r g : Nat} {W W1 : World} {O : Nat → Prop} {x : SS} {s s' : σ} {o i b : Value} (h : QV B w O0 r g W O x s o i b) (hS : OStep (fun w O => B w O s') W O W1) : ∃ O', QV B w O0 r g W1 O' x s' o i b ∧ ∀ k, k < W.heap.size → ¬ O k → ¬ O' k := by
  obtain ⟨O1, q1, q2, q3⟩ := hS
  have hz := q3.size
  have hn : ∀ k, k < W.heap.size → ¬ O k → ¬ (O1 k ∧ k < W1.heap.size) := fun k hk hno e => (q2 k e.1).elim hno (fun e => by omega)
  have hw := h.tu.size
  exact ⟨fun k => O1 k ∧ k < W1.heap.size, ⟨h.st.turned q3 h.og, (h.ls.turned q3 fun k e _ => e.2.1).mono fun k e => ⟨e.1, hn k e.2.2.2.2 e.2.1, e.2.2.1, e.2.2.2.1, by have := e.2.2.2.2; omega⟩, (hT s').trim q1, fun j e => e.2, hn g h.st.lt h.og, hn r h.rlt h.orr, (q3.block r h.rlt h.orr).trans h.zr, h.gr, h.gw, h.rw, fun k e => (q2 k e.1).elim (h.oo k) (fun e => .inr (by omega)), h.tu.trans q3 (fun k hk e => (h.oo k e).resolve_right (by omega))⟩, hn⟩
theorem QV.out {σ : Type} {B : World → (Nat → Prop) → σ → Prop} (hT : ∀ s, OAt (fun w O => B w O s)) {w : World} {O0 : Nat → Prop} {r g : Nat} {W : World} {O : Nat → Prop} {x : SS} {s : σ} {o i b : Value} (h : QV B w O0 r g W O x s o i b) : StAt (filled W r x o i b) r x o i b ∧ SOut B w O0 x s o i b (filled W r x o i b) := by
  obtain ⟨e1, e2⟩ := st_fill3 W r x o i b h.zr
  have hz := e2.size
  have hr := h.rw
  exact ⟨e1, O, (h.ls.turned e2 fun k e _ => e.2.2.2.1).mono fun k e => ⟨e.1, e.2.1, by have := e.2.2.2.2; omega⟩, (hT s).keep h.raw (fun j e hj => e2.block j hj (fun e' => h.orr (e' ▸ e))) hz, fun j e => Nat.lt_of_lt_of_le (h.ol j e) hz, h.oo, h.tu.trans e2 (fun k hk e => by have e' : k = r := e; omega)⟩
end Go.Proofs.YtkkommomefmpgaaGreat

/- Streams: a call's variable takes what another call gave. -/
namespace Go.Proofs.YtkkommomefmpgaaGreat
open Go.RowKit

theorem QV.of_out {σ : Type} {B : World → (Nat → Prop) → σ → Prop} (hT : ∀ s, OAt (fun w O => B w O s)) {w w1 w2 : World} {O : Nat → Prop} {r g : Nat} {x x' : SS} {s' : σ} {o i b o' i' b' : Value} (hB : Below w.heap.size w w1) (hs : StAt w1 g x o i b) (hz : w1.heap[r]? = some (Obj.cells #[.bool false, .bool false, .int .i64 0, .int .i64 0, .slice none 0 0, .slice none 0 0, .slice none 0 0, .int .i64 0, .bool false, .bool false, .bool false] 58)) (hgr : g ≠ r) (hg : w.heap.size ≤ g) (hr : w.heap.size ≤ r) (hO : ∀ j, O j → j < w.heap.size) (hS : SOut B w1 O x' s' o' i' b' w2) :
    StAt w2 g x o i b ∧ ∃ O', QV B w O r g (filled w2 g x' o' i' b') O' x' s' o' i' b' := by
  obtain ⟨O', h1, h2, h3, h4, h5⟩ := hS
  have hz1 := hB.size
  have hz5 := h5.size
  have hgl := hs.lt
  have hrl : r < w1.heap.size := (Array.getElem?_eq_some_iff.1 hz).1
  have hst : StAt w2 g x o i b := (h5.block g hgl (fun e => by have := hO g e; omega)).trans hs
  obtain ⟨e1, e2⟩ := st_fill2 w2 g x x' o i b o' i' b' hst
  have hz2 := e2.size
  have no : ∀ k, w.heap.size ≤ k → k < w1.heap.size → ¬ O' k := fun k ha hb e => by
    rcases h4 k e with e | e
    · have := hO k e; omega
    · omega
  refine ⟨hst, O', e1, (h1.turned e2 fun k e _ e' => by have := e.1; omega).mono fun k e => ⟨by have := e.1; omega, e.2.1, by have := e.1; omega, by have := e.1; omega, by have := e.2.2; omega⟩, (hT s').keep h2 (fun j e hj => e2.block j hj (fun e' => no g hg hgl (e' ▸ e))) hz2, fun j e => Nat.lt_of_lt_of_le (h3 j e) hz2, no g hg hgl, no r hr hrl, ?_, hgr, hg, hr, fun k e => (h4 k e).imp id (fun e => by omega), ?_⟩
  · exact (e2.block r (by omega) (fun e => hgr e.symm)).trans ((h5.block r hrl (fun e => by have := hO r e; omega)).trans hz)
  · exact ((Turned.of_below (S := O) hB).trans h5 (fun _ _ e => e)).trans e2 (fun k hk e => by have e' : k = g := e; omega)
theorem QV.of_new {σ : Type} {B : World → (Nat → Prop) → σ → Prop} (hT : ∀ s, OAt (fun w O => B w O s)) {w w1 w2 : World} {O : Nat → Prop} {r : Nat} {x' : SS} {s' : σ} {o' i' b' : Value} (hB : Below w.heap.size w w1) (hz : w1.heap[r]? = some (Obj.cells #[.bool false, .bool false, .int .i64 0, .int .i64 0, .slice none 0 0, .slice none 0 0, .slice none 0 0, .int .i64 0, .bool false, .bool false, .bool false] 58)) (hr : w.heap.size ≤ r) (hO : ∀ j, O j → j < w.heap.size) (hS : SOut B w1 O x' s' o' i' b' w2) :
    ∃ O', QV B w O r w2.heap.size (w2.alloc (Obj.cells #[.bool x'.rd, .bool x'.wt, .int .i64 x'.mode, .int .i64 x'.size, o', i', b', .int .i64 x'.dir, .bool x'.fin, .bool x'.bad, .bool x'.closed] 58)) O' x' s' o' i' b' := by
  obtain ⟨O', h1, h2, h3, h4, h5⟩ := hS
  have hz1 := hB.size
  have hz5 := h5.size
  have hrl : r < w1.heap.size := (Array.getElem?_eq_some_iff.1 hz).1
  have hBn := recv_below w2 (Obj.cells #[.bool x'.rd, .bool x'.wt, .int .i64 x'.mode, .int .i64 x'.size, o', i', b', .int .i64 x'.dir, .bool x'.fin, .bool x'.bad, .bool x'.closed] 58)
  have hzn := hBn.size
  have hst := StAt.new w2 x' o' i' b'
  refine ⟨O', hst, (h1.below hBn).mono fun k e => ⟨by have := e.1; omega, e.2.1, by have := e.2.2; omega, by have := e.1; omega, by have := e.2.2; omega⟩, (hT s').keep h2 (fun j _ hj => hBn.block j hj) hzn, fun j e => Nat.lt_of_lt_of_le (h3 j e) hzn, fun e => by have := h3 _ e; omega, fun e => ?_, ?_, by omega, by omega, hr, fun k e => (h4 k e).imp id (fun e => by omega), ?_⟩
  · rcases h4 r e with e | e
    · have := hO r e; omega
    · omega
  · exact (hBn.block r (by omega)).trans ((h5.block r hrl (fun e => by have := hO r e; omega)).trans hz)
  · exact ((Turned.of_below (S := O) hB).trans h5 (fun _ _ e => e)).trans (Turned.of_below (S := O) hBn) (fun _ _ e => e)
theorem SIn.nils0 {W : World} {P : Nat → Prop} {x : SS} (h1 : x.out = []) (h2 : x.inn = []) (h3 : x.back = []) : SIn W P x (.slice none 0 0) (.slice none 0 0) (.slice none 0 0) := by
  have hno : ∀ k, (Value.slice none 0 0).ownBlock = some k → False := fun k e => by simp [Value.ownBlock] at e
  exact ⟨h1 ▸ Sl.nil, h2 ▸ Sl.nil, h3 ▸ Sl.nil, fun k e => (hno k e).elim, fun k e => (hno k e).elim, fun k e => (hno k e).elim⟩
theorem QV.out2 {σ : Type} {B : World → (Nat → Prop) → σ → Prop} (hT : ∀ s, OAt (fun w O => B w O s)) {w : World} {O0 : Nat → Prop} {r g : Nat} {W : World} {O : Nat → Prop} {x : SS} {s : σ} {o i b : Value} (h : QV B w O0 r g W O x s o i b) (x' : SS) (o' i' b' : Value) (hl : SIn W (fun k => w.heap.size ≤ k ∧ ¬ O k ∧ k ≠ g ∧ k ≠ r ∧ k < W.heap.size) x' o' i' b') : StAt (filled W r x' o' i' b') r x' o' i' b' ∧ SOut B w O0 x' s o' i' b' (filled W r x' o' i' b') := by
  obtain ⟨e1, e2⟩ := st_fill3 W r x' o' i' b' h.zr
  have hz := e2.size
  have hr := h.rw
  exact ⟨e1, O, (hl.turned e2 fun k e _ => e.2.2.2.1).mono fun k e => ⟨e.1, e.2.1, by have := e.2.2.2.2; omega⟩, (hT s).keep h.raw (fun j e hj => e2.block j hj (fun e' => h.orr (e' ▸ e))) hz, fun j e => Nat.lt_of_lt_of_le (h.ol j e) hz, h.oo, h.tu.trans e2 (fun k hk e => by have e' : k = r := e; omega)⟩
end Go.Proofs.YtkkommomefmpgaaGreat

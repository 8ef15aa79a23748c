/- What the proof stands on, part 10: the contracts of the program's calls that it reaches. -/
import Derived.Test.YtmlfcbbgelkbbaaGreatKW9
import Derived.KernelRfl
import Derived.Lib.SlBytesConst
import Derived.Deep.DeepCutAuto
/- Blocks: the whole state of a source; bytes are got. -/
namespace Go.Proofs.YtmlfcbbgelkbbaaGreat
open Go.RowKit

set_option maxRecDepth 100000 in
set_option maxHeartbeats 8000000 in
theorem bjoined_any (y : SS) (far : List UInt8) (g : Nat) (o i b r f : Value) (P : Nat → Prop) (w : World) (h : BSrc w g y o i b r f) (hs : SIn w P y o i b) (hf : Sl w f far) (hn : far ≠ [] → y.inn = []) :
    Calls Tryz.prog 209 #[.pointer (some ⟨g, 0, none⟩)] w fun e w' => ∃ i', e = .returned (.agg #[.bool (y.wh far).rd, .bool (y.wh far).wt, .int .i64 (y.wh far).mode, .int .i64 (y.wh far).size, o, i', b, .int .i64 (y.wh far).dir, .bool (y.wh far).fin, .bool (y.wh far).bad, .bool (y.wh far).closed]) ∧ Sl w' i' (y.inn ++ far) ∧ (∀ k, i'.ownBlock = some k → i.ownBlock = some k ∨ f.ownBlock = some k) ∧ Below w.heap.size w w' := by
  obtain ⟨oa, oc, rfl, -⟩ := hs.so
  have hi := hs.si
  obtain ⟨ia, ic, rfl, -⟩ := hs.si
  obtain ⟨ba, bc, rfl, -⟩ := hs.sb
  have hf' := hf
  obtain ⟨fa, fc, rfl, -⟩ := hf'
  have HS := hide h
  have hB0 := (recv_below w (Obj.cells #[.bool false, .bool false, .int .i64 0, .int .i64 0, .slice none 0 0, .slice none 0 0, .slice none 0 0, .int .i64 0, .bool false, .bool false, .bool false] 58)).trans ((recv_below (w.alloc (Obj.cells #[.bool false, .bool false, .int .i64 0, .int .i64 0, .slice none 0 0, .slice none 0 0, .slice none 0 0, .int .i64 0, .bool false, .bool false, .bool false] 58)) (Obj.cells #[.bool y.rd, .bool y.wt, .int .i64 y.mode, .int .i64 y.size, .slice oa y.out.length oc, .slice ia y.inn.length ic, .slice ba y.back.length bc, .int .i64 y.dir, .bool y.fin, .bool y.bad, .bool y.closed] 58)).mono (recv_below w (Obj.cells #[.bool false, .bool false, .int .i64 0, .int .i64 0, .slice none 0 0, .slice none 0 0, .slice none 0 0, .int .i64 0, .bool false, .bool false, .bool false] 58)).size)
  have hst : StAt ((w.alloc (Obj.cells #[.bool false, .bool false, .int .i64 0, .int .i64 0, .slice none 0 0, .slice none 0 0, .slice none 0 0, .int .i64 0, .bool false, .bool false, .bool false] 58)).alloc (Obj.cells #[.bool y.rd, .bool y.wt, .int .i64 y.mode, .int .i64 y.size, .slice oa y.out.length oc, .slice ia y.inn.length ic, .slice ba y.back.length bc, .int .i64 y.dir, .bool y.fin, .bool y.bad, .bool y.closed] 58)) (w.heap.size + 1) y (.slice oa y.out.length oc) (.slice ia y.inn.length ic) (.slice ba y.back.length bc) := by
    have := StAt.new (w.alloc (Obj.cells #[.bool false, .bool false, .int .i64 0, .int .i64 0, .slice none 0 0, .slice none 0 0, .slice none 0 0, .int .i64 0, .bool false, .bool false, .bool false] 58)) y (.slice oa y.out.length oc) (.slice ia y.inn.length ic) (.slice ba y.back.length bc)
    rw [show (w.alloc (Obj.cells #[.bool false, .bool false, .int .i64 0, .int .i64 0, .slice none 0 0, .slice none 0 0, .slice none 0 0, .int .i64 0, .bool false, .bool false, .bool false] 58)).heap.size = w.heap.size + 1 from Array.size_push ..] at this
    exact this
  have hz0 : ((w.alloc (Obj.cells #[.bool false, .bool false, .int .i64 0, .int .i64 0, .slice none 0 0, .slice none 0 0, .slice none 0 0, .int .i64 0, .bool false, .bool false, .bool false] 58)).alloc (Obj.cells #[.bool y.rd, .bool y.wt, .int .i64 y.mode, .int .i64 y.size, .slice oa y.out.length oc, .slice ia y.inn.length ic, .slice ba y.back.length bc, .int .i64 y.dir, .bool y.fin, .bool y.bad, .bool y.closed] 58)).heap[w.heap.size]? = some (Obj.cells #[.bool false, .bool false, .int .i64 0, .int .i64 0, .slice none 0 0, .slice none 0 0, .slice none 0 0, .int .i64 0, .bool false, .bool false, .bool false] 58) := by
    rw [(recv_below (w.alloc (Obj.cells #[.bool false, .bool false, .int .i64 0, .int .i64 0, .slice none 0 0, .slice none 0 0, .slice none 0 0, .int .i64 0, .bool false, .bool false, .bool false] 58)) (Obj.cells #[.bool y.rd, .bool y.wt, .int .i64 y.mode, .int .i64 y.size, .slice oa y.out.length oc, .slice ia y.inn.length ic, .slice ba y.back.length bc, .int .i64 y.dir, .bool y.fin, .bool y.bad, .bool y.closed] 58)).block w.heap.size (by rw [show (w.alloc (Obj.cells #[.bool false, .bool false, .int .i64 0, .int .i64 0, .slice none 0 0, .slice none 0 0, .slice none 0 0, .int .i64 0, .bool false, .bool false, .bool false] 58)).heap.size = w.heap.size + 1 from Array.size_push ..]; omega)]
    exact heap_alloc_new w (Obj.cells #[.bool false, .bool false, .int .i64 0, .int .i64 0, .slice none 0 0, .slice none 0 0, .slice none 0 0, .int .i64 0, .bool false, .bool false, .bool false] 58)
  obtain ⟨c0, c1, c2, c3, c4, c5, c6, c7, c8, c9, c10, c11, c12⟩ := (h.below (recv_below w (Obj.cells #[.bool false, .bool false, .int .i64 0, .int .i64 0, .slice none 0 0, .slice none 0 0, .slice none 0 0, .int .i64 0, .bool false, .bool false, .bool false] 58))).cs
  have HI := hide hi
  have HF := hide hf
  have HZ0 := hide hz0
  have HSt := hide hst
  have HB0 := hide hB0
  clear h hs hf hi hz0 hst hB0
  go_enter Tryz.func209, Tryz.ntmps209
  go_upto_region 2 with fail
  clear c0 c1 c2 c3 c4 c5 c6 c7 c8 c9 c10 c11 c12
  generalize (w.alloc (Obj.cells #[.bool false, .bool false, .int .i64 0, .int .i64 0, .slice none 0 0, .slice none 0 0, .slice none 0 0, .int .i64 0, .bool false, .bool false, .bool false] 58)).alloc (Obj.cells #[.bool y.rd, .bool y.wt, .int .i64 y.mode, .int .i64 y.size, .slice oa y.out.length oc, .slice ia y.inn.length ic, .slice ba y.back.length bc, .int .i64 y.dir, .bool y.fin, .bool y.bad, .bool y.closed] 58) = w0 at *
  have hgl := HS.out.lt
  have hsl := HSt.out.lt
  obtain ⟨d0, d1, d2, d3, d4, d5, d6, d7, d8, d9, d10, c11, c12⟩ := (HS.out.below HB0.out).cs
  clear d0 d1 d2 d3 d4 d5 d6 d7 d8 d9 d10 c11
  obtain ⟨gs, hgs⟩ : ∃ gs, gs = w.heap.size + 1 := ⟨_, rfl⟩
  rw [← hgs] at HSt hsl ⊢
  have HG1 : Hid (gs = w.heap.size + 1 ∧ gs < w0.heap.size) := hide ⟨hgs, hsl⟩
  clear hgs hsl hgl
  by_cases h0 : far = []
  · subst h0
    obtain ⟨c0, c1, c2, c3, c4, c5, c6, c7, c8, c9, c10⟩ := HSt.out.cs
    have z0 := cell_of_row w0 (w.heap.size) 0 _ _ _ HZ0.out
    have t0 := frozen_of_row w0 (w.heap.size) 0 _ _ HZ0.out
    have z1 := cell_of_row w0 (w.heap.size) 1 _ _ _ HZ0.out
    have t1 := frozen_of_row w0 (w.heap.size) 1 _ _ HZ0.out
    have z2 := cell_of_row w0 (w.heap.size) 2 _ _ _ HZ0.out
    have t2 := frozen_of_row w0 (w.heap.size) 2 _ _ HZ0.out
    have z3 := cell_of_row w0 (w.heap.size) 3 _ _ _ HZ0.out
    have t3 := frozen_of_row w0 (w.heap.size) 3 _ _ HZ0.out
    have z4 := cell_of_row w0 (w.heap.size) 4 _ _ _ HZ0.out
    have t4 := frozen_of_row w0 (w.heap.size) 4 _ _ HZ0.out
    have z5 := cell_of_row w0 (w.heap.size) 5 _ _ _ HZ0.out
    have t5 := frozen_of_row w0 (w.heap.size) 5 _ _ HZ0.out
    have z6 := cell_of_row w0 (w.heap.size) 6 _ _ _ HZ0.out
    have t6 := frozen_of_row w0 (w.heap.size) 6 _ _ HZ0.out
    have z7 := cell_of_row w0 (w.heap.size) 7 _ _ _ HZ0.out
    have t7 := frozen_of_row w0 (w.heap.size) 7 _ _ HZ0.out
    have z8 := cell_of_row w0 (w.heap.size) 8 _ _ _ HZ0.out
    have t8 := frozen_of_row w0 (w.heap.size) 8 _ _ HZ0.out
    have z9 := cell_of_row w0 (w.heap.size) 9 _ _ _ HZ0.out
    have t9 := frozen_of_row w0 (w.heap.size) 9 _ _ HZ0.out
    have z10 := cell_of_row w0 (w.heap.size) 10 _ _ _ HZ0.out
    have t10 := frozen_of_row w0 (w.heap.size) 10 _ _ HZ0.out
    simp at z0 z1 z2 z3 z4 z5 z6 z7 z8 z9 z10
    go_wp2
    obtain ⟨e1, e2⟩ := st_fill w0 w.heap.size y (.slice oa y.out.length oc) (.slice ia y.inn.length ic) (.slice ba y.back.length bc) HZ0.out
    refine bodyPost_ret (results_cell_row rfl _ _ w.heap.size _ _ _ _ rfl e1 Tryz.underlying58 rfl (by kernel_rfl)) rfl ?_
    have hB2 := HB0.out.trans (e2.below (B := w.heap.size) (fun k e => Nat.le_of_eq (Eq.symm e)) HB0.out.size)
    exact ⟨_, rfl, by rw [List.append_nil]; exact HI.out.turned (Turned.of_below (S := fun _ => False) hB2) (fun _ _ _ => id), fun k e => .inl e, hB2⟩
  · have hl : 0 < far.length := List.length_pos_iff.2 h0
    have e1 : decide (0 < far.length) = true := decide_eq_true hl
    have e2 : (0 : Int) < (far.length : Int) := by omega
    have HN := hide (hn h0)
    obtain ⟨c0, c1, c2, c3, c4, c5, c6, c7, c8, c9, c10⟩ := HSt.out.cs
    have f5 := HSt.out.soft 5
    clear h0 hl hn
    go_upto_region 4 with fail
    obtain ⟨k1, k2⟩ := StAt.set (x' := y) HSt.out 5 (.slice fa far.length fc) rfl
    have HS1 := hide k1
    have HZ1 := hide ((k2.block w.heap.size (by have := HG1.out; omega) (fun e => by have e : w.heap.size = gs := e; have := HG1.out; omega)).trans HZ0.out)
    have HB1 := hide (HB0.out.trans (k2.below (B := w.heap.size) (fun k e => by have e : k = gs := e; have := HG1.out; omega) HB0.out.size))
    clear k1 k2 e1 e2 c0 c1 c2 c3 c4 c5 c6 c7 c8 c9 c10 f5 c12
    generalize w0.setCell ⟨gs, 5, none⟩ (.slice fa far.length fc) = w1 at *
    obtain ⟨c0, c1, c2, c3, c4, c5, c6, c7, c8, c9, c10⟩ := HS1.out.cs
    have z0 := cell_of_row w1 (w.heap.size) 0 _ _ _ HZ1.out
    have t0 := frozen_of_row w1 (w.heap.size) 0 _ _ HZ1.out
    have z1 := cell_of_row w1 (w.heap.size) 1 _ _ _ HZ1.out
    have t1 := frozen_of_row w1 (w.heap.size) 1 _ _ HZ1.out
    have z2 := cell_of_row w1 (w.heap.size) 2 _ _ _ HZ1.out
    have t2 := frozen_of_row w1 (w.heap.size) 2 _ _ HZ1.out
    have z3 := cell_of_row w1 (w.heap.size) 3 _ _ _ HZ1.out
    have t3 := frozen_of_row w1 (w.heap.size) 3 _ _ HZ1.out
    have z4 := cell_of_row w1 (w.heap.size) 4 _ _ _ HZ1.out
    have t4 := frozen_of_row w1 (w.heap.size) 4 _ _ HZ1.out
    have z5 := cell_of_row w1 (w.heap.size) 5 _ _ _ HZ1.out
    have t5 := frozen_of_row w1 (w.heap.size) 5 _ _ HZ1.out
    have z6 := cell_of_row w1 (w.heap.size) 6 _ _ _ HZ1.out
    have t6 := frozen_of_row w1 (w.heap.size) 6 _ _ HZ1.out
    have z7 := cell_of_row w1 (w.heap.size) 7 _ _ _ HZ1.out
    have t7 := frozen_of_row w1 (w.heap.size) 7 _ _ HZ1.out
    have z8 := cell_of_row w1 (w.heap.size) 8 _ _ _ HZ1.out
    have t8 := frozen_of_row w1 (w.heap.size) 8 _ _ HZ1.out
    have z9 := cell_of_row w1 (w.heap.size) 9 _ _ _ HZ1.out
    have t9 := frozen_of_row w1 (w.heap.size) 9 _ _ HZ1.out
    have z10 := cell_of_row w1 (w.heap.size) 10 _ _ _ HZ1.out
    have t10 := frozen_of_row w1 (w.heap.size) 10 _ _ HZ1.out
    simp at z0 z1 z2 z3 z4 z5 z6 z7 z8 z9 z10
    go_wp2
    obtain ⟨e1, e2⟩ := st_fill w1 w.heap.size y (.slice oa y.out.length oc) (.slice fa far.length fc) (.slice ba y.back.length bc) HZ1.out
    refine bodyPost_ret (results_cell_row rfl _ _ w.heap.size _ _ _ _ rfl e1 Tryz.underlying58 rfl (by kernel_rfl)) rfl ?_
    have hB2 := HB1.out.trans (e2.below (B := w.heap.size) (fun k e => Nat.le_of_eq (Eq.symm e)) HB1.out.size)
    exact ⟨_, rfl, by rw [HN.out]; exact HF.out.turned (Turned.of_below (S := fun _ => False) hB2) (fun _ _ _ => id), fun k e => .inr e, hB2⟩
def stopN (N : Nat) (b : List UInt8) : Bool := decide (b.length = N)
theorem bget_end {S : Type} {At : World → (Nat → Prop) → S → Prop} (hT : ∀ s, OAt (fun w O => At w O s)) {w w0 w2 w3 w4 : World} {O O1 : Nat → Prop} {s1 : S} {g : Nat} {y : SS} {far acc : List UInt8} {e : Int} {o i b r f u i3 : Value} (hB0 : Below w.heap.size w w0) (hO : ∀ j, O j → j < w.heap.size) (hz : w.heap.size + 1 < w0.heap.size ∧ w0.heap.size ≤ w2.heap.size ∧ w2.heap.size ≤ w3.heap.size) (hT2 : Turned (fun j => O j ∨ w0.heap.size ≤ j) w0 w2) (hO1 : ∀ j, O1 j → O j ∨ w0.heap.size ≤ j) (hS : BSrcOn At w2 O1 s1 w0.heap.size g y far o i b r f) (hU : w2.ownsRow w0.heap.size 5 1 u acc.length (acc.map bv)) (hOf : ∀ k, u.ownBlock = some k → OffS k O1 g o i b f) (hI : Sl w3 i3 (y.inn ++ far)) (hIb : ∀ k, i3.ownBlock = some k → i.ownBlock = some k ∨ f.ownBlock = some k) (hB3 : Below w2.heap.size w2 w3) (e2 : Turned (fun k => k = w.heap.size + 1) w3 w4) : GOut At w O (y.wh far, acc, e, s1) o i3 b u w4 := by
  obtain ⟨z1, z2, z3⟩ := hz
  have z4 := e2.size
  have z0 := hB0.size
  have hS4 := (hS.below hT hB3).turned hT e2 (fun k _ ek => by
    have ek : k = w.heap.size + 1 := ek
    refine ⟨fun e3 => ?_, by have := hS.gB; omega, fun e3 => by have := (hS.ls.po k e3).1; omega, fun e3 => by have := (hS.ls.pi k e3).1; omega, fun e3 => by have := (hS.ls.pb k e3).1; omega, fun e3 => by have := (hS.fp k e3).1; omega⟩
    rcases hO1 k e3 with e4 | e4
    · have := hO k e4; omega
    · omega)
  have hIp : ∀ k, i3.ownBlock = some k → w0.heap.size ≤ k ∧ ¬ O1 k ∧ k ≠ g ∧ k < w4.heap.size := fun k ek => (hIb k ek).elim (hS4.ls.pi k) (hS4.fp k)
  have hIl : Sl w4 i3 (y.inn ++ far) := hI.turned e2 (fun k ek _ ek2 => by have := (hIp k ek).1; have ek2 : k = w.heap.size + 1 := ek2; omega)
  refine ⟨O1, ⟨⟨hS4.ls.so, hIl, hS4.ls.sb, fun k ek => ⟨by have := (hS4.ls.po k ek).1; omega, (hS4.ls.po k ek).2.1, (hS4.ls.po k ek).2.2.2⟩, fun k ek => ⟨by have := (hIp k ek).1; omega, (hIp k ek).2.1, (hIp k ek).2.2.2⟩, fun k ek => ⟨by have := (hS4.ls.pb k ek).1; omega, (hS4.ls.pb k ek).2.1, (hS4.ls.pb k ek).2.2.2⟩⟩, hS4.raw, hS4.ol, fun k ek => (hO1 k ek).imp id (fun e3 => by omega), ?_⟩, owns_mono (owns_turned (owns_below hU hB3) e2 (fun k ek ek2 => by have := (hU.lt k ek).1; have ek2 : k = w.heap.size + 1 := ek2; omega)) (by omega), fun k ek => ⟨(hOf k ek).1, (hOf k ek).2.2.1, fun e3 => (hIb k e3).elim (hOf k ek).2.2.2.1 (hOf k ek).2.2.2.2.2, (hOf k ek).2.2.2.2.1⟩⟩
  exact (((Turned.of_below (S := O) hB0).trans hT2 (fun k hk e3 => e3.resolve_right (by omega))).trans (Turned.of_below (S := O) hB3) (fun _ _ e3 => e3)).trans e2 (fun k hk e3 => by have e3 : k = w.heap.size + 1 := e3; omega)
set_option maxRecDepth 100000 in
set_option maxHeartbeats 8000000 in
theorem bget_any {S : Type} {D : RawD S} {T : TypeId} {v : Value} {fr fw : FuncId} {rok wok : S → Prop} {At : World → (Nat → Prop) → S → Prop} (R : RawM D T v fr fw rok wok At) (hT : ∀ s, OAt (fun w O => At w O s)) {G : Nat → S → Prop} (hG : Bears D rok wok G) {w : World} {O P : Nat → Prop} {s : S} {x : SS} (oa ia ba : Option Addr) (oc ic bc N : Nat) (h : SIn w P x (.slice oa x.out.length oc) (.slice ia x.inn.length ic) (.slice ba x.back.length bc)) (hA : At w O s) (hO : ∀ j, O j → j < w.heap.size) (hm : x.may = true) (hN2 : N ≤ 1048576) (hg : G (2 * N + 2) s) :
    Calls Tryz.prog 129 #[.agg #[.bool x.rd, .bool x.wt, .int .i64 x.mode, .int .i64 x.size, .slice oa x.out.length oc, .slice ia x.inn.length ic, .slice ba x.back.length bc, .int .i64 x.dir, .bool x.fin, .bool x.bad, .bool x.closed], .iface T v, .int .i64 N] w fun e w' => ∃ o' i' b' u, e = .returned (.tuple #[.agg #[.bool (gat D (stopN N) (N + 1) x s []).1.rd, .bool (gat D (stopN N) (N + 1) x s []).1.wt, .int .i64 (gat D (stopN N) (N + 1) x s []).1.mode, .int .i64 (gat D (stopN N) (N + 1) x s []).1.size, o', i', b', .int .i64 (gat D (stopN N) (N + 1) x s []).1.dir, .bool (gat D (stopN N) (N + 1) x s []).1.fin, .bool (gat D (stopN N) (N + 1) x s []).1.bad, .bool (gat D (stopN N) (N + 1) x s []).1.closed], u, .int .i64 (gat D (stopN N) (N + 1) x s []).2.2.1]) ∧ GOut At w O (gat D (stopN N) (N + 1) x s []) o' i' b' u w' := by
  obtain ⟨m1, m2, m3, m4, m5, m6, m7, m8⟩ := may_buf hm
  obtain ⟨Q, hR⟩ : ∃ Q, Q = gat D (stopN N) (N + 1) x s [] := ⟨_, rfl⟩
  rw [← hR]
  have HR := hide hR
  have HM0 := hide hm
  have HG0 := hide hg
  have HO := hide hO
  have HAt := hide hA
  have hB0 := (recv_below w (Obj.cells #[.bool x.rd, .bool x.wt, .int .i64 x.mode, .int .i64 x.size, .slice oa x.out.length oc, .slice ia x.inn.length ic, .slice ba x.back.length bc, .int .i64 x.dir, .bool x.fin, .bool x.bad, .bool x.closed] 58)).trans ((recv_below (w.alloc (Obj.cells #[.bool x.rd, .bool x.wt, .int .i64 x.mode, .int .i64 x.size, .slice oa x.out.length oc, .slice ia x.inn.length ic, .slice ba x.back.length bc, .int .i64 x.dir, .bool x.fin, .bool x.bad, .bool x.closed] 58)) (Obj.cells #[.bool false, .bool false, .int .i64 0, .int .i64 0, .slice none 0 0, .slice none 0 0, .slice none 0 0, .int .i64 0, .bool false, .bool false, .bool false] 58)).mono (recv_below w (Obj.cells #[.bool x.rd, .bool x.wt, .int .i64 x.mode, .int .i64 x.size, .slice oa x.out.length oc, .slice ia x.inn.length ic, .slice ba x.back.length bc, .int .i64 x.dir, .bool x.fin, .bool x.bad, .bool x.closed] 58)).size)
  have hz0 : ((w.alloc (Obj.cells #[.bool x.rd, .bool x.wt, .int .i64 x.mode, .int .i64 x.size, .slice oa x.out.length oc, .slice ia x.inn.length ic, .slice ba x.back.length bc, .int .i64 x.dir, .bool x.fin, .bool x.bad, .bool x.closed] 58)).alloc (Obj.cells #[.bool false, .bool false, .int .i64 0, .int .i64 0, .slice none 0 0, .slice none 0 0, .slice none 0 0, .int .i64 0, .bool false, .bool false, .bool false] 58)).heap[w.heap.size + 1]? = some (Obj.cells #[.bool false, .bool false, .int .i64 0, .int .i64 0, .slice none 0 0, .slice none 0 0, .slice none 0 0, .int .i64 0, .bool false, .bool false, .bool false] 58) := by
    have := heap_alloc_new (w.alloc (Obj.cells #[.bool x.rd, .bool x.wt, .int .i64 x.mode, .int .i64 x.size, .slice oa x.out.length oc, .slice ia x.inn.length ic, .slice ba x.back.length bc, .int .i64 x.dir, .bool x.fin, .bool x.bad, .bool x.closed] 58)) (Obj.cells #[.bool false, .bool false, .int .i64 0, .int .i64 0, .slice none 0 0, .slice none 0 0, .slice none 0 0, .int .i64 0, .bool false, .bool false, .bool false] 58)
    rw [show (w.alloc (Obj.cells #[.bool x.rd, .bool x.wt, .int .i64 x.mode, .int .i64 x.size, .slice oa x.out.length oc, .slice ia x.inn.length ic, .slice ba x.back.length bc, .int .i64 x.dir, .bool x.fin, .bool x.bad, .bool x.closed] 58)).heap.size = w.heap.size + 1 from Array.size_push ..] at this
    exact this
  have HC := hide (kcopied_any x _ _ _ P _ (h.below hB0) (by omega) (by omega) (by omega))
  have HB0 := hide hB0
  have HZ0 := hide hz0
  clear h hm hg hO hB0 hz0 hR m1 m2 m3 m4 m5 m6 m7 m8 hA
  go_enter Tryz.func129, Tryz.ntmps129
  go_wp2_with fail
  generalize (w.alloc (Obj.cells #[.bool x.rd, .bool x.wt, .int .i64 x.mode, .int .i64 x.size, .slice oa x.out.length oc, .slice ia x.inn.length ic, .slice ba x.back.length bc, .int .i64 x.dir, .bool x.fin, .bool x.bad, .bool x.closed] 58)).alloc (Obj.cells #[.bool false, .bool false, .int .i64 0, .int .i64 0, .slice none 0 0, .slice none 0 0, .slice none 0 0, .int .i64 0, .bool false, .bool false, .bool false] 58) = w0 at *
  refine HC.out.mono ?_
  rintro _ w1 ⟨o1, i1, b1, rfl, q1, q2, q3, hB1, -⟩
  obtain ⟨oa1, oc1, rfl⟩ := owns_slice q1
  obtain ⟨ia1, ic1, rfl⟩ := owns_slice q2
  obtain ⟨ba1, bc1, rfl⟩ := owns_slice q3
  have HQ := hide (And.intro q1 (And.intro q2 (And.intro q3 hB1)))
  clear q1 q2 q3 hB1 HC
  go_upto_region 2 with fail
  have hS1 : BSrcOn At (w1.alloc (Obj.cells #[.bool x.rd, .bool x.wt, .int .i64 x.mode, .int .i64 x.size, .slice oa1 x.out.length oc1, .slice ia1 x.inn.length ic1, .slice ba1 x.back.length bc1, .int .i64 x.dir, .bool x.fin, .bool x.bad, .bool x.closed, .iface T v, .slice none 0 0] 324)) O s w0.heap.size w1.heap.size x [] (.slice oa1 x.out.length oc1) (.slice ia1 x.inn.length ic1) (.slice ba1 x.back.length bc1) (.iface T v) (.slice none 0 0) ∧ Turned (fun j => O j ∨ w0.heap.size ≤ j) w0 (w1.alloc (Obj.cells #[.bool x.rd, .bool x.wt, .int .i64 x.mode, .int .i64 x.size, .slice oa1 x.out.length oc1, .slice ia1 x.inn.length ic1, .slice ba1 x.back.length bc1, .int .i64 x.dir, .bool x.fin, .bool x.bad, .bool x.closed, .iface T v, .slice none 0 0] 324)) := by
    obtain ⟨q1, q2, q3, hB1⟩ := HQ.out
    have hBn := recv_below w1 (Obj.cells #[.bool x.rd, .bool x.wt, .int .i64 x.mode, .int .i64 x.size, .slice oa1 x.out.length oc1, .slice ia1 x.inn.length ic1, .slice ba1 x.back.length bc1, .int .i64 x.dir, .bool x.fin, .bool x.bad, .bool x.closed, .iface T v, .slice none 0 0] 324)
    have hz0 := HB0.out.size
    have hz1 := hB1.size
    have hz2 := hBn.size
    have hO := HO.out
    have inP : ∀ k, w0.heap.size ≤ k ∧ k < w1.heap.size → (w0.heap.size ≤ k ∧ ¬ O k ∧ k ≠ w1.heap.size ∧ k < (w1.alloc (Obj.cells #[.bool x.rd, .bool x.wt, .int .i64 x.mode, .int .i64 x.size, .slice oa1 x.out.length oc1, .slice ia1 x.inn.length ic1, .slice ba1 x.back.length bc1, .int .i64 x.dir, .bool x.fin, .bool x.bad, .bool x.closed, .iface T v, .slice none 0 0] 324)).heap.size) := fun k e => ⟨e.1, fun e2 => by have := hO k e2; omega, by omega, by omega⟩
    exact ⟨⟨BSrc.new w1 x _ _ _ _ _, ⟨Sl.own (owns_below q1 hBn), Sl.own (owns_below q2 hBn), Sl.own (owns_below q3 hBn), fun k e => inP k (q1.lt k e), fun k e => inP k (q2.lt k e), fun k e => inP k (q3.lt k e)⟩, Sl.nil, fun k e => by simp [Value.ownBlock] at e, (hT s).keep HAt.out (fun j e hj => (hBn.block j (by omega)).trans ((hB1.block j (by omega)).trans (HB0.out.block j hj))) (by omega), fun e => by have := hO _ e; omega, hz1, fun j e => by have := hO j e; omega, fun e => absurd rfl e⟩, (Turned.of_below (S := fun j => O j ∨ w0.heap.size ≤ j) (hB1.trans (hBn.mono hz1)))⟩
  have HS1 := hide hS1.1
  have HT1 := hide hS1.2
  clear hS1 HQ
  generalize w1.alloc (Obj.cells #[.bool x.rd, .bool x.wt, .int .i64 x.mode, .int .i64 x.size, .slice oa1 x.out.length oc1, .slice ia1 x.inn.length ic1, .slice ba1 x.back.length bc1, .int .i64 x.dir, .bool x.fin, .bool x.bad, .bool x.closed, .iface T v, .slice none 0 0] 324) = w2 at *
  generalize w1.heap.size = g at *
  go_wp2_with fail
  go_loopw [10, 18] (fun u si wr => ∃ (acc : List UInt8) (y : SS) (far : List UInt8) (s1 : S) (O1 : Nat → Prop) (o1 i1 b1 f1 : Value), si = .int .i64 (acc.length : Int) ∧ acc.length ≤ N ∧ Hid (wr.ownsRow w0.heap.size 5 1 u acc.length (acc.map bv)) ∧ Hid (BSrcOn At wr O1 s1 w0.heap.size g y far o1 i1 b1 (.iface T v) f1) ∧ Hid ((y.wh far).may = true) ∧ Hid (G (2 * (N - acc.length) + 2) s1 ∧ gat D (stopN N) (N + 1 - acc.length) (y.wh far) s1 acc = Q) ∧ Hid (Turned (fun j => O j ∨ w0.heap.size ≤ j) w0 wr ∧ (∀ j, O1 j → O j ∨ w0.heap.size ≤ j)) ∧ Hid (∀ k, u.ownBlock = some k → OffS k O1 g o1 i1 b1 f1)) (fun u _ _ => N - lenV u)
  case atStart => exact ⟨[], x, [], s, O, _, _, _, _, rfl, Nat.zero_le _, hide (World.ownsRow_nil _ _ _ _), HS1, hide (by rw [wh_nil]; exact HM0.out), hide ⟨HG0.out, by rw [wh_nil]; exact HR.out.symm⟩, hide ⟨HT1.out, fun _ e => .inl e⟩, hide (fun k e => by simp [Value.ownBlock] at e)⟩
  case round =>
    clear HS1 HT1
    obtain ⟨acc, y, far, s1, O1, o1, i1, b1, f1, rfl, hk, HU, HS, HM, HGa, HT, HOf⟩ := hrel
    obtain ⟨ua, uc, rfl⟩ := owns_slice HU.out
    obtain ⟨oa2, oc2, rfl, -⟩ := HS.out.ls.so
    obtain ⟨ia2, ic2, rfl, -⟩ := HS.out.ls.si
    obtain ⟨ba2, bc2, rfl, -⟩ := HS.out.ls.sb
    have hfl := HS.out.fl
    obtain ⟨fa2, fc2, rfl, -⟩ := hfl
    by_cases hst : acc.length = N
    · have hst2 : stopN N acc = true := by unfold stopN; rw [decide_eq_true hst]
      have d1 : ¬ acc.length < N := by omega
      have HJ := hide (bjoined_any y far g _ _ _ _ _ _ wr HS.out.src HS.out.ls HS.out.fl (fun e => (HS.out.nr e).1))
      have hQ := HGa.out.2
      rw [gat_stop _ _ _ _ _ _ hst2] at hQ
      subst hQ
      clear hst hst2 hk
      go_wp2_with fail
      refine HJ.out.mono ?_
      rintro _ w3 ⟨i3, rfl, hI3, hIb3, hB3⟩
      have hI3x := hI3
      obtain ⟨ia3, ic3, rfl, -⟩ := hI3
      have hI3' : Sl w3 (.slice ia3 (y.inn ++ far).length ic3) (y.inn ++ far) := hI3x
      have hzz : w.heap.size + 1 < w0.heap.size := (Array.getElem?_eq_some_iff.1 HZ0.out).1
      have hz02 := HT.out.1.size
      have hz23 := hB3.size
      have HZ3 : Hid (w3.heap[w.heap.size + 1]? = some (Obj.cells #[.bool false, .bool false, .int .i64 0, .int .i64 0, .slice none 0 0, .slice none 0 0, .slice none 0 0, .int .i64 0, .bool false, .bool false, .bool false] 58)) := hide ((hB3.block _ (by omega)).trans ((HT.out.1.block _ hzz (fun e => by rcases e with e | e; have := HO.out _ e; omega; omega)).trans HZ0.out))
      have HB3 := hide hB3
      have HI3 := hide hI3'
      have HIb3 := hide hIb3
      have HSz := hide (And.intro hzz (And.intro hz02 hz23))
      have z0 := cell_of_row w3 (w.heap.size + 1) 0 _ _ _ HZ3.out
      have t0 := frozen_of_row w3 (w.heap.size + 1) 0 _ _ HZ3.out
      have z1 := cell_of_row w3 (w.heap.size + 1) 1 _ _ _ HZ3.out
      have t1 := frozen_of_row w3 (w.heap.size + 1) 1 _ _ HZ3.out
      have z2 := cell_of_row w3 (w.heap.size + 1) 2 _ _ _ HZ3.out
      have t2 := frozen_of_row w3 (w.heap.size + 1) 2 _ _ HZ3.out
      have z3 := cell_of_row w3 (w.heap.size + 1) 3 _ _ _ HZ3.out
      have t3 := frozen_of_row w3 (w.heap.size + 1) 3 _ _ HZ3.out
      have z4 := cell_of_row w3 (w.heap.size + 1) 4 _ _ _ HZ3.out
      have t4 := frozen_of_row w3 (w.heap.size + 1) 4 _ _ HZ3.out
      have z5 := cell_of_row w3 (w.heap.size + 1) 5 _ _ _ HZ3.out
      have t5 := frozen_of_row w3 (w.heap.size + 1) 5 _ _ HZ3.out
      have z6 := cell_of_row w3 (w.heap.size + 1) 6 _ _ _ HZ3.out
      have t6 := frozen_of_row w3 (w.heap.size + 1) 6 _ _ HZ3.out
      have z7 := cell_of_row w3 (w.heap.size + 1) 7 _ _ _ HZ3.out
      have t7 := frozen_of_row w3 (w.heap.size + 1) 7 _ _ HZ3.out
      have z8 := cell_of_row w3 (w.heap.size + 1) 8 _ _ _ HZ3.out
      have t8 := frozen_of_row w3 (w.heap.size + 1) 8 _ _ HZ3.out
      have z9 := cell_of_row w3 (w.heap.size + 1) 9 _ _ _ HZ3.out
      have t9 := frozen_of_row w3 (w.heap.size + 1) 9 _ _ HZ3.out
      have z10 := cell_of_row w3 (w.heap.size + 1) 10 _ _ _ HZ3.out
      have t10 := frozen_of_row w3 (w.heap.size + 1) 10 _ _ HZ3.out
      simp at z0 z1 z2 z3 z4 z5 z6 z7 z8 z9 z10
      clear hI3' hI3x hIb3 hB3 hzz hz02 hz23 HJ
      obtain ⟨n3, hn3⟩ : ∃ n3, n3 = (y.inn ++ far).length := ⟨_, rfl⟩
      rw [← hn3] at HI3 HIb3 ⊢
      clear hn3
      go_wp2
      obtain ⟨e1, e2⟩ := st_fill w3 (w.heap.size + 1) y (.slice oa2 y.out.length oc2) (.slice ia3 n3 ic3) (.slice ba2 y.back.length bc2) HZ3.out
      refine bodyPost_ret (res_three rfl _ (w.heap.size + 1) rfl y _ _ _ e1) rfl ?_
      exact ⟨_, _, _, _, rfl, bget_end hT HB0.out HO.out HSz.out HT.out.1 HT.out.2 HS.out HU.out HOf.out HI3.out HIb3.out HB3.out e2⟩
    · have hst2 : stopN N acc = false := by unfold stopN; rw [decide_eq_false hst]
      have hkN : acc.length < N := by omega
      have d1 : acc.length < N := hkN
      have HkN := hide hkN
      have HNx := hide (bnext_any R hT hG HS.out HT.out.1.size (bear_down hG (2 * (N - acc.length)) 2 s1 HGa.out.1) HM.out)
      have hgm := (get_may D s1 HM.out).1
      have hgb := get_bear hG (n := 2 * (N - (acc.length + 1)) + 2) (s := s1) (y.wh far) (by rw [show 2 * (N - (acc.length + 1)) + 2 + 2 = 2 * (N - acc.length) + 2 by omega]; exact HGa.out.1)
      have hQ := HGa.out.2
      rw [show N + 1 - acc.length = N + 1 - (acc.length + 1) + 1 by omega] at hQ
      clear hst hk hkN
      go_wp2_with fail
      refine HNx.out.mono ?_
      rintro _ w3 ⟨O3, y3, far3, o3, i3, b3, f3, rfl, hwh3, hS3, hO3, hL3, hT3⟩
      have HU3 := hide (owns_turned HU.out hT3 (fun k e e2 => by
        have h1 := HOf.out k e
        have h2 := (HU.out.lt k e).2
        rcases e2 with e2 | e2 | e2
        · exact h1.1 e2
        · exact h1.2.1 e2
        · omega))
      have HOf3 := hide (fun k (e : (Value.slice ua acc.length uc).ownBlock = some k) => (by
        have h1 := HOf.out k e
        have h2 := (HU.out.lt k e).2
        have h3 : ∀ z : Prop, (z → wr.heap.size ≤ k ∨ (Value.slice oa2 y.out.length oc2).ownBlock = some k ∨ (Value.slice ia2 y.inn.length ic2).ownBlock = some k ∨ (Value.slice ba2 y.back.length bc2).ownBlock = some k ∨ (Value.slice fa2 far.length fc2).ownBlock = some k) → ¬ z := fun z hz e2 => by
          rcases hz e2 with e3 | e3 | e3 | e3 | e3
          · omega
          · exact h1.2.2.1 e3
          · exact h1.2.2.2.1 e3
          · exact h1.2.2.2.2.1 e3
          · exact h1.2.2.2.2.2 e3
        exact ⟨fun e2 => by rcases hO3 k e2 with e3 | e3; exact h1.1 e3; omega, h1.2.1, h3 _ (fun e2 => hL3 k (.inl e2)), h3 _ (fun e2 => hL3 k (.inr (.inl e2))), h3 _ (fun e2 => hL3 k (.inr (.inr (.inl e2)))), h3 _ (fun e2 => hL3 k (.inr (.inr (.inr e2))))⟩ : OffS k O3 g o3 i3 b3 f3))
      have HT3 := hide (HT.out.1.trans hT3 (fun k hk e => by
        rcases e with e | e | e
        · exact HT.out.2 k e
        · exact .inr (by have := HS.out.gB; omega)
        · exact .inr (Nat.le_trans HT.out.1.size e)))
      have HOs3 := hide (fun k (e : O3 k) => (by
        rcases hO3 k e with e2 | e2
        · exact HT.out.2 k e2
        · exact .inr (Nat.le_trans HT.out.1.size e2) : O k ∨ w0.heap.size ≤ k))
      have HS3 := hide hS3
      clear hS3 hO3 hL3 hT3 HNx HU HOf HT
      by_cases he : ((y.wh far).get D s1).2.2.1 = 0
      · rw [gat_next _ _ _ _ _ _ hst2 he] at hQ
        generalize (y.wh far).get D s1 = q at *
        obtain ⟨x', ch, e', s'⟩ := q
        simp only at he hQ hgm hgb HS3 hwh3
        subst he
        subst hwh3
        have HUA := hide (owns_below HU3.out (recv_below w3 (Obj.cells #[.int .u8 (ch.toNat : Int)] 5)))
        have hzA : (w3.alloc (Obj.cells #[.int .u8 (ch.toNat : Int)] 5)).heap.size = w3.heap.size + 1 := Array.size_push ..
        obtain ⟨u', w', hr, HO', hg', hwhere⟩ := run_append_bytes (w3.alloc (Obj.cells #[.int .u8 (ch.toNat : Int)] 5)) 40 w0.heap.size _ _ acc [ch] HUA.out (lone_bys w3 ch) (by simp only [List.length_cons, List.length_nil]; have := HkN.out; omega) (by have := HT3.out.size; omega)
        obtain ⟨ua', uc', rfl⟩ := owns_slice HO'.out
        have HTA := hide (((HT3.out.trans (Turned.of_below (S := fun j => O j ∨ w0.heap.size ≤ j) (recv_below w3 (Obj.cells #[.int .u8 (ch.toNat : Int)] 5))) (fun _ _ e => e)).grown hg' (fun k e => .inl (.inr (HU3.out.lt k e).1))))
        have tA : Turned (fun k => (Value.slice ua acc.length uc).ownBlock = some k) (w3.alloc (Obj.cells #[.int .u8 (ch.toNat : Int)] 5)) w' := (Turned.refl _ _).grown hg' (fun k e => .inl e)
        have HSA := hide ((HS3.out.below hT (recv_below w3 (Obj.cells #[.int .u8 (ch.toNat : Int)] 5))).turned hT tA (fun k _ e => HOf3.out k e))
        have HOfA := hide (fun k (e : (Value.slice ua' (acc ++ [ch]).length uc').ownBlock = some k) => (by
          rcases hwhere with e2 | e2
          · exact HOf3.out k (e2 ▸ e)
          · have hk : k = w3.heap.size + 1 := by rw [e2, hzA] at e; exact (Option.some.inj e).symm
            have hS := HS3.out
            exact ⟨fun e3 => by have := hS.ol k e3; omega, by have := hS.src.lt; omega, fun e3 => by have := (hS.ls.po k e3).2.2.2; omega, fun e3 => by have := (hS.ls.pi k e3).2.2.2; omega, fun e3 => by have := (hS.ls.pb k e3).2.2.2; omega, fun e3 => by have := (hS.fp k e3).2.2.2; omega⟩ : OffS k O3 g o3 i3 b3 f3))
        have HAp := hide hr
        have HQn := hide hQ
        have HMn := hide hgm
        have HGn := hide hgb
        obtain ⟨n', hn'⟩ : ∃ n', n' = (acc ++ [ch]).length := ⟨_, rfl⟩
        have HN' := hide hn'
        rw [← hn'] at HAp HO' HOfA
        have e7 : wrap64 ((acc.length : Int) + 1) = (n' : Int) := by rw [hn', List.length_append]; simp only [List.length_cons, List.length_nil]; have := HkN.out; unfold wrap64; omega
        clear hr hg' hwhere tA hQ hgm hgb hn' hzA HUA HU3 HT3 HS3 HOf3 d1 hst2
        go_wp2_with (at_builtin; refine Lib.wpList_append_run _ rfl _ _ _ _ rfl _ _ rfl rfl _ _ HAp.out ?_)
        try simp only [e7]
        go_roundw
        case rel => exact ⟨acc ++ [ch], y3, far3, s', O3, _, _, _, _, by first | (rw [← HN'.out]; rfl) | (rw [← HN'.out]), by rw [List.length_append]; simp only [List.length_cons, List.length_nil]; have := HkN.out; omega, by rw [← HN'.out]; exact HO', HSA, HMn, hide ⟨by rw [List.length_append]; exact HGn.out, by rw [List.length_append]; exact HQn.out⟩, hide ⟨HTA.out, HOs3.out⟩, HOfA⟩
        case measure => have := HN'.out; have h9 := HkN.out; rw [List.length_append] at this; simp only [List.length_cons, List.length_nil] at this; simp [lenV]; omega
      · rw [gat_err _ _ _ _ _ _ hst2 he] at hQ
        generalize (y.wh far).get D s1 = q at *
        obtain ⟨x', ch, e', s'⟩ := q
        simp only at he hQ hgm hgb HS3 hwh3
        subst hwh3
        subst hQ
        obtain ⟨oa2, oc2, rfl, -⟩ := HS3.out.ls.so
        obtain ⟨ia4, ic4, rfl, -⟩ := HS3.out.ls.si
        obtain ⟨ba2, bc2, rfl, -⟩ := HS3.out.ls.sb
        have HJ := hide (bjoined_any y3 far3 g _ _ _ _ _ _ w3 HS3.out.src HS3.out.ls HS3.out.fl (fun e => (HS3.out.nr e).1))
        have hb1 : (e' == 0) = false := by simp [he]
        have hb2 : (e' != 0) = true := by simp [he]
        clear hgm hgb he
        go_wp2_with fail
        refine HJ.out.mono ?_
        rintro _ w4 ⟨i5, rfl, hI3, hIb3, hB3⟩
        have hI3x := hI3
        obtain ⟨ia3, ic3, rfl, -⟩ := hI3
        have hI3' : Sl w4 (.slice ia3 (y3.inn ++ far3).length ic3) (y3.inn ++ far3) := hI3x
        have hzz : w.heap.size + 1 < w0.heap.size := (Array.getElem?_eq_some_iff.1 HZ0.out).1
        have hz02 := HT3.out.size
        have hz23 := hB3.size
        have HZ3 : Hid (w4.heap[w.heap.size + 1]? = some (Obj.cells #[.bool false, .bool false, .int .i64 0, .int .i64 0, .slice none 0 0, .slice none 0 0, .slice none 0 0, .int .i64 0, .bool false, .bool false, .bool false] 58)) := hide ((hB3.block _ (by omega)).trans ((HT3.out.block _ hzz (fun e => by rcases e with e | e; have := HO.out _ e; omega; omega)).trans HZ0.out))
        have HB3 := hide hB3
        have HI3 := hide hI3'
        have HIb3 := hide hIb3
        have HSz := hide (And.intro hzz (And.intro hz02 hz23))
        have z0 := cell_of_row w4 (w.heap.size + 1) 0 _ _ _ HZ3.out
        have t0 := frozen_of_row w4 (w.heap.size + 1) 0 _ _ HZ3.out
        have z1 := cell_of_row w4 (w.heap.size + 1) 1 _ _ _ HZ3.out
        have t1 := frozen_of_row w4 (w.heap.size + 1) 1 _ _ HZ3.out
        have z2 := cell_of_row w4 (w.heap.size + 1) 2 _ _ _ HZ3.out
        have t2 := frozen_of_row w4 (w.heap.size + 1) 2 _ _ HZ3.out
        have z3 := cell_of_row w4 (w.heap.size + 1) 3 _ _ _ HZ3.out
        have t3 := frozen_of_row w4 (w.heap.size + 1) 3 _ _ HZ3.out
        have z4 := cell_of_row w4 (w.heap.size + 1) 4 _ _ _ HZ3.out
        have t4 := frozen_of_row w4 (w.heap.size + 1) 4 _ _ HZ3.out
        have z5 := cell_of_row w4 (w.heap.size + 1) 5 _ _ _ HZ3.out
        have t5 := frozen_of_row w4 (w.heap.size + 1) 5 _ _ HZ3.out
        have z6 := cell_of_row w4 (w.heap.size + 1) 6 _ _ _ HZ3.out
        have t6 := frozen_of_row w4 (w.heap.size + 1) 6 _ _ HZ3.out
        have z7 := cell_of_row w4 (w.heap.size + 1) 7 _ _ _ HZ3.out
        have t7 := frozen_of_row w4 (w.heap.size + 1) 7 _ _ HZ3.out
        have z8 := cell_of_row w4 (w.heap.size + 1) 8 _ _ _ HZ3.out
        have t8 := frozen_of_row w4 (w.heap.size + 1) 8 _ _ HZ3.out
        have z9 := cell_of_row w4 (w.heap.size + 1) 9 _ _ _ HZ3.out
        have t9 := frozen_of_row w4 (w.heap.size + 1) 9 _ _ HZ3.out
        have z10 := cell_of_row w4 (w.heap.size + 1) 10 _ _ _ HZ3.out
        have t10 := frozen_of_row w4 (w.heap.size + 1) 10 _ _ HZ3.out
        simp at z0 z1 z2 z3 z4 z5 z6 z7 z8 z9 z10
        clear hI3' hI3x hIb3 hB3 hzz hz02 hz23 HJ
        obtain ⟨n3, hn3⟩ : ∃ n3, n3 = (y3.inn ++ far3).length := ⟨_, rfl⟩
        rw [← hn3] at HI3 HIb3 ⊢
        clear hn3
        go_wp2
        obtain ⟨e1, e2⟩ := st_fill w4 (w.heap.size + 1) y3 (.slice oa2 y3.out.length oc2) (.slice ia3 n3 ic3) (.slice ba2 y3.back.length bc2) HZ3.out
        refine bodyPost_ret (res_three rfl _ (w.heap.size + 1) rfl y3 _ _ _ e1) rfl ?_
        exact ⟨_, _, _, _, rfl, bget_end hT HB0.out HO.out HSz.out HT3.out HOs3.out HS3.out HU3.out HOf3.out HI3.out HIb3.out HB3.out e2⟩
end Go.Proofs.YtmlfcbbgelkbbaaGreat

/- Blocks: Read. -/
namespace Go.Proofs.YtmlfcbbgelkbbaaGreat
open Go.RowKit

theorem res_four {fn : Func} {p u t q : Tmp} {w : World} (h : fn.results = #[.cell p 58, .tmp u, .tmp t, .tmp q]) (tmps : Array Value) (g : Nat) (hp : tmps.getD p undef = .pointer (some ⟨g, 0, none⟩)) (x : SS) (o i b : Value) (hg : StAt w g x o i b) : (results fn tmps).run Tryz.prog w = .ok (.tuple #[.agg #[.bool x.rd, .bool x.wt, .int .i64 x.mode, .int .i64 x.size, o, i, b, .int .i64 x.dir, .bool x.fin, .bool x.bad, .bool x.closed], tmps.getD u undef, tmps.getD t undef, tmps.getD q undef]) w := by
  have hp' : tmps[p]?.getD undef = .pointer (some ⟨g, 0, none⟩) := by simpa using hp
  simp [results, h, hp', asAddr, run_loadVar_row w g _ 58 _ _ _ hg Tryz.underlying58 rfl (by kernel_rfl)]
theorem gat_len {S : Type} (D : RawD S) (N : Nat) : ∀ (n : Nat) (x : SS) (s : S) (acc : List UInt8), acc.length ≤ N → (gat D (stopN N) n x s acc).2.1.length ≤ N := by
  intro n
  induction n with
  | zero => intro x s acc h; exact h
  | succ n ih =>
    intro x s acc h
    cases hs : stopN N acc with
    | true => rw [gat_stop _ _ _ _ _ _ hs]; exact h
    | false =>
      by_cases he : (x.get D s).2.2.1 = 0
      · rw [gat_next _ _ _ _ _ _ hs he]
        refine ih _ _ _ ?_
        unfold stopN at hs
        have := of_decide_eq_false hs
        simp only [List.length_append, List.length_cons, List.length_nil]
        omega
      · rw [gat_err _ _ _ _ _ _ hs he]; exact h
def SS.bread {S : Type} (D : RawD S) (x : SS) (s : S) (size count : Int) : SS × List UInt8 × Int × Int × S :=
  if (x.bwant true size count).2 ≠ 0 then (x, [], 0, (x.bwant true size count).2, s)
  else ((gat D (stopN (x.bwant true size count).1.toNat) ((x.bwant true size count).1.toNat + 1) x s []).1, (gat D (stopN (x.bwant true size count).1.toNat) ((x.bwant true size count).1.toNat + 1) x s []).2.1, wholeV (gat D (stopN (x.bwant true size count).1.toNat) ((x.bwant true size count).1.toNat + 1) x s []).2.1.length size, (gat D (stopN (x.bwant true size count).1.toNat) ((x.bwant true size count).1.toNat + 1) x s []).2.2.1, (gat D (stopN (x.bwant true size count).1.toNat) ((x.bwant true size count).1.toNat + 1) x s []).2.2.2)
theorem bread_len {S : Type} (D : RawD S) (x : SS) (s : S) (size count : Int) : (x.bread D s size count).2.1.length ≤ 1048576 := by
  unfold SS.bread
  split
  · simp
  · rename_i h
    obtain ⟨h1, h2⟩ := bwant_may (x := x) (hr := true) (size := size) (count := count) (by simpa using h)
    rw [← h2]
    have h3 := bytesV_ok (size := size) (count := count) (by rw [h2]; simpa using h)
    exact Nat.le_trans (gat_len D _ _ x s [] (Nat.zero_le _)) (by omega)
set_option linter.unusedSimpArgs false in
set_option maxRecDepth 100000 in
set_option maxHeartbeats 8000000 in
theorem bread_any {S : Type} {D : RawD S} {T : TypeId} {v : Value} {fr fw : FuncId} {rok wok : S → Prop} {At : World → (Nat → Prop) → S → Prop} (R : RawM D T v fr fw rok wok At) (hT : ∀ s, OAt (fun w O => At w O s)) {G : Nat → S → Prop} (hG : Bears D rok wok G) {w : World} {O P : Nat → Prop} {s : S} {x : SS} (oa ia ba : Option Addr) (oc ic bc : Nat) (size count : Int) (h : SIn w P x (.slice oa x.out.length oc) (.slice ia x.inn.length ic) (.slice ba x.back.length bc)) (hA : At w O s) (hO : ∀ j, O j → j < w.heap.size) (hg : G 2097154 s) (ho : x.out.length ≤ 140737488351232) (hi : x.inn.length ≤ 140737488351232) (hb : x.back.length ≤ 140737488351232) :
    Calls Tryz.prog 36 #[.agg #[.bool x.rd, .bool x.wt, .int .i64 x.mode, .int .i64 x.size, .slice oa x.out.length oc, .slice ia x.inn.length ic, .slice ba x.back.length bc, .int .i64 x.dir, .bool x.fin, .bool x.bad, .bool x.closed], .iface T v, .int .i64 size, .int .i64 count] w fun e w' => ∃ o' i' b' u, e = .returned (.tuple #[.agg #[.bool (x.bread D s size count).1.rd, .bool (x.bread D s size count).1.wt, .int .i64 (x.bread D s size count).1.mode, .int .i64 (x.bread D s size count).1.size, o', i', b', .int .i64 (x.bread D s size count).1.dir, .bool (x.bread D s size count).1.fin, .bool (x.bread D s size count).1.bad, .bool (x.bread D s size count).1.closed], u, .int .i64 (x.bread D s size count).2.2.1, .int .i64 (x.bread D s size count).2.2.2.1]) ∧ GOut At w O ((x.bread D s size count).1, (x.bread D s size count).2.1, (x.bread D s size count).2.2.2.1, (x.bread D s size count).2.2.2.2) o' i' b' u w' := by
  have hF2 : ((w.alloc (Obj.cells #[.bool x.rd, .bool x.wt, .int .i64 x.mode, .int .i64 x.size, .slice oa x.out.length oc, .slice ia x.inn.length ic, .slice ba x.back.length bc, .int .i64 x.dir, .bool x.fin, .bool x.bad, .bool x.closed] 58)).alloc (Obj.cells #[.bool false, .bool false, .int .i64 0, .int .i64 0, .slice none 0 0, .slice none 0 0, .slice none 0 0, .int .i64 0, .bool false, .bool false, .bool false] 58)).heap[w.heap.size]? = some (Obj.cells #[.bool x.rd, .bool x.wt, .int .i64 x.mode, .int .i64 x.size, .slice oa x.out.length oc, .slice ia x.inn.length ic, .slice ba x.back.length bc, .int .i64 x.dir, .bool x.fin, .bool x.bad, .bool x.closed] 58) ∧ ((w.alloc (Obj.cells #[.bool x.rd, .bool x.wt, .int .i64 x.mode, .int .i64 x.size, .slice oa x.out.length oc, .slice ia x.inn.length ic, .slice ba x.back.length bc, .int .i64 x.dir, .bool x.fin, .bool x.bad, .bool x.closed] 58)).alloc (Obj.cells #[.bool false, .bool false, .int .i64 0, .int .i64 0, .slice none 0 0, .slice none 0 0, .slice none 0 0, .int .i64 0, .bool false, .bool false, .bool false] 58)).heap[w.heap.size + 1]? = some (Obj.cells #[.bool false, .bool false, .int .i64 0, .int .i64 0, .slice none 0 0, .slice none 0 0, .slice none 0 0, .int .i64 0, .bool false, .bool false, .bool false] 58) ∧ Below w.heap.size w ((w.alloc (Obj.cells #[.bool x.rd, .bool x.wt, .int .i64 x.mode, .int .i64 x.size, .slice oa x.out.length oc, .slice ia x.inn.length ic, .slice ba x.back.length bc, .int .i64 x.dir, .bool x.fin, .bool x.bad, .bool x.closed] 58)).alloc (Obj.cells #[.bool false, .bool false, .int .i64 0, .int .i64 0, .slice none 0 0, .slice none 0 0, .slice none 0 0, .int .i64 0, .bool false, .bool false, .bool false] 58)) ∧ w.heap.size + 1 < ((w.alloc (Obj.cells #[.bool x.rd, .bool x.wt, .int .i64 x.mode, .int .i64 x.size, .slice oa x.out.length oc, .slice ia x.inn.length ic, .slice ba x.back.length bc, .int .i64 x.dir, .bool x.fin, .bool x.bad, .bool x.closed] 58)).alloc (Obj.cells #[.bool false, .bool false, .int .i64 0, .int .i64 0, .slice none 0 0, .slice none 0 0, .slice none 0 0, .int .i64 0, .bool false, .bool false, .bool false] 58)).heap.size := by
    have s1 : (w.alloc (Obj.cells #[.bool x.rd, .bool x.wt, .int .i64 x.mode, .int .i64 x.size, .slice oa x.out.length oc, .slice ia x.inn.length ic, .slice ba x.back.length bc, .int .i64 x.dir, .bool x.fin, .bool x.bad, .bool x.closed] 58)).heap.size = w.heap.size + 1 := Array.size_push ..
    have h2 := heap_alloc_new (w.alloc (Obj.cells #[.bool x.rd, .bool x.wt, .int .i64 x.mode, .int .i64 x.size, .slice oa x.out.length oc, .slice ia x.inn.length ic, .slice ba x.back.length bc, .int .i64 x.dir, .bool x.fin, .bool x.bad, .bool x.closed] 58)) (Obj.cells #[.bool false, .bool false, .int .i64 0, .int .i64 0, .slice none 0 0, .slice none 0 0, .slice none 0 0, .int .i64 0, .bool false, .bool false, .bool false] 58)
    rw [s1] at h2
    exact ⟨((recv_below (w.alloc (Obj.cells #[.bool x.rd, .bool x.wt, .int .i64 x.mode, .int .i64 x.size, .slice oa x.out.length oc, .slice ia x.inn.length ic, .slice ba x.back.length bc, .int .i64 x.dir, .bool x.fin, .bool x.bad, .bool x.closed] 58)) (Obj.cells #[.bool false, .bool false, .int .i64 0, .int .i64 0, .slice none 0 0, .slice none 0 0, .slice none 0 0, .int .i64 0, .bool false, .bool false, .bool false] 58)).block _ (by omega)).trans (heap_alloc_new w (Obj.cells #[.bool x.rd, .bool x.wt, .int .i64 x.mode, .int .i64 x.size, .slice oa x.out.length oc, .slice ia x.inn.length ic, .slice ba x.back.length bc, .int .i64 x.dir, .bool x.fin, .bool x.bad, .bool x.closed] 58)), h2, (recv_below w (Obj.cells #[.bool x.rd, .bool x.wt, .int .i64 x.mode, .int .i64 x.size, .slice oa x.out.length oc, .slice ia x.inn.length ic, .slice ba x.back.length bc, .int .i64 x.dir, .bool x.fin, .bool x.bad, .bool x.closed] 58)).trans ((recv_below (w.alloc (Obj.cells #[.bool x.rd, .bool x.wt, .int .i64 x.mode, .int .i64 x.size, .slice oa x.out.length oc, .slice ia x.inn.length ic, .slice ba x.back.length bc, .int .i64 x.dir, .bool x.fin, .bool x.bad, .bool x.closed] 58)) (Obj.cells #[.bool false, .bool false, .int .i64 0, .int .i64 0, .slice none 0 0, .slice none 0 0, .slice none 0 0, .int .i64 0, .bool false, .bool false, .bool false] 58)).mono (recv_below w (Obj.cells #[.bool x.rd, .bool x.wt, .int .i64 x.mode, .int .i64 x.size, .slice oa x.out.length oc, .slice ia x.inn.length ic, .slice ba x.back.length bc, .int .i64 x.dir, .bool x.fin, .bool x.bad, .bool x.closed] 58)).size), (Array.getElem?_eq_some_iff.1 h2).1⟩
  have HF := hide hF2
  have HR1 := hide (fun W => bwanted_any x oa ia ba oc ic bc T v size count W hi hb)
  have HO := hide hO
  have HIn := hide h
  have HA := hide hA
  have HGs := hide hg
  have HLn := hide (And.intro ho (And.intro hi hb))
  clear h hA hO hg ho hi hb hF2
  obtain ⟨⟨q1, q2⟩, hq⟩ : ∃ q, q = x.bwant true size count := ⟨_, rfl⟩
  by_cases hr : q2 = 0
  case neg =>
    have hun : x.bread D s size count = (x, [], 0, q2, s) := by unfold SS.bread; rw [← hq]; rw [if_pos hr]
    rw [hun]
    rw [← hq] at HR1
    simp only at HR1 ⊢
    clear hun hq
    go_enter Tryz.func36, Tryz.ntmps36
    go_wp2_with fail
    generalize ((w.alloc (Obj.cells #[.bool x.rd, .bool x.wt, .int .i64 x.mode, .int .i64 x.size, .slice oa x.out.length oc, .slice ia x.inn.length ic, .slice ba x.back.length bc, .int .i64 x.dir, .bool x.fin, .bool x.bad, .bool x.closed] 58)).alloc (Obj.cells #[.bool false, .bool false, .int .i64 0, .int .i64 0, .slice none 0 0, .slice none 0 0, .slice none 0 0, .int .i64 0, .bool false, .bool false, .bool false] 58)) = w0 at *
    refine (HR1.out w0).mono ?_
    rintro _ w1 ⟨rfl, hB1⟩
    have HB1 := hide (HF.out.2.2.1.trans (hB1.mono HF.out.2.2.1.size))
    have HX1 : Hid (StAt w1 w.heap.size x (.slice oa x.out.length oc) (.slice ia x.inn.length ic) (.slice ba x.back.length bc)) := hide ((hB1.block _ (by have := HF.out.2.2.2; omega)).trans HF.out.1)
    have HZ1 : Hid (w1.heap[w.heap.size + 1]? = some (Obj.cells #[.bool false, .bool false, .int .i64 0, .int .i64 0, .slice none 0 0, .slice none 0 0, .slice none 0 0, .int .i64 0, .bool false, .bool false, .bool false] 58)) := hide ((hB1.block _ HF.out.2.2.2).trans HF.out.2.1)
    have HZs : Hid (w.heap.size + 1 < w1.heap.size) := hide (Nat.lt_of_lt_of_le HF.out.2.2.2 hB1.size)
    obtain ⟨c0, c1, c2, c3, c4, c5, c6, c7, c8, c9, c10⟩ := HX1.out.cs
    clear hB1 HF HR1
    have hb1 : (q2 == 0) = false := by simp [hr]
    have hb2 : (q2 != 0) = true := by simp [hr]
    clear hr
    have HC := hide (kcopied_any x _ _ _ P w1 (HIn.out.below HB1.out) HLn.out.1 HLn.out.2.1 HLn.out.2.2)
    go_wp2_with fail
    refine HC.out.mono ?_
    rintro _ w3 ⟨o3, i3, b3, rfl, h1, h2, h3, hB3, -⟩
    obtain ⟨oa3, oc3, rfl⟩ := owns_slice h1
    obtain ⟨ia3, ic3, rfl⟩ := owns_slice h2
    obtain ⟨ba3, bc3, rfl⟩ := owns_slice h3
    have HZ3 : Hid (w3.heap[w.heap.size + 1]? = some (Obj.cells #[.bool false, .bool false, .int .i64 0, .int .i64 0, .slice none 0 0, .slice none 0 0, .slice none 0 0, .int .i64 0, .bool false, .bool false, .bool false] 58)) := hide ((hB3.block _ HZs.out).trans HZ1.out)
    have H1 := hide h1
    have H2 := hide h2
    have H3 := hide h3
    have HB3 := hide hB3
    clear h1 h2 h3 hB3 HC c0 c1 c2 c3 c4 c5 c6 c7 c8 c9 c10
    have z0 := cell_of_row w3 (w.heap.size + 1) 0 _ _ _ HZ3.out
    have t0 := frozen_of_row w3 (w.heap.size + 1) 0 _ _ HZ3.out
    have z1 := cell_of_row w3 (w.heap.size + 1) 1 _ _ _ HZ3.out
    have t1 := frozen_of_row w3 (w.heap.size + 1) 1 _ _ HZ3.out
    have z2 := cell_of_row w3 (w.heap.size + 1) 2 _ _ _ HZ3.out
    have t2 := frozen_of_row w3 (w.heap.size + 1) 2 _ _ HZ3.out
    have z3 := cell_of_row w3 (w.heap.size + 1) 3 _ _ _ HZ3.out
    have t3 := frozen_of_row w3 (w.heap.size + 1) 3 _ _ HZ3.out
    have z4 := cell_of_row w3 (w.heap.size + 1) 4 _ _ _ HZ3.out
    have t4 := frozen_of_row w3 (w.heap.size + 1) 4 _ _ HZ3.out
    have z5 := cell_of_row w3 (w.heap.size + 1) 5 _ _ _ HZ3.out
    have t5 := frozen_of_row w3 (w.heap.size + 1) 5 _ _ HZ3.out
    have z6 := cell_of_row w3 (w.heap.size + 1) 6 _ _ _ HZ3.out
    have t6 := frozen_of_row w3 (w.heap.size + 1) 6 _ _ HZ3.out
    have z7 := cell_of_row w3 (w.heap.size + 1) 7 _ _ _ HZ3.out
    have t7 := frozen_of_row w3 (w.heap.size + 1) 7 _ _ HZ3.out
    have z8 := cell_of_row w3 (w.heap.size + 1) 8 _ _ _ HZ3.out
    have t8 := frozen_of_row w3 (w.heap.size + 1) 8 _ _ HZ3.out
    have z9 := cell_of_row w3 (w.heap.size + 1) 9 _ _ _ HZ3.out
    have t9 := frozen_of_row w3 (w.heap.size + 1) 9 _ _ HZ3.out
    have z10 := cell_of_row w3 (w.heap.size + 1) 10 _ _ _ HZ3.out
    have t10 := frozen_of_row w3 (w.heap.size + 1) 10 _ _ HZ3.out
    simp at z0 z1 z2 z3 z4 z5 z6 z7 z8 z9 z10
    go_wp2
    obtain ⟨e1, e2⟩ := st_fill w3 (w.heap.size + 1) x (.slice oa3 x.out.length oc3) (.slice ia3 x.inn.length ic3) (.slice ba3 x.back.length bc3) HZ3.out
    refine bodyPost_ret (res_four rfl _ (w.heap.size + 1) rfl x _ _ _ e1) rfl ?_
    refine ⟨_, _, _, _, rfl, ?_⟩
    have g0 : GOut At w1 O (x, [], q2, s) (.slice oa3 x.out.length oc3) (.slice ia3 x.inn.length ic3) (.slice ba3 x.back.length bc3) (.slice none 0 0) w3 := ⟨O, ⟨⟨Sl.own H1.out, Sl.own H2.out, Sl.own H3.out, fun k e => ⟨(H1.out.lt k e).1, fun e2 => by have := HO.out k e2; have := HB1.out.size; have := (H1.out.lt k e).1; omega, (H1.out.lt k e).2⟩, fun k e => ⟨(H2.out.lt k e).1, fun e2 => by have := HO.out k e2; have := HB1.out.size; have := (H2.out.lt k e).1; omega, (H2.out.lt k e).2⟩, fun k e => ⟨(H3.out.lt k e).1, fun e2 => by have := HO.out k e2; have := HB1.out.size; have := (H3.out.lt k e).1; omega, (H3.out.lt k e).2⟩⟩, (hT s).keep HA.out (fun j e hj => (HB3.out.block j (by have := HB1.out.size; omega)).trans (HB1.out.block j hj)) (by have := HB1.out.size; have := HB3.out.size; omega), fun j e => by have := HO.out j e; have := HB1.out.size; have := HB3.out.size; omega, fun _ e => .inl e, Turned.of_below HB3.out⟩, World.ownsRow_nil _ _ _ _, fun k e => by simp [Value.ownBlock] at e⟩
    exact g0.fin hT HB1.out HO.out (e2.mono fun k e => (by have e : k = w.heap.size + 1 := e; have := HZs.out; omega : w.heap.size ≤ k ∧ k < w1.heap.size))
  case pos =>
    subst hr
    have hw0 := bwant_may (x := x) (hr := true) (size := size) (count := count) (by rw [← hq])
    obtain ⟨hs0, hc0, hp0, hp1, hp2⟩ := bytesV_ok (size := size) (count := count) (by rw [hw0.2, ← hq])
    have hq1 : q1 = size * count := by rw [hw0.2, ← hq] at hp0; exact hp0
    obtain ⟨N, hN⟩ : ∃ N : Nat, q1 = (N : Int) := ⟨q1.toNat, by omega⟩
    have hN2 : N ≤ 1048576 := by omega
    have hmay := (refuse_may hw0.1).1
    obtain ⟨Q, hQ⟩ : ∃ Q, Q = gat D (stopN N) (N + 1) x s [] := ⟨_, rfl⟩
    have hun : x.bread D s size count = (Q.1, Q.2.1, wholeV Q.2.1.length size, Q.2.2.1, Q.2.2.2) := by
      unfold SS.bread
      rw [← hq, if_neg (by simp), hQ]
      simp only [hN, Int.toNat_natCast]
    have hlen : Q.2.1.length ≤ N := by rw [hQ]; exact gat_len D N _ x s [] (Nat.zero_le _)
    rw [hun]
    rw [← hq] at HR1
    simp only at HR1
    rw [hN] at HR1
    have hsz : 0 < Q.2.1.length → size ≠ 0 := fun e e2 => by
      have h0 : size * count = 0 := by rw [e2, Int.zero_mul]
      omega
    obtain ⟨x', acc, E, s'⟩ := Q
    simp only at hlen hsz ⊢
    have HW := hide (fun W => bwhole_any acc.length size W hsz (by omega) hs0)
    have HVs := hide (And.intro hN2 (And.intro hmay hQ))
    clear hq hun hw0 hs0 hc0 hp0 hp1 hp2 hq1 hN2 hmay hQ hlen hsz
    generalize wholeV acc.length size = wv at *
    go_enter Tryz.func36, Tryz.ntmps36
    go_wp2_with fail
    generalize ((w.alloc (Obj.cells #[.bool x.rd, .bool x.wt, .int .i64 x.mode, .int .i64 x.size, .slice oa x.out.length oc, .slice ia x.inn.length ic, .slice ba x.back.length bc, .int .i64 x.dir, .bool x.fin, .bool x.bad, .bool x.closed] 58)).alloc (Obj.cells #[.bool false, .bool false, .int .i64 0, .int .i64 0, .slice none 0 0, .slice none 0 0, .slice none 0 0, .int .i64 0, .bool false, .bool false, .bool false] 58)) = w0 at *
    refine (HR1.out w0).mono ?_
    rintro _ w1 ⟨rfl, hB1⟩
    have HB1 := hide (HF.out.2.2.1.trans (hB1.mono HF.out.2.2.1.size))
    have HX1 : Hid (StAt w1 w.heap.size x (.slice oa x.out.length oc) (.slice ia x.inn.length ic) (.slice ba x.back.length bc)) := hide ((hB1.block _ (by have := HF.out.2.2.2; omega)).trans HF.out.1)
    have HZ1 : Hid (w1.heap[w.heap.size + 1]? = some (Obj.cells #[.bool false, .bool false, .int .i64 0, .int .i64 0, .slice none 0 0, .slice none 0 0, .slice none 0 0, .int .i64 0, .bool false, .bool false, .bool false] 58)) := hide ((hB1.block _ HF.out.2.2.2).trans HF.out.2.1)
    have HZs : Hid (w.heap.size + 1 < w1.heap.size) := hide (Nat.lt_of_lt_of_le HF.out.2.2.2 hB1.size)
    obtain ⟨c0, c1, c2, c3, c4, c5, c6, c7, c8, c9, c10⟩ := HX1.out.cs
    clear hB1 HF HR1
    have HGa := bget_any R hT hG (w := w1) (O := O) oa ia ba oc ic bc N (HIn.out.below HB1.out) ((hT s).keep HA.out (fun j _ hj => HB1.out.block j hj) HB1.out.size) (fun j e => Nat.lt_of_lt_of_le (HO.out j e) HB1.out.size) HVs.out.2.1 HVs.out.1 (bear_down hG (2097152 - 2 * N) (2 * N + 2) s (by rw [show 2097152 - 2 * N + (2 * N + 2) = 2097154 by have := HVs.out.1; omega]; exact HGs.out))
    rw [← HVs.out.2.2] at HGa
    simp only at HGa
    have HG1 := hide HGa
    clear HGa HVs
    go_wp2_with fail
    refine HG1.out.mono ?_
    rintro _ w2 ⟨o', i', b', u, rfl, hG2⟩
    obtain ⟨o2, oc2, rfl, -⟩ := hG2.choose_spec.1.1.so
    obtain ⟨i2, ic2, rfl, -⟩ := hG2.choose_spec.1.1.si
    obtain ⟨b2, bc2, rfl, -⟩ := hG2.choose_spec.1.1.sb
    obtain ⟨ua, uc, rfl⟩ := owns_slice hG2.choose_spec.2.1
    have hT2 : Turned O w1 w2 := by obtain ⟨_, ⟨_, _, _, _, t⟩, _⟩ := hG2; exact t
    have HG2 := hide hG2
    clear hG2 HG1
    have HX2 : StAt w2 w.heap.size x _ _ _ := (hT2.block _ HX1.out.lt (fun e => by have := HO.out _ e; omega)).trans HX1.out
    have HZ2 : Hid (w2.heap[w.heap.size + 1]? = some (Obj.cells #[.bool false, .bool false, .int .i64 0, .int .i64 0, .slice none 0 0, .slice none 0 0, .slice none 0 0, .int .i64 0, .bool false, .bool false, .bool false] 58)) := hide ((hT2.block _ HZs.out (fun e => by have := HO.out _ e; omega)).trans HZ1.out)
    obtain ⟨k1, k2⟩ := st_fill2 w2 w.heap.size x x' _ _ _ (.slice o2 x'.out.length oc2) (.slice i2 x'.inn.length ic2) (.slice b2 x'.back.length bc2) HX2
    have HF1 := hide k1
    have HF2 := hide k2
    clear c0 c1 c2 c3 c4 c5 c6 c7 c8 c9 c10
    obtain ⟨c0, c1, c2, c3, c4, c5, c6, c7, c8, c9, c10⟩ := HX2.cs
    have f0 := HX2.soft 0
    have f1 := HX2.soft 1
    have f2 := HX2.soft 2
    have f3 := HX2.soft 3
    have f4 := HX2.soft 4
    have f5 := HX2.soft 5
    have f6 := HX2.soft 6
    have f7 := HX2.soft 7
    have f8 := HX2.soft 8
    have f9 := HX2.soft 9
    have f10 := HX2.soft 10
    clear hT2 HX2 k1 k2
    unfold filled at HF1 HF2
    go_upto_region 5 with fail
    have HZ3 : Hid ((((((((((((w2.setCell ⟨w.heap.size, 0, none⟩ (.bool x'.rd)).setCell ⟨w.heap.size, 1, none⟩ (.bool x'.wt)).setCell ⟨w.heap.size, 2, none⟩ (.int .i64 x'.mode)).setCell ⟨w.heap.size, 3, none⟩ (.int .i64 x'.size)).setCell ⟨w.heap.size, 4, none⟩ (.slice o2 x'.out.length oc2)).setCell ⟨w.heap.size, 5, none⟩ (.slice i2 x'.inn.length ic2)).setCell ⟨w.heap.size, 6, none⟩ (.slice b2 x'.back.length bc2)).setCell ⟨w.heap.size, 7, none⟩ (.int .i64 x'.dir)).setCell ⟨w.heap.size, 8, none⟩ (.bool x'.fin)).setCell ⟨w.heap.size, 9, none⟩ (.bool x'.bad)).setCell ⟨w.heap.size, 10, none⟩ (.bool x'.closed)).heap[w.heap.size + 1]? = some (Obj.cells #[.bool false, .bool false, .int .i64 0, .int .i64 0, .slice none 0 0, .slice none 0 0, .slice none 0 0, .int .i64 0, .bool false, .bool false, .bool false] 58)) := hide ((HF2.out.block _ (Array.getElem?_eq_some_iff.1 HZ2.out).1 (by omega)).trans HZ2.out)
    generalize (((((((((((w2.setCell ⟨w.heap.size, 0, none⟩ (.bool x'.rd)).setCell ⟨w.heap.size, 1, none⟩ (.bool x'.wt)).setCell ⟨w.heap.size, 2, none⟩ (.int .i64 x'.mode)).setCell ⟨w.heap.size, 3, none⟩ (.int .i64 x'.size)).setCell ⟨w.heap.size, 4, none⟩ (.slice o2 x'.out.length oc2)).setCell ⟨w.heap.size, 5, none⟩ (.slice i2 x'.inn.length ic2)).setCell ⟨w.heap.size, 6, none⟩ (.slice b2 x'.back.length bc2)).setCell ⟨w.heap.size, 7, none⟩ (.int .i64 x'.dir)).setCell ⟨w.heap.size, 8, none⟩ (.bool x'.fin)).setCell ⟨w.heap.size, 9, none⟩ (.bool x'.bad)).setCell ⟨w.heap.size, 10, none⟩ (.bool x'.closed)) = w3 at *
    clear c0 c1 c2 c3 c4 c5 c6 c7 c8 c9 c10 f0 f1 f2 f3 f4 f5 f6 f7 f8 f9 f10
    have HSd : Hid (StAt w3.drew w.heap.size x' (.slice o2 x'.out.length oc2) (.slice i2 x'.inn.length ic2) (.slice b2 x'.back.length bc2)) := hide HF1.out
    obtain ⟨k1, k2⟩ := st_fill w3.drew (w.heap.size + 1) x' (.slice o2 x'.out.length oc2) (.slice i2 x'.inn.length ic2) (.slice b2 x'.back.length bc2) HZ3.out
    have HK1 := hide k1
    have HK2 := hide k2
    have HSf := hide (HSd.out.turned k2 (by omega))
    clear k1 k2 HX1 HZ1 HZ2 HF1
    unfold filled at HK1 HK2 HSf
    have HZd : Hid (w3.drew.heap[w.heap.size + 1]? = some (Obj.cells #[.bool false, .bool false, .int .i64 0, .int .i64 0, .slice none 0 0, .slice none 0 0, .slice none 0 0, .int .i64 0, .bool false, .bool false, .bool false] 58)) := hide HZ3.out
    have HFin : Hid (∀ w4, Turned (fun k => k = w.heap.size + 1) w3.drew w4 → GOut At w O (x', acc, E, s') (.slice o2 x'.out.length oc2) (.slice i2 x'.inn.length ic2) (.slice b2 x'.back.length bc2) (.slice ua acc.length uc) w4) := hide (fun w4 t => by
      have hz := HZs.out
      exact GOut.fin (R := (x', acc, E, s')) hT HG2.out HB1.out HO.out ((HF2.out.mono fun k e => (by have e : k = w.heap.size := e; omega : w.heap.size ≤ k ∧ k < w1.heap.size)).trans ((Turned.of_below (S := fun k => w.heap.size ≤ k ∧ k < w1.heap.size) (Below.refl _ w3).drew).trans (t.mono fun k e => (by have e : k = w.heap.size + 1 := e; omega : w.heap.size ≤ k ∧ k < w1.heap.size)) (fun _ _ e => e)) (fun _ _ e => e)))
    refine wp_region_noPanic ?_
    refine wp_region_held_drew (S := fun W => StAt W w.heap.size x' (.slice o2 x'.out.length oc2) (.slice i2 x'.inn.length ic2) (.slice b2 x'.back.length bc2)) (by kernel_rfl) (HSd.out) (fun hHeld => ?_)
    refine wpAnyH_take (i := 0) (oi := ?_) (v := ?_) ?_ (by kernel_rfl) (by kernel_rfl) (by kernel_rfl) (fun _ _ _ h => (h : False).elim) (Or.inl ⟨?_, ?_⟩) hHeld ?_
    rotate_left 2
    · (simp only [List.getElem?_toArray, List.getElem?_cons_zero]; rfl)
    · rfl
    · (intro W hSw; obtain ⟨m0, m1, m2, m3, m4, m5, m6, m7, m8, m9, m10⟩ := StAt.cs hSw; go_simp <;> with_reducible rfl)
    try simp only [Act.put, List.setIfInBounds_toArray, List.set_cons_zero, List.set_cons_succ]
    refine wpAnyH_take (i := 1) (oi := ?_) (v := ?_) ?_ (by kernel_rfl) (by kernel_rfl) (by kernel_rfl) (fun _ _ _ h => (h : False).elim) (Or.inl ⟨?_, ?_⟩) hHeld ?_
    rotate_left 2
    · (simp only [List.getElem?_toArray, List.getElem?_cons_zero, List.getElem?_cons_succ]; rfl)
    · rfl
    · (intro W hSw; obtain ⟨m0, m1, m2, m3, m4, m5, m6, m7, m8, m9, m10⟩ := StAt.cs hSw; go_simp <;> with_reducible rfl)
    try simp only [Act.put, List.setIfInBounds_toArray, List.set_cons_zero, List.set_cons_succ]
    refine wpAnyH_take (i := 2) (oi := ?_) (v := ?_) ?_ (by kernel_rfl) (by kernel_rfl) (by kernel_rfl) (fun _ _ _ h => (h : False).elim) (Or.inl ⟨?_, ?_⟩) hHeld ?_
    rotate_left 2
    · (simp only [List.getElem?_toArray, List.getElem?_cons_zero, List.getElem?_cons_succ]; rfl)
    · rfl
    · (intro W hSw; obtain ⟨m0, m1, m2, m3, m4, m5, m6, m7, m8, m9, m10⟩ := StAt.cs hSw; go_simp <;> with_reducible rfl)
    try simp only [Act.put, List.setIfInBounds_toArray, List.set_cons_zero, List.set_cons_succ]
    refine wpAnyH_take (i := 3) (oi := ?_) (v := ?_) ?_ (by kernel_rfl) (by kernel_rfl) (by kernel_rfl) (fun _ _ _ h => (h : False).elim) (Or.inl ⟨?_, ?_⟩) hHeld ?_
    rotate_left 2
    · (simp only [List.getElem?_toArray, List.getElem?_cons_zero, List.getElem?_cons_succ]; rfl)
    · rfl
    · (intro W hSw; obtain ⟨m0, m1, m2, m3, m4, m5, m6, m7, m8, m9, m10⟩ := StAt.cs hSw; go_simp <;> with_reducible rfl)
    try simp only [Act.put, List.setIfInBounds_toArray, List.set_cons_zero, List.set_cons_succ]
    refine wpAnyH_take (i := 4) (oi := ?_) (v := ?_) ?_ (by kernel_rfl) (by kernel_rfl) (by kernel_rfl) (fun _ _ _ h => (h : False).elim) (Or.inl ⟨?_, ?_⟩) hHeld ?_
    rotate_left 2
    · (simp only [List.getElem?_toArray, List.getElem?_cons_zero, List.getElem?_cons_succ]; rfl)
    · rfl
    · (intro W hSw; obtain ⟨m0, m1, m2, m3, m4, m5, m6, m7, m8, m9, m10⟩ := StAt.cs hSw; go_simp <;> with_reducible rfl)
    try simp only [Act.put, List.setIfInBounds_toArray, List.set_cons_zero, List.set_cons_succ]
    refine wpAnyH_take (i := 6) (oi := ?_) (v := ?_) ?_ (by kernel_rfl) (by kernel_rfl) (by kernel_rfl) (fun _ _ _ h => (h : False).elim) (Or.inl ⟨?_, ?_⟩) hHeld ?_
    rotate_left 2
    · (simp only [List.getElem?_toArray, List.getElem?_cons_zero, List.getElem?_cons_succ]; rfl)
    · rfl
    · (intro W hSw; obtain ⟨m0, m1, m2, m3, m4, m5, m6, m7, m8, m9, m10⟩ := StAt.cs hSw; go_simp <;> with_reducible rfl)
    try simp only [Act.put, List.setIfInBounds_toArray, List.set_cons_zero, List.set_cons_succ]
    refine wpAnyH_ready (rs := [5]) (by kernel_rfl) (by simp) ?_
    refine AllReadyH.cons (o := ?_) ?_ (fun K' hK => ?_) AllReadyH.nil
    rotate_left 1
    · (simp only [List.getElem?_toArray, List.getElem?_cons_zero, List.getElem?_cons_succ]; rfl)
    go_simp
    go_at_call 130
    refine (HW.out _).mono ?_
    rintro _ _ ⟨rfl, rfl⟩
    refine hK.out _ _ (HSd.out) (fun hHeld2 => ?_)
    clear hK K' hHeld
    have hHeld := hHeld2
    clear hHeld2
    try simp only [Act.put, List.setIfInBounds_toArray, List.set_cons_zero, List.set_cons_succ]
    generalize w3.drew = w3d at *
    have z0 := cell_of_row w3d (w.heap.size + 1) 0 _ _ _ HZd.out
    have t0 := frozen_of_row w3d (w.heap.size + 1) 0 _ _ HZd.out
    have z1 := cell_of_row w3d (w.heap.size + 1) 1 _ _ _ HZd.out
    have t1 := frozen_of_row w3d (w.heap.size + 1) 1 _ _ HZd.out
    have z2 := cell_of_row w3d (w.heap.size + 1) 2 _ _ _ HZd.out
    have t2 := frozen_of_row w3d (w.heap.size + 1) 2 _ _ HZd.out
    have z3 := cell_of_row w3d (w.heap.size + 1) 3 _ _ _ HZd.out
    have t3 := frozen_of_row w3d (w.heap.size + 1) 3 _ _ HZd.out
    have z4 := cell_of_row w3d (w.heap.size + 1) 4 _ _ _ HZd.out
    have t4 := frozen_of_row w3d (w.heap.size + 1) 4 _ _ HZd.out
    have z5 := cell_of_row w3d (w.heap.size + 1) 5 _ _ _ HZd.out
    have t5 := frozen_of_row w3d (w.heap.size + 1) 5 _ _ HZd.out
    have z6 := cell_of_row w3d (w.heap.size + 1) 6 _ _ _ HZd.out
    have t6 := frozen_of_row w3d (w.heap.size + 1) 6 _ _ HZd.out
    have z7 := cell_of_row w3d (w.heap.size + 1) 7 _ _ _ HZd.out
    have t7 := frozen_of_row w3d (w.heap.size + 1) 7 _ _ HZd.out
    have z8 := cell_of_row w3d (w.heap.size + 1) 8 _ _ _ HZd.out
    have t8 := frozen_of_row w3d (w.heap.size + 1) 8 _ _ HZd.out
    have z9 := cell_of_row w3d (w.heap.size + 1) 9 _ _ _ HZd.out
    have t9 := frozen_of_row w3d (w.heap.size + 1) 9 _ _ HZd.out
    have z10 := cell_of_row w3d (w.heap.size + 1) 10 _ _ _ HZd.out
    have t10 := frozen_of_row w3d (w.heap.size + 1) 10 _ _ HZd.out
    simp at z0 z1 z2 z3 z4 z5 z6 z7 z8 z9 z10
    refine wpAnyH_ready (rs := [7]) (by kernel_rfl) (by simp) ?_
    refine AllReadyH.cons (o := ?_) ?_ (fun K' hK => ?_) AllReadyH.nil
    rotate_left 1
    · (simp only [List.getElem?_toArray, List.getElem?_cons_zero, List.getElem?_cons_succ]; rfl)
    go_simp
    refine hK.out _ _ (HSf.out) (fun hHeld2 => ?_)
    clear hK K' hHeld
    have hHeld := hHeld2
    clear hHeld2
    try simp only [Act.put, List.setIfInBounds_toArray, List.set_cons_zero, List.set_cons_succ]
    refine wpAnyH_take (i := 8) (oi := ?_) (v := ?_) ?_ (by kernel_rfl) (by kernel_rfl) (by kernel_rfl) (fun _ _ _ h => (h : False).elim) (Or.inl ⟨?_, ?_⟩) hHeld ?_
    rotate_left 2
    · (simp only [List.getElem?_toArray, List.getElem?_cons_zero, List.getElem?_cons_succ]; rfl)
    · rfl
    · (intro W hSw; obtain ⟨m0, m1, m2, m3, m4, m5, m6, m7, m8, m9, m10⟩ := StAt.cs hSw; go_simp <;> with_reducible rfl)
    try simp only [Act.put, List.setIfInBounds_toArray, List.set_cons_zero, List.set_cons_succ]
    refine wpAnyH_take (i := 9) (oi := ?_) (v := ?_) ?_ (by kernel_rfl) (by kernel_rfl) (by kernel_rfl) (fun _ _ _ h => (h : False).elim) (Or.inl ⟨?_, ?_⟩) hHeld ?_
    rotate_left 2
    · (simp only [List.getElem?_toArray, List.getElem?_cons_zero, List.getElem?_cons_succ]; rfl)
    · rfl
    · (intro W hSw; obtain ⟨m0, m1, m2, m3, m4, m5, m6, m7, m8, m9, m10⟩ := StAt.cs hSw; go_simp <;> with_reducible rfl)
    try simp only [Act.put, List.setIfInBounds_toArray, List.set_cons_zero, List.set_cons_succ]
    refine wpAnyH_take (i := 10) (oi := ?_) (v := ?_) ?_ (by kernel_rfl) (by kernel_rfl) (by kernel_rfl) (fun _ _ _ h => (h : False).elim) (Or.inl ⟨?_, ?_⟩) hHeld ?_
    rotate_left 2
    · (simp only [List.getElem?_toArray, List.getElem?_cons_zero, List.getElem?_cons_succ]; rfl)
    · rfl
    · (intro W hSw; obtain ⟨m0, m1, m2, m3, m4, m5, m6, m7, m8, m9, m10⟩ := StAt.cs hSw; go_simp <;> with_reducible rfl)
    try simp only [Act.put, List.setIfInBounds_toArray, List.set_cons_zero, List.set_cons_succ]
    refine wpAnyH_done (by kernel_rfl) ?_ _
    refine NoPanic.normal ?_
    clear hHeld
    go_wp2
    refine bodyPost_ret (res_four rfl _ (w.heap.size + 1) rfl x' _ _ _ HK1.out) rfl ?_
    exact ⟨_, _, _, _, rfl, HFin.out _ HK2.out⟩
end Go.Proofs.YtmlfcbbgelkbbaaGreat

/- Lines over a memory that is read: values, and the memory as a Raw. -/
namespace Go.Proofs.YtmlfcbbgelkbbaaGreat
open Go.RowKit

def rdRm : RawD MS := ⟨fun S n => S.read n, fun S _ => (0, 65, S)⟩
theorem rdr_rawP (g : Nat) : RawP rdRm 167 (.pointer (some ⟨g, 0, none⟩)) 324 326 (fun _ => True) (fun _ => True) (fun w O S => MemAt w O g S) where
  mread w := by kernel_rfl
  mwrite w := by kernel_rfl
  cread a w := by kernel_rfl
  cwrite a w := by kernel_rfl
  keep h hk _ := h.keep hk
  few {w O s} n h := by
    have := h.ok
    show (s.read n).1.length ≤ _
    unfold MS.read
    split
    · have := piece_le s.l s.pl (n : Int).toNat
      simp only
      omega
    · simp
  read n h _ _ _ := (rmread_any _ g _ n _ h).mono fun _ _ e => view_own e
  write bs a c h _ hb hc _ _ hap := (rmwrite_any _ g _ _ _ h).mono fun _ w' e => ⟨e.1, _, e.2 ▸ h, fun _ e => .inl e, e.2 ▸ Turned.refl _ _⟩
theorem rdr_raw (g : Nat) : RawM rdRm 167 (.pointer (some ⟨g, 0, none⟩)) 324 326 (fun _ => True) (fun _ => True) (fun w O S => MemAt w O g S) := (rdr_rawP g).gen
end Go.Proofs.YtmlfcbbgelkbbaaGreat

/- Lines: the law's num, alive. -/
namespace Go.Proofs.YtmlfcbbgelkbbaaGreat
open Go.RowKit

theorem lit_bys15 (w : World) (l : List UInt8) (cs : Array Value) (n : Nat) (fr : Nat × Nat) (hn : n = l.length) (hcs : cs.toList = l.map bv) : Bys (w.alloc (Obj.cells cs 5 fr)) (.slice (some ⟨w.heap.size, 0, none⟩) n n) l := by
  subst hn
  by_cases h0 : l.length = 0
  · exact .inr (.inl ⟨_, _, by rw [h0], List.length_eq_zero_iff.1 h0⟩)
  · refine .inr (.inr ⟨w.heap.size, 0, l.length, rfl, by omega, fun j hj => ?_⟩)
    rw [cell_of_row _ w.heap.size _ cs _ fr (heap_alloc_new w _)]
    have h1 : cs.toList[0 + j]? = (l.map bv)[j]? := by rw [hcs, Nat.zero_add]
    rw [Array.getElem?_toList] at h1
    rw [h1]
    simp [List.getD_eq_getElem?_getD, List.getElem?_eq_getElem hj, bv]
theorem conv_lit15 (w : World) (C : Array Value) (n m : Nat) (hm : C.size = m) : (convert 40 40 (.slice (some ⟨w.heap.size, 0, none⟩) n n)).run Tryz.prog (w.alloc (.cells C 5)) = .ok (.slice (some ⟨w.heap.size, 0, none⟩) n n) (w.alloc (.cells C 5 (m, m + 1))) := by
  subst hm
  exact Lib.run_convert_bytes_const w 40 5 C n n Tryz.underlying40 Tryz.underlying5
end Go.Proofs.YtmlfcbbgelkbbaaGreat

/- LinesJoin: the walk. -/
namespace Go.Proofs.YtmlfcbbgelkbbaaGreat
open Go.RowKit

end Go.Proofs.YtmlfcbbgelkbbaaGreat

/- LinesGrow: the walk. -/
namespace Go.Proofs.YtmlfcbbgelkbbaaGreat
open Go.RowKit

end Go.Proofs.YtmlfcbbgelkbbaaGreat

/- Blocks: what Read tells over a memory that is read. -/
namespace Go.Proofs.YtmlfcbbgelkbbaaGreat
open Go.RowKit

end Go.Proofs.YtmlfcbbgelkbbaaGreat

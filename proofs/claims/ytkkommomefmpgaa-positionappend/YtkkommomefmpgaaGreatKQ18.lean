/- What the proof stands on, part 18: the contracts of the program's calls that it reaches. -/
import Derived.Test.YtkkommomefmpgaaGreatKQ17
import Derived.Deep.Cut
import Derived.Deep.RegionLaw
/- Position: what was put is delivered, the way stays. -/
namespace Go.Proofs.YtkkommomefmpgaaGreat
open Go.RowKit

set_option maxRecDepth 100000 in
set_option maxHeartbeats 4000000 in
theorem delivered_any {S : Type} {D : RawD S} {T : TypeId} {v : Value} {fr fw : FuncId} {rok wok : S → Prop} {At : World → (Nat → Prop) → S → Prop} (R : RawM D T v fr fw rok wok At) (hT : ∀ s, OAt (fun w O => At w O s)) {G : Nat → S → Prop} (hG : Bears D rok wok G) {w : World} {O P : Nat → Prop} {s : S} {x : SS} {o i b : Value} (h : SIn w P x o i b) (hA : At w O s) (hO : ∀ j, O j → j < w.heap.size) (hg : G 2 s) (ho : x.out.length ≤ 140737488351232) (hi : x.inn.length ≤ 140737488351232) (hb : x.back.length ≤ 140737488351232) (hr : x.refuse true = 0) :
    Calls Tryz.prog 109 #[.agg #[.bool x.rd, .bool x.wt, .int .i64 x.mode, .int .i64 x.size, o, i, b, .int .i64 x.dir, .bool x.fin, .bool x.bad, .bool x.closed], .iface T v] w fun e w' => ∃ o' i' b', e = .returned (.tuple #[.agg #[.bool (x.deliver D s).1.rd, .bool (x.deliver D s).1.wt, .int .i64 (x.deliver D s).1.mode, .int .i64 (x.deliver D s).1.size, o', i', b', .int .i64 (x.deliver D s).1.dir, .bool (x.deliver D s).1.fin, .bool (x.deliver D s).1.bad, .bool (x.deliver D s).1.closed], .int .i64 (x.deliver D s).2.1]) ∧ SOut At w O (x.deliver D s).1 (x.deliver D s).2.2 o' i' b' w' := by
  have HFl := hide (fun (W : World) (hW : Below w.heap.size w W) => sFlush_any R hT hG (h.below hW) ((hT s).keep hA (fun j _ hj => hW.block j hj) hW.size) (fun j e => Nat.lt_of_lt_of_le (hO j e) hW.size) hg ho hi hb)
  have HD := hide (flush_deliver D s hr)
  clear hr
  obtain ⟨oa, oc, rfl, -⟩ := h.so
  obtain ⟨ia, ic, rfl, -⟩ := h.si
  obtain ⟨ba, bc, rfl, -⟩ := h.sb
  clear h
  generalize x.deliver D s = q at *
  obtain ⟨qx, qe, qs⟩ := q
  go_enter Tryz.func109, Tryz.ntmps109
  go_wp2_with fail
  have HB0 := hide ((recv_below w (Obj.cells #[.bool x.rd, .bool x.wt, .int .i64 x.mode, .int .i64 x.size, .slice oa x.out.length oc, .slice ia x.inn.length ic, .slice ba x.back.length bc, .int .i64 x.dir, .bool x.fin, .bool x.bad, .bool x.closed] 58)).trans ((recv_below (w.alloc (Obj.cells #[.bool x.rd, .bool x.wt, .int .i64 x.mode, .int .i64 x.size, .slice oa x.out.length oc, .slice ia x.inn.length ic, .slice ba x.back.length bc, .int .i64 x.dir, .bool x.fin, .bool x.bad, .bool x.closed] 58)) (Obj.cells #[.bool false, .bool false, .int .i64 0, .int .i64 0, .slice none 0 0, .slice none 0 0, .slice none 0 0, .int .i64 0, .bool false, .bool false, .bool false] 58)).mono (recv_below w (Obj.cells #[.bool x.rd, .bool x.wt, .int .i64 x.mode, .int .i64 x.size, .slice oa x.out.length oc, .slice ia x.inn.length ic, .slice ba x.back.length bc, .int .i64 x.dir, .bool x.fin, .bool x.bad, .bool x.closed] 58)).size))
  have HS0 := hide ((StAt.new w x (.slice oa x.out.length oc) (.slice ia x.inn.length ic) (.slice ba x.back.length bc)).below (recv_below _ (Obj.cells #[.bool false, .bool false, .int .i64 0, .int .i64 0, .slice none 0 0, .slice none 0 0, .slice none 0 0, .int .i64 0, .bool false, .bool false, .bool false] 58)))
  have HZ0 : Hid (((w.alloc (Obj.cells #[.bool x.rd, .bool x.wt, .int .i64 x.mode, .int .i64 x.size, .slice oa x.out.length oc, .slice ia x.inn.length ic, .slice ba x.back.length bc, .int .i64 x.dir, .bool x.fin, .bool x.bad, .bool x.closed] 58)).alloc (Obj.cells #[.bool false, .bool false, .int .i64 0, .int .i64 0, .slice none 0 0, .slice none 0 0, .slice none 0 0, .int .i64 0, .bool false, .bool false, .bool false] 58)).heap[w.heap.size + 1]? = some (Obj.cells #[.bool false, .bool false, .int .i64 0, .int .i64 0, .slice none 0 0, .slice none 0 0, .slice none 0 0, .int .i64 0, .bool false, .bool false, .bool false] 58)) := hide (by have := heap_alloc_new (w.alloc (Obj.cells #[.bool x.rd, .bool x.wt, .int .i64 x.mode, .int .i64 x.size, .slice oa x.out.length oc, .slice ia x.inn.length ic, .slice ba x.back.length bc, .int .i64 x.dir, .bool x.fin, .bool x.bad, .bool x.closed] 58)) (Obj.cells #[.bool false, .bool false, .int .i64 0, .int .i64 0, .slice none 0 0, .slice none 0 0, .slice none 0 0, .int .i64 0, .bool false, .bool false, .bool false] 58); rw [show (w.alloc (Obj.cells #[.bool x.rd, .bool x.wt, .int .i64 x.mode, .int .i64 x.size, .slice oa x.out.length oc, .slice ia x.inn.length ic, .slice ba x.back.length bc, .int .i64 x.dir, .bool x.fin, .bool x.bad, .bool x.closed] 58)).heap.size = w.heap.size + 1 from Array.size_push ..] at this; exact this)
  generalize (w.alloc (Obj.cells #[.bool x.rd, .bool x.wt, .int .i64 x.mode, .int .i64 x.size, .slice oa x.out.length oc, .slice ia x.inn.length ic, .slice ba x.back.length bc, .int .i64 x.dir, .bool x.fin, .bool x.bad, .bool x.closed] 58)).alloc (Obj.cells #[.bool false, .bool false, .int .i64 0, .int .i64 0, .slice none 0 0, .slice none 0 0, .slice none 0 0, .int .i64 0, .bool false, .bool false, .bool false] 58) = w0 at *
  have hz0 : w.heap.size + 1 < w0.heap.size := (Array.getElem?_eq_some_iff.1 HZ0.out).1
  have hp := HFl.out _ HB0.out
  clear HFl
  generalize x.flush D s = X at *
  obtain ⟨fx, fe, fs⟩ := X
  simp only at hp HD
  have HP := hide hp
  clear hp
  refine HP.out.mono ?_
  rintro _ w2 ⟨o1, i1, b1, rfl, hS⟩
  obtain ⟨a1, k1, rfl, -⟩ := hS.choose_spec.1.so
  obtain ⟨a2, k2, rfl, -⟩ := hS.choose_spec.1.si
  obtain ⟨a3, k3, rfl, -⟩ := hS.choose_spec.1.sb
  have hTu : Turned O w0 w2 := by obtain ⟨_, _, _, _, _, t⟩ := hS; exact t
  have hS2 : StAt w2 w.heap.size x (.slice oa x.out.length oc) (.slice ia x.inn.length ic) (.slice ba x.back.length bc) := (hTu.block _ (by omega) (fun e => by have := hO _ e; omega)).trans HS0.out
  have HS3 := hide (hS2.below (recv_below w2 (Obj.cells #[.bool fx.rd, .bool fx.wt, .int .i64 fx.mode, .int .i64 fx.size, .slice a1 fx.out.length k1, .slice a2 fx.inn.length k2, .slice a3 fx.back.length k3, .int .i64 fx.dir, .bool fx.fin, .bool fx.bad, .bool fx.closed] 58)))
  obtain ⟨O3, hV3⟩ := QV.of_new hT HB0.out HZ0.out (Nat.le_succ _) hO hS
  have HV3 := hide hV3
  clear hV3 hS hTu hS2 HS0 HZ0 HP
  go_upto_region 2 with fail
  generalize w2.alloc (Obj.cells #[.bool fx.rd, .bool fx.wt, .int .i64 fx.mode, .int .i64 fx.size, .slice a1 fx.out.length k1, .slice a2 fx.inn.length k2, .slice a3 fx.back.length k3, .int .i64 fx.dir, .bool fx.fin, .bool fx.bad, .bool fx.closed] 58) = w3 at *
  generalize w2.heap.size = g2 at *
  obtain ⟨rfl, rfl⟩ : fe = qe ∧ fs = qs := by have := HD.out; simp only [Prod.mk.injEq] at this; exact ⟨this.2.1, this.2.2⟩
  have HX : Hid (SS.mk fx.rd fx.wt fx.mode fx.size fx.out fx.inn fx.back x.dir fx.fin fx.bad fx.closed = qx) := hide (by have := HD.out; simp only [Prod.mk.injEq] at this; exact this.1)
  clear HD
  have HV4 := hide (HV3.out.set hT (SS.mk fx.rd fx.wt fx.mode fx.size fx.out fx.inn fx.back x.dir fx.fin fx.bad fx.closed) _ _ _ 7 (.int .i64 x.dir) rfl ⟨HV3.out.ls.so, HV3.out.ls.si, HV3.out.ls.sb, HV3.out.ls.po, HV3.out.ls.pi, HV3.out.ls.pb⟩)
  have s7 := HV3.out.st.soft 7
  have c7 := HS3.out.cs.2.2.2.2.2.2.2.1
  have d7 := HV3.out.st.cs.2.2.2.2.2.2.2.1
  clear HV3 HS3
  go_upto_region 3 with fail
  clear s7 c7 d7
  generalize w3.setCell ⟨g2, 7, none⟩ (.int .i64 x.dir) = w4 at *
  obtain ⟨e1, e2⟩ := HV4.out.out hT
  unfold filled at e1 e2
  have HE := hide e1
  have HF := hide e2
  have HZr := hide HV4.out.zr
  obtain ⟨c0, c1, c2, c3, c4, c5, c6, c7, c8, c9, c10⟩ := HV4.out.st.cs
  have f0 := frozen_of_row w4 (w.heap.size + 1) 0 _ _ HZr.out
  have f1 := frozen_of_row w4 (w.heap.size + 1) 1 _ _ HZr.out
  have f2 := frozen_of_row w4 (w.heap.size + 1) 2 _ _ HZr.out
  have f3 := frozen_of_row w4 (w.heap.size + 1) 3 _ _ HZr.out
  have f4 := frozen_of_row w4 (w.heap.size + 1) 4 _ _ HZr.out
  have f5 := frozen_of_row w4 (w.heap.size + 1) 5 _ _ HZr.out
  have f6 := frozen_of_row w4 (w.heap.size + 1) 6 _ _ HZr.out
  have f7 := frozen_of_row w4 (w.heap.size + 1) 7 _ _ HZr.out
  have f8 := frozen_of_row w4 (w.heap.size + 1) 8 _ _ HZr.out
  have f9 := frozen_of_row w4 (w.heap.size + 1) 9 _ _ HZr.out
  have f10 := frozen_of_row w4 (w.heap.size + 1) 10 _ _ HZr.out
  have d0 := cell_of_row w4 (w.heap.size + 1) 0 _ _ _ HZr.out
  have d1 := cell_of_row w4 (w.heap.size + 1) 1 _ _ _ HZr.out
  have d2 := cell_of_row w4 (w.heap.size + 1) 2 _ _ _ HZr.out
  have d3 := cell_of_row w4 (w.heap.size + 1) 3 _ _ _ HZr.out
  have d4 := cell_of_row w4 (w.heap.size + 1) 4 _ _ _ HZr.out
  have d5 := cell_of_row w4 (w.heap.size + 1) 5 _ _ _ HZr.out
  have d6 := cell_of_row w4 (w.heap.size + 1) 6 _ _ _ HZr.out
  have d7 := cell_of_row w4 (w.heap.size + 1) 7 _ _ _ HZr.out
  have d8 := cell_of_row w4 (w.heap.size + 1) 8 _ _ _ HZr.out
  have d9 := cell_of_row w4 (w.heap.size + 1) 9 _ _ _ HZr.out
  have d10 := cell_of_row w4 (w.heap.size + 1) 10 _ _ _ HZr.out
  simp at d0 d1 d2 d3 d4 d5 d6 d7 d8 d9 d10
  clear e1 e2
  go_wp2
  refine bodyPost_ret (res_two rfl _ (w.heap.size + 1) rfl _ _ _ _ HE.out) rfl ?_
  obtain rfl := HX.out
  exact ⟨_, _, _, rfl, HF.out⟩
end Go.Proofs.YtkkommomefmpgaaGreat

/- Position: a Raw's place is set. -/
namespace Go.Proofs.YtkkommomefmpgaaGreat
open Go.RowKit

set_option maxRecDepth 100000 in
set_option maxHeartbeats 4000000 in
theorem moved_any {S : Type} {K : SkV S} {T : TypeId} {v : Value} {fs : FuncId} {sok : S → Prop} {At : World → (Nat → Prop) → S → Prop} (Q : RawS K T v fs sok At) {G : Nat → S → Prop} (hK : BearsS K sok G) {w : World} {O : Nat → Prop} {s : S} (n off wh : Int) (hA : At w O s) (hg : G 2 s) (hn : 0 ≤ n ∧ n ≤ 1000000000000000) (ho : -9223372036854775808 ≤ off ∧ off ≤ 9223372036854775807) :
    Calls Tryz.prog 110 #[.iface T v, .int .i64 n, .int .i64 off, .int .i64 wh] w fun e w' => e = .returned (.tuple #[.int .i64 (movedV K s n off wh).1, .int .i64 (movedV K s n off wh).2.1]) ∧ OStep (fun w O => At w O (movedV K s n off wh).2.2) w O w' := by
  have hm := Q.mseek
  have hc := Q.cseek
  obtain ⟨q, hq⟩ : ∃ q, q = movedV K s n off wh := ⟨_, rfl⟩
  rw [← hq]
  obtain ⟨qp, qe, qs⟩ := q
  unfold movedV at hq
  by_cases hw : wh = 1
  case neg =>
    rw [if_pos hw] at hq
    have HS := hide (Q.seek off wh hA (hK 1 s off wh hg).1 ho)
    rw [← hq] at HS
    simp only at HS
    have hb : (wh != 1) = true := by simp [hw]
    have hb2 : (wh == 1) = false := by simp [hw]
    clear hw hq ho hn
    go_enter Tryz.func110, Tryz.ntmps110
    go_wp2_with fail
    refine HS.out.mono ?_
    rintro _ w1 ⟨rfl, hS1⟩
    have HS1 := hide hS1
    clear hS1
    go_wp2
    go_ret2
    exact ⟨rfl, HS1.out⟩
  subst hw
  rw [if_neg (by simp)] at hq
  have HS := hide (Q.seek 0 1 hA (hK 1 s 0 1 hg).1 (by omega))
  have hpt := Q.told 0 1 hA
  have HG1 := hide (hK 1 s 0 1 hg).2
  obtain ⟨p1, f1, s1, h1⟩ : ∃ p1 f1 s1, K s 0 1 = (p1, f1, s1) := ⟨_, _, _, rfl⟩
  rw [h1] at HS HG1 hq hpt
  simp only at HS HG1 hq hpt
  clear h1
  by_cases hf : f1 = 0
  case neg =>
    rw [if_pos hf] at hq
    obtain ⟨rfl, rfl, rfl⟩ : qp = 0 ∧ qe = f1 ∧ qs = s1 := by simpa using hq
    have hb : (qe != 0) = true := by simp [hf]
    have hb2 : (qe == 0) = false := by simp [hf]
    clear hf hq ho hn hpt
    go_enter Tryz.func110, Tryz.ntmps110
    go_wp2_with fail
    refine HS.out.mono ?_
    rintro _ w1 ⟨rfl, hS1⟩
    have HS1 := hide hS1
    clear hS1
    go_wp2
    go_ret2
    exact ⟨rfl, HS1.out⟩
  subst hf
  rw [if_neg (by simp)] at hq
  have HP := hide (fun W => placeOf_any p1 n off W hpt hn ho)
  unfold placeV at HP
  by_cases hin : 0 ≤ p1 - n + off ∧ p1 - n + off ≤ 1048576
  case neg =>
    rw [if_neg hin] at hq HP
    obtain ⟨rfl, rfl, rfl⟩ : qp = 0 ∧ qe = 4 ∧ qs = s1 := by simpa using hq
    simp only at HP
    clear hin hq ho hn hpt
    go_enter Tryz.func110, Tryz.ntmps110
    go_wp2_with fail
    refine HS.out.mono ?_
    rintro _ w1 ⟨rfl, hS1⟩
    have HS1 := hide hS1
    clear hS1
    go_wp2_with fail
    refine (HP.out _).mono ?_
    rintro _ _ ⟨rfl, rfl⟩
    go_wp2
    go_ret2
    exact ⟨rfl, HS1.out⟩
  rw [if_pos hin] at hq HP
  simp only at HP
  have HS2 := hide (fun (W : World) (O' : Nat → Prop) (hA' : At W O' s1) => Q.seek (p1 - n + off) 0 hA' (hK 0 s1 (p1 - n + off) 0 HG1.out).1 (by omega))
  rw [← hq] at HS2
  simp only at HS2
  generalize p1 - n + off = t at *
  clear hin hq ho hn hpt
  go_enter Tryz.func110, Tryz.ntmps110
  go_wp2_with fail
  refine HS.out.mono ?_
  rintro _ w1 ⟨rfl, O1, hA1, hO1, hT1⟩
  have HA1 := hide hA1
  have HO1 := hide hO1
  have HT1 := hide hT1
  clear hA1 hO1 hT1
  go_wp2_with fail
  refine (HP.out _).mono ?_
  rintro _ _ ⟨rfl, rfl⟩
  go_wp2_with fail
  refine (HS2.out _ _ HA1.out).mono ?_
  rintro _ w2 ⟨rfl, O2, hA2, hO2, hT2⟩
  have HA2 := hide hA2
  have HO2 := hide hO2
  have HT2 := hide hT2
  clear hA2 hO2 hT2
  go_wp2
  go_ret2
  have hz := HT1.out.size
  refine ⟨rfl, O2, HA2.out, fun k e => ?_, HT1.out.trans HT2.out (fun k hk e => (HO1.out k e).resolve_right (by omega))⟩
  rcases HO2.out k e with e | e
  · exact HO1.out k e
  · exact .inr (by omega)
end Go.Proofs.YtkkommomefmpgaaGreat

/- Position: a state's lists, by an array of their places. -/
namespace Go.Proofs.YtkkommomefmpgaaGreat
open Go.RowKit

def ps3 (g : Nat) : Array Value := #[.pointer (some ⟨g, 4, none⟩), .pointer (some ⟨g, 5, none⟩), .pointer (some ⟨g, 6, none⟩)]
theorem ps_build (g : Nat) (w : World) : (Instr.build 306 #[(0, .pointer (some ⟨g, 4, none⟩)), (1, .pointer (some ⟨g, 5, none⟩)), (2, .pointer (some ⟨g, 6, none⟩))]).run Tryz.prog w = .ok (.agg #[.pointer (some ⟨g, 4, none⟩), .pointer (some ⟨g, 5, none⟩), .pointer (some ⟨g, 6, none⟩)]) w := by
  kernel_rfl
theorem listsOf_any (g : Nat) (w : World) : Calls Tryz.prog 185 #[.pointer (some ⟨g, 0, none⟩)] w fun e w' => e = .returned (.agg (ps3 g)) ∧ Below w.heap.size w w' := by
  have hb := ps_build g
  go_enter Tryz.func185, Tryz.ntmps185
  go_wp2_with fail
  go_region
  go_wp2
  refine bodyPost_ret (results_cell_row rfl _ _ w.heap.size _ _ _ _ rfl (heap_alloc_new w _) Tryz.underlying306 rfl (by kernel_rfl)) rfl ?_
  exact ⟨rfl, (recv_below w _).drew⟩
theorem ps_info : (Tryz.prog.info? 305).map (fun i => i.size) = some 1 := by kernel_rfl
theorem index_ps0 (g : Nat) (W : World) : (Instr.index 306 (.agg (ps3 g)) (.int .i64 0)).run Tryz.prog W = .ok (.pointer (some ⟨g, 4, none⟩)) W := by
  have hu := Tryz.underlying306
  have hi := ps_info
  cases hq : Tryz.prog.info? 305 with
  | none => rw [hq] at hi; cases hi
  | some i =>
    rw [hq] at hi
    have hs : i.size = 1 := by simpa using hi
    unfold Instr.index
    simp [asIntOf, Sem.run_bind, run_underlying hu W, part, sizeOf, typeInfo, hq, hs, ps3]
theorem index_ps1 (g : Nat) (W : World) : (Instr.index 306 (.agg (ps3 g)) (.int .i64 1)).run Tryz.prog W = .ok (.pointer (some ⟨g, 5, none⟩)) W := by
  have hu := Tryz.underlying306
  have hi := ps_info
  cases hq : Tryz.prog.info? 305 with
  | none => rw [hq] at hi; cases hi
  | some i =>
    rw [hq] at hi
    have hs : i.size = 1 := by simpa using hi
    unfold Instr.index
    simp [asIntOf, Sem.run_bind, run_underlying hu W, part, sizeOf, typeInfo, hq, hs, ps3]
theorem index_ps2 (g : Nat) (W : World) : (Instr.index 306 (.agg (ps3 g)) (.int .i64 2)).run Tryz.prog W = .ok (.pointer (some ⟨g, 6, none⟩)) W := by
  have hu := Tryz.underlying306
  have hi := ps_info
  cases hq : Tryz.prog.info? 305 with
  | none => rw [hq] at hi; cases hi
  | some i =>
    rw [hq] at hi
    have hs : i.size = 1 := by simpa using hi
    unfold Instr.index
    simp [asIntOf, Sem.run_bind, run_underlying hu W, part, sizeOf, typeInfo, hq, hs, ps3]
def SS.upto (x : SS) (k : Nat) : Int := if k = 0 then 0 else if k = 1 then x.out.length else if k = 2 then (x.out.length : Int) + x.inn.length else (x.out.length : Int) + x.inn.length + x.back.length
set_option maxRecDepth 100000 in
set_option maxHeartbeats 4000000 in
theorem pheld14 (x : SS) (oa ia ba : Option Addr) (oc ic bc : Nat) (w : World) (ho : x.out.length ≤ 140737488351232) (hi : x.inn.length ≤ 140737488351232) (hb : x.back.length ≤ 140737488351232) :
    Calls Tryz.prog 111 #[.agg #[.bool x.rd, .bool x.wt, .int .i64 x.mode, .int .i64 x.size, .slice oa x.out.length oc, .slice ia x.inn.length ic, .slice ba x.back.length bc, .int .i64 x.dir, .bool x.fin, .bool x.bad, .bool x.closed]] w fun e w' => e = .returned (.int .i64 ((x.out.length : Int) + x.inn.length + x.back.length)) ∧ Below w.heap.size w w' := by
  go_enter Tryz.func111, Tryz.ntmps111
  go_wp2_with fail
  have HS0 := hide (StAt.new w x (.slice oa x.out.length oc) (.slice ia x.inn.length ic) (.slice ba x.back.length bc))
  have HB0 := hide (recv_below w (Obj.cells #[.bool x.rd, .bool x.wt, .int .i64 x.mode, .int .i64 x.size, .slice oa x.out.length oc, .slice ia x.inn.length ic, .slice ba x.back.length bc, .int .i64 x.dir, .bool x.fin, .bool x.bad, .bool x.closed] 58))
  generalize w.alloc (Obj.cells #[.bool x.rd, .bool x.wt, .int .i64 x.mode, .int .i64 x.size, .slice oa x.out.length oc, .slice ia x.inn.length ic, .slice ba x.back.length bc, .int .i64 x.dir, .bool x.fin, .bool x.bad, .bool x.closed] 58) = w0 at *
  refine (listsOf_any _ _).mono ?_
  rintro _ w1 ⟨rfl, hB1⟩
  have HS1 := hide (HS0.out.below hB1)
  have HB1 := hide (HB0.out.trans (hB1.mono HB0.out.size))
  clear hB1 HS0 HB0
  go_wp2_with fail
  have hx0 := index_ps0 w.heap.size
  have hx1 := index_ps1 w.heap.size
  have hx2 := index_ps2 w.heap.size
  have hl1 : (x.out.length : Int) ≤ 140737488351232 := by omega
  have hl2 : (x.inn.length : Int) ≤ 140737488351232 := by omega
  have hl3 : (x.back.length : Int) ≤ 140737488351232 := by omega
  have HL := hide (And.intro hl1 (And.intro hl2 hl3))
  clear hl1 hl2 hl3 ho hi hb
  generalize hA : ps3 w.heap.size = A at *
  clear hA
  go_loopw [3, 7] (fun n i wr => ∃ k : Nat, k ≤ 3 ∧ i = .int .i64 k ∧ n = .int .i64 (x.upto k) ∧ Hid (Below w1.heap.size w1 wr)) (fun _ i _ => 3 - (intOf i).toNat)
  case atStart => exact ⟨0, Nat.zero_le _, rfl, rfl, hide (Below.refl _ _)⟩
  case round =>
    obtain ⟨k, hk, rfl, rfl, HB⟩ := hrel
    obtain ⟨c0, c1, c2, c3, c4, c5, c6, c7, c8, c9, c10⟩ := (HS1.out.below HB.out).cs
    clear c0 c1 c2 c3 c7 c8 c9 c10
    match k, hk with
    | 0, _ =>
      have HU : Hid (wrap64 (x.upto 0 + (x.out.length : Int)) = x.upto 1) := hide (by have := HL.out; simp only [SS.upto, wrap64]; simp; omega)
      generalize x.upto 0 = U at *
      go_wp2_with fail
      exact ⟨⟨1, by decide, rfl, by rw [HU.out], HB⟩, by simp [intOf]⟩
    | 1, _ =>
      have HU : Hid (wrap64 (x.upto 1 + (x.inn.length : Int)) = x.upto 2) := hide (by have := HL.out; simp only [SS.upto, wrap64]; simp; omega)
      generalize x.upto 1 = U at *
      go_wp2_with fail
      exact ⟨⟨2, by decide, rfl, by rw [HU.out], HB⟩, by simp [intOf]⟩
    | 2, _ =>
      have HU : Hid (wrap64 (x.upto 2 + (x.back.length : Int)) = x.upto 3) := hide (by have := HL.out; simp only [SS.upto, wrap64]; simp; omega)
      generalize x.upto 2 = U at *
      go_wp2_with fail
      exact ⟨⟨3, by decide, rfl, by rw [HU.out], HB⟩, by simp [intOf]⟩
    | 3, _ =>
      go_wp2_with fail
      go_ret
      exact ⟨by simp only [SS.upto]; simp, HB1.out.trans (HB.out.mono HB1.out.size)⟩
end Go.Proofs.YtkkommomefmpgaaGreat

/- Position: a state with nothing held; a copy of a state. -/
namespace Go.Proofs.YtkkommomefmpgaaGreat
open Go.RowKit

set_option maxRecDepth 100000 in
set_option maxHeartbeats 4000000 in
theorem emptied_any (x : SS) (oa ia ba : Option Addr) (oc ic bc : Nat) (w : World) : Calls Tryz.prog 112 #[.agg #[.bool x.rd, .bool x.wt, .int .i64 x.mode, .int .i64 x.size, .slice oa x.out.length oc, .slice ia x.inn.length ic, .slice ba x.back.length bc, .int .i64 x.dir, .bool x.fin, .bool x.bad, .bool x.closed]] w fun e w' => e = .returned (.agg #[.bool x.bare.rd, .bool x.bare.wt, .int .i64 x.bare.mode, .int .i64 x.bare.size, .slice none 0 0, .slice none 0 0, .slice none 0 0, .int .i64 x.bare.dir, .bool x.bare.fin, .bool x.bare.bad, .bool x.bare.closed]) ∧ Below w.heap.size w w' := by
  go_enter Tryz.func112, Tryz.ntmps112
  go_wp2_with fail
  have HB0 := hide ((recv_below w (Obj.cells #[.bool x.rd, .bool x.wt, .int .i64 x.mode, .int .i64 x.size, .slice oa x.out.length oc, .slice ia x.inn.length ic, .slice ba x.back.length bc, .int .i64 x.dir, .bool x.fin, .bool x.bad, .bool x.closed] 58)).trans ((recv_below (w.alloc (Obj.cells #[.bool x.rd, .bool x.wt, .int .i64 x.mode, .int .i64 x.size, .slice oa x.out.length oc, .slice ia x.inn.length ic, .slice ba x.back.length bc, .int .i64 x.dir, .bool x.fin, .bool x.bad, .bool x.closed] 58)) (Obj.cells #[.bool false, .bool false, .int .i64 0, .int .i64 0, .slice none 0 0, .slice none 0 0, .slice none 0 0, .int .i64 0, .bool false, .bool false, .bool false] 58)).mono (recv_below w (Obj.cells #[.bool x.rd, .bool x.wt, .int .i64 x.mode, .int .i64 x.size, .slice oa x.out.length oc, .slice ia x.inn.length ic, .slice ba x.back.length bc, .int .i64 x.dir, .bool x.fin, .bool x.bad, .bool x.closed] 58)).size))
  have HS0 := hide ((StAt.new w x (.slice oa x.out.length oc) (.slice ia x.inn.length ic) (.slice ba x.back.length bc)).below (recv_below _ (Obj.cells #[.bool false, .bool false, .int .i64 0, .int .i64 0, .slice none 0 0, .slice none 0 0, .slice none 0 0, .int .i64 0, .bool false, .bool false, .bool false] 58)))
  have HZ0 : Hid (((w.alloc (Obj.cells #[.bool x.rd, .bool x.wt, .int .i64 x.mode, .int .i64 x.size, .slice oa x.out.length oc, .slice ia x.inn.length ic, .slice ba x.back.length bc, .int .i64 x.dir, .bool x.fin, .bool x.bad, .bool x.closed] 58)).alloc (Obj.cells #[.bool false, .bool false, .int .i64 0, .int .i64 0, .slice none 0 0, .slice none 0 0, .slice none 0 0, .int .i64 0, .bool false, .bool false, .bool false] 58)).heap[w.heap.size + 1]? = some (Obj.cells #[.bool false, .bool false, .int .i64 0, .int .i64 0, .slice none 0 0, .slice none 0 0, .slice none 0 0, .int .i64 0, .bool false, .bool false, .bool false] 58)) := hide (by have := heap_alloc_new (w.alloc (Obj.cells #[.bool x.rd, .bool x.wt, .int .i64 x.mode, .int .i64 x.size, .slice oa x.out.length oc, .slice ia x.inn.length ic, .slice ba x.back.length bc, .int .i64 x.dir, .bool x.fin, .bool x.bad, .bool x.closed] 58)) (Obj.cells #[.bool false, .bool false, .int .i64 0, .int .i64 0, .slice none 0 0, .slice none 0 0, .slice none 0 0, .int .i64 0, .bool false, .bool false, .bool false] 58); rw [show (w.alloc (Obj.cells #[.bool x.rd, .bool x.wt, .int .i64 x.mode, .int .i64 x.size, .slice oa x.out.length oc, .slice ia x.inn.length ic, .slice ba x.back.length bc, .int .i64 x.dir, .bool x.fin, .bool x.bad, .bool x.closed] 58)).heap.size = w.heap.size + 1 from Array.size_push ..] at this; exact this)
  generalize (w.alloc (Obj.cells #[.bool x.rd, .bool x.wt, .int .i64 x.mode, .int .i64 x.size, .slice oa x.out.length oc, .slice ia x.inn.length ic, .slice ba x.back.length bc, .int .i64 x.dir, .bool x.fin, .bool x.bad, .bool x.closed] 58)).alloc (Obj.cells #[.bool false, .bool false, .int .i64 0, .int .i64 0, .slice none 0 0, .slice none 0 0, .slice none 0 0, .int .i64 0, .bool false, .bool false, .bool false] 58) = w0 at *
  have hz0 : w.heap.size + 1 < w0.heap.size := (Array.getElem?_eq_some_iff.1 HZ0.out).1
  refine (listsOf_any _ _).mono ?_
  rintro _ w1 ⟨rfl, hB1⟩
  have HS1 := hide (HS0.out.below hB1)
  have HZ1 := hide ((hB1.block _ hz0).trans HZ0.out)
  have HB1 := hide (HB0.out.trans (hB1.mono HB0.out.size))
  have hz1 := hB1.size
  clear hB1 HS0 HB0 HZ0
  go_wp2_with fail
  have hx0 := index_ps0 w.heap.size
  have hx1 := index_ps1 w.heap.size
  have hx2 := index_ps2 w.heap.size
  generalize hA : ps3 w.heap.size = A at *
  clear hA
  go_loopw [6] (fun i wr => (i = .int .i64 0 ∧ Hid (StAt wr w.heap.size x (.slice oa x.out.length oc) (.slice ia x.inn.length ic) (.slice ba x.back.length bc)) ∧ Hid (wr.heap[w.heap.size + 1]? = some (Obj.cells #[.bool false, .bool false, .int .i64 0, .int .i64 0, .slice none 0 0, .slice none 0 0, .slice none 0 0, .int .i64 0, .bool false, .bool false, .bool false] 58)) ∧ Hid (Below w.heap.size w wr) ∧ w0.heap.size ≤ wr.heap.size) ∨ (i = .int .i64 1 ∧ Hid (StAt wr w.heap.size x (.slice none 0 0) (.slice ia x.inn.length ic) (.slice ba x.back.length bc)) ∧ Hid (wr.heap[w.heap.size + 1]? = some (Obj.cells #[.bool false, .bool false, .int .i64 0, .int .i64 0, .slice none 0 0, .slice none 0 0, .slice none 0 0, .int .i64 0, .bool false, .bool false, .bool false] 58)) ∧ Hid (Below w.heap.size w wr) ∧ w0.heap.size ≤ wr.heap.size) ∨ (i = .int .i64 2 ∧ Hid (StAt wr w.heap.size x (.slice none 0 0) (.slice none 0 0) (.slice ba x.back.length bc)) ∧ Hid (wr.heap[w.heap.size + 1]? = some (Obj.cells #[.bool false, .bool false, .int .i64 0, .int .i64 0, .slice none 0 0, .slice none 0 0, .slice none 0 0, .int .i64 0, .bool false, .bool false, .bool false] 58)) ∧ Hid (Below w.heap.size w wr) ∧ w0.heap.size ≤ wr.heap.size) ∨ (i = .int .i64 3 ∧ Hid (StAt wr w.heap.size x (.slice none 0 0) (.slice none 0 0) (.slice none 0 0)) ∧ Hid (wr.heap[w.heap.size + 1]? = some (Obj.cells #[.bool false, .bool false, .int .i64 0, .int .i64 0, .slice none 0 0, .slice none 0 0, .slice none 0 0, .int .i64 0, .bool false, .bool false, .bool false] 58)) ∧ Hid (Below w.heap.size w wr) ∧ w0.heap.size ≤ wr.heap.size)) (fun i _ => 3 - (intOf i).toNat)
  case atStart => exact .inl ⟨rfl, HS1, HZ1, HB1, hz1⟩
  case round =>
    clear HS1 HZ1 HB1 hz1
    rcases hrel with ⟨rfl, HS, HZ, HB, hz⟩ | ⟨rfl, HS, HZ, HB, hz⟩ | ⟨rfl, HS, HZ, HB, hz⟩ | ⟨rfl, HS, HZ, HB, hz⟩
    · have c := cell_of_row wr w.heap.size 4 _ _ _ HS.out
      have f := HS.out.soft 4
      simp at c
      obtain ⟨e1, e2⟩ := HS.out.set (x' := x) (o' := .slice none 0 0) (i' := .slice ia x.inn.length ic) (b' := .slice ba x.back.length bc) 4 (.slice none 0 0) rfl
      have HS2 := hide e1
      have HZ2 := hide ((e2.block (w.heap.size + 1) (by omega) (by show ¬ _ = _; omega)).trans HZ.out)
      have HB2 := hide (HB.out.trans (e2.below (B := w.heap.size) (fun k e => by have e' : k = w.heap.size := e; omega) HB.out.size))
      have hz2 := e2.size
      clear e1 e2
      go_wp2_with fail
      exact ⟨.inr (.inl ⟨rfl, HS2, HZ2, HB2, by omega⟩), by simp [intOf]⟩
    · have c := cell_of_row wr w.heap.size 5 _ _ _ HS.out
      have f := HS.out.soft 5
      simp at c
      obtain ⟨e1, e2⟩ := HS.out.set (x' := x) (o' := .slice none 0 0) (i' := .slice none 0 0) (b' := .slice ba x.back.length bc) 5 (.slice none 0 0) rfl
      have HS2 := hide e1
      have HZ2 := hide ((e2.block (w.heap.size + 1) (by omega) (by show ¬ _ = _; omega)).trans HZ.out)
      have HB2 := hide (HB.out.trans (e2.below (B := w.heap.size) (fun k e => by have e' : k = w.heap.size := e; omega) HB.out.size))
      have hz2 := e2.size
      clear e1 e2
      go_wp2_with fail
      exact ⟨.inr (.inr (.inl ⟨rfl, HS2, HZ2, HB2, by omega⟩)), by simp [intOf]⟩
    · have c := cell_of_row wr w.heap.size 6 _ _ _ HS.out
      have f := HS.out.soft 6
      simp at c
      obtain ⟨e1, e2⟩ := HS.out.set (x' := x) (o' := .slice none 0 0) (i' := .slice none 0 0) (b' := .slice none 0 0) 6 (.slice none 0 0) rfl
      have HS2 := hide e1
      have HZ2 := hide ((e2.block (w.heap.size + 1) (by omega) (by show ¬ _ = _; omega)).trans HZ.out)
      have HB2 := hide (HB.out.trans (e2.below (B := w.heap.size) (fun k e => by have e' : k = w.heap.size := e; omega) HB.out.size))
      have hz2 := e2.size
      clear e1 e2
      go_wp2_with fail
      exact ⟨.inr (.inr (.inr ⟨rfl, HS2, HZ2, HB2, by omega⟩)), by simp [intOf]⟩
    · obtain ⟨d1, d2⟩ := HS.out.set (x' := ⟨x.rd, x.wt, x.mode, x.size, x.out, x.inn, x.back, 0, x.fin, x.bad, x.closed⟩) (o' := .slice none 0 0) (i' := .slice none 0 0) (b' := .slice none 0 0) 7 (.int .i64 0) rfl
      obtain ⟨e1, e2⟩ := d1.set (x' := x.bare) (o' := .slice none 0 0) (i' := .slice none 0 0) (b' := .slice none 0 0) 8 (.bool false) rfl
      have HS2 := hide e1
      have HT2 := hide (d2.trans e2 (fun _ _ e => e))
      have HZ2 := hide ((HT2.out.block (w.heap.size + 1) (by omega) (by show ¬ _ = _; omega)).trans HZ.out)
      have HB2 := hide (HB.out.trans (HT2.out.below (B := w.heap.size) (fun k e => by have e' : k = w.heap.size := e; omega) HB.out.size))
      have f7 := HS.out.soft 7
      have f8 := HS.out.soft 8
      have f8b := d1.soft 8
      obtain ⟨c0, c1, c2, c3, c4, c5, c6, c7, c8, c9, c10⟩ := HS.out.cs
      clear d1 d2 e1 e2
      go_upto_region 7 with fail
      clear f7 f8 f8b c0 c1 c2 c3 c4 c5 c6 c7 c8 c9 c10
      generalize (wr.setCell ⟨w.heap.size, 7, none⟩ (.int .i64 0)).setCell ⟨w.heap.size, 8, none⟩ (.bool false) = w4 at *
      obtain ⟨c0, c1, c2, c3, c4, c5, c6, c7, c8, c9, c10⟩ := HS2.out.cs
      have f0 := frozen_of_row w4 (w.heap.size + 1) 0 _ _ HZ2.out
      have f1 := frozen_of_row w4 (w.heap.size + 1) 1 _ _ HZ2.out
      have f2 := frozen_of_row w4 (w.heap.size + 1) 2 _ _ HZ2.out
      have f3 := frozen_of_row w4 (w.heap.size + 1) 3 _ _ HZ2.out
      have f4 := frozen_of_row w4 (w.heap.size + 1) 4 _ _ HZ2.out
      have f5 := frozen_of_row w4 (w.heap.size + 1) 5 _ _ HZ2.out
      have f6 := frozen_of_row w4 (w.heap.size + 1) 6 _ _ HZ2.out
      have f7 := frozen_of_row w4 (w.heap.size + 1) 7 _ _ HZ2.out
      have f8 := frozen_of_row w4 (w.heap.size + 1) 8 _ _ HZ2.out
      have f9 := frozen_of_row w4 (w.heap.size + 1) 9 _ _ HZ2.out
      have f10 := frozen_of_row w4 (w.heap.size + 1) 10 _ _ HZ2.out
      have d0 := cell_of_row w4 (w.heap.size + 1) 0 _ _ _ HZ2.out
      have d1 := cell_of_row w4 (w.heap.size + 1) 1 _ _ _ HZ2.out
      have d2 := cell_of_row w4 (w.heap.size + 1) 2 _ _ _ HZ2.out
      have d3 := cell_of_row w4 (w.heap.size + 1) 3 _ _ _ HZ2.out
      have d4 := cell_of_row w4 (w.heap.size + 1) 4 _ _ _ HZ2.out
      have d5 := cell_of_row w4 (w.heap.size + 1) 5 _ _ _ HZ2.out
      have d6 := cell_of_row w4 (w.heap.size + 1) 6 _ _ _ HZ2.out
      have d7 := cell_of_row w4 (w.heap.size + 1) 7 _ _ _ HZ2.out
      have d8 := cell_of_row w4 (w.heap.size + 1) 8 _ _ _ HZ2.out
      have d9 := cell_of_row w4 (w.heap.size + 1) 9 _ _ _ HZ2.out
      have d10 := cell_of_row w4 (w.heap.size + 1) 10 _ _ _ HZ2.out
      simp at d0 d1 d2 d3 d4 d5 d6 d7 d8 d9 d10
      go_wp2
      obtain ⟨e1, e2⟩ := st_fill w4 (w.heap.size + 1) x.bare (.slice none 0 0) (.slice none 0 0) (.slice none 0 0) HZ2.out
      refine bodyPost_ret (results_cell_row rfl _ _ (w.heap.size + 1) _ _ _ _ rfl e1 Tryz.underlying58 rfl (by kernel_rfl)) rfl ?_
      exact ⟨rfl, HB2.out.trans (e2.below (B := w.heap.size) (fun k e => by have e' : k = w.heap.size + 1 := e; omega) HB2.out.size)⟩
set_option maxRecDepth 100000 in
set_option maxHeartbeats 4000000 in
theorem pcopied14 (x : SS) (o i b : Value) (P : Nat → Prop) (w : World) (h : SIn w P x o i b) (ho : x.out.length ≤ 140737488351232) (hi : x.inn.length ≤ 140737488351232) (hb : x.back.length ≤ 140737488351232) :
    Calls Tryz.prog 108 #[.agg #[.bool x.rd, .bool x.wt, .int .i64 x.mode, .int .i64 x.size, o, i, b, .int .i64 x.dir, .bool x.fin, .bool x.bad, .bool x.closed]] w fun e w' => ∃ o' i' b', e = .returned (.agg #[.bool x.rd, .bool x.wt, .int .i64 x.mode, .int .i64 x.size, o', i', b', .int .i64 x.dir, .bool x.fin, .bool x.bad, .bool x.closed]) ∧ w'.ownsRow w.heap.size 5 1 o' x.out.length (x.out.map bv) ∧ w'.ownsRow w.heap.size 5 1 i' x.inn.length (x.inn.map bv) ∧ w'.ownsRow w.heap.size 5 1 b' x.back.length (x.back.map bv) ∧ Below w.heap.size w w' := by
  have HC1 := hide (fun W (hB : Below w.heap.size w W) => bclone_any o x.out W ((h.so.turned (Turned.of_below (S := fun _ => False) hB) (fun _ _ _ => id)).choose_spec.choose_spec.2.1) ho)
  have HC2 := hide (fun W (hB : Below w.heap.size w W) => bclone_any i x.inn W ((h.si.turned (Turned.of_below (S := fun _ => False) hB) (fun _ _ _ => id)).choose_spec.choose_spec.2.1) hi)
  have HC3 := hide (fun W (hB : Below w.heap.size w W) => bclone_any b x.back W ((h.sb.turned (Turned.of_below (S := fun _ => False) hB) (fun _ _ _ => id)).choose_spec.choose_spec.2.1) hb)
  obtain ⟨oa, oc, rfl, -⟩ := h.so
  obtain ⟨ia, ic, rfl, -⟩ := h.si
  obtain ⟨ba, bc, rfl, -⟩ := h.sb
  clear h
  go_enter Tryz.func108, Tryz.ntmps108
  go_wp2_with fail
  have HB0 := hide ((recv_below w (Obj.cells #[.bool x.rd, .bool x.wt, .int .i64 x.mode, .int .i64 x.size, .slice oa x.out.length oc, .slice ia x.inn.length ic, .slice ba x.back.length bc, .int .i64 x.dir, .bool x.fin, .bool x.bad, .bool x.closed] 58)).trans ((recv_below (w.alloc (Obj.cells #[.bool x.rd, .bool x.wt, .int .i64 x.mode, .int .i64 x.size, .slice oa x.out.length oc, .slice ia x.inn.length ic, .slice ba x.back.length bc, .int .i64 x.dir, .bool x.fin, .bool x.bad, .bool x.closed] 58)) (Obj.cells #[.bool false, .bool false, .int .i64 0, .int .i64 0, .slice none 0 0, .slice none 0 0, .slice none 0 0, .int .i64 0, .bool false, .bool false, .bool false] 58)).mono (recv_below w (Obj.cells #[.bool x.rd, .bool x.wt, .int .i64 x.mode, .int .i64 x.size, .slice oa x.out.length oc, .slice ia x.inn.length ic, .slice ba x.back.length bc, .int .i64 x.dir, .bool x.fin, .bool x.bad, .bool x.closed] 58)).size))
  have HS0 := hide ((StAt.new w x (.slice oa x.out.length oc) (.slice ia x.inn.length ic) (.slice ba x.back.length bc)).below (recv_below _ (Obj.cells #[.bool false, .bool false, .int .i64 0, .int .i64 0, .slice none 0 0, .slice none 0 0, .slice none 0 0, .int .i64 0, .bool false, .bool false, .bool false] 58)))
  have HZ0 : Hid (((w.alloc (Obj.cells #[.bool x.rd, .bool x.wt, .int .i64 x.mode, .int .i64 x.size, .slice oa x.out.length oc, .slice ia x.inn.length ic, .slice ba x.back.length bc, .int .i64 x.dir, .bool x.fin, .bool x.bad, .bool x.closed] 58)).alloc (Obj.cells #[.bool false, .bool false, .int .i64 0, .int .i64 0, .slice none 0 0, .slice none 0 0, .slice none 0 0, .int .i64 0, .bool false, .bool false, .bool false] 58)).heap[w.heap.size + 1]? = some (Obj.cells #[.bool false, .bool false, .int .i64 0, .int .i64 0, .slice none 0 0, .slice none 0 0, .slice none 0 0, .int .i64 0, .bool false, .bool false, .bool false] 58)) := hide (by have := heap_alloc_new (w.alloc (Obj.cells #[.bool x.rd, .bool x.wt, .int .i64 x.mode, .int .i64 x.size, .slice oa x.out.length oc, .slice ia x.inn.length ic, .slice ba x.back.length bc, .int .i64 x.dir, .bool x.fin, .bool x.bad, .bool x.closed] 58)) (Obj.cells #[.bool false, .bool false, .int .i64 0, .int .i64 0, .slice none 0 0, .slice none 0 0, .slice none 0 0, .int .i64 0, .bool false, .bool false, .bool false] 58); rw [show (w.alloc (Obj.cells #[.bool x.rd, .bool x.wt, .int .i64 x.mode, .int .i64 x.size, .slice oa x.out.length oc, .slice ia x.inn.length ic, .slice ba x.back.length bc, .int .i64 x.dir, .bool x.fin, .bool x.bad, .bool x.closed] 58)).heap.size = w.heap.size + 1 from Array.size_push ..] at this; exact this)
  generalize (w.alloc (Obj.cells #[.bool x.rd, .bool x.wt, .int .i64 x.mode, .int .i64 x.size, .slice oa x.out.length oc, .slice ia x.inn.length ic, .slice ba x.back.length bc, .int .i64 x.dir, .bool x.fin, .bool x.bad, .bool x.closed] 58)).alloc (Obj.cells #[.bool false, .bool false, .int .i64 0, .int .i64 0, .slice none 0 0, .slice none 0 0, .slice none 0 0, .int .i64 0, .bool false, .bool false, .bool false] 58) = w0 at *
  have hz0 : w.heap.size + 1 < w0.heap.size := (Array.getElem?_eq_some_iff.1 HZ0.out).1
  refine (listsOf_any _ _).mono ?_
  rintro _ w1 ⟨rfl, hB1⟩
  have HS1 := hide (HS0.out.below hB1)
  have HZ1 := hide ((hB1.block _ hz0).trans HZ0.out)
  have HB1 := hide (HB0.out.trans (hB1.mono HB0.out.size))
  have hz1 := hB1.size
  clear hB1 HS0 HB0 HZ0
  go_wp2_with fail
  have hx0 := index_ps0 w.heap.size
  have hx1 := index_ps1 w.heap.size
  have hx2 := index_ps2 w.heap.size
  generalize hA : ps3 w.heap.size = A at *
  clear hA
  go_loopw [6] (fun i wr => (i = .int .i64 0 ∧ Hid (StAt wr w.heap.size x (.slice oa x.out.length oc) (.slice ia x.inn.length ic) (.slice ba x.back.length bc)) ∧ Hid (wr.heap[w.heap.size + 1]? = some (Obj.cells #[.bool false, .bool false, .int .i64 0, .int .i64 0, .slice none 0 0, .slice none 0 0, .slice none 0 0, .int .i64 0, .bool false, .bool false, .bool false] 58)) ∧ Hid (Below w.heap.size w wr) ∧ w0.heap.size ≤ wr.heap.size) ∨ (i = .int .i64 1 ∧ ∃ (a1 : Option Addr) (k1 : Nat), Hid (wr.ownsRow w0.heap.size 5 1 (.slice a1 x.out.length k1) x.out.length (x.out.map bv)) ∧ Hid (StAt wr w.heap.size x (.slice a1 x.out.length k1) (.slice ia x.inn.length ic) (.slice ba x.back.length bc)) ∧ Hid (wr.heap[w.heap.size + 1]? = some (Obj.cells #[.bool false, .bool false, .int .i64 0, .int .i64 0, .slice none 0 0, .slice none 0 0, .slice none 0 0, .int .i64 0, .bool false, .bool false, .bool false] 58)) ∧ Hid (Below w.heap.size w wr) ∧ w0.heap.size ≤ wr.heap.size) ∨ (i = .int .i64 2 ∧ ∃ (a1 : Option Addr) (k1 : Nat) (a2 : Option Addr) (k2 : Nat), Hid (wr.ownsRow w0.heap.size 5 1 (.slice a1 x.out.length k1) x.out.length (x.out.map bv)) ∧ Hid (wr.ownsRow w0.heap.size 5 1 (.slice a2 x.inn.length k2) x.inn.length (x.inn.map bv)) ∧ Hid (StAt wr w.heap.size x (.slice a1 x.out.length k1) (.slice a2 x.inn.length k2) (.slice ba x.back.length bc)) ∧ Hid (wr.heap[w.heap.size + 1]? = some (Obj.cells #[.bool false, .bool false, .int .i64 0, .int .i64 0, .slice none 0 0, .slice none 0 0, .slice none 0 0, .int .i64 0, .bool false, .bool false, .bool false] 58)) ∧ Hid (Below w.heap.size w wr) ∧ w0.heap.size ≤ wr.heap.size) ∨ (i = .int .i64 3 ∧ ∃ (a1 : Option Addr) (k1 : Nat) (a2 : Option Addr) (k2 : Nat) (a3 : Option Addr) (k3 : Nat), Hid (wr.ownsRow w0.heap.size 5 1 (.slice a1 x.out.length k1) x.out.length (x.out.map bv)) ∧ Hid (wr.ownsRow w0.heap.size 5 1 (.slice a2 x.inn.length k2) x.inn.length (x.inn.map bv)) ∧ Hid (wr.ownsRow w0.heap.size 5 1 (.slice a3 x.back.length k3) x.back.length (x.back.map bv)) ∧ Hid (StAt wr w.heap.size x (.slice a1 x.out.length k1) (.slice a2 x.inn.length k2) (.slice a3 x.back.length k3)) ∧ Hid (wr.heap[w.heap.size + 1]? = some (Obj.cells #[.bool false, .bool false, .int .i64 0, .int .i64 0, .slice none 0 0, .slice none 0 0, .slice none 0 0, .int .i64 0, .bool false, .bool false, .bool false] 58)) ∧ Hid (Below w.heap.size w wr) ∧ w0.heap.size ≤ wr.heap.size)) (fun i _ => 3 - (intOf i).toNat)
  case atStart => exact .inl ⟨rfl, HS1, HZ1, HB1, hz1⟩
  case round =>
    clear HS1 HZ1 HB1 hz1
    rcases hrel with ⟨rfl, HS, HZ, HB, hz⟩ | ⟨rfl, a1, k1, HO1, HS, HZ, HB, hz⟩ | ⟨rfl, a1, k1, a2, k2, HO1, HO2, HS, HZ, HB, hz⟩ | ⟨rfl, a1, k1, a2, k2, a3, k3, HO1, HO2, HO3, HS, HZ, HB, hz⟩
    · have c := cell_of_row wr w.heap.size 4 _ _ _ HS.out
      simp at c
      go_upto_region 4 with fail
      go_wp2_with fail
      refine (HC1.out _ HB.out).mono ?_
      rintro _ w5 ⟨u5, rfl, hO5, hB5⟩
      obtain ⟨a1, k1, rfl⟩ := owns_slice hO5
      have HS5 := hide (HS.out.below hB5)
      have HZ5 := hide ((hB5.block (w.heap.size + 1) (by omega)).trans HZ.out)
      have HB5 := hide (HB.out.trans (hB5.mono HB.out.size))
      have hz5 := hB5.size

      have HO1n := hide (owns_mono hO5 hz)
      have f5 := HS5.out.soft 4
      have c5 := cell_of_row w5 w.heap.size 4 _ _ _ HS5.out
      simp at c5
      clear hO5 hB5
      all_goals
        obtain ⟨e1, e2⟩ := HS5.out.set (x' := x) (o' := .slice a1 x.out.length k1) (i' := .slice ia x.inn.length ic) (b' := .slice ba x.back.length bc) 4 (.slice a1 x.out.length k1) rfl
        have HS2 := hide e1
        have HZ2 := hide ((e2.block (w.heap.size + 1) (by omega) (by show ¬ _ = _; omega)).trans HZ5.out)
        have HB2 := hide (HB5.out.trans (e2.below (B := w.heap.size) (fun k e => by have e' : k = w.heap.size := e; omega) HB5.out.size))
        have hz2 := e2.size
        have HO12 := hide (owns_turned HO1n.out e2 (fun j e => by have := (HO1n.out.lt j e).1; show ¬ j = w.heap.size; omega))
        clear e1 e2
        go_wp2_with fail
        exact ⟨.inr (.inl ⟨rfl, a1, k1, HO12, HS2, HZ2, HB2, by omega⟩), by simp [intOf]⟩
    · have c := cell_of_row wr w.heap.size 5 _ _ _ HS.out
      simp at c
      go_upto_region 4 with fail
      go_wp2_with fail
      refine (HC2.out _ HB.out).mono ?_
      rintro _ w5 ⟨u5, rfl, hO5, hB5⟩
      obtain ⟨a2, k2, rfl⟩ := owns_slice hO5
      have HS5 := hide (HS.out.below hB5)
      have HZ5 := hide ((hB5.block (w.heap.size + 1) (by omega)).trans HZ.out)
      have HB5 := hide (HB.out.trans (hB5.mono HB.out.size))
      have hz5 := hB5.size
      have HO1n := hide (owns_below HO1.out hB5)
      have HO2n := hide (owns_mono hO5 hz)
      have f5 := HS5.out.soft 5
      have c5 := cell_of_row w5 w.heap.size 5 _ _ _ HS5.out
      simp at c5
      clear hO5 hB5
      all_goals
        obtain ⟨e1, e2⟩ := HS5.out.set (x' := x) (o' := .slice a1 x.out.length k1) (i' := .slice a2 x.inn.length k2) (b' := .slice ba x.back.length bc) 5 (.slice a2 x.inn.length k2) rfl
        have HS2 := hide e1
        have HZ2 := hide ((e2.block (w.heap.size + 1) (by omega) (by show ¬ _ = _; omega)).trans HZ5.out)
        have HB2 := hide (HB5.out.trans (e2.below (B := w.heap.size) (fun k e => by have e' : k = w.heap.size := e; omega) HB5.out.size))
        have hz2 := e2.size
        have HO12 := hide (owns_turned HO1n.out e2 (fun j e => by have := (HO1n.out.lt j e).1; show ¬ j = w.heap.size; omega))
        have HO22 := hide (owns_turned HO2n.out e2 (fun j e => by have := (HO2n.out.lt j e).1; show ¬ j = w.heap.size; omega))
        clear e1 e2
        go_wp2_with fail
        exact ⟨.inr (.inr (.inl ⟨rfl, a1, k1, a2, k2, HO12, HO22, HS2, HZ2, HB2, by omega⟩)), by simp [intOf]⟩
    · have c := cell_of_row wr w.heap.size 6 _ _ _ HS.out
      simp at c
      go_upto_region 4 with fail
      go_wp2_with fail
      refine (HC3.out _ HB.out).mono ?_
      rintro _ w5 ⟨u5, rfl, hO5, hB5⟩
      obtain ⟨a3, k3, rfl⟩ := owns_slice hO5
      have HS5 := hide (HS.out.below hB5)
      have HZ5 := hide ((hB5.block (w.heap.size + 1) (by omega)).trans HZ.out)
      have HB5 := hide (HB.out.trans (hB5.mono HB.out.size))
      have hz5 := hB5.size
      have HO1n := hide (owns_below HO1.out hB5)
      have HO2n := hide (owns_below HO2.out hB5)
      have HO3n := hide (owns_mono hO5 hz)
      have f5 := HS5.out.soft 6
      have c5 := cell_of_row w5 w.heap.size 6 _ _ _ HS5.out
      simp at c5
      clear hO5 hB5
      all_goals
        obtain ⟨e1, e2⟩ := HS5.out.set (x' := x) (o' := .slice a1 x.out.length k1) (i' := .slice a2 x.inn.length k2) (b' := .slice a3 x.back.length k3) 6 (.slice a3 x.back.length k3) rfl
        have HS2 := hide e1
        have HZ2 := hide ((e2.block (w.heap.size + 1) (by omega) (by show ¬ _ = _; omega)).trans HZ5.out)
        have HB2 := hide (HB5.out.trans (e2.below (B := w.heap.size) (fun k e => by have e' : k = w.heap.size := e; omega) HB5.out.size))
        have hz2 := e2.size
        have HO12 := hide (owns_turned HO1n.out e2 (fun j e => by have := (HO1n.out.lt j e).1; show ¬ j = w.heap.size; omega))
        have HO22 := hide (owns_turned HO2n.out e2 (fun j e => by have := (HO2n.out.lt j e).1; show ¬ j = w.heap.size; omega))
        have HO32 := hide (owns_turned HO3n.out e2 (fun j e => by have := (HO3n.out.lt j e).1; show ¬ j = w.heap.size; omega))
        clear e1 e2
        go_wp2_with fail
        exact ⟨.inr (.inr (.inr ⟨rfl, a1, k1, a2, k2, a3, k3, HO12, HO22, HO32, HS2, HZ2, HB2, by omega⟩)), by simp [intOf]⟩
    · obtain ⟨c0, c1, c2, c3, c4, c5, c6, c7, c8, c9, c10⟩ := HS.out.cs
      have f0 := frozen_of_row wr (w.heap.size + 1) 0 _ _ HZ.out
      have f1 := frozen_of_row wr (w.heap.size + 1) 1 _ _ HZ.out
      have f2 := frozen_of_row wr (w.heap.size + 1) 2 _ _ HZ.out
      have f3 := frozen_of_row wr (w.heap.size + 1) 3 _ _ HZ.out
      have f4 := frozen_of_row wr (w.heap.size + 1) 4 _ _ HZ.out
      have f5 := frozen_of_row wr (w.heap.size + 1) 5 _ _ HZ.out
      have f6 := frozen_of_row wr (w.heap.size + 1) 6 _ _ HZ.out
      have f7 := frozen_of_row wr (w.heap.size + 1) 7 _ _ HZ.out
      have f8 := frozen_of_row wr (w.heap.size + 1) 8 _ _ HZ.out
      have f9 := frozen_of_row wr (w.heap.size + 1) 9 _ _ HZ.out
      have f10 := frozen_of_row wr (w.heap.size + 1) 10 _ _ HZ.out
      have d0 := cell_of_row wr (w.heap.size + 1) 0 _ _ _ HZ.out
      have d1 := cell_of_row wr (w.heap.size + 1) 1 _ _ _ HZ.out
      have d2 := cell_of_row wr (w.heap.size + 1) 2 _ _ _ HZ.out
      have d3 := cell_of_row wr (w.heap.size + 1) 3 _ _ _ HZ.out
      have d4 := cell_of_row wr (w.heap.size + 1) 4 _ _ _ HZ.out
      have d5 := cell_of_row wr (w.heap.size + 1) 5 _ _ _ HZ.out
      have d6 := cell_of_row wr (w.heap.size + 1) 6 _ _ _ HZ.out
      have d7 := cell_of_row wr (w.heap.size + 1) 7 _ _ _ HZ.out
      have d8 := cell_of_row wr (w.heap.size + 1) 8 _ _ _ HZ.out
      have d9 := cell_of_row wr (w.heap.size + 1) 9 _ _ _ HZ.out
      have d10 := cell_of_row wr (w.heap.size + 1) 10 _ _ _ HZ.out
      simp at d0 d1 d2 d3 d4 d5 d6 d7 d8 d9 d10
      go_wp2
      obtain ⟨e1, e2⟩ := st_fill wr (w.heap.size + 1) x (.slice a1 x.out.length k1) (.slice a2 x.inn.length k2) (.slice a3 x.back.length k3) HZ.out
      refine bodyPost_ret (results_cell_row rfl _ _ (w.heap.size + 1) _ _ _ _ rfl e1 Tryz.underlying58 rfl (by kernel_rfl)) rfl ?_
      exact ⟨_, _, _, rfl, owns_mono (owns_turned HO1.out e2 (fun j e => by have := (HO1.out.lt j e).1; show ¬ j = w.heap.size + 1; omega)) (by omega), owns_mono (owns_turned HO2.out e2 (fun j e => by have := (HO2.out.lt j e).1; show ¬ j = w.heap.size + 1; omega)) (by omega), owns_mono (owns_turned HO3.out e2 (fun j e => by have := (HO3.out.lt j e).1; show ¬ j = w.heap.size + 1; omega)) (by omega), HB.out.trans (e2.below (B := w.heap.size) (fun k e => by have e' : k = w.heap.size + 1 := e; omega) HB.out.size)⟩
end Go.Proofs.YtkkommomefmpgaaGreat

/- Streams: what a call leaves, carried on. -/
namespace Go.Proofs.YtkkommomefmpgaaGreat
open Go.RowKit

theorem SOut.below {S : Type} {At : World → (Nat → Prop) → S → Prop} (hT : ∀ s, OAt (fun w O => At w O s)) {w w2 w3 : World} {O : Nat → Prop} {x x' : SS} {s : S} {o i b : Value} (h : SOut At w O x s o i b w2) (hB : Below w2.heap.size w2 w3) (e1 : x'.out = x.out) (e2 : x'.inn = x.inn) (e3 : x'.back = x.back) : SOut At w O x' s o i b w3 := by
  obtain ⟨O', h1, h2, h3, h4, h5⟩ := h
  have hz := hB.size
  refine ⟨O', ?_, (hT s).keep h2 (fun j _ hj => hB.block j hj) hz, fun j e => Nat.lt_of_lt_of_le (h3 j e) hz, h4, h5.trans (Turned.of_below (S := O) hB) (fun _ _ e => e)⟩
  have h6 := (h1.below hB).mono (Q := fun k => w.heap.size ≤ k ∧ ¬ O' k ∧ k < w3.heap.size) fun k e => ⟨e.1, e.2.1, by have := e.2.2; omega⟩
  exact ⟨by rw [e1]; exact h6.so, by rw [e2]; exact h6.si, by rw [e3]; exact h6.sb, h6.po, h6.pi, h6.pb⟩
theorem SOut.of_own {S : Type} {At : World → (Nat → Prop) → S → Prop} (hT : ∀ s, OAt (fun w O => At w O s)) {w w3 : World} {O : Nat → Prop} {x : SS} {s : S} {o i b : Value} (hA : At w O s) (hO : ∀ j, O j → j < w.heap.size) (h1 : w3.ownsRow w.heap.size 5 1 o x.out.length (x.out.map bv)) (h2 : w3.ownsRow w.heap.size 5 1 i x.inn.length (x.inn.map bv)) (h3 : w3.ownsRow w.heap.size 5 1 b x.back.length (x.back.map bv)) (hB : Below w.heap.size w w3) : SOut At w O x s o i b w3 := by
  have hz := hB.size
  have far : ∀ k, w.heap.size ≤ k → ¬ O k := fun k h e => by have := hO k e; omega
  exact ⟨O, ⟨Sl.own h1, Sl.own h2, Sl.own h3, fun k e => ⟨(h1.lt k e).1, far k (h1.lt k e).1, (h1.lt k e).2⟩, fun k e => ⟨(h2.lt k e).1, far k (h2.lt k e).1, (h2.lt k e).2⟩, fun k e => ⟨(h3.lt k e).1, far k (h3.lt k e).1, (h3.lt k e).2⟩⟩, (hT s).keep hA (fun j _ hj => hB.block j hj) hz, fun j e => Nat.lt_of_lt_of_le (hO j e) hz, fun k e => .inl e, Turned.of_below (S := O) hB⟩
end Go.Proofs.YtkkommomefmpgaaGreat

/- Position: Tell, over any Raw. -/
namespace Go.Proofs.YtkkommomefmpgaaGreat
open Go.RowKit

set_option maxRecDepth 100000 in
set_option maxHeartbeats 4000000 in
theorem ptell_any {S : Type} {D : RawD S} {T : TypeId} {v : Value} {fr fw : FuncId} {rok wok : S → Prop} {At : World → (Nat → Prop) → S → Prop} (R : RawM D T v fr fw rok wok At) (hT : ∀ s, OAt (fun w O => At w O s)) {G : Nat → S → Prop} (hG : Bears D rok wok G) {K : SkV S} {fs : FuncId} {sok : S → Prop} (Q : RawS K T v fs sok At) (hK : BearsS K sok G) {w : World} {O P : Nat → Prop} {s : S} {x : SS} {o i b : Value} (h : SIn w P x o i b) (hA : At w O s) (hO : ∀ j, O j → j < w.heap.size) (hg : G 4 s) (ho : x.out.length ≤ 140737488351232) (hi : x.inn.length ≤ 140737488351232) (hb : x.back.length ≤ 140737488351232) :
    Calls Tryz.prog 31 #[.agg #[.bool x.rd, .bool x.wt, .int .i64 x.mode, .int .i64 x.size, o, i, b, .int .i64 x.dir, .bool x.fin, .bool x.bad, .bool x.closed], .iface T v] w fun e w' => ∃ o' i' b', e = .returned (.tuple #[.agg #[.bool (x.tell D K s).1.rd, .bool (x.tell D K s).1.wt, .int .i64 (x.tell D K s).1.mode, .int .i64 (x.tell D K s).1.size, o', i', b', .int .i64 (x.tell D K s).1.dir, .bool (x.tell D K s).1.fin, .bool (x.tell D K s).1.bad, .bool (x.tell D K s).1.closed], .int .i64 (x.tell D K s).2.1, .int .i64 (x.tell D K s).2.2.1]) ∧ SOut At w O (x.tell D K s).1 (x.tell D K s).2.2.2 o' i' b' w' := by
  have HDv := hide (fun (W : World) (hW : Below w.heap.size w W) (hr : x.refuse true = 0) => delivered_any R hT hG (h.below hW) ((hT s).keep hA (fun j _ hj => hW.block j hj) hW.size) (fun j e => Nat.lt_of_lt_of_le (hO j e) hW.size) (hG.less _ _ (hG.less _ _ hg)) ho hi hb hr)
  have HCp := hide (fun (W : World) (hW : Below w.heap.size w W) => pcopied14 x o i b P W (h.below hW) ho hi hb)
  obtain ⟨oa, oc, rfl, -⟩ := h.so
  obtain ⟨ia, ic, rfl, -⟩ := h.si
  obtain ⟨ba, bc, rfl, -⟩ := h.sb
  clear h
  have HRf := hide (fun W => prefusal14 x oa ia ba oc ic bc T v W hi hb)
  generalize hq : x.tell D K s = q
  obtain ⟨qx, qn, qe, qs⟩ := q
  unfold SS.tell at hq
  go_enter Tryz.func31, Tryz.ntmps31
  go_wp2_with fail
  have HB0 := hide ((recv_below w (Obj.cells #[.bool x.rd, .bool x.wt, .int .i64 x.mode, .int .i64 x.size, .slice oa x.out.length oc, .slice ia x.inn.length ic, .slice ba x.back.length bc, .int .i64 x.dir, .bool x.fin, .bool x.bad, .bool x.closed] 58)).trans ((recv_below (w.alloc (Obj.cells #[.bool x.rd, .bool x.wt, .int .i64 x.mode, .int .i64 x.size, .slice oa x.out.length oc, .slice ia x.inn.length ic, .slice ba x.back.length bc, .int .i64 x.dir, .bool x.fin, .bool x.bad, .bool x.closed] 58)) (Obj.cells #[.bool false, .bool false, .int .i64 0, .int .i64 0, .slice none 0 0, .slice none 0 0, .slice none 0 0, .int .i64 0, .bool false, .bool false, .bool false] 58)).mono (recv_below w (Obj.cells #[.bool x.rd, .bool x.wt, .int .i64 x.mode, .int .i64 x.size, .slice oa x.out.length oc, .slice ia x.inn.length ic, .slice ba x.back.length bc, .int .i64 x.dir, .bool x.fin, .bool x.bad, .bool x.closed] 58)).size))
  have HS0 := hide ((StAt.new w x (.slice oa x.out.length oc) (.slice ia x.inn.length ic) (.slice ba x.back.length bc)).below (recv_below _ (Obj.cells #[.bool false, .bool false, .int .i64 0, .int .i64 0, .slice none 0 0, .slice none 0 0, .slice none 0 0, .int .i64 0, .bool false, .bool false, .bool false] 58)))
  have HZ0 : Hid (((w.alloc (Obj.cells #[.bool x.rd, .bool x.wt, .int .i64 x.mode, .int .i64 x.size, .slice oa x.out.length oc, .slice ia x.inn.length ic, .slice ba x.back.length bc, .int .i64 x.dir, .bool x.fin, .bool x.bad, .bool x.closed] 58)).alloc (Obj.cells #[.bool false, .bool false, .int .i64 0, .int .i64 0, .slice none 0 0, .slice none 0 0, .slice none 0 0, .int .i64 0, .bool false, .bool false, .bool false] 58)).heap[w.heap.size + 1]? = some (Obj.cells #[.bool false, .bool false, .int .i64 0, .int .i64 0, .slice none 0 0, .slice none 0 0, .slice none 0 0, .int .i64 0, .bool false, .bool false, .bool false] 58)) := hide (by have := heap_alloc_new (w.alloc (Obj.cells #[.bool x.rd, .bool x.wt, .int .i64 x.mode, .int .i64 x.size, .slice oa x.out.length oc, .slice ia x.inn.length ic, .slice ba x.back.length bc, .int .i64 x.dir, .bool x.fin, .bool x.bad, .bool x.closed] 58)) (Obj.cells #[.bool false, .bool false, .int .i64 0, .int .i64 0, .slice none 0 0, .slice none 0 0, .slice none 0 0, .int .i64 0, .bool false, .bool false, .bool false] 58); rw [show (w.alloc (Obj.cells #[.bool x.rd, .bool x.wt, .int .i64 x.mode, .int .i64 x.size, .slice oa x.out.length oc, .slice ia x.inn.length ic, .slice ba x.back.length bc, .int .i64 x.dir, .bool x.fin, .bool x.bad, .bool x.closed] 58)).heap.size = w.heap.size + 1 from Array.size_push ..] at this; exact this)
  generalize (w.alloc (Obj.cells #[.bool x.rd, .bool x.wt, .int .i64 x.mode, .int .i64 x.size, .slice oa x.out.length oc, .slice ia x.inn.length ic, .slice ba x.back.length bc, .int .i64 x.dir, .bool x.fin, .bool x.bad, .bool x.closed] 58)).alloc (Obj.cells #[.bool false, .bool false, .int .i64 0, .int .i64 0, .slice none 0 0, .slice none 0 0, .slice none 0 0, .int .i64 0, .bool false, .bool false, .bool false] 58) = w0 at *
  have hz0 : w.heap.size + 1 < w0.heap.size := (Array.getElem?_eq_some_iff.1 HZ0.out).1
  refine (HRf.out _).mono ?_
  rintro _ w1 ⟨rfl, hB1⟩
  have HB1 := hide (HB0.out.trans (hB1.mono HB0.out.size))
  have HS1 := hide (HS0.out.below hB1)
  have HZ1 := hide ((hB1.block (w.heap.size + 1) hz0).trans HZ0.out)
  have hz1 := hB1.size
  clear hB1 HS0 HZ0 HB0 HRf
  obtain ⟨c0, c1, c2, c3, c4, c5, c6, c7, c8, c9, c10⟩ := HS1.out.cs
  by_cases hn : x.refuse true = 0
  case neg =>
    rw [if_pos hn] at hq
    obtain ⟨rfl, rfl, rfl, rfl⟩ : x = qx ∧ 0 = qn ∧ x.refuse true = qe ∧ s = qs := by simpa using hq
    obtain ⟨nw, hnw⟩ : ∃ nw, nw = x.refuse true := ⟨_, rfl⟩
    rw [← hnw] at hn ⊢
    have HNw := hide hnw
    have hn2 : (nw == 0) = false := by simp [hn]
    have hn3 : (nw != 0) = true := by simp [hn]
    clear hq hnw HDv
    go_wp2_with fail
    refine (HCp.out _ HB1.out).mono ?_
    rintro _ w2 ⟨o1, i1, b1, rfl, y3, y4, y5, hB2⟩
    have hOu := SOut.of_own hT ((hT s).keep hA (fun j _ hj => HB1.out.block j hj) HB1.out.size) (fun j e => Nat.lt_of_lt_of_le (hO j e) HB1.out.size) y3 y4 y5 hB2
    obtain ⟨a1, k1, rfl⟩ := owns_slice y3
    obtain ⟨a2, k2, rfl⟩ := owns_slice y4
    obtain ⟨a3, k3, rfl⟩ := owns_slice y5
    have HOu := hide hOu
    have HZ3 := hide ((hB2.block (w.heap.size + 1) (by omega)).trans HZ1.out)
    clear hOu y3 y4 y5 hB2 c0 c1 c2 c3 c4 c5 c6 c7 c8 c9 c10
    have f0 := frozen_of_row w2 (w.heap.size + 1) 0 _ _ HZ3.out
    have f1 := frozen_of_row w2 (w.heap.size + 1) 1 _ _ HZ3.out
    have f2 := frozen_of_row w2 (w.heap.size + 1) 2 _ _ HZ3.out
    have f3 := frozen_of_row w2 (w.heap.size + 1) 3 _ _ HZ3.out
    have f4 := frozen_of_row w2 (w.heap.size + 1) 4 _ _ HZ3.out
    have f5 := frozen_of_row w2 (w.heap.size + 1) 5 _ _ HZ3.out
    have f6 := frozen_of_row w2 (w.heap.size + 1) 6 _ _ HZ3.out
    have f7 := frozen_of_row w2 (w.heap.size + 1) 7 _ _ HZ3.out
    have f8 := frozen_of_row w2 (w.heap.size + 1) 8 _ _ HZ3.out
    have f9 := frozen_of_row w2 (w.heap.size + 1) 9 _ _ HZ3.out
    have f10 := frozen_of_row w2 (w.heap.size + 1) 10 _ _ HZ3.out
    have d0 := cell_of_row w2 (w.heap.size + 1) 0 _ _ _ HZ3.out
    have d1 := cell_of_row w2 (w.heap.size + 1) 1 _ _ _ HZ3.out
    have d2 := cell_of_row w2 (w.heap.size + 1) 2 _ _ _ HZ3.out
    have d3 := cell_of_row w2 (w.heap.size + 1) 3 _ _ _ HZ3.out
    have d4 := cell_of_row w2 (w.heap.size + 1) 4 _ _ _ HZ3.out
    have d5 := cell_of_row w2 (w.heap.size + 1) 5 _ _ _ HZ3.out
    have d6 := cell_of_row w2 (w.heap.size + 1) 6 _ _ _ HZ3.out
    have d7 := cell_of_row w2 (w.heap.size + 1) 7 _ _ _ HZ3.out
    have d8 := cell_of_row w2 (w.heap.size + 1) 8 _ _ _ HZ3.out
    have d9 := cell_of_row w2 (w.heap.size + 1) 9 _ _ _ HZ3.out
    have d10 := cell_of_row w2 (w.heap.size + 1) 10 _ _ _ HZ3.out
    simp at d0 d1 d2 d3 d4 d5 d6 d7 d8 d9 d10
    go_wp2
    obtain ⟨e1, e2⟩ := st_fill w2 (w.heap.size + 1) x (.slice a1 x.out.length k1) (.slice a2 x.inn.length k2) (.slice a3 x.back.length k3) HZ3.out
    refine bodyPost_ret (res_three rfl _ (w.heap.size + 1) rfl x _ _ _ e1) rfl ?_
    exact ⟨_, _, _, by rw [← HNw.out]; rfl, SOut.fin hT HOu.out HB1.out (by omega) (Nat.le_succ _) hO e2⟩
  rw [if_neg (by simp [hn])] at hq
  have hrf := hn
  rw [hn]
  clear hn
  have hlen : x.out.length ≤ 65536 := by have := may_buf (refuse_may hrf).1; omega
  have hp := HDv.out _ HB1.out hrf
  have hG2 := (hG.put 3 s x.out hg hlen).2
  have hdo := deliver_ok D x s
  have hdh : (x.deliver D s).1.inn = x.inn ∧ (x.deliver D s).1.back = x.back := by unfold SS.deliver SS.mark; split <;> exact ⟨rfl, rfl⟩
  have hG3 : G 3 (x.deliver D s).2.2 := hG2
  clear hG2 hlen HDv HCp
  generalize x.deliver D s = X at *
  obtain ⟨dx, de, ds⟩ := X
  simp only at hp hq hdo hG3 hdh
  have HP := hide hp
  have HDo := hide hdo
  have HG3 := hide hG3
  have HDh := hide hdh
  clear hp hdo hG3 hdh
  go_wp2_with fail
  refine HP.out.mono ?_
  rintro _ w2 ⟨o1, i1, b1, rfl, hS⟩
  obtain ⟨a1, k1, rfl, -⟩ := hS.choose_spec.1.so
  obtain ⟨a2, k2, rfl, -⟩ := hS.choose_spec.1.si
  obtain ⟨a3, k3, rfl, -⟩ := hS.choose_spec.1.sb
  obtain ⟨hst, O2, hV⟩ := QV.of_out hT HB1.out HS1.out HZ1.out (by omega) (Nat.le_refl _) (Nat.le_succ _) hO hS
  unfold filled at hV
  have HV2 := hide hV
  have HS2 := hide hst
  clear hS hst hV HP HS1 HZ1 c0 c1 c2 c3 c4 c5 c6 c7 c8 c9 c10
  obtain ⟨c0, c1, c2, c3, c4, c5, c6, c7, c8, c9, c10⟩ := HS2.out.cs
  have s0 := HS2.out.soft 0
  have s1 := HS2.out.soft 1
  have s2 := HS2.out.soft 2
  have s3 := HS2.out.soft 3
  have s4 := HS2.out.soft 4
  have s5 := HS2.out.soft 5
  have s6 := HS2.out.soft 6
  have s7 := HS2.out.soft 7
  have s8 := HS2.out.soft 8
  have s9 := HS2.out.soft 9
  have s10 := HS2.out.soft 10
  go_upto_region 5 with fail
  clear c0 c1 c2 c3 c4 c5 c6 c7 c8 c9 c10
  clear s0 s1 s2 s3 s4 s5 s6 s7 s8 s9 s10
  clear HS2
  generalize (((((((((((w2.setCell ⟨w.heap.size, 0, none⟩ (.bool dx.rd)).setCell ⟨w.heap.size, 1, none⟩ (.bool dx.wt)).setCell ⟨w.heap.size, 2, none⟩ (.int .i64 dx.mode)).setCell ⟨w.heap.size, 3, none⟩ (.int .i64 dx.size)).setCell ⟨w.heap.size, 4, none⟩ (.slice a1 dx.out.length k1)).setCell ⟨w.heap.size, 5, none⟩ (.slice a2 dx.inn.length k2)).setCell ⟨w.heap.size, 6, none⟩ (.slice a3 dx.back.length k3)).setCell ⟨w.heap.size, 7, none⟩ (.int .i64 dx.dir)).setCell ⟨w.heap.size, 8, none⟩ (.bool dx.fin)).setCell ⟨w.heap.size, 9, none⟩ (.bool dx.bad)).setCell ⟨w.heap.size, 10, none⟩ (.bool dx.closed)) = w3 at *
  by_cases he : de = 0
  case neg =>
    rw [if_pos he] at hq
    obtain ⟨rfl, rfl, rfl, rfl⟩ : dx = qx ∧ 0 = qn ∧ de = qe ∧ ds = qs := by simpa using hq
    have hb2 : (de == 0) = false := by simp [he]
    have hb3 : (de != 0) = true := by simp [he]
    clear hq he
    obtain ⟨e1, e2⟩ := HV2.out.out hT
    unfold filled at e1 e2
    have HE := hide e1
    have HF := hide e2
    have HZr := hide HV2.out.zr
    obtain ⟨c0, c1, c2, c3, c4, c5, c6, c7, c8, c9, c10⟩ := HV2.out.st.cs
    have f0 := frozen_of_row w3 (w.heap.size + 1) 0 _ _ HZr.out
    have f1 := frozen_of_row w3 (w.heap.size + 1) 1 _ _ HZr.out
    have f2 := frozen_of_row w3 (w.heap.size + 1) 2 _ _ HZr.out
    have f3 := frozen_of_row w3 (w.heap.size + 1) 3 _ _ HZr.out
    have f4 := frozen_of_row w3 (w.heap.size + 1) 4 _ _ HZr.out
    have f5 := frozen_of_row w3 (w.heap.size + 1) 5 _ _ HZr.out
    have f6 := frozen_of_row w3 (w.heap.size + 1) 6 _ _ HZr.out
    have f7 := frozen_of_row w3 (w.heap.size + 1) 7 _ _ HZr.out
    have f8 := frozen_of_row w3 (w.heap.size + 1) 8 _ _ HZr.out
    have f9 := frozen_of_row w3 (w.heap.size + 1) 9 _ _ HZr.out
    have f10 := frozen_of_row w3 (w.heap.size + 1) 10 _ _ HZr.out
    have d0 := cell_of_row w3 (w.heap.size + 1) 0 _ _ _ HZr.out
    have d1 := cell_of_row w3 (w.heap.size + 1) 1 _ _ _ HZr.out
    have d2 := cell_of_row w3 (w.heap.size + 1) 2 _ _ _ HZr.out
    have d3 := cell_of_row w3 (w.heap.size + 1) 3 _ _ _ HZr.out
    have d4 := cell_of_row w3 (w.heap.size + 1) 4 _ _ _ HZr.out
    have d5 := cell_of_row w3 (w.heap.size + 1) 5 _ _ _ HZr.out
    have d6 := cell_of_row w3 (w.heap.size + 1) 6 _ _ _ HZr.out
    have d7 := cell_of_row w3 (w.heap.size + 1) 7 _ _ _ HZr.out
    have d8 := cell_of_row w3 (w.heap.size + 1) 8 _ _ _ HZr.out
    have d9 := cell_of_row w3 (w.heap.size + 1) 9 _ _ _ HZr.out
    have d10 := cell_of_row w3 (w.heap.size + 1) 10 _ _ _ HZr.out
    simp at d0 d1 d2 d3 d4 d5 d6 d7 d8 d9 d10
    clear e1 e2
    go_wp2
    refine bodyPost_ret (res_three rfl _ (w.heap.size + 1) rfl dx _ _ _ HE.out) rfl ?_
    exact ⟨_, _, _, rfl, HF.out⟩
  subst he
  rw [if_neg (by simp)] at hq
  unfold SS.told at hq
  have HSk := hide (Q.seek 0 1 HV2.out.raw (hK 2 ds 0 1 HG3.out).1 (by omega))
  have hpt := Q.told 0 1 HV2.out.raw
  obtain ⟨p, f, t, hk⟩ : ∃ p f t, K ds 0 1 = (p, f, t) := ⟨_, _, _, rfl⟩
  rw [hk] at HSk hq hpt
  simp only at HSk hq hpt
  clear hk
  have hm := Q.mseek
  have hc := Q.cseek
  go_wp2_with fail
  refine HSk.out.mono ?_
  rintro _ w4 ⟨rfl, hS4⟩
  obtain ⟨O4, hV4, -⟩ := HV2.out.step hT hS4
  have HV4 := hide hV4
  clear hV4 hS4 HV2 HSk hm hc
  by_cases hf : f = 0
  case neg =>
    rw [if_pos hf] at hq
    obtain ⟨rfl, rfl, rfl, rfl⟩ : dx = qx ∧ 0 = qn ∧ f = qe ∧ t = qs := by simpa using hq
    have hb2 : (f == 0) = false := by simp [hf]
    have hb3 : (f != 0) = true := by simp [hf]
    clear hq hf hpt
    obtain ⟨e1, e2⟩ := HV4.out.out hT
    unfold filled at e1 e2
    have HE := hide e1
    have HF := hide e2
    have HZr := hide HV4.out.zr
    obtain ⟨c0, c1, c2, c3, c4, c5, c6, c7, c8, c9, c10⟩ := HV4.out.st.cs
    have f0 := frozen_of_row w4 (w.heap.size + 1) 0 _ _ HZr.out
    have f1 := frozen_of_row w4 (w.heap.size + 1) 1 _ _ HZr.out
    have f2 := frozen_of_row w4 (w.heap.size + 1) 2 _ _ HZr.out
    have f3 := frozen_of_row w4 (w.heap.size + 1) 3 _ _ HZr.out
    have f4 := frozen_of_row w4 (w.heap.size + 1) 4 _ _ HZr.out
    have f5 := frozen_of_row w4 (w.heap.size + 1) 5 _ _ HZr.out
    have f6 := frozen_of_row w4 (w.heap.size + 1) 6 _ _ HZr.out
    have f7 := frozen_of_row w4 (w.heap.size + 1) 7 _ _ HZr.out
    have f8 := frozen_of_row w4 (w.heap.size + 1) 8 _ _ HZr.out
    have f9 := frozen_of_row w4 (w.heap.size + 1) 9 _ _ HZr.out
    have f10 := frozen_of_row w4 (w.heap.size + 1) 10 _ _ HZr.out
    have d0 := cell_of_row w4 (w.heap.size + 1) 0 _ _ _ HZr.out
    have d1 := cell_of_row w4 (w.heap.size + 1) 1 _ _ _ HZr.out
    have d2 := cell_of_row w4 (w.heap.size + 1) 2 _ _ _ HZr.out
    have d3 := cell_of_row w4 (w.heap.size + 1) 3 _ _ _ HZr.out
    have d4 := cell_of_row w4 (w.heap.size + 1) 4 _ _ _ HZr.out
    have d5 := cell_of_row w4 (w.heap.size + 1) 5 _ _ _ HZr.out
    have d6 := cell_of_row w4 (w.heap.size + 1) 6 _ _ _ HZr.out
    have d7 := cell_of_row w4 (w.heap.size + 1) 7 _ _ _ HZr.out
    have d8 := cell_of_row w4 (w.heap.size + 1) 8 _ _ _ HZr.out
    have d9 := cell_of_row w4 (w.heap.size + 1) 9 _ _ _ HZr.out
    have d10 := cell_of_row w4 (w.heap.size + 1) 10 _ _ _ HZr.out
    simp at d0 d1 d2 d3 d4 d5 d6 d7 d8 d9 d10
    clear e1 e2
    go_wp2
    refine bodyPost_ret (res_three rfl _ (w.heap.size + 1) rfl dx _ _ _ HE.out) rfl ?_
    exact ⟨_, _, _, rfl, HF.out⟩
  subst hf
  rw [if_neg (by simp)] at hq
  have hxo : dx.out = [] := by rw [HDo.out (by trivial)]
  have hle : dx.inn.length ≤ 140737488351232 ∧ dx.back.length ≤ 140737488351232 := by rw [HDh.out.1, HDh.out.2]; exact ⟨hi, hb⟩
  have HH := hide (fun W => pheld14 dx a1 a2 a3 k1 k2 k3 W (by rw [hxo]; simp) hle.1 hle.2)
  have HHo : Hid ((dx.out.length : Int) + dx.inn.length + dx.back.length = dx.hold) := hide (by rw [hxo]; unfold SS.hold; simp)
  rw [HHo.out] at HH
  have hh0 : 0 ≤ dx.hold := by unfold SS.hold; omega
  clear hxo hle HHo
  generalize dx.hold = H at *
  obtain ⟨c0, c1, c2, c3, c4, c5, c6, c7, c8, c9, c10⟩ := HV4.out.st.cs
  go_wp2_with fail
  refine (HH.out _).mono ?_
  rintro _ w5 ⟨rfl, hB5⟩
  have HV5 := hide (HV4.out.below hT hB5)
  clear hB5 HV4 HH c0 c1 c2 c3 c4 c5 c6 c7 c8 c9 c10
  by_cases hlt : p < H
  case pos =>
    rw [if_pos hlt] at hq
    obtain ⟨rfl, rfl, rfl, rfl⟩ : dx = qx ∧ 0 = qn ∧ 4 = qe ∧ t = qs := by simpa using hq
    clear hq hpt hh0
    obtain ⟨e1, e2⟩ := HV5.out.out hT
    unfold filled at e1 e2
    have HE := hide e1
    have HF := hide e2
    have HZr := hide HV5.out.zr
    obtain ⟨c0, c1, c2, c3, c4, c5, c6, c7, c8, c9, c10⟩ := HV5.out.st.cs
    have f0 := frozen_of_row w5 (w.heap.size + 1) 0 _ _ HZr.out
    have f1 := frozen_of_row w5 (w.heap.size + 1) 1 _ _ HZr.out
    have f2 := frozen_of_row w5 (w.heap.size + 1) 2 _ _ HZr.out
    have f3 := frozen_of_row w5 (w.heap.size + 1) 3 _ _ HZr.out
    have f4 := frozen_of_row w5 (w.heap.size + 1) 4 _ _ HZr.out
    have f5 := frozen_of_row w5 (w.heap.size + 1) 5 _ _ HZr.out
    have f6 := frozen_of_row w5 (w.heap.size + 1) 6 _ _ HZr.out
    have f7 := frozen_of_row w5 (w.heap.size + 1) 7 _ _ HZr.out
    have f8 := frozen_of_row w5 (w.heap.size + 1) 8 _ _ HZr.out
    have f9 := frozen_of_row w5 (w.heap.size + 1) 9 _ _ HZr.out
    have f10 := frozen_of_row w5 (w.heap.size + 1) 10 _ _ HZr.out
    have d0 := cell_of_row w5 (w.heap.size + 1) 0 _ _ _ HZr.out
    have d1 := cell_of_row w5 (w.heap.size + 1) 1 _ _ _ HZr.out
    have d2 := cell_of_row w5 (w.heap.size + 1) 2 _ _ _ HZr.out
    have d3 := cell_of_row w5 (w.heap.size + 1) 3 _ _ _ HZr.out
    have d4 := cell_of_row w5 (w.heap.size + 1) 4 _ _ _ HZr.out
    have d5 := cell_of_row w5 (w.heap.size + 1) 5 _ _ _ HZr.out
    have d6 := cell_of_row w5 (w.heap.size + 1) 6 _ _ _ HZr.out
    have d7 := cell_of_row w5 (w.heap.size + 1) 7 _ _ _ HZr.out
    have d8 := cell_of_row w5 (w.heap.size + 1) 8 _ _ _ HZr.out
    have d9 := cell_of_row w5 (w.heap.size + 1) 9 _ _ _ HZr.out
    have d10 := cell_of_row w5 (w.heap.size + 1) 10 _ _ _ HZr.out
    simp at d0 d1 d2 d3 d4 d5 d6 d7 d8 d9 d10
    clear e1 e2
    go_wp2
    refine bodyPost_ret (res_three rfl _ (w.heap.size + 1) rfl dx _ _ _ HE.out) rfl ?_
    exact ⟨_, _, _, rfl, HF.out⟩
  rw [if_neg hlt] at hq
  obtain ⟨rfl, rfl, rfl, rfl⟩ : dx = qx ∧ p - H = qn ∧ 0 = qe ∧ t = qs := by simpa using hq
  have HW : Hid (wrap64 (p - H) = p - H) := hide (by unfold wrap64; omega)
  have hb4 : decide (p < H) = false := by simp [hlt]
  clear hq hpt hh0 hlt
  obtain ⟨e1, e2⟩ := HV5.out.out hT
  unfold filled at e1 e2
  have HE := hide e1
  have HF := hide e2
  have HZr := hide HV5.out.zr
  obtain ⟨c0, c1, c2, c3, c4, c5, c6, c7, c8, c9, c10⟩ := HV5.out.st.cs
  have f0 := frozen_of_row w5 (w.heap.size + 1) 0 _ _ HZr.out
  have f1 := frozen_of_row w5 (w.heap.size + 1) 1 _ _ HZr.out
  have f2 := frozen_of_row w5 (w.heap.size + 1) 2 _ _ HZr.out
  have f3 := frozen_of_row w5 (w.heap.size + 1) 3 _ _ HZr.out
  have f4 := frozen_of_row w5 (w.heap.size + 1) 4 _ _ HZr.out
  have f5 := frozen_of_row w5 (w.heap.size + 1) 5 _ _ HZr.out
  have f6 := frozen_of_row w5 (w.heap.size + 1) 6 _ _ HZr.out
  have f7 := frozen_of_row w5 (w.heap.size + 1) 7 _ _ HZr.out
  have f8 := frozen_of_row w5 (w.heap.size + 1) 8 _ _ HZr.out
  have f9 := frozen_of_row w5 (w.heap.size + 1) 9 _ _ HZr.out
  have f10 := frozen_of_row w5 (w.heap.size + 1) 10 _ _ HZr.out
  have d0 := cell_of_row w5 (w.heap.size + 1) 0 _ _ _ HZr.out
  have d1 := cell_of_row w5 (w.heap.size + 1) 1 _ _ _ HZr.out
  have d2 := cell_of_row w5 (w.heap.size + 1) 2 _ _ _ HZr.out
  have d3 := cell_of_row w5 (w.heap.size + 1) 3 _ _ _ HZr.out
  have d4 := cell_of_row w5 (w.heap.size + 1) 4 _ _ _ HZr.out
  have d5 := cell_of_row w5 (w.heap.size + 1) 5 _ _ _ HZr.out
  have d6 := cell_of_row w5 (w.heap.size + 1) 6 _ _ _ HZr.out
  have d7 := cell_of_row w5 (w.heap.size + 1) 7 _ _ _ HZr.out
  have d8 := cell_of_row w5 (w.heap.size + 1) 8 _ _ _ HZr.out
  have d9 := cell_of_row w5 (w.heap.size + 1) 9 _ _ _ HZr.out
  have d10 := cell_of_row w5 (w.heap.size + 1) 10 _ _ _ HZr.out
  simp at d0 d1 d2 d3 d4 d5 d6 d7 d8 d9 d10
  clear e1 e2
  go_wp2
  refine bodyPost_ret (res_three rfl _ (w.heap.size + 1) rfl dx _ _ _ HE.out) rfl ?_
  exact ⟨_, _, _, by rw [HW.out]; rfl, HF.out⟩
end Go.Proofs.YtkkommomefmpgaaGreat

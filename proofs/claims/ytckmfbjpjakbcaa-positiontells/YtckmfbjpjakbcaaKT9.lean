/- What the proof stands on, part 9: the contracts of the program's calls that it reaches. -/
import Derived.Test.YtckmfbjpjakbcaaKT8
import Derived.Deep.Cut
import Derived.KernelRfl
import Derived.Lib.SlBytesConst
import Derived.ProofKit
import Derived.OpenShut
import Derived.ChangeArms
import Derived.ChangeSlices
import Derived.SizedLaws
import Derived.Deep.Slices
import Derived.Deep.DeepCutAuto
/- Position: Seek, over any Raw. -/
namespace Go.Proofs.Ytckmfbjpjakbcaa
open Go.RowKit

set_option maxRecDepth 100000 in
set_option maxHeartbeats 4000000 in
theorem pseek_any {S : Type} {D : RawD S} {T : TypeId} {v : Value} {fr fw : FuncId} {rok wok : S → Prop} {At : World → (Nat → Prop) → S → Prop} (R : RawM D T v fr fw rok wok At) (hT : ∀ s, OAt (fun w O => At w O s)) {G : Nat → S → Prop} (hG : Bears D rok wok G) {K : SkV S} {fs : FuncId} {sok : S → Prop} (Q : RawS K T v fs sok At) (hK : BearsS K sok G) {w : World} {O P : Nat → Prop} {s : S} {x : SS} {o i b : Value} (off wh : Int) (h : SIn w P x o i b) (hA : At w O s) (hO : ∀ j, O j → j < w.heap.size) (hg : G 4 s) (ho : x.out.length ≤ 140737488351232) (hi : x.inn.length ≤ 140737488351232) (hb : x.back.length ≤ 140737488351232) (hoff : -9223372036854775808 ≤ off ∧ off ≤ 9223372036854775807) :
    Calls Try.prog 10 #[.agg #[.bool x.rd, .bool x.wt, .int .i64 x.mode, .int .i64 x.size, o, i, b, .int .i64 x.dir, .bool x.fin, .bool x.bad, .bool x.closed], .iface T v, .int .i64 off, .int .i64 wh] w fun e w' => ∃ o' i' b', e = .returned (.tuple #[.agg #[.bool (x.seek D K s off wh).1.rd, .bool (x.seek D K s off wh).1.wt, .int .i64 (x.seek D K s off wh).1.mode, .int .i64 (x.seek D K s off wh).1.size, o', i', b', .int .i64 (x.seek D K s off wh).1.dir, .bool (x.seek D K s off wh).1.fin, .bool (x.seek D K s off wh).1.bad, .bool (x.seek D K s off wh).1.closed], .int .i64 (x.seek D K s off wh).2.1, .int .i64 (x.seek D K s off wh).2.2.1]) ∧ SOut At w O (x.seek D K s off wh).1 (x.seek D K s off wh).2.2.2 o' i' b' w' := by
  have HDv := hide (fun (W : World) (hW : Below w.heap.size w W) (hr : x.refuse true = 0) => delivered_any R hT hG (h.below hW) ((hT s).keep hA (fun j _ hj => hW.block j hj) hW.size) (fun j e => Nat.lt_of_lt_of_le (hO j e) hW.size) (hG.less _ _ (hG.less _ _ hg)) ho hi hb hr)
  have HCp := hide (fun (W : World) (hW : Below w.heap.size w W) => pcopied_any x o i b P W (h.below hW) ho hi hb)
  obtain ⟨oa, oc, rfl, -⟩ := h.so
  obtain ⟨ia, ic, rfl, -⟩ := h.si
  obtain ⟨ba, bc, rfl, -⟩ := h.sb
  clear h
  have HRf := hide (fun W => seekRefusal_any x oa ia ba oc ic bc T v wh W hi hb)
  have HOf := hide hoff
  clear hoff
  generalize hq : x.seek D K s off wh = q
  obtain ⟨qx, qn, qe, qs⟩ := q
  have hq : (if x.srefuse true wh ≠ 0 then (x, 0, x.srefuse true wh, s) else if (x.deliver D s).2.1 ≠ 0 then ((x.deliver D s).1, 0, (x.deliver D s).2.1, (x.deliver D s).2.2) else (x.deliver D s).1.sought K (x.deliver D s).2.2 off wh) = (qx, qn, qe, qs) := by
    rw [← hq]
    unfold SS.seek SS.srefuse
    by_cases h0 : x.refuse true = 0
    · by_cases h1 : wh < 0 ∨ 2 < wh
      · simp [h0, h1]
      · simp [h0, h1]
    · simp [h0]
  go_enter Try.func10, Try.ntmps10
  go_wp2_with fail
  have HB0 := hide ((recv_below w (Obj.cells #[.bool x.rd, .bool x.wt, .int .i64 x.mode, .int .i64 x.size, .slice oa x.out.length oc, .slice ia x.inn.length ic, .slice ba x.back.length bc, .int .i64 x.dir, .bool x.fin, .bool x.bad, .bool x.closed] 29)).trans ((recv_below (w.alloc (Obj.cells #[.bool x.rd, .bool x.wt, .int .i64 x.mode, .int .i64 x.size, .slice oa x.out.length oc, .slice ia x.inn.length ic, .slice ba x.back.length bc, .int .i64 x.dir, .bool x.fin, .bool x.bad, .bool x.closed] 29)) (Obj.cells #[.bool false, .bool false, .int .i64 0, .int .i64 0, .slice none 0 0, .slice none 0 0, .slice none 0 0, .int .i64 0, .bool false, .bool false, .bool false] 29)).mono (recv_below w (Obj.cells #[.bool x.rd, .bool x.wt, .int .i64 x.mode, .int .i64 x.size, .slice oa x.out.length oc, .slice ia x.inn.length ic, .slice ba x.back.length bc, .int .i64 x.dir, .bool x.fin, .bool x.bad, .bool x.closed] 29)).size))
  have HS0 := hide ((StAt.new w x (.slice oa x.out.length oc) (.slice ia x.inn.length ic) (.slice ba x.back.length bc)).below (recv_below _ (Obj.cells #[.bool false, .bool false, .int .i64 0, .int .i64 0, .slice none 0 0, .slice none 0 0, .slice none 0 0, .int .i64 0, .bool false, .bool false, .bool false] 29)))
  have HZ0 : Hid (((w.alloc (Obj.cells #[.bool x.rd, .bool x.wt, .int .i64 x.mode, .int .i64 x.size, .slice oa x.out.length oc, .slice ia x.inn.length ic, .slice ba x.back.length bc, .int .i64 x.dir, .bool x.fin, .bool x.bad, .bool x.closed] 29)).alloc (Obj.cells #[.bool false, .bool false, .int .i64 0, .int .i64 0, .slice none 0 0, .slice none 0 0, .slice none 0 0, .int .i64 0, .bool false, .bool false, .bool false] 29)).heap[w.heap.size + 1]? = some (Obj.cells #[.bool false, .bool false, .int .i64 0, .int .i64 0, .slice none 0 0, .slice none 0 0, .slice none 0 0, .int .i64 0, .bool false, .bool false, .bool false] 29)) := hide (by have := heap_alloc_new (w.alloc (Obj.cells #[.bool x.rd, .bool x.wt, .int .i64 x.mode, .int .i64 x.size, .slice oa x.out.length oc, .slice ia x.inn.length ic, .slice ba x.back.length bc, .int .i64 x.dir, .bool x.fin, .bool x.bad, .bool x.closed] 29)) (Obj.cells #[.bool false, .bool false, .int .i64 0, .int .i64 0, .slice none 0 0, .slice none 0 0, .slice none 0 0, .int .i64 0, .bool false, .bool false, .bool false] 29); rw [show (w.alloc (Obj.cells #[.bool x.rd, .bool x.wt, .int .i64 x.mode, .int .i64 x.size, .slice oa x.out.length oc, .slice ia x.inn.length ic, .slice ba x.back.length bc, .int .i64 x.dir, .bool x.fin, .bool x.bad, .bool x.closed] 29)).heap.size = w.heap.size + 1 from Array.size_push ..] at this; exact this)
  generalize (w.alloc (Obj.cells #[.bool x.rd, .bool x.wt, .int .i64 x.mode, .int .i64 x.size, .slice oa x.out.length oc, .slice ia x.inn.length ic, .slice ba x.back.length bc, .int .i64 x.dir, .bool x.fin, .bool x.bad, .bool x.closed] 29)).alloc (Obj.cells #[.bool false, .bool false, .int .i64 0, .int .i64 0, .slice none 0 0, .slice none 0 0, .slice none 0 0, .int .i64 0, .bool false, .bool false, .bool false] 29) = w0 at *
  have hz0 : w.heap.size + 1 < w0.heap.size := (Array.getElem?_eq_some_iff.1 HZ0.out).1
  refine (HRf.out _).mono ?_
  rintro _ w1 ⟨rfl, hB1⟩
  have HB1 := hide (HB0.out.trans (hB1.mono HB0.out.size))
  have HS1 := hide (HS0.out.below hB1)
  have HZ1 := hide ((hB1.block (w.heap.size + 1) hz0).trans HZ0.out)
  have hz1 := hB1.size
  clear hB1 HS0 HZ0 HB0 HRf
  obtain ⟨c0, c1, c2, c3, c4, c5, c6, c7, c8, c9, c10⟩ := HS1.out.cs
  by_cases hn : x.srefuse true wh = 0
  case neg =>
    rw [if_pos hn] at hq
    obtain ⟨rfl, rfl, rfl, rfl⟩ : x = qx ∧ 0 = qn ∧ x.srefuse true wh = qe ∧ s = qs := by simpa using hq
    obtain ⟨nw, hnw⟩ : ∃ nw, nw = x.srefuse true wh := ⟨_, rfl⟩
    rw [← hnw] at hn ⊢
    have HNw := hide hnw
    have hn2 : (nw == 0) = false := by simp [hn]
    have hn3 : (nw != 0) = true := by simp [hn]
    clear hq hnw HDv
    go_wp2_with fail
    refine (HCp.out _ HB1.out).mono ?_
    rintro _ w2 ⟨o1, i1, b1, rfl, y3, y4, y5, hB2⟩
    have hOu := SOut.of_own hT ((hT s).keep hA (fun j _ hj => HB1.out.block j hj) HB1.out.size) (fun j e => Nat.lt_of_lt_of_le (hO j e) HB1.out.size) y3 y4 y5 hB2
    obtain ⟨a1, k1, rfl⟩ := owns_slice y3
    obtain ⟨a2, k2, rfl⟩ := owns_slice y4
    obtain ⟨a3, k3, rfl⟩ := owns_slice y5
    have HOu := hide hOu
    have HZ3 := hide ((hB2.block (w.heap.size + 1) (by omega)).trans HZ1.out)
    clear hOu y3 y4 y5 hB2 c0 c1 c2 c3 c4 c5 c6 c7 c8 c9 c10
    have f0 := frozen_of_row w2 (w.heap.size + 1) 0 _ _ HZ3.out
    have f1 := frozen_of_row w2 (w.heap.size + 1) 1 _ _ HZ3.out
    have f2 := frozen_of_row w2 (w.heap.size + 1) 2 _ _ HZ3.out
    have f3 := frozen_of_row w2 (w.heap.size + 1) 3 _ _ HZ3.out
    have f4 := frozen_of_row w2 (w.heap.size + 1) 4 _ _ HZ3.out
    have f5 := frozen_of_row w2 (w.heap.size + 1) 5 _ _ HZ3.out
    have f6 := frozen_of_row w2 (w.heap.size + 1) 6 _ _ HZ3.out
    have f7 := frozen_of_row w2 (w.heap.size + 1) 7 _ _ HZ3.out
    have f8 := frozen_of_row w2 (w.heap.size + 1) 8 _ _ HZ3.out
    have f9 := frozen_of_row w2 (w.heap.size + 1) 9 _ _ HZ3.out
    have f10 := frozen_of_row w2 (w.heap.size + 1) 10 _ _ HZ3.out
    have d0 := cell_of_row w2 (w.heap.size + 1) 0 _ _ _ HZ3.out
    have d1 := cell_of_row w2 (w.heap.size + 1) 1 _ _ _ HZ3.out
    have d2 := cell_of_row w2 (w.heap.size + 1) 2 _ _ _ HZ3.out
    have d3 := cell_of_row w2 (w.heap.size + 1) 3 _ _ _ HZ3.out
    have d4 := cell_of_row w2 (w.heap.size + 1) 4 _ _ _ HZ3.out
    have d5 := cell_of_row w2 (w.heap.size + 1) 5 _ _ _ HZ3.out
    have d6 := cell_of_row w2 (w.heap.size + 1) 6 _ _ _ HZ3.out
    have d7 := cell_of_row w2 (w.heap.size + 1) 7 _ _ _ HZ3.out
    have d8 := cell_of_row w2 (w.heap.size + 1) 8 _ _ _ HZ3.out
    have d9 := cell_of_row w2 (w.heap.size + 1) 9 _ _ _ HZ3.out
    have d10 := cell_of_row w2 (w.heap.size + 1) 10 _ _ _ HZ3.out
    simp at d0 d1 d2 d3 d4 d5 d6 d7 d8 d9 d10
    go_wp2
    obtain ⟨e1, e2⟩ := st_fill w2 (w.heap.size + 1) x (.slice a1 x.out.length k1) (.slice a2 x.inn.length k2) (.slice a3 x.back.length k3) HZ3.out
    refine bodyPost_ret (res_three rfl _ (w.heap.size + 1) rfl x _ _ _ e1) rfl ?_
    exact ⟨_, _, _, by rw [← HNw.out]; rfl, SOut.fin hT HOu.out HB1.out (by omega) (Nat.le_succ _) hO e2⟩
  rw [if_neg (by simp [hn])] at hq
  have hrf : x.refuse true = 0 := by
    unfold SS.srefuse at hn
    by_cases h0 : x.refuse true = 0
    · exact h0
    · rw [if_pos h0] at hn; exact hn
  rw [hn]
  clear hn
  have hlen : x.out.length ≤ 65536 := by have := may_buf (refuse_may hrf).1; omega
  have hp := HDv.out _ HB1.out hrf
  have hG2 := (hG.put 3 s x.out hg hlen).2
  have hdo := deliver_ok D x s
  have hdh : (x.deliver D s).1.inn = x.inn ∧ (x.deliver D s).1.back = x.back := by unfold SS.deliver SS.mark; split <;> exact ⟨rfl, rfl⟩
  have hG3 : G 3 (x.deliver D s).2.2 := hG2
  clear hG2 hlen HDv HCp
  generalize x.deliver D s = X at *
  obtain ⟨dx, de, ds⟩ := X
  simp only at hp hq hdo hG3 hdh
  have HP := hide hp
  have HDo := hide hdo
  have HG3 := hide hG3
  have HDh := hide hdh
  clear hp hdo hG3 hdh
  go_wp2_with fail
  refine HP.out.mono ?_
  rintro _ w2 ⟨o1, i1, b1, rfl, hS⟩
  obtain ⟨a1, k1, rfl, -⟩ := hS.choose_spec.1.so
  obtain ⟨a2, k2, rfl, -⟩ := hS.choose_spec.1.si
  obtain ⟨a3, k3, rfl, -⟩ := hS.choose_spec.1.sb
  obtain ⟨hst, O2, hV⟩ := QV.of_out hT HB1.out HS1.out HZ1.out (by omega) (Nat.le_refl _) (Nat.le_succ _) hO hS
  unfold filled at hV
  have HV2 := hide hV
  have HS2 := hide hst
  clear hS hst hV HP HS1 HZ1 c0 c1 c2 c3 c4 c5 c6 c7 c8 c9 c10
  obtain ⟨c0, c1, c2, c3, c4, c5, c6, c7, c8, c9, c10⟩ := HS2.out.cs
  have s0 := HS2.out.soft 0
  have s1 := HS2.out.soft 1
  have s2 := HS2.out.soft 2
  have s3 := HS2.out.soft 3
  have s4 := HS2.out.soft 4
  have s5 := HS2.out.soft 5
  have s6 := HS2.out.soft 6
  have s7 := HS2.out.soft 7
  have s8 := HS2.out.soft 8
  have s9 := HS2.out.soft 9
  have s10 := HS2.out.soft 10
  go_upto_region 5 with fail
  clear c0 c1 c2 c3 c4 c5 c6 c7 c8 c9 c10
  clear s0 s1 s2 s3 s4 s5 s6 s7 s8 s9 s10
  clear HS2
  generalize (((((((((((w2.setCell ⟨w.heap.size, 0, none⟩ (.bool dx.rd)).setCell ⟨w.heap.size, 1, none⟩ (.bool dx.wt)).setCell ⟨w.heap.size, 2, none⟩ (.int .i64 dx.mode)).setCell ⟨w.heap.size, 3, none⟩ (.int .i64 dx.size)).setCell ⟨w.heap.size, 4, none⟩ (.slice a1 dx.out.length k1)).setCell ⟨w.heap.size, 5, none⟩ (.slice a2 dx.inn.length k2)).setCell ⟨w.heap.size, 6, none⟩ (.slice a3 dx.back.length k3)).setCell ⟨w.heap.size, 7, none⟩ (.int .i64 dx.dir)).setCell ⟨w.heap.size, 8, none⟩ (.bool dx.fin)).setCell ⟨w.heap.size, 9, none⟩ (.bool dx.bad)).setCell ⟨w.heap.size, 10, none⟩ (.bool dx.closed)) = w3 at *
  by_cases he : de = 0
  case neg =>
    rw [if_pos he] at hq
    obtain ⟨rfl, rfl, rfl, rfl⟩ : dx = qx ∧ 0 = qn ∧ de = qe ∧ ds = qs := by simpa using hq
    have hb2 : (de == 0) = false := by simp [he]
    have hb3 : (de != 0) = true := by simp [he]
    clear hq he
    obtain ⟨e1, e2⟩ := HV2.out.out hT
    unfold filled at e1 e2
    have HE := hide e1
    have HF := hide e2
    have HZr := hide HV2.out.zr
    obtain ⟨c0, c1, c2, c3, c4, c5, c6, c7, c8, c9, c10⟩ := HV2.out.st.cs
    have f0 := frozen_of_row w3 (w.heap.size + 1) 0 _ _ HZr.out
    have f1 := frozen_of_row w3 (w.heap.size + 1) 1 _ _ HZr.out
    have f2 := frozen_of_row w3 (w.heap.size + 1) 2 _ _ HZr.out
    have f3 := frozen_of_row w3 (w.heap.size + 1) 3 _ _ HZr.out
    have f4 := frozen_of_row w3 (w.heap.size + 1) 4 _ _ HZr.out
    have f5 := frozen_of_row w3 (w.heap.size + 1) 5 _ _ HZr.out
    have f6 := frozen_of_row w3 (w.heap.size + 1) 6 _ _ HZr.out
    have f7 := frozen_of_row w3 (w.heap.size + 1) 7 _ _ HZr.out
    have f8 := frozen_of_row w3 (w.heap.size + 1) 8 _ _ HZr.out
    have f9 := frozen_of_row w3 (w.heap.size + 1) 9 _ _ HZr.out
    have f10 := frozen_of_row w3 (w.heap.size + 1) 10 _ _ HZr.out
    have d0 := cell_of_row w3 (w.heap.size + 1) 0 _ _ _ HZr.out
    have d1 := cell_of_row w3 (w.heap.size + 1) 1 _ _ _ HZr.out
    have d2 := cell_of_row w3 (w.heap.size + 1) 2 _ _ _ HZr.out
    have d3 := cell_of_row w3 (w.heap.size + 1) 3 _ _ _ HZr.out
    have d4 := cell_of_row w3 (w.heap.size + 1) 4 _ _ _ HZr.out
    have d5 := cell_of_row w3 (w.heap.size + 1) 5 _ _ _ HZr.out
    have d6 := cell_of_row w3 (w.heap.size + 1) 6 _ _ _ HZr.out
    have d7 := cell_of_row w3 (w.heap.size + 1) 7 _ _ _ HZr.out
    have d8 := cell_of_row w3 (w.heap.size + 1) 8 _ _ _ HZr.out
    have d9 := cell_of_row w3 (w.heap.size + 1) 9 _ _ _ HZr.out
    have d10 := cell_of_row w3 (w.heap.size + 1) 10 _ _ _ HZr.out
    simp at d0 d1 d2 d3 d4 d5 d6 d7 d8 d9 d10
    clear e1 e2
    go_wp2
    refine bodyPost_ret (res_three rfl _ (w.heap.size + 1) rfl dx _ _ _ HE.out) rfl ?_
    exact ⟨_, _, _, rfl, HF.out⟩
  subst he
  rw [if_neg (by simp)] at hq
  unfold SS.sought at hq
  have hxo : dx.out = [] := by rw [HDo.out (by trivial)]
  have hle : dx.inn.length ≤ 140737488351232 ∧ dx.back.length ≤ 140737488351232 := by rw [HDh.out.1, HDh.out.2]; exact ⟨hi, hb⟩
  have HH := hide (fun W => held_any dx a1 a2 a3 k1 k2 k3 W (by rw [hxo]; simp) hle.1 hle.2)
  have HHo : Hid ((dx.out.length : Int) + dx.inn.length + dx.back.length = dx.hold) := hide (by rw [hxo]; unfold SS.hold; simp)
  rw [HHo.out] at HH
  have HHb : Hid (0 ≤ dx.hold ∧ dx.hold ≤ 1000000000000000) := hide (by unfold SS.hold; omega)
  have HEm := hide (fun W => emptied_any dx a1 a2 a3 k1 k2 k3 W)
  clear hxo hle HHo
  generalize dx.hold = H at *
  obtain ⟨c0, c1, c2, c3, c4, c5, c6, c7, c8, c9, c10⟩ := HV2.out.st.cs
  go_wp2_with fail
  refine (HH.out _).mono ?_
  rintro _ w4 ⟨rfl, hB4⟩
  have HV4 := hide (HV2.out.below hT hB4)
  clear hB4 HV2 HH c0 c1 c2 c3 c4 c5 c6 c7 c8 c9 c10
  have HMv := hide (moved_any Q hK H off wh HV4.out.raw (hG.less _ _ HG3.out) HHb.out HOf.out)
  obtain ⟨p, f, t, hk⟩ : ∃ p f t, movedV K ds H off wh = (p, f, t) := ⟨_, _, _, rfl⟩
  rw [hk] at HMv hq
  simp only at HMv hq
  clear hk HHb HOf
  go_wp2_with fail
  refine HMv.out.mono ?_
  rintro _ w5 ⟨rfl, hS5⟩
  obtain ⟨O5, hV5, -⟩ := HV4.out.step hT hS5
  have HV5 := hide hV5
  clear hV5 hS5 HV4 HMv
  by_cases hf : f = 0
  case neg =>
    rw [if_pos hf] at hq
    obtain ⟨rfl, rfl, rfl, rfl⟩ : dx = qx ∧ 0 = qn ∧ f = qe ∧ t = qs := by simpa using hq
    have hb2 : (f == 0) = false := by simp [hf]
    have hb3 : (f != 0) = true := by simp [hf]
    clear hq hf
    obtain ⟨e1, e2⟩ := HV5.out.out hT
    unfold filled at e1 e2
    have HE := hide e1
    have HF := hide e2
    have HZr := hide HV5.out.zr
    obtain ⟨c0, c1, c2, c3, c4, c5, c6, c7, c8, c9, c10⟩ := HV5.out.st.cs
    have f0 := frozen_of_row w5 (w.heap.size + 1) 0 _ _ HZr.out
    have f1 := frozen_of_row w5 (w.heap.size + 1) 1 _ _ HZr.out
    have f2 := frozen_of_row w5 (w.heap.size + 1) 2 _ _ HZr.out
    have f3 := frozen_of_row w5 (w.heap.size + 1) 3 _ _ HZr.out
    have f4 := frozen_of_row w5 (w.heap.size + 1) 4 _ _ HZr.out
    have f5 := frozen_of_row w5 (w.heap.size + 1) 5 _ _ HZr.out
    have f6 := frozen_of_row w5 (w.heap.size + 1) 6 _ _ HZr.out
    have f7 := frozen_of_row w5 (w.heap.size + 1) 7 _ _ HZr.out
    have f8 := frozen_of_row w5 (w.heap.size + 1) 8 _ _ HZr.out
    have f9 := frozen_of_row w5 (w.heap.size + 1) 9 _ _ HZr.out
    have f10 := frozen_of_row w5 (w.heap.size + 1) 10 _ _ HZr.out
    have d0 := cell_of_row w5 (w.heap.size + 1) 0 _ _ _ HZr.out
    have d1 := cell_of_row w5 (w.heap.size + 1) 1 _ _ _ HZr.out
    have d2 := cell_of_row w5 (w.heap.size + 1) 2 _ _ _ HZr.out
    have d3 := cell_of_row w5 (w.heap.size + 1) 3 _ _ _ HZr.out
    have d4 := cell_of_row w5 (w.heap.size + 1) 4 _ _ _ HZr.out
    have d5 := cell_of_row w5 (w.heap.size + 1) 5 _ _ _ HZr.out
    have d6 := cell_of_row w5 (w.heap.size + 1) 6 _ _ _ HZr.out
    have d7 := cell_of_row w5 (w.heap.size + 1) 7 _ _ _ HZr.out
    have d8 := cell_of_row w5 (w.heap.size + 1) 8 _ _ _ HZr.out
    have d9 := cell_of_row w5 (w.heap.size + 1) 9 _ _ _ HZr.out
    have d10 := cell_of_row w5 (w.heap.size + 1) 10 _ _ _ HZr.out
    simp at d0 d1 d2 d3 d4 d5 d6 d7 d8 d9 d10
    clear e1 e2
    go_wp2
    refine bodyPost_ret (res_three rfl _ (w.heap.size + 1) rfl dx _ _ _ HE.out) rfl ?_
    exact ⟨_, _, _, rfl, HF.out⟩
  subst hf
  rw [if_neg (by simp)] at hq
  obtain ⟨hqx, rfl, rfl, rfl⟩ : dx.bare = qx ∧ p = qn ∧ 0 = qe ∧ t = qs := by simpa using hq
  clear hq
  subst hqx
  obtain ⟨c0, c1, c2, c3, c4, c5, c6, c7, c8, c9, c10⟩ := HV5.out.st.cs
  go_wp2_with fail
  refine (HEm.out _).mono ?_
  rintro _ w6 ⟨rfl, hB6⟩
  have HV6 := hide (HV5.out.below hT hB6)
  clear hB6 HV5 HEm c0 c1 c2 c3 c4 c5 c6 c7 c8 c9 c10
  obtain ⟨e1, e2⟩ := HV6.out.out2 hT dx.bare (.slice none 0 0) (.slice none 0 0) (.slice none 0 0) (SIn.nils0 rfl rfl rfl)
  unfold filled at e1 e2
  have HE := hide e1
  have HF := hide e2
  have HZr := hide HV6.out.zr
  have f0 := frozen_of_row w6 (w.heap.size + 1) 0 _ _ HZr.out
  have f1 := frozen_of_row w6 (w.heap.size + 1) 1 _ _ HZr.out
  have f2 := frozen_of_row w6 (w.heap.size + 1) 2 _ _ HZr.out
  have f3 := frozen_of_row w6 (w.heap.size + 1) 3 _ _ HZr.out
  have f4 := frozen_of_row w6 (w.heap.size + 1) 4 _ _ HZr.out
  have f5 := frozen_of_row w6 (w.heap.size + 1) 5 _ _ HZr.out
  have f6 := frozen_of_row w6 (w.heap.size + 1) 6 _ _ HZr.out
  have f7 := frozen_of_row w6 (w.heap.size + 1) 7 _ _ HZr.out
  have f8 := frozen_of_row w6 (w.heap.size + 1) 8 _ _ HZr.out
  have f9 := frozen_of_row w6 (w.heap.size + 1) 9 _ _ HZr.out
  have f10 := frozen_of_row w6 (w.heap.size + 1) 10 _ _ HZr.out
  have d0 := cell_of_row w6 (w.heap.size + 1) 0 _ _ _ HZr.out
  have d1 := cell_of_row w6 (w.heap.size + 1) 1 _ _ _ HZr.out
  have d2 := cell_of_row w6 (w.heap.size + 1) 2 _ _ _ HZr.out
  have d3 := cell_of_row w6 (w.heap.size + 1) 3 _ _ _ HZr.out
  have d4 := cell_of_row w6 (w.heap.size + 1) 4 _ _ _ HZr.out
  have d5 := cell_of_row w6 (w.heap.size + 1) 5 _ _ _ HZr.out
  have d6 := cell_of_row w6 (w.heap.size + 1) 6 _ _ _ HZr.out
  have d7 := cell_of_row w6 (w.heap.size + 1) 7 _ _ _ HZr.out
  have d8 := cell_of_row w6 (w.heap.size + 1) 8 _ _ _ HZr.out
  have d9 := cell_of_row w6 (w.heap.size + 1) 9 _ _ _ HZr.out
  have d10 := cell_of_row w6 (w.heap.size + 1) 10 _ _ _ HZr.out
  simp at d0 d1 d2 d3 d4 d5 d6 d7 d8 d9 d10
  clear e1 e2
  go_wp2
  refine bodyPost_ret (res_three rfl _ (w.heap.size + 1) rfl dx.bare _ _ _ HE.out) rfl ?_
  exact ⟨_, _, _, rfl, HF.out⟩
end Go.Proofs.Ytckmfbjpjakbcaa

/- Position over memory that grows: values. -/
namespace Go.Proofs.Ytckmfbjpjakbcaa
open Go.RowKit

theorem bearsS_true {S : Type} (K : SkV S) : BearsS K (fun _ => True) (fun _ _ => True) := fun _ _ _ _ _ => ⟨trivial, trivial⟩
theorem gro_seek (g : Nat) : RawS MS.seek 24 (.pointer (some ⟨g, 0, none⟩)) 94 (fun _ => True) (fun w O S => MemAt w O g S) where
  mseek w := by kernel_rfl
  cseek a w := by kernel_rfl
  seek o wh h _ _ := gmseek_any _ g _ o wh _ h
  told {w O s} o wh h := by
    have hk := h.ok
    unfold MS.seek
    split
    · exact ⟨Int.le_refl _, by simp only; omega⟩
    split
    · exact ⟨Int.le_refl _, by simp only; omega⟩
    · simp only
      omega
def moRW : Mo := ⟨true, true, false, false, false, false, false, false⟩
theorem chk_moRW : chkM moRW = 0 := by decide
def xRW (mode size : Int) : SS := ⟨true, true, mode, size, [], [], [], 0, false, false, false⟩
theorem new_RW (mode size : Int) : SS.new moRW mode size = if 1 ≤ mode ∧ mode ≤ 3 then (if 1 ≤ size ∧ size ≤ 65536 then (xRW mode size, 0) else (ss0, 4)) else (ss0, 1) := by
  unfold SS.new
  rw [if_pos chk_moRW]
  rfl
structure RdS (x : SS) (S : MS) (l : List UInt8) (k : Nat) : Prop where
  rd : x.rd = true
  m1 : 1 ≤ x.mode
  m3 : x.mode ≤ 3
  s1 : 1 ≤ x.size
  s2 : x.size ≤ 65536
  out : x.out = []
  back : x.back = []
  closed : x.closed = false
  dir : x.dir = 1 ∨ (x.dir = 0 ∧ x.inn = [])
  il : x.inn.length ≤ 65536
  lq : S.l = l
  room : S.room = 1048576
  ll : l.length ≤ 1048576
  kl : k ≤ l.length
  pl : S.pl = k + x.inn.length
  ple : S.pl ≤ l.length
  inn : x.inn = (l.drop k).take x.inn.length
  fin : x.fin = true → k = l.length
theorem RdS.may {x : SS} {S : MS} {l : List UInt8} {k : Nat} (h : RdS x S l k) : x.may = true := by
  refine (may_iff x).2 ⟨h.m1, h.m3, h.s1, h.s2, by rw [h.out]; have := h.s1; simp; omega, fun _ => by rw [h.out]; rfl, h.il, by rw [h.back]; simp, ?_⟩
  rcases h.dir with e | ⟨e, e2⟩
  · exact .inr (.inl ⟨e, h.rd, by rw [h.out]; rfl, h.closed⟩)
  · exact .inl ⟨e, by rw [h.out]; rfl, by rw [e2, h.back]; rfl⟩
theorem RdS.refuse {x : SS} {S : MS} {l : List UInt8} {k : Nat} (h : RdS x S l k) : x.refuse true = 0 := by
  unfold SS.refuse
  rw [if_neg (by simp [h.may]), if_neg (by simp), if_neg (by simp [h.closed])]
theorem RdS.noRead {x : SS} {S : MS} {l : List UInt8} {k : Nat} (h : RdS x S l k) : x.noRead = 0 := by
  unfold SS.noRead
  rw [if_neg (by simp [h.refuse]), if_neg (by simp [h.rd]), if_neg (by rcases h.dir with e | e <;> omega)]
theorem RdS.deliver {x : SS} {S : MS} {l : List UInt8} {k : Nat} (h : RdS x S l k) : x.deliver msR S = (x, 0, S) := by
  unfold SS.deliver
  have h1 : putV msR x.out (putF x.out) S 0 0 = (0, 0, S) := putV_done _ _ _ _ _ _ (by rw [h.out]; simp)
  rw [h1]
  unfold SS.mark
  simp
theorem ms_some (S : MS) (n : Nat) (h1 : 1 ≤ n) (h2 : n ≤ 1048576) : someV msR n 8192 S = (piece S.l S.pl n, 0, ⟨S.l, S.room, S.pl + (piece S.l S.pl n).length⟩) := by
  have hr : msR.read S n = (piece S.l S.pl n, 0, ⟨S.l, S.room, S.pl + (piece S.l S.pl n).length⟩) := by
    show S.read (n : Int) = _
    unfold MS.read
    rw [if_pos (by unfold inR; simp; omega), Int.toNat_natCast]
  rw [show (8192 : Nat) = 8191 + 1 from rfl, someV_next msR n 8191 S hr, if_neg (by omega), if_neg (by rw [piece_len]; omega), if_pos rfl]
set_option linter.unusedSimpArgs false in
theorem RdS.get {x : SS} {S : MS} {l : List UInt8} {k : Nat} (h : RdS x S l k) : RdS (x.get msR S).1 (x.get msR S).2.2.2 l (min (k + 1) l.length) ∧ (x.get msR S).2.2.1 = (if k < l.length then 0 else 111) ∧ (k < l.length → (x.get msR S).2.1 = l.getD k 0) ∧ (x.get msR S).1.wt = x.wt := by
  have hk := h.kl
  have hp := h.pl
  have hpe := h.ple
  have hll := h.ll
  unfold SS.get
  rw [if_pos h.noRead]
  unfold SS.get1
  simp only
  rw [if_neg (by rw [h.back]; simp)]
  by_cases hi : 0 < x.inn.length
  · rw [if_pos hi]
    have hkl : k < l.length := by omega
    have hin := h.inn
    have hm : min (k + 1) l.length = k + 1 := by omega
    rw [hm]
    refine ⟨⟨h.rd, h.m1, h.m3, h.s1, h.s2, h.out, h.back, h.closed, .inl rfl, by simp only [List.length_drop]; have := h.il; omega, h.lq, h.room, hll, by omega, by simp only [List.length_drop]; omega, hpe, ?_, fun e => by have := h.fin e; omega⟩, by rw [if_pos hkl], fun _ => ?_, rfl⟩
    · simp only [List.length_drop]
      conv => lhs; rw [hin]
      rw [List.drop_take, List.drop_drop]
    · simp only
      rw [hin]
      simp only [List.getD_eq_getElem?_getD]
      rw [List.getElem?_take_of_lt hi, List.getElem?_drop]
      simp
  rw [if_neg hi]
  have hi0 : x.inn.length = 0 := by omega
  have hie : x.inn = [] := List.length_eq_zero_iff.1 hi0
  by_cases hf : x.fin = true
  · rw [if_pos hf]
    have hkl := h.fin hf
    have hm : min (k + 1) l.length = k := by omega
    rw [hm]
    exact ⟨⟨h.rd, h.m1, h.m3, h.s1, h.s2, h.out, h.back, h.closed, .inl rfl, h.il, h.lq, h.room, hll, hk, hp, hpe, h.inn, fun _ => hkl⟩, by rw [if_neg (by omega)], fun e => by omega, rfl⟩
  rw [if_neg hf]
  have hmost : 1 ≤ x.most ∧ x.most ≤ 65536 := by
    have h1 := h.s1
    have h2 := h.s2
    unfold SS.most
    split <;> omega
  have hms : (SS.most { rd := x.rd, wt := x.wt, mode := x.mode, size := x.size, out := x.out, inn := x.inn, back := x.back, dir := 1, fin := x.fin, bad := x.bad, closed := x.closed }) = x.most := rfl
  rw [hms, ms_some S x.most hmost.1 (by omega)]
  simp only
  rw [if_neg (by simp)]
  have hpl : S.pl = k := by omega
  rw [h.lq, hpl]
  have hlen := piece_len l k x.most
  by_cases hkl : k < l.length
  · have hm : min (k + 1) l.length = k + 1 := by omega
    rw [if_neg (by omega), hm]
    refine ⟨⟨h.rd, h.m1, h.m3, h.s1, h.s2, h.out, h.back, h.closed, .inl rfl, by simp only [List.length_drop]; omega, rfl, h.room, hll, by omega, by simp only [List.length_drop]; omega, by simp only; omega, ?_, fun e => absurd e hf⟩, by rw [if_pos hkl], fun _ => ?_, rfl⟩
    · simp only [List.length_drop]
      unfold piece
      rw [List.drop_take, List.drop_drop, List.take_eq_take_iff, List.length_take, List.length_drop, List.length_drop]
      omega
    · simp only [List.getD_eq_getElem?_getD]
      unfold piece
      rw [List.getElem?_take_of_lt (by omega), List.getElem?_drop]
      simp
  · have hm : min (k + 1) l.length = k := by omega
    rw [if_pos (by omega), hm]
    exact ⟨⟨h.rd, h.m1, h.m3, h.s1, h.s2, h.out, h.back, h.closed, .inl rfl, h.il, rfl, h.room, hll, hk, by simp only; omega, by simp only; omega, h.inn, fun _ => by omega⟩, by rw [if_neg hkl], fun e => absurd e hkl, rfl⟩
theorem RdS.tell {x : SS} {S : MS} {l : List UInt8} {k : Nat} (h : RdS x S l k) : x.tell msR MS.seek S = (x, (k : Int), 0, S) := by
  have hk := h.kl
  have hp := h.pl
  have hpe := h.ple
  have hll := h.ll
  have hr := h.room
  unfold SS.tell
  rw [if_neg (by simp [h.refuse]), h.deliver]
  simp only
  rw [if_neg (by simp)]
  unfold SS.told
  have hs : MS.seek S 0 1 = ((S.pl : Int), 0, S) := by
    unfold MS.seek MS.from
    rw [if_neg (by omega), if_pos rfl, if_neg (by omega)]
    simp
  have hh : x.hold = x.inn.length := by unfold SS.hold; rw [h.back]; simp
  rw [hs, hh]
  simp only
  rw [if_neg (by simp), if_neg (by omega)]
  simp only [Prod.mk.injEq, true_and, and_true]
  omega
theorem RdS.seek {x : SS} {S : MS} {l : List UInt8} {k : Nat} (h : RdS x S l k) (off wh : Int) : (∃ e, e ≠ 0 ∧ x.seek msR MS.seek S off wh = (x, 0, e, S)) ∨ ∃ p : Nat, p ≤ 1048576 ∧ x.seek msR MS.seek S off wh = (x.bare, (p : Int), 0, ⟨l, 1048576, p⟩) := by
  have hk := h.kl
  have hp := h.pl
  have hpe := h.ple
  have hll := h.ll
  have hr := h.room
  have hL := h.lq
  unfold SS.seek
  rw [if_neg (by simp [h.refuse])]
  by_cases hw : wh < 0 ∨ 2 < wh
  · rw [if_pos hw]
    exact .inl ⟨1, by decide, rfl⟩
  rw [if_neg hw, h.deliver]
  simp only
  rw [if_neg (by simp)]
  have key : (∃ e, e ≠ 0 ∧ ∃ q, movedV MS.seek S x.hold off wh = (q, e, S)) ∨ ∃ p : Nat, p ≤ 1048576 ∧ movedV MS.seek S x.hold off wh = ((p : Int), 0, ⟨l, 1048576, p⟩) := by
    have sk : ∀ o v, (MS.seek S o v = (0, 1, S)) ∨ (MS.seek S o v = (0, 4, S)) ∨ ∃ p : Nat, p ≤ 1048576 ∧ MS.seek S o v = ((p : Int), 0, ⟨l, 1048576, p⟩) := by
      intro o v
      unfold MS.seek
      split
      · exact .inl rfl
      split
      · exact .inr (.inl rfl)
      · rename_i h1 h2
        refine .inr (.inr ⟨((S.from v : Int) + o).toNat, by omega, ?_⟩)
        rw [hL, hr]
        simp only [Prod.mk.injEq, and_true]
        omega
    unfold movedV
    by_cases h1 : wh = 1
    · rw [if_neg (by simp [h1])]
      have hs : MS.seek S 0 1 = ((S.pl : Int), 0, S) := by
        unfold MS.seek MS.from
        rw [if_neg (by omega), if_pos rfl, if_neg (by omega)]
        simp
      rw [hs]
      simp only
      rw [if_neg (by simp)]
      by_cases h2 : 0 ≤ (S.pl : Int) - x.hold + off ∧ (S.pl : Int) - x.hold + off ≤ 1048576
      · rw [if_pos h2]
        rcases sk ((S.pl : Int) - x.hold + off) 0 with e | e | e
        · exact .inl ⟨1, by decide, _, e⟩
        · exact .inl ⟨4, by decide, _, e⟩
        · exact .inr e
      · rw [if_neg h2]
        exact .inl ⟨4, by decide, _, rfl⟩
    · rw [if_pos h1]
      rcases sk off wh with e | e | e
      · exact .inl ⟨1, by decide, _, e⟩
      · exact .inl ⟨4, by decide, _, e⟩
      · exact .inr e
  unfold SS.sought
  rcases key with ⟨e, he, q, hm⟩ | ⟨p, hp2, hm⟩
  · rw [hm]
    simp only
    rw [if_pos he]
    exact .inl ⟨e, he, rfl⟩
  · rw [hm]
    simp only
    rw [if_neg (by simp)]
    exact .inr ⟨p, hp2, rfl⟩
theorem RdS.bare_may {x : SS} {S : MS} {l : List UInt8} {k : Nat} (h : RdS x S l k) : x.bare.refuse true = 0 ∧ x.bare.noRead = 0 := by
  have hm : x.bare.may = true := (may_iff _).2 ⟨h.m1, h.m3, h.s1, h.s2, by have := h.s1; simp [SS.bare]; omega, fun _ => rfl, by simp [SS.bare], by simp [SS.bare], .inl ⟨rfl, rfl, rfl⟩⟩
  have hr : x.bare.refuse true = 0 := by
    unfold SS.refuse
    rw [if_neg (by simp [hm]), if_neg (by simp), if_neg (by simp [SS.bare, h.closed])]
  refine ⟨hr, ?_⟩
  unfold SS.noRead
  rw [if_neg (by simp [hr]), if_neg (by simp [SS.bare, h.rd]), if_neg (by simp [SS.bare])]
theorem RdS.bare_tell {x : SS} {S : MS} {l : List UInt8} {k : Nat} (h : RdS x S l k) (p : Nat) (hp : p ≤ 1048576) : x.bare.tell msR MS.seek ⟨l, 1048576, p⟩ = (x.bare, (p : Int), 0, ⟨l, 1048576, p⟩) := by
  unfold SS.tell
  have hd : x.bare.deliver msR ⟨l, 1048576, p⟩ = (x.bare, 0, ⟨l, 1048576, p⟩) := by
    unfold SS.deliver
    have h1 : putV msR x.bare.out (putF x.bare.out) ⟨l, 1048576, p⟩ 0 0 = (0, 0, ⟨l, 1048576, p⟩) := putV_done _ _ _ _ _ _ (by simp [SS.bare])
    rw [h1]
    unfold SS.mark
    simp
  rw [if_neg (by simp [h.bare_may.1]), hd]
  simp only
  rw [if_neg (by simp)]
  unfold SS.told
  have hs : MS.seek ⟨l, 1048576, p⟩ 0 1 = ((p : Int), 0, ⟨l, 1048576, p⟩) := by
    unfold MS.seek MS.from
    rw [if_neg (by omega), if_pos rfl, if_neg (by simp only; omega)]
    simp
  have hh : x.bare.hold = 0 := rfl
  rw [hs, hh]
  simp only
  rw [if_neg (by simp), if_neg (by omega), Int.sub_zero]
theorem RdS.bare_get {x : SS} {S : MS} {l : List UInt8} {k : Nat} (h : RdS x S l k) (p : Nat) : (p < l.length → (x.bare.get msR ⟨l, 1048576, p⟩).2.2.1 = 0 ∧ (x.bare.get msR ⟨l, 1048576, p⟩).2.1 = l.getD p 0) ∧ (¬ p < l.length → (x.bare.get msR ⟨l, 1048576, p⟩).2.2.1 = 111) := by
  have hmost : 1 ≤ x.bare.most ∧ x.bare.most ≤ 65536 := by
    have h1 := h.s1
    have h2 := h.s2
    show 1 ≤ (if x.mode = 1 then 1 else x.size.toNat) ∧ (if x.mode = 1 then 1 else x.size.toNat) ≤ 65536
    split <;> omega
  unfold SS.get
  rw [if_pos h.bare_may.2]
  unfold SS.get1
  have hms : (SS.most { rd := x.bare.rd, wt := x.bare.wt, mode := x.bare.mode, size := x.bare.size, out := x.bare.out, inn := x.bare.inn, back := x.bare.back, dir := 1, fin := x.bare.fin, bad := x.bare.bad, closed := x.bare.closed }) = x.bare.most := rfl
  rw [hms, ms_some ⟨l, 1048576, p⟩ x.bare.most hmost.1 (by omega)]
  have hlen := piece_len l p x.bare.most
  rw [if_neg (by simp [SS.bare]), if_neg (by simp [SS.bare]), if_neg (by simp [SS.bare])]
  simp only
  rw [if_neg (by simp)]
  constructor
  · intro hp
    rw [if_neg (by omega)]
    refine ⟨rfl, ?_⟩
    simp only [List.getD_eq_getElem?_getD]
    unfold piece
    rw [List.getElem?_take_of_lt (by omega), List.getElem?_drop]
    simp
  · intro hp
    rw [if_pos (by omega)]
end Go.Proofs.Ytckmfbjpjakbcaa

/- Position: the law's num, alive. -/
namespace Go.Proofs.Ytckmfbjpjakbcaa
open Go.RowKit

theorem num14 (e : Int) (w : World) : Calls Try.prog 8 #[.int .i64 e] w fun r w' => r = .returned (.int .i64 e) ∧ w = w' := by
  go_enter Try.func8, Try.ntmps8
  go_wp2
  go_ret
  exact ⟨rfl, rfl⟩
theorem lit_bys14 (w : World) (l : List UInt8) (cs : Array Value) (n : Nat) (fr : Nat × Nat) (hn : n = l.length) (hcs : cs.toList = l.map bv) : Bys (w.alloc (Obj.cells cs 5 fr)) (.slice (some ⟨w.heap.size, 0, none⟩) n n) l := by
  subst hn
  by_cases h0 : l.length = 0
  · exact .inr (.inl ⟨_, _, by rw [h0], List.length_eq_zero_iff.1 h0⟩)
  · refine .inr (.inr ⟨w.heap.size, 0, l.length, rfl, by omega, fun j hj => ?_⟩)
    rw [cell_of_row _ w.heap.size _ cs _ fr (heap_alloc_new w _)]
    have h1 : cs.toList[0 + j]? = (l.map bv)[j]? := by rw [hcs, Nat.zero_add]
    rw [Array.getElem?_toList] at h1
    rw [h1]
    simp [List.getD_eq_getElem?_getD, List.getElem?_eq_getElem hj, bv]
theorem conv_lit14 (w : World) (C : Array Value) (n m : Nat) (hm : C.size = m) : (convert 22 22 (.slice (some ⟨w.heap.size, 0, none⟩) n n)).run Try.prog (w.alloc (.cells C 5)) = .ok (.slice (some ⟨w.heap.size, 0, none⟩) n n) (w.alloc (.cells C 5 (m, m + 1))) := by
  subst hm
  exact Lib.run_convert_bytes_const w 22 5 C n n Try.underlying22 Try.underlying5
def hel : List UInt8 := [104, 101, 108, 108, 111]
def qA : SS := ⟨true, true, 3, 4, [], [101, 108, 108], [], 1, false, false, false⟩
def qB : SS := ⟨true, true, 3, 4, [], [], [], 0, false, false, false⟩
def qC : SS := ⟨true, true, 3, 4, [], [108, 111], [], 1, false, false, false⟩
theorem q_a : (xRW 3 4).get msR ⟨hel, 1048576, 0⟩ = (qA, 104, 0, ⟨hel, 1048576, 4⟩) := by kernel_rfl
theorem q_b : qA.tell msR MS.seek ⟨hel, 1048576, 4⟩ = (qA, 1, 0, ⟨hel, 1048576, 4⟩) := by kernel_rfl
theorem q_c : qA.seek msR MS.seek ⟨hel, 1048576, 4⟩ 1 1 = (qB, 2, 0, ⟨hel, 1048576, 2⟩) := by kernel_rfl
theorem q_d : qB.get msR ⟨hel, 1048576, 2⟩ = (qC, 108, 0, ⟨hel, 1048576, 5⟩) := by kernel_rfl
set_option maxRecDepth 100000 in
set_option maxHeartbeats 8000000 in
theorem alive14 (w : World) : Calls Try.prog 5 #[] w fun e w' => e = .returned (.bool true) ∧ Below w.heap.size w w' := by
  have cl := conv_lit14 w #[.int .u8 104, .int .u8 101, .int .u8 108, .int .u8 108, .int .u8 111] 5 5 rfl
  have hb3 := lit_bys14 w hel #[.int .u8 104, .int .u8 101, .int .u8 108, .int .u8 108, .int .u8 111] 5 (5, 6) rfl rfl
  have hBl := (Below.refl _ w).alloc (Nat.le_refl _) (Obj.cells #[.int .u8 104, .int .u8 101, .int .u8 108, .int .u8 108, .int .u8 111] 5 (5, 6))
  have HN1 := hide (newGrowing_good _ hel _ hb3 (by decide))
  have HBl := hide hBl
  have hN := fun W => sNew_any moRW 3 4 W
  rw [new_RW, if_pos (by decide), if_pos (by decide)] at hN
  simp only at hN
  unfold mv at hN
  have HN := hide hN
  clear hN hb3 hBl
  go_enter Try.func5, Try.ntmps5
  go_wp2_with fail
  generalize w.alloc (Obj.cells #[.int .u8 104, .int .u8 101, .int .u8 108, .int .u8 108, .int .u8 111] 5 (5, 6)) = w0 at *
  refine HN1.out.mono ?_
  rintro _ w1 ⟨g, rfl, hM, hB⟩
  have HM := hide hM
  have HB := hide (HBl.out.trans (hB.mono HBl.out.size))
  have hz0 := HBl.out.size
  clear hM hB HN1 cl
  go_wp2_with fail
  refine (HN.out _).mono ?_
  rintro _ w2 ⟨rfl, hB2⟩
  have HM2 := hide (HM.out.below hB2)
  have HB2 := hide (HB.out.trans (hB2.mono HB.out.size))
  clear hB2 HM HB
  have HS2 := hide (StAt.new w2 (xRW 3 4) (.slice none 0 0) (.slice none 0 0) (.slice none 0 0))
  have HB3 := hide (recv_below w2 (Obj.cells #[.bool (xRW 3 4).rd, .bool (xRW 3 4).wt, .int .i64 (xRW 3 4).mode, .int .i64 (xRW 3 4).size, .slice none 0 0, .slice none 0 0, .slice none 0 0, .int .i64 (xRW 3 4).dir, .bool (xRW 3 4).fin, .bool (xRW 3 4).bad, .bool (xRW 3 4).closed] 29))
  have HLV : Hid (LV (fun w O S => MemAt w O g S) (w2.alloc (Obj.cells #[.bool (xRW 3 4).rd, .bool (xRW 3 4).wt, .int .i64 (xRW 3 4).mode, .int .i64 (xRW 3 4).size, .slice none 0 0, .slice none 0 0, .slice none 0 0, .int .i64 (xRW 3 4).dir, .bool (xRW 3 4).fin, .bool (xRW 3 4).bad, .bool (xRW 3 4).closed] 29)) w.heap.size w2.heap.size (fun k => w0.heap.size ≤ k ∧ k < w2.heap.size) (xRW 3 4) ⟨hel, 1048576, 0⟩ (.slice none 0 0) (.slice none 0 0) (.slice none 0 0)) := hide
    ⟨HS2.out, SIn.nils0 rfl rfl rfl, HM2.out.trim.below HB3.out, fun j e => Nat.lt_of_lt_of_le e.2 HB3.out.size, fun j e => by have := e.1; omega, fun e => by omega, HB2.out.size⟩
  have HTT : Hid (Turned (fun k => w.heap.size ≤ k) w (w2.alloc (Obj.cells #[.bool (xRW 3 4).rd, .bool (xRW 3 4).wt, .int .i64 (xRW 3 4).mode, .int .i64 (xRW 3 4).size, .slice none 0 0, .slice none 0 0, .slice none 0 0, .int .i64 (xRW 3 4).dir, .bool (xRW 3 4).fin, .bool (xRW 3 4).bad, .bool (xRW 3 4).closed] 29))) := hide ((Turned.of_below HB2.out).trans (Turned.of_below (S := fun k => w.heap.size ≤ k) HB3.out) (fun _ _ e => e))
  have hp := sGet_any (gro_raw g) (fun s => gmem_o g s) (bears_true msR) HLV.out.ls HLV.out.raw HLV.out.ol trivial (by decide) (by decide) (by decide)
  rw [q_a] at hp
  simp only at hp
  have HP := hide hp
  clear hp
  go_wp2_with (first | (go_at_call 8; refine (num14 _ _).mono ?_; rintro _ _ ⟨rfl, rfl⟩) | fail)
  generalize w2.alloc (Obj.cells #[.bool (xRW 3 4).rd, .bool (xRW 3 4).wt, .int .i64 (xRW 3 4).mode, .int .i64 (xRW 3 4).size, .slice none 0 0, .slice none 0 0, .slice none 0 0, .int .i64 (xRW 3 4).dir, .bool (xRW 3 4).fin, .bool (xRW 3 4).bad, .bool (xRW 3 4).closed] 29) = w3 at *
  have HSZ := hide HTT.out.size
  clear HS2 HB3 HM2 HN
  generalize w2.heap.size = gv at *
  refine HP.out.mono ?_
  rintro _ w4 ⟨o', i', b', rfl, hS⟩
  obtain ⟨a1, a4, rfl, -⟩ := hS.choose_spec.1.so
  obtain ⟨a2, a5, rfl, -⟩ := hS.choose_spec.1.si
  obtain ⟨a3, a6, rfl, -⟩ := hS.choose_spec.1.sb
  obtain ⟨hst, ⟨O4, hl⟩, ht⟩ := LV.next (fun s => gmem_o g s) HLV.out HSZ.out hS
  have HLn := hide hl
  have HTn := hide (HTT.out.trans ht (fun _ _ e => e))
  obtain ⟨c0, c1, c2, c3, c4, c5, c6, c7, c8, c9, c10⟩ := hst.cs
  have f0 := hst.soft 0
  have f1 := hst.soft 1
  have f2 := hst.soft 2
  have f3 := hst.soft 3
  have f4 := hst.soft 4
  have f5 := hst.soft 5
  have f6 := hst.soft 6
  have f7 := hst.soft 7
  have f8 := hst.soft 8
  have f9 := hst.soft 9
  have f10 := hst.soft 10
  clear hS hst hl ht HP
  unfold filled at HLn HTn
  have hp := ptell_any (gro_raw g) (fun s => gmem_o g s) (bears_true msR) (gro_seek g) (bearsS_true _) HLn.out.ls HLn.out.raw HLn.out.ol trivial (by decide) (by decide) (by decide)
  rw [q_b] at hp
  simp only at hp
  have HP := hide hp
  clear hp
  go_wp2_with (first | (go_at_call 8; refine (num14 _ _).mono ?_; rintro _ _ ⟨rfl, rfl⟩) | fail)
  generalize (((((((((((w4.setCell ⟨gv, 0, none⟩ (.bool qA.rd)).setCell ⟨gv, 1, none⟩ (.bool qA.wt)).setCell ⟨gv, 2, none⟩ (.int .i64 qA.mode)).setCell ⟨gv, 3, none⟩ (.int .i64 qA.size)).setCell ⟨gv, 4, none⟩ (.slice a1 qA.out.length a4)).setCell ⟨gv, 5, none⟩ (.slice a2 qA.inn.length a5)).setCell ⟨gv, 6, none⟩ (.slice a3 qA.back.length a6)).setCell ⟨gv, 7, none⟩ (.int .i64 qA.dir)).setCell ⟨gv, 8, none⟩ (.bool qA.fin)).setCell ⟨gv, 9, none⟩ (.bool qA.bad)).setCell ⟨gv, 10, none⟩ (.bool qA.closed)) = w5 at *
  clear c0 c1 c2 c3 c4 c5 c6 c7 c8 c9 c10 f0 f1 f2 f3 f4 f5 f6 f7 f8 f9 f10 HLV HTT HSZ
  have HLV := HLn
  have HTT := HTn
  have HSZ := hide HTT.out.size
  clear HLn HTn
  refine HP.out.mono ?_
  rintro _ w6 ⟨o', i', b', rfl, hS⟩
  obtain ⟨b1, b4, rfl, -⟩ := hS.choose_spec.1.so
  obtain ⟨b2, b5, rfl, -⟩ := hS.choose_spec.1.si
  obtain ⟨b3, b6, rfl, -⟩ := hS.choose_spec.1.sb
  obtain ⟨hst, ⟨O6, hl⟩, ht⟩ := LV.next (fun s => gmem_o g s) HLV.out HSZ.out hS
  have HLn := hide hl
  have HTn := hide (HTT.out.trans ht (fun _ _ e => e))
  obtain ⟨c0, c1, c2, c3, c4, c5, c6, c7, c8, c9, c10⟩ := hst.cs
  have f0 := hst.soft 0
  have f1 := hst.soft 1
  have f2 := hst.soft 2
  have f3 := hst.soft 3
  have f4 := hst.soft 4
  have f5 := hst.soft 5
  have f6 := hst.soft 6
  have f7 := hst.soft 7
  have f8 := hst.soft 8
  have f9 := hst.soft 9
  have f10 := hst.soft 10
  clear hS hst hl ht HP
  unfold filled at HLn HTn
  have hp := pseek_any (gro_raw g) (fun s => gmem_o g s) (bears_true msR) (gro_seek g) (bearsS_true _) 1 1 HLn.out.ls HLn.out.raw HLn.out.ol trivial (by decide) (by decide) (by decide) (by decide)
  rw [q_c] at hp
  simp only at hp
  have HP := hide hp
  clear hp
  go_wp2_with (first | (go_at_call 8; refine (num14 _ _).mono ?_; rintro _ _ ⟨rfl, rfl⟩) | fail)
  generalize (((((((((((w6.setCell ⟨gv, 0, none⟩ (.bool qA.rd)).setCell ⟨gv, 1, none⟩ (.bool qA.wt)).setCell ⟨gv, 2, none⟩ (.int .i64 qA.mode)).setCell ⟨gv, 3, none⟩ (.int .i64 qA.size)).setCell ⟨gv, 4, none⟩ (.slice b1 qA.out.length b4)).setCell ⟨gv, 5, none⟩ (.slice b2 qA.inn.length b5)).setCell ⟨gv, 6, none⟩ (.slice b3 qA.back.length b6)).setCell ⟨gv, 7, none⟩ (.int .i64 qA.dir)).setCell ⟨gv, 8, none⟩ (.bool qA.fin)).setCell ⟨gv, 9, none⟩ (.bool qA.bad)).setCell ⟨gv, 10, none⟩ (.bool qA.closed)) = w7 at *
  clear c0 c1 c2 c3 c4 c5 c6 c7 c8 c9 c10 f0 f1 f2 f3 f4 f5 f6 f7 f8 f9 f10 HLV HTT HSZ
  have HLV := HLn
  have HTT := HTn
  have HSZ := hide HTT.out.size
  clear HLn HTn
  refine HP.out.mono ?_
  rintro _ w8 ⟨o', i', b', rfl, hS⟩
  obtain ⟨d1, d4, rfl, -⟩ := hS.choose_spec.1.so
  obtain ⟨d2, d5, rfl, -⟩ := hS.choose_spec.1.si
  obtain ⟨d3, d6, rfl, -⟩ := hS.choose_spec.1.sb
  obtain ⟨hst, ⟨O8, hl⟩, ht⟩ := LV.next (fun s => gmem_o g s) HLV.out HSZ.out hS
  have HLn := hide hl
  have HTn := hide (HTT.out.trans ht (fun _ _ e => e))
  obtain ⟨c0, c1, c2, c3, c4, c5, c6, c7, c8, c9, c10⟩ := hst.cs
  have f0 := hst.soft 0
  have f1 := hst.soft 1
  have f2 := hst.soft 2
  have f3 := hst.soft 3
  have f4 := hst.soft 4
  have f5 := hst.soft 5
  have f6 := hst.soft 6
  have f7 := hst.soft 7
  have f8 := hst.soft 8
  have f9 := hst.soft 9
  have f10 := hst.soft 10
  clear hS hst hl ht HP
  unfold filled at HLn HTn
  have hp := sGet_any (gro_raw g) (fun s => gmem_o g s) (bears_true msR) HLn.out.ls HLn.out.raw HLn.out.ol trivial (by decide) (by decide) (by decide)
  rw [q_d] at hp
  simp only at hp
  have HP := hide hp
  clear hp
  go_wp2_with (first | (go_at_call 8; refine (num14 _ _).mono ?_; rintro _ _ ⟨rfl, rfl⟩) | fail)
  generalize (((((((((((w8.setCell ⟨gv, 0, none⟩ (.bool qB.rd)).setCell ⟨gv, 1, none⟩ (.bool qB.wt)).setCell ⟨gv, 2, none⟩ (.int .i64 qB.mode)).setCell ⟨gv, 3, none⟩ (.int .i64 qB.size)).setCell ⟨gv, 4, none⟩ (.slice d1 qB.out.length d4)).setCell ⟨gv, 5, none⟩ (.slice d2 qB.inn.length d5)).setCell ⟨gv, 6, none⟩ (.slice d3 qB.back.length d6)).setCell ⟨gv, 7, none⟩ (.int .i64 qB.dir)).setCell ⟨gv, 8, none⟩ (.bool qB.fin)).setCell ⟨gv, 9, none⟩ (.bool qB.bad)).setCell ⟨gv, 10, none⟩ (.bool qB.closed)) = w9 at *
  clear c0 c1 c2 c3 c4 c5 c6 c7 c8 c9 c10 f0 f1 f2 f3 f4 f5 f6 f7 f8 f9 f10 HLV HTT HSZ
  have HLV := HLn
  have HTT := HTn
  have HSZ := hide HTT.out.size
  clear HLn HTn
  refine HP.out.mono ?_
  rintro _ w10 ⟨o', i', b', rfl, hS⟩
  obtain ⟨e1, e4, rfl, -⟩ := hS.choose_spec.1.so
  obtain ⟨e2, e5, rfl, -⟩ := hS.choose_spec.1.si
  obtain ⟨e3, e6, rfl, -⟩ := hS.choose_spec.1.sb
  have HT10 : Hid (Turned (fun k => w.heap.size ≤ k) w w10) := hide (by
    obtain ⟨_, _, _, _, _, t⟩ := hS
    exact HTT.out.trans (t.mono fun k e => HLV.out.ob k e) (fun _ _ e => e))
  clear hS
  go_wp2_with (first | (go_at_call 8; refine (num14 _ _).mono ?_; rintro _ _ ⟨rfl, rfl⟩) | fail)
  go_ret
  exact ⟨rfl, (HT10.out.below (B := w.heap.size) (fun _ e => e) (Nat.le_refl _)).trans ((recv_below w10 _).mono HT10.out.size)⟩
end Go.Proofs.Ytckmfbjpjakbcaa

/- Bytes that came in as an argument: what a walk is told of them. -/
namespace Go.Proofs.Ytckmfbjpjakbcaa
open Go.ChangeShapes Go.WideShapes Go.ChangeAt Go.RowKit

theorem bytes_arg {H : Type} {enc : TypeId × Value → H} {P : Program} {W : World} {base : Nat} {a : Option Addr} {len cap fuel t e : Nat} {d : DataW H} {p : List MemPlace}
    (ht : P.underlying t = some (.slice e)) (he : P.underlying e = some (.int .u8)) (hc : P.cellsOf e = 1)
    (hf : DataW.trod enc P W base (fun _ => true) true fuel t (Value.slice a len cap).cells.toList = some (d, p)) :
    ∃ l : List UInt8, Bys W (.slice a len cap) l ∧ ((d = .nil ∧ l = []) ∨ ∃ elems spare : List (DataW H), d = .slice elems spare ∧ l.length = elems.length) := by
  rcases open_ints ht he hc hf with ⟨hcs, hd⟩ | ⟨x, n, c, zs, hcs, _, hl, hm, hz, hx, hcell, hwz⟩
  · simp [Value.cells] at hcs
    obtain ⟨rfl, rfl, rfl⟩ := hcs
    exact ⟨[], .inl ⟨rfl, rfl⟩, .inl ⟨(Prod.mk.inj hd).1, rfl⟩⟩
  · simp [Value.cells] at hcs
    obtain ⟨rfl, rfl, rfl⟩ := hcs
    simp only [if_true] at hz
    have hlen : ((zs.take len).map fun n => UInt8.ofNat n.toNat).length = len := by rw [List.length_map, List.length_take]; omega
    refine ⟨(zs.take len).map fun n => UInt8.ofNat n.toNat, ?_, .inr ⟨_, _, (Prod.mk.inj hx).1, by simp [lits]⟩⟩
    by_cases h0 : len = 0
    · subst h0
      exact .inr (.inl ⟨x, cap, rfl, by simp⟩)
    · obtain ⟨b, off, spot⟩ := x
      have hspot : spot = none := by simpa [Addr.add] using World.cell?_spot (hcell 0 (by omega))
      subst hspot
      refine .inr (.inr ⟨b, off, cap, by rw [hlen], by rw [hlen]; omega, fun j hj => ?_⟩)
      rw [hlen] at hj
      have h1 := hcell j (by omega)
      have hadd : (⟨b, off, none⟩ : Addr).add j = ⟨b, off + j, none⟩ := by unfold Addr.add; split <;> simp_all
      rw [hadd] at h1
      rw [h1]
      have hjz : j < zs.length := by omega
      have hb := bounds_u8 (hwz zs[j] (List.getElem_mem hjz))
      simp only [List.getD_eq_getElem?_getD, List.getElem?_map, List.getElem?_take, if_pos hj, List.getElem?_eq_getElem hjz, Option.map_some, Option.getD_some]
      rw [UInt8.toNat_ofNat_of_lt' (by show _ < 256; omega), Int.toNat_of_nonneg hb.1]

end Go.Proofs.Ytckmfbjpjakbcaa

/- Bytes, and steps, that came in as an argument: what a walk is told of them. -/
namespace Go.Proofs.Ytckmfbjpjakbcaa
open Go.ChangeShapes Go.WideShapes Go.ChangeAt Go.RowKit Go.Deep

end Go.Proofs.Ytckmfbjpjakbcaa

/- PositionTells: the walk. -/
namespace Go.Proofs.Ytckmfbjpjakbcaa
open Go.RowKit

theorem tmod14 (x k : Int) (hk : 0 < k) : -k < x.tmod k ∧ x.tmod k < k := by
  have h2 : ∀ y : Int, 0 ≤ y → 0 ≤ y.tmod k ∧ y.tmod k < k := fun y h => by
    rw [Int.tmod_eq_emod_of_nonneg h]
    exact ⟨Int.emod_nonneg _ (by omega), Int.emod_lt_of_pos _ hk⟩
  rcases Int.le_total 0 x with h | h
  · have := h2 x h; omega
  · have h3 := h2 (-x) (by omega)
    rw [Int.neg_tmod] at h3
    omega
theorem rem14 (full k : Int) (hk : 0 < k) (hk2 : k ≤ 1048576) : ∃ m : Nat, (wrap64 (full.tmod k + k)).tmod k = (m : Int) ∧ (m : Int) < k := by
  have h1 := tmod14 full k hk
  have h2 : wrap64 (full.tmod k + k) = full.tmod k + k := by unfold wrap64; omega
  rw [h2, Int.tmod_eq_emod_of_nonneg (by omega)]
  have h3 := Int.emod_nonneg (full.tmod k + k) (b := k) (by omega)
  have h4 := Int.emod_lt_of_pos (full.tmod k + k) hk
  exact ⟨((full.tmod k + k) % k).toNat, by omega, by omega⟩
theorem rd_new (mode size : Int) (l : List UInt8) (h : (1 ≤ mode ∧ mode ≤ 3) ∧ (1 ≤ size ∧ size ≤ 65536)) (hl : l.length ≤ 1048576) : RdS (xR mode size) ⟨l, 1048576, 0⟩ l 0 :=
  ⟨rfl, h.1.1, h.1.2, h.2.1, h.2.2, rfl, rfl, rfl, .inr ⟨rfl, rfl⟩, by simp [xR], rfl, rfl, hl, Nat.zero_le _, rfl, Nat.zero_le _, by simp [xR], fun e => by simp [xR] at e⟩
set_option maxRecDepth 100000 in
set_option maxHeartbeats 8000000 in
theorem ptells_any (ta : Option Addr) (tc : Nat) (l : List UInt8) (mode size gets off wh : Int) (w : World) (hX : Bys w (.slice ta l.length tc) l) (hXl : l.length ≤ 140737488351232) (hoff : -9223372036854775808 ≤ off ∧ off ≤ 9223372036854775807) :
    Calls Try.prog 3 #[.slice ta l.length tc, .int .i64 mode, .int .i64 size, .int .i64 gets, .int .i64 off, .int .i64 wh] w fun e w' => e = .returned (.bool true) ∧ Below w.heap.size w w' := by
  have HX := hide hX
  have HOf := hide hoff
  clear hX hoff
  go_enter Try.func3, Try.ntmps3
  go_wp2_with fail
  refine (alive14 _).mono ?_
  rintro _ w1 ⟨rfl, hB1⟩
  have HB1 := hide hB1
  clear hB1
  have hM := fun W => sNew_any moR mode size W
  by_cases hl : 1048576 < l.length
  case pos =>
    have HNg := hide (newGrowing_long (.slice ta l.length tc) l w1 (HX.out.below HB1.out) hl)
    generalize SS.new moR mode size = q at *
    obtain ⟨qx, qe⟩ := q
    unfold mv at hM
    simp only at hM
    have HM := hide hM
    clear hM
    go_wp2_with fail
    refine HNg.out.mono ?_
    rintro _ w2 ⟨rfl, hB2⟩
    have HB2 := hide (HB1.out.trans (hB2.mono HB1.out.size))
    clear hB2
    go_wp2_with fail
    refine (HM.out _).mono ?_
    rintro _ w3 ⟨rfl, hB3⟩
    have HB3 := hide (HB2.out.trans (hB3.mono HB2.out.size))
    clear hB3
    go_wp2_with (first | (go_at_call 8; refine (num14 _ _).mono ?_; rintro _ _ ⟨rfl, rfl⟩) | fail)
    go_ret
    exact ⟨rfl, HB3.out.trans ((recv_below w3 _).mono HB3.out.size)⟩
  have HNg := hide (newGrowing_good (.slice ta l.length tc) l w1 (HX.out.below HB1.out) (by omega))
  rw [new_R] at hM
  unfold mv at hM
  go_wp2_with fail
  refine HNg.out.mono ?_
  rintro _ w2 ⟨g, rfl, hMm, hB2⟩
  have HM2 := hide hMm
  have HB2 := hide (HB1.out.trans (hB2.mono HB1.out.size))
  have hz12 := HB1.out.size
  clear hB2 hMm HNg
  by_cases hok : (1 ≤ mode ∧ mode ≤ 3) ∧ (1 ≤ size ∧ size ≤ 65536)
  case neg =>
    obtain ⟨q, hq, hq0⟩ : ∃ q : SS × Int, (if 1 ≤ mode ∧ mode ≤ 3 then (if 1 ≤ size ∧ size ≤ 65536 then (xR mode size, 0) else (ss0, 4)) else (ss0, 1)) = q ∧ q.2 ≠ 0 := by
      refine ⟨_, rfl, ?_⟩
      by_cases h1 : 1 ≤ mode ∧ mode ≤ 3
      · rw [if_pos h1, if_neg (fun h2 => hok ⟨h1, h2⟩)]; decide
      · rw [if_neg h1]; decide
    rw [hq] at hM
    obtain ⟨qx, qe⟩ := q
    simp only at hM hq0
    have HM := hide hM
    have hb1 : (qe == 0) = false := by simp [hq0]
    have hb2 : (qe != 0) = true := by simp [hq0]
    clear hM hq hq0 hok
    go_wp2_with fail
    refine (HM.out _).mono ?_
    rintro _ w3 ⟨rfl, hB3⟩
    have HB3 := hide (HB2.out.trans (hB3.mono HB2.out.size))
    clear hB3
    go_wp2_with (first | (go_at_call 8; refine (num14 _ _).mono ?_; rintro _ _ ⟨rfl, rfl⟩) | fail)
    go_ret
    exact ⟨rfl, HB3.out.trans ((recv_below w3 _).mono HB3.out.size)⟩
  rw [if_pos hok.1, if_pos hok.2] at hM
  simp only at hM
  have HM := hide hM
  clear hM
  go_wp2_with fail
  refine (HM.out _).mono ?_
  rintro _ w3 ⟨rfl, hB3⟩
  have HM3 := hide (HM2.out.below hB3)
  have HB3 := hide (HB2.out.trans (hB3.mono HB2.out.size))
  clear hB3 HM HM2 HB2
  have HS3 := hide (StAt.new w3 (xR mode size) (.slice none 0 0) (.slice none 0 0) (.slice none 0 0))
  have HB4 := hide (recv_below w3 (Obj.cells #[.bool (xR mode size).rd, .bool (xR mode size).wt, .int .i64 (xR mode size).mode, .int .i64 (xR mode size).size, .slice none 0 0, .slice none 0 0, .slice none 0 0, .int .i64 (xR mode size).dir, .bool (xR mode size).fin, .bool (xR mode size).bad, .bool (xR mode size).closed] 29))
  have HLV : Hid (LV (fun w O S => MemAt w O g S) (w3.alloc (Obj.cells #[.bool (xR mode size).rd, .bool (xR mode size).wt, .int .i64 (xR mode size).mode, .int .i64 (xR mode size).size, .slice none 0 0, .slice none 0 0, .slice none 0 0, .int .i64 (xR mode size).dir, .bool (xR mode size).fin, .bool (xR mode size).bad, .bool (xR mode size).closed] 29)) w.heap.size w3.heap.size (fun k => w1.heap.size ≤ k ∧ k < w3.heap.size) (xR mode size) ⟨l, 1048576, 0⟩ (.slice none 0 0) (.slice none 0 0) (.slice none 0 0)) := hide
    ⟨HS3.out, SIn.nils0 rfl rfl rfl, HM3.out.trim.below HB4.out, fun j e => Nat.lt_of_lt_of_le e.2 HB4.out.size, fun j e => by have := e.1; omega, fun e => by omega, HB3.out.size⟩
  have HTT : Hid (Turned (fun k => w.heap.size ≤ k) w (w3.alloc (Obj.cells #[.bool (xR mode size).rd, .bool (xR mode size).wt, .int .i64 (xR mode size).mode, .int .i64 (xR mode size).size, .slice none 0 0, .slice none 0 0, .slice none 0 0, .int .i64 (xR mode size).dir, .bool (xR mode size).fin, .bool (xR mode size).bad, .bool (xR mode size).closed] 29))) := hide ((Turned.of_below HB3.out).trans (Turned.of_below (S := fun k => w.heap.size ≤ k) HB4.out) (fun _ _ e => e))
  have HSZ := hide HTT.out.size
  have HOk := hide hok
  clear HS3 HB4 HM3 hok hl
  have HR0 := hide (rd_new mode size l HOk.out (by have := HLV.out.raw.ok; simp only at this; omega))
  obtain ⟨m, hm, hm9⟩ := rem14 gets 40 (by decide) (by decide)
  go_wp2_with (first | (go_at_call 8; refine (num14 _ _).mono ?_; rintro _ _ ⟨rfl, rfl⟩) | fail)
  clear hm
  generalize w3.alloc (Obj.cells #[.bool (xR mode size).rd, .bool (xR mode size).wt, .int .i64 (xR mode size).mode, .int .i64 (xR mode size).size, .slice none 0 0, .slice none 0 0, .slice none 0 0, .int .i64 (xR mode size).dir, .bool (xR mode size).fin, .bool (xR mode size).bad, .bool (xR mode size).closed] 29) = w4 at *
  generalize w3.heap.size = gv at *
  go_loopw [17] (fun s17 wr => ∃ (k : Nat) (x : SS) (S : MS) (o' i' b' : Value) (O : Nat → Prop), k ≤ m ∧ s17 = .int .i64 k ∧ Hid (RdS x S l (min k l.length)) ∧ Hid (LV (fun w O S => MemAt w O g S) wr w.heap.size gv O x S o' i' b') ∧ Hid (Turned (fun k => w.heap.size ≤ k) w wr)) (fun s17 _ => m - (intOf s17).toNat)
  case atStart => exact ⟨0, _, _, _, _, _, _, Nat.zero_le _, rfl, by rw [Nat.zero_min]; exact HR0, HLV, HTT⟩
  case round =>
    clear HLV HTT HSZ HR0
    obtain ⟨k, x, S, o', i', b', O, hk, rfl, HR, HLV, HTT⟩ := hrel
    obtain ⟨y1, y4, rfl, -⟩ := HLV.out.ls.so
    obtain ⟨y2, y5, rfl, -⟩ := HLV.out.ls.si
    obtain ⟨y3, y6, rfl, -⟩ := HLV.out.ls.sb
    have HSZ := hide HTT.out.size
    by_cases hlt : k < m
    · have hg := HR.out.get
      rw [show min (min k l.length + 1) l.length = min (k + 1) l.length by omega] at hg
      have hp := sGet_any (gro_raw g) (fun s => gmem_o g s) (bears_true msR) HLV.out.ls HLV.out.raw HLV.out.ol trivial (by rw [HR.out.out]; simp) (Nat.le_trans HR.out.il (by decide)) (by rw [HR.out.back]; simp)
      generalize x.get msR S = q at *
      obtain ⟨x', c', e', S'⟩ := q
      simp only at hp hg
      have HP := hide hp
      have HRn := hide hg.1
      clear hp hg
      obtain ⟨c0, c1, c2, c3, c4, c5, c6, c7, c8, c9, c10⟩ := HLV.out.st.cs
      go_wp2_with fail
      clear c0 c1 c2 c3 c4 c5 c6 c7 c8 c9 c10
      refine HP.out.mono ?_
      rintro _ w5 ⟨o', i', b', rfl, hS⟩
      obtain ⟨a1, a4, rfl, -⟩ := hS.choose_spec.1.so
      obtain ⟨a2, a5, rfl, -⟩ := hS.choose_spec.1.si
      obtain ⟨a3, a6, rfl, -⟩ := hS.choose_spec.1.sb
      obtain ⟨hst, ⟨O5, hl⟩, ht⟩ := LV.next (fun s => gmem_o g s) HLV.out HSZ.out hS
      have HLn := hide hl
      have HTn := hide (HTT.out.trans ht (fun _ _ e => e))
      obtain ⟨c0, c1, c2, c3, c4, c5, c6, c7, c8, c9, c10⟩ := hst.cs
      have f0 := hst.soft 0
      have f1 := hst.soft 1
      have f2 := hst.soft 2
      have f3 := hst.soft 3
      have f4 := hst.soft 4
      have f5 := hst.soft 5
      have f6 := hst.soft 6
      have f7 := hst.soft 7
      have f8 := hst.soft 8
      have f9 := hst.soft 9
      have f10 := hst.soft 10
      clear hS hst hl ht HP
      unfold filled at HLn HTn
      go_wp2_with fail
      generalize (((((((((((w5.setCell ⟨gv, 0, none⟩ (.bool x'.rd)).setCell ⟨gv, 1, none⟩ (.bool x'.wt)).setCell ⟨gv, 2, none⟩ (.int .i64 x'.mode)).setCell ⟨gv, 3, none⟩ (.int .i64 x'.size)).setCell ⟨gv, 4, none⟩ (.slice a1 x'.out.length a4)).setCell ⟨gv, 5, none⟩ (.slice a2 x'.inn.length a5)).setCell ⟨gv, 6, none⟩ (.slice a3 x'.back.length a6)).setCell ⟨gv, 7, none⟩ (.int .i64 x'.dir)).setCell ⟨gv, 8, none⟩ (.bool x'.fin)).setCell ⟨gv, 9, none⟩ (.bool x'.bad)).setCell ⟨gv, 10, none⟩ (.bool x'.closed)) = w6 at *
      go_roundw
      case rel => exact ⟨k + 1, x', S', _, _, _, _, by omega, by go_num, HRn, HLn, HTn⟩
      case measure => simp [intOf]; omega
    · obtain rfl : k = m := by omega
      have hlt2 : decide ((k : Int) < (k : Int)) = false := by simp
      generalize hj : min k l.length = j at *
      have HJ := hide hj
      clear hj hlt
      rcases HR.out.seek off wh with ⟨es, hes, hsk⟩ | ⟨p, hp9, hsk⟩
      · have hp := pseek_any (gro_raw g) (fun s => gmem_o g s) (bears_true msR) (gro_seek g) (bearsS_true _) off wh HLV.out.ls HLV.out.raw HLV.out.ol trivial (by rw [HR.out.out]; simp) (Nat.le_trans HR.out.il (by decide)) (by rw [HR.out.back]; simp) HOf.out
        rw [hsk] at hp
        simp only at hp
        have HP := hide hp
        have hb1 : (es == 0) = false := by simp [hes]
        have hb2 : (es != 0) = true := by simp [hes]
        clear hp hsk hes
        obtain ⟨c0, c1, c2, c3, c4, c5, c6, c7, c8, c9, c10⟩ := HLV.out.st.cs
        go_wp2_with fail
        clear c0 c1 c2 c3 c4 c5 c6 c7 c8 c9 c10
        refine HP.out.mono ?_
        rintro _ w7 ⟨o', i', b', rfl, hS⟩
        obtain ⟨a1, a4, rfl, -⟩ := hS.choose_spec.1.so
        obtain ⟨a2, a5, rfl, -⟩ := hS.choose_spec.1.si
        obtain ⟨a3, a6, rfl, -⟩ := hS.choose_spec.1.sb
        obtain ⟨hst, ⟨O7, hl⟩, ht⟩ := LV.next (fun s => gmem_o g s) HLV.out HSZ.out hS
        have HLn := hide hl
        have HTn := hide (HTT.out.trans ht (fun _ _ e => e))
        obtain ⟨c0, c1, c2, c3, c4, c5, c6, c7, c8, c9, c10⟩ := hst.cs
        have f0 := hst.soft 0
        have f1 := hst.soft 1
        have f2 := hst.soft 2
        have f3 := hst.soft 3
        have f4 := hst.soft 4
        have f5 := hst.soft 5
        have f6 := hst.soft 6
        have f7 := hst.soft 7
        have f8 := hst.soft 8
        have f9 := hst.soft 9
        have f10 := hst.soft 10
        clear hS hst hl ht HP
        unfold filled at HLn HTn
        have hp := ptell_any (gro_raw g) (fun s => gmem_o g s) (bears_true msR) (gro_seek g) (bearsS_true _) HLn.out.ls HLn.out.raw HLn.out.ol trivial (by rw [HR.out.out]; simp) (Nat.le_trans HR.out.il (by decide)) (by rw [HR.out.back]; simp)
        rw [HR.out.tell] at hp
        simp only at hp
        have HP := hide hp
        clear hp
        go_wp2_with (first | (go_at_call 8; refine (num14 _ _).mono ?_; rintro _ _ ⟨rfl, rfl⟩) | fail)
        generalize (((((((((((w7.setCell ⟨gv, 0, none⟩ (.bool x.rd)).setCell ⟨gv, 1, none⟩ (.bool x.wt)).setCell ⟨gv, 2, none⟩ (.int .i64 x.mode)).setCell ⟨gv, 3, none⟩ (.int .i64 x.size)).setCell ⟨gv, 4, none⟩ (.slice a1 x.out.length a4)).setCell ⟨gv, 5, none⟩ (.slice a2 x.inn.length a5)).setCell ⟨gv, 6, none⟩ (.slice a3 x.back.length a6)).setCell ⟨gv, 7, none⟩ (.int .i64 x.dir)).setCell ⟨gv, 8, none⟩ (.bool x.fin)).setCell ⟨gv, 9, none⟩ (.bool x.bad)).setCell ⟨gv, 10, none⟩ (.bool x.closed)) = w8 at *
        clear c0 c1 c2 c3 c4 c5 c6 c7 c8 c9 c10 f0 f1 f2 f3 f4 f5 f6 f7 f8 f9 f10 HLV HTT HSZ
        have HLV := HLn
        have HTT := HTn
        have HSZ := hide HTT.out.size
        clear HLn HTn
        refine HP.out.mono ?_
        rintro _ w9 ⟨o', i', b', rfl, hS⟩
        obtain ⟨b1, b4, rfl, -⟩ := hS.choose_spec.1.so
        obtain ⟨b2, b5, rfl, -⟩ := hS.choose_spec.1.si
        obtain ⟨b3, b6, rfl, -⟩ := hS.choose_spec.1.sb
        have HTZ : Hid (Turned (fun k => w.heap.size ≤ k) w w9) := hide (by
          obtain ⟨_, _, _, _, _, t⟩ := hS
          exact HTT.out.trans (t.mono fun k e => HLV.out.ob k e) (fun _ _ e => e))
        clear hS
        have HQ : ((j : Int) == min (k : Int) (l.length : Int)) = true := by rw [beq_iff_eq]; have := HJ.out; omega
        go_wp2_with (first | (go_at_call 8; refine (num14 _ _).mono ?_; rintro _ _ ⟨rfl, rfl⟩) | fail)
        go_ret
        exact ⟨rfl, (HTZ.out.below (B := w.heap.size) (fun _ e => e) (Nat.le_refl _)).trans ((recv_below w9 _).mono HTZ.out.size)⟩
      · obtain ⟨xb, hxb⟩ : ∃ xb, xb = x.bare := ⟨_, rfl⟩
        have ht := HR.out.bare_tell p hp9
        have hgt := HR.out.bare_get p
        rw [← hxb] at hsk ht hgt
        have HLs : Hid (xb.out.length ≤ 140737488351232 ∧ xb.inn.length ≤ 140737488351232 ∧ xb.back.length ≤ 140737488351232) := hide ⟨(by rw [hxb]; simp [SS.bare]), (by rw [hxb]; simp [SS.bare]), (by rw [hxb]; simp [SS.bare])⟩
        have HTl := hide ht
        have HGt := hide hgt
        clear ht hgt hxb
        have hp := pseek_any (gro_raw g) (fun s => gmem_o g s) (bears_true msR) (gro_seek g) (bearsS_true _) off wh HLV.out.ls HLV.out.raw HLV.out.ol trivial (by rw [HR.out.out]; simp) (Nat.le_trans HR.out.il (by decide)) (by rw [HR.out.back]; simp) HOf.out
        rw [hsk] at hp
        simp only at hp
        have HP := hide hp
        clear hp hsk
        obtain ⟨c0, c1, c2, c3, c4, c5, c6, c7, c8, c9, c10⟩ := HLV.out.st.cs
        go_wp2_with fail
        clear c0 c1 c2 c3 c4 c5 c6 c7 c8 c9 c10
        refine HP.out.mono ?_
        rintro _ w7 ⟨o', i', b', rfl, hS⟩
        obtain ⟨a1, a4, rfl, -⟩ := hS.choose_spec.1.so
        obtain ⟨a2, a5, rfl, -⟩ := hS.choose_spec.1.si
        obtain ⟨a3, a6, rfl, -⟩ := hS.choose_spec.1.sb
        obtain ⟨hst, ⟨O7, hl⟩, ht⟩ := LV.next (fun s => gmem_o g s) HLV.out HSZ.out hS
        have HLn := hide hl
        have HTn := hide (HTT.out.trans ht (fun _ _ e => e))
        obtain ⟨c0, c1, c2, c3, c4, c5, c6, c7, c8, c9, c10⟩ := hst.cs
        have f0 := hst.soft 0
        have f1 := hst.soft 1
        have f2 := hst.soft 2
        have f3 := hst.soft 3
        have f4 := hst.soft 4
        have f5 := hst.soft 5
        have f6 := hst.soft 6
        have f7 := hst.soft 7
        have f8 := hst.soft 8
        have f9 := hst.soft 9
        have f10 := hst.soft 10
        clear hS hst hl ht HP
        unfold filled at HLn HTn
        have hp := ptell_any (gro_raw g) (fun s => gmem_o g s) (bears_true msR) (gro_seek g) (bearsS_true _) HLn.out.ls HLn.out.raw HLn.out.ol trivial HLs.out.1 HLs.out.2.1 HLs.out.2.2
        rw [HTl.out] at hp
        simp only at hp
        have HP := hide hp
        clear hp
        go_wp2_with (first | (go_at_call 8; refine (num14 _ _).mono ?_; rintro _ _ ⟨rfl, rfl⟩) | fail)
        generalize (((((((((((w7.setCell ⟨gv, 0, none⟩ (.bool xb.rd)).setCell ⟨gv, 1, none⟩ (.bool xb.wt)).setCell ⟨gv, 2, none⟩ (.int .i64 xb.mode)).setCell ⟨gv, 3, none⟩ (.int .i64 xb.size)).setCell ⟨gv, 4, none⟩ (.slice a1 xb.out.length a4)).setCell ⟨gv, 5, none⟩ (.slice a2 xb.inn.length a5)).setCell ⟨gv, 6, none⟩ (.slice a3 xb.back.length a6)).setCell ⟨gv, 7, none⟩ (.int .i64 xb.dir)).setCell ⟨gv, 8, none⟩ (.bool xb.fin)).setCell ⟨gv, 9, none⟩ (.bool xb.bad)).setCell ⟨gv, 10, none⟩ (.bool xb.closed)) = w8 at *
        clear c0 c1 c2 c3 c4 c5 c6 c7 c8 c9 c10 f0 f1 f2 f3 f4 f5 f6 f7 f8 f9 f10 HLV HTT HSZ
        have HLV := HLn
        have HTT := HTn
        have HSZ := hide HTT.out.size
        clear HLn HTn
        refine HP.out.mono ?_
        rintro _ w9 ⟨o', i', b', rfl, hS⟩
        obtain ⟨b1, b4, rfl, -⟩ := hS.choose_spec.1.so
        obtain ⟨b2, b5, rfl, -⟩ := hS.choose_spec.1.si
        obtain ⟨b3, b6, rfl, -⟩ := hS.choose_spec.1.sb
        obtain ⟨hst, ⟨O9, hl⟩, ht⟩ := LV.next (fun s => gmem_o g s) HLV.out HSZ.out hS
        have HLn := hide hl
        have HTn := hide (HTT.out.trans ht (fun _ _ e => e))
        obtain ⟨c0, c1, c2, c3, c4, c5, c6, c7, c8, c9, c10⟩ := hst.cs
        have f0 := hst.soft 0
        have f1 := hst.soft 1
        have f2 := hst.soft 2
        have f3 := hst.soft 3
        have f4 := hst.soft 4
        have f5 := hst.soft 5
        have f6 := hst.soft 6
        have f7 := hst.soft 7
        have f8 := hst.soft 8
        have f9 := hst.soft 9
        have f10 := hst.soft 10
        clear hS hst hl ht HP
        unfold filled at HLn HTn
        have hp := sGet_any (gro_raw g) (fun s => gmem_o g s) (bears_true msR) HLn.out.ls HLn.out.raw HLn.out.ol trivial HLs.out.1 HLs.out.2.1 HLs.out.2.2
        have hgt := HGt.out
        generalize xb.get msR ⟨l, 1048576, p⟩ = q at *
        obtain ⟨gx, gc, ge, gs⟩ := q
        simp only at hp hgt
        have HP := hide hp
        clear hp
        have hn1 : decide ((p : Int) < 0) = false := by simp
        have hn2 : decide (1048576 < (p : Int)) = false := by simp; omega
        have hn3 : ((p : Int) != (p : Int)) = false := by simp
        go_wp2_with (first | (go_at_call 8; refine (num14 _ _).mono ?_; rintro _ _ ⟨rfl, rfl⟩) | fail)
        generalize (((((((((((w9.setCell ⟨gv, 0, none⟩ (.bool xb.rd)).setCell ⟨gv, 1, none⟩ (.bool xb.wt)).setCell ⟨gv, 2, none⟩ (.int .i64 xb.mode)).setCell ⟨gv, 3, none⟩ (.int .i64 xb.size)).setCell ⟨gv, 4, none⟩ (.slice b1 xb.out.length b4)).setCell ⟨gv, 5, none⟩ (.slice b2 xb.inn.length b5)).setCell ⟨gv, 6, none⟩ (.slice b3 xb.back.length b6)).setCell ⟨gv, 7, none⟩ (.int .i64 xb.dir)).setCell ⟨gv, 8, none⟩ (.bool xb.fin)).setCell ⟨gv, 9, none⟩ (.bool xb.bad)).setCell ⟨gv, 10, none⟩ (.bool xb.closed)) = w10 at *
        clear c0 c1 c2 c3 c4 c5 c6 c7 c8 c9 c10 f0 f1 f2 f3 f4 f5 f6 f7 f8 f9 f10 HLV HTT HSZ
        have HLV := HLn
        have HTT := HTn
        have HSZ := hide HTT.out.size
        clear HLn HTn
        refine HP.out.mono ?_
        rintro _ w11 ⟨o', i', b', rfl, hS⟩
        obtain ⟨d1, d4, rfl, -⟩ := hS.choose_spec.1.so
        obtain ⟨d2, d5, rfl, -⟩ := hS.choose_spec.1.si
        obtain ⟨d3, d6, rfl, -⟩ := hS.choose_spec.1.sb
        have HTZ : Hid (Turned (fun k => w.heap.size ≤ k) w w11) := hide (by
          obtain ⟨_, _, _, _, _, t⟩ := hS
          exact HTT.out.trans (t.mono fun k e => HLV.out.ob k e) (fun _ _ e => e))
        clear hS
        by_cases hpl : p < l.length
        · obtain ⟨rfl, rfl⟩ := hgt.1 hpl
          have HB12 := hide ((HTZ.out.below (B := w.heap.size) (fun _ e => e) (Nat.le_refl _)).trans ((recv_below w11 (Obj.cells #[.bool gx.rd, .bool gx.wt, .int .i64 gx.mode, .int .i64 gx.size, .slice d1 gx.out.length d4, .slice d2 gx.inn.length d5, .slice d3 gx.back.length d6, .int .i64 gx.dir, .bool gx.fin, .bool gx.bad, .bool gx.closed] 29)).mono HTZ.out.size))
          obtain ⟨_, _, hv, hcl⟩ := bys_form (HX.out.below HB12.out)
          cases hv
          obtain ⟨tb, tof, rfl, hc⟩ := hcl (by omega)
          have hcp := hc p hpl
          have hn4 : decide ((l.length : Int) ≤ (p : Int)) = false := by simp; omega
          have hn5 : (0 : Int) ≤ (p : Int) := by omega
          have hn6 : (p : Int) < (l.length : Int) := by omega
          clear hcl hc hgt
          go_wp2_with (first | (go_at_call 8; refine (num14 _ _).mono ?_; rintro _ _ ⟨rfl, rfl⟩) | fail)
          go_ret
          exact ⟨rfl, HB12.out⟩
        · have hge := hgt.2 hpl
          subst hge
          have hn4 : decide ((l.length : Int) ≤ (p : Int)) = true := by simp; omega
          have hn5 : decide ((p : Int) < (l.length : Int)) = false := by simp; omega
          have hn6 : (l.length : Int) ≤ (p : Int) := by omega
          clear hgt hpl
          go_wp2_with (first | (go_at_call 8; refine (num14 _ _).mono ?_; rintro _ _ ⟨rfl, rfl⟩) | fail)
          go_ret
          exact ⟨rfl, (HTZ.out.below (B := w.heap.size) (fun _ e => e) (Nat.le_refl _)).trans ((recv_below w11 _).mono HTZ.out.size)⟩
theorem bys_len14 {W : World} {a : Option Addr} {n c : Nat} {l : List UInt8} (h : Bys W (.slice a n c) l) : n = l.length := by
  obtain ⟨_, _, e, -⟩ := bys_form h
  cases e
  rfl
theorem ptells_fr (ta : Option Addr) (tn tc : Nat) (l : List UInt8) (mode size gets off wh : Int) (w : World) (hX : Bys w (.slice ta tn tc) l) (hXl : l.length ≤ 140737488351232) (hoff : -9223372036854775808 ≤ off ∧ off ≤ 9223372036854775807) :
    Calls Try.prog 3 #[.slice ta tn tc, .int .i64 mode, .int .i64 size, .int .i64 gets, .int .i64 off, .int .i64 wh] w fun e w' => e = .returned (.bool true) ∧ Below w.heap.size w w' := by
  obtain rfl := bys_len14 hX
  exact ptells_any ta tc l mode size gets off wh w hX hXl hoff
end Go.Proofs.Ytckmfbjpjakbcaa

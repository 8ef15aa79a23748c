/- What the proof stands on, part 19: the contracts of the program's calls that it reaches. -/
import Derived.Test.YtkkommomefmpgaaGreatKQ18
import Derived.Deep.Cut
import Derived.Laws.ResultCell
/- Position: Seek, over any Raw. -/
namespace Go.Proofs.YtkkommomefmpgaaGreat
open Go.RowKit

set_option maxRecDepth 100000 in
set_option maxHeartbeats 4000000 in
theorem pseek_any {S : Type} {D : RawD S} {T : TypeId} {v : Value} {fr fw : FuncId} {rok wok : S → Prop} {At : World → (Nat → Prop) → S → Prop} (R : RawM D T v fr fw rok wok At) (hT : ∀ s, OAt (fun w O => At w O s)) {G : Nat → S → Prop} (hG : Bears D rok wok G) {K : SkV S} {fs : FuncId} {sok : S → Prop} (Q : RawS K T v fs sok At) (hK : BearsS K sok G) {w : World} {O P : Nat → Prop} {s : S} {x : SS} {o i b : Value} (off wh : Int) (h : SIn w P x o i b) (hA : At w O s) (hO : ∀ j, O j → j < w.heap.size) (hg : G 4 s) (ho : x.out.length ≤ 140737488351232) (hi : x.inn.length ≤ 140737488351232) (hb : x.back.length ≤ 140737488351232) (hoff : -9223372036854775808 ≤ off ∧ off ≤ 9223372036854775807) :
    Calls Tryz.prog 29 #[.agg #[.bool x.rd, .bool x.wt, .int .i64 x.mode, .int .i64 x.size, o, i, b, .int .i64 x.dir, .bool x.fin, .bool x.bad, .bool x.closed], .iface T v, .int .i64 off, .int .i64 wh] w fun e w' => ∃ o' i' b', e = .returned (.tuple #[.agg #[.bool (x.seek D K s off wh).1.rd, .bool (x.seek D K s off wh).1.wt, .int .i64 (x.seek D K s off wh).1.mode, .int .i64 (x.seek D K s off wh).1.size, o', i', b', .int .i64 (x.seek D K s off wh).1.dir, .bool (x.seek D K s off wh).1.fin, .bool (x.seek D K s off wh).1.bad, .bool (x.seek D K s off wh).1.closed], .int .i64 (x.seek D K s off wh).2.1, .int .i64 (x.seek D K s off wh).2.2.1]) ∧ SOut At w O (x.seek D K s off wh).1 (x.seek D K s off wh).2.2.2 o' i' b' w' := by
  have HDv := hide (fun (W : World) (hW : Below w.heap.size w W) (hr : x.refuse true = 0) => delivered_any R hT hG (h.below hW) ((hT s).keep hA (fun j _ hj => hW.block j hj) hW.size) (fun j e => Nat.lt_of_lt_of_le (hO j e) hW.size) (hG.less _ _ (hG.less _ _ hg)) ho hi hb hr)
  have HCp := hide (fun (W : World) (hW : Below w.heap.size w W) => pcopied14 x o i b P W (h.below hW) ho hi hb)
  obtain ⟨oa, oc, rfl, -⟩ := h.so
  obtain ⟨ia, ic, rfl, -⟩ := h.si
  obtain ⟨ba, bc, rfl, -⟩ := h.sb
  clear h
  have HRf := hide (fun W => seekRefusal_any x oa ia ba oc ic bc T v wh W hi hb)
  have HOf := hide hoff
  clear hoff
  generalize hq : x.seek D K s off wh = q
  obtain ⟨qx, qn, qe, qs⟩ := q
  have hq : (if x.srefuse true wh ≠ 0 then (x, 0, x.srefuse true wh, s) else if (x.deliver D s).2.1 ≠ 0 then ((x.deliver D s).1, 0, (x.deliver D s).2.1, (x.deliver D s).2.2) else (x.deliver D s).1.sought K (x.deliver D s).2.2 off wh) = (qx, qn, qe, qs) := by
    rw [← hq]
    unfold SS.seek SS.srefuse
    by_cases h0 : x.refuse true = 0
    · by_cases h1 : wh < 0 ∨ 2 < wh
      · simp [h0, h1]
      · simp [h0, h1]
    · simp [h0]
  go_enter Tryz.func29, Tryz.ntmps29
  go_wp2_with fail
  have HB0 := hide ((recv_below w (Obj.cells #[.bool x.rd, .bool x.wt, .int .i64 x.mode, .int .i64 x.size, .slice oa x.out.length oc, .slice ia x.inn.length ic, .slice ba x.back.length bc, .int .i64 x.dir, .bool x.fin, .bool x.bad, .bool x.closed] 58)).trans ((recv_below (w.alloc (Obj.cells #[.bool x.rd, .bool x.wt, .int .i64 x.mode, .int .i64 x.size, .slice oa x.out.length oc, .slice ia x.inn.length ic, .slice ba x.back.length bc, .int .i64 x.dir, .bool x.fin, .bool x.bad, .bool x.closed] 58)) (Obj.cells #[.bool false, .bool false, .int .i64 0, .int .i64 0, .slice none 0 0, .slice none 0 0, .slice none 0 0, .int .i64 0, .bool false, .bool false, .bool false] 58)).mono (recv_below w (Obj.cells #[.bool x.rd, .bool x.wt, .int .i64 x.mode, .int .i64 x.size, .slice oa x.out.length oc, .slice ia x.inn.length ic, .slice ba x.back.length bc, .int .i64 x.dir, .bool x.fin, .bool x.bad, .bool x.closed] 58)).size))
  have HS0 := hide ((StAt.new w x (.slice oa x.out.length oc) (.slice ia x.inn.length ic) (.slice ba x.back.length bc)).below (recv_below _ (Obj.cells #[.bool false, .bool false, .int .i64 0, .int .i64 0, .slice none 0 0, .slice none 0 0, .slice none 0 0, .int .i64 0, .bool false, .bool false, .bool false] 58)))
  have HZ0 : Hid (((w.alloc (Obj.cells #[.bool x.rd, .bool x.wt, .int .i64 x.mode, .int .i64 x.size, .slice oa x.out.length oc, .slice ia x.inn.length ic, .slice ba x.back.length bc, .int .i64 x.dir, .bool x.fin, .bool x.bad, .bool x.closed] 58)).alloc (Obj.cells #[.bool false, .bool false, .int .i64 0, .int .i64 0, .slice none 0 0, .slice none 0 0, .slice none 0 0, .int .i64 0, .bool false, .bool false, .bool false] 58)).heap[w.heap.size + 1]? = some (Obj.cells #[.bool false, .bool false, .int .i64 0, .int .i64 0, .slice none 0 0, .slice none 0 0, .slice none 0 0, .int .i64 0, .bool false, .bool false, .bool false] 58)) := hide (by have := heap_alloc_new (w.alloc (Obj.cells #[.bool x.rd, .bool x.wt, .int .i64 x.mode, .int .i64 x.size, .slice oa x.out.length oc, .slice ia x.inn.length ic, .slice ba x.back.length bc, .int .i64 x.dir, .bool x.fin, .bool x.bad, .bool x.closed] 58)) (Obj.cells #[.bool false, .bool false, .int .i64 0, .int .i64 0, .slice none 0 0, .slice none 0 0, .slice none 0 0, .int .i64 0, .bool false, .bool false, .bool false] 58); rw [show (w.alloc (Obj.cells #[.bool x.rd, .bool x.wt, .int .i64 x.mode, .int .i64 x.size, .slice oa x.out.length oc, .slice ia x.inn.length ic, .slice ba x.back.length bc, .int .i64 x.dir, .bool x.fin, .bool x.bad, .bool x.closed] 58)).heap.size = w.heap.size + 1 from Array.size_push ..] at this; exact this)
  generalize (w.alloc (Obj.cells #[.bool x.rd, .bool x.wt, .int .i64 x.mode, .int .i64 x.size, .slice oa x.out.length oc, .slice ia x.inn.length ic, .slice ba x.back.length bc, .int .i64 x.dir, .bool x.fin, .bool x.bad, .bool x.closed] 58)).alloc (Obj.cells #[.bool false, .bool false, .int .i64 0, .int .i64 0, .slice none 0 0, .slice none 0 0, .slice none 0 0, .int .i64 0, .bool false, .bool false, .bool false] 58) = w0 at *
  have hz0 : w.heap.size + 1 < w0.heap.size := (Array.getElem?_eq_some_iff.1 HZ0.out).1
  refine (HRf.out _).mono ?_
  rintro _ w1 ⟨rfl, hB1⟩
  have HB1 := hide (HB0.out.trans (hB1.mono HB0.out.size))
  have HS1 := hide (HS0.out.below hB1)
  have HZ1 := hide ((hB1.block (w.heap.size + 1) hz0).trans HZ0.out)
  have hz1 := hB1.size
  clear hB1 HS0 HZ0 HB0 HRf
  obtain ⟨c0, c1, c2, c3, c4, c5, c6, c7, c8, c9, c10⟩ := HS1.out.cs
  by_cases hn : x.srefuse true wh = 0
  case neg =>
    rw [if_pos hn] at hq
    obtain ⟨rfl, rfl, rfl, rfl⟩ : x = qx ∧ 0 = qn ∧ x.srefuse true wh = qe ∧ s = qs := by simpa using hq
    obtain ⟨nw, hnw⟩ : ∃ nw, nw = x.srefuse true wh := ⟨_, rfl⟩
    rw [← hnw] at hn ⊢
    have HNw := hide hnw
    have hn2 : (nw == 0) = false := by simp [hn]
    have hn3 : (nw != 0) = true := by simp [hn]
    clear hq hnw HDv
    go_wp2_with fail
    refine (HCp.out _ HB1.out).mono ?_
    rintro _ w2 ⟨o1, i1, b1, rfl, y3, y4, y5, hB2⟩
    have hOu := SOut.of_own hT ((hT s).keep hA (fun j _ hj => HB1.out.block j hj) HB1.out.size) (fun j e => Nat.lt_of_lt_of_le (hO j e) HB1.out.size) y3 y4 y5 hB2
    obtain ⟨a1, k1, rfl⟩ := owns_slice y3
    obtain ⟨a2, k2, rfl⟩ := owns_slice y4
    obtain ⟨a3, k3, rfl⟩ := owns_slice y5
    have HOu := hide hOu
    have HZ3 := hide ((hB2.block (w.heap.size + 1) (by omega)).trans HZ1.out)
    clear hOu y3 y4 y5 hB2 c0 c1 c2 c3 c4 c5 c6 c7 c8 c9 c10
    have f0 := frozen_of_row w2 (w.heap.size + 1) 0 _ _ HZ3.out
    have f1 := frozen_of_row w2 (w.heap.size + 1) 1 _ _ HZ3.out
    have f2 := frozen_of_row w2 (w.heap.size + 1) 2 _ _ HZ3.out
    have f3 := frozen_of_row w2 (w.heap.size + 1) 3 _ _ HZ3.out
    have f4 := frozen_of_row w2 (w.heap.size + 1) 4 _ _ HZ3.out
    have f5 := frozen_of_row w2 (w.heap.size + 1) 5 _ _ HZ3.out
    have f6 := frozen_of_row w2 (w.heap.size + 1) 6 _ _ HZ3.out
    have f7 := frozen_of_row w2 (w.heap.size + 1) 7 _ _ HZ3.out
    have f8 := frozen_of_row w2 (w.heap.size + 1) 8 _ _ HZ3.out
    have f9 := frozen_of_row w2 (w.heap.size + 1) 9 _ _ HZ3.out
    have f10 := frozen_of_row w2 (w.heap.size + 1) 10 _ _ HZ3.out
    have d0 := cell_of_row w2 (w.heap.size + 1) 0 _ _ _ HZ3.out
    have d1 := cell_of_row w2 (w.heap.size + 1) 1 _ _ _ HZ3.out
    have d2 := cell_of_row w2 (w.heap.size + 1) 2 _ _ _ HZ3.out
    have d3 := cell_of_row w2 (w.heap.size + 1) 3 _ _ _ HZ3.out
    have d4 := cell_of_row w2 (w.heap.size + 1) 4 _ _ _ HZ3.out
    have d5 := cell_of_row w2 (w.heap.size + 1) 5 _ _ _ HZ3.out
    have d6 := cell_of_row w2 (w.heap.size + 1) 6 _ _ _ HZ3.out
    have d7 := cell_of_row w2 (w.heap.size + 1) 7 _ _ _ HZ3.out
    have d8 := cell_of_row w2 (w.heap.size + 1) 8 _ _ _ HZ3.out
    have d9 := cell_of_row w2 (w.heap.size + 1) 9 _ _ _ HZ3.out
    have d10 := cell_of_row w2 (w.heap.size + 1) 10 _ _ _ HZ3.out
    simp at d0 d1 d2 d3 d4 d5 d6 d7 d8 d9 d10
    go_wp2
    obtain ⟨e1, e2⟩ := st_fill w2 (w.heap.size + 1) x (.slice a1 x.out.length k1) (.slice a2 x.inn.length k2) (.slice a3 x.back.length k3) HZ3.out
    refine bodyPost_ret (res_three rfl _ (w.heap.size + 1) rfl x _ _ _ e1) rfl ?_
    exact ⟨_, _, _, by rw [← HNw.out]; rfl, SOut.fin hT HOu.out HB1.out (by omega) (Nat.le_succ _) hO e2⟩
  rw [if_neg (by simp [hn])] at hq
  have hrf : x.refuse true = 0 := by
    unfold SS.srefuse at hn
    by_cases h0 : x.refuse true = 0
    · exact h0
    · rw [if_pos h0] at hn; exact hn
  rw [hn]
  clear hn
  have hlen : x.out.length ≤ 65536 := by have := may_buf (refuse_may hrf).1; omega
  have hp := HDv.out _ HB1.out hrf
  have hG2 := (hG.put 3 s x.out hg hlen).2
  have hdo := deliver_ok D x s
  have hdh : (x.deliver D s).1.inn = x.inn ∧ (x.deliver D s).1.back = x.back := by unfold SS.deliver SS.mark; split <;> exact ⟨rfl, rfl⟩
  have hG3 : G 3 (x.deliver D s).2.2 := hG2
  clear hG2 hlen HDv HCp
  generalize x.deliver D s = X at *
  obtain ⟨dx, de, ds⟩ := X
  simp only at hp hq hdo hG3 hdh
  have HP := hide hp
  have HDo := hide hdo
  have HG3 := hide hG3
  have HDh := hide hdh
  clear hp hdo hG3 hdh
  go_wp2_with fail
  refine HP.out.mono ?_
  rintro _ w2 ⟨o1, i1, b1, rfl, hS⟩
  obtain ⟨a1, k1, rfl, -⟩ := hS.choose_spec.1.so
  obtain ⟨a2, k2, rfl, -⟩ := hS.choose_spec.1.si
  obtain ⟨a3, k3, rfl, -⟩ := hS.choose_spec.1.sb
  obtain ⟨hst, O2, hV⟩ := QV.of_out hT HB1.out HS1.out HZ1.out (by omega) (Nat.le_refl _) (Nat.le_succ _) hO hS
  unfold filled at hV
  have HV2 := hide hV
  have HS2 := hide hst
  clear hS hst hV HP HS1 HZ1 c0 c1 c2 c3 c4 c5 c6 c7 c8 c9 c10
  obtain ⟨c0, c1, c2, c3, c4, c5, c6, c7, c8, c9, c10⟩ := HS2.out.cs
  have s0 := HS2.out.soft 0
  have s1 := HS2.out.soft 1
  have s2 := HS2.out.soft 2
  have s3 := HS2.out.soft 3
  have s4 := HS2.out.soft 4
  have s5 := HS2.out.soft 5
  have s6 := HS2.out.soft 6
  have s7 := HS2.out.soft 7
  have s8 := HS2.out.soft 8
  have s9 := HS2.out.soft 9
  have s10 := HS2.out.soft 10
  go_upto_region 5 with fail
  clear c0 c1 c2 c3 c4 c5 c6 c7 c8 c9 c10
  clear s0 s1 s2 s3 s4 s5 s6 s7 s8 s9 s10
  clear HS2
  generalize (((((((((((w2.setCell ⟨w.heap.size, 0, none⟩ (.bool dx.rd)).setCell ⟨w.heap.size, 1, none⟩ (.bool dx.wt)).setCell ⟨w.heap.size, 2, none⟩ (.int .i64 dx.mode)).setCell ⟨w.heap.size, 3, none⟩ (.int .i64 dx.size)).setCell ⟨w.heap.size, 4, none⟩ (.slice a1 dx.out.length k1)).setCell ⟨w.heap.size, 5, none⟩ (.slice a2 dx.inn.length k2)).setCell ⟨w.heap.size, 6, none⟩ (.slice a3 dx.back.length k3)).setCell ⟨w.heap.size, 7, none⟩ (.int .i64 dx.dir)).setCell ⟨w.heap.size, 8, none⟩ (.bool dx.fin)).setCell ⟨w.heap.size, 9, none⟩ (.bool dx.bad)).setCell ⟨w.heap.size, 10, none⟩ (.bool dx.closed)) = w3 at *
  by_cases he : de = 0
  case neg =>
    rw [if_pos he] at hq
    obtain ⟨rfl, rfl, rfl, rfl⟩ : dx = qx ∧ 0 = qn ∧ de = qe ∧ ds = qs := by simpa using hq
    have hb2 : (de == 0) = false := by simp [he]
    have hb3 : (de != 0) = true := by simp [he]
    clear hq he
    obtain ⟨e1, e2⟩ := HV2.out.out hT
    unfold filled at e1 e2
    have HE := hide e1
    have HF := hide e2
    have HZr := hide HV2.out.zr
    obtain ⟨c0, c1, c2, c3, c4, c5, c6, c7, c8, c9, c10⟩ := HV2.out.st.cs
    have f0 := frozen_of_row w3 (w.heap.size + 1) 0 _ _ HZr.out
    have f1 := frozen_of_row w3 (w.heap.size + 1) 1 _ _ HZr.out
    have f2 := frozen_of_row w3 (w.heap.size + 1) 2 _ _ HZr.out
    have f3 := frozen_of_row w3 (w.heap.size + 1) 3 _ _ HZr.out
    have f4 := frozen_of_row w3 (w.heap.size + 1) 4 _ _ HZr.out
    have f5 := frozen_of_row w3 (w.heap.size + 1) 5 _ _ HZr.out
    have f6 := frozen_of_row w3 (w.heap.size + 1) 6 _ _ HZr.out
    have f7 := frozen_of_row w3 (w.heap.size + 1) 7 _ _ HZr.out
    have f8 := frozen_of_row w3 (w.heap.size + 1) 8 _ _ HZr.out
    have f9 := frozen_of_row w3 (w.heap.size + 1) 9 _ _ HZr.out
    have f10 := frozen_of_row w3 (w.heap.size + 1) 10 _ _ HZr.out
    have d0 := cell_of_row w3 (w.heap.size + 1) 0 _ _ _ HZr.out
    have d1 := cell_of_row w3 (w.heap.size + 1) 1 _ _ _ HZr.out
    have d2 := cell_of_row w3 (w.heap.size + 1) 2 _ _ _ HZr.out
    have d3 := cell_of_row w3 (w.heap.size + 1) 3 _ _ _ HZr.out
    have d4 := cell_of_row w3 (w.heap.size + 1) 4 _ _ _ HZr.out
    have d5 := cell_of_row w3 (w.heap.size + 1) 5 _ _ _ HZr.out
    have d6 := cell_of_row w3 (w.heap.size + 1) 6 _ _ _ HZr.out
    have d7 := cell_of_row w3 (w.heap.size + 1) 7 _ _ _ HZr.out
    have d8 := cell_of_row w3 (w.heap.size + 1) 8 _ _ _ HZr.out
    have d9 := cell_of_row w3 (w.heap.size + 1) 9 _ _ _ HZr.out
    have d10 := cell_of_row w3 (w.heap.size + 1) 10 _ _ _ HZr.out
    simp at d0 d1 d2 d3 d4 d5 d6 d7 d8 d9 d10
    clear e1 e2
    go_wp2
    refine bodyPost_ret (res_three rfl _ (w.heap.size + 1) rfl dx _ _ _ HE.out) rfl ?_
    exact ⟨_, _, _, rfl, HF.out⟩
  subst he
  rw [if_neg (by simp)] at hq
  unfold SS.sought at hq
  have hxo : dx.out = [] := by rw [HDo.out (by trivial)]
  have hle : dx.inn.length ≤ 140737488351232 ∧ dx.back.length ≤ 140737488351232 := by rw [HDh.out.1, HDh.out.2]; exact ⟨hi, hb⟩
  have HH := hide (fun W => pheld14 dx a1 a2 a3 k1 k2 k3 W (by rw [hxo]; simp) hle.1 hle.2)
  have HHo : Hid ((dx.out.length : Int) + dx.inn.length + dx.back.length = dx.hold) := hide (by rw [hxo]; unfold SS.hold; simp)
  rw [HHo.out] at HH
  have HHb : Hid (0 ≤ dx.hold ∧ dx.hold ≤ 1000000000000000) := hide (by unfold SS.hold; omega)
  have HEm := hide (fun W => emptied_any dx a1 a2 a3 k1 k2 k3 W)
  clear hxo hle HHo
  generalize dx.hold = H at *
  obtain ⟨c0, c1, c2, c3, c4, c5, c6, c7, c8, c9, c10⟩ := HV2.out.st.cs
  go_wp2_with fail
  refine (HH.out _).mono ?_
  rintro _ w4 ⟨rfl, hB4⟩
  have HV4 := hide (HV2.out.below hT hB4)
  clear hB4 HV2 HH c0 c1 c2 c3 c4 c5 c6 c7 c8 c9 c10
  have HMv := hide (moved_any Q hK H off wh HV4.out.raw (hG.less _ _ HG3.out) HHb.out HOf.out)
  obtain ⟨p, f, t, hk⟩ : ∃ p f t, movedV K ds H off wh = (p, f, t) := ⟨_, _, _, rfl⟩
  rw [hk] at HMv hq
  simp only at HMv hq
  clear hk HHb HOf
  go_wp2_with fail
  refine HMv.out.mono ?_
  rintro _ w5 ⟨rfl, hS5⟩
  obtain ⟨O5, hV5, -⟩ := HV4.out.step hT hS5
  have HV5 := hide hV5
  clear hV5 hS5 HV4 HMv
  by_cases hf : f = 0
  case neg =>
    rw [if_pos hf] at hq
    obtain ⟨rfl, rfl, rfl, rfl⟩ : dx = qx ∧ 0 = qn ∧ f = qe ∧ t = qs := by simpa using hq
    have hb2 : (f == 0) = false := by simp [hf]
    have hb3 : (f != 0) = true := by simp [hf]
    clear hq hf
    obtain ⟨e1, e2⟩ := HV5.out.out hT
    unfold filled at e1 e2
    have HE := hide e1
    have HF := hide e2
    have HZr := hide HV5.out.zr
    obtain ⟨c0, c1, c2, c3, c4, c5, c6, c7, c8, c9, c10⟩ := HV5.out.st.cs
    have f0 := frozen_of_row w5 (w.heap.size + 1) 0 _ _ HZr.out
    have f1 := frozen_of_row w5 (w.heap.size + 1) 1 _ _ HZr.out
    have f2 := frozen_of_row w5 (w.heap.size + 1) 2 _ _ HZr.out
    have f3 := frozen_of_row w5 (w.heap.size + 1) 3 _ _ HZr.out
    have f4 := frozen_of_row w5 (w.heap.size + 1) 4 _ _ HZr.out
    have f5 := frozen_of_row w5 (w.heap.size + 1) 5 _ _ HZr.out
    have f6 := frozen_of_row w5 (w.heap.size + 1) 6 _ _ HZr.out
    have f7 := frozen_of_row w5 (w.heap.size + 1) 7 _ _ HZr.out
    have f8 := frozen_of_row w5 (w.heap.size + 1) 8 _ _ HZr.out
    have f9 := frozen_of_row w5 (w.heap.size + 1) 9 _ _ HZr.out
    have f10 := frozen_of_row w5 (w.heap.size + 1) 10 _ _ HZr.out
    have d0 := cell_of_row w5 (w.heap.size + 1) 0 _ _ _ HZr.out
    have d1 := cell_of_row w5 (w.heap.size + 1) 1 _ _ _ HZr.out
    have d2 := cell_of_row w5 (w.heap.size + 1) 2 _ _ _ HZr.out
    have d3 := cell_of_row w5 (w.heap.size + 1) 3 _ _ _ HZr.out
    have d4 := cell_of_row w5 (w.heap.size + 1) 4 _ _ _ HZr.out
    have d5 := cell_of_row w5 (w.heap.size + 1) 5 _ _ _ HZr.out
    have d6 := cell_of_row w5 (w.heap.size + 1) 6 _ _ _ HZr.out
    have d7 := cell_of_row w5 (w.heap.size + 1) 7 _ _ _ HZr.out
    have d8 := cell_of_row w5 (w.heap.size + 1) 8 _ _ _ HZr.out
    have d9 := cell_of_row w5 (w.heap.size + 1) 9 _ _ _ HZr.out
    have d10 := cell_of_row w5 (w.heap.size + 1) 10 _ _ _ HZr.out
    simp at d0 d1 d2 d3 d4 d5 d6 d7 d8 d9 d10
    clear e1 e2
    go_wp2
    refine bodyPost_ret (res_three rfl _ (w.heap.size + 1) rfl dx _ _ _ HE.out) rfl ?_
    exact ⟨_, _, _, rfl, HF.out⟩
  subst hf
  rw [if_neg (by simp)] at hq
  obtain ⟨hqx, rfl, rfl, rfl⟩ : dx.bare = qx ∧ p = qn ∧ 0 = qe ∧ t = qs := by simpa using hq
  clear hq
  subst hqx
  obtain ⟨c0, c1, c2, c3, c4, c5, c6, c7, c8, c9, c10⟩ := HV5.out.st.cs
  go_wp2_with fail
  refine (HEm.out _).mono ?_
  rintro _ w6 ⟨rfl, hB6⟩
  have HV6 := hide (HV5.out.below hT hB6)
  clear hB6 HV5 HEm c0 c1 c2 c3 c4 c5 c6 c7 c8 c9 c10
  obtain ⟨e1, e2⟩ := HV6.out.out2 hT dx.bare (.slice none 0 0) (.slice none 0 0) (.slice none 0 0) (SIn.nils0 rfl rfl rfl)
  unfold filled at e1 e2
  have HE := hide e1
  have HF := hide e2
  have HZr := hide HV6.out.zr
  have f0 := frozen_of_row w6 (w.heap.size + 1) 0 _ _ HZr.out
  have f1 := frozen_of_row w6 (w.heap.size + 1) 1 _ _ HZr.out
  have f2 := frozen_of_row w6 (w.heap.size + 1) 2 _ _ HZr.out
  have f3 := frozen_of_row w6 (w.heap.size + 1) 3 _ _ HZr.out
  have f4 := frozen_of_row w6 (w.heap.size + 1) 4 _ _ HZr.out
  have f5 := frozen_of_row w6 (w.heap.size + 1) 5 _ _ HZr.out
  have f6 := frozen_of_row w6 (w.heap.size + 1) 6 _ _ HZr.out
  have f7 := frozen_of_row w6 (w.heap.size + 1) 7 _ _ HZr.out
  have f8 := frozen_of_row w6 (w.heap.size + 1) 8 _ _ HZr.out
  have f9 := frozen_of_row w6 (w.heap.size + 1) 9 _ _ HZr.out
  have f10 := frozen_of_row w6 (w.heap.size + 1) 10 _ _ HZr.out
  have d0 := cell_of_row w6 (w.heap.size + 1) 0 _ _ _ HZr.out
  have d1 := cell_of_row w6 (w.heap.size + 1) 1 _ _ _ HZr.out
  have d2 := cell_of_row w6 (w.heap.size + 1) 2 _ _ _ HZr.out
  have d3 := cell_of_row w6 (w.heap.size + 1) 3 _ _ _ HZr.out
  have d4 := cell_of_row w6 (w.heap.size + 1) 4 _ _ _ HZr.out
  have d5 := cell_of_row w6 (w.heap.size + 1) 5 _ _ _ HZr.out
  have d6 := cell_of_row w6 (w.heap.size + 1) 6 _ _ _ HZr.out
  have d7 := cell_of_row w6 (w.heap.size + 1) 7 _ _ _ HZr.out
  have d8 := cell_of_row w6 (w.heap.size + 1) 8 _ _ _ HZr.out
  have d9 := cell_of_row w6 (w.heap.size + 1) 9 _ _ _ HZr.out
  have d10 := cell_of_row w6 (w.heap.size + 1) 10 _ _ _ HZr.out
  simp at d0 d1 d2 d3 d4 d5 d6 d7 d8 d9 d10
  clear e1 e2
  go_wp2
  refine bodyPost_ret (res_three rfl _ (w.heap.size + 1) rfl dx.bare _ _ _ HE.out) rfl ?_
  exact ⟨_, _, _, rfl, HF.out⟩
end Go.Proofs.YtkkommomefmpgaaGreat

/- Streams over memory that grows. -/
namespace Go.Proofs.YtkkommomefmpgaaGreat
open Go.RowKit

theorem someOk_true {S : Type} (D : RawD S) (n : Nat) : ∀ k s, someOk D (fun _ => True) n k s
  | 0, _ => trivial
  | k + 1, _ => ⟨trivial, fun _ => someOk_true D n k _⟩
theorem putOk_true {S : Type} (D : RawD S) (bs : List UInt8) : ∀ k s d t, putOk D (fun _ => True) bs k s d t
  | 0, _, _, _ => trivial
  | k + 1, _, _, _ => fun _ => ⟨trivial, fun _ _ => putOk_true D bs k _ _ _, fun _ _ _ => putOk_true D bs k _ _ _⟩
theorem bears_true {S : Type} (D : RawD S) : Bears D (fun _ => True) (fun _ => True) (fun _ _ => True) := ⟨fun _ s bs _ _ => ⟨putOk_true D bs _ s _ _, trivial⟩, fun _ s m _ _ _ => ⟨someOk_true D m _ s, trivial⟩, fun _ _ h => h⟩
def msR : RawD MS := ⟨fun S n => S.read n, fun S x => S.write x⟩
theorem gmem_o (g : Nat) (S : MS) : OAt (fun w O => MemAt w O g S) := ⟨fun h hk _ => h.keep hk, fun h => h.trim⟩
theorem piece_le (l : List UInt8) (p n : Nat) : (piece l p n).length ≤ l.length := by
  unfold piece
  simp
  omega
theorem gro_rawP (g : Nat) : RawP msR 77 (.pointer (some ⟨g, 0, none⟩)) 284 286 (fun _ => True) (fun _ => True) (fun w O S => MemAt w O g S) where
  mread w := by kernel_rfl
  mwrite w := by kernel_rfl
  cread a w := by kernel_rfl
  cwrite a w := by kernel_rfl
  keep h hk _ := h.keep hk
  few {w O s} n h := by
    have := h.ok
    show (s.read n).1.length ≤ _
    unfold MS.read
    split
    · have := piece_le s.l s.pl (n : Int).toNat
      simp only
      omega
    · simp
  read n h _ _ _ := (gmread_any _ g _ n _ h).mono fun _ _ e => view_own e
  write bs a c h _ hb hc _ _ hap := gmwrite_any _ g _ bs a c _ h hb hc (fun _ => hap)
theorem gro_raw (g : Nat) : RawM msR 77 (.pointer (some ⟨g, 0, none⟩)) 284 286 (fun _ => True) (fun _ => True) (fun w O S => MemAt w O g S) := (gro_rawP g).gen
end Go.Proofs.YtkkommomefmpgaaGreat

/- Openmode: a mode as eight truths, and what the letters' functions answer of it. -/
namespace Go.Proofs.YtkkommomefmpgaaGreat
open Go.RowKit

structure Mo where
  rd : Bool
  wr : Bool
  ap : Bool
  cr : Bool
  tr : Bool
  ex : Bool
  bi : Bool
  ma : Bool
  deriving DecidableEq
def mv (m : Mo) : Value := .agg #[.bool m.rd, .bool m.wr, .bool m.ap, .bool m.cr, .bool m.tr, .bool m.ex, .bool m.bi, .bool m.ma]
def mo0 : Mo := ⟨false, false, false, false, false, false, false, false⟩
def mc (m : Mo) : Array Value := #[.bool m.rd, .bool m.wr, .bool m.ap, .bool m.cr, .bool m.tr, .bool m.ex, .bool m.bi, .bool m.ma]
def MoAt (W : World) (b : Nat) (m : Mo) : Prop := W.heap[b]? = some (.cells (mc m) 69)
theorem MoAt.lt {W : World} {b : Nat} {m : Mo} (h : MoAt W b m) : b < W.heap.size := (Array.getElem?_eq_some_iff.1 h).1
theorem MoAt.soft {W : World} {b : Nat} {m : Mo} (h : MoAt W b m) (j : Nat) : W.frozen? ⟨b, j, none⟩ = false := frozen_of_row W b j _ _ h
theorem MoAt.cell {W : World} {b : Nat} {m : Mo} (h : MoAt W b m) (j : Nat) : W.cell? ⟨b, j, none⟩ = (mc m)[j]? := cell_of_row W b j _ _ _ h
theorem MoAt.keep {S : Nat → Prop} {W W' : World} {b : Nat} {m : Mo} (h : MoAt W b m) (hT : Turned S W W') (hS : ¬ S b) : MoAt W' b m := (hT.block b h.lt hS).trans h
theorem MoAt.below {W W' : World} {b : Nat} {m : Mo} (h : MoAt W b m) (hB : Below W.heap.size W W') : MoAt W' b m := (hB.block b h.lt).trans h

def isNone (m : Mo) : Bool := !(m.rd || m.wr || m.ap || m.cr || m.tr || m.ex || m.bi || m.ma)

set_option maxRecDepth 100000 in
set_option maxHeartbeats 1000000 in
theorem ohas_r (m : Mo) (w : World) : Calls Tryz.prog 226 #[mv m] w fun e w' => e = .returned (.bool (m.rd && !m.cr)) ∧ Below w.heap.size w w' := by
  obtain ⟨a, b, c, d, e, f, g, h⟩ := m
  unfold mv
  cases a <;> cases d
  all_goals
    go_enter Tryz.func226, Tryz.ntmps226
    go_wp2
    go_ret
    exact ⟨rfl, (Below.refl _ _).alloc (Nat.le_refl _) _⟩
set_option maxRecDepth 100000 in
set_option maxHeartbeats 1000000 in
theorem ohas_w (m : Mo) (w : World) : Calls Tryz.prog 228 #[mv m] w fun e w' => e = .returned (.bool (m.tr)) ∧ Below w.heap.size w w' := by
  obtain ⟨a, b, c, d, e, f, g, h⟩ := m
  unfold mv
  cases e
  all_goals
    go_enter Tryz.func228, Tryz.ntmps228
    go_wp2
    go_ret
    exact ⟨rfl, (Below.refl _ _).alloc (Nat.le_refl _) _⟩
set_option maxRecDepth 100000 in
set_option maxHeartbeats 1000000 in
theorem ohas_a (m : Mo) (w : World) : Calls Tryz.prog 230 #[mv m] w fun e w' => e = .returned (.bool (m.ap)) ∧ Below w.heap.size w w' := by
  obtain ⟨a, b, c, d, e, f, g, h⟩ := m
  unfold mv
  cases c
  all_goals
    go_enter Tryz.func230, Tryz.ntmps230
    go_wp2
    go_ret
    exact ⟨rfl, (Below.refl _ _).alloc (Nat.le_refl _) _⟩
set_option maxRecDepth 100000 in
set_option maxHeartbeats 1000000 in
theorem ohas_p (m : Mo) (w : World) : Calls Tryz.prog 233 #[mv m] w fun e w' => e = .returned (.bool (m.rd && m.wr)) ∧ Below w.heap.size w w' := by
  obtain ⟨a, b, c, d, e, f, g, h⟩ := m
  unfold mv
  cases a <;> cases b
  all_goals
    go_enter Tryz.func233, Tryz.ntmps233
    go_wp2
    go_ret
    exact ⟨rfl, (Below.refl _ _).alloc (Nat.le_refl _) _⟩
set_option maxRecDepth 100000 in
set_option maxHeartbeats 1000000 in
theorem ohas_b (m : Mo) (w : World) : Calls Tryz.prog 235 #[mv m] w fun e w' => e = .returned (.bool (m.bi)) ∧ Below w.heap.size w w' := by
  obtain ⟨a, b, c, d, e, f, g, h⟩ := m
  unfold mv
  cases g
  all_goals
    go_enter Tryz.func235, Tryz.ntmps235
    go_wp2
    go_ret
    exact ⟨rfl, (Below.refl _ _).alloc (Nat.le_refl _) _⟩
set_option maxRecDepth 100000 in
set_option maxHeartbeats 1000000 in
theorem omay_x (m : Mo) (w : World) : Calls Tryz.prog 236 #[mv m] w fun e w' => e = .returned (.bool (m.tr)) ∧ Below w.heap.size w w' := by
  obtain ⟨a, b, c, d, e, f, g, h⟩ := m
  unfold mv
  cases e
  all_goals
    go_enter Tryz.func236, Tryz.ntmps236
    go_wp2
    go_ret
    exact ⟨rfl, (Below.refl _ _).alloc (Nat.le_refl _) _⟩
set_option maxRecDepth 100000 in
set_option maxHeartbeats 1000000 in
theorem ohas_x (m : Mo) (w : World) : Calls Tryz.prog 238 #[mv m] w fun e w' => e = .returned (.bool (m.ex)) ∧ Below w.heap.size w w' := by
  obtain ⟨a, b, c, d, e, f, g, h⟩ := m
  unfold mv
  cases f
  all_goals
    go_enter Tryz.func238, Tryz.ntmps238
    go_wp2
    go_ret
    exact ⟨rfl, (Below.refl _ _).alloc (Nat.le_refl _) _⟩
set_option maxRecDepth 100000 in
set_option maxHeartbeats 1000000 in
theorem ohas_e (m : Mo) (w : World) : Calls Tryz.prog 240 #[mv m] w fun e w' => e = .returned (.bool (m.ma)) ∧ Below w.heap.size w w' := by
  obtain ⟨a, b, c, d, e, f, g, h⟩ := m
  unfold mv
  cases h
  all_goals
    go_enter Tryz.func240, Tryz.ntmps240
    go_wp2
    go_ret
    exact ⟨rfl, (Below.refl _ _).alloc (Nat.le_refl _) _⟩
set_option maxRecDepth 100000 in
set_option maxHeartbeats 1000000 in
theorem isNone_any (m : Mo) (w : World) : Calls Tryz.prog 214 #[mv m] w fun e w' => e = .returned (.bool (isNone m)) ∧ Below w.heap.size w w' := by
  obtain ⟨a, b, c, d, e, f, g, h⟩ := m
  unfold mv
  go_enter Tryz.func214, Tryz.ntmps214
  go_wp2
  all_goals go_ret
  all_goals exact ⟨by simp_all [isNone], (Below.refl _ _).alloc (Nat.le_refl _) _⟩
set_option maxRecDepth 100000 in
set_option maxHeartbeats 1000000 in
theorem olay_r (b : Nat) (m : Mo) (w : World) (h : MoAt w b m) : Calls Tryz.prog 225 #[.pointer (some ⟨b, 0, none⟩)] w fun e w' => e = .returned (.tuple #[]) ∧ MoAt w' b { m with rd := true } ∧ Turned (fun k => k = b) w w' := by
  have c0 : w.cell? ⟨b, 0, none⟩ = some (.bool m.rd) := h.cell 0
  have s0 := h.soft 0
  have e0 := Go.heap_setCell_same _ b 0 _ _ (.bool true) h
  go_enter Tryz.func225, Tryz.ntmps225
  go_wp2
  go_end0
  exact ⟨rfl, e0, Turned.set (S := fun k => k = b) (Turned.refl _ _) (.inl rfl)⟩
set_option maxRecDepth 100000 in
set_option maxHeartbeats 1000000 in
theorem olay_w (b : Nat) (m : Mo) (w : World) (h : MoAt w b m) : Calls Tryz.prog 227 #[.pointer (some ⟨b, 0, none⟩)] w fun e w' => e = .returned (.tuple #[]) ∧ MoAt w' b { m with wr := true, cr := true, tr := true } ∧ Turned (fun k => k = b) w w' := by
  have c1 : w.cell? ⟨b, 1, none⟩ = some (.bool m.wr) := h.cell 1
  have s1 := h.soft 1
  have c3 : w.cell? ⟨b, 3, none⟩ = some (.bool m.cr) := h.cell 3
  have s3 := h.soft 3
  have c4 : w.cell? ⟨b, 4, none⟩ = some (.bool m.tr) := h.cell 4
  have s4 := h.soft 4
  have e0 := Go.heap_setCell_same _ b 1 _ _ (.bool true) h
  have e1 := Go.heap_setCell_same _ b 3 _ _ (.bool true) e0
  have e2 := Go.heap_setCell_same _ b 4 _ _ (.bool true) e1
  go_enter Tryz.func227, Tryz.ntmps227
  go_wp2
  go_end0
  exact ⟨rfl, e2, Turned.set (S := fun k => k = b) (Turned.set (S := fun k => k = b) (Turned.set (S := fun k => k = b) (Turned.refl _ _) (.inl rfl)) (.inl rfl)) (.inl rfl)⟩
set_option maxRecDepth 100000 in
set_option maxHeartbeats 1000000 in
theorem olay_a (b : Nat) (m : Mo) (w : World) (h : MoAt w b m) : Calls Tryz.prog 229 #[.pointer (some ⟨b, 0, none⟩)] w fun e w' => e = .returned (.tuple #[]) ∧ MoAt w' b { m with wr := true, ap := true, cr := true } ∧ Turned (fun k => k = b) w w' := by
  have c1 : w.cell? ⟨b, 1, none⟩ = some (.bool m.wr) := h.cell 1
  have s1 := h.soft 1
  have c2 : w.cell? ⟨b, 2, none⟩ = some (.bool m.ap) := h.cell 2
  have s2 := h.soft 2
  have c3 : w.cell? ⟨b, 3, none⟩ = some (.bool m.cr) := h.cell 3
  have s3 := h.soft 3
  have e0 := Go.heap_setCell_same _ b 1 _ _ (.bool true) h
  have e1 := Go.heap_setCell_same _ b 2 _ _ (.bool true) e0
  have e2 := Go.heap_setCell_same _ b 3 _ _ (.bool true) e1
  go_enter Tryz.func229, Tryz.ntmps229
  go_wp2
  go_end0
  exact ⟨rfl, e2, Turned.set (S := fun k => k = b) (Turned.set (S := fun k => k = b) (Turned.set (S := fun k => k = b) (Turned.refl _ _) (.inl rfl)) (.inl rfl)) (.inl rfl)⟩
set_option maxRecDepth 100000 in
set_option maxHeartbeats 1000000 in
theorem olay_p (b : Nat) (m : Mo) (w : World) (h : MoAt w b m) : Calls Tryz.prog 232 #[.pointer (some ⟨b, 0, none⟩)] w fun e w' => e = .returned (.tuple #[]) ∧ MoAt w' b { m with rd := true, wr := true } ∧ Turned (fun k => k = b) w w' := by
  have c0 : w.cell? ⟨b, 0, none⟩ = some (.bool m.rd) := h.cell 0
  have s0 := h.soft 0
  have c1 : w.cell? ⟨b, 1, none⟩ = some (.bool m.wr) := h.cell 1
  have s1 := h.soft 1
  have e0 := Go.heap_setCell_same _ b 0 _ _ (.bool true) h
  have e1 := Go.heap_setCell_same _ b 1 _ _ (.bool true) e0
  go_enter Tryz.func232, Tryz.ntmps232
  go_wp2
  go_end0
  exact ⟨rfl, e1, Turned.set (S := fun k => k = b) (Turned.set (S := fun k => k = b) (Turned.refl _ _) (.inl rfl)) (.inl rfl)⟩
set_option maxRecDepth 100000 in
set_option maxHeartbeats 1000000 in
theorem olay_b (b : Nat) (m : Mo) (w : World) (h : MoAt w b m) : Calls Tryz.prog 234 #[.pointer (some ⟨b, 0, none⟩)] w fun e w' => e = .returned (.tuple #[]) ∧ MoAt w' b { m with bi := true } ∧ Turned (fun k => k = b) w w' := by
  have c6 : w.cell? ⟨b, 6, none⟩ = some (.bool m.bi) := h.cell 6
  have s6 := h.soft 6
  have e0 := Go.heap_setCell_same _ b 6 _ _ (.bool true) h
  go_enter Tryz.func234, Tryz.ntmps234
  go_wp2
  go_end0
  exact ⟨rfl, e0, Turned.set (S := fun k => k = b) (Turned.refl _ _) (.inl rfl)⟩
set_option maxRecDepth 100000 in
set_option maxHeartbeats 1000000 in
theorem olay_x (b : Nat) (m : Mo) (w : World) (h : MoAt w b m) : Calls Tryz.prog 237 #[.pointer (some ⟨b, 0, none⟩)] w fun e w' => e = .returned (.tuple #[]) ∧ MoAt w' b { m with ex := true } ∧ Turned (fun k => k = b) w w' := by
  have c5 : w.cell? ⟨b, 5, none⟩ = some (.bool m.ex) := h.cell 5
  have s5 := h.soft 5
  have e0 := Go.heap_setCell_same _ b 5 _ _ (.bool true) h
  go_enter Tryz.func237, Tryz.ntmps237
  go_wp2
  go_end0
  exact ⟨rfl, e0, Turned.set (S := fun k => k = b) (Turned.refl _ _) (.inl rfl)⟩
set_option maxRecDepth 100000 in
set_option maxHeartbeats 1000000 in
theorem olay_e (b : Nat) (m : Mo) (w : World) (h : MoAt w b m) : Calls Tryz.prog 239 #[.pointer (some ⟨b, 0, none⟩)] w fun e w' => e = .returned (.tuple #[]) ∧ MoAt w' b { m with ma := true } ∧ Turned (fun k => k = b) w w' := by
  have c7 : w.cell? ⟨b, 7, none⟩ = some (.bool m.ma) := h.cell 7
  have s7 := h.soft 7
  have e0 := Go.heap_setCell_same _ b 7 _ _ (.bool true) h
  go_enter Tryz.func239, Tryz.ntmps239
  go_wp2
  go_end0
  exact ⟨rfl, e0, Turned.set (S := fun k => k = b) (Turned.refl _ _) (.inl rfl)⟩
def ltc : Array Value := #[.int .u8 114, .func (.func 214) #[] #[], .func (.func 225) #[] #[], .func (.func 226) #[] #[],
  .int .u8 119, .func (.func 214) #[] #[], .func (.func 227) #[] #[], .func (.func 228) #[] #[],
  .int .u8 97, .func (.func 214) #[] #[], .func (.func 229) #[] #[], .func (.func 230) #[] #[],
  .int .u8 43, .func (.func 231) #[] #[], .func (.func 232) #[] #[], .func (.func 233) #[] #[],
  .int .u8 98, .func (.func 231) #[] #[], .func (.func 234) #[] #[], .func (.func 235) #[] #[],
  .int .u8 120, .func (.func 236) #[] #[], .func (.func 237) #[] #[], .func (.func 238) #[] #[],
  .int .u8 101, .func (.func 231) #[] #[], .func (.func 239) #[] #[], .func (.func 240) #[] #[]]
def Lt (W : World) (b : Nat) : Prop := W.heap[b]? = some (.cells ltc 333)
theorem Lt.lt {W : World} {b : Nat} (h : Lt W b) : b < W.heap.size := (Array.getElem?_eq_some_iff.1 h).1
theorem Lt.cell {W : World} {b : Nat} (h : Lt W b) (j : Nat) : W.cell? ⟨b, j, none⟩ = ltc[j]? := cell_of_row W b j _ _ _ h
theorem Lt.keep {S : Nat → Prop} {W W' : World} {b : Nat} (h : Lt W b) (hT : Turned S W W') (hS : ¬ S b) : Lt W' b := (hT.block b h.lt hS).trans h
theorem Lt.below {W W' : World} {b : Nat} (h : Lt W b) (hB : Below W.heap.size W W') : Lt W' b := (hB.block b h.lt).trans h
set_option maxRecDepth 100000 in
set_option maxHeartbeats 1000000 in
theorem oletters_any (w : World) : Calls Tryz.prog 213 #[] w fun e w' => e = .returned (.slice (some ⟨w.heap.size, 0, none⟩) 7 7) ∧ Lt w' w.heap.size ∧ Below w.heap.size w w' := by
  go_enter Tryz.func213, Tryz.ntmps213
  go_wp2
  go_ret
  exact ⟨rfl, heap_alloc_new _ _, (Below.refl _ _).alloc (Nat.le_refl _) _⟩
set_option maxRecDepth 100000 in
set_option maxHeartbeats 1000000 in
theorem isBegun_any (m : Mo) (w : World) : Calls Tryz.prog 231 #[mv m] w fun e w' => e = .returned (.bool (!isNone m)) ∧ Below w.heap.size w w' := by
  obtain ⟨a, b, c, d, e, f, g, h⟩ := m
  have hn := hide fun w => isNone_any ⟨a, b, c, d, e, f, g, h⟩ w
  unfold mv at hn ⊢
  go_enter Tryz.func231, Tryz.ntmps231
  go_wp2_with fail
  refine (hn.out _).mono ?_
  rintro e w1 ⟨rfl, hB⟩
  have hB2 := ((Below.refl w.heap.size w).alloc (Nat.le_refl _) _).trans (hB.mono (Nat.le_of_lt (size_new _ _)))
  go_wp2
  go_ret
  exact ⟨rfl, hB2⟩
end Go.Proofs.YtkkommomefmpgaaGreat

/- Openmode: spell. -/
namespace Go.Proofs.YtkkommomefmpgaaGreat
open Go.RowKit

def sg : List UInt8 := [114, 119, 97, 43, 98, 120, 101]
def hasI (m : Mo) : List Bool := [m.rd && !m.cr, m.tr, m.ap, m.rd && m.wr, m.bi, m.ex, m.ma]
def splK (m : Mo) : Nat → List UInt8
  | 0 => []
  | k + 1 => splK m k ++ (if (hasI m).getD k false then [sg.getD k 0] else [])
theorem splK_len (m : Mo) (k : Nat) : (splK m k).length ≤ k := by
  induction k with
  | zero => exact Nat.le_refl _
  | succ k ih => simp only [splK, List.length_append]; split <;> simp <;> omega
def spl (m : Mo) : List UInt8 := splK m 7
def hasF : Nat → FuncId
  | 0 => 226
  | 1 => 228
  | 2 => 230
  | 3 => 233
  | 4 => 235
  | 5 => 238
  | _ => 240

def mayF : Nat → FuncId
  | 0 => 214
  | 1 => 214
  | 2 => 214
  | 3 => 231
  | 4 => 231
  | 5 => 236
  | _ => 231
def layF : Nat → FuncId
  | 0 => 225
  | 1 => 227
  | 2 => 229
  | 3 => 232
  | 4 => 234
  | 5 => 237
  | _ => 239
def mayI (m : Mo) : List Bool := [isNone m, isNone m, isNone m, !isNone m, !isNone m, m.tr, !isNone m]
def layI (m : Mo) : Nat → Mo
  | 0 => { m with rd := true }
  | 1 => { m with wr := true, cr := true, tr := true }
  | 2 => { m with wr := true, ap := true, cr := true }
  | 3 => { m with rd := true, wr := true }
  | 4 => { m with bi := true }
  | 5 => { m with ex := true }
  | _ => { m with ma := true }
theorem omay_any (m : Mo) (k : Nat) (hk : k < 7) (w : World) : Calls Tryz.prog (mayF k) #[mv m] w fun e w' => e = .returned (.bool ((mayI m).getD k false)) ∧ Below w.heap.size w w' := by
  match k, hk with
  | 0, _ => exact isNone_any m w
  | 1, _ => exact isNone_any m w
  | 2, _ => exact isNone_any m w
  | 3, _ => exact isBegun_any m w
  | 4, _ => exact isBegun_any m w
  | 5, _ => exact omay_x m w
  | 6, _ => exact isBegun_any m w
theorem olay_any (b : Nat) (m : Mo) (k : Nat) (hk : k < 7) (w : World) (h : MoAt w b m) : Calls Tryz.prog (layF k) #[.pointer (some ⟨b, 0, none⟩)] w fun e w' => e = .returned (.tuple #[]) ∧ MoAt w' b (layI m k) ∧ Turned (fun k => k = b) w w' := by
  match k, hk with
  | 0, _ => exact olay_r b m w h
  | 1, _ => exact olay_w b m w h
  | 2, _ => exact olay_a b m w h
  | 3, _ => exact olay_p b m w h
  | 4, _ => exact olay_b b m w h
  | 5, _ => exact olay_x b m w h
  | 6, _ => exact olay_e b m w h
theorem ohas_any (m : Mo) (k : Nat) (hk : k < 7) (w : World) : Calls Tryz.prog (hasF k) #[mv m] w fun e w' => e = .returned (.bool ((hasI m).getD k false)) ∧ Below w.heap.size w w' := by
  match k, hk with
  | 0, _ => exact ohas_r m w
  | 1, _ => exact ohas_w m w
  | 2, _ => exact ohas_a m w
  | 3, _ => exact ohas_p m w
  | 4, _ => exact ohas_b m w
  | 5, _ => exact ohas_x m w
  | 6, _ => exact ohas_e m w
set_option maxRecDepth 100000 in
theorem enter_has {k : Nat} (hk : k < 7) (a : Array Value) (w : World) : (callFunc (hasF k) a).run Tryz.prog w = .ok (.enter (hasF k) a) w := by
  match k, hk with
  | 0, _ => exact (by kernel_rfl : (callFunc 226 a).run Tryz.prog w = .ok (.enter 226 a) w)
  | 1, _ => exact (by kernel_rfl : (callFunc 228 a).run Tryz.prog w = .ok (.enter 228 a) w)
  | 2, _ => exact (by kernel_rfl : (callFunc 230 a).run Tryz.prog w = .ok (.enter 230 a) w)
  | 3, _ => exact (by kernel_rfl : (callFunc 233 a).run Tryz.prog w = .ok (.enter 233 a) w)
  | 4, _ => exact (by kernel_rfl : (callFunc 235 a).run Tryz.prog w = .ok (.enter 235 a) w)
  | 5, _ => exact (by kernel_rfl : (callFunc 238 a).run Tryz.prog w = .ok (.enter 238 a) w)
  | 6, _ => exact (by kernel_rfl : (callFunc 240 a).run Tryz.prog w = .ok (.enter 240 a) w)
set_option maxRecDepth 100000 in
theorem enter_may {k : Nat} (hk : k < 7) (a : Array Value) (w : World) : (callFunc (mayF k) a).run Tryz.prog w = .ok (.enter (mayF k) a) w := by
  match k, hk with
  | 0, _ => exact (by kernel_rfl : (callFunc 214 a).run Tryz.prog w = .ok (.enter 214 a) w)
  | 1, _ => exact (by kernel_rfl : (callFunc 214 a).run Tryz.prog w = .ok (.enter 214 a) w)
  | 2, _ => exact (by kernel_rfl : (callFunc 214 a).run Tryz.prog w = .ok (.enter 214 a) w)
  | 3, _ => exact (by kernel_rfl : (callFunc 231 a).run Tryz.prog w = .ok (.enter 231 a) w)
  | 4, _ => exact (by kernel_rfl : (callFunc 231 a).run Tryz.prog w = .ok (.enter 231 a) w)
  | 5, _ => exact (by kernel_rfl : (callFunc 236 a).run Tryz.prog w = .ok (.enter 236 a) w)
  | 6, _ => exact (by kernel_rfl : (callFunc 231 a).run Tryz.prog w = .ok (.enter 231 a) w)
set_option maxRecDepth 100000 in
theorem enter_lay {k : Nat} (hk : k < 7) (a : Array Value) (w : World) : (callFunc (layF k) a).run Tryz.prog w = .ok (.enter (layF k) a) w := by
  match k, hk with
  | 0, _ => exact (by kernel_rfl : (callFunc 225 a).run Tryz.prog w = .ok (.enter 225 a) w)
  | 1, _ => exact (by kernel_rfl : (callFunc 227 a).run Tryz.prog w = .ok (.enter 227 a) w)
  | 2, _ => exact (by kernel_rfl : (callFunc 229 a).run Tryz.prog w = .ok (.enter 229 a) w)
  | 3, _ => exact (by kernel_rfl : (callFunc 232 a).run Tryz.prog w = .ok (.enter 232 a) w)
  | 4, _ => exact (by kernel_rfl : (callFunc 234 a).run Tryz.prog w = .ok (.enter 234 a) w)
  | 5, _ => exact (by kernel_rfl : (callFunc 237 a).run Tryz.prog w = .ok (.enter 237 a) w)
  | 6, _ => exact (by kernel_rfl : (callFunc 239 a).run Tryz.prog w = .ok (.enter 239 a) w)
theorem oone_cell {w : World} {x : Value} {t : TypeId} {j : Nat} {u : Value} (h : [x][j]? = some u) : (w.alloc (Obj.cells #[x] t)).cell? (Addr.add ⟨w.heap.size, 0, none⟩ j) = some u := by
  match j with
  | 0 => rw [show Addr.add ⟨w.heap.size, 0, none⟩ 0 = ⟨w.heap.size, 0, none⟩ from rfl, cell_of_row _ _ 0 _ _ _ (heap_alloc_new _ _)]; exact h
  | j + 1 => simp at h
theorem store_func (w : World) (a : Addr) (f : FuncId) : (store a (.func (.func f) #[] #[]) .plain).run Tryz.prog w = stored Tryz.prog w a (.func (.func f) #[] #[]) .plain := run_store Tryz.prog w a _ _ rfl
theorem ltc_cells {W : World} {b : Nat} (h : Lt W b) {k : Nat} (hk : k < 7) :
    W.cell? ⟨b, k * 4, none⟩ = some (.int .u8 ((sg.getD k 0).toNat : Int)) ∧ W.cell? ⟨b, k * 4 + 1, none⟩ = some (.func (.func (mayF k)) #[] #[]) ∧ W.cell? ⟨b, k * 4 + 2, none⟩ = some (.func (.func (layF k)) #[] #[]) ∧ W.cell? ⟨b, k * 4 + 3, none⟩ = some (.func (.func (hasF k)) #[] #[]) := by
  match k, hk with
  | 0, _ => exact ⟨h.cell 0, h.cell 1, h.cell 2, h.cell 3⟩
  | 1, _ => exact ⟨h.cell 4, h.cell 5, h.cell 6, h.cell 7⟩
  | 2, _ => exact ⟨h.cell 8, h.cell 9, h.cell 10, h.cell 11⟩
  | 3, _ => exact ⟨h.cell 12, h.cell 13, h.cell 14, h.cell 15⟩
  | 4, _ => exact ⟨h.cell 16, h.cell 17, h.cell 18, h.cell 19⟩
  | 5, _ => exact ⟨h.cell 20, h.cell 21, h.cell 22, h.cell 23⟩
  | 6, _ => exact ⟨h.cell 24, h.cell 25, h.cell 26, h.cell 27⟩
set_option maxRecDepth 100000 in
set_option maxHeartbeats 1000000 in
theorem ospell_any (m : Mo) (w : World) : Calls Tryz.prog 184 #[mv m] w fun e w' => e = .returned (.string ⟨(spl m).toArray⟩) ∧ Below w.heap.size w w' := by
  obtain ⟨i0, hi, hz0, hz1, hz2⟩ := info_parts Tryz.infoB
  have hl := hide fun w => oletters_any w
  have hh := hide (ohas_any m)
  generalize hR : spl m = R
  have HR := hide hR
  clear hR
  have hmv : mv m = .agg (mc m) := rfl
  rw [hmv] at hh ⊢
  go_enter Tryz.func184, Tryz.ntmps184
  go_wp2_with fail
  refine (hl.out _).mono ?_
  rintro e w1 ⟨rfl, hL, hB1⟩
  have hM : MoAt w1 w.heap.size m := (show MoAt (w.alloc (Obj.cells (mc m) 69)) w.heap.size m from heap_alloc_new _ _).below hB1
  have hB0 := ((Below.refl w.heap.size w).alloc (Nat.le_refl _) (Obj.cells (mc m) 69)).trans (hB1.mono (Nat.le_of_lt (size_new _ _)))
  rw [show (w.alloc (Obj.cells (mc m) 69)).heap.size = w.heap.size + 1 by simp] at hL
  have hs1 : w.heap.size + 2 ≤ w1.heap.size := hL.lt
  clear hB1 hl
  go_wp2
  go_loopw [3, 8] (fun s i wr => ∃ k : Nat, k ≤ 7 ∧ i = .int .i64 k ∧ wr.ownsRow (w.heap.size + 2) 5 1 s (splK m k).length ((splK m k).map bv) ∧ Lt wr (w.heap.size + 1) ∧ MoAt wr w.heap.size m ∧ Below w.heap.size w wr) (fun _ i _ => 7 - (intOf i).toNat)
  case atStart => exact ⟨0, by omega, rfl, ⟨rfl, .inl ⟨rfl, rfl⟩⟩, hL, hM, hB0⟩
  case round =>
    clear hL hM hB0 hs1
    obtain ⟨k, hk, rfl, hown, hL, hM, hB⟩ := hrel
    obtain ⟨a0, n0, rfl⟩ := owns_slice hown
    by_cases hlt : k < 7
    · have hk1 : (0 : Int) ≤ (k : Int) := by omega
      have hk2 : (k : Int) < 7 := by omega
      obtain ⟨e0, e1, e2, e3⟩ := ltc_cells hL hlt
      have hc := hh.out k hlt
      have HL := hide hL
      have HM := hide hM
      have HO := hide hown
      have HB := hide hB
      clear hL hM hown hB hh
      have b0 : (w.heap.size + 1 : Nat) < wr.heap.size := HL.out.lt
      have hm0 : ∀ o, (wr.alloc o).cell? ⟨w.heap.size, 0, none⟩ = some (.bool m.rd) := fun o => (HM.out.below ((Below.refl _ _).alloc (Nat.le_refl _) o)).cell 0
      have hm1 : ∀ o, (wr.alloc o).cell? ⟨w.heap.size, 1, none⟩ = some (.bool m.wr) := fun o => (HM.out.below ((Below.refl _ _).alloc (Nat.le_refl _) o)).cell 1
      have hm2 : ∀ o, (wr.alloc o).cell? ⟨w.heap.size, 2, none⟩ = some (.bool m.ap) := fun o => (HM.out.below ((Below.refl _ _).alloc (Nat.le_refl _) o)).cell 2
      have hm3 : ∀ o, (wr.alloc o).cell? ⟨w.heap.size, 3, none⟩ = some (.bool m.cr) := fun o => (HM.out.below ((Below.refl _ _).alloc (Nat.le_refl _) o)).cell 3
      have hm4 : ∀ o, (wr.alloc o).cell? ⟨w.heap.size, 4, none⟩ = some (.bool m.tr) := fun o => (HM.out.below ((Below.refl _ _).alloc (Nat.le_refl _) o)).cell 4
      have hm5 : ∀ o, (wr.alloc o).cell? ⟨w.heap.size, 5, none⟩ = some (.bool m.ex) := fun o => (HM.out.below ((Below.refl _ _).alloc (Nat.le_refl _) o)).cell 5
      have hm6 : ∀ o, (wr.alloc o).cell? ⟨w.heap.size, 6, none⟩ = some (.bool m.bi) := fun o => (HM.out.below ((Below.refl _ _).alloc (Nat.le_refl _) o)).cell 6
      have hm7 : ∀ o, (wr.alloc o).cell? ⟨w.heap.size, 7, none⟩ = some (.bool m.ma) := fun o => (HM.out.below ((Below.refl _ _).alloc (Nat.le_refl _) o)).cell 7
      have hsf := store_func
      have hen := enter_has hlt
      go_wp2_with fail
      refine (hc _).mono ?_
      rintro e w2 ⟨rfl, hB2⟩
      have hBa := ((Below.refl wr.heap.size wr).alloc (Nat.le_refl _) _).trans (hB2.mono (Nat.le_of_lt (size_new _ _)))
      have q0 := (hB2.cell (p := ⟨wr.heap.size, 0, none⟩) (size_new _ _)).trans (cell_of_row _ _ 0 _ _ _ (heap_alloc_new _ _))
      have hownA := owns_below HO.out hBa
      clear hm0 hm1 hm2 hm3 hm4 hm5 hm6 hm7 e0 e1 e2 e3 hc hsf
      cases hq : (hasI m).getD k false with
      | false =>
        have HQ := hide hq
        go_wp2
        go_roundw
        case rel => exact ⟨k + 1, by omega, by go_num, by simp only [splK]; rw [HQ.out]; simpa using hownA, HL.out.below hBa, HM.out.below hBa, HB.out.trans (hBa.mono HB.out.size)⟩
        case measure => simp [intOf]; omega
      | true =>
        have HQ := hide hq
        have hln := splK_len m k
        have q1 : w2.cell? ⟨wr.heap.size, 0, none⟩ = some (.int .u8 (sg[k]?.getD 0).toNat) := q0
        have hsz : w.heap.size + 2 ≤ w2.heap.size := Nat.le_trans b0 hBa.size
        clear hen q0
        have HBa := hide hBa
        have HOA := hide hownA
        clear hBa hB2 hownA
        go_wp2_with (at_builtin; refine wpList_append_own _ rfl _ _ 40 rfl (w.heap.size + 2) 5 i0 (.int .u8 0) 1 1 Tryz.underlying40 hi hz0 hz1 hz2 rfl (by decide) _ _ _ rfl (HOA.out.alloc _) ⟨w2.heap.size, 0, none⟩ 1 1 [.int .u8 (sg[k]?.getD 0).toNat] rfl rfl (fun j u hj => oone_cell hj) (by simp [Value.oneCell']) (by unfold maxLen; omega) (by omega) (by simp; omega) ?_; intro v' w4 hown4 hgrow4 hnil4)
        have hBg : Below (w.heap.size + 2) w2 w4 := ((Below.refl _ _).alloc hsz _).grown hgrow4 (by simp; omega) (fun k e => (HOA.out.lt k e).1)
        have hM4 : MoAt w4 w.heap.size m := (hBg.block _ (by omega)).trans (HM.out.below HBa.out)
        have hL4 : Lt w4 (w.heap.size + 1) := (hBg.block _ (by omega)).trans (HL.out.below HBa.out)
        go_roundw
        case rel => exact ⟨k + 1, by omega, by go_num, by simp only [splK]; rw [HQ.out]; simpa [bv] using hown4, hL4, hM4, (HB.out.trans (HBa.out.mono HB.out.size)).trans (hBg.mono (by omega))⟩
        case measure => simp [intOf]; omega
    · obtain rfl : k = 7 := by omega
      have hst := owns_string hown
      have HL := hide hL
      have HM := hide hM
      have HO := hide hown
      have HB := hide hB
      clear hL hM hown hB hh
      go_wp2
      go_ret
      exact ⟨by rw [← HR.out]; rfl, HB.out⟩
end Go.Proofs.YtkkommomefmpgaaGreat

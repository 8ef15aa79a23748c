/- Streams: put; fill, get. -/
import Derived.Test.YtbffnamdpmjfnaaStH
namespace Go.Proofs.Ytbffnamdpmjfnaa
open Go.RowKit

theorem wput_any {S : Type} {D : RawD S} {T : TypeId} {v : Value} {fr fw : FuncId} {rok wok : S → Prop} {At : World → (Nat → Prop) → S → Prop} (R : RawM D T v fr fw rok wok At) (hT : ∀ s, OAt (fun w O => At w O s)) {G : Nat → S → Prop} (hG : Bears D rok wok G) {w : World} {O : Nat → Prop} {s : S} {B g : Nat} {x : SS} {o i b : Value} (c : UInt8) (h : On At w O s B g x o i b (.iface T v)) (ho : w.ownsRow B 5 1 o x.out.length (x.out.map bv)) (hB : B ≤ w.heap.size) (h1 : 1 ≤ x.size) (hs : x.size ≤ 65536) (hf : (x.out.length : Int) ≤ x.size) (hi : x.inn = []) (hb : x.back = []) (hg : G 2 s) :
    (Calls Try.prog 22 #[.pointer (some ⟨g, 0, none⟩), .int .u8 (c.toNat : Int)] w fun en w' => en = .returned (.int .i64 (x.put1 D s c).2.1) ∧ WStep At w O B g (.iface T v) (x.put1 D s c).1 (x.put1 D s c).2.2 w') ∧ G 0 (x.put1 D s c).2.2 := by
  unfold SS.put1
  by_cases hm : x.mode = 1
  · rw [if_pos hm]
    have := hG.put 1 s [c] hg (by simp)
    exact ⟨put_raw R hT c h hm this.1, hG.less _ _ this.2⟩
  rw [if_neg hm]
  by_cases he : (x.out.length : Int) = x.size
  · rw [if_pos he]
    have h0 := hG.put 1 s x.out hg (by omega)
    have h2 := hG.put 0 (x.deliver D s).2.2 [c] h0.2 (by simp)
    refine ⟨put_full R hT c h ho hB hm hs he h1 hi hb h0.1 (fun _ => h2.1), ?_⟩
    by_cases hd : (x.deliver D s).2.1 = 0
    · rw [if_pos hd, deliver_ok D x s hd]
      unfold SS.lay
      split
      · exact h2.2
      · exact hG.less _ _ h0.2
    · rw [if_neg hd]
      exact hG.less _ _ h0.2
  · rw [if_neg he]
    have h0 := hG.put 1 s (x.out ++ [c]) hg (by simp; omega)
    refine ⟨put_lay R hT c h ho hB hm hs (by omega) hi hb h0.1, ?_⟩
    unfold SS.lay
    split
    · exact hG.less _ _ h0.2
    · exact hG.less _ _ (hG.less _ _ hg)
/-- fill, as a value. -/
def SS.fill {S : Type} (D : RawD S) (x : SS) (s : S) : SS × Int × S :=
  if x.fin = true then (x, 111, s)
  else if (someV D x.most 8192 s).2.1 ≠ 0 then (x.mark (someV D x.most 8192 s).2.1, (someV D x.most 8192 s).2.1, (someV D x.most 8192 s).2.2)
  else if (someV D x.most 8192 s).1.length = 0 then ({ x with fin := true }, 111, (someV D x.most 8192 s).2.2)
  else ({ x with inn := (someV D x.most 8192 s).1 }, 0, (someV D x.most 8192 s).2.2)
theorem SIn.kin {W : World} {P : Nat → Prop} {x y : SS} {o i b : Value} (h : SIn W P x o i b) (h1 : y.out = x.out) (h2 : y.inn = x.inn) (h3 : y.back = x.back) : SIn W P y o i b := ⟨h1 ▸ h.so, h2 ▸ h.si, h3 ▸ h.sb, h.po, h.pi, h.pb⟩
set_option maxRecDepth 100000 in
set_option maxHeartbeats 4000000 in
theorem fill_any {S : Type} {D : RawD S} {T : TypeId} {v : Value} {fr fw : FuncId} {rok wok : S → Prop} {At : World → (Nat → Prop) → S → Prop} (R : RawM D T v fr fw rok wok At) (hT : ∀ s, OAt (fun w O => At w O s)) {w : World} {O : Nat → Prop} {s : S} {B g : Nat} {x : SS} {o i b : Value} (h : On At w O s B g x o i b (.iface T v)) (hB : B ≤ w.heap.size) (h1 : 1 ≤ x.size) (hs : x.size ≤ 65536) (hok : x.fin = false → someOk D rok x.most 8192 s) :
    Calls Try.prog 40 #[.pointer (some ⟨g, 0, none⟩)] w fun en w' => en = .returned (.int .i64 (x.fill D s).2.1) ∧ ∃ i', On At w' O (x.fill D s).2.2 B g (x.fill D s).1 o i' b (.iface T v) ∧ Turned (fun k => O k ∨ k = g) w w' := by
  obtain ⟨c0, c1, c2, c3, c4, c5, c6, c7, c8, c9, c10, c11⟩ := h.way.cs
  generalize hq : x.fill D s = q
  obtain ⟨qx, qe, qs⟩ := q
  unfold SS.fill at hq
  rcases Bool.eq_false_or_eq_true x.fin with hf | hf
  · rw [if_pos hf] at hq
    obtain ⟨rfl, rfl, rfl⟩ : x = qx ∧ 111 = qe ∧ s = qs := by simpa using hq
    have HH := hide h
    rw [hf] at c8
    clear h hq hok c0 c1 c2 c3 c4 c5 c6 c7 c9 c10 c11 hf
    go_enter Try.func40, Try.ntmps40
    go_wp2
    go_ret
    exact ⟨rfl, _, HH.out, Turned.refl _ _⟩
  rw [if_neg (by simp [hf])] at hq
  have hok := hok hf
  rw [hf] at c8
  have g5 := h.way.soft 5
  have g8 := h.way.soft 8
  have hmost : 1 ≤ x.most ∧ x.most ≤ 65536 := by
    unfold SS.most
    split <;> omega
  have HSm := hide (some_any R x.most h.raw hmost.1 (by omega) hok)
  obtain ⟨m, hm⟩ : ∃ m, m = x.most := ⟨_, rfl⟩
  rw [← hm] at HSm hq hmost
  have HH := hide h
  have HHol := hide h.ol
  generalize someV D m 8192 s = X at *
  obtain ⟨L, e, s2⟩ := X
  simp only at HSm hq
  have HQ := hide hq
  clear h hok hq
  have HFin : Hid (∀ (u : Value) (w1 : World), w1.ownsRow w.heap.size 5 1 u L.length (L.map bv) → At w1 O s2 → Turned O w w1 → On At w1 O s2 B g x o i b (.iface T v) ∧ Sl w1 u L ∧ ∀ k, u.ownBlock = some k → B ≤ k ∧ ¬ O k ∧ k ≠ g ∧ k < w1.heap.size) := hide (fun u w1 a1 a2 a3 => by
    have hz := a3.size
    refine ⟨⟨HH.out.way.turned a3 HH.out.og, (HH.out.ls.turned a3 fun k e _ => e.2.1).mono fun k e => ⟨e.1, e.2.1, e.2.2.1, by have := e.2.2.2; omega⟩, a2, HH.out.og, HH.out.gB, fun j e => Nat.lt_of_lt_of_le (HHol.out j e) hz⟩, Sl.own a1, fun k e => ?_⟩
    have hk := a1.lt k e
    exact ⟨by omega, fun e' => by have := HHol.out k e'; omega, fun e' => by have := HH.out.way.lt; omega, hk.2⟩)
  clear g5 g8 c0 c1 c4 c5 c6 c7 c9 c10
  have hm2 : x.most = if x.mode = 1 then 1 else x.size.toNat := rfl
  by_cases hmd : x.mode = 1
  · rw [if_pos hmd] at hm2
    rw [← hm] at hm2
    subst hm2
    rw [hmd] at c2
    clear hm
    by_cases he : e = 0
    case neg =>
      have hq := HQ.out
      rw [if_pos he] at hq
      obtain ⟨rfl, rfl, rfl⟩ : x.mark e = qx ∧ e = qe ∧ s2 = qs := by simpa using hq
      have he2 : (e != 0) = true := by simp [he]
      clear hq HQ
      go_enter Try.func40, Try.ntmps40
      go_wp2_with fail
      refine HSm.out.mono ?_
      rintro _ w1 ⟨u, rfl, a1, a2, a3⟩
      obtain ⟨ua, uc, rfl⟩ := owns_slice a1
      obtain ⟨q1, q2, q3⟩ := HFin.out _ w1 a1 a2 a3
      have HOn1 := hide q1
      have HT1 := hide (a3.mono fun k e => (.inl e : O k ∨ k = g))
      clear q1 q2 q3 a1 a2 a3
      go_wp2_with fail
      refine (marked_any _ g e _ _ _ _ _ HOn1.out.way).mono ?_
      rintro _ w3 ⟨rfl, hW3, hT3⟩
      have HOn3 := hide (On.at hT HOn1.out hW3 hT3 HOn1.out.ls.mark)
      have HT3 := hide (HT1.out.trans hT3 (fun _ _ e => .inr e))
      clear hW3 hT3
      go_wp2
      go_ret
      exact ⟨rfl, _, HOn3.out, HT3.out⟩
    subst he
    by_cases hl : L.length = 0
    · have hq := HQ.out
      rw [if_neg (by simp), if_pos hl] at hq
      obtain ⟨rfl, rfl, rfl⟩ : { x with fin := true } = qx ∧ 111 = qe ∧ s2 = qs := by simpa using hq
      rw [hl] at HSm
      clear hq HQ
      go_enter Try.func40, Try.ntmps40
      go_wp2_with fail
      refine HSm.out.mono ?_
      rintro _ w1 ⟨u, rfl, a1, a2, a3⟩
      obtain ⟨ua, uc, rfl⟩ := owns_slice a1
      obtain ⟨q1, q2, q3⟩ := HFin.out _ w1 (by rw [hl]; exact a1) a2 a3
      have HOn1 := hide q1
      have HT1 := hide (a3.mono fun k e => (.inl e : O k ∨ k = g))
      clear q1 q2 q3 a1 a2 a3
      have d8 := HOn1.out.way.cs.2.2.2.2.2.2.2.2.1
      have g8 := HOn1.out.way.soft 8
      have HWy := hide (HOn1.out.way.set (x' := { x with fin := true }) (o' := o) (i' := i) (b' := b) 8 (.bool true) rfl)
      have HOn2 := hide (On.at hT HOn1.out HWy.out ((Turned.refl (fun k => k = g) w1).set (.inl rfl)) (HOn1.out.ls.kin rfl rfl rfl))
      go_wp2
      go_ret
      exact ⟨rfl, _, HOn2.out, HT1.out.set (.inl (.inr rfl))⟩
    · have hq := HQ.out
      rw [if_neg (by simp), if_neg hl] at hq
      obtain ⟨rfl, rfl, rfl⟩ : { x with inn := L } = qx ∧ 0 = qe ∧ s2 = qs := by simpa using hq
      have hl2 : ((L.length : Int) == 0) = false := by simp only [beq_eq_false_iff_ne]; omega
      have hl3 : ¬ L = [] := fun e => hl (by rw [e]; rfl)
      clear hq HQ
      go_enter Try.func40, Try.ntmps40
      go_wp2_with fail
      refine HSm.out.mono ?_
      rintro _ w1 ⟨u, rfl, a1, a2, a3⟩
      obtain ⟨ua, uc, rfl⟩ := owns_slice a1
      obtain ⟨q1, q2, q3⟩ := HFin.out _ w1 a1 a2 a3
      have HOn1 := hide q1
      have HT1 := hide (a3.mono fun k e => (.inl e : O k ∨ k = g))
      have HQ2 := hide (And.intro q2 q3)
      clear q1 q2 q3 a1 a2 a3
      have d5 := HOn1.out.way.cs.2.2.2.2.2.1
      have g5 := HOn1.out.way.soft 5
      have HWy := hide (HOn1.out.way.set (x' := { x with inn := L }) (o' := o) (i' := .slice ua L.length uc) (b' := b) 5 (.slice ua L.length uc) rfl)
      have HOn2 := hide (On.at hT HOn1.out HWy.out ((Turned.refl (fun k => k = g) w1).set (.inl rfl)) ⟨HOn1.out.ls.so, HQ2.out.1, HOn1.out.ls.sb, HOn1.out.ls.po, HQ2.out.2, HOn1.out.ls.pb⟩)
      go_wp2
      go_ret
      exact ⟨rfl, _, HOn2.out, HT1.out.set (.inl (.inr rfl))⟩
  · rw [if_neg hmd] at hm2
    rw [← hm] at hm2
    have hsz : x.size = (m : Int) := by omega
    rw [hsz] at c3
    have hmb : (x.mode == 1) = false := by simp [hmd]
    clear hm2
    clear hm
    by_cases he : e = 0
    case neg =>
      have hq := HQ.out
      rw [if_pos he] at hq
      obtain ⟨rfl, rfl, rfl⟩ : x.mark e = qx ∧ e = qe ∧ s2 = qs := by simpa using hq
      have he2 : (e != 0) = true := by simp [he]
      clear hq HQ
      go_enter Try.func40, Try.ntmps40
      go_wp2_with fail
      refine HSm.out.mono ?_
      rintro _ w1 ⟨u, rfl, a1, a2, a3⟩
      obtain ⟨ua, uc, rfl⟩ := owns_slice a1
      obtain ⟨q1, q2, q3⟩ := HFin.out _ w1 a1 a2 a3
      have HOn1 := hide q1
      have HT1 := hide (a3.mono fun k e => (.inl e : O k ∨ k = g))
      clear q1 q2 q3 a1 a2 a3
      go_wp2_with fail
      refine (marked_any _ g e _ _ _ _ _ HOn1.out.way).mono ?_
      rintro _ w3 ⟨rfl, hW3, hT3⟩
      have HOn3 := hide (On.at hT HOn1.out hW3 hT3 HOn1.out.ls.mark)
      have HT3 := hide (HT1.out.trans hT3 (fun _ _ e => .inr e))
      clear hW3 hT3
      go_wp2
      go_ret
      exact ⟨rfl, _, HOn3.out, HT3.out⟩
    subst he
    by_cases hl : L.length = 0
    · have hq := HQ.out
      rw [if_neg (by simp), if_pos hl] at hq
      obtain ⟨rfl, rfl, rfl⟩ : { x with fin := true } = qx ∧ 111 = qe ∧ s2 = qs := by simpa using hq
      rw [hl] at HSm
      clear hq HQ
      go_enter Try.func40, Try.ntmps40
      go_wp2_with fail
      refine HSm.out.mono ?_
      rintro _ w1 ⟨u, rfl, a1, a2, a3⟩
      obtain ⟨ua, uc, rfl⟩ := owns_slice a1
      obtain ⟨q1, q2, q3⟩ := HFin.out _ w1 (by rw [hl]; exact a1) a2 a3
      have HOn1 := hide q1
      have HT1 := hide (a3.mono fun k e => (.inl e : O k ∨ k = g))
      clear q1 q2 q3 a1 a2 a3
      have d8 := HOn1.out.way.cs.2.2.2.2.2.2.2.2.1
      have g8 := HOn1.out.way.soft 8
      have HWy := hide (HOn1.out.way.set (x' := { x with fin := true }) (o' := o) (i' := i) (b' := b) 8 (.bool true) rfl)
      have HOn2 := hide (On.at hT HOn1.out HWy.out ((Turned.refl (fun k => k = g) w1).set (.inl rfl)) (HOn1.out.ls.kin rfl rfl rfl))
      go_wp2
      go_ret
      exact ⟨rfl, _, HOn2.out, HT1.out.set (.inl (.inr rfl))⟩
    · have hq := HQ.out
      rw [if_neg (by simp), if_neg hl] at hq
      obtain ⟨rfl, rfl, rfl⟩ : { x with inn := L } = qx ∧ 0 = qe ∧ s2 = qs := by simpa using hq
      have hl2 : ((L.length : Int) == 0) = false := by simp only [beq_eq_false_iff_ne]; omega
      have hl3 : ¬ L = [] := fun e => hl (by rw [e]; rfl)
      clear hq HQ
      go_enter Try.func40, Try.ntmps40
      go_wp2_with fail
      refine HSm.out.mono ?_
      rintro _ w1 ⟨u, rfl, a1, a2, a3⟩
      obtain ⟨ua, uc, rfl⟩ := owns_slice a1
      obtain ⟨q1, q2, q3⟩ := HFin.out _ w1 a1 a2 a3
      have HOn1 := hide q1
      have HT1 := hide (a3.mono fun k e => (.inl e : O k ∨ k = g))
      have HQ2 := hide (And.intro q2 q3)
      clear q1 q2 q3 a1 a2 a3
      have d5 := HOn1.out.way.cs.2.2.2.2.2.1
      have g5 := HOn1.out.way.soft 5
      have HWy := hide (HOn1.out.way.set (x' := { x with inn := L }) (o' := o) (i' := .slice ua L.length uc) (b' := b) 5 (.slice ua L.length uc) rfl)
      have HOn2 := hide (On.at hT HOn1.out HWy.out ((Turned.refl (fun k => k = g) w1).set (.inl rfl)) ⟨HOn1.out.ls.so, HQ2.out.1, HOn1.out.ls.sb, HOn1.out.ls.po, HQ2.out.2, HOn1.out.ls.pb⟩)
      go_wp2
      go_ret
      exact ⟨rfl, _, HOn2.out, HT1.out.set (.inl (.inr rfl))⟩
end Go.Proofs.Ytbffnamdpmjfnaa

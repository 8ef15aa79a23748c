/- What the proof stands on, part 4: the contracts of the program's calls that it reaches. -/
import Derived.Test.YtmogciopaffccaaKB3
/- Streams: put; fill, get. -/
namespace Go.Proofs.Ytmogciopaffccaa
open Go.RowKit

theorem wput_any {S : Type} {D : RawD S} {T : TypeId} {v : Value} {fr fw : FuncId} {rok wok : S → Prop} {At : World → (Nat → Prop) → S → Prop} (R : RawM D T v fr fw rok wok At) (hT : ∀ s, OAt (fun w O => At w O s)) {G : Nat → S → Prop} (hG : BearsW D wok G) {w : World} {O : Nat → Prop} {s : S} {B g : Nat} {x : SS} {o i b : Value} (c : UInt8) (h : On At w O s B g x o i b (.iface T v)) (ho : w.ownsRow B 5 1 o x.out.length (x.out.map bv)) (hB : B ≤ w.heap.size) (h1 : 1 ≤ x.size) (hs : x.size ≤ 65536) (hf : (x.out.length : Int) ≤ x.size) (hi : x.inn = []) (hb : x.back = []) (hg : G 2 s) :
    (Calls Try.prog 26 #[.pointer (some ⟨g, 0, none⟩), .int .u8 (c.toNat : Int)] w fun en w' => en = .returned (.int .i64 (x.put1 D s c).2.1) ∧ WStep At w O B g (.iface T v) (x.put1 D s c).1 (x.put1 D s c).2.2 w') ∧ G 0 (x.put1 D s c).2.2 := by
  unfold SS.put1
  by_cases hm : x.mode = 1
  · rw [if_pos hm]
    have := hG.put 1 s [c] hg (by simp)
    exact ⟨put_raw R hT c h hm this.1, hG.less _ _ this.2⟩
  rw [if_neg hm]
  by_cases he : (x.out.length : Int) = x.size
  · rw [if_pos he]
    have h0 := hG.put 1 s x.out hg (by omega)
    have h2 := hG.put 0 (x.deliver D s).2.2 [c] h0.2 (by simp)
    refine ⟨put_full R hT c h ho hB hm hs he h1 hi hb h0.1 (fun _ => h2.1), ?_⟩
    by_cases hd : (x.deliver D s).2.1 = 0
    · rw [if_pos hd, deliver_ok D x s hd]
      unfold SS.lay
      split
      · exact h2.2
      · exact hG.less _ _ h0.2
    · rw [if_neg hd]
      exact hG.less _ _ h0.2
  · rw [if_neg he]
    have h0 := hG.put 1 s (x.out ++ [c]) hg (by simp; omega)
    refine ⟨put_lay R hT c h ho hB hm hs (by omega) hi hb h0.1, ?_⟩
    unfold SS.lay
    split
    · exact hG.less _ _ h0.2
    · exact hG.less _ _ (hG.less _ _ hg)
def SS.fill {S : Type} (D : RawD S) (x : SS) (s : S) : SS × Int × S :=
  if x.fin = true then (x, 111, s)
  else if (someV D x.most 8192 s).2.1 ≠ 0 then (x.mark (someV D x.most 8192 s).2.1, (someV D x.most 8192 s).2.1, (someV D x.most 8192 s).2.2)
  else if (someV D x.most 8192 s).1.length = 0 then ({ x with fin := true }, 111, (someV D x.most 8192 s).2.2)
  else ({ x with inn := (someV D x.most 8192 s).1 }, 0, (someV D x.most 8192 s).2.2)
theorem SIn.kin {W : World} {P : Nat → Prop} {x y : SS} {o i b : Value} (h : SIn W P x o i b) (h1 : y.out = x.out) (h2 : y.inn = x.inn) (h3 : y.back = x.back) : SIn W P y o i b := ⟨h1 ▸ h.so, h2 ▸ h.si, h3 ▸ h.sb, h.po, h.pi, h.pb⟩
set_option maxRecDepth 100000 in
set_option maxHeartbeats 4000000 in
theorem fill_any {S : Type} {D : RawD S} {T : TypeId} {v : Value} {fr fw : FuncId} {rok wok : S → Prop} {At : World → (Nat → Prop) → S → Prop} (R : RawM D T v fr fw rok wok At) (hT : ∀ s, OAt (fun w O => At w O s)) {w : World} {O : Nat → Prop} {s : S} {B g : Nat} {x : SS} {o i b : Value} (h : On At w O s B g x o i b (.iface T v)) (hB : B ≤ w.heap.size) (h1 : 1 ≤ x.size) (hs : x.size ≤ 65536) (hok : x.fin = false → someOk D rok x.most 8192 s) :
    Calls Try.prog 82 #[.pointer (some ⟨g, 0, none⟩)] w fun en w' => en = .returned (.int .i64 (x.fill D s).2.1) ∧ ∃ i', On At w' O (x.fill D s).2.2 B g (x.fill D s).1 o i' b (.iface T v) ∧ Turned (fun k => O k ∨ k = g) w w' := by
  obtain ⟨c0, c1, c2, c3, c4, c5, c6, c7, c8, c9, c10, c11⟩ := h.way.cs
  generalize hq : x.fill D s = q
  obtain ⟨qx, qe, qs⟩ := q
  unfold SS.fill at hq
  rcases Bool.eq_false_or_eq_true x.fin with hf | hf
  · rw [if_pos hf] at hq
    obtain ⟨rfl, rfl, rfl⟩ : x = qx ∧ 111 = qe ∧ s = qs := by simpa using hq
    have HH := hide h
    rw [hf] at c8
    clear h hq hok c0 c1 c2 c3 c4 c5 c6 c7 c9 c10 c11 hf
    go_enter Try.func82, Try.ntmps82
    go_wp2
    go_ret
    exact ⟨rfl, _, HH.out, Turned.refl _ _⟩
  rw [if_neg (by simp [hf])] at hq
  have hok := hok hf
  rw [hf] at c8
  have g5 := h.way.soft 5
  have g8 := h.way.soft 8
  have hmost : 1 ≤ x.most ∧ x.most ≤ 65536 := by
    unfold SS.most
    split <;> omega
  have HSm := hide (some_any R x.most h.raw hmost.1 (by omega) hok)
  obtain ⟨m, hm⟩ : ∃ m, m = x.most := ⟨_, rfl⟩
  rw [← hm] at HSm hq hmost
  have HH := hide h
  have HHol := hide h.ol
  generalize someV D m 8192 s = X at *
  obtain ⟨L, e, s2⟩ := X
  simp only at HSm hq
  have HQ := hide hq
  clear h hok hq
  have HFin : Hid (∀ (u : Value) (w1 : World), w1.ownsRow w.heap.size 5 1 u L.length (L.map bv) → At w1 O s2 → Turned O w w1 → On At w1 O s2 B g x o i b (.iface T v) ∧ Sl w1 u L ∧ ∀ k, u.ownBlock = some k → B ≤ k ∧ ¬ O k ∧ k ≠ g ∧ k < w1.heap.size) := hide (fun u w1 a1 a2 a3 => by
    have hz := a3.size
    refine ⟨⟨HH.out.way.turned a3 HH.out.og, (HH.out.ls.turned a3 fun k e _ => e.2.1).mono fun k e => ⟨e.1, e.2.1, e.2.2.1, by have := e.2.2.2; omega⟩, a2, HH.out.og, HH.out.gB, fun j e => Nat.lt_of_lt_of_le (HHol.out j e) hz⟩, Sl.own a1, fun k e => ?_⟩
    have hk := a1.lt k e
    exact ⟨by omega, fun e' => by have := HHol.out k e'; omega, fun e' => by have := HH.out.way.lt; omega, hk.2⟩)
  clear g5 g8 c0 c1 c4 c5 c6 c7 c9 c10
  have hm2 : x.most = if x.mode = 1 then 1 else x.size.toNat := rfl
  by_cases hmd : x.mode = 1
  · rw [if_pos hmd] at hm2
    rw [← hm] at hm2
    subst hm2
    rw [hmd] at c2
    clear hm
    by_cases he : e = 0
    case neg =>
      have hq := HQ.out
      rw [if_pos he] at hq
      obtain ⟨rfl, rfl, rfl⟩ : x.mark e = qx ∧ e = qe ∧ s2 = qs := by simpa using hq
      have he2 : (e != 0) = true := by simp [he]
      clear hq HQ
      go_enter Try.func82, Try.ntmps82
      go_wp2_with fail
      refine HSm.out.mono ?_
      rintro _ w1 ⟨u, rfl, a1, a2, a3⟩
      obtain ⟨ua, uc, rfl⟩ := owns_slice a1
      obtain ⟨q1, q2, q3⟩ := HFin.out _ w1 a1 a2 a3
      have HOn1 := hide q1
      have HT1 := hide (a3.mono fun k e => (.inl e : O k ∨ k = g))
      clear q1 q2 q3 a1 a2 a3
      go_wp2_with fail
      refine (marked_any _ g e _ _ _ _ _ HOn1.out.way).mono ?_
      rintro _ w3 ⟨rfl, hW3, hT3⟩
      have HOn3 := hide (On.at hT HOn1.out hW3 hT3 HOn1.out.ls.mark)
      have HT3 := hide (HT1.out.trans hT3 (fun _ _ e => .inr e))
      clear hW3 hT3
      go_wp2
      go_ret
      exact ⟨rfl, _, HOn3.out, HT3.out⟩
    subst he
    by_cases hl : L.length = 0
    · have hq := HQ.out
      rw [if_neg (by simp), if_pos hl] at hq
      obtain ⟨rfl, rfl, rfl⟩ : { x with fin := true } = qx ∧ 111 = qe ∧ s2 = qs := by simpa using hq
      rw [hl] at HSm
      clear hq HQ
      go_enter Try.func82, Try.ntmps82
      go_wp2_with fail
      refine HSm.out.mono ?_
      rintro _ w1 ⟨u, rfl, a1, a2, a3⟩
      obtain ⟨ua, uc, rfl⟩ := owns_slice a1
      obtain ⟨q1, q2, q3⟩ := HFin.out _ w1 (by rw [hl]; exact a1) a2 a3
      have HOn1 := hide q1
      have HT1 := hide (a3.mono fun k e => (.inl e : O k ∨ k = g))
      clear q1 q2 q3 a1 a2 a3
      have d8 := HOn1.out.way.cs.2.2.2.2.2.2.2.2.1
      have g8 := HOn1.out.way.soft 8
      have HWy := hide (HOn1.out.way.set (x' := { x with fin := true }) (o' := o) (i' := i) (b' := b) 8 (.bool true) rfl)
      have HOn2 := hide (On.at hT HOn1.out HWy.out ((Turned.refl (fun k => k = g) w1).set (.inl rfl)) (HOn1.out.ls.kin rfl rfl rfl))
      go_wp2
      go_ret
      exact ⟨rfl, _, HOn2.out, HT1.out.set (.inl (.inr rfl))⟩
    · have hq := HQ.out
      rw [if_neg (by simp), if_neg hl] at hq
      obtain ⟨rfl, rfl, rfl⟩ : { x with inn := L } = qx ∧ 0 = qe ∧ s2 = qs := by simpa using hq
      have hl2 : ((L.length : Int) == 0) = false := by simp only [beq_eq_false_iff_ne]; omega
      have hl3 : ¬ L = [] := fun e => hl (by rw [e]; rfl)
      clear hq HQ
      go_enter Try.func82, Try.ntmps82
      go_wp2_with fail
      refine HSm.out.mono ?_
      rintro _ w1 ⟨u, rfl, a1, a2, a3⟩
      obtain ⟨ua, uc, rfl⟩ := owns_slice a1
      obtain ⟨q1, q2, q3⟩ := HFin.out _ w1 a1 a2 a3
      have HOn1 := hide q1
      have HT1 := hide (a3.mono fun k e => (.inl e : O k ∨ k = g))
      have HQ2 := hide (And.intro q2 q3)
      clear q1 q2 q3 a1 a2 a3
      have d5 := HOn1.out.way.cs.2.2.2.2.2.1
      have g5 := HOn1.out.way.soft 5
      have HWy := hide (HOn1.out.way.set (x' := { x with inn := L }) (o' := o) (i' := .slice ua L.length uc) (b' := b) 5 (.slice ua L.length uc) rfl)
      have HOn2 := hide (On.at hT HOn1.out HWy.out ((Turned.refl (fun k => k = g) w1).set (.inl rfl)) ⟨HOn1.out.ls.so, HQ2.out.1, HOn1.out.ls.sb, HOn1.out.ls.po, HQ2.out.2, HOn1.out.ls.pb⟩)
      go_wp2
      go_ret
      exact ⟨rfl, _, HOn2.out, HT1.out.set (.inl (.inr rfl))⟩
  · rw [if_neg hmd] at hm2
    rw [← hm] at hm2
    have hsz : x.size = (m : Int) := by omega
    rw [hsz] at c3
    have hmb : (x.mode == 1) = false := by simp [hmd]
    clear hm2
    clear hm
    by_cases he : e = 0
    case neg =>
      have hq := HQ.out
      rw [if_pos he] at hq
      obtain ⟨rfl, rfl, rfl⟩ : x.mark e = qx ∧ e = qe ∧ s2 = qs := by simpa using hq
      have he2 : (e != 0) = true := by simp [he]
      clear hq HQ
      go_enter Try.func82, Try.ntmps82
      go_wp2_with fail
      refine HSm.out.mono ?_
      rintro _ w1 ⟨u, rfl, a1, a2, a3⟩
      obtain ⟨ua, uc, rfl⟩ := owns_slice a1
      obtain ⟨q1, q2, q3⟩ := HFin.out _ w1 a1 a2 a3
      have HOn1 := hide q1
      have HT1 := hide (a3.mono fun k e => (.inl e : O k ∨ k = g))
      clear q1 q2 q3 a1 a2 a3
      go_wp2_with fail
      refine (marked_any _ g e _ _ _ _ _ HOn1.out.way).mono ?_
      rintro _ w3 ⟨rfl, hW3, hT3⟩
      have HOn3 := hide (On.at hT HOn1.out hW3 hT3 HOn1.out.ls.mark)
      have HT3 := hide (HT1.out.trans hT3 (fun _ _ e => .inr e))
      clear hW3 hT3
      go_wp2
      go_ret
      exact ⟨rfl, _, HOn3.out, HT3.out⟩
    subst he
    by_cases hl : L.length = 0
    · have hq := HQ.out
      rw [if_neg (by simp), if_pos hl] at hq
      obtain ⟨rfl, rfl, rfl⟩ : { x with fin := true } = qx ∧ 111 = qe ∧ s2 = qs := by simpa using hq
      rw [hl] at HSm
      clear hq HQ
      go_enter Try.func82, Try.ntmps82
      go_wp2_with fail
      refine HSm.out.mono ?_
      rintro _ w1 ⟨u, rfl, a1, a2, a3⟩
      obtain ⟨ua, uc, rfl⟩ := owns_slice a1
      obtain ⟨q1, q2, q3⟩ := HFin.out _ w1 (by rw [hl]; exact a1) a2 a3
      have HOn1 := hide q1
      have HT1 := hide (a3.mono fun k e => (.inl e : O k ∨ k = g))
      clear q1 q2 q3 a1 a2 a3
      have d8 := HOn1.out.way.cs.2.2.2.2.2.2.2.2.1
      have g8 := HOn1.out.way.soft 8
      have HWy := hide (HOn1.out.way.set (x' := { x with fin := true }) (o' := o) (i' := i) (b' := b) 8 (.bool true) rfl)
      have HOn2 := hide (On.at hT HOn1.out HWy.out ((Turned.refl (fun k => k = g) w1).set (.inl rfl)) (HOn1.out.ls.kin rfl rfl rfl))
      go_wp2
      go_ret
      exact ⟨rfl, _, HOn2.out, HT1.out.set (.inl (.inr rfl))⟩
    · have hq := HQ.out
      rw [if_neg (by simp), if_neg hl] at hq
      obtain ⟨rfl, rfl, rfl⟩ : { x with inn := L } = qx ∧ 0 = qe ∧ s2 = qs := by simpa using hq
      have hl2 : ((L.length : Int) == 0) = false := by simp only [beq_eq_false_iff_ne]; omega
      have hl3 : ¬ L = [] := fun e => hl (by rw [e]; rfl)
      clear hq HQ
      go_enter Try.func82, Try.ntmps82
      go_wp2_with fail
      refine HSm.out.mono ?_
      rintro _ w1 ⟨u, rfl, a1, a2, a3⟩
      obtain ⟨ua, uc, rfl⟩ := owns_slice a1
      obtain ⟨q1, q2, q3⟩ := HFin.out _ w1 a1 a2 a3
      have HOn1 := hide q1
      have HT1 := hide (a3.mono fun k e => (.inl e : O k ∨ k = g))
      have HQ2 := hide (And.intro q2 q3)
      clear q1 q2 q3 a1 a2 a3
      have d5 := HOn1.out.way.cs.2.2.2.2.2.1
      have g5 := HOn1.out.way.soft 5
      have HWy := hide (HOn1.out.way.set (x' := { x with inn := L }) (o' := o) (i' := .slice ua L.length uc) (b' := b) 5 (.slice ua L.length uc) rfl)
      have HOn2 := hide (On.at hT HOn1.out HWy.out ((Turned.refl (fun k => k = g) w1).set (.inl rfl)) ⟨HOn1.out.ls.so, HQ2.out.1, HOn1.out.ls.sb, HOn1.out.ls.po, HQ2.out.2, HOn1.out.ls.pb⟩)
      go_wp2
      go_ret
      exact ⟨rfl, _, HOn2.out, HT1.out.set (.inl (.inr rfl))⟩
end Go.Proofs.Ytmogciopaffccaa

/- Streams: get, flush, close on a way. -/
namespace Go.Proofs.Ytmogciopaffccaa
open Go.RowKit

theorem get1_fill {S : Type} (D : RawD S) (x : SS) (s : S) (hb : x.back.length = 0) (hi : x.inn.length = 0) : x.get1 D s = if (x.fill D s).2.1 = 0 then ({ (x.fill D s).1 with inn := (x.fill D s).1.inn.drop 1 }, (x.fill D s).1.inn.getD 0 0, 0, (x.fill D s).2.2) else ((x.fill D s).1, 0, (x.fill D s).2.1, (x.fill D s).2.2) := by
  unfold SS.get1 SS.fill
  rw [if_neg (by omega), if_neg (by omega)]
  by_cases h1 : x.fin = true
  · rw [if_pos h1, if_pos h1]; rfl
  rw [if_neg h1, if_neg h1]
  by_cases h2 : (someV D x.most 8192 s).2.1 ≠ 0
  · rw [if_pos h2, if_pos h2, if_neg h2]
  rw [if_neg h2, if_neg h2]
  by_cases h3 : (someV D x.most 8192 s).1.length = 0
  · rw [if_pos h3, if_pos h3]; rfl
  rw [if_neg h3, if_neg h3]; rfl
theorem fill_inn {S : Type} (D : RawD S) (x : SS) (s : S) (h : (x.fill D s).2.1 = 0) : 0 < (x.fill D s).1.inn.length := by
  unfold SS.fill at h ⊢
  split at h
  · simp at h
  rename_i h1
  rw [if_neg h1]
  split at h
  · contradiction
  rename_i h2
  rw [if_neg h2]
  split at h
  · simp at h
  rename_i h3
  rw [if_neg h3]
  exact Nat.pos_of_ne_zero h3
set_option maxRecDepth 100000 in
set_option maxHeartbeats 4000000 in
theorem get_any {S : Type} {D : RawD S} {T : TypeId} {v : Value} {fr fw : FuncId} {rok wok : S → Prop} {At : World → (Nat → Prop) → S → Prop} (R : RawM D T v fr fw rok wok At) (hT : ∀ s, OAt (fun w O => At w O s)) {w : World} {O : Nat → Prop} {s : S} {B g : Nat} {x : SS} {o i b : Value} (h : On At w O s B g x o i b (.iface T v)) (hB : B ≤ w.heap.size) (h1 : 1 ≤ x.size) (hs : x.size ≤ 65536) (hbl : x.back.length ≤ 8) (hil : x.inn.length ≤ 65536) (hok : someOk D rok x.most 8192 s) :
    Calls Try.prog 78 #[.pointer (some ⟨g, 0, none⟩)] w fun en w' => en = .returned (.tuple #[.int .u8 ((x.get1 D s).2.1.toNat : Int), .int .i64 (x.get1 D s).2.2.1]) ∧ ∃ i' b', On At w' O (x.get1 D s).2.2.2 B g (x.get1 D s).1 o i' b' (.iface T v) ∧ Turned (fun k => O k ∨ k = g) w w' := by
  obtain ⟨ia, ic, rfl, hib, hic⟩ := h.ls.si
  obtain ⟨ba, bc, rfl, hbb, hbc⟩ := h.ls.sb
  obtain ⟨c0, c1, c2, c3, c4, c5, c6, c7, c8, c9, c10, c11⟩ := h.way.cs
  have g5 := h.way.soft 5
  have g6 := h.way.soft 6
  have HH := hide h
  clear c0 c1 c2 c3 c4 c7 c8 c9 c10 c11
  generalize hq : x.get1 D s = q
  obtain ⟨qx, qc, qe, qs⟩ := q
  by_cases hb : 0 < x.back.length
  · unfold SS.get1 at hq
    rw [if_pos hb] at hq
    obtain ⟨rfl, rfl, rfl, rfl⟩ : { x with back := x.back.dropLast } = qx ∧ x.back.getD (x.back.length - 1) 0 = qc ∧ 0 = qe ∧ s = qs := by simpa using hq
    obtain ⟨-, bb, off, rfl, -, hcell⟩ := bys_block hbb hb
    have hcl := hcell (x.back.length - 1) (by omega)
    have hcut : Sl w (.slice (some ⟨bb, off, none⟩) (x.back.length - 1) bc) x.back.dropLast := by
      have := bys_cut hbb 0 (x.back.length - 1) bc (by omega)
      rw [List.drop_zero, ← List.dropLast_eq_take] at this
      exact ⟨_, _, by rw [List.length_dropLast], this, by rw [List.length_dropLast]; omega⟩
    obtain ⟨n, hn⟩ : ∃ n, n = x.back.length - 1 := ⟨_, rfl⟩
    rw [← hn] at hcl hcut ⊢
    have hbn : x.back.length = n + 1 := by omega
    rw [hbn] at c6 hbc
    have HWy := hide (h.way.set (x' := { x with back := x.back.dropLast }) (o' := o) (i' := .slice ia x.inn.length ic) (b' := .slice (some ⟨bb, off, none⟩) n bc) 6 (.slice (some ⟨bb, off, none⟩) n bc) rfl)
    have HOn2 := hide (On.at hT h HWy.out ((Turned.refl (fun k => k = g) w).set (.inl rfl)) ⟨h.ls.so, h.ls.si, hcut, h.ls.po, h.ls.pi, fun k e => h.ls.pb k e⟩)
    have k0 : (0 : Int) ≤ (n : Int) := by omega
    have k8 : (n : Int) ≤ 8 := by omega
    have k1 : (n : Int) < (n : Int) + 1 := by omega
    have k2 : (n : Int) ≤ (bc : Int) := by omega
    have k3 : ((n : Int) + 1) - 1 = (n : Int) := by omega
    have HNn := hide hbn
    clear hq hcut hbb hib h hcell hbn hn hok
    go_enter Try.func78, Try.ntmps78
    go_wp2
    go_ret2
    exact ⟨rfl, _, _, HOn2.out, (Turned.refl _ _).set (.inl (.inr rfl))⟩
  have hb0 : x.back.length = 0 := by omega
  rw [hb0] at c6
  by_cases hi : 0 < x.inn.length
  · unfold SS.get1 at hq
    rw [if_neg hb, if_pos hi] at hq
    obtain ⟨rfl, rfl, rfl, rfl⟩ : { x with inn := x.inn.drop 1 } = qx ∧ x.inn.getD 0 0 = qc ∧ 0 = qe ∧ s = qs := by simpa using hq
    obtain ⟨-, bb, off, rfl, -, hcell⟩ := bys_block hib hi
    have hcl := hcell 0 hi
    rw [Nat.add_zero] at hcl
    generalize x.inn.getD 0 0 = ch at hcl ⊢
    have HBh := hide (behind_any x.inn (.slice (some ⟨bb, off, none⟩) x.inn.length ic) 1 w h.ls.si hi)
    have k0 : (0 : Int) < (x.inn.length : Int) := by omega
    have k1 : ((x.inn.length : Int) == 0) = false := by simp only [beq_eq_false_iff_ne]; omega
    have k2 : ¬ x.inn = [] := fun e => by rw [e] at hi; simp at hi
    obtain ⟨L, hL⟩ : ∃ L, L = x.inn.drop 1 := ⟨_, rfl⟩
    rw [← hL] at HBh ⊢
    clear hq hib h hcell hL hok
    go_enter Try.func78, Try.ntmps78
    go_wp2_with fail
    refine HBh.out.mono ?_
    rintro _ _ ⟨u, rfl, hu, hub, -, rfl⟩
    have hu2 := hu
    obtain ⟨ua, uc, rfl, -⟩ := hu2
    have HWy := hide (HH.out.way.set (x' := { x with inn := L }) (o' := o) (i' := .slice ua L.length uc) (b' := .slice ba x.back.length bc) 5 (.slice ua L.length uc) rfl)
    have HOn2 := hide (On.at hT HH.out HWy.out ((Turned.refl (fun k => k = g) w).set (.inl rfl)) ⟨HH.out.ls.so, hu, HH.out.ls.sb, HH.out.ls.po, fun k e => HH.out.ls.pi k (hub k e), HH.out.ls.pb⟩)
    clear hu hub
    go_wp2
    go_ret2
    exact ⟨rfl, _, _, HOn2.out, (Turned.refl _ _).set (.inl (.inr rfl))⟩
  have hi0 : x.inn.length = 0 := by omega
  rw [get1_fill D x s hb0 hi0] at hq
  have HF := hide (fill_any R hT h hB h1 hs (fun _ => hok))
  have HIn := hide (fill_inn D x s)
  rw [hi0] at c5
  generalize x.fill D s = X at *
  obtain ⟨fx, fe, fs⟩ := X
  simp only at hq HF HIn
  have HQ := hide hq
  clear hq h hib hbb hok
  by_cases he : fe = 0
  · subst he
    have hq := HQ.out
    rw [if_pos rfl] at hq
    obtain ⟨rfl, rfl, rfl, rfl⟩ : { fx with inn := fx.inn.drop 1 } = qx ∧ fx.inn.getD 0 0 = qc ∧ 0 = qe ∧ fs = qs := by simpa using hq
    have hpos := HIn.out rfl
    obtain ⟨ch, hch⟩ : ∃ ch, ch = fx.inn.getD 0 0 := ⟨_, rfl⟩
    rw [← hch]
    have HCh := hide hch
    clear hch
    obtain ⟨L, hL⟩ : ∃ L, L = fx.inn.drop 1 := ⟨_, rfl⟩
    rw [← hL]
    have HL := hide hL
    clear hq HQ hL
    go_enter Try.func78, Try.ntmps78
    go_wp2_with fail
    refine HF.out.mono ?_
    rintro _ w1 ⟨rfl, i', hO1, hT1⟩
    obtain ⟨ja, jc, rfl, hjb, hjc⟩ := hO1.ls.si
    obtain ⟨-, bb, off, rfl, -, hcell⟩ := bys_block hjb hpos
    have hcl := hcell 0 hpos
    rw [Nat.add_zero, ← HCh.out] at hcl
    have hbh := behind_any fx.inn (.slice (some ⟨bb, off, none⟩) fx.inn.length jc) 1 w1 hO1.ls.si hpos
    rw [← HL.out] at hbh
    have HBh := hide hbh
    have d5 := hO1.way.cs.2.2.2.2.2.1
    have e5 := hO1.way.soft 5
    have HO1 := hide hO1
    have HT1 := hide hT1
    have k0 : (0 : Int) < (fx.inn.length : Int) := by omega
    clear hO1 hT1 hjb hcell hbh c5 c6 g5 g6
    go_wp2_with fail
    refine HBh.out.mono ?_
    rintro _ _ ⟨u, rfl, hu, hub, -, rfl⟩
    have hu2 := hu
    obtain ⟨ua, uc, rfl, -⟩ := hu2
    have HWy := hide (HO1.out.way.set (x' := { fx with inn := L }) (o' := o) (i' := .slice ua L.length uc) (b' := .slice ba x.back.length bc) 5 (.slice ua L.length uc) rfl)
    have HOn2 := hide (On.at hT HO1.out HWy.out ((Turned.refl (fun k => k = g) w1).set (.inl rfl)) ⟨HO1.out.ls.so, hu, HO1.out.ls.sb, HO1.out.ls.po, fun k e => HO1.out.ls.pi k (hub k e), HO1.out.ls.pb⟩)
    clear hu hub
    go_wp2
    go_ret2
    exact ⟨rfl, _, _, HOn2.out, HT1.out.set (.inl (.inr rfl))⟩
  · have hq := HQ.out
    rw [if_neg he] at hq
    obtain ⟨rfl, rfl, rfl, rfl⟩ : fx = qx ∧ 0 = qc ∧ fe = qe ∧ fs = qs := by simpa using hq
    have he2 : (fe != 0) = true := by simp [he]
    clear hq HQ
    go_enter Try.func78, Try.ntmps78
    go_wp2_with fail
    refine HF.out.mono ?_
    rintro _ w1 ⟨rfl, i', hO1, hT1⟩
    have HO1 := hide hO1
    have HT1 := hide hT1
    clear hO1 hT1 c5 c6 g5 g6
    go_wp2
    go_ret2
    exact ⟨rfl, _, _, HO1.out, HT1.out⟩
set_option maxRecDepth 100000 in
set_option maxHeartbeats 4000000 in
theorem flush_any {S : Type} {D : RawD S} {T : TypeId} {v : Value} {fr fw : FuncId} {rok wok : S → Prop} {At : World → (Nat → Prop) → S → Prop} (R : RawM D T v fr fw rok wok At) (hT : ∀ s, OAt (fun w O => At w O s)) {w : World} {O : Nat → Prop} {s : S} {B g : Nat} {x : SS} {o i b : Value} (h : On At w O s B g x o i b (.iface T v)) (hl : x.out.length ≤ 65536) (hok : putOk D wok x.out (putF x.out) s 0 0) :
    Calls Try.prog 80 #[.pointer (some ⟨g, 0, none⟩)] w fun en w' => en = .returned (.int .i64 (x.deliver D s).2.1) ∧ WStep At w O B g (.iface T v) (if (x.deliver D s).2.1 = 0 then { (x.deliver D s).1 with dir := 0 } else (x.deliver D s).1) (x.deliver D s).2.2 w' := by
  have HD := hide (deliver_any R hT h hl hok)
  have hgB := h.gB
  generalize x.deliver D s = X at *
  obtain ⟨dx, de, ds⟩ := X
  simp only at HD ⊢
  clear h hok
  by_cases he : de = 0
  · subst he
    rw [if_pos rfl]
    go_enter Try.func80, Try.ntmps80
    go_wp2_with fail
    refine HD.out.mono ?_
    rintro _ w1 ⟨rfl, o', O', hO4, -, hO5, hT4⟩
    have HO4 := hide hO4
    have HO5 := hide hO5
    have HT4 := hide (hT4.mono fun k e => (e.imp id (fun e => by omega) : O k ∨ B ≤ k))
    have d7 := hO4.way.cs.2.2.2.2.2.2.2.1
    have e7 := hO4.way.soft 7
    have HWy := hide (hO4.way.set (x' := { dx with dir := 0 }) (o' := o') (i' := i) (b' := b) 7 (.int .i64 0) rfl)
    have HOn2 := hide (On.at hT hO4 HWy.out ((Turned.refl (fun k => k = g) w1).set (.inl rfl)) (hO4.ls.kin rfl rfl rfl))
    clear hO4 hO5 hT4
    go_wp2
    go_ret
    exact ⟨rfl, _, _, _, _, HOn2.out, HO5.out, HT4.out.set (.inl (.inr hgB))⟩
  · rw [if_neg he]
    have he2 : (de == 0) = false := by simp [he]
    go_enter Try.func80, Try.ntmps80
    go_wp2_with fail
    refine HD.out.mono ?_
    rintro _ w1 ⟨rfl, o', O', hO4, -, hO5, hT4⟩
    have HO4 := hide hO4
    have HO5 := hide hO5
    have HT4 := hide (hT4.mono fun k e => (e.imp id (fun e => by omega) : O k ∨ B ≤ k))
    clear hO4 hO5 hT4
    go_wp2
    go_ret
    exact ⟨rfl, _, _, _, _, HO4.out, HO5.out, HT4.out⟩

end Go.Proofs.Ytmogciopaffccaa

/- Streams: a way is begun. -/
namespace Go.Proofs.Ytmogciopaffccaa
open Go.RowKit

theorem Way.new (w : World) (x : SS) (o i b r : Value) : Way (w.alloc (Obj.cells #[.bool x.rd, .bool x.wt, .int .i64 x.mode, .int .i64 x.size, o, i, b, .int .i64 x.dir, .bool x.fin, .bool x.bad, .bool x.closed, r] 69)) w.heap.size x o i b r := heap_alloc_new w _
set_option maxRecDepth 100000 in
set_option maxHeartbeats 4000000 in
theorem onWay_any (x : SS) (o i b : Value) (P : Nat → Prop) (r : Value) (w : World) (h : SIn w P x o i b) (ho : x.out.length ≤ 140737488351232) (hi : x.inn.length ≤ 140737488351232) (hb : x.back.length ≤ 140737488351232) (hr : r = .nilIface ∨ ∃ T v, r = .iface T v) :
    Calls Try.prog 24 #[.agg #[.bool x.rd, .bool x.wt, .int .i64 x.mode, .int .i64 x.size, o, i, b, .int .i64 x.dir, .bool x.fin, .bool x.bad, .bool x.closed], r] w fun e w' => ∃ g o' i' b', e = .returned (.pointer (some ⟨g, 0, none⟩)) ∧ Way w' g x o' i' b' r ∧ w.heap.size ≤ g ∧ w'.ownsRow w.heap.size 5 1 o' x.out.length (x.out.map bv) ∧ w'.ownsRow w.heap.size 5 1 i' x.inn.length (x.inn.map bv) ∧ w'.ownsRow w.heap.size 5 1 b' x.back.length (x.back.map bv) ∧ (∀ k, o'.ownBlock = some k ∨ i'.ownBlock = some k ∨ b'.ownBlock = some k → k ≠ g) ∧ Below w.heap.size w w' := by
  have HC := hide (fun (W : World) (hW : Below w.heap.size w W) => scopied_any x o i b P W (h.below hW) ho hi hb)
  obtain ⟨oa, oc, rfl, -⟩ := h.so
  obtain ⟨ia, ic, rfl, -⟩ := h.si
  obtain ⟨ba, bc, rfl, -⟩ := h.sb
  clear h
  rcases hr with rfl | ⟨T, v, rfl⟩
  · skip
    go_enter Try.func24, Try.ntmps24
    go_wp2_with fail
    refine (HC.out _ (recv_below w _)).mono ?_
    rintro _ w1 ⟨o', i', b', rfl, q1, q2, q3, hB1⟩
    obtain ⟨a1, k1, rfl⟩ := owns_slice q1
    obtain ⟨a2, k2, rfl⟩ := owns_slice q2
    obtain ⟨a3, k3, rfl⟩ := owns_slice q3
    have HQ := hide (And.intro q1 (And.intro q2 q3))
    have hz := (recv_below w (Obj.cells #[.bool x.rd, .bool x.wt, .int .i64 x.mode, .int .i64 x.size, .slice oa x.out.length oc, .slice ia x.inn.length ic, .slice ba x.back.length bc, .int .i64 x.dir, .bool x.fin, .bool x.bad, .bool x.closed] 29)).size
    have HB1 := hide ((recv_below w _).trans (hB1.mono hz))
    have HZ := hide hz
    clear q1 q2 q3 hB1 HC hz
    go_wp2
    go_ret
    have hBn := recv_below w1 (Obj.cells #[.bool x.rd, .bool x.wt, .int .i64 x.mode, .int .i64 x.size, .slice a1 x.out.length k1, .slice a2 x.inn.length k2, .slice a3 x.back.length k3, .int .i64 x.dir, .bool x.fin, .bool x.bad, .bool x.closed, .nilIface] 69)
    refine ⟨w1.heap.size, _, _, _, rfl, Way.new w1 x _ _ _ _, HB1.out.size, owns_mono (owns_below HQ.out.1 hBn) HZ.out, owns_mono (owns_below HQ.out.2.1 hBn) HZ.out, owns_mono (owns_below HQ.out.2.2 hBn) HZ.out, fun k e e' => ?_, HB1.out.trans (hBn.mono HB1.out.size)⟩
    rcases e with e | e | e
    · have := (HQ.out.1.lt k e).2; omega
    · have := (HQ.out.2.1.lt k e).2; omega
    · have := (HQ.out.2.2.lt k e).2; omega
  · skip
    go_enter Try.func24, Try.ntmps24
    go_wp2_with fail
    refine (HC.out _ (recv_below w _)).mono ?_
    rintro _ w1 ⟨o', i', b', rfl, q1, q2, q3, hB1⟩
    obtain ⟨a1, k1, rfl⟩ := owns_slice q1
    obtain ⟨a2, k2, rfl⟩ := owns_slice q2
    obtain ⟨a3, k3, rfl⟩ := owns_slice q3
    have HQ := hide (And.intro q1 (And.intro q2 q3))
    have hz := (recv_below w (Obj.cells #[.bool x.rd, .bool x.wt, .int .i64 x.mode, .int .i64 x.size, .slice oa x.out.length oc, .slice ia x.inn.length ic, .slice ba x.back.length bc, .int .i64 x.dir, .bool x.fin, .bool x.bad, .bool x.closed] 29)).size
    have HB1 := hide ((recv_below w _).trans (hB1.mono hz))
    have HZ := hide hz
    clear q1 q2 q3 hB1 HC hz
    go_wp2
    go_ret
    have hBn := recv_below w1 (Obj.cells #[.bool x.rd, .bool x.wt, .int .i64 x.mode, .int .i64 x.size, .slice a1 x.out.length k1, .slice a2 x.inn.length k2, .slice a3 x.back.length k3, .int .i64 x.dir, .bool x.fin, .bool x.bad, .bool x.closed, .iface T v] 69)
    refine ⟨w1.heap.size, _, _, _, rfl, Way.new w1 x _ _ _ _, HB1.out.size, owns_mono (owns_below HQ.out.1 hBn) HZ.out, owns_mono (owns_below HQ.out.2.1 hBn) HZ.out, owns_mono (owns_below HQ.out.2.2 hBn) HZ.out, fun k e e' => ?_, HB1.out.trans (hBn.mono HB1.out.size)⟩
    rcases e with e | e | e
    · have := (HQ.out.1.lt k e).2; omega
    · have := (HQ.out.2.1.lt k e).2; omega
    · have := (HQ.out.2.2.lt k e).2; omega
end Go.Proofs.Ytmogciopaffccaa

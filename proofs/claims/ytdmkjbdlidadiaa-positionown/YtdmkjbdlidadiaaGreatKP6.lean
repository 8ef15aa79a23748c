/- What the proof stands on, part 6: the contracts of the program's calls that it reaches. -/
import Derived.Test.YtdmkjbdlidadiaaGreatKP5
/- Streams: put; fill, get. -/
namespace Go.Proofs.YtdmkjbdlidadiaaGreat
open Go.RowKit

def SS.fill {S : Type} (D : RawD S) (x : SS) (s : S) : SS × Int × S :=
  if x.fin = true then (x, 111, s)
  else if (someV D x.most 8192 s).2.1 ≠ 0 then (x.mark (someV D x.most 8192 s).2.1, (someV D x.most 8192 s).2.1, (someV D x.most 8192 s).2.2)
  else if (someV D x.most 8192 s).1.length = 0 then ({ x with fin := true }, 111, (someV D x.most 8192 s).2.2)
  else ({ x with inn := (someV D x.most 8192 s).1 }, 0, (someV D x.most 8192 s).2.2)
theorem SIn.kin {W : World} {P : Nat → Prop} {x y : SS} {o i b : Value} (h : SIn W P x o i b) (h1 : y.out = x.out) (h2 : y.inn = x.inn) (h3 : y.back = x.back) : SIn W P y o i b := ⟨h1 ▸ h.so, h2 ▸ h.si, h3 ▸ h.sb, h.po, h.pi, h.pb⟩
set_option maxRecDepth 100000 in
set_option maxHeartbeats 4000000 in
theorem fill_any {S : Type} {D : RawD S} {T : TypeId} {v : Value} {fr fw : FuncId} {rok wok : S → Prop} {At : World → (Nat → Prop) → S → Prop} (R : RawM D T v fr fw rok wok At) (hT : ∀ s, OAt (fun w O => At w O s)) {w : World} {O : Nat → Prop} {s : S} {B g : Nat} {x : SS} {o i b : Value} (h : On At w O s B g x o i b (.iface T v)) (hB : B ≤ w.heap.size) (h1 : 1 ≤ x.size) (hs : x.size ≤ 65536) (hok : x.fin = false → someOk D rok x.most 8192 s) :
    Calls Tryz.prog 205 #[.pointer (some ⟨g, 0, none⟩)] w fun en w' => en = .returned (.int .i64 (x.fill D s).2.1) ∧ ∃ i', On At w' O (x.fill D s).2.2 B g (x.fill D s).1 o i' b (.iface T v) ∧ Turned (fun k => O k ∨ k = g) w w' := by
  obtain ⟨c0, c1, c2, c3, c4, c5, c6, c7, c8, c9, c10, c11⟩ := h.way.cs
  generalize hq : x.fill D s = q
  obtain ⟨qx, qe, qs⟩ := q
  unfold SS.fill at hq
  rcases Bool.eq_false_or_eq_true x.fin with hf | hf
  · rw [if_pos hf] at hq
    obtain ⟨rfl, rfl, rfl⟩ : x = qx ∧ 111 = qe ∧ s = qs := by simpa using hq
    have HH := hide h
    rw [hf] at c8
    clear h hq hok c0 c1 c2 c3 c4 c5 c6 c7 c9 c10 c11 hf
    go_enter Tryz.func205, Tryz.ntmps205
    go_wp2
    go_ret
    exact ⟨rfl, _, HH.out, Turned.refl _ _⟩
  rw [if_neg (by simp [hf])] at hq
  have hok := hok hf
  rw [hf] at c8
  have g5 := h.way.soft 5
  have g8 := h.way.soft 8
  have hmost : 1 ≤ x.most ∧ x.most ≤ 65536 := by
    unfold SS.most
    split <;> omega
  have HSm := hide (some_any R x.most h.raw hmost.1 (by omega) hok)
  obtain ⟨m, hm⟩ : ∃ m, m = x.most := ⟨_, rfl⟩
  rw [← hm] at HSm hq hmost
  have HH := hide h
  have HHol := hide h.ol
  generalize someV D m 8192 s = X at *
  obtain ⟨L, e, s2⟩ := X
  simp only at HSm hq
  have HQ := hide hq
  clear h hok hq
  have HFin : Hid (∀ (u : Value) (w1 : World), w1.ownsRow w.heap.size 5 1 u L.length (L.map bv) → At w1 O s2 → Turned O w w1 → On At w1 O s2 B g x o i b (.iface T v) ∧ Sl w1 u L ∧ ∀ k, u.ownBlock = some k → B ≤ k ∧ ¬ O k ∧ k ≠ g ∧ k < w1.heap.size) := hide (fun u w1 a1 a2 a3 => by
    have hz := a3.size
    refine ⟨⟨HH.out.way.turned a3 HH.out.og, (HH.out.ls.turned a3 fun k e _ => e.2.1).mono fun k e => ⟨e.1, e.2.1, e.2.2.1, by have := e.2.2.2; omega⟩, a2, HH.out.og, HH.out.gB, fun j e => Nat.lt_of_lt_of_le (HHol.out j e) hz⟩, Sl.own a1, fun k e => ?_⟩
    have hk := a1.lt k e
    exact ⟨by omega, fun e' => by have := HHol.out k e'; omega, fun e' => by have := HH.out.way.lt; omega, hk.2⟩)
  clear g5 g8 c0 c1 c4 c5 c6 c7 c9 c10
  have hm2 : x.most = if x.mode = 1 then 1 else x.size.toNat := rfl
  by_cases hmd : x.mode = 1
  · rw [if_pos hmd] at hm2
    rw [← hm] at hm2
    subst hm2
    rw [hmd] at c2
    clear hm
    by_cases he : e = 0
    case neg =>
      have hq := HQ.out
      rw [if_pos he] at hq
      obtain ⟨rfl, rfl, rfl⟩ : x.mark e = qx ∧ e = qe ∧ s2 = qs := by simpa using hq
      have he2 : (e != 0) = true := by simp [he]
      clear hq HQ
      go_enter Tryz.func205, Tryz.ntmps205
      go_wp2_with fail
      refine HSm.out.mono ?_
      rintro _ w1 ⟨u, rfl, a1, a2, a3⟩
      obtain ⟨ua, uc, rfl⟩ := owns_slice a1
      obtain ⟨q1, q2, q3⟩ := HFin.out _ w1 a1 a2 a3
      have HOn1 := hide q1
      have HT1 := hide (a3.mono fun k e => (.inl e : O k ∨ k = g))
      clear q1 q2 q3 a1 a2 a3
      go_wp2_with fail
      refine (marked_any _ g e _ _ _ _ _ HOn1.out.way).mono ?_
      rintro _ w3 ⟨rfl, hW3, hT3⟩
      have HOn3 := hide (On.at hT HOn1.out hW3 hT3 HOn1.out.ls.mark)
      have HT3 := hide (HT1.out.trans hT3 (fun _ _ e => .inr e))
      clear hW3 hT3
      go_wp2
      go_ret
      exact ⟨rfl, _, HOn3.out, HT3.out⟩
    subst he
    by_cases hl : L.length = 0
    · have hq := HQ.out
      rw [if_neg (by simp), if_pos hl] at hq
      obtain ⟨rfl, rfl, rfl⟩ : { x with fin := true } = qx ∧ 111 = qe ∧ s2 = qs := by simpa using hq
      rw [hl] at HSm
      clear hq HQ
      go_enter Tryz.func205, Tryz.ntmps205
      go_wp2_with fail
      refine HSm.out.mono ?_
      rintro _ w1 ⟨u, rfl, a1, a2, a3⟩
      obtain ⟨ua, uc, rfl⟩ := owns_slice a1
      obtain ⟨q1, q2, q3⟩ := HFin.out _ w1 (by rw [hl]; exact a1) a2 a3
      have HOn1 := hide q1
      have HT1 := hide (a3.mono fun k e => (.inl e : O k ∨ k = g))
      clear q1 q2 q3 a1 a2 a3
      have d8 := HOn1.out.way.cs.2.2.2.2.2.2.2.2.1
      have g8 := HOn1.out.way.soft 8
      have HWy := hide (HOn1.out.way.set (x' := { x with fin := true }) (o' := o) (i' := i) (b' := b) 8 (.bool true) rfl)
      have HOn2 := hide (On.at hT HOn1.out HWy.out ((Turned.refl (fun k => k = g) w1).set (.inl rfl)) (HOn1.out.ls.kin rfl rfl rfl))
      go_wp2
      go_ret
      exact ⟨rfl, _, HOn2.out, HT1.out.set (.inl (.inr rfl))⟩
    · have hq := HQ.out
      rw [if_neg (by simp), if_neg hl] at hq
      obtain ⟨rfl, rfl, rfl⟩ : { x with inn := L } = qx ∧ 0 = qe ∧ s2 = qs := by simpa using hq
      have hl2 : ((L.length : Int) == 0) = false := by simp only [beq_eq_false_iff_ne]; omega
      have hl3 : ¬ L = [] := fun e => hl (by rw [e]; rfl)
      clear hq HQ
      go_enter Tryz.func205, Tryz.ntmps205
      go_wp2_with fail
      refine HSm.out.mono ?_
      rintro _ w1 ⟨u, rfl, a1, a2, a3⟩
      obtain ⟨ua, uc, rfl⟩ := owns_slice a1
      obtain ⟨q1, q2, q3⟩ := HFin.out _ w1 a1 a2 a3
      have HOn1 := hide q1
      have HT1 := hide (a3.mono fun k e => (.inl e : O k ∨ k = g))
      have HQ2 := hide (And.intro q2 q3)
      clear q1 q2 q3 a1 a2 a3
      have d5 := HOn1.out.way.cs.2.2.2.2.2.1
      have g5 := HOn1.out.way.soft 5
      have HWy := hide (HOn1.out.way.set (x' := { x with inn := L }) (o' := o) (i' := .slice ua L.length uc) (b' := b) 5 (.slice ua L.length uc) rfl)
      have HOn2 := hide (On.at hT HOn1.out HWy.out ((Turned.refl (fun k => k = g) w1).set (.inl rfl)) ⟨HOn1.out.ls.so, HQ2.out.1, HOn1.out.ls.sb, HOn1.out.ls.po, HQ2.out.2, HOn1.out.ls.pb⟩)
      go_wp2
      go_ret
      exact ⟨rfl, _, HOn2.out, HT1.out.set (.inl (.inr rfl))⟩
  · rw [if_neg hmd] at hm2
    rw [← hm] at hm2
    have hsz : x.size = (m : Int) := by omega
    rw [hsz] at c3
    have hmb : (x.mode == 1) = false := by simp [hmd]
    clear hm2
    clear hm
    by_cases he : e = 0
    case neg =>
      have hq := HQ.out
      rw [if_pos he] at hq
      obtain ⟨rfl, rfl, rfl⟩ : x.mark e = qx ∧ e = qe ∧ s2 = qs := by simpa using hq
      have he2 : (e != 0) = true := by simp [he]
      clear hq HQ
      go_enter Tryz.func205, Tryz.ntmps205
      go_wp2_with fail
      refine HSm.out.mono ?_
      rintro _ w1 ⟨u, rfl, a1, a2, a3⟩
      obtain ⟨ua, uc, rfl⟩ := owns_slice a1
      obtain ⟨q1, q2, q3⟩ := HFin.out _ w1 a1 a2 a3
      have HOn1 := hide q1
      have HT1 := hide (a3.mono fun k e => (.inl e : O k ∨ k = g))
      clear q1 q2 q3 a1 a2 a3
      go_wp2_with fail
      refine (marked_any _ g e _ _ _ _ _ HOn1.out.way).mono ?_
      rintro _ w3 ⟨rfl, hW3, hT3⟩
      have HOn3 := hide (On.at hT HOn1.out hW3 hT3 HOn1.out.ls.mark)
      have HT3 := hide (HT1.out.trans hT3 (fun _ _ e => .inr e))
      clear hW3 hT3
      go_wp2
      go_ret
      exact ⟨rfl, _, HOn3.out, HT3.out⟩
    subst he
    by_cases hl : L.length = 0
    · have hq := HQ.out
      rw [if_neg (by simp), if_pos hl] at hq
      obtain ⟨rfl, rfl, rfl⟩ : { x with fin := true } = qx ∧ 111 = qe ∧ s2 = qs := by simpa using hq
      rw [hl] at HSm
      clear hq HQ
      go_enter Tryz.func205, Tryz.ntmps205
      go_wp2_with fail
      refine HSm.out.mono ?_
      rintro _ w1 ⟨u, rfl, a1, a2, a3⟩
      obtain ⟨ua, uc, rfl⟩ := owns_slice a1
      obtain ⟨q1, q2, q3⟩ := HFin.out _ w1 (by rw [hl]; exact a1) a2 a3
      have HOn1 := hide q1
      have HT1 := hide (a3.mono fun k e => (.inl e : O k ∨ k = g))
      clear q1 q2 q3 a1 a2 a3
      have d8 := HOn1.out.way.cs.2.2.2.2.2.2.2.2.1
      have g8 := HOn1.out.way.soft 8
      have HWy := hide (HOn1.out.way.set (x' := { x with fin := true }) (o' := o) (i' := i) (b' := b) 8 (.bool true) rfl)
      have HOn2 := hide (On.at hT HOn1.out HWy.out ((Turned.refl (fun k => k = g) w1).set (.inl rfl)) (HOn1.out.ls.kin rfl rfl rfl))
      go_wp2
      go_ret
      exact ⟨rfl, _, HOn2.out, HT1.out.set (.inl (.inr rfl))⟩
    · have hq := HQ.out
      rw [if_neg (by simp), if_neg hl] at hq
      obtain ⟨rfl, rfl, rfl⟩ : { x with inn := L } = qx ∧ 0 = qe ∧ s2 = qs := by simpa using hq
      have hl2 : ((L.length : Int) == 0) = false := by simp only [beq_eq_false_iff_ne]; omega
      have hl3 : ¬ L = [] := fun e => hl (by rw [e]; rfl)
      clear hq HQ
      go_enter Tryz.func205, Tryz.ntmps205
      go_wp2_with fail
      refine HSm.out.mono ?_
      rintro _ w1 ⟨u, rfl, a1, a2, a3⟩
      obtain ⟨ua, uc, rfl⟩ := owns_slice a1
      obtain ⟨q1, q2, q3⟩ := HFin.out _ w1 a1 a2 a3
      have HOn1 := hide q1
      have HT1 := hide (a3.mono fun k e => (.inl e : O k ∨ k = g))
      have HQ2 := hide (And.intro q2 q3)
      clear q1 q2 q3 a1 a2 a3
      have d5 := HOn1.out.way.cs.2.2.2.2.2.1
      have g5 := HOn1.out.way.soft 5
      have HWy := hide (HOn1.out.way.set (x' := { x with inn := L }) (o' := o) (i' := .slice ua L.length uc) (b' := b) 5 (.slice ua L.length uc) rfl)
      have HOn2 := hide (On.at hT HOn1.out HWy.out ((Turned.refl (fun k => k = g) w1).set (.inl rfl)) ⟨HOn1.out.ls.so, HQ2.out.1, HOn1.out.ls.sb, HOn1.out.ls.po, HQ2.out.2, HOn1.out.ls.pb⟩)
      go_wp2
      go_ret
      exact ⟨rfl, _, HOn2.out, HT1.out.set (.inl (.inr rfl))⟩
end Go.Proofs.YtdmkjbdlidadiaaGreat

/- Streams: get, flush, close on a way. -/
namespace Go.Proofs.YtdmkjbdlidadiaaGreat
open Go.RowKit

theorem get1_fill {S : Type} (D : RawD S) (x : SS) (s : S) (hb : x.back.length = 0) (hi : x.inn.length = 0) : x.get1 D s = if (x.fill D s).2.1 = 0 then ({ (x.fill D s).1 with inn := (x.fill D s).1.inn.drop 1 }, (x.fill D s).1.inn.getD 0 0, 0, (x.fill D s).2.2) else ((x.fill D s).1, 0, (x.fill D s).2.1, (x.fill D s).2.2) := by
  unfold SS.get1 SS.fill
  rw [if_neg (by omega), if_neg (by omega)]
  by_cases h1 : x.fin = true
  · rw [if_pos h1, if_pos h1]; rfl
  rw [if_neg h1, if_neg h1]
  by_cases h2 : (someV D x.most 8192 s).2.1 ≠ 0
  · rw [if_pos h2, if_pos h2, if_neg h2]
  rw [if_neg h2, if_neg h2]
  by_cases h3 : (someV D x.most 8192 s).1.length = 0
  · rw [if_pos h3, if_pos h3]; rfl
  rw [if_neg h3, if_neg h3]; rfl
theorem fill_inn {S : Type} (D : RawD S) (x : SS) (s : S) (h : (x.fill D s).2.1 = 0) : 0 < (x.fill D s).1.inn.length := by
  unfold SS.fill at h ⊢
  split at h
  · simp at h
  rename_i h1
  rw [if_neg h1]
  split at h
  · contradiction
  rename_i h2
  rw [if_neg h2]
  split at h
  · simp at h
  rename_i h3
  rw [if_neg h3]
  exact Nat.pos_of_ne_zero h3
set_option maxRecDepth 100000 in
set_option maxHeartbeats 4000000 in
theorem get_any {S : Type} {D : RawD S} {T : TypeId} {v : Value} {fr fw : FuncId} {rok wok : S → Prop} {At : World → (Nat → Prop) → S → Prop} (R : RawM D T v fr fw rok wok At) (hT : ∀ s, OAt (fun w O => At w O s)) {w : World} {O : Nat → Prop} {s : S} {B g : Nat} {x : SS} {o i b : Value} (h : On At w O s B g x o i b (.iface T v)) (hB : B ≤ w.heap.size) (h1 : 1 ≤ x.size) (hs : x.size ≤ 65536) (hbl : x.back.length ≤ 8) (hil : x.inn.length ≤ 65536) (hok : someOk D rok x.most 8192 s) :
    Calls Tryz.prog 119 #[.pointer (some ⟨g, 0, none⟩)] w fun en w' => en = .returned (.tuple #[.int .u8 ((x.get1 D s).2.1.toNat : Int), .int .i64 (x.get1 D s).2.2.1]) ∧ ∃ i' b', On At w' O (x.get1 D s).2.2.2 B g (x.get1 D s).1 o i' b' (.iface T v) ∧ Turned (fun k => O k ∨ k = g) w w' := by
  obtain ⟨ia, ic, rfl, hib, hic⟩ := h.ls.si
  obtain ⟨ba, bc, rfl, hbb, hbc⟩ := h.ls.sb
  obtain ⟨c0, c1, c2, c3, c4, c5, c6, c7, c8, c9, c10, c11⟩ := h.way.cs
  have g5 := h.way.soft 5
  have g6 := h.way.soft 6
  have HH := hide h
  clear c0 c1 c2 c3 c4 c7 c8 c9 c10 c11
  generalize hq : x.get1 D s = q
  obtain ⟨qx, qc, qe, qs⟩ := q
  by_cases hb : 0 < x.back.length
  · unfold SS.get1 at hq
    rw [if_pos hb] at hq
    obtain ⟨rfl, rfl, rfl, rfl⟩ : { x with back := x.back.dropLast } = qx ∧ x.back.getD (x.back.length - 1) 0 = qc ∧ 0 = qe ∧ s = qs := by simpa using hq
    obtain ⟨-, bb, off, rfl, -, hcell⟩ := bys_block hbb hb
    have hcl := hcell (x.back.length - 1) (by omega)
    have hcut : Sl w (.slice (some ⟨bb, off, none⟩) (x.back.length - 1) bc) x.back.dropLast := by
      have := bys_cut hbb 0 (x.back.length - 1) bc (by omega)
      rw [List.drop_zero, ← List.dropLast_eq_take] at this
      exact ⟨_, _, by rw [List.length_dropLast], this, by rw [List.length_dropLast]; omega⟩
    obtain ⟨n, hn⟩ : ∃ n, n = x.back.length - 1 := ⟨_, rfl⟩
    rw [← hn] at hcl hcut ⊢
    have hbn : x.back.length = n + 1 := by omega
    rw [hbn] at c6 hbc
    have HWy := hide (h.way.set (x' := { x with back := x.back.dropLast }) (o' := o) (i' := .slice ia x.inn.length ic) (b' := .slice (some ⟨bb, off, none⟩) n bc) 6 (.slice (some ⟨bb, off, none⟩) n bc) rfl)
    have HOn2 := hide (On.at hT h HWy.out ((Turned.refl (fun k => k = g) w).set (.inl rfl)) ⟨h.ls.so, h.ls.si, hcut, h.ls.po, h.ls.pi, fun k e => h.ls.pb k e⟩)
    have k0 : (0 : Int) ≤ (n : Int) := by omega
    have k8 : (n : Int) ≤ 8 := by omega
    have k1 : (n : Int) < (n : Int) + 1 := by omega
    have k2 : (n : Int) ≤ (bc : Int) := by omega
    have k3 : ((n : Int) + 1) - 1 = (n : Int) := by omega
    have HNn := hide hbn
    clear hq hcut hbb hib h hcell hbn hn hok
    go_enter Tryz.func119, Tryz.ntmps119
    go_wp2
    go_ret2
    exact ⟨rfl, _, _, HOn2.out, (Turned.refl _ _).set (.inl (.inr rfl))⟩
  have hb0 : x.back.length = 0 := by omega
  rw [hb0] at c6
  by_cases hi : 0 < x.inn.length
  · unfold SS.get1 at hq
    rw [if_neg hb, if_pos hi] at hq
    obtain ⟨rfl, rfl, rfl, rfl⟩ : { x with inn := x.inn.drop 1 } = qx ∧ x.inn.getD 0 0 = qc ∧ 0 = qe ∧ s = qs := by simpa using hq
    obtain ⟨-, bb, off, rfl, -, hcell⟩ := bys_block hib hi
    have hcl := hcell 0 hi
    rw [Nat.add_zero] at hcl
    generalize x.inn.getD 0 0 = ch at hcl ⊢
    have HBh := hide (behind_any x.inn (.slice (some ⟨bb, off, none⟩) x.inn.length ic) 1 w h.ls.si hi)
    have k0 : (0 : Int) < (x.inn.length : Int) := by omega
    have k1 : ((x.inn.length : Int) == 0) = false := by simp only [beq_eq_false_iff_ne]; omega
    have k2 : ¬ x.inn = [] := fun e => by rw [e] at hi; simp at hi
    obtain ⟨L, hL⟩ : ∃ L, L = x.inn.drop 1 := ⟨_, rfl⟩
    rw [← hL] at HBh ⊢
    clear hq hib h hcell hL hok
    go_enter Tryz.func119, Tryz.ntmps119
    go_wp2_with fail
    refine HBh.out.mono ?_
    rintro _ _ ⟨u, rfl, hu, hub, -, rfl⟩
    have hu2 := hu
    obtain ⟨ua, uc, rfl, -⟩ := hu2
    have HWy := hide (HH.out.way.set (x' := { x with inn := L }) (o' := o) (i' := .slice ua L.length uc) (b' := .slice ba x.back.length bc) 5 (.slice ua L.length uc) rfl)
    have HOn2 := hide (On.at hT HH.out HWy.out ((Turned.refl (fun k => k = g) w).set (.inl rfl)) ⟨HH.out.ls.so, hu, HH.out.ls.sb, HH.out.ls.po, fun k e => HH.out.ls.pi k (hub k e), HH.out.ls.pb⟩)
    clear hu hub
    go_wp2
    go_ret2
    exact ⟨rfl, _, _, HOn2.out, (Turned.refl _ _).set (.inl (.inr rfl))⟩
  have hi0 : x.inn.length = 0 := by omega
  rw [get1_fill D x s hb0 hi0] at hq
  have HF := hide (fill_any R hT h hB h1 hs (fun _ => hok))
  have HIn := hide (fill_inn D x s)
  rw [hi0] at c5
  generalize x.fill D s = X at *
  obtain ⟨fx, fe, fs⟩ := X
  simp only at hq HF HIn
  have HQ := hide hq
  clear hq h hib hbb hok
  by_cases he : fe = 0
  · subst he
    have hq := HQ.out
    rw [if_pos rfl] at hq
    obtain ⟨rfl, rfl, rfl, rfl⟩ : { fx with inn := fx.inn.drop 1 } = qx ∧ fx.inn.getD 0 0 = qc ∧ 0 = qe ∧ fs = qs := by simpa using hq
    have hpos := HIn.out rfl
    obtain ⟨ch, hch⟩ : ∃ ch, ch = fx.inn.getD 0 0 := ⟨_, rfl⟩
    rw [← hch]
    have HCh := hide hch
    clear hch
    obtain ⟨L, hL⟩ : ∃ L, L = fx.inn.drop 1 := ⟨_, rfl⟩
    rw [← hL]
    have HL := hide hL
    clear hq HQ hL
    go_enter Tryz.func119, Tryz.ntmps119
    go_wp2_with fail
    refine HF.out.mono ?_
    rintro _ w1 ⟨rfl, i', hO1, hT1⟩
    obtain ⟨ja, jc, rfl, hjb, hjc⟩ := hO1.ls.si
    obtain ⟨-, bb, off, rfl, -, hcell⟩ := bys_block hjb hpos
    have hcl := hcell 0 hpos
    rw [Nat.add_zero, ← HCh.out] at hcl
    have hbh := behind_any fx.inn (.slice (some ⟨bb, off, none⟩) fx.inn.length jc) 1 w1 hO1.ls.si hpos
    rw [← HL.out] at hbh
    have HBh := hide hbh
    have d5 := hO1.way.cs.2.2.2.2.2.1
    have e5 := hO1.way.soft 5
    have HO1 := hide hO1
    have HT1 := hide hT1
    have k0 : (0 : Int) < (fx.inn.length : Int) := by omega
    clear hO1 hT1 hjb hcell hbh c5 c6 g5 g6
    go_wp2_with fail
    refine HBh.out.mono ?_
    rintro _ _ ⟨u, rfl, hu, hub, -, rfl⟩
    have hu2 := hu
    obtain ⟨ua, uc, rfl, -⟩ := hu2
    have HWy := hide (HO1.out.way.set (x' := { fx with inn := L }) (o' := o) (i' := .slice ua L.length uc) (b' := .slice ba x.back.length bc) 5 (.slice ua L.length uc) rfl)
    have HOn2 := hide (On.at hT HO1.out HWy.out ((Turned.refl (fun k => k = g) w1).set (.inl rfl)) ⟨HO1.out.ls.so, hu, HO1.out.ls.sb, HO1.out.ls.po, fun k e => HO1.out.ls.pi k (hub k e), HO1.out.ls.pb⟩)
    clear hu hub
    go_wp2
    go_ret2
    exact ⟨rfl, _, _, HOn2.out, HT1.out.set (.inl (.inr rfl))⟩
  · have hq := HQ.out
    rw [if_neg he] at hq
    obtain ⟨rfl, rfl, rfl, rfl⟩ : fx = qx ∧ 0 = qc ∧ fe = qe ∧ fs = qs := by simpa using hq
    have he2 : (fe != 0) = true := by simp [he]
    clear hq HQ
    go_enter Tryz.func119, Tryz.ntmps119
    go_wp2_with fail
    refine HF.out.mono ?_
    rintro _ w1 ⟨rfl, i', hO1, hT1⟩
    have HO1 := hide hO1
    have HT1 := hide hT1
    clear hO1 hT1 c5 c6 g5 g6
    go_wp2
    go_ret2
    exact ⟨rfl, _, _, HO1.out, HT1.out⟩
set_option maxRecDepth 100000 in
set_option maxHeartbeats 4000000 in
theorem flush_any {S : Type} {D : RawD S} {T : TypeId} {v : Value} {fr fw : FuncId} {rok wok : S → Prop} {At : World → (Nat → Prop) → S → Prop} (R : RawM D T v fr fw rok wok At) (hT : ∀ s, OAt (fun w O => At w O s)) {w : World} {O : Nat → Prop} {s : S} {B g : Nat} {x : SS} {o i b : Value} (h : On At w O s B g x o i b (.iface T v)) (hl : x.out.length ≤ 65536) (hok : putOk D wok x.out (putF x.out) s 0 0) :
    Calls Tryz.prog 121 #[.pointer (some ⟨g, 0, none⟩)] w fun en w' => en = .returned (.int .i64 (x.deliver D s).2.1) ∧ WStep At w O B g (.iface T v) (if (x.deliver D s).2.1 = 0 then { (x.deliver D s).1 with dir := 0 } else (x.deliver D s).1) (x.deliver D s).2.2 w' := by
  have HD := hide (deliver_any R hT h hl hok)
  have hgB := h.gB
  generalize x.deliver D s = X at *
  obtain ⟨dx, de, ds⟩ := X
  simp only at HD ⊢
  clear h hok
  by_cases he : de = 0
  · subst he
    rw [if_pos rfl]
    go_enter Tryz.func121, Tryz.ntmps121
    go_wp2_with fail
    refine HD.out.mono ?_
    rintro _ w1 ⟨rfl, o', O', hO4, -, hO5, hT4⟩
    have HO4 := hide hO4
    have HO5 := hide hO5
    have HT4 := hide (hT4.mono fun k e => (e.imp id (fun e => by omega) : O k ∨ B ≤ k))
    have d7 := hO4.way.cs.2.2.2.2.2.2.2.1
    have e7 := hO4.way.soft 7
    have HWy := hide (hO4.way.set (x' := { dx with dir := 0 }) (o' := o') (i' := i) (b' := b) 7 (.int .i64 0) rfl)
    have HOn2 := hide (On.at hT hO4 HWy.out ((Turned.refl (fun k => k = g) w1).set (.inl rfl)) (hO4.ls.kin rfl rfl rfl))
    clear hO4 hO5 hT4
    go_wp2
    go_ret
    exact ⟨rfl, _, _, _, _, HOn2.out, HO5.out, HT4.out.set (.inl (.inr hgB))⟩
  · rw [if_neg he]
    have he2 : (de == 0) = false := by simp [he]
    go_enter Tryz.func121, Tryz.ntmps121
    go_wp2_with fail
    refine HD.out.mono ?_
    rintro _ w1 ⟨rfl, o', O', hO4, -, hO5, hT4⟩
    have HO4 := hide hO4
    have HO5 := hide hO5
    have HT4 := hide (hT4.mono fun k e => (e.imp id (fun e => by omega) : O k ∨ B ≤ k))
    clear hO4 hO5 hT4
    go_wp2
    go_ret
    exact ⟨rfl, _, _, _, _, HO4.out, HO5.out, HT4.out⟩
end Go.Proofs.YtdmkjbdlidadiaaGreat

/- Streams: a way is begun. -/
namespace Go.Proofs.YtdmkjbdlidadiaaGreat
open Go.RowKit

theorem Way.new (w : World) (x : SS) (o i b r : Value) : Way (w.alloc (Obj.cells #[.bool x.rd, .bool x.wt, .int .i64 x.mode, .int .i64 x.size, o, i, b, .int .i64 x.dir, .bool x.fin, .bool x.bad, .bool x.closed, r] 202)) w.heap.size x o i b r := heap_alloc_new w _
set_option maxRecDepth 100000 in
set_option maxHeartbeats 4000000 in
theorem onWay_any (x : SS) (o i b : Value) (P : Nat → Prop) (r : Value) (w : World) (h : SIn w P x o i b) (ho : x.out.length ≤ 140737488351232) (hi : x.inn.length ≤ 140737488351232) (hb : x.back.length ≤ 140737488351232) (hr : r = .nilIface ∨ ∃ T v, r = .iface T v) :
    Calls Tryz.prog 115 #[.agg #[.bool x.rd, .bool x.wt, .int .i64 x.mode, .int .i64 x.size, o, i, b, .int .i64 x.dir, .bool x.fin, .bool x.bad, .bool x.closed], r] w fun e w' => ∃ g o' i' b', e = .returned (.pointer (some ⟨g, 0, none⟩)) ∧ Way w' g x o' i' b' r ∧ w.heap.size ≤ g ∧ w'.ownsRow w.heap.size 5 1 o' x.out.length (x.out.map bv) ∧ w'.ownsRow w.heap.size 5 1 i' x.inn.length (x.inn.map bv) ∧ w'.ownsRow w.heap.size 5 1 b' x.back.length (x.back.map bv) ∧ (∀ k, o'.ownBlock = some k ∨ i'.ownBlock = some k ∨ b'.ownBlock = some k → k ≠ g) ∧ Below w.heap.size w w' := by
  have HC := hide (fun (W : World) (hW : Below w.heap.size w W) => scopied_any x o i b P W (h.below hW) ho hi hb)
  obtain ⟨oa, oc, rfl, -⟩ := h.so
  obtain ⟨ia, ic, rfl, -⟩ := h.si
  obtain ⟨ba, bc, rfl, -⟩ := h.sb
  clear h
  rcases hr with rfl | ⟨T, v, rfl⟩
  · skip
    go_enter Tryz.func115, Tryz.ntmps115
    go_wp2_with fail
    refine (HC.out _ (recv_below w _)).mono ?_
    rintro _ w1 ⟨o', i', b', rfl, q1, q2, q3, hB1⟩
    obtain ⟨a1, k1, rfl⟩ := owns_slice q1
    obtain ⟨a2, k2, rfl⟩ := owns_slice q2
    obtain ⟨a3, k3, rfl⟩ := owns_slice q3
    have HQ := hide (And.intro q1 (And.intro q2 q3))
    have hz := (recv_below w (Obj.cells #[.bool x.rd, .bool x.wt, .int .i64 x.mode, .int .i64 x.size, .slice oa x.out.length oc, .slice ia x.inn.length ic, .slice ba x.back.length bc, .int .i64 x.dir, .bool x.fin, .bool x.bad, .bool x.closed] 58)).size
    have HB1 := hide ((recv_below w _).trans (hB1.mono hz))
    have HZ := hide hz
    clear q1 q2 q3 hB1 HC hz
    go_wp2
    go_ret
    have hBn := recv_below w1 (Obj.cells #[.bool x.rd, .bool x.wt, .int .i64 x.mode, .int .i64 x.size, .slice a1 x.out.length k1, .slice a2 x.inn.length k2, .slice a3 x.back.length k3, .int .i64 x.dir, .bool x.fin, .bool x.bad, .bool x.closed, .nilIface] 202)
    refine ⟨w1.heap.size, _, _, _, rfl, Way.new w1 x _ _ _ _, HB1.out.size, owns_mono (owns_below HQ.out.1 hBn) HZ.out, owns_mono (owns_below HQ.out.2.1 hBn) HZ.out, owns_mono (owns_below HQ.out.2.2 hBn) HZ.out, fun k e e' => ?_, HB1.out.trans (hBn.mono HB1.out.size)⟩
    rcases e with e | e | e
    · have := (HQ.out.1.lt k e).2; omega
    · have := (HQ.out.2.1.lt k e).2; omega
    · have := (HQ.out.2.2.lt k e).2; omega
  · skip
    go_enter Tryz.func115, Tryz.ntmps115
    go_wp2_with fail
    refine (HC.out _ (recv_below w _)).mono ?_
    rintro _ w1 ⟨o', i', b', rfl, q1, q2, q3, hB1⟩
    obtain ⟨a1, k1, rfl⟩ := owns_slice q1
    obtain ⟨a2, k2, rfl⟩ := owns_slice q2
    obtain ⟨a3, k3, rfl⟩ := owns_slice q3
    have HQ := hide (And.intro q1 (And.intro q2 q3))
    have hz := (recv_below w (Obj.cells #[.bool x.rd, .bool x.wt, .int .i64 x.mode, .int .i64 x.size, .slice oa x.out.length oc, .slice ia x.inn.length ic, .slice ba x.back.length bc, .int .i64 x.dir, .bool x.fin, .bool x.bad, .bool x.closed] 58)).size
    have HB1 := hide ((recv_below w _).trans (hB1.mono hz))
    have HZ := hide hz
    clear q1 q2 q3 hB1 HC hz
    go_wp2
    go_ret
    have hBn := recv_below w1 (Obj.cells #[.bool x.rd, .bool x.wt, .int .i64 x.mode, .int .i64 x.size, .slice a1 x.out.length k1, .slice a2 x.inn.length k2, .slice a3 x.back.length k3, .int .i64 x.dir, .bool x.fin, .bool x.bad, .bool x.closed, .iface T v] 202)
    refine ⟨w1.heap.size, _, _, _, rfl, Way.new w1 x _ _ _ _, HB1.out.size, owns_mono (owns_below HQ.out.1 hBn) HZ.out, owns_mono (owns_below HQ.out.2.1 hBn) HZ.out, owns_mono (owns_below HQ.out.2.2 hBn) HZ.out, fun k e e' => ?_, HB1.out.trans (hBn.mono HB1.out.size)⟩
    rcases e with e | e | e
    · have := (HQ.out.1.lt k e).2; omega
    · have := (HQ.out.2.1.lt k e).2; omega
    · have := (HQ.out.2.2.lt k e).2; omega
end Go.Proofs.YtdmkjbdlidadiaaGreat

/- Streams: Put, Get, Flush, Close over any Raw. -/
namespace Go.Proofs.YtdmkjbdlidadiaaGreat
open Go.RowKit

def SOut {S : Type} (At : World → (Nat → Prop) → S → Prop) (w : World) (O : Nat → Prop) (x : SS) (s : S) (o i b : Value) (w' : World) : Prop :=
  ∃ O', SIn w' (fun k => w.heap.size ≤ k ∧ ¬ O' k ∧ k < w'.heap.size) x o i b ∧ At w' O' s ∧ (∀ j, O' j → j < w'.heap.size) ∧ (∀ k, O' k → O k ∨ w.heap.size ≤ k) ∧ Turned O w w'
theorem On.out {S : Type} {At : World → (Nat → Prop) → S → Prop} {w w1 w2 : World} {O O' : Nat → Prop} {s : S} {g : Nat} {x : SS} {o i b r : Value} (h : On At w2 O' s w.heap.size g x o i b r) (hB : Below w.heap.size w w1) (hO : ∀ k, O' k → O k ∨ w1.heap.size ≤ k) (hT : Turned (fun k => O k ∨ w.heap.size ≤ k) w1 w2) : SOut At w O x s o i b w2 := by
  have hz := hB.size
  exact ⟨O', h.ls.mono fun k e => ⟨e.1, e.2.1, e.2.2.2⟩, h.raw, h.ol, fun k e => (hO k e).imp id (fun e => by omega), (Turned.of_below (S := O) hB).trans hT (fun k hk e => e.resolve_right (by omega))⟩
theorem On.begin {S : Type} {At : World → (Nat → Prop) → S → Prop} (hT : ∀ s, OAt (fun w O => At w O s)) {w w1 : World} {O : Nat → Prop} {s : S} {g : Nat} {x : SS} {o i b r : Value} (hA : At w O s) (hO : ∀ j, O j → j < w.heap.size) (hW : Way w1 g x o i b r) (hg : w.heap.size ≤ g) (h1 : w1.ownsRow w.heap.size 5 1 o x.out.length (x.out.map bv)) (h2 : w1.ownsRow w.heap.size 5 1 i x.inn.length (x.inn.map bv)) (h3 : w1.ownsRow w.heap.size 5 1 b x.back.length (x.back.map bv)) (hn : ∀ k, o.ownBlock = some k ∨ i.ownBlock = some k ∨ b.ownBlock = some k → k ≠ g) (hB : Below w.heap.size w w1) : On At w1 O s w.heap.size g x o i b r := by
  have hz := hB.size
  exact ⟨hW, ⟨Sl.own h1, Sl.own h2, Sl.own h3, fun k e => ⟨(h1.lt k e).1, fun e' => by have := hO k e'; have := (h1.lt k e).1; omega, hn k (.inl e), (h1.lt k e).2⟩, fun k e => ⟨(h2.lt k e).1, fun e' => by have := hO k e'; have := (h2.lt k e).1; omega, hn k (.inr (.inl e)), (h2.lt k e).2⟩, fun k e => ⟨(h3.lt k e).1, fun e' => by have := hO k e'; have := (h3.lt k e).1; omega, hn k (.inr (.inr e)), (h3.lt k e).2⟩⟩, (hT s).keep hA (fun j _ hj => hB.block j hj) hz, fun e => by have := hO g e; omega, hg, fun j e => Nat.lt_of_lt_of_le (hO j e) hz⟩
theorem SOut.fin {S : Type} {At : World → (Nat → Prop) → S → Prop} (hT : ∀ s, OAt (fun w O => At w O s)) {w w0 w3 w4 : World} {O : Nat → Prop} {x : SS} {s : S} {o i b : Value} {g : Nat} (h : SOut At w0 O x s o i b w3) (hB : Below w.heap.size w w0) (hg : g < w0.heap.size) (hgw : w.heap.size ≤ g) (hO : ∀ j, O j → j < w.heap.size) (hT4 : Turned (fun k => k = g) w3 w4) : SOut At w O x s o i b w4 := by
  obtain ⟨O', h1, h2, h3, h4, h5⟩ := h
  have hz := hB.size
  have hz4 := hT4.size
  have hg' : ¬ O' g := fun e => by
    rcases h4 g e with e | e
    · have := hO g e; omega
    · omega
  exact ⟨O', (h1.turned hT4 fun k e _ e' => by have := e.1; omega).mono fun k e => ⟨by have := e.1; omega, e.2.1, by have := e.2.2; omega⟩, (hT s).keep h2 (fun j e hj => hT4.block j hj (fun e' => hg' (e' ▸ e))) hz4, fun j e => Nat.lt_of_lt_of_le (h3 j e) hz4, fun k e => (h4 k e).imp id (fun e => by omega), ((Turned.of_below (S := O) hB).trans h5 (fun _ _ e => e)).trans hT4 (fun k hk e => by omega)⟩
theorem res_two {fn : Func} {p u : Tmp} {w : World} (h : fn.results = #[.cell p 58, .tmp u]) (tmps : Array Value) (g : Nat) (hp : tmps.getD p undef = .pointer (some ⟨g, 0, none⟩)) (x : SS) (o i b : Value) (hg : StAt w g x o i b) : (results fn tmps).run Tryz.prog w = .ok (.tuple #[.agg #[.bool x.rd, .bool x.wt, .int .i64 x.mode, .int .i64 x.size, o, i, b, .int .i64 x.dir, .bool x.fin, .bool x.bad, .bool x.closed], tmps.getD u undef]) w := by
  have hp' : tmps[p]?.getD undef = .pointer (some ⟨g, 0, none⟩) := by simpa using hp
  simp [results, h, hp', asAddr, run_loadVar_row w g _ 58 _ _ _ hg Tryz.underlying58 rfl (by kernel_rfl)]
theorem res_three {fn : Func} {p u t : Tmp} {w : World} (h : fn.results = #[.cell p 58, .tmp u, .tmp t]) (tmps : Array Value) (g : Nat) (hp : tmps.getD p undef = .pointer (some ⟨g, 0, none⟩)) (x : SS) (o i b : Value) (hg : StAt w g x o i b) : (results fn tmps).run Tryz.prog w = .ok (.tuple #[.agg #[.bool x.rd, .bool x.wt, .int .i64 x.mode, .int .i64 x.size, o, i, b, .int .i64 x.dir, .bool x.fin, .bool x.bad, .bool x.closed], tmps.getD u undef, tmps.getD t undef]) w := by
  have hp' : tmps[p]?.getD undef = .pointer (some ⟨g, 0, none⟩) := by simpa using hp
  simp [results, h, hp', asAddr, run_loadVar_row w g _ 58 _ _ _ hg Tryz.underlying58 rfl (by kernel_rfl)]
set_option maxRecDepth 100000 in
set_option maxHeartbeats 4000000 in
theorem sGetR_any {S : Type} {D : RawD S} {T : TypeId} {v : Value} {fr fw : FuncId} {rok wok : S → Prop} {At : World → (Nat → Prop) → S → Prop} (R : RawM D T v fr fw rok wok At) (hT : ∀ s, OAt (fun w O => At w O s)) {w : World} {O P : Nat → Prop} {s : S} {x : SS} {o i b : Value} (h : SIn w P x o i b) (hA : At w O s) (hO : ∀ j, O j → j < w.heap.size) (hso : ∀ m, 1 ≤ m → m ≤ 65536 → someOk D rok m 8192 s) (ho : x.out.length ≤ 140737488351232) (hi : x.inn.length ≤ 140737488351232) (hb : x.back.length ≤ 140737488351232) :
    Calls Tryz.prog 29 #[.agg #[.bool x.rd, .bool x.wt, .int .i64 x.mode, .int .i64 x.size, o, i, b, .int .i64 x.dir, .bool x.fin, .bool x.bad, .bool x.closed], .iface T v] w fun e w' => ∃ o' i' b', e = .returned (.tuple #[.agg #[.bool (x.get D s).1.rd, .bool (x.get D s).1.wt, .int .i64 (x.get D s).1.mode, .int .i64 (x.get D s).1.size, o', i', b', .int .i64 (x.get D s).1.dir, .bool (x.get D s).1.fin, .bool (x.get D s).1.bad, .bool (x.get D s).1.closed], .int .u8 ((x.get D s).2.1.toNat : Int), .int .i64 (x.get D s).2.2.1]) ∧ SOut At w O (x.get D s).1 (x.get D s).2.2.2 o' i' b' w' := by
  have HWx := hide (fun (W : World) (hW : Below w.heap.size w W) => onWay_any x o i b P (.iface T v) W (h.below hW) ho hi hb (.inr ⟨T, v, rfl⟩))
  obtain ⟨oa, oc, rfl, -⟩ := h.so
  obtain ⟨ia, ic, rfl, -⟩ := h.si
  obtain ⟨ba, bc, rfl, -⟩ := h.sb
  clear h
  generalize hq : x.get D s = q
  obtain ⟨qx, qc, qe, qs⟩ := q
  unfold SS.get at hq
  go_enter Tryz.func29, Tryz.ntmps29
  go_wp2_with fail
  have HB0 := hide ((recv_below w (Obj.cells #[.bool x.rd, .bool x.wt, .int .i64 x.mode, .int .i64 x.size, .slice oa x.out.length oc, .slice ia x.inn.length ic, .slice ba x.back.length bc, .int .i64 x.dir, .bool x.fin, .bool x.bad, .bool x.closed] 58)).trans ((recv_below (w.alloc (Obj.cells #[.bool x.rd, .bool x.wt, .int .i64 x.mode, .int .i64 x.size, .slice oa x.out.length oc, .slice ia x.inn.length ic, .slice ba x.back.length bc, .int .i64 x.dir, .bool x.fin, .bool x.bad, .bool x.closed] 58)) (Obj.cells #[.bool false, .bool false, .int .i64 0, .int .i64 0, .slice none 0 0, .slice none 0 0, .slice none 0 0, .int .i64 0, .bool false, .bool false, .bool false] 58)).mono (recv_below w (Obj.cells #[.bool x.rd, .bool x.wt, .int .i64 x.mode, .int .i64 x.size, .slice oa x.out.length oc, .slice ia x.inn.length ic, .slice ba x.back.length bc, .int .i64 x.dir, .bool x.fin, .bool x.bad, .bool x.closed] 58)).size))
  have HZ0 : Hid (((w.alloc (Obj.cells #[.bool x.rd, .bool x.wt, .int .i64 x.mode, .int .i64 x.size, .slice oa x.out.length oc, .slice ia x.inn.length ic, .slice ba x.back.length bc, .int .i64 x.dir, .bool x.fin, .bool x.bad, .bool x.closed] 58)).alloc (Obj.cells #[.bool false, .bool false, .int .i64 0, .int .i64 0, .slice none 0 0, .slice none 0 0, .slice none 0 0, .int .i64 0, .bool false, .bool false, .bool false] 58)).heap[w.heap.size + 1]? = some (Obj.cells #[.bool false, .bool false, .int .i64 0, .int .i64 0, .slice none 0 0, .slice none 0 0, .slice none 0 0, .int .i64 0, .bool false, .bool false, .bool false] 58)) := hide (by have := heap_alloc_new (w.alloc (Obj.cells #[.bool x.rd, .bool x.wt, .int .i64 x.mode, .int .i64 x.size, .slice oa x.out.length oc, .slice ia x.inn.length ic, .slice ba x.back.length bc, .int .i64 x.dir, .bool x.fin, .bool x.bad, .bool x.closed] 58)) (Obj.cells #[.bool false, .bool false, .int .i64 0, .int .i64 0, .slice none 0 0, .slice none 0 0, .slice none 0 0, .int .i64 0, .bool false, .bool false, .bool false] 58); rw [show (w.alloc (Obj.cells #[.bool x.rd, .bool x.wt, .int .i64 x.mode, .int .i64 x.size, .slice oa x.out.length oc, .slice ia x.inn.length ic, .slice ba x.back.length bc, .int .i64 x.dir, .bool x.fin, .bool x.bad, .bool x.closed] 58)).heap.size = w.heap.size + 1 from Array.size_push ..] at this; exact this)
  generalize (w.alloc (Obj.cells #[.bool x.rd, .bool x.wt, .int .i64 x.mode, .int .i64 x.size, .slice oa x.out.length oc, .slice ia x.inn.length ic, .slice ba x.back.length bc, .int .i64 x.dir, .bool x.fin, .bool x.bad, .bool x.closed] 58)).alloc (Obj.cells #[.bool false, .bool false, .int .i64 0, .int .i64 0, .slice none 0 0, .slice none 0 0, .slice none 0 0, .int .i64 0, .bool false, .bool false, .bool false] 58) = w0 at *
  have hz0 : w.heap.size + 1 < w0.heap.size := (Array.getElem?_eq_some_iff.1 HZ0.out).1
  refine (HWx.out _ HB0.out).mono ?_
  rintro _ w1 ⟨g, o1, i1, b1, rfl, y1, y2, y3, y4, y5, y6, hB1⟩
  obtain ⟨a1, k1, rfl⟩ := owns_slice y3
  obtain ⟨a2, k2, rfl⟩ := owns_slice y4
  obtain ⟨a3, k3, rfl⟩ := owns_slice y5
  have HOn1 := hide (On.begin hT ((hT s).keep hA (fun j _ hj => HB0.out.block j hj) HB0.out.size) (fun j e => Nat.lt_of_lt_of_le (hO j e) HB0.out.size) y1 y2 y3 y4 y5 y6 hB1)
  have HTu := hide (turnToReading_any x g a1 a2 a3 k1 k2 k3 T v w1 y1 hi hb)
  have HOw := hide y3
  have HB1 := hide hB1
  have hz1 := hB1.size
  clear y1 y2 y3 y4 y5 y6 hB1 HWx
  go_wp2_with fail
  refine HTu.out.mono ?_
  rintro _ w2 ⟨rfl, hW2, hT2⟩
  by_cases hn : x.noRead = 0
  · rw [if_pos hn] at hq hW2
    rw [hn]
    have hOn2 := On.at hT HOn1.out hW2 hT2 (HOn1.out.ls.kin rfl rfl rfl)
    obtain ⟨m1, m2, m3, m4, m5, m6, m7, m8⟩ := may_buf (refuse_may (noRead_may hn).1).1
    have hz2 := hT2.size
    have hmost : 1 ≤ ({ x with dir := 1 } : SS).most ∧ ({ x with dir := 1 } : SS).most ≤ 65536 := by
      unfold SS.most
      simp only
      split <;> omega
    have HP := hide (get_any R hT hOn2 (by omega) m3 m4 m8 m7 (hso _ hmost.1 hmost.2))
    rw [hq] at HP
    have HT2 := hide (hT2.mono fun k e => (.inr (by have := HOn1.out.gB; omega) : O k ∨ w0.heap.size ≤ k))
    clear hOn2 hW2 hT2 hq m1 m2 m3 m4 m5 m6 m7 m8 hn hmost
    go_wp2_with fail
    refine HP.out.mono ?_
    rintro _ w3 ⟨rfl, i3, b3, hOn3, hT3⟩
    obtain ⟨a4, k4, e4, -⟩ := hOn3.ls.so
    obtain ⟨a5, k5, rfl, -⟩ := hOn3.ls.si
    obtain ⟨a6, k6, rfl, -⟩ := hOn3.ls.sb
    rw [e4] at hOn3
    obtain ⟨c0, c1, c2, c3, c4, c5, c6, c7, c8, c9, c10, c11⟩ := hOn3.way.cs
    have hT13 := HT2.out.trans (hT3.mono fun k e => (e.imp id (fun e => by have := HOn1.out.gB; omega) : O k ∨ w0.heap.size ≤ k)) (fun _ _ e => e)
    have HF := hide (On.out hOn3 HB1.out (fun k e => .inl e) hT13)
    have HZ3 := hide ((hT13.block (w.heap.size + 1) (by omega) (fun e => by rcases e with e | e; exact absurd (hO _ e) (by omega); omega)).trans ((HB1.out.block (w.heap.size + 1) hz0).trans HZ0.out))
    clear hOn3 hT3 hT13 e4
    have z0 := cell_of_row w3 (w.heap.size + 1) 0 _ _ _ HZ3.out
    have z1 := cell_of_row w3 (w.heap.size + 1) 1 _ _ _ HZ3.out
    have z2 := cell_of_row w3 (w.heap.size + 1) 2 _ _ _ HZ3.out
    have z3 := cell_of_row w3 (w.heap.size + 1) 3 _ _ _ HZ3.out
    have z4 := cell_of_row w3 (w.heap.size + 1) 4 _ _ _ HZ3.out
    have z5 := cell_of_row w3 (w.heap.size + 1) 5 _ _ _ HZ3.out
    have z6 := cell_of_row w3 (w.heap.size + 1) 6 _ _ _ HZ3.out
    have z7 := cell_of_row w3 (w.heap.size + 1) 7 _ _ _ HZ3.out
    have z8 := cell_of_row w3 (w.heap.size + 1) 8 _ _ _ HZ3.out
    have z9 := cell_of_row w3 (w.heap.size + 1) 9 _ _ _ HZ3.out
    have z10 := cell_of_row w3 (w.heap.size + 1) 10 _ _ _ HZ3.out
    have u0 := frozen_of_row w3 (w.heap.size + 1) 0 _ _ HZ3.out
    have u1 := frozen_of_row w3 (w.heap.size + 1) 1 _ _ HZ3.out
    have u2 := frozen_of_row w3 (w.heap.size + 1) 2 _ _ HZ3.out
    have u3 := frozen_of_row w3 (w.heap.size + 1) 3 _ _ HZ3.out
    have u4 := frozen_of_row w3 (w.heap.size + 1) 4 _ _ HZ3.out
    have u5 := frozen_of_row w3 (w.heap.size + 1) 5 _ _ HZ3.out
    have u6 := frozen_of_row w3 (w.heap.size + 1) 6 _ _ HZ3.out
    have u7 := frozen_of_row w3 (w.heap.size + 1) 7 _ _ HZ3.out
    have u8 := frozen_of_row w3 (w.heap.size + 1) 8 _ _ HZ3.out
    have u9 := frozen_of_row w3 (w.heap.size + 1) 9 _ _ HZ3.out
    have u10 := frozen_of_row w3 (w.heap.size + 1) 10 _ _ HZ3.out
    simp at z0 z1 z2 z3 z4 z5 z6 z7 z8 z9 z10
    go_wp2
    obtain ⟨e1, e2⟩ := st_fill w3 (w.heap.size + 1) qx (.slice a4 qx.out.length k4) (.slice a5 qx.inn.length k5) (.slice a6 qx.back.length k6) HZ3.out
    refine bodyPost_ret (res_three rfl _ (w.heap.size + 1) rfl qx _ _ _ e1) rfl ?_
    exact ⟨_, _, _, rfl, SOut.fin hT HF.out HB0.out hz0 (Nat.le_succ _) hO e2⟩
  · rw [if_neg hn] at hq hW2
    obtain ⟨rfl, rfl, rfl, rfl⟩ : x = qx ∧ 0 = qc ∧ x.noRead = qe ∧ s = qs := by simpa using hq
    have hT12 := hT2.mono fun k e => (.inr (by have := HOn1.out.gB; omega) : O k ∨ w0.heap.size ≤ k)
    have HF := hide (On.out (O := O) (On.at hT HOn1.out hW2 hT2 HOn1.out.ls) HB1.out (fun _ e => .inl e) hT12)
    obtain ⟨c0, c1, c2, c3, c4, c5, c6, c7, c8, c9, c10, c11⟩ := hW2.cs
    have HZ3 := hide ((hT12.block (w.heap.size + 1) (by omega) (fun e => by rcases e with e | e; exact absurd (hO _ e) (by omega); omega)).trans ((HB1.out.block (w.heap.size + 1) hz0).trans HZ0.out))
    obtain ⟨nw, hnw⟩ : ∃ nw, nw = x.noRead := ⟨_, rfl⟩
    rw [← hnw] at hn ⊢
    have HNw := hide hnw
    have hn2 : (nw != 0) = true := by simp [hn]
    clear hq hW2 hT2 hT12 hnw
    have z0 := cell_of_row w2 (w.heap.size + 1) 0 _ _ _ HZ3.out
    have z1 := cell_of_row w2 (w.heap.size + 1) 1 _ _ _ HZ3.out
    have z2 := cell_of_row w2 (w.heap.size + 1) 2 _ _ _ HZ3.out
    have z3 := cell_of_row w2 (w.heap.size + 1) 3 _ _ _ HZ3.out
    have z4 := cell_of_row w2 (w.heap.size + 1) 4 _ _ _ HZ3.out
    have z5 := cell_of_row w2 (w.heap.size + 1) 5 _ _ _ HZ3.out
    have z6 := cell_of_row w2 (w.heap.size + 1) 6 _ _ _ HZ3.out
    have z7 := cell_of_row w2 (w.heap.size + 1) 7 _ _ _ HZ3.out
    have z8 := cell_of_row w2 (w.heap.size + 1) 8 _ _ _ HZ3.out
    have z9 := cell_of_row w2 (w.heap.size + 1) 9 _ _ _ HZ3.out
    have z10 := cell_of_row w2 (w.heap.size + 1) 10 _ _ _ HZ3.out
    have u0 := frozen_of_row w2 (w.heap.size + 1) 0 _ _ HZ3.out
    have u1 := frozen_of_row w2 (w.heap.size + 1) 1 _ _ HZ3.out
    have u2 := frozen_of_row w2 (w.heap.size + 1) 2 _ _ HZ3.out
    have u3 := frozen_of_row w2 (w.heap.size + 1) 3 _ _ HZ3.out
    have u4 := frozen_of_row w2 (w.heap.size + 1) 4 _ _ HZ3.out
    have u5 := frozen_of_row w2 (w.heap.size + 1) 5 _ _ HZ3.out
    have u6 := frozen_of_row w2 (w.heap.size + 1) 6 _ _ HZ3.out
    have u7 := frozen_of_row w2 (w.heap.size + 1) 7 _ _ HZ3.out
    have u8 := frozen_of_row w2 (w.heap.size + 1) 8 _ _ HZ3.out
    have u9 := frozen_of_row w2 (w.heap.size + 1) 9 _ _ HZ3.out
    have u10 := frozen_of_row w2 (w.heap.size + 1) 10 _ _ HZ3.out
    simp at z0 z1 z2 z3 z4 z5 z6 z7 z8 z9 z10
    go_wp2
    obtain ⟨e1, e2⟩ := st_fill w2 (w.heap.size + 1) x (.slice a1 x.out.length k1) (.slice a2 x.inn.length k2) (.slice a3 x.back.length k3) HZ3.out
    refine bodyPost_ret (res_three rfl _ (w.heap.size + 1) rfl x _ _ _ e1) rfl ?_
    exact ⟨_, _, _, by rw [← HNw.out]; rfl, SOut.fin hT HF.out HB0.out hz0 (Nat.le_succ _) hO e2⟩
theorem sGet_any {S : Type} {D : RawD S} {T : TypeId} {v : Value} {fr fw : FuncId} {rok wok : S → Prop} {At : World → (Nat → Prop) → S → Prop} (R : RawM D T v fr fw rok wok At) (hT : ∀ s, OAt (fun w O => At w O s)) {G : Nat → S → Prop} (hG : Bears D rok wok G) {w : World} {O P : Nat → Prop} {s : S} {x : SS} {o i b : Value} (h : SIn w P x o i b) (hA : At w O s) (hO : ∀ j, O j → j < w.heap.size) (hg : G 2 s) (ho : x.out.length ≤ 140737488351232) (hi : x.inn.length ≤ 140737488351232) (hb : x.back.length ≤ 140737488351232) :
    Calls Tryz.prog 29 #[.agg #[.bool x.rd, .bool x.wt, .int .i64 x.mode, .int .i64 x.size, o, i, b, .int .i64 x.dir, .bool x.fin, .bool x.bad, .bool x.closed], .iface T v] w fun e w' => ∃ o' i' b', e = .returned (.tuple #[.agg #[.bool (x.get D s).1.rd, .bool (x.get D s).1.wt, .int .i64 (x.get D s).1.mode, .int .i64 (x.get D s).1.size, o', i', b', .int .i64 (x.get D s).1.dir, .bool (x.get D s).1.fin, .bool (x.get D s).1.bad, .bool (x.get D s).1.closed], .int .u8 ((x.get D s).2.1.toNat : Int), .int .i64 (x.get D s).2.2.1]) ∧ SOut At w O (x.get D s).1 (x.get D s).2.2.2 o' i' b' w' :=
  sGetR_any R hT h hA hO (fun m h1 h2 => (hG.some 1 s m hg h1 h2).1) ho hi hb
set_option maxRecDepth 100000 in
set_option maxHeartbeats 4000000 in
theorem sFlush_any {S : Type} {D : RawD S} {T : TypeId} {v : Value} {fr fw : FuncId} {rok wok : S → Prop} {At : World → (Nat → Prop) → S → Prop} (R : RawM D T v fr fw rok wok At) (hT : ∀ s, OAt (fun w O => At w O s)) {G : Nat → S → Prop} (hG : Bears D rok wok G) {w : World} {O P : Nat → Prop} {s : S} {x : SS} {o i b : Value} (h : SIn w P x o i b) (hA : At w O s) (hO : ∀ j, O j → j < w.heap.size) (hg : G 2 s) (ho : x.out.length ≤ 140737488351232) (hi : x.inn.length ≤ 140737488351232) (hb : x.back.length ≤ 140737488351232) :
    Calls Tryz.prog 30 #[.agg #[.bool x.rd, .bool x.wt, .int .i64 x.mode, .int .i64 x.size, o, i, b, .int .i64 x.dir, .bool x.fin, .bool x.bad, .bool x.closed], .iface T v] w fun e w' => ∃ o' i' b', e = .returned (.tuple #[.agg #[.bool (x.flush D s).1.rd, .bool (x.flush D s).1.wt, .int .i64 (x.flush D s).1.mode, .int .i64 (x.flush D s).1.size, o', i', b', .int .i64 (x.flush D s).1.dir, .bool (x.flush D s).1.fin, .bool (x.flush D s).1.bad, .bool (x.flush D s).1.closed], .int .i64 (x.flush D s).2.1]) ∧ SOut At w O (x.flush D s).1 (x.flush D s).2.2 o' i' b' w' := by
  have HWx := hide (fun (W : World) (hW : Below w.heap.size w W) => onWay_any x o i b P (.iface T v) W (h.below hW) ho hi hb (.inr ⟨T, v, rfl⟩))
  obtain ⟨oa, oc, rfl, -⟩ := h.so
  obtain ⟨ia, ic, rfl, -⟩ := h.si
  obtain ⟨ba, bc, rfl, -⟩ := h.sb
  clear h
  generalize hq : x.flush D s = q
  obtain ⟨qx, qe, qs⟩ := q
  unfold SS.flush at hq
  go_enter Tryz.func30, Tryz.ntmps30
  go_wp2_with fail
  have HB0 := hide ((recv_below w (Obj.cells #[.bool x.rd, .bool x.wt, .int .i64 x.mode, .int .i64 x.size, .slice oa x.out.length oc, .slice ia x.inn.length ic, .slice ba x.back.length bc, .int .i64 x.dir, .bool x.fin, .bool x.bad, .bool x.closed] 58)).trans ((recv_below (w.alloc (Obj.cells #[.bool x.rd, .bool x.wt, .int .i64 x.mode, .int .i64 x.size, .slice oa x.out.length oc, .slice ia x.inn.length ic, .slice ba x.back.length bc, .int .i64 x.dir, .bool x.fin, .bool x.bad, .bool x.closed] 58)) (Obj.cells #[.bool false, .bool false, .int .i64 0, .int .i64 0, .slice none 0 0, .slice none 0 0, .slice none 0 0, .int .i64 0, .bool false, .bool false, .bool false] 58)).mono (recv_below w (Obj.cells #[.bool x.rd, .bool x.wt, .int .i64 x.mode, .int .i64 x.size, .slice oa x.out.length oc, .slice ia x.inn.length ic, .slice ba x.back.length bc, .int .i64 x.dir, .bool x.fin, .bool x.bad, .bool x.closed] 58)).size))
  have HZ0 : Hid (((w.alloc (Obj.cells #[.bool x.rd, .bool x.wt, .int .i64 x.mode, .int .i64 x.size, .slice oa x.out.length oc, .slice ia x.inn.length ic, .slice ba x.back.length bc, .int .i64 x.dir, .bool x.fin, .bool x.bad, .bool x.closed] 58)).alloc (Obj.cells #[.bool false, .bool false, .int .i64 0, .int .i64 0, .slice none 0 0, .slice none 0 0, .slice none 0 0, .int .i64 0, .bool false, .bool false, .bool false] 58)).heap[w.heap.size + 1]? = some (Obj.cells #[.bool false, .bool false, .int .i64 0, .int .i64 0, .slice none 0 0, .slice none 0 0, .slice none 0 0, .int .i64 0, .bool false, .bool false, .bool false] 58)) := hide (by have := heap_alloc_new (w.alloc (Obj.cells #[.bool x.rd, .bool x.wt, .int .i64 x.mode, .int .i64 x.size, .slice oa x.out.length oc, .slice ia x.inn.length ic, .slice ba x.back.length bc, .int .i64 x.dir, .bool x.fin, .bool x.bad, .bool x.closed] 58)) (Obj.cells #[.bool false, .bool false, .int .i64 0, .int .i64 0, .slice none 0 0, .slice none 0 0, .slice none 0 0, .int .i64 0, .bool false, .bool false, .bool false] 58); rw [show (w.alloc (Obj.cells #[.bool x.rd, .bool x.wt, .int .i64 x.mode, .int .i64 x.size, .slice oa x.out.length oc, .slice ia x.inn.length ic, .slice ba x.back.length bc, .int .i64 x.dir, .bool x.fin, .bool x.bad, .bool x.closed] 58)).heap.size = w.heap.size + 1 from Array.size_push ..] at this; exact this)
  generalize (w.alloc (Obj.cells #[.bool x.rd, .bool x.wt, .int .i64 x.mode, .int .i64 x.size, .slice oa x.out.length oc, .slice ia x.inn.length ic, .slice ba x.back.length bc, .int .i64 x.dir, .bool x.fin, .bool x.bad, .bool x.closed] 58)).alloc (Obj.cells #[.bool false, .bool false, .int .i64 0, .int .i64 0, .slice none 0 0, .slice none 0 0, .slice none 0 0, .int .i64 0, .bool false, .bool false, .bool false] 58) = w0 at *
  have hz0 : w.heap.size + 1 < w0.heap.size := (Array.getElem?_eq_some_iff.1 HZ0.out).1
  refine (HWx.out _ HB0.out).mono ?_
  rintro _ w1 ⟨g, o1, i1, b1, rfl, y1, y2, y3, y4, y5, y6, hB1⟩
  obtain ⟨a1, k1, rfl⟩ := owns_slice y3
  obtain ⟨a2, k2, rfl⟩ := owns_slice y4
  obtain ⟨a3, k3, rfl⟩ := owns_slice y5
  have HOn1 := hide (On.begin hT ((hT s).keep hA (fun j _ hj => HB0.out.block j hj) HB0.out.size) (fun j e => Nat.lt_of_lt_of_le (hO j e) HB0.out.size) y1 y2 y3 y4 y5 y6 hB1)
  have HTu := hide (wrefusal_any x g a1 a2 a3 k1 k2 k3 T v w1 y1 hi hb)
  have HOw := hide y3
  have HB1 := hide hB1
  have hz1 := hB1.size
  clear y1 y2 y3 y4 y5 y6 hB1 HWx
  go_wp2_with fail
  refine HTu.out.mono ?_
  rintro _ w2 ⟨rfl, hB2⟩
  have hz2 := hB2.size
  have hOn2 := On.below hT HOn1.out hB2
  have HT2 := hide (Turned.of_below (S := fun k => O k ∨ w0.heap.size ≤ k) hB2)
  by_cases hn : x.refuse true = 0
  case neg =>
    rw [if_pos hn] at hq
    obtain ⟨rfl, rfl, rfl⟩ : x = qx ∧ x.refuse true = qe ∧ s = qs := by simpa using hq
    have HF := hide (On.out (O := O) hOn2 HB1.out (fun _ e => .inl e) HT2.out)
    obtain ⟨c0, c1, c2, c3, c4, c5, c6, c7, c8, c9, c10, c11⟩ := hOn2.way.cs
    have HZ3 := hide ((HT2.out.block (w.heap.size + 1) (by omega) (fun e => by rcases e with e | e; exact absurd (hO _ e) (by omega); omega)).trans ((HB1.out.block (w.heap.size + 1) hz0).trans HZ0.out))
    obtain ⟨nw, hnw⟩ : ∃ nw, nw = x.refuse true := ⟨_, rfl⟩
    rw [← hnw] at hn ⊢
    have HNw := hide hnw
    have hn2 : (nw == 0) = false := by simp [hn]
    clear hq hOn2 hB2 hnw
    have z0 := cell_of_row w2 (w.heap.size + 1) 0 _ _ _ HZ3.out
    have z1 := cell_of_row w2 (w.heap.size + 1) 1 _ _ _ HZ3.out
    have z2 := cell_of_row w2 (w.heap.size + 1) 2 _ _ _ HZ3.out
    have z3 := cell_of_row w2 (w.heap.size + 1) 3 _ _ _ HZ3.out
    have z4 := cell_of_row w2 (w.heap.size + 1) 4 _ _ _ HZ3.out
    have z5 := cell_of_row w2 (w.heap.size + 1) 5 _ _ _ HZ3.out
    have z6 := cell_of_row w2 (w.heap.size + 1) 6 _ _ _ HZ3.out
    have z7 := cell_of_row w2 (w.heap.size + 1) 7 _ _ _ HZ3.out
    have z8 := cell_of_row w2 (w.heap.size + 1) 8 _ _ _ HZ3.out
    have z9 := cell_of_row w2 (w.heap.size + 1) 9 _ _ _ HZ3.out
    have z10 := cell_of_row w2 (w.heap.size + 1) 10 _ _ _ HZ3.out
    have u0 := frozen_of_row w2 (w.heap.size + 1) 0 _ _ HZ3.out
    have u1 := frozen_of_row w2 (w.heap.size + 1) 1 _ _ HZ3.out
    have u2 := frozen_of_row w2 (w.heap.size + 1) 2 _ _ HZ3.out
    have u3 := frozen_of_row w2 (w.heap.size + 1) 3 _ _ HZ3.out
    have u4 := frozen_of_row w2 (w.heap.size + 1) 4 _ _ HZ3.out
    have u5 := frozen_of_row w2 (w.heap.size + 1) 5 _ _ HZ3.out
    have u6 := frozen_of_row w2 (w.heap.size + 1) 6 _ _ HZ3.out
    have u7 := frozen_of_row w2 (w.heap.size + 1) 7 _ _ HZ3.out
    have u8 := frozen_of_row w2 (w.heap.size + 1) 8 _ _ HZ3.out
    have u9 := frozen_of_row w2 (w.heap.size + 1) 9 _ _ HZ3.out
    have u10 := frozen_of_row w2 (w.heap.size + 1) 10 _ _ HZ3.out
    simp at z0 z1 z2 z3 z4 z5 z6 z7 z8 z9 z10
    go_wp2
    obtain ⟨e1, e2⟩ := st_fill w2 (w.heap.size + 1) x (.slice a1 x.out.length k1) (.slice a2 x.inn.length k2) (.slice a3 x.back.length k3) HZ3.out
    refine bodyPost_ret (res_two rfl _ (w.heap.size + 1) rfl x _ _ _ e1) rfl ?_
    exact ⟨_, _, _, by rw [← HNw.out]; rfl, SOut.fin hT HF.out HB0.out hz0 (Nat.le_succ _) hO e2⟩
  rw [if_neg (by simp [hn])] at hq
  rw [hn]
  obtain ⟨m1, m2, m3, m4, m5, m6, m7, m8⟩ := may_buf (refuse_may hn).1
  have hput := (hG.put 1 s x.out hg (by omega)).1
  by_cases hd : x.dir = 2
  · rw [if_pos hd] at hq
    have HP := hide (flush_any R hT hOn2 (by omega) hput)
    have HOn2 := hide hOn2
    have hd7 := hOn2.way.cs.2.2.2.2.2.2.2.1
    rw [hd] at hd7
    have hv : (if (x.deliver D s).2.1 = 0 then { (x.deliver D s).1 with dir := 0 } else (x.deliver D s).1) = qx ∧ (x.deliver D s).2.1 = qe ∧ (x.deliver D s).2.2 = qs := by
      by_cases hde : (x.deliver D s).2.1 = 0
      · rw [if_pos hde] at hq ⊢
        simp only [Prod.mk.injEq] at hq
        exact ⟨hq.1, by rw [hde]; exact hq.2.1, hq.2.2⟩
      · rw [if_neg hde] at hq ⊢
        rw [hq]
        exact ⟨rfl, rfl, rfl⟩
    rw [hv.1, hv.2.1, hv.2.2] at HP
    clear hOn2 hB2 hq m1 m2 m3 m4 m5 m6 m7 m8 hput hn hv hd
    go_wp2_with fail
    refine HP.out.mono ?_
    rintro _ w3 ⟨rfl, o3, i3, b3, O3, hOn3, hO3, hT3⟩
    obtain ⟨a4, k4, rfl, -⟩ := hOn3.ls.so
    obtain ⟨a5, k5, rfl, -⟩ := hOn3.ls.si
    obtain ⟨a6, k6, rfl, -⟩ := hOn3.ls.sb
    obtain ⟨c0, c1, c2, c3, c4, c5, c6, c7, c8, c9, c10, c11⟩ := hOn3.way.cs
    have hT13 := HT2.out.trans hT3 (fun _ _ e => e)
    have HF := hide (On.out hOn3 HB1.out (fun k e => (hO3 k e).imp id (fun e => by omega)) hT13)
    have HZ3 := hide ((hT13.block (w.heap.size + 1) (by omega) (fun e => by rcases e with e | e; exact absurd (hO _ e) (by omega); omega)).trans ((HB1.out.block (w.heap.size + 1) hz0).trans HZ0.out))
    clear hOn3 hO3 hT3 hT13
    have z0 := cell_of_row w3 (w.heap.size + 1) 0 _ _ _ HZ3.out
    have z1 := cell_of_row w3 (w.heap.size + 1) 1 _ _ _ HZ3.out
    have z2 := cell_of_row w3 (w.heap.size + 1) 2 _ _ _ HZ3.out
    have z3 := cell_of_row w3 (w.heap.size + 1) 3 _ _ _ HZ3.out
    have z4 := cell_of_row w3 (w.heap.size + 1) 4 _ _ _ HZ3.out
    have z5 := cell_of_row w3 (w.heap.size + 1) 5 _ _ _ HZ3.out
    have z6 := cell_of_row w3 (w.heap.size + 1) 6 _ _ _ HZ3.out
    have z7 := cell_of_row w3 (w.heap.size + 1) 7 _ _ _ HZ3.out
    have z8 := cell_of_row w3 (w.heap.size + 1) 8 _ _ _ HZ3.out
    have z9 := cell_of_row w3 (w.heap.size + 1) 9 _ _ _ HZ3.out
    have z10 := cell_of_row w3 (w.heap.size + 1) 10 _ _ _ HZ3.out
    have u0 := frozen_of_row w3 (w.heap.size + 1) 0 _ _ HZ3.out
    have u1 := frozen_of_row w3 (w.heap.size + 1) 1 _ _ HZ3.out
    have u2 := frozen_of_row w3 (w.heap.size + 1) 2 _ _ HZ3.out
    have u3 := frozen_of_row w3 (w.heap.size + 1) 3 _ _ HZ3.out
    have u4 := frozen_of_row w3 (w.heap.size + 1) 4 _ _ HZ3.out
    have u5 := frozen_of_row w3 (w.heap.size + 1) 5 _ _ HZ3.out
    have u6 := frozen_of_row w3 (w.heap.size + 1) 6 _ _ HZ3.out
    have u7 := frozen_of_row w3 (w.heap.size + 1) 7 _ _ HZ3.out
    have u8 := frozen_of_row w3 (w.heap.size + 1) 8 _ _ HZ3.out
    have u9 := frozen_of_row w3 (w.heap.size + 1) 9 _ _ HZ3.out
    have u10 := frozen_of_row w3 (w.heap.size + 1) 10 _ _ HZ3.out
    simp at z0 z1 z2 z3 z4 z5 z6 z7 z8 z9 z10
    go_wp2
    obtain ⟨e1, e2⟩ := st_fill w3 (w.heap.size + 1) qx (.slice a4 qx.out.length k4) (.slice a5 qx.inn.length k5) (.slice a6 qx.back.length k6) HZ3.out
    refine bodyPost_ret (res_two rfl _ (w.heap.size + 1) rfl qx _ _ _ e1) rfl ?_
    exact ⟨_, _, _, rfl, SOut.fin hT HF.out HB0.out hz0 (Nat.le_succ _) hO e2⟩
  · rw [if_neg hd] at hq
    obtain ⟨rfl, rfl, rfl⟩ : x = qx ∧ 0 = qe ∧ s = qs := by simpa using hq
    have HF := hide (On.out (O := O) hOn2 HB1.out (fun _ e => .inl e) HT2.out)
    obtain ⟨c0, c1, c2, c3, c4, c5, c6, c7, c8, c9, c10, c11⟩ := hOn2.way.cs
    have HZ3 := hide ((HT2.out.block (w.heap.size + 1) (by omega) (fun e => by rcases e with e | e; exact absurd (hO _ e) (by omega); omega)).trans ((HB1.out.block (w.heap.size + 1) hz0).trans HZ0.out))
    have hd2 : (x.dir == 2) = false := by simp [hd]
    clear hq hOn2 hB2 m1 m2 m3 m4 m5 m6 m7 m8 hput hn
    have z0 := cell_of_row w2 (w.heap.size + 1) 0 _ _ _ HZ3.out
    have z1 := cell_of_row w2 (w.heap.size + 1) 1 _ _ _ HZ3.out
    have z2 := cell_of_row w2 (w.heap.size + 1) 2 _ _ _ HZ3.out
    have z3 := cell_of_row w2 (w.heap.size + 1) 3 _ _ _ HZ3.out
    have z4 := cell_of_row w2 (w.heap.size + 1) 4 _ _ _ HZ3.out
    have z5 := cell_of_row w2 (w.heap.size + 1) 5 _ _ _ HZ3.out
    have z6 := cell_of_row w2 (w.heap.size + 1) 6 _ _ _ HZ3.out
    have z7 := cell_of_row w2 (w.heap.size + 1) 7 _ _ _ HZ3.out
    have z8 := cell_of_row w2 (w.heap.size + 1) 8 _ _ _ HZ3.out
    have z9 := cell_of_row w2 (w.heap.size + 1) 9 _ _ _ HZ3.out
    have z10 := cell_of_row w2 (w.heap.size + 1) 10 _ _ _ HZ3.out
    have u0 := frozen_of_row w2 (w.heap.size + 1) 0 _ _ HZ3.out
    have u1 := frozen_of_row w2 (w.heap.size + 1) 1 _ _ HZ3.out
    have u2 := frozen_of_row w2 (w.heap.size + 1) 2 _ _ HZ3.out
    have u3 := frozen_of_row w2 (w.heap.size + 1) 3 _ _ HZ3.out
    have u4 := frozen_of_row w2 (w.heap.size + 1) 4 _ _ HZ3.out
    have u5 := frozen_of_row w2 (w.heap.size + 1) 5 _ _ HZ3.out
    have u6 := frozen_of_row w2 (w.heap.size + 1) 6 _ _ HZ3.out
    have u7 := frozen_of_row w2 (w.heap.size + 1) 7 _ _ HZ3.out
    have u8 := frozen_of_row w2 (w.heap.size + 1) 8 _ _ HZ3.out
    have u9 := frozen_of_row w2 (w.heap.size + 1) 9 _ _ HZ3.out
    have u10 := frozen_of_row w2 (w.heap.size + 1) 10 _ _ HZ3.out
    simp at z0 z1 z2 z3 z4 z5 z6 z7 z8 z9 z10
    go_wp2
    obtain ⟨e1, e2⟩ := st_fill w2 (w.heap.size + 1) x (.slice a1 x.out.length k1) (.slice a2 x.inn.length k2) (.slice a3 x.back.length k3) HZ3.out
    refine bodyPost_ret (res_two rfl _ (w.heap.size + 1) rfl x _ _ _ e1) rfl ?_
    exact ⟨_, _, _, rfl, SOut.fin hT HF.out HB0.out hz0 (Nat.le_succ _) hO e2⟩
end Go.Proofs.YtdmkjbdlidadiaaGreat

/- Streams: get, flush, close on a way. -/
import Derived.Test.YtbffnamdpmjfnaaStI
namespace Go.Proofs.Ytbffnamdpmjfnaa
open Go.RowKit

theorem get1_fill {S : Type} (D : RawD S) (x : SS) (s : S) (hb : x.back.length = 0) (hi : x.inn.length = 0) : x.get1 D s = if (x.fill D s).2.1 = 0 then ({ (x.fill D s).1 with inn := (x.fill D s).1.inn.drop 1 }, (x.fill D s).1.inn.getD 0 0, 0, (x.fill D s).2.2) else ((x.fill D s).1, 0, (x.fill D s).2.1, (x.fill D s).2.2) := by
  unfold SS.get1 SS.fill
  rw [if_neg (by omega), if_neg (by omega)]
  by_cases h1 : x.fin = true
  · rw [if_pos h1, if_pos h1]; rfl
  rw [if_neg h1, if_neg h1]
  by_cases h2 : (someV D x.most 8192 s).2.1 ≠ 0
  · rw [if_pos h2, if_pos h2, if_neg h2]
  rw [if_neg h2, if_neg h2]
  by_cases h3 : (someV D x.most 8192 s).1.length = 0
  · rw [if_pos h3, if_pos h3]; rfl
  rw [if_neg h3, if_neg h3]; rfl
theorem fill_inn {S : Type} (D : RawD S) (x : SS) (s : S) (h : (x.fill D s).2.1 = 0) : 0 < (x.fill D s).1.inn.length := by
  unfold SS.fill at h ⊢
  split at h
  · simp at h
  rename_i h1
  rw [if_neg h1]
  split at h
  · contradiction
  rename_i h2
  rw [if_neg h2]
  split at h
  · simp at h
  rename_i h3
  rw [if_neg h3]
  exact Nat.pos_of_ne_zero h3
set_option maxRecDepth 100000 in
set_option maxHeartbeats 4000000 in
theorem get_any {S : Type} {D : RawD S} {T : TypeId} {v : Value} {fr fw : FuncId} {rok wok : S → Prop} {At : World → (Nat → Prop) → S → Prop} (R : RawM D T v fr fw rok wok At) (hT : ∀ s, OAt (fun w O => At w O s)) {w : World} {O : Nat → Prop} {s : S} {B g : Nat} {x : SS} {o i b : Value} (h : On At w O s B g x o i b (.iface T v)) (hB : B ≤ w.heap.size) (h1 : 1 ≤ x.size) (hs : x.size ≤ 65536) (hbl : x.back.length ≤ 8) (hil : x.inn.length ≤ 65536) (hok : someOk D rok x.most 8192 s) :
    Calls Try.prog 28 #[.pointer (some ⟨g, 0, none⟩)] w fun en w' => en = .returned (.tuple #[.int .u8 ((x.get1 D s).2.1.toNat : Int), .int .i64 (x.get1 D s).2.2.1]) ∧ ∃ i' b', On At w' O (x.get1 D s).2.2.2 B g (x.get1 D s).1 o i' b' (.iface T v) ∧ Turned (fun k => O k ∨ k = g) w w' := by
  obtain ⟨ia, ic, rfl, hib, hic⟩ := h.ls.si
  obtain ⟨ba, bc, rfl, hbb, hbc⟩ := h.ls.sb
  obtain ⟨c0, c1, c2, c3, c4, c5, c6, c7, c8, c9, c10, c11⟩ := h.way.cs
  have g5 := h.way.soft 5
  have g6 := h.way.soft 6
  have HH := hide h
  clear c0 c1 c2 c3 c4 c7 c8 c9 c10 c11
  generalize hq : x.get1 D s = q
  obtain ⟨qx, qc, qe, qs⟩ := q
  by_cases hb : 0 < x.back.length
  · unfold SS.get1 at hq
    rw [if_pos hb] at hq
    obtain ⟨rfl, rfl, rfl, rfl⟩ : { x with back := x.back.dropLast } = qx ∧ x.back.getD (x.back.length - 1) 0 = qc ∧ 0 = qe ∧ s = qs := by simpa using hq
    obtain ⟨-, bb, off, rfl, -, hcell⟩ := bys_block hbb hb
    have hcl := hcell (x.back.length - 1) (by omega)
    have hcut : Sl w (.slice (some ⟨bb, off, none⟩) (x.back.length - 1) bc) x.back.dropLast := by
      have := bys_cut hbb 0 (x.back.length - 1) bc (by omega)
      rw [List.drop_zero, ← List.dropLast_eq_take] at this
      exact ⟨_, _, by rw [List.length_dropLast], this, by rw [List.length_dropLast]; omega⟩
    obtain ⟨n, hn⟩ : ∃ n, n = x.back.length - 1 := ⟨_, rfl⟩
    rw [← hn] at hcl hcut ⊢
    have hbn : x.back.length = n + 1 := by omega
    rw [hbn] at c6 hbc
    have HWy := hide (h.way.set (x' := { x with back := x.back.dropLast }) (o' := o) (i' := .slice ia x.inn.length ic) (b' := .slice (some ⟨bb, off, none⟩) n bc) 6 (.slice (some ⟨bb, off, none⟩) n bc) rfl)
    have HOn2 := hide (On.at hT h HWy.out ((Turned.refl (fun k => k = g) w).set (.inl rfl)) ⟨h.ls.so, h.ls.si, hcut, h.ls.po, h.ls.pi, fun k e => h.ls.pb k e⟩)
    have k0 : (0 : Int) ≤ (n : Int) := by omega
    have k8 : (n : Int) ≤ 8 := by omega
    have k1 : (n : Int) < (n : Int) + 1 := by omega
    have k2 : (n : Int) ≤ (bc : Int) := by omega
    have k3 : ((n : Int) + 1) - 1 = (n : Int) := by omega
    have HNn := hide hbn
    clear hq hcut hbb hib h hcell hbn hn hok
    go_enter Try.func28, Try.ntmps28
    go_wp2
    go_ret2
    exact ⟨rfl, _, _, HOn2.out, (Turned.refl _ _).set (.inl (.inr rfl))⟩
  have hb0 : x.back.length = 0 := by omega
  rw [hb0] at c6
  by_cases hi : 0 < x.inn.length
  · unfold SS.get1 at hq
    rw [if_neg hb, if_pos hi] at hq
    obtain ⟨rfl, rfl, rfl, rfl⟩ : { x with inn := x.inn.drop 1 } = qx ∧ x.inn.getD 0 0 = qc ∧ 0 = qe ∧ s = qs := by simpa using hq
    obtain ⟨-, bb, off, rfl, -, hcell⟩ := bys_block hib hi
    have hcl := hcell 0 hi
    rw [Nat.add_zero] at hcl
    generalize x.inn.getD 0 0 = ch at hcl ⊢
    have HBh := hide (behind_any x.inn (.slice (some ⟨bb, off, none⟩) x.inn.length ic) 1 w h.ls.si hi)
    have k0 : (0 : Int) < (x.inn.length : Int) := by omega
    have k1 : ((x.inn.length : Int) == 0) = false := by simp only [beq_eq_false_iff_ne]; omega
    have k2 : ¬ x.inn = [] := fun e => by rw [e] at hi; simp at hi
    obtain ⟨L, hL⟩ : ∃ L, L = x.inn.drop 1 := ⟨_, rfl⟩
    rw [← hL] at HBh ⊢
    clear hq hib h hcell hL hok
    go_enter Try.func28, Try.ntmps28
    go_wp2_with fail
    refine HBh.out.mono ?_
    rintro _ _ ⟨u, rfl, hu, hub, -, rfl⟩
    have hu2 := hu
    obtain ⟨ua, uc, rfl, -⟩ := hu2
    have HWy := hide (HH.out.way.set (x' := { x with inn := L }) (o' := o) (i' := .slice ua L.length uc) (b' := .slice ba x.back.length bc) 5 (.slice ua L.length uc) rfl)
    have HOn2 := hide (On.at hT HH.out HWy.out ((Turned.refl (fun k => k = g) w).set (.inl rfl)) ⟨HH.out.ls.so, hu, HH.out.ls.sb, HH.out.ls.po, fun k e => HH.out.ls.pi k (hub k e), HH.out.ls.pb⟩)
    clear hu hub
    go_wp2
    go_ret2
    exact ⟨rfl, _, _, HOn2.out, (Turned.refl _ _).set (.inl (.inr rfl))⟩
  have hi0 : x.inn.length = 0 := by omega
  rw [get1_fill D x s hb0 hi0] at hq
  have HF := hide (fill_any R hT h hB h1 hs (fun _ => hok))
  have HIn := hide (fill_inn D x s)
  rw [hi0] at c5
  generalize x.fill D s = X at *
  obtain ⟨fx, fe, fs⟩ := X
  simp only at hq HF HIn
  have HQ := hide hq
  clear hq h hib hbb hok
  by_cases he : fe = 0
  · subst he
    have hq := HQ.out
    rw [if_pos rfl] at hq
    obtain ⟨rfl, rfl, rfl, rfl⟩ : { fx with inn := fx.inn.drop 1 } = qx ∧ fx.inn.getD 0 0 = qc ∧ 0 = qe ∧ fs = qs := by simpa using hq
    have hpos := HIn.out rfl
    obtain ⟨ch, hch⟩ : ∃ ch, ch = fx.inn.getD 0 0 := ⟨_, rfl⟩
    rw [← hch]
    have HCh := hide hch
    clear hch
    obtain ⟨L, hL⟩ : ∃ L, L = fx.inn.drop 1 := ⟨_, rfl⟩
    rw [← hL]
    have HL := hide hL
    clear hq HQ hL
    go_enter Try.func28, Try.ntmps28
    go_wp2_with fail
    refine HF.out.mono ?_
    rintro _ w1 ⟨rfl, i', hO1, hT1⟩
    obtain ⟨ja, jc, rfl, hjb, hjc⟩ := hO1.ls.si
    obtain ⟨-, bb, off, rfl, -, hcell⟩ := bys_block hjb hpos
    have hcl := hcell 0 hpos
    rw [Nat.add_zero, ← HCh.out] at hcl
    have hbh := behind_any fx.inn (.slice (some ⟨bb, off, none⟩) fx.inn.length jc) 1 w1 hO1.ls.si hpos
    rw [← HL.out] at hbh
    have HBh := hide hbh
    have d5 := hO1.way.cs.2.2.2.2.2.1
    have e5 := hO1.way.soft 5
    have HO1 := hide hO1
    have HT1 := hide hT1
    have k0 : (0 : Int) < (fx.inn.length : Int) := by omega
    clear hO1 hT1 hjb hcell hbh c5 c6 g5 g6
    go_wp2_with fail
    refine HBh.out.mono ?_
    rintro _ _ ⟨u, rfl, hu, hub, -, rfl⟩
    have hu2 := hu
    obtain ⟨ua, uc, rfl, -⟩ := hu2
    have HWy := hide (HO1.out.way.set (x' := { fx with inn := L }) (o' := o) (i' := .slice ua L.length uc) (b' := .slice ba x.back.length bc) 5 (.slice ua L.length uc) rfl)
    have HOn2 := hide (On.at hT HO1.out HWy.out ((Turned.refl (fun k => k = g) w1).set (.inl rfl)) ⟨HO1.out.ls.so, hu, HO1.out.ls.sb, HO1.out.ls.po, fun k e => HO1.out.ls.pi k (hub k e), HO1.out.ls.pb⟩)
    clear hu hub
    go_wp2
    go_ret2
    exact ⟨rfl, _, _, HOn2.out, HT1.out.set (.inl (.inr rfl))⟩
  · have hq := HQ.out
    rw [if_neg he] at hq
    obtain ⟨rfl, rfl, rfl, rfl⟩ : fx = qx ∧ 0 = qc ∧ fe = qe ∧ fs = qs := by simpa using hq
    have he2 : (fe != 0) = true := by simp [he]
    clear hq HQ
    go_enter Try.func28, Try.ntmps28
    go_wp2_with fail
    refine HF.out.mono ?_
    rintro _ w1 ⟨rfl, i', hO1, hT1⟩
    have HO1 := hide hO1
    have HT1 := hide hT1
    clear hO1 hT1 c5 c6 g5 g6
    go_wp2
    go_ret2
    exact ⟨rfl, _, _, HO1.out, HT1.out⟩
set_option maxRecDepth 100000 in
set_option maxHeartbeats 4000000 in
theorem flush_any {S : Type} {D : RawD S} {T : TypeId} {v : Value} {fr fw : FuncId} {rok wok : S → Prop} {At : World → (Nat → Prop) → S → Prop} (R : RawM D T v fr fw rok wok At) (hT : ∀ s, OAt (fun w O => At w O s)) {w : World} {O : Nat → Prop} {s : S} {B g : Nat} {x : SS} {o i b : Value} (h : On At w O s B g x o i b (.iface T v)) (hl : x.out.length ≤ 65536) (hok : putOk D wok x.out (putF x.out) s 0 0) :
    Calls Try.prog 24 #[.pointer (some ⟨g, 0, none⟩)] w fun en w' => en = .returned (.int .i64 (x.deliver D s).2.1) ∧ WStep At w O B g (.iface T v) (if (x.deliver D s).2.1 = 0 then { (x.deliver D s).1 with dir := 0 } else (x.deliver D s).1) (x.deliver D s).2.2 w' := by
  have HD := hide (deliver_any R hT h hl hok)
  have hgB := h.gB
  generalize x.deliver D s = X at *
  obtain ⟨dx, de, ds⟩ := X
  simp only at HD ⊢
  clear h hok
  by_cases he : de = 0
  · subst he
    rw [if_pos rfl]
    go_enter Try.func24, Try.ntmps24
    go_wp2_with fail
    refine HD.out.mono ?_
    rintro _ w1 ⟨rfl, o', O', hO4, -, hO5, hT4⟩
    have HO4 := hide hO4
    have HO5 := hide hO5
    have HT4 := hide (hT4.mono fun k e => (e.imp id (fun e => by omega) : O k ∨ B ≤ k))
    have d7 := hO4.way.cs.2.2.2.2.2.2.2.1
    have e7 := hO4.way.soft 7
    have HWy := hide (hO4.way.set (x' := { dx with dir := 0 }) (o' := o') (i' := i) (b' := b) 7 (.int .i64 0) rfl)
    have HOn2 := hide (On.at hT hO4 HWy.out ((Turned.refl (fun k => k = g) w1).set (.inl rfl)) (hO4.ls.kin rfl rfl rfl))
    clear hO4 hO5 hT4
    go_wp2
    go_ret
    exact ⟨rfl, _, _, _, _, HOn2.out, HO5.out, HT4.out.set (.inl (.inr hgB))⟩
  · rw [if_neg he]
    have he2 : (de == 0) = false := by simp [he]
    go_enter Try.func24, Try.ntmps24
    go_wp2_with fail
    refine HD.out.mono ?_
    rintro _ w1 ⟨rfl, o', O', hO4, -, hO5, hT4⟩
    have HO4 := hide hO4
    have HO5 := hide hO5
    have HT4 := hide (hT4.mono fun k e => (e.imp id (fun e => by omega) : O k ∨ B ≤ k))
    clear hO4 hO5 hT4
    go_wp2
    go_ret
    exact ⟨rfl, _, _, _, _, HO4.out, HO5.out, HT4.out⟩
set_option maxRecDepth 100000 in
set_option maxHeartbeats 4000000 in
theorem wclose_any {S : Type} {D : RawD S} {T : TypeId} {v : Value} {fr fw : FuncId} {rok wok : S → Prop} {At : World → (Nat → Prop) → S → Prop} (R : RawM D T v fr fw rok wok At) (hT : ∀ s, OAt (fun w O => At w O s)) {w : World} {O : Nat → Prop} {s : S} {B g : Nat} {x : SS} {o i b : Value} (h : On At w O s B g x o i b (.iface T v)) (hl : x.out.length ≤ 65536) (hok : putOk D wok x.out (putF x.out) s 0 0) :
    Calls Try.prog 26 #[.pointer (some ⟨g, 0, none⟩)] w fun en w' => en = .returned (.int .i64 (x.deliver D s).2.1) ∧ WStep At w O B g (.iface T v) (x.deliver D s).1.shut (x.deliver D s).2.2 w' := by
  have HD := hide (deliver_any R hT h hl hok)
  have hgB := h.gB
  generalize x.deliver D s = X at *
  obtain ⟨dx, de, ds⟩ := X
  simp only at HD ⊢
  clear h hok
  go_enter Try.func26, Try.ntmps26
  go_wp2_with fail
  refine HD.out.mono ?_
  rintro _ w1 ⟨rfl, o', O', hO4, -, hO5, hT4⟩
  have HO4 := hide hO4
  have HO5 := hide hO5
  have HT4 := hide (hT4.mono fun k e => (e.imp id (fun e => by omega) : O k ∨ B ≤ k))
  obtain ⟨c0, c1, c2, c3, c4, c5, c6, c7, c8, c9, c10, c11⟩ := hO4.way.cs
  have e4 := hO4.way.soft 4
  have e5 := hO4.way.soft 5
  have e6 := hO4.way.soft 6
  have e7 := hO4.way.soft 7
  have e10 := hO4.way.soft 10
  have q1 := hO4.way.set (x' := { dx with out := [] }) (o' := .slice none 0 0) (i' := i) (b' := b) 4 (.slice none 0 0) rfl
  have q2 := q1.set (x' := { dx with out := [], inn := [] }) (o' := .slice none 0 0) (i' := .slice none 0 0) (b' := b) 5 (.slice none 0 0) rfl
  have q3 := q2.set (x' := { dx with out := [], inn := [], back := [] }) (o' := .slice none 0 0) (i' := .slice none 0 0) (b' := .slice none 0 0) 6 (.slice none 0 0) rfl
  have q4 := q3.set (x' := { dx with out := [], inn := [], back := [], dir := 0 }) (o' := .slice none 0 0) (i' := .slice none 0 0) (b' := .slice none 0 0) 7 (.int .i64 0) rfl
  have HWy := hide (q4.set (x' := dx.shut) (o' := .slice none 0 0) (i' := .slice none 0 0) (b' := .slice none 0 0) 10 (.bool true) rfl)
  have hno : ∀ k, (Value.slice none 0 0).ownBlock = some k → False := fun k e => by simp [Value.ownBlock] at e
  have HOn2 := hide (On.at hT hO4 HWy.out (((((Turned.refl (fun k => k = g) w1).set (.inl rfl)).set (.inl rfl)).set (.inl rfl)).set (.inl rfl) |>.set (.inl rfl)) ⟨Sl.nil, Sl.nil, Sl.nil, fun k e => (hno k e).elim, fun k e => (hno k e).elim, fun k e => (hno k e).elim⟩)
  clear hO4 hO5 hT4 q1 q2 q3 q4 c0 c1 c2 c3 c8 c9 c11
  go_wp2
  go_ret
  exact ⟨rfl, _, _, _, _, HOn2.out, HO5.out, ((((HT4.out.set (.inl (.inr hgB))).set (.inl (.inr hgB))).set (.inl (.inr hgB))).set (.inl (.inr hgB))).set (.inl (.inr hgB))⟩
end Go.Proofs.Ytbffnamdpmjfnaa

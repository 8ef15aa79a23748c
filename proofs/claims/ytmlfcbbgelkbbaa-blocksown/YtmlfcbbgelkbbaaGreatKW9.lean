/- What the proof stands on, part 9: the contracts of the program's calls that it reaches. -/
import Derived.Test.YtmlfcbbgelkbbaaGreatKW8
import Derived.Deep.DeepCutAuto
/- Blocks: the next byte of a source. -/
namespace Go.Proofs.YtmlfcbbgelkbbaaGreat
open Go.RowKit

theorem wh_nil (y : SS) : y.wh [] = y := by unfold SS.wh; simp
theorem get_ahead {S : Type} (D : RawD S) (y : SS) (c : UInt8) (t : List UInt8) (s : S) (hi : y.inn = []) (hb : y.back = []) (hm : (y.wh (c :: t)).may = true) : (y.wh (c :: t)).get D s = (y.wh t, c, 0, s) := by
  obtain ⟨h1, h2, h3, h4, h5, h6, h7, h8, h9⟩ := (may_iff _).1 hm
  simp only [SS.wh, hi, hb, List.nil_append, List.length_cons, List.length_nil] at h9
  have hd : y.dir = 1 ∧ y.rd = true ∧ y.closed = false := by
    rcases h9 with ⟨a, b, q⟩ | ⟨a, b, q, d⟩ | ⟨a, b, q, d⟩
    · omega
    · exact ⟨a, b, d⟩
    · omega
  have hr : (y.wh (c :: t)).noRead = 0 := by
    unfold SS.noRead SS.refuse
    rw [hm]
    simp [SS.wh, hd.1, hd.2.1, hd.2.2]
  unfold SS.get
  rw [if_pos hr]
  unfold SS.get1
  simp only [SS.wh, hi, hb, List.nil_append, List.length_nil]
  rw [if_neg (by omega), if_pos (by simp)]
  simp [← hd.1]
set_option maxRecDepth 100000 in
set_option maxHeartbeats 8000000 in
theorem bnext_far {S : Type} {At : World → (Nat → Prop) → S → Prop} (hT : ∀ s, OAt (fun w O => At w O s)) {w : World} {O : Nat → Prop} {s : S} {B g : Nat} {y : SS} {far : List UInt8} {o i b f : Value} {r : Value} (h : BSrcOn At w O s B g y far o i b r f) (hf : far ≠ []) :
    Calls Tryz.prog 208 #[.pointer (some ⟨g, 0, none⟩)] w fun e w' => ∃ c t f', far = c :: t ∧ e = .returned (.tuple #[.int .u8 (c.toNat : Int), .int .i64 0]) ∧ BSrcOn At w' O s B g y t o i b r f' ∧ (∀ k, f'.ownBlock = some k → f.ownBlock = some k) ∧ Turned (fun k => k = g) w w' := by
  have hfl : 0 < far.length := List.length_pos_iff.2 hf
  have hFL := h.fl
  obtain ⟨fa, fc, rfl, hb, hc⟩ := hFL
  obtain ⟨-, qb, qo, rfl, hq, -⟩ := bys_block hb hfl
  clear hb
  have HS := hide h
  obtain ⟨n, hn⟩ : ∃ n, n = far.length := ⟨_, rfl⟩
  have hF := h.fl
  have hsrc := h.src
  have hqg : qb ≠ g := (h.fp qb rfl).2.2.1
  rw [← hn] at hF hsrc hfl hc
  obtain ⟨ch, t, hft, hnt, hcell, hF2, -⟩ := hF.cut1 hfl
  have HQ := hide (And.intro hft (And.intro hnt (And.intro hF2 (And.intro hqg hn))))
  have HSr := hide hsrc
  obtain ⟨c0, c1, c2, c3, c4, c5, c6, c7, c8, c9, c10, c11, c12⟩ := hsrc.cs
  have f12 := hsrc.soft 12
  have e1 : decide (0 < n) = true := decide_eq_true hfl
  have e2 : (0 : Int) < (n : Int) := by omega
  have e3 : (1 : Int) ≤ (n : Int) := by omega
  have e4 : (n : Int) ≤ (fc : Int) := by omega
  have e5 : (1 : Int) ≤ (fc : Int) := by omega
  have fin : ∀ f' W, f' = Value.slice (some ⟨qb, qo + 1, none⟩) (n - 1) (fc - 1) ∨ (t = [] ∧ ∃ a c, f' = Value.slice (some ⟨qb, a, none⟩) 0 c) → W = w.setCell ⟨g, 12, none⟩ f' → BSrcOn At W O s B g y t o i b r f' ∧ (∀ k, f'.ownBlock = some k → (Value.slice (some ⟨qb, qo, none⟩) far.length fc).ownBlock = some k) ∧ Turned (fun k => k = g) w W := fun f' W hf' hW => by
    subst hW
    have hT1 : Turned (fun k => k = g) w (w.setCell ⟨g, 12, none⟩ f') := (Turned.refl (fun k => k = g) w).set (.inl rfl)
    have hz := hT1.size
    have hob : ∀ k, f'.ownBlock = some k → k = qb := fun k e => by
      rcases hf' with rfl | ⟨-, a, c, rfl⟩ <;> simpa [Value.ownBlock, eq_comm] using e
    have hS := HS.out
    have hFl : Sl w f' t := by
      rcases hf' with rfl | ⟨rfl, a, c, rfl⟩
      · exact HQ.out.2.2.1
      · exact Sl.zero
    have ng : ∀ k, k ≠ g → ∀ e : k = g, False := fun k h1 e => h1 e
    refine ⟨⟨HSr.out.one f', ⟨hS.ls.so.turned hT1 (fun k e _ e2 => (hS.ls.po k e).2.2.1 e2), hS.ls.si.turned hT1 (fun k e _ e2 => (hS.ls.pi k e).2.2.1 e2), hS.ls.sb.turned hT1 (fun k e _ e2 => (hS.ls.pb k e).2.2.1 e2), fun k e => ⟨(hS.ls.po k e).1, (hS.ls.po k e).2.1, (hS.ls.po k e).2.2.1, Nat.lt_of_lt_of_le (hS.ls.po k e).2.2.2 hz⟩, fun k e => ⟨(hS.ls.pi k e).1, (hS.ls.pi k e).2.1, (hS.ls.pi k e).2.2.1, Nat.lt_of_lt_of_le (hS.ls.pi k e).2.2.2 hz⟩, fun k e => ⟨(hS.ls.pb k e).1, (hS.ls.pb k e).2.1, (hS.ls.pb k e).2.2.1, Nat.lt_of_lt_of_le (hS.ls.pb k e).2.2.2 hz⟩⟩, hFl.turned hT1 (fun k e _ e2 => HQ.out.2.2.2.1 ((hob k e).symm.trans e2)), fun k e => ?_, (hT s).keep hS.raw (fun j e hj => hT1.block j hj (fun e2 => hS.og (e2 ▸ e))) hz, hS.og, hS.gB, fun j e => Nat.lt_of_lt_of_le (hS.ol j e) hz, fun _ => hS.nr (by rw [HQ.out.1]; simp)⟩, fun k e => by rw [hob k e]; rfl, hT1⟩
    have h3 := hS.fp qb rfl
    rw [hob k e]
    exact ⟨h3.1, h3.2.1, h3.2.2.1, Nat.lt_of_lt_of_le h3.2.2.2 hz⟩
  have HF := hide fin
  clear fin h hsrc hF hF2 hft hnt hqg hn
  by_cases hc1 : fc = 1
  · subst hc1
    have hn1 : n = 1 := by omega
    subst hn1
    go_enter Tryz.func208, Tryz.ntmps208
    go_wp2
    go_ret2
    have ht : t = [] := List.length_eq_zero_iff.1 (by have := HQ.out.2.1; omega)
    obtain ⟨q1, q2, q3⟩ := HF.out _ _ (.inr ⟨ht, _, _, rfl⟩) rfl
    exact ⟨ch, t, _, HQ.out.1, rfl, q1, q2, q3⟩
  · have e6 : (1 : Int) < (fc : Int) := by omega
    go_enter Tryz.func208, Tryz.ntmps208
    go_wp2
    go_ret2
    obtain ⟨q1, q2, q3⟩ := HF.out _ _ (.inl rfl) rfl
    exact ⟨ch, t, _, HQ.out.1, rfl, q1, q2, q3⟩
set_option linter.unusedSimpArgs false in
set_option maxRecDepth 100000 in
set_option maxHeartbeats 8000000 in
theorem bnext_near {S : Type} {D : RawD S} {T : TypeId} {v : Value} {fr fw : FuncId} {rok wok : S → Prop} {At : World → (Nat → Prop) → S → Prop} (R : RawM D T v fr fw rok wok At) (hT : ∀ s, OAt (fun w O => At w O s)) {G : Nat → S → Prop} (hG : Bears D rok wok G) {w : World} {O : Nat → Prop} {s : S} {B g : Nat} {y : SS} {o i b f : Value} (h : BSrcOn At w O s B g y [] o i b (.iface T v) f) (hB : B ≤ w.heap.size) (hg : G 2 s) (hm : y.may = true) :
    Calls Tryz.prog 208 #[.pointer (some ⟨g, 0, none⟩)] w fun e w' => ∃ O' y' far' o' i' b' f', e = .returned (.tuple #[.int .u8 (((y).get D s).2.1.toNat : Int), .int .i64 ((y).get D s).2.2.1]) ∧ y'.wh far' = ((y).get D s).1 ∧ BSrcOn At w' O' ((y).get D s).2.2.2 B g y' far' o' i' b' (.iface T v) f' ∧ (∀ k, O' k → O k ∨ w.heap.size ≤ k) ∧ (∀ k, o'.ownBlock = some k ∨ i'.ownBlock = some k ∨ b'.ownBlock = some k ∨ f'.ownBlock = some k → w.heap.size ≤ k ∨ o.ownBlock = some k ∨ i.ownBlock = some k ∨ b.ownBlock = some k ∨ f.ownBlock = some k) ∧ Turned (fun k => O k ∨ k = g ∨ w.heap.size ≤ k) w w' := by
  obtain ⟨oa, oc, rfl, -⟩ := h.ls.so
  obtain ⟨ia, ic, rfl, -⟩ := h.ls.si
  obtain ⟨ba, bc, rfl, -⟩ := h.ls.sb
  have hf0 := h.fl
  obtain ⟨fa, fc, hf1, -⟩ := hf0
  have hf2 : f = .slice fa 0 fc := hf1
  subst hf2
  clear hf1
  have HS := hide h
  obtain ⟨m1, m2, m3, m4, m5, m6, m7, m8⟩ := may_buf hm
  have hBZ : Below w.heap.size w (w.alloc (Obj.cells #[.bool false, .bool false, .int .i64 0, .int .i64 0, .slice none 0 0, .slice none 0 0, .slice none 0 0, .int .i64 0, .bool false, .bool false, .bool false] 58)).drew := (recv_below w (Obj.cells #[.bool false, .bool false, .int .i64 0, .int .i64 0, .slice none 0 0, .slice none 0 0, .slice none 0 0, .int .i64 0, .bool false, .bool false, .bool false] 58)).trans (Below.refl _ _).drew
  have hp := sGet_any R hT hG (h.ls.below (Below.refl _ w).drew) ((hT s).keep h.raw (fun j _ hj => (Below.refl w.heap.size w).drew.block j hj) (Nat.le_refl _)) h.ol hg (by omega) (by omega) (by omega)
  have hpz := sGet_any R hT hG (h.ls.below hBZ) ((hT s).keep h.raw (fun j _ hj => hBZ.block j hj) hBZ.size) (fun j e => Nat.lt_of_lt_of_le (h.ol j e) hBZ.size) hg (by omega) (by omega) (by omega)
  have hzZ : (w.alloc (Obj.cells #[.bool false, .bool false, .int .i64 0, .int .i64 0, .slice none 0 0, .slice none 0 0, .slice none 0 0, .int .i64 0, .bool false, .bool false, .bool false] 58)).heap.size = w.heap.size + 1 := Array.size_push ..
  generalize y.get D s = q at *
  obtain ⟨x', ch, e', s'⟩ := q
  simp only at hp hpz ⊢
  have HP := hide hp
  have HPz := hide hpz
  have HSn : Hid (∀ W W', Below w.heap.size w W → Turned O W W' → (fun W => BSrc W g y (.slice oa y.out.length oc) (.slice ia y.inn.length ic) (.slice ba y.back.length bc) (.iface T v) (.slice fa 0 fc)) W') := hide (fun W W' hW hT2 => (HS.out.src.below hW).turned hT2 HS.out.og)
  have HSt : Hid (∀ W W', (fun W => BSrc W g y (.slice oa y.out.length oc) (.slice ia y.inn.length ic) (.slice ba y.back.length bc) (.iface T v) (.slice fa 0 fc)) W → Turned (fun k => k = w.heap.size) W W' → (fun W => BSrc W g y (.slice oa y.out.length oc) (.slice ia y.inn.length ic) (.slice ba y.back.length bc) (.iface T v) (.slice fa 0 fc)) W') := hide (fun W W' h2 hT2 => h2.turned hT2 (fun e => by have := HS.out.src.lt; omega))
  have HSb : Hid (∀ W W', (fun W => BSrc W g y (.slice oa y.out.length oc) (.slice ia y.inn.length ic) (.slice ba y.back.length bc) (.iface T v) (.slice fa 0 fc)) W → Below W.heap.size W W' → (fun W => BSrc W g y (.slice oa y.out.length oc) (.slice ia y.inn.length ic) (.slice ba y.back.length bc) (.iface T v) (.slice fa 0 fc)) W') := hide (fun W W' h2 hB2 => h2.below hB2)
  have HZ0 : Hid ((w.alloc (Obj.cells #[.bool false, .bool false, .int .i64 0, .int .i64 0, .slice none 0 0, .slice none 0 0, .slice none 0 0, .int .i64 0, .bool false, .bool false, .bool false] 58)).drew.heap[w.heap.size]? = some (Obj.cells #[.bool false, .bool false, .int .i64 0, .int .i64 0, .slice none 0 0, .slice none 0 0, .slice none 0 0, .int .i64 0, .bool false, .bool false, .bool false] 58)) := hide (heap_alloc_new w (Obj.cells #[.bool false, .bool false, .int .i64 0, .int .i64 0, .slice none 0 0, .slice none 0 0, .slice none 0 0, .int .i64 0, .bool false, .bool false, .bool false] 58))
  have HBs := hide hB
  obtain ⟨c0, c1, c2, c3, c4, c5, c6, c7, c8, c9, c10, c11, c12⟩ := h.src.cs
  clear hp hpz h hm m1 m2 m3 m4 m5 m6 m7 m8 hBZ hg hB
  go_enter Tryz.func208, Tryz.ntmps208
  go_upto_region 5 with fail
  clear c0 c1 c2 c3 c4 c5 c6 c7 c8 c9 c10 c11 c12
  go_cut [5, 6, 7] (fun p4 c5 e6 wx => ∃ (gt : Nat) (a1 a2 a3 : Option Addr) (a4 a5 a6 : Nat), p4 = .pointer (some ⟨gt, 0, none⟩) ∧ c5 = .int .u8 (ch.toNat : Int) ∧ e6 = .int .i64 e' ∧ Hid (StAt wx gt x' (.slice a1 x'.out.length a4) (.slice a2 x'.inn.length a5) (.slice a3 x'.back.length a6)) ∧ Hid (SOut At w.drew O x' s' (.slice a1 x'.out.length a4) (.slice a2 x'.inn.length a5) (.slice a3 x'.back.length a6) wx))
  case first =>
    refine wp_region_noPanic ?_
    refine wp_region_held_drew (S := fun W => BSrc W g y (.slice oa y.out.length oc) (.slice ia y.inn.length ic) (.slice ba y.back.length bc) (.iface T v) (.slice fa 0 fc)) (by kernel_rfl) (HSn.out _ _ (Below.refl _ _).drew (Turned.refl _ _)) (fun hHeld => ?_)
    refine wpAnyH_take (i := 0) (oi := ?_) (v := ?_) ?_ (by kernel_rfl) (by kernel_rfl) (by kernel_rfl) (fun _ _ _ h => (h : False).elim) (Or.inl ⟨?_, ?_⟩) hHeld ?_
    rotate_left 2
    · (simp only [List.getElem?_toArray, List.getElem?_cons_zero]; rfl)
    · rfl
    · (intro W hSw; obtain ⟨m0, m1, m2, m3, m4, m5, m6, m7, m8, m9, m10, m11, m12⟩ := hSw.cs; go_simp <;> with_reducible rfl)
    try simp only [Act.put, List.setIfInBounds_toArray, List.set_cons_zero, List.set_cons_succ]
    refine wpAnyH_take (i := 1) (oi := ?_) (v := ?_) ?_ (by kernel_rfl) (by kernel_rfl) (by kernel_rfl) (fun _ _ _ h => (h : False).elim) (Or.inl ⟨?_, ?_⟩) hHeld ?_
    rotate_left 2
    · (simp only [List.getElem?_toArray, List.getElem?_cons_zero, List.getElem?_cons_succ]; rfl)
    · rfl
    · (intro W hSw; obtain ⟨m0, m1, m2, m3, m4, m5, m6, m7, m8, m9, m10, m11, m12⟩ := hSw.cs; go_simp <;> with_reducible rfl)
    try simp only [Act.put, List.setIfInBounds_toArray, List.set_cons_zero, List.set_cons_succ]
    refine wpAnyH_take (i := 2) (oi := ?_) (v := ?_) ?_ (by kernel_rfl) (by kernel_rfl) (by kernel_rfl) (fun _ _ _ h => (h : False).elim) (Or.inl ⟨?_, ?_⟩) hHeld ?_
    rotate_left 2
    · (simp only [List.getElem?_toArray, List.getElem?_cons_zero, List.getElem?_cons_succ]; rfl)
    · rfl
    · (intro W hSw; obtain ⟨m0, m1, m2, m3, m4, m5, m6, m7, m8, m9, m10, m11, m12⟩ := hSw.cs; go_simp <;> with_reducible rfl)
    try simp only [Act.put, List.setIfInBounds_toArray, List.set_cons_zero, List.set_cons_succ]
    refine wpAnyH_take (i := 3) (oi := ?_) (v := ?_) ?_ (by kernel_rfl) (by kernel_rfl) (by kernel_rfl) (fun _ _ _ h => (h : False).elim) (Or.inl ⟨?_, ?_⟩) hHeld ?_
    rotate_left 2
    · (simp only [List.getElem?_toArray, List.getElem?_cons_zero, List.getElem?_cons_succ]; rfl)
    · rfl
    · (intro W hSw; obtain ⟨m0, m1, m2, m3, m4, m5, m6, m7, m8, m9, m10, m11, m12⟩ := hSw.cs; go_simp <;> with_reducible rfl)
    try simp only [Act.put, List.setIfInBounds_toArray, List.set_cons_zero, List.set_cons_succ]
    refine wpAnyH_take (i := 4) (oi := ?_) (v := ?_) ?_ (by kernel_rfl) (by kernel_rfl) (by kernel_rfl) (fun _ _ _ h => (h : False).elim) (Or.inl ⟨?_, ?_⟩) hHeld ?_
    rotate_left 2
    · (simp only [List.getElem?_toArray, List.getElem?_cons_zero, List.getElem?_cons_succ]; rfl)
    · rfl
    · (intro W hSw; obtain ⟨m0, m1, m2, m3, m4, m5, m6, m7, m8, m9, m10, m11, m12⟩ := hSw.cs; go_simp <;> with_reducible rfl)
    try simp only [Act.put, List.setIfInBounds_toArray, List.set_cons_zero, List.set_cons_succ]
    refine wpAnyH_take (i := 5) (oi := ?_) (v := ?_) ?_ (by kernel_rfl) (by kernel_rfl) (by kernel_rfl) (fun _ _ _ h => (h : False).elim) (Or.inl ⟨?_, ?_⟩) hHeld ?_
    rotate_left 2
    · (simp only [List.getElem?_toArray, List.getElem?_cons_zero, List.getElem?_cons_succ]; rfl)
    · rfl
    · (intro W hSw; obtain ⟨m0, m1, m2, m3, m4, m5, m6, m7, m8, m9, m10, m11, m12⟩ := hSw.cs; go_simp <;> with_reducible rfl)
    try simp only [Act.put, List.setIfInBounds_toArray, List.set_cons_zero, List.set_cons_succ]
    refine wpAnyH_take (i := 6) (oi := ?_) (v := ?_) ?_ (by kernel_rfl) (by kernel_rfl) (by kernel_rfl) (fun _ _ _ h => (h : False).elim) (Or.inl ⟨?_, ?_⟩) hHeld ?_
    rotate_left 2
    · (simp only [List.getElem?_toArray, List.getElem?_cons_zero, List.getElem?_cons_succ]; rfl)
    · rfl
    · (intro W hSw; obtain ⟨m0, m1, m2, m3, m4, m5, m6, m7, m8, m9, m10, m11, m12⟩ := hSw.cs; go_simp <;> with_reducible rfl)
    try simp only [Act.put, List.setIfInBounds_toArray, List.set_cons_zero, List.set_cons_succ]
    refine wpAnyH_take (i := 7) (oi := ?_) (v := ?_) ?_ (by kernel_rfl) (by kernel_rfl) (by kernel_rfl) (fun _ _ _ h => (h : False).elim) (Or.inl ⟨?_, ?_⟩) hHeld ?_
    rotate_left 2
    · (simp only [List.getElem?_toArray, List.getElem?_cons_zero, List.getElem?_cons_succ]; rfl)
    · rfl
    · (intro W hSw; obtain ⟨m0, m1, m2, m3, m4, m5, m6, m7, m8, m9, m10, m11, m12⟩ := hSw.cs; go_simp <;> with_reducible rfl)
    try simp only [Act.put, List.setIfInBounds_toArray, List.set_cons_zero, List.set_cons_succ]
    refine wpAnyH_ready (rs := [8, 13]) (by kernel_rfl) (by simp) ?_
    refine AllReadyH.cons (o := ?_) ?_ (fun K' hK => ?_) (AllReadyH.cons (o := ?_) ?_ (fun K' hK => ?_) AllReadyH.nil)
    rotate_left 1
    · (simp only [List.getElem?_toArray, List.getElem?_cons_zero, List.getElem?_cons_succ]; rfl)
    · go_simp
      go_at_call 100
      refine HP.out.mono ?_
      rintro _ w5' ⟨o', i', b'', rfl, hS⟩
      obtain ⟨a1, a4, rfl, -⟩ := hS.choose_spec.1.so
      obtain ⟨a2, a5, rfl, -⟩ := hS.choose_spec.1.si
      obtain ⟨a3, a6, rfl, -⟩ := hS.choose_spec.1.sb
      have hT5 : Turned O w.drew w5' := (by obtain ⟨_, _, _, _, _, t⟩ := hS; exact t)
      have HS5 := hide hS
      clear hS
      have h9 := HSn.out _ w5' ((Below.refl _ _).drew) hT5
      refine hK.out _ _ (h9) (fun hHeld2 => ?_)
      clear hK K' hHeld
      have hHeld := hHeld2
      clear hHeld2
      try simp only [Act.put, List.setIfInBounds_toArray, List.set_cons_zero, List.set_cons_succ]
      refine wpAnyH_take (i := 9) (oi := ?_) (v := ?_) ?_ (by kernel_rfl) (by kernel_rfl) (by kernel_rfl) (fun _ _ _ h => (h : False).elim) (Or.inl ⟨?_, ?_⟩) hHeld ?_
      rotate_left 2
      · (simp only [List.getElem?_toArray, List.getElem?_cons_zero, List.getElem?_cons_succ]; rfl)
      · rfl
      · (intro W hSw; obtain ⟨m0, m1, m2, m3, m4, m5, m6, m7, m8, m9, m10, m11, m12⟩ := hSw.cs; go_simp <;> with_reducible rfl)
      try simp only [Act.put, List.setIfInBounds_toArray, List.set_cons_zero, List.set_cons_succ]
      refine wpAnyH_take (i := 10) (oi := ?_) (v := ?_) ?_ (by kernel_rfl) (by kernel_rfl) (by kernel_rfl) (fun _ _ _ h => (h : False).elim) (Or.inl ⟨?_, ?_⟩) hHeld ?_
      rotate_left 2
      · (simp only [List.getElem?_toArray, List.getElem?_cons_zero, List.getElem?_cons_succ]; rfl)
      · rfl
      · (intro W hSw; obtain ⟨m0, m1, m2, m3, m4, m5, m6, m7, m8, m9, m10, m11, m12⟩ := hSw.cs; go_simp <;> with_reducible rfl)
      try simp only [Act.put, List.setIfInBounds_toArray, List.set_cons_zero, List.set_cons_succ]
      refine wpAnyH_take (i := 11) (oi := ?_) (v := ?_) ?_ (by kernel_rfl) (by kernel_rfl) (by kernel_rfl) (fun _ _ _ h => (h : False).elim) (Or.inl ⟨?_, ?_⟩) hHeld ?_
      rotate_left 2
      · (simp only [List.getElem?_toArray, List.getElem?_cons_zero, List.getElem?_cons_succ]; rfl)
      · rfl
      · (intro W hSw; obtain ⟨m0, m1, m2, m3, m4, m5, m6, m7, m8, m9, m10, m11, m12⟩ := hSw.cs; go_simp <;> with_reducible rfl)
      try simp only [Act.put, List.setIfInBounds_toArray, List.set_cons_zero, List.set_cons_succ]
      refine wpAnyH_take (i := 12) (oi := ?_) (v := ?_) ?_ (by kernel_rfl) (by kernel_rfl) (by kernel_rfl) (fun _ _ _ h => (h : False).elim) (Or.inl ⟨?_, ?_⟩) hHeld ?_
      rotate_left 2
      · (simp only [List.getElem?_toArray, List.getElem?_cons_zero, List.getElem?_cons_succ]; rfl)
      · rfl
      · (intro W hSw; obtain ⟨m0, m1, m2, m3, m4, m5, m6, m7, m8, m9, m10, m11, m12⟩ := hSw.cs; go_simp <;> with_reducible rfl)
      try simp only [Act.put, List.setIfInBounds_toArray, List.set_cons_zero, List.set_cons_succ]
      refine wpAnyH_ready (rs := [13]) (by kernel_rfl) (by simp) ?_
      refine AllReadyH.cons (o := ?_) ?_ (fun K' hK => ?_) AllReadyH.nil
      rotate_left 1
      · (simp only [List.getElem?_toArray, List.getElem?_cons_zero, List.getElem?_cons_succ]; rfl)
      go_simp
      refine hK.out _ _ (HSb.out _ _ h9 (recv_below w5' (Obj.cells #[.bool false, .bool false, .int .i64 0, .int .i64 0, .slice none 0 0, .slice none 0 0, .slice none 0 0, .int .i64 0, .bool false, .bool false, .bool false] 58))) (fun hHeld2 => ?_)
      clear hK K' hHeld
      have hHeld := hHeld2
      clear hHeld2
      try simp only [Act.put, List.setIfInBounds_toArray, List.set_cons_zero, List.set_cons_succ]
      refine wpAnyH_ready (rs := [14]) (by kernel_rfl) (by simp) ?_
      refine AllReadyH.cons (o := ?_) ?_ (fun K' hK => ?_) AllReadyH.nil
      rotate_left 1
      · (simp only [List.getElem?_toArray, List.getElem?_cons_zero, List.getElem?_cons_succ]; rfl)
      go_simp
      refine hK.out _ _ (HSb.out _ _ h9 (recv_below w5' (Obj.cells #[.bool x'.rd, .bool x'.wt, .int .i64 x'.mode, .int .i64 x'.size, .slice a1 x'.out.length a4, .slice a2 x'.inn.length a5, .slice a3 x'.back.length a6, .int .i64 x'.dir, .bool x'.fin, .bool x'.bad, .bool x'.closed] 58))) (fun hHeld2 => ?_)
      clear hK K' hHeld
      have hHeld := hHeld2
      clear hHeld2
      try simp only [Act.put, List.setIfInBounds_toArray, List.set_cons_zero, List.set_cons_succ]
      refine wpAnyH_take (i := 15) (oi := ?_) (v := ?_) ?_ (by kernel_rfl) (by kernel_rfl) (by kernel_rfl) (fun _ _ _ h => (h : False).elim) (Or.inl ⟨?_, ?_⟩) hHeld ?_
      rotate_left 2
      · (simp only [List.getElem?_toArray, List.getElem?_cons_zero, List.getElem?_cons_succ]; rfl)
      · rfl
      · (intro W hSw; obtain ⟨m0, m1, m2, m3, m4, m5, m6, m7, m8, m9, m10, m11, m12⟩ := hSw.cs; go_simp <;> with_reducible rfl)
      try simp only [Act.put, List.setIfInBounds_toArray, List.set_cons_zero, List.set_cons_succ]
      refine wpAnyH_take (i := 16) (oi := ?_) (v := ?_) ?_ (by kernel_rfl) (by kernel_rfl) (by kernel_rfl) (fun _ _ _ h => (h : False).elim) (Or.inl ⟨?_, ?_⟩) hHeld ?_
      rotate_left 2
      · (simp only [List.getElem?_toArray, List.getElem?_cons_zero, List.getElem?_cons_succ]; rfl)
      · rfl
      · (intro W hSw; obtain ⟨m0, m1, m2, m3, m4, m5, m6, m7, m8, m9, m10, m11, m12⟩ := hSw.cs; go_simp <;> with_reducible rfl)
      try simp only [Act.put, List.setIfInBounds_toArray, List.set_cons_zero, List.set_cons_succ]
      refine wpAnyH_done (by kernel_rfl) ?_ _
      refine NoPanic.normal ?_
      clear hHeld h9 hT5
      go_wp2
      go_meet
      exact ⟨_, _, _, _, _, _, _, rfl, rfl, rfl, hide (StAt.new w5' x' (.slice a1 x'.out.length a4) (.slice a2 x'.inn.length a5) (.slice a3 x'.back.length a6)), hide (SOut.below hT HS5.out (recv_below w5' (Obj.cells #[.bool x'.rd, .bool x'.wt, .int .i64 x'.mode, .int .i64 x'.size, .slice a1 x'.out.length a4, .slice a2 x'.inn.length a5, .slice a3 x'.back.length a6, .int .i64 x'.dir, .bool x'.fin, .bool x'.bad, .bool x'.closed] 58)) rfl rfl rfl)⟩
    rotate_left 1
    · (simp only [List.getElem?_toArray, List.getElem?_cons_zero, List.getElem?_cons_succ]; rfl)
    · go_simp
      refine hK.out _ _ (HSn.out _ _ ((Below.refl _ w).alloc (Nat.le_refl _) (Obj.cells #[.bool false, .bool false, .int .i64 0, .int .i64 0, .slice none 0 0, .slice none 0 0, .slice none 0 0, .int .i64 0, .bool false, .bool false, .bool false] 58)).drew (Turned.refl _ _)) (fun hHeld2 => ?_)
      clear hK K' hHeld
      have hHeld := hHeld2
      clear hHeld2
      try simp only [Act.put, List.setIfInBounds_toArray, List.set_cons_zero, List.set_cons_succ]
      refine wpAnyH_ready (rs := [8]) (by kernel_rfl) (by simp) ?_
      refine AllReadyH.cons (o := ?_) ?_ (fun K' hK => ?_) AllReadyH.nil
      rotate_left 1
      · (simp only [List.getElem?_toArray, List.getElem?_cons_zero, List.getElem?_cons_succ]; rfl)
      go_simp
      go_at_call 100
      refine HPz.out.mono ?_
      rintro _ w5' ⟨o', i', b'', rfl, hS⟩
      obtain ⟨a1, a4, rfl, -⟩ := hS.choose_spec.1.so
      obtain ⟨a2, a5, rfl, -⟩ := hS.choose_spec.1.si
      obtain ⟨a3, a6, rfl, -⟩ := hS.choose_spec.1.sb
      have hT5 : Turned O (w.alloc (Obj.cells #[.bool false, .bool false, .int .i64 0, .int .i64 0, .slice none 0 0, .slice none 0 0, .slice none 0 0, .int .i64 0, .bool false, .bool false, .bool false] 58)).drew w5' := (by obtain ⟨_, _, _, _, _, t⟩ := hS; exact t)
      have HS5 := hide hS
      clear hS
      have h9 := HSn.out _ w5' (((Below.refl _ w).alloc (Nat.le_refl _) (Obj.cells #[.bool false, .bool false, .int .i64 0, .int .i64 0, .slice none 0 0, .slice none 0 0, .slice none 0 0, .int .i64 0, .bool false, .bool false, .bool false] 58)).drew) hT5
      refine hK.out _ _ (h9) (fun hHeld2 => ?_)
      clear hK K' hHeld
      have hHeld := hHeld2
      clear hHeld2
      try simp only [Act.put, List.setIfInBounds_toArray, List.set_cons_zero, List.set_cons_succ]
      refine wpAnyH_take (i := 9) (oi := ?_) (v := ?_) ?_ (by kernel_rfl) (by kernel_rfl) (by kernel_rfl) (fun _ _ _ h => (h : False).elim) (Or.inl ⟨?_, ?_⟩) hHeld ?_
      rotate_left 2
      · (simp only [List.getElem?_toArray, List.getElem?_cons_zero, List.getElem?_cons_succ]; rfl)
      · rfl
      · (intro W hSw; obtain ⟨m0, m1, m2, m3, m4, m5, m6, m7, m8, m9, m10, m11, m12⟩ := hSw.cs; go_simp <;> with_reducible rfl)
      try simp only [Act.put, List.setIfInBounds_toArray, List.set_cons_zero, List.set_cons_succ]
      refine wpAnyH_take (i := 10) (oi := ?_) (v := ?_) ?_ (by kernel_rfl) (by kernel_rfl) (by kernel_rfl) (fun _ _ _ h => (h : False).elim) (Or.inl ⟨?_, ?_⟩) hHeld ?_
      rotate_left 2
      · (simp only [List.getElem?_toArray, List.getElem?_cons_zero, List.getElem?_cons_succ]; rfl)
      · rfl
      · (intro W hSw; obtain ⟨m0, m1, m2, m3, m4, m5, m6, m7, m8, m9, m10, m11, m12⟩ := hSw.cs; go_simp <;> with_reducible rfl)
      try simp only [Act.put, List.setIfInBounds_toArray, List.set_cons_zero, List.set_cons_succ]
      refine wpAnyH_take (i := 11) (oi := ?_) (v := ?_) ?_ (by kernel_rfl) (by kernel_rfl) (by kernel_rfl) (fun _ _ _ h => (h : False).elim) (Or.inl ⟨?_, ?_⟩) hHeld ?_
      rotate_left 2
      · (simp only [List.getElem?_toArray, List.getElem?_cons_zero, List.getElem?_cons_succ]; rfl)
      · rfl
      · (intro W hSw; obtain ⟨m0, m1, m2, m3, m4, m5, m6, m7, m8, m9, m10, m11, m12⟩ := hSw.cs; go_simp <;> with_reducible rfl)
      try simp only [Act.put, List.setIfInBounds_toArray, List.set_cons_zero, List.set_cons_succ]
      refine wpAnyH_take (i := 12) (oi := ?_) (v := ?_) ?_ (by kernel_rfl) (by kernel_rfl) (by kernel_rfl) (fun _ _ _ h => (h : False).elim) (Or.inl ⟨?_, ?_⟩) hHeld ?_
      rotate_left 2
      · (simp only [List.getElem?_toArray, List.getElem?_cons_zero, List.getElem?_cons_succ]; rfl)
      · rfl
      · (intro W hSw; obtain ⟨m0, m1, m2, m3, m4, m5, m6, m7, m8, m9, m10, m11, m12⟩ := hSw.cs; go_simp <;> with_reducible rfl)
      try simp only [Act.put, List.setIfInBounds_toArray, List.set_cons_zero, List.set_cons_succ]
      have hz9 : w5'.heap[w.heap.size]? = some (Obj.cells #[.bool false, .bool false, .int .i64 0, .int .i64 0, .slice none 0 0, .slice none 0 0, .slice none 0 0, .int .i64 0, .bool false, .bool false, .bool false] 58) := (hT5.block w.heap.size (by show _ < (w.alloc (Obj.cells #[.bool false, .bool false, .int .i64 0, .int .i64 0, .slice none 0 0, .slice none 0 0, .slice none 0 0, .int .i64 0, .bool false, .bool false, .bool false] 58)).heap.size; have := hzZ; omega) (fun e => by have := HS.out.ol _ e; omega)).trans HZ0.out
      obtain ⟨e1, e2⟩ := st_fill w5' w.heap.size x' (.slice a1 x'.out.length a4) (.slice a2 x'.inn.length a5) (.slice a3 x'.back.length a6) hz9
      have HS9 := hide (HSt.out _ _ h9 e2)
      have HE1 := hide e1
      have HE2x := hide e2
      have u0' := frozen_of_row w5' w.heap.size 0 _ _ hz9
      have u1' := frozen_of_row w5' w.heap.size 1 _ _ hz9
      have u2' := frozen_of_row w5' w.heap.size 2 _ _ hz9
      have u3' := frozen_of_row w5' w.heap.size 3 _ _ hz9
      have u4' := frozen_of_row w5' w.heap.size 4 _ _ hz9
      have u5' := frozen_of_row w5' w.heap.size 5 _ _ hz9
      have u6' := frozen_of_row w5' w.heap.size 6 _ _ hz9
      have u7' := frozen_of_row w5' w.heap.size 7 _ _ hz9
      have u8' := frozen_of_row w5' w.heap.size 8 _ _ hz9
      have u9' := frozen_of_row w5' w.heap.size 9 _ _ hz9
      have u10' := frozen_of_row w5' w.heap.size 10 _ _ hz9
      have z0' := cell_of_row w5' w.heap.size 0 _ _ _ hz9
      have z1' := cell_of_row w5' w.heap.size 1 _ _ _ hz9
      have z2' := cell_of_row w5' w.heap.size 2 _ _ _ hz9
      have z3' := cell_of_row w5' w.heap.size 3 _ _ _ hz9
      have z4' := cell_of_row w5' w.heap.size 4 _ _ _ hz9
      have z5' := cell_of_row w5' w.heap.size 5 _ _ _ hz9
      have z6' := cell_of_row w5' w.heap.size 6 _ _ _ hz9
      have z7' := cell_of_row w5' w.heap.size 7 _ _ _ hz9
      have z8' := cell_of_row w5' w.heap.size 8 _ _ _ hz9
      have z9' := cell_of_row w5' w.heap.size 9 _ _ _ hz9
      have z10' := cell_of_row w5' w.heap.size 10 _ _ _ hz9
      simp at z0' z1' z2' z3' z4' z5' z6' z7' z8' z9' z10'
      clear e1 e2 hz9 hT5
      refine wpAnyH_ready (rs := [14]) (by kernel_rfl) (by simp) ?_
      refine AllReadyH.cons (o := ?_) ?_ (fun K' hK => ?_) AllReadyH.nil
      rotate_left 1
      · (simp only [List.getElem?_toArray, List.getElem?_cons_zero, List.getElem?_cons_succ]; rfl)
      go_simp
      refine hK.out _ _ (HS9.out) (fun hHeld2 => ?_)
      clear hK K' hHeld
      have hHeld := hHeld2
      clear hHeld2
      try simp only [Act.put, List.setIfInBounds_toArray, List.set_cons_zero, List.set_cons_succ]
      clear u0' z0' u1' z1' u2' z2' u3' z3' u4' z4' u5' z5' u6' z6' u7' z7' u8' z8' u9' z9' u10' z10'
      refine wpAnyH_take (i := 15) (oi := ?_) (v := ?_) ?_ (by kernel_rfl) (by kernel_rfl) (by kernel_rfl) (fun _ _ _ h => (h : False).elim) (Or.inl ⟨?_, ?_⟩) hHeld ?_
      rotate_left 2
      · (simp only [List.getElem?_toArray, List.getElem?_cons_zero, List.getElem?_cons_succ]; rfl)
      · rfl
      · (intro W hSw; obtain ⟨m0, m1, m2, m3, m4, m5, m6, m7, m8, m9, m10, m11, m12⟩ := hSw.cs; go_simp <;> with_reducible rfl)
      try simp only [Act.put, List.setIfInBounds_toArray, List.set_cons_zero, List.set_cons_succ]
      refine wpAnyH_take (i := 16) (oi := ?_) (v := ?_) ?_ (by kernel_rfl) (by kernel_rfl) (by kernel_rfl) (fun _ _ _ h => (h : False).elim) (Or.inl ⟨?_, ?_⟩) hHeld ?_
      rotate_left 2
      · (simp only [List.getElem?_toArray, List.getElem?_cons_zero, List.getElem?_cons_succ]; rfl)
      · rfl
      · (intro W hSw; obtain ⟨m0, m1, m2, m3, m4, m5, m6, m7, m8, m9, m10, m11, m12⟩ := hSw.cs; go_simp <;> with_reducible rfl)
      try simp only [Act.put, List.setIfInBounds_toArray, List.set_cons_zero, List.set_cons_succ]
      refine wpAnyH_done (by kernel_rfl) ?_ _
      refine NoPanic.normal ?_
      clear hHeld h9
      go_wp2
      go_meet
      exact ⟨_, _, _, _, _, _, _, rfl, rfl, rfl, HE1, hide (SOut.fin hT HS5.out (show Below w.heap.size w.drew (w.alloc (Obj.cells #[.bool false, .bool false, .int .i64 0, .int .i64 0, .slice none 0 0, .slice none 0 0, .slice none 0 0, .int .i64 0, .bool false, .bool false, .bool false] 58)).drew from recv_below w.drew (Obj.cells #[.bool false, .bool false, .int .i64 0, .int .i64 0, .slice none 0 0, .slice none 0 0, .slice none 0 0, .int .i64 0, .bool false, .bool false, .bool false] 58)) (by show w.heap.size < (w.alloc (Obj.cells #[.bool false, .bool false, .int .i64 0, .int .i64 0, .slice none 0 0, .slice none 0 0, .slice none 0 0, .int .i64 0, .bool false, .bool false, .bool false] 58)).heap.size; have := hzZ; omega) (Nat.le_refl _) HS.out.ol HE2x.out)⟩
  case rest =>
    obtain ⟨gt, a1, a2, a3, a4, a5, a6, rfl, rfl, rfl, HTb, HSo⟩ := hcut
    clear HP HPz HSt HSb HZ0
    obtain ⟨O', h1, h2, h3, h4, h5⟩ := HSo.out
    have hsrc := HSn.out _ _ (Below.refl _ w).drew h5
    have hz5 : w.heap.size ≤ wc.heap.size := h5.size
    obtain ⟨e1, e2⟩ := BSrc.fill hsrc x' (.slice a1 x'.out.length a4) (.slice a2 x'.inn.length a5) (.slice a3 x'.back.length a6)
    have hgl := HS.out.src.lt
    have hog' : ¬ O' g := fun e => by
      rcases h4 g e with e | e
      · exact HS.out.og e
      · have : w.heap.size ≤ g := e; omega
    have hI : SIn (filled wc g x' (.slice a1 x'.out.length a4) (.slice a2 x'.inn.length a5) (.slice a3 x'.back.length a6)) (fun k => w.heap.size ≤ k ∧ ¬ O' k ∧ k < wc.heap.size) x' (.slice a1 x'.out.length a4) (.slice a2 x'.inn.length a5) (.slice a3 x'.back.length a6) := h1.turned e2 (fun k e _ e3 => by have h6 : k = g := e3; have h7 : w.heap.size ≤ k := e.1; omega)
    have HI := hide hI
    have HE2 := hide e2
    have HE1 := hide e1
    have HA : Hid (At wc O' s' ∧ (∀ j, O' j → j < wc.heap.size) ∧ (∀ k, O' k → O k ∨ w.heap.size ≤ k) ∧ Turned O w wc ∧ ¬ O' g ∧ w.heap.size ≤ wc.heap.size ∧ g < w.heap.size) := hide ⟨h2, h3, h4, (Turned.of_below (S := O) (Below.refl _ w).drew).trans h5 (fun _ _ e => e), hog', hz5, hgl⟩
    obtain ⟨c0, c1, c2, c3, c4, c5, c6, c7, c8, c9, c10, c11, c12⟩ := hsrc.cs
    have f0 := hsrc.soft 0
    have f1 := hsrc.soft 1
    have f2 := hsrc.soft 2
    have f3 := hsrc.soft 3
    have f4 := hsrc.soft 4
    have f5 := hsrc.soft 5
    have f6 := hsrc.soft 6
    have f7 := hsrc.soft 7
    have f8 := hsrc.soft 8
    have f9 := hsrc.soft 9
    have f10 := hsrc.soft 10
    obtain ⟨t0, t1, t2, t3, t4, t5, t6, t7, t8, t9, t10⟩ := HTb.out.cs
    clear h1 h2 h3 h4 h5 e1 e2 hsrc hI hog' HSn HSo hz5 hgl
    unfold filled at HI HE2 HE1
    go_upto_region 7 with fail
    clear c0 c1 c2 c3 c4 c5 c6 c7 c8 c9 c10 c11 c12 f0 f1 f2 f3 f4 f5 f6 f7 f8 f9 f10 t0 t1 t2 t3 t4 t5 t6 t7 t8 t9 t10
    generalize (((((((((((wc.setCell ⟨g, 0, none⟩ (.bool x'.rd)).setCell ⟨g, 1, none⟩ (.bool x'.wt)).setCell ⟨g, 2, none⟩ (.int .i64 x'.mode)).setCell ⟨g, 3, none⟩ (.int .i64 x'.size)).setCell ⟨g, 4, none⟩ (.slice a1 x'.out.length a4)).setCell ⟨g, 5, none⟩ (.slice a2 x'.inn.length a5)).setCell ⟨g, 6, none⟩ (.slice a3 x'.back.length a6)).setCell ⟨g, 7, none⟩ (.int .i64 x'.dir)).setCell ⟨g, 8, none⟩ (.bool x'.fin)).setCell ⟨g, 9, none⟩ (.bool x'.bad)).setCell ⟨g, 10, none⟩ (.bool x'.closed)) = w4 at *
    obtain ⟨c0, c1, c2, c3, c4, c5, c6, c7, c8, c9, c10, c11, c12⟩ := HE1.out.cs
    have f5 := HE1.out.soft 5
    have f12 := HE1.out.soft 12
    have fin : ∀ w5 y' far' i2 f2, BSrc w5 g y' (.slice a1 x'.out.length a4) i2 (.slice a3 x'.back.length a6) (.iface T v) f2 → y'.wh far' = x' → y'.out = x'.out → y'.back = x'.back → (far' ≠ [] → y'.inn = [] ∧ y'.back = []) → Sl w5 i2 y'.inn → Sl w5 f2 far' → (∀ k, i2.ownBlock = some k ∨ f2.ownBlock = some k → (Value.slice a2 x'.inn.length a5).ownBlock = some k ∨ (Value.slice fa 0 fc).ownBlock = some k) → Turned (fun k => k = g) w4 w5 →
        ∃ O' y' far' o' i' b' f', y'.wh far' = x' ∧ BSrcOn At w5 O' s' B g y' far' o' i' b' (.iface T v) f' ∧ (∀ k, O' k → O k ∨ w.heap.size ≤ k) ∧ (∀ k, o'.ownBlock = some k ∨ i'.ownBlock = some k ∨ b'.ownBlock = some k ∨ f'.ownBlock = some k → w.heap.size ≤ k ∨ (Value.slice fa 0 fc).ownBlock = some k) ∧ Turned (fun k => O k ∨ k = g ∨ w.heap.size ≤ k) w w5 := fun w5 y' far' i2 f2 s1 hwh hyo hyb hnr s2 s3 s4 s5 => by
      obtain ⟨b1, b2, b3, b4, b5, b6, b7⟩ := HA.out
      have z1 := HE2.out.size
      have z2 := s5.size
      have hBs := HBs.out
      have inn : ∀ k, w.heap.size ≤ k ∧ ¬ O' k ∧ k < wc.heap.size → (B ≤ k ∧ ¬ O' k ∧ k ≠ g ∧ k < w5.heap.size) := fun k e => ⟨by omega, e.2.1, by omega, by omega⟩
      have fin' : ∀ k, (Value.slice fa 0 fc).ownBlock = some k → (B ≤ k ∧ ¬ O' k ∧ k ≠ g ∧ k < w5.heap.size) := fun k e => by
        have := HS.out.fp k e
        exact ⟨this.1, fun e2 => by rcases b3 k e2 with e3 | e3; exact this.2.1 e3; have := this.2.2.2; omega, this.2.2.1, by have := this.2.2.2; omega⟩
      have bk : ∀ k, i2.ownBlock = some k ∨ f2.ownBlock = some k → (B ≤ k ∧ ¬ O' k ∧ k ≠ g ∧ k < w5.heap.size) := fun k e => by
        rcases s4 k e with e | e
        · exact inn k (HI.out.pi k e)
        · exact fin' k e
      have tr : ∀ {u : Value} {l : List UInt8}, Sl w4 u l → (∀ k, u.ownBlock = some k → k ≠ g) → Sl w5 u l := fun q e => q.turned s5 (fun k e2 _ => e k e2)
      refine ⟨O', y', far', _, _, _, _, hwh, ⟨s1, ⟨by rw [hyo]; exact tr HI.out.so (fun k e => (inn k (HI.out.po k e)).2.2.1), s2, by rw [hyb]; exact tr HI.out.sb (fun k e => (inn k (HI.out.pb k e)).2.2.1), fun k e => inn k (HI.out.po k e), fun k e => bk k (.inl e), fun k e => inn k (HI.out.pb k e)⟩, s3, fun k e => bk k (.inr e), (hT s').keep b1 (fun j e hj => (s5.block j (by omega) (fun e2 => b5 (e2 ▸ e))).trans (HE2.out.block j hj (fun e2 => b5 (e2 ▸ e)))) (by omega), b5, HS.out.gB, fun j e => by have := b2 j e; omega, hnr⟩, b3, ?_, ?_⟩
      · intro k e
        have bi : i2.ownBlock = some k ∨ f2.ownBlock = some k → w.heap.size ≤ k ∨ (Value.slice fa 0 fc).ownBlock = some k := fun e => (s4 k e).imp (fun e => (HI.out.pi k e).1) id
        rcases e with e | e | e | e
        · exact .inl (HI.out.po k e).1
        · exact bi (.inl e)
        · exact .inl (HI.out.pb k e).1
        · exact bi (.inr e)
      exact ((b4.mono (fun k e => (.inl e : O k ∨ k = g ∨ w.heap.size ≤ k))).trans (HE2.out.mono (fun k e => (.inr (.inl e) : O k ∨ k = g ∨ w.heap.size ≤ k))) (fun _ _ e => e)).trans (s5.mono (fun k e => (.inr (.inl e) : O k ∨ k = g ∨ w.heap.size ≤ k))) (fun _ _ e => e)
    have HFin := hide fin
    have HFl : Hid (Sl w4 (.slice fa 0 fc) []) := hide (slNone HS.out.fl)
    have HIb : Hid (∀ k, (Value.slice a2 x'.inn.length a5).ownBlock = some k → k ≠ g) := hide (fun k e e2 => by have := (HI.out.pi k e).1; have := HA.out.2.2.2.2.2.2; omega)
    clear fin
    by_cases hb0 : x'.back = []
    · have d1 : ((x'.back.length : Int) == 0) = true := by rw [hb0]; rfl
      have d2 : (x'.back.length : Int) = 0 := by rw [hb0]; rfl
      have HB0 := hide hb0
      clear hb0
      go_wp2
      go_ret2
      obtain ⟨O2, y', far', o', i', b', f', q1, q2, q3, q4, q5⟩ := HFin.out _ (x'.near []) x'.inn _ _ (HE1.out.two [] (.slice none 0 0) (.slice a2 x'.inn.length a5)) (by simp [SS.wh, SS.near]) rfl rfl (fun _ => ⟨rfl, HB0.out⟩) Sl.nil (HI.out.si.turned (((Turned.refl (fun k => k = g) w4).set (.inl rfl)).set (.inl rfl)) (fun k e _ => HIb.out k e)) (fun k e => by rcases e with e | e; simp [Value.ownBlock] at e; exact .inl e) (((Turned.refl (fun k => k = g) w4).set (.inl rfl)).set (.inl rfl))
      exact ⟨O2, y', far', o', i', b', f', rfl, q1, q2, q3, fun k e => (q4 k e).imp id (fun e => .inr (.inr (.inr e))), q5⟩
    · have d1 : ((x'.back.length : Int) == 0) = false := by simpa using hb0
      have d2 : ¬ (x'.back.length : Int) = 0 := by simpa using hb0
      clear hb0
      go_wp2
      go_ret2
      obtain ⟨O2, y', far', o', i', b', f', q1, q2, q3, q4, q5⟩ := HFin.out _ x' [] _ _ HE1.out (wh_nil x') rfl rfl (fun e => absurd rfl e) HI.out.si HFl.out (fun k e => e) (Turned.refl _ _)
      exact ⟨O2, y', far', o', i', b', f', rfl, q1, q2, q3, fun k e => (q4 k e).imp id (fun e => .inr (.inr (.inr e))), q5⟩
theorem bnext_any {S : Type} {D : RawD S} {T : TypeId} {v : Value} {fr fw : FuncId} {rok wok : S → Prop} {At : World → (Nat → Prop) → S → Prop} (R : RawM D T v fr fw rok wok At) (hT : ∀ s, OAt (fun w O => At w O s)) {G : Nat → S → Prop} (hG : Bears D rok wok G) {w : World} {O : Nat → Prop} {s : S} {B g : Nat} {y : SS} {far : List UInt8} {o i b f : Value} (h : BSrcOn At w O s B g y far o i b (.iface T v) f) (hB : B ≤ w.heap.size) (hg : G 2 s) (hm : (y.wh far).may = true) :
    Calls Tryz.prog 208 #[.pointer (some ⟨g, 0, none⟩)] w fun e w' => ∃ O' y' far' o' i' b' f', e = .returned (.tuple #[.int .u8 (((y.wh far).get D s).2.1.toNat : Int), .int .i64 ((y.wh far).get D s).2.2.1]) ∧ y'.wh far' = ((y.wh far).get D s).1 ∧ BSrcOn At w' O' ((y.wh far).get D s).2.2.2 B g y' far' o' i' b' (.iface T v) f' ∧ (∀ k, O' k → O k ∨ w.heap.size ≤ k) ∧ (∀ k, o'.ownBlock = some k ∨ i'.ownBlock = some k ∨ b'.ownBlock = some k ∨ f'.ownBlock = some k → w.heap.size ≤ k ∨ o.ownBlock = some k ∨ i.ownBlock = some k ∨ b.ownBlock = some k ∨ f.ownBlock = some k) ∧ Turned (fun k => O k ∨ k = g ∨ w.heap.size ≤ k) w w' := by
  by_cases hf : far = []
  · subst hf
    rw [wh_nil] at hm ⊢
    exact bnext_near R hT hG h hB hg hm
  · obtain ⟨hi, hb⟩ := h.nr hf
    refine (bnext_far hT h hf).mono ?_
    rintro _ w' ⟨c, t, f', rfl, rfl, h1, h2, h3⟩
    rw [get_ahead D y c t s hi hb hm]
    exact ⟨O, y, t, o, i, b, f', rfl, rfl, h1, fun _ e => .inl e, fun k e => .inr (e.imp id (fun e => e.imp id (fun e => e.imp id (h2 k)))), h3.mono (fun k e => .inr (.inl e))⟩
end Go.Proofs.YtmlfcbbgelkbbaaGreat

/- Lines: the next byte of a source. -/
namespace Go.Proofs.YtmlfcbbgelkbbaaGreat
open Go.RowKit


end Go.Proofs.YtmlfcbbgelkbbaaGreat

/- Lines: the whole state of a source. -/
namespace Go.Proofs.YtmlfcbbgelkbbaaGreat
open Go.RowKit
end Go.Proofs.YtmlfcbbgelkbbaaGreat

/- Lines: bytes are gathered. -/
namespace Go.Proofs.YtmlfcbbgelkbbaaGreat
open Go.RowKit
def lenV : Value → Nat
  | .slice _ n _ => n
  | _ => 0
theorem lone_bys (w : World) (c : UInt8) : Bys (w.alloc (Obj.cells #[.int .u8 (c.toNat : Int)] 5)) (.slice (some ⟨w.heap.size, 0, none⟩) 1 1) [c] := .inr (.inr ⟨_, _, _, rfl, Nat.zero_lt_one, fun j hj => by
  obtain rfl : j = 0 := by simpa using hj
  exact cell_of_row _ w.heap.size 0 _ _ _ (heap_alloc_new w _)⟩)
def GOut {S : Type} (At : World → (Nat → Prop) → S → Prop) (w : World) (O : Nat → Prop) (R : SS × List UInt8 × Int × S) (o i b u : Value) (w' : World) : Prop := ∃ O', (SIn w' (fun k => w.heap.size ≤ k ∧ ¬ O' k ∧ k < w'.heap.size) R.1 o i b ∧ At w' O' R.2.2.2 ∧ (∀ j, O' j → j < w'.heap.size) ∧ (∀ k, O' k → O k ∨ w.heap.size ≤ k) ∧ Turned O w w') ∧ w'.ownsRow w.heap.size 5 1 u R.2.1.length (R.2.1.map bv) ∧ ∀ k, u.ownBlock = some k → ¬ O' k ∧ o.ownBlock ≠ some k ∧ i.ownBlock ≠ some k ∧ b.ownBlock ≠ some k

end Go.Proofs.YtmlfcbbgelkbbaaGreat

/- Lines: Until, Get. -/
namespace Go.Proofs.YtmlfcbbgelkbbaaGreat
open Go.RowKit
theorem GOut.fin {S : Type} {At : World → (Nat → Prop) → S → Prop} (hT : ∀ s, OAt (fun w O => At w O s)) {w w1 w2 w4 : World} {O : Nat → Prop} {R : SS × List UInt8 × Int × S} {o i b u : Value} (h : GOut At w1 O R o i b u w2) (hB : Below w.heap.size w w1) (hO : ∀ j, O j → j < w.heap.size) (t : Turned (fun k => w.heap.size ≤ k ∧ k < w1.heap.size) w2 w4) : GOut At w O R o i b u w4 := by
  obtain ⟨O', ⟨h1, h2, h3, h4, h5⟩, h6, h7⟩ := h
  have z1 := hB.size
  have z2 := h5.size
  have z3 := t.size
  have hno : ∀ j, O' j → ¬ (w.heap.size ≤ j ∧ j < w1.heap.size) := fun j e e2 => by
    rcases h4 j e with e3 | e3
    · have := hO j e3; omega
    · omega
  refine ⟨O', ⟨(h1.turned t fun k e _ e' => by have := e.1; omega).mono fun k e => ⟨by have := e.1; omega, e.2.1, by have := e.2.2; omega⟩, (hT _).keep h2 (fun j e hj => t.block j hj (hno j e)) z3, fun j e => Nat.lt_of_lt_of_le (h3 j e) z3, fun k e => (h4 k e).imp id (fun e => by omega), ?_⟩, owns_mono (owns_turned h6 t (fun k e e2 => by have := (h6.lt k e).1; omega)) z1, h7⟩
  exact ((Turned.of_below (S := O) hB).trans h5 (fun _ _ e => e)).trans t (fun k hk e => by omega)

end Go.Proofs.YtmlfcbbgelkbbaaGreat

/- Lines: what was gathered is kept beside the stream. -/
namespace Go.Proofs.YtmlfcbbgelkbbaaGreat
open Go.RowKit
end Go.Proofs.YtmlfcbbgelkbbaaGreat

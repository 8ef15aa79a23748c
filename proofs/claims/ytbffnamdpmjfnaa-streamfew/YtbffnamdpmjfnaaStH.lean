/- Streams: a byte is put into the buffer. -/
import Derived.Test.YtbffnamdpmjfnaaStG
namespace Go.Proofs.Ytbffnamdpmjfnaa
open Go.RowKit

/-- What is left of a way when a byte was laid behind. -/
structure Laid {S : Type} (At : World → (Nat → Prop) → S → Prop) (w : World) (O : Nat → Prop) (s : S) (B g : Nat) (x : SS) (o i b r : Value) (c : UInt8) (L : List UInt8) (a : Option Addr) (k : Nat) (w2 : World) : Prop where
  len : L.length = x.out.length + 1
  eq : L = x.out ++ [c]
  run : (Builtin.append_ #[28, 28] 28 #[o, .slice (some ⟨w.heap.size, 0, none⟩) 1 1]).run Try.prog (w.alloc (Obj.cells #[.int .u8 (c.toNat : Int)] 5)) = .ok (.slice a L.length k) w2
  d4 : w2.cell? ⟨g, 4, none⟩ = some o
  g4 : w2.frozen? ⟨g, 4, none⟩ = false
  on : On At (w2.setCell ⟨g, 4, none⟩ (.slice a L.length k)) O s B g { x with out := L } (.slice a L.length k) i b r
  tu : Turned (fun k => O k ∨ B ≤ k) w (w2.setCell ⟨g, 4, none⟩ (.slice a L.length k))
theorem laid_any {S : Type} {At : World → (Nat → Prop) → S → Prop} (hT : ∀ s, OAt (fun w O => At w O s)) {w : World} {O : Nat → Prop} {s : S} {B g : Nat} {x : SS} {o i b r : Value} (c : UInt8) (h : On At w O s B g x o i b r) (ho : w.ownsRow B 5 1 o x.out.length (x.out.map bv)) (hn : x.out.length ≤ 65536) (hB : B ≤ w.heap.size) (hi : x.inn = []) (hb : x.back = []) :
    ∃ L a k w2, Laid At w O s B g x o i b r c L a k w2 := by
  obtain ⟨a, k, w2, hrun, hIn, hTu⟩ := out_more c h.ls ho hn hB h.ol h.way.lt hi hb
  have hz := hTu.size
  have hW := h.way.turned hTu (fun e => e.2.2 rfl)
  have hR := (hT s).keep h.raw (fun j e hj => hTu.block j hj (fun e' => e'.2.1 e)) hz
  refine ⟨x.out ++ [c], a, k, w2, by simp, rfl, hrun, hW.cs.2.2.2.2.1, hW.soft 4, ?_, ?_⟩
  · have hWy := hW.set (x' := { x with out := x.out ++ [c] }) (o' := .slice a (x.out ++ [c]).length k) (i' := i) (b' := b) 4 (.slice a (x.out ++ [c]).length k) rfl
    have hz3 : (w2.setCell ⟨g, 4, none⟩ (.slice a (x.out ++ [c]).length k)).heap.size = w2.heap.size := by simp [World.setCell]
    have hT3 : Turned (fun k => k = g) w2 (w2.setCell ⟨g, 4, none⟩ (.slice a (x.out ++ [c]).length k)) := (Turned.refl (fun k => k = g) w2).set (.inl rfl)
    exact ⟨hWy, (hIn.turned hT3 fun k e _ => e.2.2.1).mono fun k e => ⟨e.1, e.2.1, e.2.2.1, by rw [hz3]; exact e.2.2.2⟩, (hT s).keep hR (fun j e hj => hT3.block j hj (fun e' => h.og (e' ▸ e))) hT3.size, h.og, h.gB, fun j e => by rw [hz3]; exact Nat.lt_of_lt_of_le (h.ol j e) hz⟩
  · exact (hTu.mono fun k e => .inr e.1).set (.inl (.inr h.gB))
set_option maxRecDepth 100000 in
set_option maxHeartbeats 4000000 in
theorem put_lay {S : Type} {D : RawD S} {T : TypeId} {v : Value} {fr fw : FuncId} {rok wok : S → Prop} {At : World → (Nat → Prop) → S → Prop} (R : RawM D T v fr fw rok wok At) (hT : ∀ s, OAt (fun w O => At w O s)) {w : World} {O : Nat → Prop} {s : S} {B g : Nat} {x : SS} {o i b : Value} (c : UInt8) (h : On At w O s B g x o i b (.iface T v)) (ho : w.ownsRow B 5 1 o x.out.length (x.out.map bv)) (hB : B ≤ w.heap.size) (hm : ¬ x.mode = 1) (hs : x.size ≤ 65536) (hf : (x.out.length : Int) < x.size) (hi : x.inn = []) (hb : x.back = []) (hok : putOk D wok (x.out ++ [c]) (putF (x.out ++ [c])) s 0 0) :
    Calls Try.prog 22 #[.pointer (some ⟨g, 0, none⟩), .int .u8 (c.toNat : Int)] w fun en w' => en = .returned (.int .i64 (x.lay D s c).2.1) ∧ WStep At w O B g (.iface T v) (x.lay D s c).1 (x.lay D s c).2.2 w' := by
  obtain ⟨oa, oc, rfl, -⟩ := h.ls.so
  have hgB := h.gB
  have HF0 := hide (isFull_any x g oa oc i b _ w h.way)
  have hne : decide ((x.out.length : Int) = x.size) = false := decide_eq_false (by omega)
  rw [hne] at HF0
  have HOn := hide h
  obtain ⟨c0, c1, c2, c3, c4, c5, c6, c7, c8, c9, c10, c11⟩ := h.way.cs
  have hm1 : (x.mode == 1) = false := by simp [hm]
  generalize hq : x.lay D s c = q
  obtain ⟨qx, qe, qs⟩ := q
  unfold SS.lay at hq
  have HOw := hide ho
  clear h ho hne c0 c1 c3 c4 c5 c6 c7 c8 c9 c10 c11
  go_enter Try.func22, Try.ntmps22
  go_wp2_with fail
  refine HF0.out.mono ?_
  rintro _ w1 ⟨rfl, hB1⟩
  have HOn1 := hide (On.below hT HOn.out hB1)
  have HT1 := hide (Turned.of_below (S := fun k => O k ∨ B ≤ k) hB1)
  have hs1 := hB1.size
  have hOw1 := owns_below HOw.out hB1
  clear hB1 c2
  obtain ⟨L, a, k, w2, hL⟩ := laid_any hT c HOn1.out hOw1 (by omega) (by omega) hi hb
  have HL := hide hL
  have HLl := hide hL.len
  have HLe := hide hL.eq
  rw [← hL.eq] at hok
  rw [← hL.eq] at hq
  have HOk := hide hok
  clear hL hOw1 hok
  have HR := hide HL.out.run
  have c4 := HOn1.out.way.cs.2.2.2.2.1
  have d4 := HL.out.d4
  have g4 := HL.out.g4
  go_wp2_with (first | (at_builtin; refine Lib.wpList_append_run _ rfl _ _ _ _ rfl _ _ rfl rfl _ _ HR.out ?_) | fail)
  refine (isFull_any _ g _ _ i b _ _ HL.out.on.way).mono ?_
  rintro _ w3 ⟨rfl, hB3⟩
  have HOn3 := hide (On.below hT HL.out.on hB3)
  have HT3 := hide ((HT1.out.trans HL.out.tu (fun _ _ e => e)).trans (Turned.of_below hB3) (fun _ _ e => e))
  have hs3 := hB3.size
  clear hB3 c4 d4 g4
  by_cases hfull : ((x.out.length + 1 : Nat) : Int) = x.size
  · rw [if_pos (.inl hfull)] at hq
    have HQ := hide hq
    rw [show decide ((L.length : Int) = x.size) = true from decide_eq_true (by have := HLl.out; omega)]
    clear hq
    go_wp2_with fail
    refine (deliver_any R hT HOn3.out (by show L.length ≤ 65536; have := HLl.out; omega) HOk.out).mono ?_
    rintro _ w4 ⟨rfl, o', O', hO4, -, hO5, hT4⟩
    have HOn4 := hide hO4
    have HO5 : Hid (∀ k, O' k → O k ∨ w.heap.size ≤ k) := hide (fun k e => (hO5 k e).imp id (fun e => by have := HT3.out.size; omega))
    have HT4 := hide (HT3.out.trans hT4 (fun k _ e => e.imp id (fun e => by omega)))
    clear hO4 hO5 hT4
    rw [HQ.out] at HOn4 ⊢
    go_wp2
    go_ret
    exact ⟨rfl, _, _, _, O', HOn4.out, HO5.out, HT4.out⟩
  have hfd : decide ((L.length : Int) = x.size) = false := decide_eq_false (by have := HLl.out; omega)
  rw [hfd]
  obtain ⟨c0, c1, c2, c3, c4, c5, c6, c7, c8, c9, c10, c11⟩ := HOn3.out.way.cs
  by_cases hl2 : x.mode = 2
  · by_cases hc : c = 10
    · rw [if_pos (.inr ⟨hl2, hc⟩)] at hq
      have HQ := hide hq
      have hcc : ((c.toNat : Int) == 10) = true := by rw [hc]; rfl
      have hce : (c.toNat : Int) = 10 := by rw [hc]; rfl
      rw [hl2] at c2
      clear hq hc hfd hm1 hm
      go_wp2_with fail
      refine (deliver_any R hT HOn3.out (by show L.length ≤ 65536; have := HLl.out; omega) HOk.out).mono ?_
      rintro _ w4 ⟨rfl, o', O', hO4, -, hO5, hT4⟩
      have HOn4 := hide hO4
      have HO5 : Hid (∀ k, O' k → O k ∨ w.heap.size ≤ k) := hide (fun k e => (hO5 k e).imp id (fun e => by have := HT3.out.size; omega))
      have HT4 := hide (HT3.out.trans hT4 (fun k _ e => e.imp id (fun e => by omega)))
      clear hO4 hO5 hT4 c0 c1 c2 c3 c4 c5 c6 c7 c8 c9 c10 c11
      rw [HQ.out] at HOn4 ⊢
      go_wp2
      go_ret
      exact ⟨rfl, _, _, _, O', HOn4.out, HO5.out, HT4.out⟩
    · rw [if_neg (fun e => e.elim hfull (fun e => hc e.2))] at hq
      obtain ⟨rfl, rfl, rfl⟩ : { x with out := L } = qx ∧ 0 = qe ∧ s = qs := by simpa using hq
      have hcn : ¬ (c.toNat : Int) = 10 := fun e => hc (UInt8.toNat_inj.1 (by show c.toNat = 10; omega))
      have hcc : ((c.toNat : Int) == 10) = false := by simp only [beq_eq_false_iff_ne]; exact hcn
      rw [hl2] at c2
      clear hq hc hfd hm1 hm
      go_wp2
      go_ret
      exact ⟨rfl, _, _, _, O, HOn3.out, fun _ e => .inl e, HT3.out⟩
  · rw [if_neg (fun e => e.elim hfull (fun e => hl2 e.1))] at hq
    obtain ⟨rfl, rfl, rfl⟩ : { x with out := L } = qx ∧ 0 = qe ∧ s = qs := by simpa using hq
    have hm2 : (x.mode == 2) = false := by simp [hl2]
    clear hq hfd
    go_wp2
    go_ret
    exact ⟨rfl, _, _, _, O, HOn3.out, fun _ e => .inl e, HT3.out⟩
set_option maxRecDepth 100000 in
set_option maxHeartbeats 4000000 in
theorem put_full {S : Type} {D : RawD S} {T : TypeId} {v : Value} {fr fw : FuncId} {rok wok : S → Prop} {At : World → (Nat → Prop) → S → Prop} (R : RawM D T v fr fw rok wok At) (hT : ∀ s, OAt (fun w O => At w O s)) {w : World} {O : Nat → Prop} {s : S} {B g : Nat} {x : SS} {o i b : Value} (c : UInt8) (h : On At w O s B g x o i b (.iface T v)) (ho : w.ownsRow B 5 1 o x.out.length (x.out.map bv)) (hB : B ≤ w.heap.size) (hm : ¬ x.mode = 1) (hs : x.size ≤ 65536) (hf : (x.out.length : Int) = x.size) (h1 : 1 ≤ x.size) (hi : x.inn = []) (hb : x.back = []) (hok0 : putOk D wok x.out (putF x.out) s 0 0) (hok : (x.deliver D s).2.1 = 0 → putOk D wok [c] (putF [c]) (x.deliver D s).2.2 0 0) :
    Calls Try.prog 22 #[.pointer (some ⟨g, 0, none⟩), .int .u8 (c.toNat : Int)] w fun en w' => en = .returned (.int .i64 ((if (x.deliver D s).2.1 = 0 then (x.deliver D s).1.lay D (x.deliver D s).2.2 c else x.deliver D s)).2.1) ∧ WStep At w O B g (.iface T v) ((if (x.deliver D s).2.1 = 0 then (x.deliver D s).1.lay D (x.deliver D s).2.2 c else x.deliver D s)).1 ((if (x.deliver D s).2.1 = 0 then (x.deliver D s).1.lay D (x.deliver D s).2.2 c else x.deliver D s)).2.2 w' := by
  obtain ⟨oa, oc, rfl, -⟩ := h.ls.so
  have hgB := h.gB
  have HF0 := hide (isFull_any x g oa oc i b _ w h.way)
  have hne : decide ((x.out.length : Int) = x.size) = true := decide_eq_true hf
  rw [hne] at HF0
  have HOn := hide h
  obtain ⟨c0, c1, c2, c3, c4, c5, c6, c7, c8, c9, c10, c11⟩ := h.way.cs
  have hm1 : (x.mode == 1) = false := by simp [hm]
  generalize hq : (if (x.deliver D s).2.1 = 0 then (x.deliver D s).1.lay D (x.deliver D s).2.2 c else x.deliver D s) = q
  obtain ⟨qx, qe, qs⟩ := q
  have HDel := hide (fun (W : World) (hW : Below w.heap.size w W) => deliver_any R hT (On.below hT h hW) (by omega) hok0)
  have HDok := hide (deliver_ok D x s)
  obtain ⟨dx, de, ds, hd⟩ : ∃ dx de ds, x.deliver D s = (dx, de, ds) := ⟨_, _, _, rfl⟩
  rw [hd] at hq hok HDel HDok
  simp only at hq hok HDel HDok
  clear h ho hne hd hok0 c0 c1 c3 c4 c5 c6 c7 c8 c9 c10 c11
  go_enter Try.func22, Try.ntmps22
  go_wp2_with fail
  refine HF0.out.mono ?_
  rintro _ w1 ⟨rfl, hB1⟩
  have hs1 := hB1.size
  have HB1 := hide hB1
  clear hB1 c2
  go_wp2_with fail
  refine (HDel.out _ HB1.out).mono ?_
  rintro _ w2 ⟨rfl, o', O', hO4, hnil, hO5, hT4⟩
  have HOn2 := hide hO4
  have hs2 := hT4.size
  have HO5 : Hid (∀ k, O' k → O k ∨ w.heap.size ≤ k) := hide (fun k e => (hO5 k e).imp id (fun e => by omega))
  have HT2 := hide ((Turned.of_below (S := fun k => O k ∨ B ≤ k) HB1.out).trans hT4 (fun k _ e => e.imp id (fun e => by omega)))
  clear hO4 hO5 hT4
  by_cases hde : de = 0
  case neg =>
    rw [if_neg hde] at hq
    obtain ⟨rfl, rfl, rfl⟩ : dx = qx ∧ de = qe ∧ ds = qs := by simpa using hq
    have hd1 : (de != 0) = true := by simp [hde]
    clear hq
    go_wp2
    go_ret
    exact ⟨rfl, _, _, _, O', HOn2.out, HO5.out, HT2.out⟩
  rw [if_pos hde] at hq
  obtain rfl := hnil hde
  have hdx := HDok.out hde
  subst hde hdx
  unfold SS.lay at hq
  have hok := hok rfl
  clear hnil
  obtain ⟨L, a, k, w2x, hL⟩ := laid_any hT c HOn2.out (World.ownsRow_nil _ _ _ _) (by simp) (by omega) hi hb
  have HL := hide hL
  have HLl := hide hL.len
  have HLe := hide hL.eq
  rw [show ([c] : List UInt8) = L from hL.eq.symm] at hok
  rw [← hL.eq] at hq
  have HOk := hide hok
  clear hL hok
  have HR := hide HL.out.run
  have c4 := HOn2.out.way.cs.2.2.2.2.1
  have d4 := HL.out.d4
  have g4 := HL.out.g4
  go_wp2_with (first | (at_builtin; refine Lib.wpList_append_run _ rfl _ _ _ _ rfl _ _ rfl rfl _ _ HR.out ?_) | fail)
  refine (isFull_any _ g _ _ i b _ _ HL.out.on.way).mono ?_
  rintro _ w3 ⟨rfl, hB3⟩
  have HOn3 := hide (On.below hT HL.out.on hB3)
  have HT3 := hide ((HT2.out.trans HL.out.tu (fun k _ e => e.elim (fun e => (HO5.out k e).imp id (fun e => Nat.le_trans hB e)) .inr)).trans (Turned.of_below hB3) (fun _ _ e => e))
  have hs3 := hB3.size
  clear hB3 c4 d4 g4
  by_cases hfull : ((([] : List UInt8).length + 1 : Nat) : Int) = x.size
  · rw [if_pos (.inl hfull)] at hq
    have HQ := hide hq
    rw [show decide ((L.length : Int) = x.size) = true from decide_eq_true (by have := HLl.out; simp only [List.length_nil] at *; omega)]
    clear hq
    go_wp2_with fail
    refine (deliver_any R hT HOn3.out (by show L.length ≤ 65536; have := HLl.out; simp only [List.length_nil] at this; omega) HOk.out).mono ?_
    rintro _ w4 ⟨rfl, o2, O2, hO4, -, hO6, hT4⟩
    have HOn4 := hide hO4
    have HO6 : Hid (∀ k, O2 k → O k ∨ w.heap.size ≤ k) := hide (fun k e => (hO6 k e).elim (fun e => HO5.out k e) (fun e => .inr (by have := HT3.out.size; omega)))
    have HT4 := hide (HT3.out.trans hT4 (fun k _ e => e.elim (fun e => (HO5.out k e).imp id (fun e => Nat.le_trans hB e)) (fun e => .inr (by omega))))
    clear hO4 hO6 hT4
    rw [HQ.out] at HOn4 ⊢
    go_wp2
    go_ret
    exact ⟨rfl, _, _, _, O2, HOn4.out, HO6.out, HT4.out⟩
  have hfd : decide ((L.length : Int) = x.size) = false := decide_eq_false (by have := HLl.out; simp only [List.length_nil] at *; omega)
  rw [hfd]
  obtain ⟨c0, c1, c2, c3, c4, c5, c6, c7, c8, c9, c10, c11⟩ := HOn3.out.way.cs
  by_cases hl2 : x.mode = 2
  · by_cases hc : c = 10
    · rw [if_pos (.inr ⟨hl2, hc⟩)] at hq
      have HQ := hide hq
      have hcc : ((c.toNat : Int) == 10) = true := by rw [hc]; rfl
      have hce : (c.toNat : Int) = 10 := by rw [hc]; rfl
      rw [hl2] at c2
      clear hq hc hfd hm1 hm
      go_wp2_with fail
      refine (deliver_any R hT HOn3.out (by show L.length ≤ 65536; have := HLl.out; simp only [List.length_nil] at this; omega) HOk.out).mono ?_
      rintro _ w4 ⟨rfl, o2, O2, hO4, -, hO6, hT4⟩
      have HOn4 := hide hO4
      have HO6 : Hid (∀ k, O2 k → O k ∨ w.heap.size ≤ k) := hide (fun k e => (hO6 k e).elim (fun e => HO5.out k e) (fun e => .inr (by have := HT3.out.size; omega)))
      have HT4 := hide (HT3.out.trans hT4 (fun k _ e => e.elim (fun e => (HO5.out k e).imp id (fun e => Nat.le_trans hB e)) (fun e => .inr (by omega))))
      clear hO4 hO6 hT4 c0 c1 c2 c3 c4 c5 c6 c7 c8 c9 c10 c11
      rw [HQ.out] at HOn4 ⊢
      go_wp2
      go_ret
      exact ⟨rfl, _, _, _, O2, HOn4.out, HO6.out, HT4.out⟩
    · rw [if_neg (fun e => e.elim hfull (fun e => hc e.2))] at hq
      obtain ⟨rfl, rfl, rfl⟩ : { x with out := L } = qx ∧ 0 = qe ∧ ds = qs := by simpa using hq
      have hcn : ¬ (c.toNat : Int) = 10 := fun e => hc (UInt8.toNat_inj.1 (by show c.toNat = 10; omega))
      have hcc : ((c.toNat : Int) == 10) = false := by simp only [beq_eq_false_iff_ne]; exact hcn
      rw [hl2] at c2
      clear hq hc hfd hm1 hm
      go_wp2
      go_ret
      exact ⟨rfl, _, _, _, O', HOn3.out, HO5.out, HT3.out⟩
  · rw [if_neg (fun e => e.elim hfull (fun e => hl2 e.1))] at hq
    obtain ⟨rfl, rfl, rfl⟩ : { x with out := L } = qx ∧ 0 = qe ∧ ds = qs := by simpa using hq
    have hm2 : (x.mode == 2) = false := by simp [hl2]
    clear hq hfd
    go_wp2
    go_ret
    exact ⟨rfl, _, _, _, O', HOn3.out, HO5.out, HT3.out⟩
end Go.Proofs.Ytbffnamdpmjfnaa

/- Streams: what was put is delivered. -/
import Derived.Test.YtbffnamdpmjfnaaStE
namespace Go.Proofs.Ytbffnamdpmjfnaa
open Go.RowKit

theorem On.step {S : Type} {At : World → (Nat → Prop) → S → Prop} (hT : ∀ s, OAt (fun w O => At w O s)) {w w1 : World} {O : Nat → Prop} {s s' : S} {B g : Nat} {x : SS} {o i b r : Value} (h : On At w O s B g x o i b r) (hS : RStep At w O s' w1) : ∃ O', On At w1 O' s' B g x o i b r ∧ (∀ k, O' k → O k ∨ w.heap.size ≤ k) ∧ Turned O w w1 := by
  obtain ⟨O', h1, h2, h3⟩ := hS
  have hz := h3.size
  refine ⟨fun k => O' k ∧ k < w1.heap.size, ⟨h.way.turned h3 h.og, (h.ls.turned h3 fun k e _ => e.2.1).mono fun k e => ⟨e.1, fun e' => ?_, e.2.2.1, by have := e.2.2.2; omega⟩, (hT s').trim h1, fun e => ?_, h.gB, fun j e => e.2⟩, fun k e => h2 k e.1, h3⟩
  · rcases h2 k e'.1 with e2 | e2
    · exact e.2.1 e2
    · have := e.2.2.2; omega
  · rcases h2 g e.1 with e2 | e2
    · exact h.og e2
    · have := h.way.lt; omega
theorem On.below {S : Type} {At : World → (Nat → Prop) → S → Prop} (hT : ∀ s, OAt (fun w O => At w O s)) {w w1 : World} {O : Nat → Prop} {s : S} {B g : Nat} {x : SS} {o i b r : Value} (h : On At w O s B g x o i b r) (hB : Below w.heap.size w w1) : On At w1 O s B g x o i b r := by
  have hz := hB.size
  exact ⟨h.way.below hB, (h.ls.below hB).mono fun k e => ⟨e.1, e.2.1, e.2.2.1, by have := e.2.2.2; omega⟩, (hT s).keep h.raw (fun j _ hj => hB.block j hj) hz, h.og, h.gB, fun j e => Nat.lt_of_lt_of_le (h.ol j e) hz⟩
/-- The block alone turns. -/
theorem On.at {S : Type} {At : World → (Nat → Prop) → S → Prop} (hT : ∀ s, OAt (fun w O => At w O s)) {w w1 : World} {O : Nat → Prop} {s : S} {B g : Nat} {x x' : SS} {o i b o' i' b' r r' : Value} (h : On At w O s B g x o i b r) (hw : Way w1 g x' o' i' b' r') (hT1 : Turned (fun k => k = g) w w1) (hl : SIn w (fun k => B ≤ k ∧ ¬ O k ∧ k ≠ g ∧ k < w.heap.size) x' o' i' b') : On At w1 O s B g x' o' i' b' r' := by
  have hz := hT1.size
  exact ⟨hw, (hl.turned hT1 fun k e _ => e.2.2.1).mono fun k e => ⟨e.1, e.2.1, e.2.2.1, by have := e.2.2.2; omega⟩, (hT s).keep h.raw (fun j e hj => hT1.block j hj (fun e' => h.og (e' ▸ e))) hz, h.og, h.gB, fun j e => Nat.lt_of_lt_of_le (h.ol j e) hz⟩
theorem SIn.mark {W : World} {P : Nat → Prop} {x : SS} {o i b : Value} {e : Int} (h : SIn W P x o i b) : SIn W P (x.mark e) o i b := by
  unfold SS.mark
  split
  · exact h
  · exact ⟨h.so, h.si, h.sb, h.po, h.pi, h.pb⟩
set_option maxRecDepth 100000 in
set_option maxHeartbeats 4000000 in
theorem deliver_any {S : Type} {D : RawD S} {T : TypeId} {v : Value} {fr fw : FuncId} {rok wok : S → Prop} {At : World → (Nat → Prop) → S → Prop} (R : RawM D T v fr fw rok wok At) (hT : ∀ s, OAt (fun w O => At w O s)) {w : World} {O : Nat → Prop} {s : S} {B g : Nat} {x : SS} {o i b : Value} (h : On At w O s B g x o i b (.iface T v)) (hl : x.out.length ≤ 65536) (hok : putOk D wok x.out (putF x.out) s 0 0) :
    Calls Try.prog 37 #[.pointer (some ⟨g, 0, none⟩)] w fun en w' => en = .returned (.int .i64 (x.deliver D s).2.1) ∧ ∃ o' O', On At w' O' (x.deliver D s).2.2 B g (x.deliver D s).1 o' i b (.iface T v) ∧ ((x.deliver D s).2.1 = 0 → o' = .slice none 0 0) ∧ (∀ k, O' k → O k ∨ w.heap.size ≤ k) ∧ Turned (fun k => O k ∨ k = g) w w' := by
  obtain ⟨oa, oc, rfl, hby, hcap⟩ := h.ls.so
  have HP := hide (fun (W : World) (hW : Below w.heap.size w W) => rput_any R (w := W) (O := O) (s := s) x.out oa oc (R.keep h.raw (fun j _ hj => hW.block j hj) hW.size) (fun j e => Nat.lt_of_lt_of_le (h.ol j e) hW.size) (hby.below hW) hcap (by omega) (fun _ k e => (h.ls.po k e).2.1) hok)
  have HH := hide h
  have hfit := putV_fits D x.out s
  have HAll := hide (putV_all D x.out s)
  have HV : Hid (x.deliver D s = (({ x with out := x.out.drop (putV D x.out (putF x.out) s 0 0).1 } : SS).mark (putV D x.out (putF x.out) s 0 0).2.1, (putV D x.out (putF x.out) s 0 0).2.1, (putV D x.out (putF x.out) s 0 0).2.2)) := hide rfl
  obtain ⟨dx, de, ds, hd⟩ : ∃ dx de ds, x.deliver D s = (dx, de, ds) := ⟨_, _, _, rfl⟩
  rw [hd] at HV ⊢
  clear hd
  generalize putV D x.out (putF x.out) s 0 0 = X at *
  obtain ⟨n, e, s2⟩ := X
  simp only at HV hfit HAll HP ⊢
  obtain ⟨rfl, rfl, rfl⟩ : dx = ({ x with out := x.out.drop n } : SS).mark e ∧ de = e ∧ ds = s2 := by
    have := HV.out
    simp only [Prod.mk.injEq] at this
    exact this
  have HK := hide (fun (W : World) (hW : Below w.heap.size w W) => (show W.cell? ⟨g, 4, none⟩ = some (.slice oa x.out.length oc) ∧ W.cell? ⟨g, 11, none⟩ = some (.iface T v) from ⟨(h.way.below hW).cs.2.2.2.2.1, (h.way.below hW).cs.2.2.2.2.2.2.2.2.2.2.2⟩))
  clear h hby HV hok
  go_enter Try.func37, Try.ntmps37
  go_wp2_with fail
  go_region_held3 (fun W => W.cell? ⟨g, 4, none⟩ = some (.slice oa x.out.length oc) ∧ W.cell? ⟨g, 11, none⟩ = some (.iface T v)) (first | exact HK.out _ (Below.refl _ _).drew | exact HK1.out) (first | (go_at_call 34; refine (HP.out _ (Below.refl _ _).drew).mono ?_; rintro _ w1 ⟨rfl, hS⟩; obtain ⟨O1, hO1, hO2, hO3⟩ := On.step hT (On.below hT HH.out (Below.refl _ _).drew) hS; have HK1 := hide (And.intro hO1.way.cs.2.2.2.2.1 hO1.way.cs.2.2.2.2.2.2.2.2.2.2.2); have HO1 := hide hO1; have HO2 := hide hO2; have HO3 := hide ((Turned.of_below (S := O) (Below.refl _ w).drew).trans hO3 (fun _ _ e => e)); clear hO1 hO2 hO3 hS) | fail)
  have hs1 : w.heap.size ≤ w1.heap.size := HO3.out.size
  have c4 := HO1.out.way.cs.2.2.2.2.1
  have g4 := HO1.out.way.soft 4
  clear HP HK HK1
  go_wp2_with fail
  refine (behind_any x.out _ n w1 HO1.out.ls.so hfit).mono ?_
  rintro _ _ ⟨u, rfl, hu, hub, hnil, rfl⟩
  have HNil : Hid (de = 0 → u = .slice none 0 0) := hide (fun e => hnil (HAll.out e))
  obtain ⟨L, hL⟩ : ∃ L, L = x.out.drop n := ⟨_, rfl⟩
  rw [← hL] at hu
  have HL := hide hL
  clear hL
  have hu2 := hu
  obtain ⟨ua, uc, rfl, -⟩ := hu2
  have HW2 := hide (HO1.out.way.set (x' := { x with out := L }) (o' := .slice ua L.length uc) (i' := i) (b' := b) 4 (.slice ua L.length uc) rfl)
  have HOn2 := hide (On.at hT HO1.out HW2.out ((Turned.refl (fun k => k = g) w1).set (.inl rfl)) ⟨hu, HO1.out.ls.si, HO1.out.ls.sb, fun k e => HO1.out.ls.po k (hub k e), HO1.out.ls.pi, HO1.out.ls.pb⟩)
  have HT2 : Hid (Turned (fun k => O k ∨ k = g) w (w1.setCell ⟨g, 4, none⟩ (.slice ua L.length uc))) := hide ((HO3.out.mono fun k e => .inl e).set (.inl (.inr rfl)))
  clear hu hub hnil
  go_wp2_with fail
  refine (marked_any _ g de _ i b _ _ HW2.out).mono ?_
  rintro _ w3 ⟨rfl, hW3, hT3⟩
  have HOn3 := hide (On.at hT HOn2.out hW3 hT3 HOn2.out.ls.mark)
  have HT3 := hide (HT2.out.trans hT3 (fun _ _ e => .inr e))
  clear hW3 hT3
  go_wp2
  go_ret
  exact ⟨rfl, _, O1, by rw [← HL.out]; exact HOn3.out, HNil.out, HO2.out, HT3.out⟩
end Go.Proofs.Ytbffnamdpmjfnaa

/- What the proof stands on, part 6: the contracts of the program's calls that it reaches. -/
import Derived.Test.YtdmkjbdlidadiaaGreatKO5
import Derived.ChangeArms
import Derived.ChangeSlices
import Derived.SizedLaws
import Derived.Deep.Slices
import Derived.ProofKit
import Derived.OpenShut
import Derived.Deep.SlicePairs
import Derived.Test.YtdmkjbdlidadiaaGreatRows
import Derived.Shelf.SlIter.Nil
import Derived.Shelf.SortM.Plain
import Derived.Shelf.SortM.SortNone
import Derived.Ground.GgzProg
import Derived.Ground.SlgmProg
import Derived.Test.YtdmkjbdlidadiaaGreatProg
/- The program's kernel: thingFor. -/
namespace Go.Proofs.YtdmkjbdlidadiaaGreat
open Go.RowKit Go.Maps

theorem KNm.inj {K : KS} (h : KNm K) {i j : Nat} (hi : i ∈ K.nm) (hj : j ∈ K.nm) (e : K.nameOf i = K.nameOf j) : i = j := by
  obtain ⟨a, ha, rfl⟩ := List.getElem_of_mem hi
  obtain ⟨b, hb, rfl⟩ := List.getElem_of_mem hj
  have hp := List.pairwise_iff_getElem.1 h.sorted
  rcases Nat.lt_trichotomy a b with hab | hab | hab
  · exact absurd e (nlt_ne (hp a b ha hb hab))
  · subst hab; rfl
  · exact absurd e.symm (nlt_ne (hp b a hb ha hab))
structure Fits (w : World) (ρ : Nat → Option PTag) (I : PI) (K : KS) (i : Nat) (flags : Int) (tv : Value) (xb : Nat) : Prop where
  lt : i < K.th.length
  file : ∀ b, K.obOf i = .file b → tv = .iface 274 (.pointer (some ⟨xb, 0, none⟩)) ∧ OFc w xb (I.ob i) 0 (bit flags 4) ∧ ρ xb = none
  term : ∀ ls scr, K.obOf i = .term ls scr → tv = .iface 112 (.pointer (some ⟨I.cb i, 0, none⟩))
  pipe : ∀ q rd wt, K.obOf i = .pipe q rd wt → tv = .iface 282 (.agg #[.pointer (some ⟨I.ob i, 0, none⟩)])
def TFor (ρ : Nat → Option PTag) (I : PI) (w : World) (K' : KS) (i : Nat) (flags : Int) (e : Ending) (w' : World) : Prop :=
  ∃ tT tu xb ρ' I', e = .returned (.tuple #[.iface tT tu, .int .i64 0]) ∧ PK w' ρ' I' K' ∧ I'.kb = I.kb ∧ I'.last = I.last ∧ newTags ρ ρ' w ∧ Turned (Own ρ) w w' ∧ Fits w' ρ' I' K' i flags (.iface tT tu) xb ∧ ((∃ b, K'.obOf i = .file b) → w.heap.size ≤ xb)
theorem TFor.term {ρ : Nat → Option PTag} {I : PI} {w : World} {K : KS} {i : Nat} {flags : Int} {ls : List (List UInt8)} {scr : List UInt8} (h : PK w ρ I K) (hi : i < K.th.length) (ho : K.obOf i = .term ls scr) : TFor ρ I w (K.cut i flags) i flags (.returned (.tuple #[.iface 112 (.pointer (some ⟨I.cb i, 0, none⟩)), .int .i64 0])) w := by
  have : K.cut i flags = K := by unfold KS.cut; rw [ho]; split <;> rfl
  rw [this]
  exact ⟨_, _, 0, ρ, I, rfl, h, rfl, rfl, newTags.refl _ _, Turned.refl _ _, ⟨hi, fun b e => (by rw [ho] at e; cases e), fun _ _ _ => rfl, fun q rd wt e => (by rw [ho] at e; cases e)⟩, fun ⟨b, e⟩ => (by rw [ho] at e; cases e)⟩
theorem TFor.file {ρ ρ' : Nat → Option PTag} {I I' : PI} {w w1 : World} {K' : KS} {i : Nat} {flags : Int} {b : List UInt8} (h : PK w1 ρ' I' K') (hk : I'.kb = I.kb) (hl : I'.last = I.last) (hn : newTags ρ ρ' w) (hT : Turned (Own ρ) w w1) (hi : i < K'.th.length) (ho : K'.obOf i = .file b) {w2 : World}
    (hw : w2 = w1.alloc (Obj.cells #[.pointer (some ⟨I'.ob i, 0, none⟩), .int .i64 0, .bool (bit flags 4)] 278)) :
    TFor ρ I w K' i flags (.returned (.tuple #[.iface 274 (.pointer (some ⟨w1.heap.size, 0, none⟩)), .int .i64 0])) w2 := by
  subst hw
  have hB := recv_below w1 (Obj.cells #[.pointer (some ⟨I'.ob i, 0, none⟩), .int .i64 0, .bool (bit flags 4)] 278)
  refine ⟨_, _, w1.heap.size, ρ', I', rfl, h.under hB, hk, hl, hn, hT.trans (Turned.of_below (S := Own ρ) hB) (fun _ _ e => e), ⟨hi, fun b' _ => ⟨rfl, heap_alloc_new _ _, ?_⟩, fun ls scr e => (by rw [ho] at e; cases e), fun q rd wt e => (by rw [ho] at e; cases e)⟩, fun _ => hT.size⟩
  cases hr : ρ' w1.heap.size with
  | none => rfl
  | some t => have := h.lt _ _ hr; omega
end Go.Proofs.YtdmkjbdlidadiaaGreat

/- The program's kernel: thingFor, walked. -/
namespace Go.Proofs.YtdmkjbdlidadiaaGreat
open Go.RowKit Go.Maps

end Go.Proofs.YtdmkjbdlidadiaaGreat

/- The program's kernel: thingFor, where a file is made. -/
namespace Go.Proofs.YtdmkjbdlidadiaaGreat
open Go.RowKit Go.Maps

theorem PK.drew {w : World} {ρ : Nat → Option PTag} {I : PI} {K : KS} (h : PK w ρ I K) : PK w.drew ρ I K := h.keep (fun _ _ _ => rfl) (Nat.le_refl _)
end Go.Proofs.YtdmkjbdlidadiaaGreat

/- The program's kernel: nameMayBe, flagsMayBe. -/
namespace Go.Proofs.YtdmkjbdlidadiaaGreat
open Go.RowKit Go.Maps
set_option linter.unusedSimpArgs false

end Go.Proofs.YtdmkjbdlidadiaaGreat

/- The program's kernel: Open. -/
namespace Go.Proofs.YtdmkjbdlidadiaaGreat
open Go.RowKit Go.Maps

theorem TFor.newDe {ρ ρ' : Nat → Option PTag} {I I' : PI} {w w1 w2 : World} {K' : KS} {i : Nat} {flags : Int} {tv : Value} {xb nb : Nat} (h : PK w1 ρ' I' K') (hk : I'.kb = I.kb) (hn : newTags ρ ρ' w) (hT : Turned (Own ρ) w w1) (hF : Fits w1 ρ' I' K' i flags tv xb) (hx : (∃ b, K'.obOf i = .file b) → w.heap.size ≤ xb)
    (hf : flagsOk flags = true) (hfew : K'.de.length < 256) (hD : Described w1 I' K' tv flags nb w2) : PNext ρ I w (K'.newDe i flags) w2 := by
  obtain ⟨ρ2, g1, g2, g3⟩ := h.newDe hF.lt hf hfew hD hF.file hF.term hF.pipe
  refine ⟨ρ2, _, g1, hk, fun k t e => ?_, hT.trans hD.turned (fun k hk' e => ?_)⟩
  · rcases g2 k t e with e' | e' | ⟨e1, e2⟩
    · exact hn k t e'
    · exact .inr (by rw [e']; exact Nat.le_trans hT.size hD.new)
    · exact .inr (by rw [e2]; exact hx e1)
  · have : ∃ t, ρ' k = some t := by
      rcases e with e | e
      · exact ⟨_, by rw [e]; exact (h.comp .kern).2.1⟩
      · exact ⟨_, by rw [e]; exact (h.comp .omap).2⟩
    obtain ⟨t, e'⟩ := this
    rcases hn k t e' with h' | h'
    · exact h'
    · omega
end Go.Proofs.YtdmkjbdlidadiaaGreat

/- The program's kernel: give. -/
namespace Go.Proofs.YtdmkjbdlidadiaaGreat
open Go.RowKit Go.Maps

def NSet (W : World) (b : Nat) (ns : List ByteArray) : Prop := ∃ D : DataW Unit, W.ownsMap Tryz.prog 9 unitElem b ns.length D ∧ ∀ s, Maps.has D (nkey s) = inNames s ns
theorem NSet.lt {W : World} {b : Nat} {ns : List ByteArray} (h : NSet W b ns) : b < W.heap.size := by obtain ⟨D, h1, _⟩ := h; exact h1.lt
theorem NSet.keep {W W' : World} {b : Nat} {ns : List ByteArray} (h : NSet W b ns) (hk : W'.heap[b]? = W.heap[b]?) : NSet W' b ns := by
  obtain ⟨D, ⟨es, clock, hb, F, hs, hD⟩, h2⟩ := h
  exact ⟨D, ⟨es, clock, hk.trans hb, F, hs, hD⟩, h2⟩
theorem NSet.made (w : World) : NSet (w.alloc (.map #[] 0)) w.heap.size [] := ⟨.map [], World.ownsMap_made w _ _ unitElem, fun _ => rfl⟩
theorem NSet.store {W : World} {b : Nat} {ns : List ByteArray} (h : NSet W b ns) (s : ByteArray) (hs : s.size ≤ maxLen) (hl : ns.length < maxLen) : ∃ w', (Instr.mapUpdate 125 (.map (some b)) (.string s) (.agg #[])).run Tryz.prog W = .ok () w' ∧ Hid (NSet w' b (ns ++ [s])) ∧ W.mapTurned w' b := by
  obtain ⟨D, h1, h2⟩ := h
  obtain ⟨w', hrun, ho, hT⟩ := h1.store skeyed (t := 125) (e := 239) Tryz.underlying125 hl (string_key s hs) (val := .agg #[]) (d := .agg []) (ps := []) unitElem_mk
  refine ⟨w', hrun, hide ⟨_, by simpa using ho, fun x => ?_⟩, hT⟩
  by_cases e : x = s
  · subst e
    rw [Maps.has_put_same h1.isMap (skeyed.key (string_key x hs)), eq_comm, inNames_iff]
    simp
  · rw [Maps.has_put_other (fun e' => e (nkey_inj e')), h2 x, Bool.eq_iff_iff, inNames_iff, inNames_iff]
    simp [e]
end Go.Proofs.YtdmkjbdlidadiaaGreat

/- The program's kernel: Check. -/
namespace Go.Proofs.YtdmkjbdlidadiaaGreat
open Go.RowKit Go.Maps

end Go.Proofs.YtdmkjbdlidadiaaGreat

/- The program's kernel as it is being made: without its plan. -/
namespace Go.Proofs.YtdmkjbdlidadiaaGreat
open Go.RowKit Go.Maps

structure PX (W : World) (ρ : Nat → Option PTag) (I : PI) (K : KS) : Prop where
  comp : ∀ t, t ≠ .kern → t ≠ .plan → PComp W ρ I K t
  lt : ∀ k t, ρ k = some t → k < W.heap.size
  ok : KOk K
  nm : KNm K
theorem PX.more {W W' : World} {ρ : Nat → Option PTag} {I : PI} {K K' : KS} {t : Th} (h : PX W ρ I K) (hM : More K K' t) (p c : Nat) {O' : Nat → Prop} (hO : PObj W' O' p t.ob) (hO' : ∀ k, O' k → W.heap.size ≤ k ∧ k ≠ c)
    (hc : ∀ ls scr, t.ob = .term ls scr → COc W' c p scr.length ∧ W.heap.size ≤ c) (hT : Turned (fun k => ρ k = some .fmap ∨ ρ k = some .tmap) W W') (hok : KOk K') (hnm : KNm K')
    (hf : PMap W' Tryz.prog 9 I.fm (K'.fl { I with ob := upd I.ob K.th.length p, cb := upd I.cb K.th.length c })) (ht : PMap W' Tryz.prog 9 I.tm (K'.tl { I with ob := upd I.ob K.th.length p, cb := upd I.cb K.th.length c })) :
    ∃ ρ', PX W' ρ' { I with ob := upd I.ob K.th.length p, cb := upd I.cb K.th.length c } K' ∧ newTags ρ ρ' W ∧ ∀ k, k < W.heap.size → ρ' k = ρ k := by
  classical
  obtain ⟨ρ', hρ⟩ : ∃ ρ' : Nat → Option PTag, ρ' = fun k => if k < W.heap.size then ρ k else if k < W'.heap.size then (if k = c then some (.cons K.th.length) else if O' k then some (.obj K.th.length) else none) else none := ⟨_, rfl⟩
  have low : ∀ k, k < W.heap.size → ρ' k = ρ k := fun k hlt => by rw [hρ]; simp [hlt]
  have fit : ∀ {k t}, ρ k = some t → ρ' k = some t := fun {k t} e => (low k (h.lt k t e)).trans e
  have back : ∀ {k t}, ρ' k = some t → ρ k = some t ∨ (W.heap.size ≤ k ∧ k < W'.heap.size) := by
    intro k t e
    by_cases hlt : k < W.heap.size
    · rw [low k hlt] at e; exact .inl e
    · rw [hρ] at e
      simp only [if_neg hlt] at e
      split at e
      · exact .inr ⟨by omega, by assumption⟩
      · cases e
  have key : ∀ t, t ≠ .fmap → t ≠ .tmap → t ≠ .kern → t ≠ .plan → PComp W' ρ I K t := fun t h1 h2 h3 h4 => (h.comp t h3 h4).keep (fun k e hlt => hT.block k hlt (fun e' => by
    rcases e' with e' | e'
    · rw [e'] at e; exact h1 (Option.some.inj e).symm
    · rw [e'] at e; exact h2 (Option.some.inj e).symm)) hT.size
  have hlen : K'.th.length = K.th.length + 1 := by rw [hM.th]; simp
  have hthv : ∀ d ∈ K.de, thingV { I with ob := upd I.ob K.th.length p, cb := upd I.cb K.th.length c } K' d = thingV I K d := by
    intro d hd
    have hlt := h.ok.th d hd
    unfold thingV
    rw [KS.tho_obOf, KS.tho_obOf, hM.obOf hlt]
    simp only [upd_other (Nat.ne_of_lt hlt)]
  refine ⟨ρ', ⟨fun t' h3 h4 => ?_, fun k t e => ?_, hok, hnm⟩, fun k t e => (back e).imp (fun e' => ⟨t, e'⟩) (fun e' => e'.1), low⟩
  · cases t' with
    | kern => exact absurd rfl h3
    | fmap => exact ⟨hf, fit (h.comp .fmap (by simp) (by simp)).2⟩
    | tmap => exact ⟨ht, fit (h.comp .tmap (by simp) (by simp)).2⟩
    | omap =>
      obtain ⟨a1, a2⟩ := key .omap (by simp) (by simp) (by simp) (by simp)
      refine ⟨?_, fit a2⟩
      unfold KS.dl at a1 ⊢
      rw [hM.de]
      exact a1
    | plan => exact absurd rfl h4
    | obj j =>
      intro hj
      by_cases e : j = K.th.length
      · subst e
        rw [hM.atNew hj]
        simp only [upd_same]
        refine hO.trim.mono fun k ⟨e1, e2⟩ => ?_
        have := hO' k e1
        rw [hρ]
        simp [Nat.not_lt.2 this.1, e2, this.2, e1]
      · have hj' : j < K.th.length := by omega
        rw [hM.at hj' hj]
        simp only [upd_other e]
        exact (key (.obj j) (by simp) (by simp) (by simp) (by simp) hj').mono fun k e => fit e
    | cons j =>
      intro hj ls scr e1
      by_cases e : j = K.th.length
      · subst e
        rw [hM.atNew hj] at e1
        obtain ⟨a1, a2⟩ := hc ls scr e1
        simp only [upd_same]
        have hlt : c < W'.heap.size := (Array.getElem?_eq_some_iff.1 a1).1
        exact ⟨a1, by rw [hρ]; simp [Nat.not_lt.2 a2, hlt]⟩
      · have hj' : j < K.th.length := by omega
        rw [hM.at hj' hj] at e1
        simp only [upd_other e]
        obtain ⟨a1, a2⟩ := key (.cons j) (by simp) (by simp) (by simp) (by simp) hj' ls scr e1
        exact ⟨a1, fit a2⟩
    | desc n =>
      intro d hd e
      rw [hM.de] at hd
      obtain ⟨a1, a2⟩ := key (.desc n) (by simp) (by simp) (by simp) (by simp) d hd e
      exact ⟨by rw [hthv d hd]; exact a1, fit a2⟩
    | ofile n =>
      intro d hd e b hb
      rw [hM.de] at hd
      have hlt := h.ok.th d hd
      rw [KS.tho_obOf, hM.obOf hlt] at hb
      simp only [upd_other (Nat.ne_of_lt hlt)]
      obtain ⟨a1, a2⟩ := key (.ofile n) (by simp) (by simp) (by simp) (by simp) d hd e b hb
      exact ⟨a1, fit a2⟩
  · rcases back e with e' | e'
    · exact Nat.lt_of_lt_of_le (h.lt k t e') hT.size
    · exact e'.2
theorem PX.under {W W' : World} {ρ : Nat → Option PTag} {I : PI} {K : KS} (h : PX W ρ I K) (hB : Below W.heap.size W W') : PX W' ρ I K :=
  ⟨fun t h1 h2 => (h.comp t h1 h2).keep (fun k e _ => hB.block k (h.lt k t e)) hB.size, fun k t e => Nat.lt_of_lt_of_le (h.lt k t e) hB.size, h.ok, h.nm⟩
end Go.Proofs.YtdmkjbdlidadiaaGreat

/- The program's kernel as it is being made: how it begins, and how files and terminals come to it. -/
namespace Go.Proofs.YtdmkjbdlidadiaaGreat
open Go.RowKit Go.Maps

def KB0 (W : World) (I : PI) : Prop := W.heap[I.kb]? = some (.cells ([.bool true, .map (some I.fm), .map (some I.tm), .map (some I.om), .int .i64 (0 : Nat), .pointer none, .int .i64 (0 : Nat), .int .i64 (0 : Nat)] : List Value).toArray 102 (0, 0))
structure PY (W : World) (B : Nat) (ρ : Nat → Option PTag) (I : PI) (K : KS) (k0 f0 t0 o0 : Nat) : Prop where
  px : PX W ρ I K
  blk : KB0 W I
  kern : ρ I.kb = some .kern
  kb : I.kb = k0
  fm : I.fm = f0
  tm : I.tm = t0
  om : I.om = o0
  last : I.last = 0
  low : ∀ k t, ρ k = some t → B ≤ k
theorem PY.under {W W' : World} {B : Nat} {ρ : Nat → Option PTag} {I : PI} {K : KS} {k0 f0 t0 o0 : Nat} (h : PY W B ρ I K k0 f0 t0 o0) (hB : Below W.heap.size W W') : PY W' B ρ I K k0 f0 t0 o0 :=
  ⟨h.px.under hB, (hB.block _ (h.px.lt _ _ h.kern)).trans h.blk, h.kern, h.kb, h.fm, h.tm, h.om, h.last, h.low⟩
theorem PY.done {W W1 W' : World} {B : Nat} {ρ : Nat → Option PTag} {I : PI} {K : KS} {k0 f0 t0 o0 : Nat} (h : PY W B ρ I K k0 f0 t0 o0) (hB : B ≤ W.heap.size) (hN : K.next = 1 ∧ K.reads = 0 ∧ K.writes = 0) {g : Nat} {v : Value} (hP : PlanAt W1 g v K.plan) (hg : W.heap.size ≤ g) (hv : ∀ k, v.ownBlock = some k → W.heap.size ≤ k) (hB1 : Below W.heap.size W W1)
    (hW : W' = W1.setCell ⟨k0, 5, none⟩ (.pointer (some ⟨g, 0, none⟩))) (hgl : g < W1.heap.size) (hvl : ∀ k, v.ownBlock = some k → k < W1.heap.size) : KAt W' (fun k => B ≤ k) k0 K := by
  have hk0 := h.kb
  subst hk0
  have hkl := h.px.lt _ _ h.kern
  have hb1 : W1.heap[I.kb]? = _ := (hB1.block _ hkl).trans h.blk
  have hT : Turned (fun k => k = I.kb) W1 W' := by rw [hW]; exact (Turned.refl _ W1).set (.inl rfl)
  have hsz : W'.heap.size = W1.heap.size := by rw [hW]; exact heap_set_size _ _ _ _
  classical
  obtain ⟨ρ', hρ⟩ : ∃ ρ' : Nat → Option PTag, ρ' = fun k => if k = g ∨ v.ownBlock = some k then some .plan else ρ k := ⟨_, rfl⟩
  have hno : ∀ {k t}, ρ k = some t → ¬ (k = g ∨ v.ownBlock = some k) := fun {k t} e e' => by
    have := h.px.lt k t e
    rcases e' with e' | e'
    · omega
    · have := hv k e'; omega
  have fit : ∀ {k t}, ρ k = some t → ρ' k = some t := fun {k t} e => by rw [hρ]; simp only [if_neg (hno e)]; exact e
  have back : ∀ {k t}, ρ' k = some t → ρ k = some t ∨ k = g ∨ v.ownBlock = some k := fun {k t} e => by
    rw [hρ] at e
    simp only at e
    split at e
    · rename_i hh; exact .inr hh
    · exact .inl e
  have key : ∀ t, t ≠ .kern → t ≠ .plan → PComp W' ρ { I with pb := g, pv := v } K t := fun t h1 h2 => by
    have := ((h.px.comp t h1 h2).keep (W' := W1) (fun k e hlt => hB1.block k hlt) hB1.size).keep (W' := W') (fun k e hlt => hT.block k hlt (fun e' => by rw [e', h.kern] at e; exact h1 (Option.some.inj e).symm)) hT.size
    cases t <;> first | exact this | exact absurd rfl h1 | exact absurd rfl h2
  refine ⟨ρ', { I with pb := g, pv := v }, ⟨fun t => ?_, fun k t e => ?_, h.px.ok, h.px.nm⟩, rfl, fun k t e => ?_⟩
  · cases t with
    | kern =>
      refine ⟨?_, fit h.kern, by show K.next = I.last + 1; rw [h.last, hN.1]⟩
      rw [hW, heap_setCell_same 5 _ hb1, hN.2.1, hN.2.2]
      show _ = some (Obj.cells ([_, _, _, _, Value.int .i64 I.last, _, _, _] : List Value).toArray _ _)
      rw [h.last]
      rfl
    | plan =>
      refine ⟨?_, by rw [hρ]; simp, fun k e => by rw [hρ]; simp [show v.ownBlock = some k from e]⟩
      refine hP.keep fun k hlt e => hT.block k hlt (fun e' => ?_)
      rcases e with e | e
      · omega
      · have := hv k e; omega
    | fmap => obtain ⟨x1, x2⟩ := key .fmap (by simp) (by simp); exact ⟨x1, fit x2⟩
    | tmap => obtain ⟨x1, x2⟩ := key .tmap (by simp) (by simp); exact ⟨x1, fit x2⟩
    | omap => obtain ⟨x1, x2⟩ := key .omap (by simp) (by simp); exact ⟨x1, fit x2⟩
    | obj i => exact fun hi => (key (.obj i) (by simp) (by simp) hi).mono fun k e => fit e
    | cons i => exact fun hi ls scr e => by obtain ⟨x1, x2⟩ := key (.cons i) (by simp) (by simp) hi ls scr e; exact ⟨x1, fit x2⟩
    | desc n => exact fun d hd e => by obtain ⟨x1, x2⟩ := key (.desc n) (by simp) (by simp) d hd e; exact ⟨x1, fit x2⟩
    | ofile n => exact fun d hd e b hb => by obtain ⟨x1, x2⟩ := key (.ofile n) (by simp) (by simp) d hd e b hb; exact ⟨x1, fit x2⟩
  · rw [hsz]
    rcases back e with e' | e' | e'
    · exact Nat.lt_of_lt_of_le (h.px.lt k t e') hB1.size
    · omega
    · exact hvl k e'
  · rcases back e with e' | e' | e'
    · exact h.low k t e'
    · omega
    · have := hv k e'; omega
end Go.Proofs.YtdmkjbdlidadiaaGreat

/- The program's kernel: New. -/
namespace Go.Proofs.YtdmkjbdlidadiaaGreat
open Go.RowKit Go.Maps

structure Seen (K : KS) (ns : List ByteArray) (n : Nat) : Prop where
  names : ∀ i ∈ K.nm, K.nameOf i ∈ ns
  len : K.nm.length = n
  next : K.next = 1 ∧ K.reads = 0 ∧ K.writes = 0
theorem Seen.add {K : KS} {ns : List ByteArray} {n : Nat} (h : Seen K ns n) (hok : KOk K) (t : Th) : Seen (K.addTh t) (ns ++ [t.name]) (n + 1) := by
  have hM := more_addTh K t
  refine ⟨fun i hi => ?_, ?_, h.next⟩
  · rw [addTh_nm] at hi
    rcases mem_insN.1 hi with rfl | hi
    · rw [hM.nameNew]; simp
    · rw [hM.nameOf (hok.nm i hi)]
      exact List.mem_append_left _ (h.names i hi)
  · rw [addTh_nm, (insN_perm _ _ _).length_eq]; simp [h.len]
end Go.Proofs.YtdmkjbdlidadiaaGreat

/- The reference's kernel: New. -/
namespace Go.Proofs.YtdmkjbdlidadiaaGreat
open Go.RowKit

end Go.Proofs.YtdmkjbdlidadiaaGreat

/- Lines, and steps, that came in as an argument: what a walk is told of them. -/
namespace Go.Proofs.YtdmkjbdlidadiaaGreat
open Go.ChangeShapes Go.WideShapes Go.ChangeAt Go.RowKit Go.Deep

end Go.Proofs.YtdmkjbdlidadiaaGreat

/- Faults, and ints, that came in as an argument: what a walk is told of them. -/
namespace Go.Proofs.YtdmkjbdlidadiaaGreat
open Go.ChangeShapes Go.WideShapes Go.ChangeAt Go.RowKit Go.Deep

def Fa_Ints (W : World) (v : Value) (l : List Int) : Prop :=
  ∃ a c, v = .slice a l.length c ∧ (0 < l.length → ∃ b off, a = some ⟨b, off, none⟩ ∧ ∀ j, j < l.length → W.cell? ⟨b, off + j, none⟩ = some (.int .i64 (l.getD j 0)))
theorem Fa_Ints.below {W W' : World} {v : Value} {l : List Int} (h : Fa_Ints W v l) (hB : Below W.heap.size W W') : Fa_Ints W' v l := by
  obtain ⟨a, c, rfl, h⟩ := h
  refine ⟨a, c, rfl, fun h0 => ?_⟩
  obtain ⟨b, off, rfl, hc⟩ := h h0
  refine ⟨b, off, rfl, fun j hj => ?_⟩
  have := World.block_lt_of_cell? W _ (hc j hj)
  exact (hB.cell (p := ⟨b, off + j, none⟩) this).trans (hc j hj)

end Go.Proofs.YtdmkjbdlidadiaaGreat

/- Files, terminals, steps and setups that came in as an argument: what a walk is told of them, and their sizes. -/
namespace Go.Proofs.YtdmkjbdlidadiaaGreat
open Go.ChangeShapes Go.WideShapes Go.ChangeAt Go.RowKit Go.Deep

def Small {H : Type} (P : Program) (t : TypeId) (d : DataW H) : Prop := ∀ n ∈ d.weights P t, n ≤ reachBytes
theorem Small.slice {H : Type} {P : Program} {t e : TypeId} {es sp : List (DataW H)} (h : Small P t (.slice es sp)) (hu : P.underlying t = some (.slice e)) : (es.length + sp.length) * P.bytesOf e ≤ reachBytes ∧ ∀ d ∈ es, Small P e d :=
  ⟨h _ (by simp [DataW.weights, hu]), fun d hd n hn => h n (by
    simp only [DataW.weights, hu, List.mem_cons, List.mem_append]
    exact Or.inr (Or.inl (Kp_weightsAll_mem hd n hn)))⟩
structure KSt where
  what : Int
  name : ByteArray
  a : Int
  b : Int
  c : Int
  data : List UInt8
  deriving Inhabited
end Go.Proofs.YtdmkjbdlidadiaaGreat

/- The program's kernel: Read, walked. -/
namespace Go.Proofs.YtdmkjbdlidadiaaGreat
open Go.RowKit Go.Maps

theorem PRd.done {w w1 w4 : World} {ρ : Nat → Option PTag} {I I1 : PI} {r : List UInt8 × Int × KS} {v : Value} (hT : Turned (Own ρ) w w1) (hk : I1.kb = I.kb) (hrow : w4.ownsRow w1.heap.size 5 1 v r.1.length (r.1.map bv)) (hN : PHold ρ I1 w1 r.2.2 w4) :
    PRd ρ I w r (.returned (.tuple #[v, .int .i64 r.2.1])) w4 := ⟨v, rfl, owns_mono hrow hT.size, hN.after hT hk⟩
end Go.Proofs.YtdmkjbdlidadiaaGreat

/- The program's kernel: Pipe. -/
namespace Go.Proofs.YtdmkjbdlidadiaaGreat
open Go.RowKit Go.Maps

set_option maxRecDepth 100000 in
set_option maxHeartbeats 2000000 in
theorem newPipe_any (w : World) :
    Calls Tryz.prog 158 #[] w fun e w' => ∃ p, e = .returned (.tuple #[.iface 282 (.agg #[.pointer (some ⟨p, 0, none⟩)]), .iface 282 (.agg #[.pointer (some ⟨p, 0, none⟩)])]) ∧ PObj w' (fun k => w.heap.size ≤ k ∧ k < w'.heap.size) p (.pipe [] 1 1) ∧ Below w.heap.size w w' := by
  have HN := hide (po_new_pipe w)
  go_enter Tryz.func158, Tryz.ntmps158
  go_wp2_with fail
  refine HN.out.mono ?_
  rintro e w1 ⟨p, rfl, hO, hB⟩
  have HJ := hide (po_pjoin _ p [] 0 0 false w1 hO)
  have HB := hide hB
  clear hO hB
  go_wp2_with fail
  refine HJ.out.mono ?_
  rintro e w2 ⟨rfl, O2, h1, h2, h3⟩
  have HJ2 := hide (po_pjoin _ p [] _ _ true w2 h1)
  have HT := hide (And.intro h2 h3)
  clear h1 h2 h3
  go_wp2_with fail
  refine HJ2.out.mono ?_
  rintro e w3 ⟨rfl, O3, h1, h2, h3⟩
  have HL : Hid (PObj w3 (fun k => w.heap.size ≤ k ∧ k < w3.heap.size) p (.pipe [] 1 1) ∧ Below w.heap.size w w3) := hide (by
    obtain ⟨g2, g3⟩ := HT.out
    have hsz := HB.out.size
    have low2 : ∀ k, O2 k → w.heap.size ≤ k := fun k e => by
      rcases g2 k e with e | e
      · exact e.1
      · omega
    have hB2 : Below w.heap.size w w2 := HB.out.trans (g3.below (fun k e => e.1) hsz)
    have hB3 : Below w.heap.size w w3 := hB2.trans (h3.below low2 hB2.size)
    refine ⟨h1.trim.mono fun k ⟨e1, e2⟩ => ⟨?_, e2⟩, hB3⟩
    rcases h2 k e1 with e | e
    · exact low2 k e
    · have := hB2.size; omega)
  clear h1 h2 h3
  go_wp2
  go_ret2
  exact ⟨p, rfl, HL.out⟩
theorem KOk.addP {K : KS} (h : KOk K) (ob : Ob) : KOk (K.addP ob) := by
  have hlen : (K.addP ob).th.length = K.th.length + 1 := by show (K.th ++ [_]).length = _; simp
  exact ⟨h.few, h.named, fun d hd => by have := h.th d hd; omega, fun i hi => by have := h.nm i hi; omega, h.num, h.once, h.flags, h.pos, h.held, h.plan⟩
theorem KNm.addP {K : KS} (h : KNm K) (hok : KOk K) (ob : Ob) (hk : ob.kind = 3) : KNm (K.addP ob) := by
  have hM := more_addP K ob
  refine ⟨?_, fun i hi => ?_, fun i hi e => ?_, fun i hi => ?_⟩
  · refine h.sorted.imp_of_mem fun {a b} ha hb hab => ?_
    rw [hM.nameOf (hok.nm a ha), hM.nameOf (hok.nm b hb)]
    exact hab
  · rw [hM.obOf (hok.nm i hi)]; exact h.kind i hi
  · rw [show (K.addP ob).th.length = K.th.length + 1 by show (K.th ++ [_]).length = _; simp] at hi
    by_cases e' : i = K.th.length
    · subst e'
      rw [hM.obNew] at e
      exact absurd hk e
    · have hlt : i < K.th.length := by omega
      rw [hM.obOf hlt] at e
      exact h.all i hlt e
  · rw [hM.nameOf (hok.nm i hi)]; exact h.ok i hi
theorem fl_addP (K : KS) (hok : KOk K) (I : PI) (ob : Ob) (p c : Nat) : (K.addP ob).fl { I with ob := upd I.ob K.th.length p, cb := upd I.cb K.th.length c } = K.fl I ∧ (K.addP ob).tl { I with ob := upd I.ob K.th.length p, cb := upd I.cb K.th.length c } = K.tl I := by
  have hM := more_addP K ob
  have e : ∀ c : Int, (K.addP ob).nm.filter (fun i => ((K.addP ob).obOf i).kind == c) = K.nm.filter fun i => (K.obOf i).kind == c := fun c => List.filter_congr fun i hi => by rw [hM.obOf (hok.nm i hi)]
  constructor
  · unfold KS.fl KS.fidx
    rw [e 1]
    exact map_old hok hM _ _ _
  · unfold KS.tl KS.tidx
    rw [e 2]
    exact map_old hok hM _ _ _
theorem PK.addPipe {W W' : World} {ρ : Nat → Option PTag} {I : PI} {K : KS} (h : PK W ρ I K) (p : Nat) {q : List UInt8} {rd wt : Nat} (hO : PObj W' (fun k => W.heap.size ≤ k ∧ k < W'.heap.size) p (.pipe q rd wt)) (hB : Below W.heap.size W W') :
    Added ρ I (K.addP (.pipe q rd wt)) W K.th.length p I.fm W' := by
  have hfl := fl_addP K h.ok I (.pipe q rd wt) p I.fm
  have hfm := h.lt _ _ (h.comp .fmap).2
  have htm := h.lt _ _ (h.comp .tmap).2
  obtain ⟨ρ', a1, a2, a3⟩ := h.more (more_addP K (.pipe q rd wt)) p I.fm hO (fun k e => ⟨e.1, by omega⟩) (fun ls scr e => by cases e) (Turned.of_below hB) (h.ok.addP _) (h.nm.addP h.ok _ rfl) (by rw [hfl.1]; exact (h.comp .fmap).1.keep (hB.block _ hfm)) (by rw [hfl.2]; exact (h.comp .tmap).1.keep (hB.block _ htm))
  exact ⟨ρ', a1, a2, a3, Turned.of_below hB⟩
end Go.Proofs.YtdmkjbdlidadiaaGreat

/- The program's kernel: Pipe, walked. -/
namespace Go.Proofs.YtdmkjbdlidadiaaGreat
open Go.RowKit Go.Maps

def PTwo (ρ : Nat → Option PTag) (I : PI) (w : World) (r : Int × Int × Int × KS) (e : Ending) (w' : World) : Prop :=
  e = .returned (.tuple #[.int .i64 r.1, .int .i64 r.2.1, .int .i64 r.2.2.1]) ∧ PNext ρ I w r.2.2.2 w'
theorem results_three {fn : Func} {t u v : Tmp} (h : fn.results = #[.tmp t, .tmp u, .tmp v]) (tmps : Array Value) (P : Program) (w : World) :
    (results fn tmps).run P w = .ok (.tuple #[tmps.getD t undef, tmps.getD u undef, tmps.getD v undef]) w := by
  simp [results, h]
set_option maxRecDepth 100000 in
set_option maxHeartbeats 4000000 in
theorem kpipe_any (ρ : Nat → Option PTag) (I : PI) (K : KS) (w : World) (h : PK w ρ I K) (hl : K.next + 1 < 9223372036854775807) :
    Calls Tryz.prog 60 #[.pointer (some ⟨I.kb, 0, none⟩)] w (PTwo ρ I w K.pipe) := by
  have hm := hide (kmade_any I.kb w h.cells.made)
  have c3 := h.cells.opens
  have sl := (h.comp .omap).1.len Tryz.underlying99
  have HNX := hide (h.comp .kern).2.2
  rw [show (K.dl I).length = K.de.length by unfold KS.dl; simp] at sl
  have hfew := h.ok.few
  by_cases hd : 254 < K.de.length
  · rw [show K.pipe = (0, 0, 3, K) by unfold KS.pipe; rw [if_pos hd]]
    have hd' : (254 : Int) < (K.de.length : Int) := by omega
    have HX := hide (PNext.same h)
    clear h
    go_enter Tryz.func60, Tryz.ntmps60
    go_wp2_with fail
    refine hm.out.mono ?_
    rintro e w1 ⟨rfl, rfl⟩
    go_wp2
    refine bodyPost_ret (results_three rfl _ _ _) rfl ?_
    exact ⟨rfl, HX.out⟩
  · rw [show K.pipe = ((K.next : Int), ((K.next + 1 : Nat) : Int), 0, ((K.addP (.pipe [] 1 1)).newDe K.th.length 1).newDe K.th.length 2) by unfold KS.pipe; rw [if_neg hd]]
    have hd' : ¬ (254 : Int) < (K.de.length : Int) := by omega
    have HNP := hide (newPipe_any w)
    have HK := hide h
    clear h
    go_enter Tryz.func60, Tryz.ntmps60
    go_wp2_with fail
    refine hm.out.mono ?_
    rintro e w1 ⟨rfl, rfl⟩
    go_wp2_with fail
    refine HNP.out.mono ?_
    rintro e w2 ⟨p, rfl, hO, hB⟩
    obtain ⟨ρ1, h1, h2, h3, h4⟩ := HK.out.addPipe p hO hB
    have hlen : K.th.length < (K.addP (.pipe [] 1 1)).th.length := by show _ < (K.th ++ [_]).length; simp
    have hob : (K.addP (.pipe [] 1 1)).obOf K.th.length = .pipe [] 1 1 := (more_addP K (.pipe [] 1 1)).obNew
    have HD1 := hide (describe_any ρ1 _ (K.addP (.pipe [] 1 1)) 282 (.agg #[.pointer (some ⟨p, 0, none⟩)]) 1 w2 h1 (by have := HNX.out; simp only; omega))
    simp only at HD1
    rw [show ((I.last + 1 : Nat) : Int) = (K.next : Int) by rw [HNX.out]] at HD1
    have HP1 := hide (And.intro h1 (And.intro h2 (And.intro h4 (And.intro hlen hob))))
    clear h1 h2 h3 h4 hO hB hlen hob
    go_wp2_with fail
    refine HD1.out.mono ?_
    rintro e w3 ⟨rfl, nb, hD⟩
    have HG1 := hide (HP1.out.1.newDe (i := K.th.length) HP1.out.2.2.2.1 flags_ok1.1 (by show K.de.length < 256; omega) (xb := 0) hD (fun b e => by rw [HP1.out.2.2.2.2] at e; cases e) (fun ls scr e => by rw [HP1.out.2.2.2.2] at e; cases e) (fun q rd wt _ => by simp only [upd_same]))
    have HD0 := hide hD
    clear hD
    obtain ⟨ρ2, g1, g2, g3⟩ := HG1.out
    have HD2 := hide (describe_any ρ2 _ _ 282 (.agg #[.pointer (some ⟨p, 0, none⟩)]) 2 w3 g1 (by have := HNX.out; simp only; omega))
    simp only at HD2
    rw [show ((I.last + 1 + 1 : Nat) : Int) = (K.next : Int) + 1 by rw [HNX.out]; rfl] at HD2
    have HP2 := hide (And.intro g1 g2)
    clear g1 g2 g3 HG1
    go_wp2_with fail
    refine HD2.out.mono ?_
    rintro e w4 ⟨rfl, nb2, hD2⟩
    have HN : Hid (PNext ρ I w1 (((K.addP (.pipe [] 1 1)).newDe K.th.length 1).newDe K.th.length 2) w4) := hide (by
      obtain ⟨h1, h2, h4, hlen, hob⟩ := HP1.out
      obtain ⟨g1, g2⟩ := HP2.out
      have hob2 : ((K.addP (.pipe [] 1 1)).newDe K.th.length 1).obOf K.th.length = .pipe [] 1 1 := hob
      obtain ⟨ρ3, k1, k2, k3⟩ := g1.newDe (i := K.th.length) hlen flags_ok1.2 (by show (K.de ++ [_]).length < 256; simp; omega) (xb := 0) hD2 (fun b e => by rw [hob2] at e; cases e) (fun ls scr e => by rw [hob2] at e; cases e) (fun q rd wt _ => by simp only [upd_same])
      have no : ¬ ∃ b, (K.addP (.pipe [] 1 1)).obOf K.th.length = .file b := fun ⟨b, e⟩ => by rw [hob] at e; cases e
      have T2 : newTags ρ ρ2 w1 := fun k t e => by
        rcases g2 k t e with e | e | e
        · exact h2 k t e
        · exact .inr (by rw [e]; exact Nat.le_trans h4.size HD0.out.new)
        · exact absurd e.1 no
      have T3 : Turned (Own ρ) w1 w3 := h4.trans HD0.out.turned (fun k hk e => by
        have : ∃ t, ρ1 k = some t := by
          rcases e with e | e
          · exact ⟨_, by rw [e]; exact (h1.comp .kern).2.1⟩
          · exact ⟨_, by rw [e]; exact (h1.comp .omap).2⟩
        obtain ⟨t, e'⟩ := this
        rcases h2 k t e' with h' | h'
        · exact h'
        · omega)
      refine ⟨ρ3, _, k1, rfl, fun k t e => ?_, T3.trans hD2.turned (fun k hk e => ?_)⟩
      · rcases k2 k t e with e | e | e
        · exact T2 k t e
        · exact .inr (by rw [e]; exact Nat.le_trans T3.size hD2.new)
        · exact absurd e.1 no
      · have : ∃ t, ρ2 k = some t := by
          rcases e with e | e
          · exact ⟨_, by rw [e]; exact (g1.comp .kern).2.1⟩
          · exact ⟨_, by rw [e]; exact (g1.comp .omap).2⟩
        obtain ⟨t, e'⟩ := this
        rcases T2 k t e' with h' | h'
        · exact h'
        · omega)
    clear hD2
    go_wp2
    refine bodyPost_ret (results_three rfl _ _ _) rfl ?_
    exact ⟨rfl, HN.out⟩
end Go.Proofs.YtdmkjbdlidadiaaGreat

/- The program's kernel: CanRead, CanWrite. -/
namespace Go.Proofs.YtdmkjbdlidadiaaGreat
open Go.RowKit Go.Maps

end Go.Proofs.YtdmkjbdlidadiaaGreat

/- The program's kernel: Write, walked. -/
namespace Go.Proofs.YtdmkjbdlidadiaaGreat
open Go.RowKit Go.Maps

theorem PNum.done {w w1 w4 : World} {ρ : Nat → Option PTag} {I I1 : PI} {r : Int × Int × KS} (hT : Turned (Own ρ) w w1) (hk : I1.kb = I.kb) {e : Ending} (h : PNum ρ I1 w1 r e w4) : PNum ρ I w r e w4 := ⟨h.1, h.2.after hT hk⟩
end Go.Proofs.YtdmkjbdlidadiaaGreat

/- The program's kernel within a set of blocks: each call. -/
namespace Go.Proofs.YtdmkjbdlidadiaaGreat
open Go.RowKit Go.Maps

theorem KAt.pipe {w : World} {O : Nat → Prop} {kb : Nat} {K : KS} (h : KAt w O kb K) (hl : K.next + 1 < 9223372036854775807) :
    Calls Tryz.prog 60 #[.pointer (some ⟨kb, 0, none⟩)] w fun e w' => e = .returned (.tuple #[.int .i64 K.pipe.1, .int .i64 K.pipe.2.1, .int .i64 K.pipe.2.2.1]) ∧ KStep w O kb K.pipe.2.2.2 w' := by
  obtain ⟨ρ, I, h1, rfl, h3⟩ := h
  exact (kpipe_any ρ I K w h1 hl).mono fun e w' ⟨a, b⟩ => ⟨a, b.step h3⟩
theorem KAt.trim {w : World} {O : Nat → Prop} {kb : Nat} {K : KS} (h : KAt w O kb K) : KAt w (fun k => O k ∧ k < w.heap.size) kb K := by
  obtain ⟨ρ, I, h1, h2, h3⟩ := h
  exact ⟨ρ, I, h1, h2, fun k t e => ⟨h3 k t e, h1.lt k t e⟩⟩
theorem KStep.at {B : Nat} {w w' : World} {O : Nat → Prop} {kb : Nat} {K' : KS} (h : KStep w O kb K' w') (hO : ∀ k, O k → B ≤ k) (hB : B ≤ w.heap.size) : KAt w' (fun k => B ≤ k ∧ k < w'.heap.size) kb K' ∧ Below B w w' := by
  obtain ⟨O', h1, h2, h3⟩ := h
  exact ⟨h1.trim.mono fun k e => ⟨(h2 k e.1).elim (hO k) (fun e => Nat.le_trans hB e), e.2⟩, h3.below hO hB⟩
end Go.Proofs.YtdmkjbdlidadiaaGreat

/- A law's setup, copied for the program; how far a kernel's numbers go up by a call. -/
namespace Go.Proofs.YtdmkjbdlidadiaaGreat
open Go.RowKit Go.Maps

theorem LCells.turned {S : Nat → Prop} {W W' : World} {B : Nat} {ls : List (List UInt8)} {xs : List Value} (h : LCells W B ls xs) (hT : Turned S W W') (hS : ∀ k, B ≤ k → ¬ S k) : LCells W' B ls xs :=
  h.keep fun j hj v k h1 e => by
    obtain ⟨v', h2, h3⟩ := h.2.1 j hj
    rw [h1] at h2
    cases h2
    exact hT.block k (h3.lt k e).2 (hS k (h3.lt k e).1)
theorem TC.turned {S : Nat → Prop} {W W' : World} {B : Nat} {ls : List (List UInt8)} {u : Value} (h : TC W B ls u) (hT : Turned S W W') (hS : ∀ k, B ≤ k → ¬ S k) : TC W' B ls u := by
  obtain ⟨xs, h1, h2⟩ := h
  exact ⟨xs, owns_turned h1 hT (fun k e => hS k (h1.lt k e).1), h2.turned hT hS⟩
def KLe (K K' : KS) : Prop := K'.next ≤ K.next + 2 ∧ K'.reads ≤ K.reads + 1 ∧ K'.writes ≤ K.writes + 1
theorem KLe.refl (K : KS) : KLe K K := ⟨by omega, by omega, by omega⟩
end Go.Proofs.YtdmkjbdlidadiaaGreat

/- Contracts of Go's library on the keys of a map, sorted, at this dump, laid by the kit's own command. -/
namespace Go.Proofs
open Go.RowKit Go.Maps Go.Sort Go.Shelf
def Tryz.keys178_ren : Go.Shelf.Ren := ⟨fun | 7 => 178 | 10 => 227 | n => n, fun | 23 => 97 | 26 => 9 | 3 => 105 | 28 => 289 | 0 => 0 | 27 => 288 | 33 => 118 | 4 => 4 | n => n, fun | n => n⟩
theorem Tryz.keys178 : Go.Proofs.SlLaysZ.n7 Tryz.prog Tryz.keys178_ren := {
  mixed := by kernel_rfl
  f7 := ⟨Tryz.f178.name, by decide, Tryz.func178.trans (congrArg some (by kernel_rfl))⟩
  f10 := ⟨Tryz.f227.name, by decide, Tryz.func227.trans (congrArg some (by kernel_rfl))⟩
  t0 := Tryz.underlying0
  a0 := Tryz.isAgg0
  z0 := Tryz.sizeOf0
  v0 := Tryz.zeroValue0
  t4 := Tryz.underlying4
  a4 := Tryz.isAgg4
  z4 := Tryz.sizeOf4
  v4 := Tryz.zeroValue4
  t23 := Tryz.underlying97
  a23 := Tryz.isAgg97
  z23 := Tryz.sizeOf97
  v23 := Tryz.zeroValue97
  t26 := Tryz.underlying9
  a26 := Tryz.isAgg9
  z26 := Tryz.sizeOf9
  v26 := Tryz.zeroValue9
  t27 := Tryz.underlying288
  a27 := Tryz.isAgg288
  z27 := Tryz.sizeOf288
  v27 := Tryz.zeroValue288
  t28 := Tryz.underlying289
  a28 := Tryz.isAgg289
  z28 := Tryz.sizeOf289
  v28 := Tryz.zeroValue289
  t33 := Tryz.underlying118
  a33 := Tryz.isAgg118
  z33 := Tryz.sizeOf118
  v33 := Tryz.zeroValue118 }
def Tryz.sorted177_ren : Go.Shelf.Ren := ⟨fun | 6 => 177 | 8 => 225 | 9 => 226 | 11 => 242 | 13 => 244 | 12 => 243 | 23 => 260 | 24 => 261 | 14 => 251 | 15 => 252 | 16 => 253 | 17 => 254 | 18 => 255 | 19 => 256 | 20 => 257 | 21 => 258 | 22 => 259 | 25 => 279 | 26 => 280 | 27 => 281 | 28 => 282 | 29 => 283 | 30 => 284 | 31 => 285 | n => n, fun | 26 => 9 | 28 => 289 | 24 => 117 | 0 => 0 | 3 => 3 | 37 => 355 | 48 => 375 | 50 => 377 | 4 => 4 | 40 => 368 | 39 => 367 | 45 => 216 | 5 => 5 | 9 => 9 | 51 => 378 | 55 => 333 | 57 => 383 | 58 => 121 | 33 => 118 | n => n, fun | n => n⟩
theorem Tryz.sorted177 : Go.Proofs.SlLaysZ.n6 Tryz.prog Tryz.sorted177_ren := {
  mixed := by kernel_rfl
  f6 := ⟨Tryz.f177.name, by decide, Tryz.func177.trans (congrArg some (by kernel_rfl))⟩
  f8 := ⟨Tryz.f225.name, by decide, Tryz.func225.trans (congrArg some (by kernel_rfl))⟩
  f11 := ⟨Tryz.f242.name, by decide, Tryz.func242.trans (congrArg some (by kernel_rfl))⟩
  t0 := Tryz.underlying0
  a0 := Tryz.isAgg0
  z0 := Tryz.sizeOf0
  v0 := Tryz.zeroValue0
  t24 := Tryz.underlying117
  a24 := Tryz.isAgg117
  z24 := Tryz.sizeOf117
  v24 := Tryz.zeroValue117
  t26 := Tryz.underlying9
  a26 := Tryz.isAgg9
  z26 := Tryz.sizeOf9
  v26 := Tryz.zeroValue9
  t28 := Tryz.underlying289
  a28 := Tryz.isAgg289
  z28 := Tryz.sizeOf289
  v28 := Tryz.zeroValue289
  i26 := by kernel_rfl }
def Tryz.sort226_ren : Go.Shelf.Ren := ⟨fun | 6 => 226 | 8 => 244 | 9 => 243 | 19 => 260 | 20 => 261 | 21 => 251 | 22 => 252 | 23 => 253 | 24 => 254 | 25 => 255 | 26 => 256 | 27 => 257 | 28 => 258 | 29 => 259 | 36 => 279 | 31 => 280 | 32 => 281 | 37 => 282 | 38 => 283 | 39 => 284 | 41 => 285 | n => n, fun | 27 => 117 | 29 => 9 | 3 => 3 | 32 => 355 | 26 => 117 | 0 => 0 | 44 => 375 | 46 => 377 | 4 => 4 | 36 => 368 | 35 => 367 | 41 => 216 | 5 => 5 | 9 => 9 | 53 => 378 | 57 => 333 | 63 => 383 | 64 => 121 | n => n, fun | n => n⟩
theorem Tryz.sort226 : Go.Proofs.SlLaysM.n6 Tryz.prog Tryz.sort226_ren := {
  mixed := by kernel_rfl
  f6 := ⟨Tryz.f226.name, by decide, Tryz.func226.trans (congrArg some (by kernel_rfl))⟩
  f8 := Tryz.func244.trans (congrArg some (by kernel_rfl))
  f9 := ⟨Tryz.f243.name, by decide, Tryz.func243.trans (congrArg some (by kernel_rfl))⟩
  f19 := Tryz.func260.trans (congrArg some (by kernel_rfl))
  f20 := Tryz.func261.trans (congrArg some (by kernel_rfl))
  f21 := ⟨Tryz.f251.name, by decide, Tryz.func251.trans (congrArg some (by kernel_rfl))⟩
  f22 := ⟨Tryz.f252.name, by decide, Tryz.func252.trans (congrArg some (by kernel_rfl))⟩
  f23 := ⟨Tryz.f253.name, by decide, Tryz.func253.trans (congrArg some (by kernel_rfl))⟩
  f24 := ⟨Tryz.f254.name, by decide, Tryz.func254.trans (congrArg some (by kernel_rfl))⟩
  f25 := ⟨Tryz.f255.name, by decide, Tryz.func255.trans (congrArg some (by kernel_rfl))⟩
  f26 := ⟨Tryz.f256.name, by decide, Tryz.func256.trans (congrArg some (by kernel_rfl))⟩
  f27 := ⟨Tryz.f257.name, by decide, Tryz.func257.trans (congrArg some (by kernel_rfl))⟩
  f28 := ⟨Tryz.f258.name, by decide, Tryz.func258.trans (congrArg some (by kernel_rfl))⟩
  f29 := ⟨Tryz.f259.name, by decide, Tryz.func259.trans (congrArg some (by kernel_rfl))⟩
  f31 := Tryz.func280.trans (congrArg some (by kernel_rfl))
  f32 := Tryz.func281.trans (congrArg some (by kernel_rfl))
  f36 := ⟨Tryz.f279.name, by decide, Tryz.func279.trans (congrArg some (by kernel_rfl))⟩
  f37 := ⟨Tryz.f282.name, by decide, Tryz.func282.trans (congrArg some (by kernel_rfl))⟩
  f38 := ⟨Tryz.f283.name, by decide, Tryz.func283.trans (congrArg some (by kernel_rfl))⟩
  f39 := ⟨Tryz.f284.name, by decide, Tryz.func284.trans (congrArg some (by kernel_rfl))⟩
  f41 := ⟨Tryz.f285.name, by decide, Tryz.func285.trans (congrArg some (by kernel_rfl))⟩
  t0 := Tryz.underlying0
  a0 := Tryz.isAgg0
  z0 := Tryz.sizeOf0
  v0 := Tryz.zeroValue0
  t3 := Tryz.underlying3
  a3 := Tryz.isAgg3
  z3 := Tryz.sizeOf3
  v3 := Tryz.zeroValue3
  t4 := Tryz.underlying4
  a4 := Tryz.isAgg4
  z4 := Tryz.sizeOf4
  v4 := Tryz.zeroValue4
  t5 := Tryz.underlying5
  a5 := Tryz.isAgg5
  z5 := Tryz.sizeOf5
  v5 := Tryz.zeroValue5
  t9 := Tryz.underlying9
  a9 := Tryz.isAgg9
  z9 := Tryz.sizeOf9
  v9 := Tryz.zeroValue9
  t26 := Tryz.underlying117
  a26 := Tryz.isAgg117
  z26 := Tryz.sizeOf117
  v26 := Tryz.zeroValue117
  t27 := Tryz.underlying117
  a27 := Tryz.isAgg117
  z27 := Tryz.sizeOf117
  v27 := Tryz.zeroValue117
  t29 := Tryz.underlying9
  a29 := Tryz.isAgg9
  z29 := Tryz.sizeOf9
  v29 := Tryz.zeroValue9
  t32 := Tryz.underlying355
  a32 := Tryz.isAgg355
  z32 := Tryz.sizeOf355
  v32 := Tryz.zeroValue355
  t35 := Tryz.underlying367
  a35 := Tryz.isAgg367
  z35 := Tryz.sizeOf367
  v35 := Tryz.zeroValue367
  t36 := Tryz.underlying368
  a36 := Tryz.isAgg368
  z36 := Tryz.sizeOf368
  v36 := Tryz.zeroValue368
  t41 := Tryz.underlying216
  a41 := Tryz.isAgg216
  z41 := Tryz.sizeOf216
  v41 := Tryz.zeroValue216
  t44 := Tryz.underlying375
  a44 := Tryz.isAgg375
  z44 := Tryz.sizeOf375
  v44 := Tryz.zeroValue375
  t46 := Tryz.underlying377
  a46 := Tryz.isAgg377
  z46 := Tryz.sizeOf377
  v46 := Tryz.zeroValue377
  t53 := Tryz.underlying378
  a53 := Tryz.isAgg378
  z53 := Tryz.sizeOf378
  v53 := Tryz.zeroValue378
  t57 := Tryz.underlying333
  a57 := Tryz.isAgg333
  z57 := Tryz.sizeOf333
  v57 := Tryz.zeroValue333
  t63 := Tryz.underlying383
  a63 := Tryz.isAgg383
  z63 := Tryz.sizeOf383
  v63 := Tryz.zeroValue383
  t64 := Tryz.underlying121
  a64 := Tryz.isAgg121
  z64 := Tryz.sizeOf121
  v64 := Tryz.zeroValue121 }

theorem Tryz.sorts177 (m : Nat) : AnyZ.SortsIn Tryz.prog Tryz.sorted177_ren Fence.wide m :=
  ⟨fun blk off cap ss W hH hblk hsz => callsIn_wide.2 (AnyM.slices_Sort_string Tryz.sort226 blk off cap ss W hH hblk hsz),
   fun p cap W => callsIn_wide.2 (AnyM.slices_Sort_string_none Tryz.sort226 p cap W)⟩
theorem Tryz.maps_Keys_178 (mb : Option Nat) (W : World) : CallsIn Fence.wide 5 Tryz.prog 178 #[.map mb] W fun e w' => e = .returned (.func (.func 227) #[] #[.pointer (some ⟨W.heap.size, 0, none⟩)]) ∧ w' = W.alloc (.cells #[.map mb] 97) :=
  AnyZ.keys_in Tryz.keys178 Fence.wide 5 trivial rfl mb W
set_option maxHeartbeats 1000000 in
theorem Tryz.slices_Sorted_keys_177_178 {H : Type} (b nn : Nat) (D0 : DataW H) (R : Value → Option (DataW H × List MemPlace)) (w : World) (hown : w.ownsMap Tryz.prog 9 R b nn D0) (hmax : Maps.size D0 ≤ maxLen) (hbytes : Maps.size D0 * 16 ≤ 140737488355328) :
    CallsIn Fence.wide 5 Tryz.prog 177 #[.func (.func 227) #[] #[.pointer (some ⟨w.heap.size, 0, none⟩)]] (w.alloc (.cells #[.map (some b)] 97)) fun e w' => ∃ (v : Value) (ss : List (List UInt8)), e = .returned v ∧ ss.Perm (strKeys D0) ∧
      w'.ownsRow (w.alloc (.cells #[.map (some b)] 97)).heap.size 9 1 v ss.length ((ss.mergeSort (fun x y => decide (x ≤ y))).map encStr) ∧ (v = .slice none 0 0 ↔ ss = []) ∧ Below (w.alloc (.cells #[.map (some b)] 97)).heap.size (w.alloc (.cells #[.map (some b)] 97)) w' := by
  have hbl := hown.lt
  have hseq : SeqGives Fence.wide 2 Tryz.prog 227 #[.pointer (some ⟨w.heap.size, 0, none⟩)] encStr (fun ss => ss.Perm (strKeys D0)) (Maps.size D0) (w.alloc (.cells #[.map (some b)] 97)) :=
    AnyZ.keys_gives (ρ := Tryz.keys178_ren) { Tryz.keys178 with } Fence.wide _ trivial rfl (by omega) w.heap.size b nn D0 _ (by simp) (by simp) (by
      obtain ⟨es, clock, hb, Ft, hs, hD⟩ := hown
      exact ⟨es, clock, (Below.heap_alloc _ _ b hbl).trans hb, Ft, hs, hD⟩)
  exact AnyZ.sorted_in Tryz.sorted177 Fence.wide 5 trivial trivial trivial trivial rfl (by omega) (Tryz.sorts177 _) (enters_of Tryz.func226 (by kernel_rfl) rfl) 227 #[.pointer (some ⟨w.heap.size, 0, none⟩)] trivial (enters_of Tryz.func227 (by kernel_rfl) rfl) _ _ hmax hbytes _ hseq
set_option maxHeartbeats 1000000 in
theorem Tryz.slices_Sorted_keys_nil_177_178 (w : World) :
    CallsIn Fence.wide 5 Tryz.prog 177 #[.func (.func 227) #[] #[.pointer (some ⟨w.heap.size, 0, none⟩)]] (w.alloc (.cells #[.map none] 97)) fun e w' => ∃ (v : Value) (ss : List (List UInt8)), e = .returned v ∧ ss = [] ∧
      w'.ownsRow (w.alloc (.cells #[.map none] 97)).heap.size 9 1 v ss.length ((ss.mergeSort (fun x y => decide (x ≤ y))).map encStr) ∧ (v = .slice none 0 0 ↔ ss = []) ∧ Below (w.alloc (.cells #[.map none] 97)).heap.size (w.alloc (.cells #[.map none] 97)) w' := by
  have hseq : SeqGives Fence.wide 2 Tryz.prog 227 #[.pointer (some ⟨w.heap.size, 0, none⟩)] encStr (fun ss : List (List UInt8) => ss = []) 0 (w.alloc (.cells #[.map none] 97)) :=
    AnyZ.keys_gives_nil (ρ := Tryz.keys178_ren) { Tryz.keys178 with } Fence.wide _ trivial rfl w.heap.size _ (by simp) (by simp)
  exact AnyZ.sorted_in Tryz.sorted177 Fence.wide 5 trivial trivial trivial trivial rfl (by omega) (Tryz.sorts177 _) (enters_of Tryz.func226 (by kernel_rfl) rfl) 227 #[.pointer (some ⟨w.heap.size, 0, none⟩)] trivial (enters_of Tryz.func227 (by kernel_rfl) rfl) _ 0 (Nat.zero_le _) (by omega) _ hseq
end Go.Proofs

/- Files: all files by name. -/
namespace Go.Proofs.YtdmkjbdlidadiaaGreat
open Go.RowKit Go.Maps

def Ob.bytes : Ob → List UInt8
  | .file b => b
  | _ => []
end Go.Proofs.YtdmkjbdlidadiaaGreat

/- The reference's kernel: Files. -/
namespace Go.Proofs.YtdmkjbdlidadiaaGreat
open Go.RowKit

end Go.Proofs.YtdmkjbdlidadiaaGreat

/- The reference's kernel: Screens. -/
namespace Go.Proofs.YtdmkjbdlidadiaaGreat
open Go.RowKit

end Go.Proofs.YtdmkjbdlidadiaaGreat

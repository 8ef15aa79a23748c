/- What the proof stands on, part 10: the contracts of the program's calls that it reaches. -/
import Derived.Test.YtdmkjbdlidadiaaGreatKP9
import Derived.ChangeArms
import Derived.ChangeSlices
import Derived.SizedLaws
import Derived.Deep.Slices
import Derived.ProofKit
import Derived.OpenShut
import Derived.Deep.SlicePairs
/- The program's kernel as it is being made: without its plan. -/
namespace Go.Proofs.YtdmkjbdlidadiaaGreat
open Go.RowKit Go.Maps

structure PX (W : World) (ρ : Nat → Option PTag) (I : PI) (K : KS) : Prop where
  comp : ∀ t, t ≠ .kern → t ≠ .plan → PComp W ρ I K t
  lt : ∀ k t, ρ k = some t → k < W.heap.size
  ok : KOk K
  nm : KNm K
theorem PX.more {W W' : World} {ρ : Nat → Option PTag} {I : PI} {K K' : KS} {t : Th} (h : PX W ρ I K) (hM : More K K' t) (p c : Nat) {O' : Nat → Prop} (hO : PObj W' O' p t.ob) (hO' : ∀ k, O' k → W.heap.size ≤ k ∧ k ≠ c)
    (hc : ∀ ls scr, t.ob = .term ls scr → COc W' c p scr.length ∧ W.heap.size ≤ c) (hT : Turned (fun k => ρ k = some .fmap ∨ ρ k = some .tmap) W W') (hok : KOk K') (hnm : KNm K')
    (hf : PMap W' Tryz.prog 9 I.fm (K'.fl { I with ob := upd I.ob K.th.length p, cb := upd I.cb K.th.length c })) (ht : PMap W' Tryz.prog 9 I.tm (K'.tl { I with ob := upd I.ob K.th.length p, cb := upd I.cb K.th.length c })) :
    ∃ ρ', PX W' ρ' { I with ob := upd I.ob K.th.length p, cb := upd I.cb K.th.length c } K' ∧ newTags ρ ρ' W ∧ ∀ k, k < W.heap.size → ρ' k = ρ k := by
  classical
  obtain ⟨ρ', hρ⟩ : ∃ ρ' : Nat → Option PTag, ρ' = fun k => if k < W.heap.size then ρ k else if k < W'.heap.size then (if k = c then some (.cons K.th.length) else if O' k then some (.obj K.th.length) else none) else none := ⟨_, rfl⟩
  have low : ∀ k, k < W.heap.size → ρ' k = ρ k := fun k hlt => by rw [hρ]; simp [hlt]
  have fit : ∀ {k t}, ρ k = some t → ρ' k = some t := fun {k t} e => (low k (h.lt k t e)).trans e
  have back : ∀ {k t}, ρ' k = some t → ρ k = some t ∨ (W.heap.size ≤ k ∧ k < W'.heap.size) := by
    intro k t e
    by_cases hlt : k < W.heap.size
    · rw [low k hlt] at e; exact .inl e
    · rw [hρ] at e
      simp only [if_neg hlt] at e
      split at e
      · exact .inr ⟨by omega, by assumption⟩
      · cases e
  have key : ∀ t, t ≠ .fmap → t ≠ .tmap → t ≠ .kern → t ≠ .plan → PComp W' ρ I K t := fun t h1 h2 h3 h4 => (h.comp t h3 h4).keep (fun k e hlt => hT.block k hlt (fun e' => by
    rcases e' with e' | e'
    · rw [e'] at e; exact h1 (Option.some.inj e).symm
    · rw [e'] at e; exact h2 (Option.some.inj e).symm)) hT.size
  have hlen : K'.th.length = K.th.length + 1 := by rw [hM.th]; simp
  have hthv : ∀ d ∈ K.de, thingV { I with ob := upd I.ob K.th.length p, cb := upd I.cb K.th.length c } K' d = thingV I K d := by
    intro d hd
    have hlt := h.ok.th d hd
    unfold thingV
    rw [KS.tho_obOf, KS.tho_obOf, hM.obOf hlt]
    simp only [upd_other (Nat.ne_of_lt hlt)]
  refine ⟨ρ', ⟨fun t' h3 h4 => ?_, fun k t e => ?_, hok, hnm⟩, fun k t e => (back e).imp (fun e' => ⟨t, e'⟩) (fun e' => e'.1), low⟩
  · cases t' with
    | kern => exact absurd rfl h3
    | fmap => exact ⟨hf, fit (h.comp .fmap (by simp) (by simp)).2⟩
    | tmap => exact ⟨ht, fit (h.comp .tmap (by simp) (by simp)).2⟩
    | omap =>
      obtain ⟨a1, a2⟩ := key .omap (by simp) (by simp) (by simp) (by simp)
      refine ⟨?_, fit a2⟩
      unfold KS.dl at a1 ⊢
      rw [hM.de]
      exact a1
    | plan => exact absurd rfl h4
    | obj j =>
      intro hj
      by_cases e : j = K.th.length
      · subst e
        rw [hM.atNew hj]
        simp only [upd_same]
        refine hO.trim.mono fun k ⟨e1, e2⟩ => ?_
        have := hO' k e1
        rw [hρ]
        simp [Nat.not_lt.2 this.1, e2, this.2, e1]
      · have hj' : j < K.th.length := by omega
        rw [hM.at hj' hj]
        simp only [upd_other e]
        exact (key (.obj j) (by simp) (by simp) (by simp) (by simp) hj').mono fun k e => fit e
    | cons j =>
      intro hj ls scr e1
      by_cases e : j = K.th.length
      · subst e
        rw [hM.atNew hj] at e1
        obtain ⟨a1, a2⟩ := hc ls scr e1
        simp only [upd_same]
        have hlt : c < W'.heap.size := (Array.getElem?_eq_some_iff.1 a1).1
        exact ⟨a1, by rw [hρ]; simp [Nat.not_lt.2 a2, hlt]⟩
      · have hj' : j < K.th.length := by omega
        rw [hM.at hj' hj] at e1
        simp only [upd_other e]
        obtain ⟨a1, a2⟩ := key (.cons j) (by simp) (by simp) (by simp) (by simp) hj' ls scr e1
        exact ⟨a1, fit a2⟩
    | desc n =>
      intro d hd e
      rw [hM.de] at hd
      obtain ⟨a1, a2⟩ := key (.desc n) (by simp) (by simp) (by simp) (by simp) d hd e
      exact ⟨by rw [hthv d hd]; exact a1, fit a2⟩
    | ofile n =>
      intro d hd e b hb
      rw [hM.de] at hd
      have hlt := h.ok.th d hd
      rw [KS.tho_obOf, hM.obOf hlt] at hb
      simp only [upd_other (Nat.ne_of_lt hlt)]
      obtain ⟨a1, a2⟩ := key (.ofile n) (by simp) (by simp) (by simp) (by simp) d hd e b hb
      exact ⟨a1, fit a2⟩
  · rcases back e with e' | e'
    · exact Nat.lt_of_lt_of_le (h.lt k t e') hT.size
    · exact e'.2
theorem PX.under {W W' : World} {ρ : Nat → Option PTag} {I : PI} {K : KS} (h : PX W ρ I K) (hB : Below W.heap.size W W') : PX W' ρ I K :=
  ⟨fun t h1 h2 => (h.comp t h1 h2).keep (fun k e _ => hB.block k (h.lt k t e)) hB.size, fun k t e => Nat.lt_of_lt_of_le (h.lt k t e) hB.size, h.ok, h.nm⟩
end Go.Proofs.YtdmkjbdlidadiaaGreat

/- The program's kernel as it is being made: how it begins, and how files and terminals come to it. -/
namespace Go.Proofs.YtdmkjbdlidadiaaGreat
open Go.RowKit Go.Maps

def KB0 (W : World) (I : PI) : Prop := W.heap[I.kb]? = some (.cells ([.bool true, .map (some I.fm), .map (some I.tm), .map (some I.om), .int .i64 (0 : Nat), .pointer none, .int .i64 (0 : Nat), .int .i64 (0 : Nat)] : List Value).toArray 102 (0, 0))
structure PY (W : World) (B : Nat) (ρ : Nat → Option PTag) (I : PI) (K : KS) (k0 f0 t0 o0 : Nat) : Prop where
  px : PX W ρ I K
  blk : KB0 W I
  kern : ρ I.kb = some .kern
  kb : I.kb = k0
  fm : I.fm = f0
  tm : I.tm = t0
  om : I.om = o0
  last : I.last = 0
  low : ∀ k t, ρ k = some t → B ≤ k
theorem PY.under {W W' : World} {B : Nat} {ρ : Nat → Option PTag} {I : PI} {K : KS} {k0 f0 t0 o0 : Nat} (h : PY W B ρ I K k0 f0 t0 o0) (hB : Below W.heap.size W W') : PY W' B ρ I K k0 f0 t0 o0 :=
  ⟨h.px.under hB, (hB.block _ (h.px.lt _ _ h.kern)).trans h.blk, h.kern, h.kb, h.fm, h.tm, h.om, h.last, h.low⟩
theorem PY.done {W W1 W' : World} {B : Nat} {ρ : Nat → Option PTag} {I : PI} {K : KS} {k0 f0 t0 o0 : Nat} (h : PY W B ρ I K k0 f0 t0 o0) (hB : B ≤ W.heap.size) (hN : K.next = 1 ∧ K.reads = 0 ∧ K.writes = 0) {g : Nat} {v : Value} (hP : PlanAt W1 g v K.plan) (hg : W.heap.size ≤ g) (hv : ∀ k, v.ownBlock = some k → W.heap.size ≤ k) (hB1 : Below W.heap.size W W1)
    (hW : W' = W1.setCell ⟨k0, 5, none⟩ (.pointer (some ⟨g, 0, none⟩))) (hgl : g < W1.heap.size) (hvl : ∀ k, v.ownBlock = some k → k < W1.heap.size) : KAt W' (fun k => B ≤ k) k0 K := by
  have hk0 := h.kb
  subst hk0
  have hkl := h.px.lt _ _ h.kern
  have hb1 : W1.heap[I.kb]? = _ := (hB1.block _ hkl).trans h.blk
  have hT : Turned (fun k => k = I.kb) W1 W' := by rw [hW]; exact (Turned.refl _ W1).set (.inl rfl)
  have hsz : W'.heap.size = W1.heap.size := by rw [hW]; exact heap_set_size _ _ _ _
  classical
  obtain ⟨ρ', hρ⟩ : ∃ ρ' : Nat → Option PTag, ρ' = fun k => if k = g ∨ v.ownBlock = some k then some .plan else ρ k := ⟨_, rfl⟩
  have hno : ∀ {k t}, ρ k = some t → ¬ (k = g ∨ v.ownBlock = some k) := fun {k t} e e' => by
    have := h.px.lt k t e
    rcases e' with e' | e'
    · omega
    · have := hv k e'; omega
  have fit : ∀ {k t}, ρ k = some t → ρ' k = some t := fun {k t} e => by rw [hρ]; simp only [if_neg (hno e)]; exact e
  have back : ∀ {k t}, ρ' k = some t → ρ k = some t ∨ k = g ∨ v.ownBlock = some k := fun {k t} e => by
    rw [hρ] at e
    simp only at e
    split at e
    · rename_i hh; exact .inr hh
    · exact .inl e
  have key : ∀ t, t ≠ .kern → t ≠ .plan → PComp W' ρ { I with pb := g, pv := v } K t := fun t h1 h2 => by
    have := ((h.px.comp t h1 h2).keep (W' := W1) (fun k e hlt => hB1.block k hlt) hB1.size).keep (W' := W') (fun k e hlt => hT.block k hlt (fun e' => by rw [e', h.kern] at e; exact h1 (Option.some.inj e).symm)) hT.size
    cases t <;> first | exact this | exact absurd rfl h1 | exact absurd rfl h2
  refine ⟨ρ', { I with pb := g, pv := v }, ⟨fun t => ?_, fun k t e => ?_, h.px.ok, h.px.nm⟩, rfl, fun k t e => ?_⟩
  · cases t with
    | kern =>
      refine ⟨?_, fit h.kern, by show K.next = I.last + 1; rw [h.last, hN.1]⟩
      rw [hW, heap_setCell_same 5 _ hb1, hN.2.1, hN.2.2]
      show _ = some (Obj.cells ([_, _, _, _, Value.int .i64 I.last, _, _, _] : List Value).toArray _ _)
      rw [h.last]
      rfl
    | plan =>
      refine ⟨?_, by rw [hρ]; simp, fun k e => by rw [hρ]; simp [show v.ownBlock = some k from e]⟩
      refine hP.keep fun k hlt e => hT.block k hlt (fun e' => ?_)
      rcases e with e | e
      · omega
      · have := hv k e; omega
    | fmap => obtain ⟨x1, x2⟩ := key .fmap (by simp) (by simp); exact ⟨x1, fit x2⟩
    | tmap => obtain ⟨x1, x2⟩ := key .tmap (by simp) (by simp); exact ⟨x1, fit x2⟩
    | omap => obtain ⟨x1, x2⟩ := key .omap (by simp) (by simp); exact ⟨x1, fit x2⟩
    | obj i => exact fun hi => (key (.obj i) (by simp) (by simp) hi).mono fun k e => fit e
    | cons i => exact fun hi ls scr e => by obtain ⟨x1, x2⟩ := key (.cons i) (by simp) (by simp) hi ls scr e; exact ⟨x1, fit x2⟩
    | desc n => exact fun d hd e => by obtain ⟨x1, x2⟩ := key (.desc n) (by simp) (by simp) d hd e; exact ⟨x1, fit x2⟩
    | ofile n => exact fun d hd e b hb => by obtain ⟨x1, x2⟩ := key (.ofile n) (by simp) (by simp) d hd e b hb; exact ⟨x1, fit x2⟩
  · rw [hsz]
    rcases back e with e' | e' | e'
    · exact Nat.lt_of_lt_of_le (h.px.lt k t e') hB1.size
    · omega
    · exact hvl k e'
  · rcases back e with e' | e' | e'
    · exact h.low k t e'
    · omega
    · have := hv k e'; omega
end Go.Proofs.YtdmkjbdlidadiaaGreat

/- The program's kernel: New. -/
namespace Go.Proofs.YtdmkjbdlidadiaaGreat
open Go.RowKit Go.Maps

structure Seen (K : KS) (ns : List ByteArray) (n : Nat) : Prop where
  names : ∀ i ∈ K.nm, K.nameOf i ∈ ns
  len : K.nm.length = n
  next : K.next = 1 ∧ K.reads = 0 ∧ K.writes = 0
theorem Seen.add {K : KS} {ns : List ByteArray} {n : Nat} (h : Seen K ns n) (hok : KOk K) (t : Th) : Seen (K.addTh t) (ns ++ [t.name]) (n + 1) := by
  have hM := more_addTh K t
  refine ⟨fun i hi => ?_, ?_, h.next⟩
  · rw [addTh_nm] at hi
    rcases mem_insN.1 hi with rfl | hi
    · rw [hM.nameNew]; simp
    · rw [hM.nameOf (hok.nm i hi)]
      exact List.mem_append_left _ (h.names i hi)
  · rw [addTh_nm, (insN_perm _ _ _).length_eq]; simp [h.len]
end Go.Proofs.YtdmkjbdlidadiaaGreat

/- The reference's kernel: New. -/
namespace Go.Proofs.YtdmkjbdlidadiaaGreat
open Go.RowKit

end Go.Proofs.YtdmkjbdlidadiaaGreat

/- Lines, and steps, that came in as an argument: what a walk is told of them. -/
namespace Go.Proofs.YtdmkjbdlidadiaaGreat
open Go.ChangeShapes Go.WideShapes Go.ChangeAt Go.RowKit Go.Deep

end Go.Proofs.YtdmkjbdlidadiaaGreat

/- Faults, and ints, that came in as an argument: what a walk is told of them. -/
namespace Go.Proofs.YtdmkjbdlidadiaaGreat
open Go.ChangeShapes Go.WideShapes Go.ChangeAt Go.RowKit Go.Deep

def Fa_Ints (W : World) (v : Value) (l : List Int) : Prop :=
  ∃ a c, v = .slice a l.length c ∧ (0 < l.length → ∃ b off, a = some ⟨b, off, none⟩ ∧ ∀ j, j < l.length → W.cell? ⟨b, off + j, none⟩ = some (.int .i64 (l.getD j 0)))
theorem Fa_Ints.below {W W' : World} {v : Value} {l : List Int} (h : Fa_Ints W v l) (hB : Below W.heap.size W W') : Fa_Ints W' v l := by
  obtain ⟨a, c, rfl, h⟩ := h
  refine ⟨a, c, rfl, fun h0 => ?_⟩
  obtain ⟨b, off, rfl, hc⟩ := h h0
  refine ⟨b, off, rfl, fun j hj => ?_⟩
  have := World.block_lt_of_cell? W _ (hc j hj)
  exact (hB.cell (p := ⟨b, off + j, none⟩) this).trans (hc j hj)

end Go.Proofs.YtdmkjbdlidadiaaGreat

/- Files, terminals, steps and setups that came in as an argument: what a walk is told of them, and their sizes. -/
namespace Go.Proofs.YtdmkjbdlidadiaaGreat
open Go.ChangeShapes Go.WideShapes Go.ChangeAt Go.RowKit Go.Deep

def Small {H : Type} (P : Program) (t : TypeId) (d : DataW H) : Prop := ∀ n ∈ d.weights P t, n ≤ reachBytes
theorem Small.slice {H : Type} {P : Program} {t e : TypeId} {es sp : List (DataW H)} (h : Small P t (.slice es sp)) (hu : P.underlying t = some (.slice e)) : (es.length + sp.length) * P.bytesOf e ≤ reachBytes ∧ ∀ d ∈ es, Small P e d :=
  ⟨h _ (by simp [DataW.weights, hu]), fun d hd n hn => h n (by
    simp only [DataW.weights, hu, List.mem_cons, List.mem_append]
    exact Or.inr (Or.inl (Kp_weightsAll_mem hd n hn)))⟩
structure KSt where
  what : Int
  name : ByteArray
  a : Int
  b : Int
  c : Int
  data : List UInt8
  deriving Inhabited
end Go.Proofs.YtdmkjbdlidadiaaGreat

/- The program's kernel: Read, walked. -/
namespace Go.Proofs.YtdmkjbdlidadiaaGreat
open Go.RowKit Go.Maps

theorem PRd.done {w w1 w4 : World} {ρ : Nat → Option PTag} {I I1 : PI} {r : List UInt8 × Int × KS} {v : Value} (hT : Turned (Own ρ) w w1) (hk : I1.kb = I.kb) (hrow : w4.ownsRow w1.heap.size 5 1 v r.1.length (r.1.map bv)) (hN : PHold ρ I1 w1 r.2.2 w4) :
    PRd ρ I w r (.returned (.tuple #[v, .int .i64 r.2.1])) w4 := ⟨v, rfl, owns_mono hrow hT.size, hN.after hT hk⟩
theorem waits_file {ob : Ob} {b : List UInt8} (h : ob = .file b) : ob.waits = false := by rw [h]; rfl
theorem waits_term {ob : Ob} {ls : List (List UInt8)} {scr : List UInt8} (h : ob = .term ls scr) : ob.waits = false := by rw [h]; rfl
set_option maxRecDepth 100000 in
theorem of_readWaits (x : Nat) (w : World) : Calls Tryz.prog 334 #[.pointer (some ⟨x, 0, none⟩)] w fun e w' => e = .returned (.bool false) ∧ w' = w := by
  go_enter Tryz.func334, Tryz.ntmps334
  go_wp2
  go_ret
  exact ⟨rfl, rfl⟩
set_option maxRecDepth 100000 in
theorem co_readWaits (x : Nat) (w : World) : Calls Tryz.prog 325 #[.pointer (some ⟨x, 0, none⟩)] w fun e w' => e = .returned (.bool false) ∧ w' = w := by
  go_enter Tryz.func325, Tryz.ntmps325
  go_wp2
  go_ret
  exact ⟨rfl, rfl⟩
set_option maxRecDepth 100000 in
set_option maxHeartbeats 4000000 in
theorem kread_any (ρ : Nat → Option PTag) (I : PI) (K : KS) (d n : Int) (w : World) (h : PK w ρ I K) (hd : I64 d) (hr : K.reads < 9223372036854775807) :
    Calls Tryz.prog 62 #[.pointer (some ⟨I.kb, 0, none⟩), .int .i64 d, .int .i64 n] w (PRd ρ I w (K.read d n)) := by
  have HF := hide (described_any ρ I K d w h hd)
  have HX := hide fun E => PRd.refused h (Below.refl _ w) E
  have HK := hide h
  cases hx : K.find d with
  | none =>
    rw [hx] at HF
    rw [show K.read d n = ([], 64, K) by unfold KS.read; rw [hx]]
    clear h HK
    go_enter Tryz.func62, Tryz.ntmps62
    go_wp2_with fail
    refine HF.out.mono ?_
    rintro e w1 ⟨rfl, rfl⟩
    unfold descV
    go_wp2
    go_ret2
    exact HX.out 64
  | some x =>
    rw [hx] at HF
    have hm := (KS.find_some hx).1
    have hdc := h.desc hm
    have c0 := hdc.thing
    have c1 := hdc.reads
    by_cases hf : fbit x.flags 1 = 0
    · rw [show K.read d n = ([], 65, K) by unfold KS.read; rw [hx]; simp only; rw [if_pos hf]]
      rw [bit_no hf] at c1
      clear h hdc HK
      go_enter Tryz.func62, Tryz.ntmps62
      go_wp2_with fail
      refine HF.out.mono ?_
      rintro e w1 ⟨rfl, rfl⟩
      unfold descV
      go_wp2
      go_ret2
      exact HX.out 65
    · rw [bit_yes hf] at c1
      by_cases hn : n < 0 ∨ 1048576 < n
      · rw [show K.read d n = ([], 4, K) by unfold KS.read; rw [hx]; simp only; rw [if_neg hf, if_pos hn]]
        clear h hdc HK
        rcases hn with hn | hn
        · go_enter Tryz.func62, Tryz.ntmps62
          go_wp2_with fail
          refine HF.out.mono ?_
          rintro e w1 ⟨rfl, rfl⟩
          unfold descV
          go_wp2
          go_ret2
          exact HX.out 4
        · have hn' : ¬ n < 0 := by omega
          go_enter Tryz.func62, Tryz.ntmps62
          go_wp2_with fail
          refine HF.out.mono ?_
          rintro e w1 ⟨rfl, rfl⟩
          unfold descV
          go_wp2
          go_ret2
          exact HX.out 4
      · by_cases hz : n = 0
        · rw [show K.read d n = ([], 0, K) by unfold KS.read; rw [hx]; simp only; rw [if_neg hf, if_neg hn, if_pos hz]]
          subst hz
          clear h hdc HK
          go_enter Tryz.func62, Tryz.ntmps62
          go_wp2_with fail
          refine HF.out.mono ?_
          rintro e w1 ⟨rfl, rfl⟩
          unfold descV
          go_wp2
          go_ret2
          exact HX.out 0
        · have n1 : ¬ n < 0 := by omega
          have n2 : ¬ 1048576 < n := by omega
          have n3 : (n == 0) = false := by simpa using hz
          have n4 : 1 ≤ n := by omega
          have n5 : n ≤ 1048576 := by omega
          have n6 : ¬ n = 0 := hz
          obtain ⟨pr, hpr⟩ : ∃ pr, pr = nxt K.plan n := ⟨_, rfl⟩
          have HG : Hid (pr.2 = 0 → 1 ≤ pr.1 ∧ pr.1 ≤ 1048576) := hide (fun e => by rw [hpr] at e ⊢; have := nxt_good h.ok.plan n4 n5 e; omega)
          have HN := hide fun W I' K' (hW : PK W ρ I' K') (hpl : K'.plan = K.plan) => by
            have := knext_any ρ I' K' n W hW n4 n5
            rw [hpl, ← hpr] at this
            exact this
          have hK := HK
          clear hdc
          cases ho : K.tho x with
          | file b =>
            rw [read_is hx hf n4 n5 (waits_file ho), ← hpr]
            have HP2 := hide h.readUp
            have HT0 := hide ho
            rw [thing_file ho] at c0
            have hmw := mf_readWaits (I.xb x.n)
            have hmr := mf_read (I.xb x.n)
            have c6 := h.cells.reads
            have c6s : w.frozen? ⟨I.kb, 6, none⟩ = false := frozen_of_row w I.kb 6 _ _ (h.comp .kern).1
            have c5 := HP2.out.1.cells.plan
            have d2 := (HP2.out.1.desc (x := x) hm).thing
            clear h HX HK
            clear hpr
            obtain ⟨pr1, pr2⟩ := pr
            simp only at HG HN ⊢
            by_cases he : pr2 = 0
            · subst he
              rw [if_pos rfl]
              go_enter Tryz.func62, Tryz.ntmps62
              go_wp2_with fail
              refine HF.out.mono ?_
              rintro e w1 ⟨rfl, rfl⟩
              unfold descV
              go_wp2_with fail
              refine (of_readWaits (I.xb x.n) _).mono ?_
              rintro e w1' ⟨rfl, rfl⟩
              go_wp2_with fail
              generalize hw2 : w1'.setCell ⟨I.kb, 6, none⟩ (.int .i64 ((K.reads : Int) + 1)) = w2 at *
              refine (HN.out w2 I _ HP2.out.1 rfl).mono ?_
              rintro e w3 ⟨rfl, v', hP3, hT3⟩
              have c7 := (hP3.desc (x := x) hm).thing
              rw [thing_file (K := { K with reads := K.reads + 1, plan := K.plan.tail }) ho] at c7
              simp only at c7
              go_wp2_with fail
              refine (xread_file ρ _ _ x b pr1 w3 hP3 hm ho (HG.out (by first | rfl | trivial)).1 (HG.out (by first | rfl | trivial)).2).mono ?_
              rintro e w4 ⟨v, rfl, hrow, hN⟩
              obtain ⟨va, vc, rfl⟩ := owns_slice hrow
              have HV := hide hrow
              have HS := hide hN
              clear hrow hN
              go_wp2
              go_ret2
              exact PRd.done (HP2.out.2.trans hT3 (fun _ _ e => e)) rfl HV.out HS.out
            · rw [if_neg he]
              have he2 : (pr2 == 0) = false := by simpa using he
              go_enter Tryz.func62, Tryz.ntmps62
              go_wp2_with fail
              refine HF.out.mono ?_
              rintro e w1 ⟨rfl, rfl⟩
              unfold descV
              go_wp2_with fail
              refine (of_readWaits (I.xb x.n) _).mono ?_
              rintro e w1' ⟨rfl, rfl⟩
              go_wp2_with fail
              generalize hw2 : w1'.setCell ⟨I.kb, 6, none⟩ (.int .i64 ((K.reads : Int) + 1)) = w2 at *
              refine (HN.out w2 I _ HP2.out.1 rfl).mono ?_
              rintro e w3 ⟨rfl, v', hP3, hT3⟩
              have HP3 := hide hP3
              clear hP3
              go_wp2
              go_ret2
              exact ⟨_, rfl, World.ownsRow_nil _ _ _ _, PHold.of HP3.out rfl (HP2.out.2.trans hT3 (fun _ _ e => e))⟩
          | term ls scr =>
            rw [read_is hx hf n4 n5 (waits_term ho), ← hpr]
            have HP2 := hide h.readUp
            have HT0 := hide ho
            rw [thing_term ho] at c0
            have hmw := mt_readWaits (I.cb x.th)
            have hmr := mt_read (I.cb x.th)
            have c6 := h.cells.reads
            have c6s : w.frozen? ⟨I.kb, 6, none⟩ = false := frozen_of_row w I.kb 6 _ _ (h.comp .kern).1
            have c5 := HP2.out.1.cells.plan
            have d2 := (HP2.out.1.desc (x := x) hm).thing
            clear h HX HK
            clear hpr
            obtain ⟨pr1, pr2⟩ := pr
            simp only at HG HN ⊢
            by_cases he : pr2 = 0
            · subst he
              rw [if_pos rfl]
              go_enter Tryz.func62, Tryz.ntmps62
              go_wp2_with fail
              refine HF.out.mono ?_
              rintro e w1 ⟨rfl, rfl⟩
              unfold descV
              go_wp2_with fail
              refine (co_readWaits (I.cb x.th) _).mono ?_
              rintro e w1' ⟨rfl, rfl⟩
              go_wp2_with fail
              generalize hw2 : w1'.setCell ⟨I.kb, 6, none⟩ (.int .i64 ((K.reads : Int) + 1)) = w2 at *
              refine (HN.out w2 I _ HP2.out.1 rfl).mono ?_
              rintro e w3 ⟨rfl, v', hP3, hT3⟩
              have c7 := (hP3.desc (x := x) hm).thing
              rw [thing_term (K := { K with reads := K.reads + 1, plan := K.plan.tail }) ho] at c7
              simp only at c7
              go_wp2_with fail
              refine (xread_term ρ _ _ x ls scr pr1 w3 hP3 hm ho).mono ?_
              rintro e w4 ⟨v, rfl, hrow, hN⟩
              obtain ⟨va, vc, rfl⟩ := owns_slice hrow
              have HV := hide hrow
              have HS := hide hN
              clear hrow hN
              go_wp2
              go_ret2
              exact PRd.done (HP2.out.2.trans hT3 (fun _ _ e => e)) rfl HV.out HS.out
            · rw [if_neg he]
              have he2 : (pr2 == 0) = false := by simpa using he
              go_enter Tryz.func62, Tryz.ntmps62
              go_wp2_with fail
              refine HF.out.mono ?_
              rintro e w1 ⟨rfl, rfl⟩
              unfold descV
              go_wp2_with fail
              refine (co_readWaits (I.cb x.th) _).mono ?_
              rintro e w1' ⟨rfl, rfl⟩
              go_wp2_with fail
              generalize hw2 : w1'.setCell ⟨I.kb, 6, none⟩ (.int .i64 ((K.reads : Int) + 1)) = w2 at *
              refine (HN.out w2 I _ HP2.out.1 rfl).mono ?_
              rintro e w3 ⟨rfl, v', hP3, hT3⟩
              have HP3 := hide hP3
              clear hP3
              go_wp2
              go_ret2
              exact ⟨_, rfl, World.ownsRow_nil _ _ _ _, PHold.of HP3.out rfl (HP2.out.2.trans hT3 (fun _ _ e => e))⟩
          | pipe q rd wt =>
            cases hcan : canR q.length rd wt with
            | false =>
              rw [show K.read d n = ([], 52, K) by unfold KS.read; rw [hx]; simp only; rw [if_neg hf, if_neg hn, if_neg hz, if_pos (by rw [ho]; show (!canR q.length rd wt) = true; rw [hcan]; rfl)]]
              have HW := hide (pp_readWaits (I.ob x.th) q rd wt w (by have := h.pobj hm; rw [ho] at this; exact this.1))
              rw [hcan] at HW
              rw [thing_pipe ho] at c0
              have hmw := mp_readWaits (I.ob x.th)
              clear h hK HN HG HX
              go_enter Tryz.func62, Tryz.ntmps62
              go_wp2_with fail
              refine HF.out.mono ?_
              rintro e w1 ⟨rfl, rfl⟩
              unfold descV
              go_wp2_with fail
              refine HW.out.mono ?_
              rintro e w2 ⟨rfl, hB⟩
              go_wp2
              go_ret2
              exact PRd.refused HK.out hB 52
            | true =>
            rw [read_is hx hf n4 n5 (by rw [ho]; show (!canR q.length rd wt) = false; rw [hcan]; rfl), ← hpr]
            have HW := hide (pp_readWaits (I.ob x.th) q rd wt w (by have := h.pobj hm; rw [ho] at this; exact this.1))
            rw [hcan] at HW
            have HP := hide h
            have HT0 := hide ho
            rw [thing_pipe ho] at c0
            have hmw := mp_readWaits (I.ob x.th)
            have hmr := mp_read (I.ob x.th)
            clear h HX HK
            clear hpr
            obtain ⟨pr1, pr2⟩ := pr
            simp only at HG HN ⊢
            by_cases he : pr2 = 0
            · subst he
              rw [if_pos rfl]
              go_enter Tryz.func62, Tryz.ntmps62
              go_wp2_with fail
              refine HF.out.mono ?_
              rintro e w1 ⟨rfl, rfl⟩
              unfold descV
              go_wp2_with fail
              refine HW.out.mono ?_
              rintro e w1' ⟨rfl, hB⟩
              have hP1 := HP.out.under hB
              have HP2 := hide hP1.readUp
              have c6 := hP1.cells.reads
              have c6s : w1'.frozen? ⟨I.kb, 6, none⟩ = false := frozen_of_row w1' I.kb 6 _ _ (hP1.comp .kern).1
              have c5 := HP2.out.1.cells.plan
              have d2 := (HP2.out.1.desc (x := x) hm).thing
              have HT1 := hide (Turned.of_below (S := Own ρ) hB)
              clear hP1 hB
              go_wp2_with fail
              generalize hw2 : w1'.setCell ⟨I.kb, 6, none⟩ (.int .i64 ((K.reads : Int) + 1)) = w2 at *
              refine (HN.out w2 I _ HP2.out.1 rfl).mono ?_
              rintro e w3 ⟨rfl, v', hP3, hT3⟩
              have c7 := (hP3.desc (x := x) hm).thing
              rw [thing_pipe (K := { K with reads := K.reads + 1, plan := K.plan.tail }) ho] at c7
              simp only at c7
              go_wp2_with fail
              refine (xread_pipe ρ _ _ x q rd wt pr1 w3 hP3 hm ho).mono ?_
              rintro e w4 ⟨v, rfl, hrow, hN⟩
              obtain ⟨va, vc, rfl⟩ := owns_slice hrow
              have HV := hide hrow
              have HS := hide hN
              clear hrow hN
              go_wp2
              go_ret2
              exact PRd.done ((HT1.out.trans HP2.out.2 (fun _ _ e => e)).trans hT3 (fun _ _ e => e)) rfl HV.out HS.out
            · rw [if_neg he]
              have he2 : (pr2 == 0) = false := by simpa using he
              go_enter Tryz.func62, Tryz.ntmps62
              go_wp2_with fail
              refine HF.out.mono ?_
              rintro e w1 ⟨rfl, rfl⟩
              unfold descV
              go_wp2_with fail
              refine HW.out.mono ?_
              rintro e w1' ⟨rfl, hB⟩
              have hP1 := HP.out.under hB
              have HP2 := hide hP1.readUp
              have c6 := hP1.cells.reads
              have c6s : w1'.frozen? ⟨I.kb, 6, none⟩ = false := frozen_of_row w1' I.kb 6 _ _ (hP1.comp .kern).1
              have c5 := HP2.out.1.cells.plan
              have d2 := (HP2.out.1.desc (x := x) hm).thing
              have HT1 := hide (Turned.of_below (S := Own ρ) hB)
              clear hP1 hB
              go_wp2_with fail
              generalize hw2 : w1'.setCell ⟨I.kb, 6, none⟩ (.int .i64 ((K.reads : Int) + 1)) = w2 at *
              refine (HN.out w2 I _ HP2.out.1 rfl).mono ?_
              rintro e w3 ⟨rfl, v', hP3, hT3⟩
              have HP3 := hide hP3
              clear hP3
              go_wp2
              go_ret2
              exact ⟨_, rfl, World.ownsRow_nil _ _ _ _, PHold.of HP3.out rfl ((HT1.out.trans HP2.out.2 (fun _ _ e => e)).trans hT3 (fun _ _ e => e))⟩
end Go.Proofs.YtdmkjbdlidadiaaGreat

/- The program's kernel: Pipe. -/
namespace Go.Proofs.YtdmkjbdlidadiaaGreat
open Go.RowKit Go.Maps

set_option maxRecDepth 100000 in
set_option maxHeartbeats 2000000 in
theorem newPipe_any (w : World) :
    Calls Tryz.prog 158 #[] w fun e w' => ∃ p, e = .returned (.tuple #[.iface 282 (.agg #[.pointer (some ⟨p, 0, none⟩)]), .iface 282 (.agg #[.pointer (some ⟨p, 0, none⟩)])]) ∧ PObj w' (fun k => w.heap.size ≤ k ∧ k < w'.heap.size) p (.pipe [] 1 1) ∧ Below w.heap.size w w' := by
  have HN := hide (po_new_pipe w)
  go_enter Tryz.func158, Tryz.ntmps158
  go_wp2_with fail
  refine HN.out.mono ?_
  rintro e w1 ⟨p, rfl, hO, hB⟩
  have HJ := hide (po_pjoin _ p [] 0 0 false w1 hO)
  have HB := hide hB
  clear hO hB
  go_wp2_with fail
  refine HJ.out.mono ?_
  rintro e w2 ⟨rfl, O2, h1, h2, h3⟩
  have HJ2 := hide (po_pjoin _ p [] _ _ true w2 h1)
  have HT := hide (And.intro h2 h3)
  clear h1 h2 h3
  go_wp2_with fail
  refine HJ2.out.mono ?_
  rintro e w3 ⟨rfl, O3, h1, h2, h3⟩
  have HL : Hid (PObj w3 (fun k => w.heap.size ≤ k ∧ k < w3.heap.size) p (.pipe [] 1 1) ∧ Below w.heap.size w w3) := hide (by
    obtain ⟨g2, g3⟩ := HT.out
    have hsz := HB.out.size
    have low2 : ∀ k, O2 k → w.heap.size ≤ k := fun k e => by
      rcases g2 k e with e | e
      · exact e.1
      · omega
    have hB2 : Below w.heap.size w w2 := HB.out.trans (g3.below (fun k e => e.1) hsz)
    have hB3 : Below w.heap.size w w3 := hB2.trans (h3.below low2 hB2.size)
    refine ⟨h1.trim.mono fun k ⟨e1, e2⟩ => ⟨?_, e2⟩, hB3⟩
    rcases h2 k e1 with e | e
    · exact low2 k e
    · have := hB2.size; omega)
  clear h1 h2 h3
  go_wp2
  go_ret2
  exact ⟨p, rfl, HL.out⟩
theorem KOk.addP {K : KS} (h : KOk K) (ob : Ob) : KOk (K.addP ob) := by
  have hlen : (K.addP ob).th.length = K.th.length + 1 := by show (K.th ++ [_]).length = _; simp
  exact ⟨h.few, h.named, fun d hd => by have := h.th d hd; omega, fun i hi => by have := h.nm i hi; omega, h.num, h.once, h.flags, h.pos, h.held, h.plan⟩
theorem KNm.addP {K : KS} (h : KNm K) (hok : KOk K) (ob : Ob) (hk : ob.kind = 3) : KNm (K.addP ob) := by
  have hM := more_addP K ob
  refine ⟨?_, fun i hi => ?_, fun i hi e => ?_, fun i hi => ?_⟩
  · refine h.sorted.imp_of_mem fun {a b} ha hb hab => ?_
    rw [hM.nameOf (hok.nm a ha), hM.nameOf (hok.nm b hb)]
    exact hab
  · rw [hM.obOf (hok.nm i hi)]; exact h.kind i hi
  · rw [show (K.addP ob).th.length = K.th.length + 1 by show (K.th ++ [_]).length = _; simp] at hi
    by_cases e' : i = K.th.length
    · subst e'
      rw [hM.obNew] at e
      exact absurd hk e
    · have hlt : i < K.th.length := by omega
      rw [hM.obOf hlt] at e
      exact h.all i hlt e
  · rw [hM.nameOf (hok.nm i hi)]; exact h.ok i hi
theorem fl_addP (K : KS) (hok : KOk K) (I : PI) (ob : Ob) (p c : Nat) : (K.addP ob).fl { I with ob := upd I.ob K.th.length p, cb := upd I.cb K.th.length c } = K.fl I ∧ (K.addP ob).tl { I with ob := upd I.ob K.th.length p, cb := upd I.cb K.th.length c } = K.tl I := by
  have hM := more_addP K ob
  have e : ∀ c : Int, (K.addP ob).nm.filter (fun i => ((K.addP ob).obOf i).kind == c) = K.nm.filter fun i => (K.obOf i).kind == c := fun c => List.filter_congr fun i hi => by rw [hM.obOf (hok.nm i hi)]
  constructor
  · unfold KS.fl KS.fidx
    rw [e 1]
    exact map_old hok hM _ _ _
  · unfold KS.tl KS.tidx
    rw [e 2]
    exact map_old hok hM _ _ _
theorem PK.addPipe {W W' : World} {ρ : Nat → Option PTag} {I : PI} {K : KS} (h : PK W ρ I K) (p : Nat) {q : List UInt8} {rd wt : Nat} (hO : PObj W' (fun k => W.heap.size ≤ k ∧ k < W'.heap.size) p (.pipe q rd wt)) (hB : Below W.heap.size W W') :
    Added ρ I (K.addP (.pipe q rd wt)) W K.th.length p I.fm W' := by
  have hfl := fl_addP K h.ok I (.pipe q rd wt) p I.fm
  have hfm := h.lt _ _ (h.comp .fmap).2
  have htm := h.lt _ _ (h.comp .tmap).2
  obtain ⟨ρ', a1, a2, a3⟩ := h.more (more_addP K (.pipe q rd wt)) p I.fm hO (fun k e => ⟨e.1, by omega⟩) (fun ls scr e => by cases e) (Turned.of_below hB) (h.ok.addP _) (h.nm.addP h.ok _ rfl) (by rw [hfl.1]; exact (h.comp .fmap).1.keep (hB.block _ hfm)) (by rw [hfl.2]; exact (h.comp .tmap).1.keep (hB.block _ htm))
  exact ⟨ρ', a1, a2, a3, Turned.of_below hB⟩
end Go.Proofs.YtdmkjbdlidadiaaGreat

/- The program's kernel: Pipe, walked. -/
namespace Go.Proofs.YtdmkjbdlidadiaaGreat
open Go.RowKit Go.Maps

def PTwo (ρ : Nat → Option PTag) (I : PI) (w : World) (r : Int × Int × Int × KS) (e : Ending) (w' : World) : Prop :=
  e = .returned (.tuple #[.int .i64 r.1, .int .i64 r.2.1, .int .i64 r.2.2.1]) ∧ PNext ρ I w r.2.2.2 w'
theorem results_three {fn : Func} {t u v : Tmp} (h : fn.results = #[.tmp t, .tmp u, .tmp v]) (tmps : Array Value) (P : Program) (w : World) :
    (results fn tmps).run P w = .ok (.tuple #[tmps.getD t undef, tmps.getD u undef, tmps.getD v undef]) w := by
  simp [results, h]
set_option maxRecDepth 100000 in
set_option maxHeartbeats 4000000 in
theorem kpipe_any (ρ : Nat → Option PTag) (I : PI) (K : KS) (w : World) (h : PK w ρ I K) (hl : K.next + 1 < 9223372036854775807) :
    Calls Tryz.prog 60 #[.pointer (some ⟨I.kb, 0, none⟩)] w (PTwo ρ I w K.pipe) := by
  have hm := hide (kmade_any I.kb w h.cells.made)
  have c3 := h.cells.opens
  have sl := (h.comp .omap).1.len Tryz.underlying99
  have HNX := hide (h.comp .kern).2.2
  rw [show (K.dl I).length = K.de.length by unfold KS.dl; simp] at sl
  have hfew := h.ok.few
  by_cases hd : 254 < K.de.length
  · rw [show K.pipe = (0, 0, 3, K) by unfold KS.pipe; rw [if_pos hd]]
    have hd' : (254 : Int) < (K.de.length : Int) := by omega
    have HX := hide (PNext.same h)
    clear h
    go_enter Tryz.func60, Tryz.ntmps60
    go_wp2_with fail
    refine hm.out.mono ?_
    rintro e w1 ⟨rfl, rfl⟩
    go_wp2
    refine bodyPost_ret (results_three rfl _ _ _) rfl ?_
    exact ⟨rfl, HX.out⟩
  · rw [show K.pipe = ((K.next : Int), ((K.next + 1 : Nat) : Int), 0, ((K.addP (.pipe [] 1 1)).newDe K.th.length 1).newDe K.th.length 2) by unfold KS.pipe; rw [if_neg hd]]
    have hd' : ¬ (254 : Int) < (K.de.length : Int) := by omega
    have HNP := hide (newPipe_any w)
    have HK := hide h
    clear h
    go_enter Tryz.func60, Tryz.ntmps60
    go_wp2_with fail
    refine hm.out.mono ?_
    rintro e w1 ⟨rfl, rfl⟩
    go_wp2_with fail
    refine HNP.out.mono ?_
    rintro e w2 ⟨p, rfl, hO, hB⟩
    obtain ⟨ρ1, h1, h2, h3, h4⟩ := HK.out.addPipe p hO hB
    have hlen : K.th.length < (K.addP (.pipe [] 1 1)).th.length := by show _ < (K.th ++ [_]).length; simp
    have hob : (K.addP (.pipe [] 1 1)).obOf K.th.length = .pipe [] 1 1 := (more_addP K (.pipe [] 1 1)).obNew
    have HD1 := hide (describe_any ρ1 _ (K.addP (.pipe [] 1 1)) 282 (.agg #[.pointer (some ⟨p, 0, none⟩)]) 1 w2 h1 (by have := HNX.out; simp only; omega))
    simp only at HD1
    rw [show ((I.last + 1 : Nat) : Int) = (K.next : Int) by rw [HNX.out]] at HD1
    have HP1 := hide (And.intro h1 (And.intro h2 (And.intro h4 (And.intro hlen hob))))
    clear h1 h2 h3 h4 hO hB hlen hob
    go_wp2_with fail
    refine HD1.out.mono ?_
    rintro e w3 ⟨rfl, nb, hD⟩
    have HG1 := hide (HP1.out.1.newDe (i := K.th.length) HP1.out.2.2.2.1 flags_ok1.1 (by show K.de.length < 256; omega) (xb := 0) hD (fun b e => by rw [HP1.out.2.2.2.2] at e; cases e) (fun ls scr e => by rw [HP1.out.2.2.2.2] at e; cases e) (fun q rd wt _ => by simp only [upd_same]))
    have HD0 := hide hD
    clear hD
    obtain ⟨ρ2, g1, g2, g3⟩ := HG1.out
    have HD2 := hide (describe_any ρ2 _ _ 282 (.agg #[.pointer (some ⟨p, 0, none⟩)]) 2 w3 g1 (by have := HNX.out; simp only; omega))
    simp only at HD2
    rw [show ((I.last + 1 + 1 : Nat) : Int) = (K.next : Int) + 1 by rw [HNX.out]; rfl] at HD2
    have HP2 := hide (And.intro g1 g2)
    clear g1 g2 g3 HG1
    go_wp2_with fail
    refine HD2.out.mono ?_
    rintro e w4 ⟨rfl, nb2, hD2⟩
    have HN : Hid (PNext ρ I w1 (((K.addP (.pipe [] 1 1)).newDe K.th.length 1).newDe K.th.length 2) w4) := hide (by
      obtain ⟨h1, h2, h4, hlen, hob⟩ := HP1.out
      obtain ⟨g1, g2⟩ := HP2.out
      have hob2 : ((K.addP (.pipe [] 1 1)).newDe K.th.length 1).obOf K.th.length = .pipe [] 1 1 := hob
      obtain ⟨ρ3, k1, k2, k3⟩ := g1.newDe (i := K.th.length) hlen flags_ok1.2 (by show (K.de ++ [_]).length < 256; simp; omega) (xb := 0) hD2 (fun b e => by rw [hob2] at e; cases e) (fun ls scr e => by rw [hob2] at e; cases e) (fun q rd wt _ => by simp only [upd_same])
      have no : ¬ ∃ b, (K.addP (.pipe [] 1 1)).obOf K.th.length = .file b := fun ⟨b, e⟩ => by rw [hob] at e; cases e
      have T2 : newTags ρ ρ2 w1 := fun k t e => by
        rcases g2 k t e with e | e | e
        · exact h2 k t e
        · exact .inr (by rw [e]; exact Nat.le_trans h4.size HD0.out.new)
        · exact absurd e.1 no
      have T3 : Turned (Own ρ) w1 w3 := h4.trans HD0.out.turned (fun k hk e => by
        have : ∃ t, ρ1 k = some t := by
          rcases e with e | e
          · exact ⟨_, by rw [e]; exact (h1.comp .kern).2.1⟩
          · exact ⟨_, by rw [e]; exact (h1.comp .omap).2⟩
        obtain ⟨t, e'⟩ := this
        rcases h2 k t e' with h' | h'
        · exact h'
        · omega)
      refine ⟨ρ3, _, k1, rfl, fun k t e => ?_, T3.trans hD2.turned (fun k hk e => ?_)⟩
      · rcases k2 k t e with e | e | e
        · exact T2 k t e
        · exact .inr (by rw [e]; exact Nat.le_trans T3.size hD2.new)
        · exact absurd e.1 no
      · have : ∃ t, ρ2 k = some t := by
          rcases e with e | e
          · exact ⟨_, by rw [e]; exact (g1.comp .kern).2.1⟩
          · exact ⟨_, by rw [e]; exact (g1.comp .omap).2⟩
        obtain ⟨t, e'⟩ := this
        rcases T2 k t e' with h' | h'
        · exact h'
        · omega)
    clear hD2
    go_wp2
    refine bodyPost_ret (results_three rfl _ _ _) rfl ?_
    exact ⟨rfl, HN.out⟩
end Go.Proofs.YtdmkjbdlidadiaaGreat

/- The program's kernel: CanRead, CanWrite. -/
namespace Go.Proofs.YtdmkjbdlidadiaaGreat
open Go.RowKit Go.Maps

end Go.Proofs.YtdmkjbdlidadiaaGreat

/- The program's kernel: Write, walked. -/
namespace Go.Proofs.YtdmkjbdlidadiaaGreat
open Go.RowKit Go.Maps

theorem PNum.done {w w1 w4 : World} {ρ : Nat → Option PTag} {I I1 : PI} {r : Int × Int × KS} (hT : Turned (Own ρ) w w1) (hk : I1.kb = I.kb) {e : Ending} (h : PNum ρ I1 w1 r e w4) : PNum ρ I w r e w4 := ⟨h.1, h.2.after hT hk⟩
set_option maxRecDepth 100000 in
set_option maxHeartbeats 4000000 in
theorem kwrite_any (ρ : Nat → Option PTag) (I : PI) (K : KS) (d : Int) (bs : List UInt8) (a1 : Option Addr) (cx : Nat) (w : World) (h : PK w ρ I K) (hd : I64 d) (hr : K.writes < 9223372036854775807)
    (hb : Bys w (.slice a1 bs.length cx) bs) (hcap : bs.length ≤ cx) (hbig : bs.length ≤ 9223372036854775807) (hap : 0 < bs.length → ∀ k, (Value.slice a1 bs.length cx).ownBlock = some k → ¬ Own ρ k) :
    Calls Tryz.prog 66 #[.pointer (some ⟨I.kb, 0, none⟩), .int .i64 d, .slice a1 bs.length cx] w (PNum ρ I w (K.write d bs)) := by
  have HF := hide (described_any ρ I K d w h hd)
  have HX := hide fun E => PNum.refused h (Below.refl _ w) E
  have HK := hide h
  cases hx : K.find d with
  | none =>
    rw [hx] at HF
    rw [show K.write d bs = (0, 64, K) by unfold KS.write; rw [hx]]
    clear h HK hb hap
    go_enter Tryz.func66, Tryz.ntmps66
    go_wp2_with fail
    refine HF.out.mono ?_
    rintro e w1 ⟨rfl, rfl⟩
    unfold descV
    go_wp2
    go_ret2
    exact HX.out 64
  | some x =>
    rw [hx] at HF
    have hm := (KS.find_some hx).1
    have hdc := h.desc hm
    have c0 := hdc.thing
    have c1 := hdc.writes
    by_cases hf : fbit x.flags 2 = 0
    · rw [show K.write d bs = (0, 65, K) by unfold KS.write; rw [hx]; simp only; rw [if_pos hf]]
      rw [bit_no hf] at c1
      clear h hdc HK hb hap
      go_enter Tryz.func66, Tryz.ntmps66
      go_wp2_with fail
      refine HF.out.mono ?_
      rintro e w1 ⟨rfl, rfl⟩
      unfold descV
      go_wp2
      go_ret2
      exact HX.out 65
    · rw [bit_yes hf] at c1
      by_cases hn : 1048576 < bs.length
      · rw [show K.write d bs = (0, 5, K) by unfold KS.write; rw [hx]; simp only; rw [if_neg hf, if_pos hn]]
        have hn' : (1048576 : Int) < (bs.length : Int) := by omega
        clear h hdc HK hb hap
        go_enter Tryz.func66, Tryz.ntmps66
        go_wp2_with fail
        refine HF.out.mono ?_
        rintro e w1 ⟨rfl, rfl⟩
        unfold descV
        go_wp2
        go_ret2
        exact HX.out 5
      · by_cases hz : bs.length = 0
        · rw [show K.write d bs = (0, 0, K) by unfold KS.write; rw [hx]; simp only; rw [if_neg hf, if_neg hn, if_pos hz]]
          obtain rfl := List.length_eq_zero_iff.1 hz
          clear h hdc HK hb hap
          simp only [List.length_nil]
          go_enter Tryz.func66, Tryz.ntmps66
          go_wp2_with fail
          refine HF.out.mono ?_
          rintro e w1 ⟨rfl, rfl⟩
          unfold descV
          go_wp2
          go_ret2
          exact HX.out 0
        · have n1 : 1 ≤ bs.length := by omega
          have n2 : bs.length ≤ 1048576 := by omega
          have n3 : ¬ (1048576 : Int) < (bs.length : Int) := by omega
          have n4 : (1 : Int) ≤ (bs.length : Int) := by omega
          have n5 : (bs.length : Int) ≤ 1048576 := by omega
          have n6 : ¬ (bs.length : Int) = 0 := by omega
          have n7 : ((bs.length : Int) == 0) = false := by simpa using n6
          obtain ⟨pr, hpr⟩ : ∃ pr, pr = nxt K.plan bs.length := ⟨_, rfl⟩
          have HG : Hid (pr.2 = 0 → ∃ m : Nat, pr.1 = m ∧ 1 ≤ m ∧ m ≤ bs.length) := hide (fun e => by rw [hpr] at e ⊢; have := nxt_good h.ok.plan n4 n5 e; exact ⟨(nxt K.plan bs.length).1.toNat, by omega, by omega, by omega⟩)
          have HN := hide fun W I' K' (hW : PK W ρ I' K') (hpl : K'.plan = K.plan) => by
            have := knext_any ρ I' K' bs.length W hW n4 n5
            rw [hpl, ← hpr] at this
            exact this
          have HB := hide (And.intro hb (And.intro hcap (hap (by omega))))
          have HO := hide (h.pobj hm)
          clear hdc hb hap
          cases ho : K.tho x with
          | file b =>
            obtain ⟨RF, hRF⟩ : ∃ RF : Int, RF = (if plc b (bit x.flags 4) x.pos = 1048576 then 31 else 0) := ⟨_, rfl⟩
            have HRf := hide (of_refuses (I.xb x.n) (I.ob x.th) b x.pos (bit x.flags 4) bs.length _ w (h.comp (.ofile x.n) x hm rfl b ho).1 (by have := HO.out; rw [ho] at this; exact this))
            rw [← hRF] at HRf
            have hRF2 : refusal (K.tho x) x.flags x.pos bs.length = RF := by rw [ho, hRF]; rfl
            clear hRF
            have HT0 := hide ho
            rw [thing_file ho] at c0
            have hmw := mf_refuses (I.xb x.n)
            have hmr := mf_write (I.xb x.n)
            by_cases hz2 : RF = 0
            · rw [write_is hx hf n1 n2 (hRF2.trans hz2), ← hpr]
              subst hz2
              clear h HX hpr
              obtain ⟨pr1, pr2⟩ := pr
              simp only at HG HN ⊢
              by_cases he : pr2 = 0
              · subst he
                rw [if_pos rfl]
                obtain ⟨M, hM, hM1, hM2⟩ := HG.out (by first | rfl | trivial)
                subst hM
                go_enter Tryz.func66, Tryz.ntmps66
                go_wp2_with fail
                refine HF.out.mono ?_
                rintro e w1 ⟨rfl, rfl⟩
                unfold descV
                go_wp2_with fail
                refine HRf.out.mono ?_
                rintro e w1' ⟨rfl, rfl⟩
                have hP1 := HK.out
                have HT1 := hide (Turned.refl (Own ρ) w1')
                have HP2 := hide hP1.writeUp
                have c6 := hP1.cells.writes
                have c6s : w1'.frozen? ⟨I.kb, 7, none⟩ = false := frozen_of_row w1' I.kb 7 _ _ (hP1.comp .kern).1
                have c5 := HP2.out.1.cells.plan
                have d2 := (HP2.out.1.desc (x := x) hm).thing
                clear hP1
                go_wp2_with fail
                generalize hw2 : w1'.setCell ⟨I.kb, 7, none⟩ (.int .i64 ((K.writes : Int) + 1)) = w2 at *
                refine (HN.out w2 I _ HP2.out.1 rfl).mono ?_
                rintro e w3 ⟨rfl, v', hP3, hT3⟩
                have hT13 := (HT1.out.trans HP2.out.2 (fun _ _ e => e)).trans hT3 (fun _ _ e => e)
                have hbw : Bys w3 (.slice a1 bs.length cx) bs := HB.out.1.turned hT13 (fun k e _ => HB.out.2.2 k e)
                have c7 := (hP3.desc (x := x) hm).thing
                rw [thing_file (K := { K with writes := K.writes + 1, plan := K.plan.tail }) ho] at c7
                simp only at c7
                go_wp2_with fail
                refine (xwrite_file ρ _ _ x b bs M a1 cx w3 hP3 hm ho hbw HB.out.2.1 hM1 hM2 n2 HB.out.2.2).mono ?_
                rintro e w4 hN4
                obtain rfl := hN4.1
                have HS := hide hN4
                clear hN4
                go_wp2
                go_ret2
                exact PNum.done hT13 rfl HS.out
              · rw [if_neg he]
                have he2 : (pr2 == 0) = false := by simpa using he
                go_enter Tryz.func66, Tryz.ntmps66
                go_wp2_with fail
                refine HF.out.mono ?_
                rintro e w1 ⟨rfl, rfl⟩
                unfold descV
                go_wp2_with fail
                refine HRf.out.mono ?_
                rintro e w1' ⟨rfl, rfl⟩
                have hP1 := HK.out
                have HT1 := hide (Turned.refl (Own ρ) w1')
                have HP2 := hide hP1.writeUp
                have c6 := hP1.cells.writes
                have c6s : w1'.frozen? ⟨I.kb, 7, none⟩ = false := frozen_of_row w1' I.kb 7 _ _ (hP1.comp .kern).1
                have c5 := HP2.out.1.cells.plan
                have d2 := (HP2.out.1.desc (x := x) hm).thing
                clear hP1
                go_wp2_with fail
                generalize hw2 : w1'.setCell ⟨I.kb, 7, none⟩ (.int .i64 ((K.writes : Int) + 1)) = w2 at *
                refine (HN.out w2 I _ HP2.out.1 rfl).mono ?_
                rintro e w3 ⟨rfl, v', hP3, hT3⟩
                have hT13 := (HT1.out.trans HP2.out.2 (fun _ _ e => e)).trans hT3 (fun _ _ e => e)
                have HP3 := hide hP3
                clear hP3
                go_wp2
                go_ret2
                exact ⟨rfl, PNext.of HP3.out rfl hT13⟩
            · have hne : ¬ refusal (K.tho x) x.flags x.pos bs.length = 0 := by rw [hRF2]; exact hz2
              rw [show K.write d bs = (0, RF, K) by unfold KS.write; rw [hx]; simp only; rw [if_neg hf, if_neg hn, if_neg hz, if_neg hne, hRF2]]
              have hz3 : (RF == 0) = false := by simpa using hz2
              clear h HX hpr HG HN hne
              go_enter Tryz.func66, Tryz.ntmps66
              go_wp2_with fail
              refine HF.out.mono ?_
              rintro e w1 ⟨rfl, rfl⟩
              unfold descV
              go_wp2_with fail
              refine HRf.out.mono ?_
              rintro e w1' ⟨rfl, rfl⟩
              go_wp2
              go_ret2
              exact PNum.refused HK.out (Below.refl _ _) RF
          | term ls scr =>
            obtain ⟨RF, hRF⟩ : ∃ RF : Int, RF = (if scr.length = 1048576 then 31 else 0) := ⟨_, rfl⟩
            have HRf := hide (co_refuses (I.cb x.th) (I.ob x.th) scr.length bs.length w (h.comp (.cons x.th) (h.ok.th x hm) ls scr (by rw [← KS.tho_eq (h.ok.th x hm)]; exact ho)).1)
            rw [← hRF] at HRf
            have hRF2 : refusal (K.tho x) x.flags x.pos bs.length = RF := by rw [ho, hRF]; rfl
            clear hRF
            have HT0 := hide ho
            rw [thing_term ho] at c0
            have hmw := mt_refuses (I.cb x.th)
            have hmr := mt_write (I.cb x.th)
            by_cases hz2 : RF = 0
            · rw [write_is hx hf n1 n2 (hRF2.trans hz2), ← hpr]
              subst hz2
              clear h HX hpr
              obtain ⟨pr1, pr2⟩ := pr
              simp only at HG HN ⊢
              by_cases he : pr2 = 0
              · subst he
                rw [if_pos rfl]
                obtain ⟨M, hM, hM1, hM2⟩ := HG.out (by first | rfl | trivial)
                subst hM
                go_enter Tryz.func66, Tryz.ntmps66
                go_wp2_with fail
                refine HF.out.mono ?_
                rintro e w1 ⟨rfl, rfl⟩
                unfold descV
                go_wp2_with fail
                refine HRf.out.mono ?_
                rintro e w1' ⟨rfl, rfl⟩
                have hP1 := HK.out
                have HT1 := hide (Turned.refl (Own ρ) w1')
                have HP2 := hide hP1.writeUp
                have c6 := hP1.cells.writes
                have c6s : w1'.frozen? ⟨I.kb, 7, none⟩ = false := frozen_of_row w1' I.kb 7 _ _ (hP1.comp .kern).1
                have c5 := HP2.out.1.cells.plan
                have d2 := (HP2.out.1.desc (x := x) hm).thing
                clear hP1
                go_wp2_with fail
                generalize hw2 : w1'.setCell ⟨I.kb, 7, none⟩ (.int .i64 ((K.writes : Int) + 1)) = w2 at *
                refine (HN.out w2 I _ HP2.out.1 rfl).mono ?_
                rintro e w3 ⟨rfl, v', hP3, hT3⟩
                have hT13 := (HT1.out.trans HP2.out.2 (fun _ _ e => e)).trans hT3 (fun _ _ e => e)
                have hbw : Bys w3 (.slice a1 bs.length cx) bs := HB.out.1.turned hT13 (fun k e _ => HB.out.2.2 k e)
                have c7 := (hP3.desc (x := x) hm).thing
                rw [thing_term (K := { K with writes := K.writes + 1, plan := K.plan.tail }) ho] at c7
                simp only at c7
                go_wp2_with fail
                refine (xwrite_term ρ _ _ x ls scr bs M a1 cx w3 hP3 hm ho hbw HB.out.2.1 hM1 hM2 n2 HB.out.2.2).mono ?_
                rintro e w4 hN4
                obtain rfl := hN4.1
                have HS := hide hN4
                clear hN4
                go_wp2
                go_ret2
                exact PNum.done hT13 rfl HS.out
              · rw [if_neg he]
                have he2 : (pr2 == 0) = false := by simpa using he
                go_enter Tryz.func66, Tryz.ntmps66
                go_wp2_with fail
                refine HF.out.mono ?_
                rintro e w1 ⟨rfl, rfl⟩
                unfold descV
                go_wp2_with fail
                refine HRf.out.mono ?_
                rintro e w1' ⟨rfl, rfl⟩
                have hP1 := HK.out
                have HT1 := hide (Turned.refl (Own ρ) w1')
                have HP2 := hide hP1.writeUp
                have c6 := hP1.cells.writes
                have c6s : w1'.frozen? ⟨I.kb, 7, none⟩ = false := frozen_of_row w1' I.kb 7 _ _ (hP1.comp .kern).1
                have c5 := HP2.out.1.cells.plan
                have d2 := (HP2.out.1.desc (x := x) hm).thing
                clear hP1
                go_wp2_with fail
                generalize hw2 : w1'.setCell ⟨I.kb, 7, none⟩ (.int .i64 ((K.writes : Int) + 1)) = w2 at *
                refine (HN.out w2 I _ HP2.out.1 rfl).mono ?_
                rintro e w3 ⟨rfl, v', hP3, hT3⟩
                have hT13 := (HT1.out.trans HP2.out.2 (fun _ _ e => e)).trans hT3 (fun _ _ e => e)
                have HP3 := hide hP3
                clear hP3
                go_wp2
                go_ret2
                exact ⟨rfl, PNext.of HP3.out rfl hT13⟩
            · have hne : ¬ refusal (K.tho x) x.flags x.pos bs.length = 0 := by rw [hRF2]; exact hz2
              rw [show K.write d bs = (0, RF, K) by unfold KS.write; rw [hx]; simp only; rw [if_neg hf, if_neg hn, if_neg hz, if_neg hne, hRF2]]
              have hz3 : (RF == 0) = false := by simpa using hz2
              clear h HX hpr HG HN hne
              go_enter Tryz.func66, Tryz.ntmps66
              go_wp2_with fail
              refine HF.out.mono ?_
              rintro e w1 ⟨rfl, rfl⟩
              unfold descV
              go_wp2_with fail
              refine HRf.out.mono ?_
              rintro e w1' ⟨rfl, rfl⟩
              go_wp2
              go_ret2
              exact PNum.refused HK.out (Below.refl _ _) RF
          | pipe q rd wt =>
            obtain ⟨RF, hRF⟩ : ∃ RF : Int, RF = (if rd = 0 then 53 else if canW bs.length q.length rd wt = false then 52 else 0) := ⟨_, rfl⟩
            have HRf := hide (pp_refuses (I.ob x.th) q rd wt bs.length w (by have := HO.out; rw [ho] at this; exact this.1))
            rw [← hRF] at HRf
            have hRF2 : refusal (K.tho x) x.flags x.pos bs.length = RF := by rw [ho, hRF]; rfl
            clear hRF
            have HT0 := hide ho
            rw [thing_pipe ho] at c0
            have hmw := mp_refuses (I.ob x.th)
            have hmr := mp_write (I.ob x.th)
            by_cases hz2 : RF = 0
            · rw [write_is hx hf n1 n2 (hRF2.trans hz2), ← hpr]
              subst hz2
              clear h HX hpr
              obtain ⟨pr1, pr2⟩ := pr
              simp only at HG HN ⊢
              by_cases he : pr2 = 0
              · subst he
                rw [if_pos rfl]
                obtain ⟨M, hM, hM1, hM2⟩ := HG.out (by first | rfl | trivial)
                subst hM
                go_enter Tryz.func66, Tryz.ntmps66
                go_wp2_with fail
                refine HF.out.mono ?_
                rintro e w1 ⟨rfl, rfl⟩
                unfold descV
                go_wp2_with fail
                refine HRf.out.mono ?_
                rintro e w1' ⟨rfl, hB⟩
                have hP1 := HK.out.under hB
                have HT1 := hide (Turned.of_below (S := Own ρ) hB)
                have HP2 := hide hP1.writeUp
                have c6 := hP1.cells.writes
                have c6s : w1'.frozen? ⟨I.kb, 7, none⟩ = false := frozen_of_row w1' I.kb 7 _ _ (hP1.comp .kern).1
                have c5 := HP2.out.1.cells.plan
                have d2 := (HP2.out.1.desc (x := x) hm).thing
                clear hP1
                go_wp2_with fail
                generalize hw2 : w1'.setCell ⟨I.kb, 7, none⟩ (.int .i64 ((K.writes : Int) + 1)) = w2 at *
                refine (HN.out w2 I _ HP2.out.1 rfl).mono ?_
                rintro e w3 ⟨rfl, v', hP3, hT3⟩
                have hT13 := (HT1.out.trans HP2.out.2 (fun _ _ e => e)).trans hT3 (fun _ _ e => e)
                have hbw : Bys w3 (.slice a1 bs.length cx) bs := HB.out.1.turned hT13 (fun k e _ => HB.out.2.2 k e)
                have c7 := (hP3.desc (x := x) hm).thing
                rw [thing_pipe (K := { K with writes := K.writes + 1, plan := K.plan.tail }) ho] at c7
                simp only at c7
                go_wp2_with fail
                refine (xwrite_pipe ρ _ _ x q rd wt bs M a1 cx w3 hP3 hm ho hbw HB.out.2.1 n2 HB.out.2.2).mono ?_
                rintro e w4 hN4
                obtain rfl := hN4.1
                have HS := hide hN4
                clear hN4
                go_wp2
                go_ret2
                exact PNum.done hT13 rfl HS.out
              · rw [if_neg he]
                have he2 : (pr2 == 0) = false := by simpa using he
                go_enter Tryz.func66, Tryz.ntmps66
                go_wp2_with fail
                refine HF.out.mono ?_
                rintro e w1 ⟨rfl, rfl⟩
                unfold descV
                go_wp2_with fail
                refine HRf.out.mono ?_
                rintro e w1' ⟨rfl, hB⟩
                have hP1 := HK.out.under hB
                have HT1 := hide (Turned.of_below (S := Own ρ) hB)
                have HP2 := hide hP1.writeUp
                have c6 := hP1.cells.writes
                have c6s : w1'.frozen? ⟨I.kb, 7, none⟩ = false := frozen_of_row w1' I.kb 7 _ _ (hP1.comp .kern).1
                have c5 := HP2.out.1.cells.plan
                have d2 := (HP2.out.1.desc (x := x) hm).thing
                clear hP1
                go_wp2_with fail
                generalize hw2 : w1'.setCell ⟨I.kb, 7, none⟩ (.int .i64 ((K.writes : Int) + 1)) = w2 at *
                refine (HN.out w2 I _ HP2.out.1 rfl).mono ?_
                rintro e w3 ⟨rfl, v', hP3, hT3⟩
                have hT13 := (HT1.out.trans HP2.out.2 (fun _ _ e => e)).trans hT3 (fun _ _ e => e)
                have HP3 := hide hP3
                clear hP3
                go_wp2
                go_ret2
                exact ⟨rfl, PNext.of HP3.out rfl hT13⟩
            · have hne : ¬ refusal (K.tho x) x.flags x.pos bs.length = 0 := by rw [hRF2]; exact hz2
              rw [show K.write d bs = (0, RF, K) by unfold KS.write; rw [hx]; simp only; rw [if_neg hf, if_neg hn, if_neg hz, if_neg hne, hRF2]]
              have hz3 : (RF == 0) = false := by simpa using hz2
              clear h HX hpr HG HN hne
              go_enter Tryz.func66, Tryz.ntmps66
              go_wp2_with fail
              refine HF.out.mono ?_
              rintro e w1 ⟨rfl, rfl⟩
              unfold descV
              go_wp2_with fail
              refine HRf.out.mono ?_
              rintro e w1' ⟨rfl, hB⟩
              go_wp2
              go_ret2
              exact PNum.refused HK.out hB RF
end Go.Proofs.YtdmkjbdlidadiaaGreat

/- The program's kernel within a set of blocks: each call. -/
namespace Go.Proofs.YtdmkjbdlidadiaaGreat
open Go.RowKit Go.Maps

theorem KAt.pipe {w : World} {O : Nat → Prop} {kb : Nat} {K : KS} (h : KAt w O kb K) (hl : K.next + 1 < 9223372036854775807) :
    Calls Tryz.prog 60 #[.pointer (some ⟨kb, 0, none⟩)] w fun e w' => e = .returned (.tuple #[.int .i64 K.pipe.1, .int .i64 K.pipe.2.1, .int .i64 K.pipe.2.2.1]) ∧ KStep w O kb K.pipe.2.2.2 w' := by
  obtain ⟨ρ, I, h1, rfl, h3⟩ := h
  exact (kpipe_any ρ I K w h1 hl).mono fun e w' ⟨a, b⟩ => ⟨a, b.step h3⟩
theorem KAt.read {w : World} {O : Nat → Prop} {kb : Nat} {K : KS} (h : KAt w O kb K) (d n : Int) (hd : I64 d) (hr : K.reads < 9223372036854775807) :
    Calls Tryz.prog 62 #[.pointer (some ⟨kb, 0, none⟩), .int .i64 d, .int .i64 n] w fun e w' => ∃ v, e = .returned (.tuple #[v, .int .i64 (K.read d n).2.1]) ∧ w'.ownsRow w.heap.size 5 1 v (K.read d n).1.length ((K.read d n).1.map bv) ∧ KAt w' O kb (K.read d n).2.2 ∧ Turned O w w' := by
  obtain ⟨ρ, I, h1, rfl, h3⟩ := h
  exact (kread_any ρ I K d n w h1 hd hr).mono fun e w' ⟨v, a, b, ρ', I', c1, c2, c3, c4⟩ => ⟨v, a, b, ⟨ρ', I', c1, c2, fun k t e => by obtain ⟨t', e'⟩ := c3 k ⟨t, e⟩; exact h3 k t' e'⟩, c4.mono fun k ⟨t, e⟩ => h3 k t e⟩
theorem KAt.write {w : World} {O : Nat → Prop} {kb : Nat} {K : KS} (h : KAt w O kb K) (d : Int) (bs : List UInt8) (a1 : Option Addr) (cx : Nat) (hd : I64 d) (hr : K.writes < 9223372036854775807)
    (hb : Bys w (.slice a1 bs.length cx) bs) (hcap : bs.length ≤ cx) (hbig : bs.length ≤ 9223372036854775807) (hap : 0 < bs.length → ∀ k, (Value.slice a1 bs.length cx).ownBlock = some k → ¬ O k) :
    Calls Tryz.prog 66 #[.pointer (some ⟨kb, 0, none⟩), .int .i64 d, .slice a1 bs.length cx] w fun e w' => e = .returned (.tuple #[.int .i64 (K.write d bs).1, .int .i64 (K.write d bs).2.1]) ∧ KStep w O kb (K.write d bs).2.2 w' := by
  obtain ⟨ρ, I, h1, rfl, h3⟩ := h
  exact (kwrite_any ρ I K d bs a1 cx w h1 hd hr hb hcap hbig (fun h0 k e ⟨t, e'⟩ => hap h0 k e (h3 k t e'))).mono fun e w' ⟨a, b⟩ => ⟨a, b.step h3⟩
theorem KAt.trim {w : World} {O : Nat → Prop} {kb : Nat} {K : KS} (h : KAt w O kb K) : KAt w (fun k => O k ∧ k < w.heap.size) kb K := by
  obtain ⟨ρ, I, h1, h2, h3⟩ := h
  exact ⟨ρ, I, h1, h2, fun k t e => ⟨h3 k t e, h1.lt k t e⟩⟩
theorem KStep.at {B : Nat} {w w' : World} {O : Nat → Prop} {kb : Nat} {K' : KS} (h : KStep w O kb K' w') (hO : ∀ k, O k → B ≤ k) (hB : B ≤ w.heap.size) : KAt w' (fun k => B ≤ k ∧ k < w'.heap.size) kb K' ∧ Below B w w' := by
  obtain ⟨O', h1, h2, h3⟩ := h
  exact ⟨h1.trim.mono fun k e => ⟨(h2 k e.1).elim (hO k) (fun e => Nat.le_trans hB e), e.2⟩, h3.below hO hB⟩
end Go.Proofs.YtdmkjbdlidadiaaGreat

/- A law's setup, copied for the program; how far a kernel's numbers go up by a call. -/
namespace Go.Proofs.YtdmkjbdlidadiaaGreat
open Go.RowKit Go.Maps

theorem LCells.turned {S : Nat → Prop} {W W' : World} {B : Nat} {ls : List (List UInt8)} {xs : List Value} (h : LCells W B ls xs) (hT : Turned S W W') (hS : ∀ k, B ≤ k → ¬ S k) : LCells W' B ls xs :=
  h.keep fun j hj v k h1 e => by
    obtain ⟨v', h2, h3⟩ := h.2.1 j hj
    rw [h1] at h2
    cases h2
    exact hT.block k (h3.lt k e).2 (hS k (h3.lt k e).1)
theorem TC.turned {S : Nat → Prop} {W W' : World} {B : Nat} {ls : List (List UInt8)} {u : Value} (h : TC W B ls u) (hT : Turned S W W') (hS : ∀ k, B ≤ k → ¬ S k) : TC W' B ls u := by
  obtain ⟨xs, h1, h2⟩ := h
  exact ⟨xs, owns_turned h1 hT (fun k e => hS k (h1.lt k e).1), h2.turned hT hS⟩
def KLe (K K' : KS) : Prop := K'.next ≤ K.next + 2 ∧ K'.reads ≤ K.reads + 1 ∧ K'.writes ≤ K.writes + 1
theorem KLe.refl (K : KS) : KLe K K := ⟨by omega, by omega, by omega⟩
end Go.Proofs.YtdmkjbdlidadiaaGreat

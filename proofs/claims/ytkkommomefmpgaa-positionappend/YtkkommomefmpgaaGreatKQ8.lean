/- What the proof stands on, part 8: the contracts of the program's calls that it reaches. -/
import Derived.Test.YtkkommomefmpgaaGreatKQ7
/- The program's kernel as it is being made: without its plan. -/
namespace Go.Proofs.YtkkommomefmpgaaGreat
open Go.RowKit Go.Maps

structure PX (W : World) (ρ : Nat → Option PTag) (I : PI) (K : KS) : Prop where
  comp : ∀ t, t ≠ .kern → t ≠ .plan → PComp W ρ I K t
  lt : ∀ k t, ρ k = some t → k < W.heap.size
  ok : KOk K
  nm : KNm K
theorem PX.more {W W' : World} {ρ : Nat → Option PTag} {I : PI} {K K' : KS} {t : Th} (h : PX W ρ I K) (hM : More K K' t) (p c : Nat) {O' : Nat → Prop} (hO : PObj W' O' p t.ob) (hO' : ∀ k, O' k → W.heap.size ≤ k ∧ k ≠ c)
    (hc : ∀ ls scr, t.ob = .term ls scr → COc W' c p scr.length ∧ W.heap.size ≤ c) (hT : Turned (fun k => ρ k = some .fmap ∨ ρ k = some .tmap) W W') (hok : KOk K') (hnm : KNm K')
    (hf : PMap W' Tryz.prog 9 I.fm (K'.fl { I with ob := upd I.ob K.th.length p, cb := upd I.cb K.th.length c })) (ht : PMap W' Tryz.prog 9 I.tm (K'.tl { I with ob := upd I.ob K.th.length p, cb := upd I.cb K.th.length c })) :
    ∃ ρ', PX W' ρ' { I with ob := upd I.ob K.th.length p, cb := upd I.cb K.th.length c } K' ∧ newTags ρ ρ' W ∧ ∀ k, k < W.heap.size → ρ' k = ρ k := by
  classical
  obtain ⟨ρ', hρ⟩ : ∃ ρ' : Nat → Option PTag, ρ' = fun k => if k < W.heap.size then ρ k else if k < W'.heap.size then (if k = c then some (.cons K.th.length) else if O' k then some (.obj K.th.length) else none) else none := ⟨_, rfl⟩
  have low : ∀ k, k < W.heap.size → ρ' k = ρ k := fun k hlt => by rw [hρ]; simp [hlt]
  have fit : ∀ {k t}, ρ k = some t → ρ' k = some t := fun {k t} e => (low k (h.lt k t e)).trans e
  have back : ∀ {k t}, ρ' k = some t → ρ k = some t ∨ (W.heap.size ≤ k ∧ k < W'.heap.size) := by
    intro k t e
    by_cases hlt : k < W.heap.size
    · rw [low k hlt] at e; exact .inl e
    · rw [hρ] at e
      simp only [if_neg hlt] at e
      split at e
      · exact .inr ⟨by omega, by assumption⟩
      · cases e
  have key : ∀ t, t ≠ .fmap → t ≠ .tmap → t ≠ .kern → t ≠ .plan → PComp W' ρ I K t := fun t h1 h2 h3 h4 => (h.comp t h3 h4).keep (fun k e hlt => hT.block k hlt (fun e' => by
    rcases e' with e' | e'
    · rw [e'] at e; exact h1 (Option.some.inj e).symm
    · rw [e'] at e; exact h2 (Option.some.inj e).symm)) hT.size
  have hlen : K'.th.length = K.th.length + 1 := by rw [hM.th]; simp
  have hthv : ∀ d ∈ K.de, thingV { I with ob := upd I.ob K.th.length p, cb := upd I.cb K.th.length c } K' d = thingV I K d := by
    intro d hd
    have hlt := h.ok.th d hd
    unfold thingV
    rw [KS.tho_obOf, KS.tho_obOf, hM.obOf hlt]
    simp only [upd_other (Nat.ne_of_lt hlt)]
  refine ⟨ρ', ⟨fun t' h3 h4 => ?_, fun k t e => ?_, hok, hnm⟩, fun k t e => (back e).imp (fun e' => ⟨t, e'⟩) (fun e' => e'.1), low⟩
  · cases t' with
    | kern => exact absurd rfl h3
    | fmap => exact ⟨hf, fit (h.comp .fmap (by simp) (by simp)).2⟩
    | tmap => exact ⟨ht, fit (h.comp .tmap (by simp) (by simp)).2⟩
    | omap =>
      obtain ⟨a1, a2⟩ := key .omap (by simp) (by simp) (by simp) (by simp)
      refine ⟨?_, fit a2⟩
      unfold KS.dl at a1 ⊢
      rw [hM.de]
      exact a1
    | plan => exact absurd rfl h4
    | obj j =>
      intro hj
      by_cases e : j = K.th.length
      · subst e
        rw [hM.atNew hj]
        simp only [upd_same]
        refine hO.trim.mono fun k ⟨e1, e2⟩ => ?_
        have := hO' k e1
        rw [hρ]
        simp [Nat.not_lt.2 this.1, e2, this.2, e1]
      · have hj' : j < K.th.length := by omega
        rw [hM.at hj' hj]
        simp only [upd_other e]
        exact (key (.obj j) (by simp) (by simp) (by simp) (by simp) hj').mono fun k e => fit e
    | cons j =>
      intro hj ls scr e1
      by_cases e : j = K.th.length
      · subst e
        rw [hM.atNew hj] at e1
        obtain ⟨a1, a2⟩ := hc ls scr e1
        simp only [upd_same]
        have hlt : c < W'.heap.size := (Array.getElem?_eq_some_iff.1 a1).1
        exact ⟨a1, by rw [hρ]; simp [Nat.not_lt.2 a2, hlt]⟩
      · have hj' : j < K.th.length := by omega
        rw [hM.at hj' hj] at e1
        simp only [upd_other e]
        obtain ⟨a1, a2⟩ := key (.cons j) (by simp) (by simp) (by simp) (by simp) hj' ls scr e1
        exact ⟨a1, fit a2⟩
    | desc n =>
      intro d hd e
      rw [hM.de] at hd
      obtain ⟨a1, a2⟩ := key (.desc n) (by simp) (by simp) (by simp) (by simp) d hd e
      exact ⟨by rw [hthv d hd]; exact a1, fit a2⟩
    | ofile n =>
      intro d hd e b hb
      rw [hM.de] at hd
      have hlt := h.ok.th d hd
      rw [KS.tho_obOf, hM.obOf hlt] at hb
      simp only [upd_other (Nat.ne_of_lt hlt)]
      obtain ⟨a1, a2⟩ := key (.ofile n) (by simp) (by simp) (by simp) (by simp) d hd e b hb
      exact ⟨a1, fit a2⟩
  · rcases back e with e' | e'
    · exact Nat.lt_of_lt_of_le (h.lt k t e') hT.size
    · exact e'.2
theorem PX.under {W W' : World} {ρ : Nat → Option PTag} {I : PI} {K : KS} (h : PX W ρ I K) (hB : Below W.heap.size W W') : PX W' ρ I K :=
  ⟨fun t h1 h2 => (h.comp t h1 h2).keep (fun k e _ => hB.block k (h.lt k t e)) hB.size, fun k t e => Nat.lt_of_lt_of_le (h.lt k t e) hB.size, h.ok, h.nm⟩
set_option maxRecDepth 100000 in
set_option maxHeartbeats 2000000 in
theorem newFile_raw (kb fm : Nat) (L : List (Lit × Nat)) (s : ByteArray) (v : Value) (b : List UInt8) (w : World) (hc : w.cell? ⟨kb, 1, none⟩ = some (.map (some fm))) (hm : PMap w Tryz.prog 9 fm L) (hv : Bys w v b) (hb : b.length ≤ 1048576) (hs : s.size ≤ maxLen) (hnew : ∀ q ∈ L, q.1 ≠ nkey s) (hl : L.length < maxLen) :
    Calls Tryz.prog 37 #[.pointer (some ⟨kb, 0, none⟩), .string s, v] w fun e w' => ∃ p, e = .returned (.pointer (some ⟨p, 0, none⟩)) ∧ PObj w' (fun k => w.heap.size ≤ k ∧ k < w'.heap.size) p (.file b) ∧ PMap w' Tryz.prog 9 fm ((nkey s, p) :: L) ∧ Turned (fun k => k = fm) w w' := by
  have HN := hide (po_new_file v b w hv hb)
  have HM := hide hm
  have hlt := World.block_lt_of_cell? w _ hc
  clear hm hv
  go_enter Tryz.func37, Tryz.ntmps37
  go_wp2_with fail
  refine HN.out.mono ?_
  rintro e w1 ⟨p, rfl, hO, hB⟩
  have c1 := (hB.cell (p := ⟨kb, 1, none⟩) hlt).trans hc
  have hm1 := HM.out.keep (hB.block _ HM.out.lt)
  obtain ⟨w2, hrun, hm2, hmt⟩ := hm1.store skeyed Tryz.underlying91 hl (key := .string s) p (string_key s hs) hnew
  have HA : Hid (PObj w2 (fun k => w.heap.size ≤ k ∧ k < w2.heap.size) p (.file b) ∧ PMap w2 Tryz.prog 9 fm ((nkey s, p) :: L) ∧ Turned (fun k => k = fm) w w2) := hide (by
    have hT2 := mapTurned_turned hmt
    have hfl := HM.out.lt
    refine ⟨(hO.keep (fun k e hlt => hT2.block k hlt (by omega)) hT2.size).mono fun k e => ⟨e.1, Nat.lt_of_lt_of_le e.2 hT2.size⟩, hm2, (Turned.of_below hB).trans hT2 (fun _ _ e => e)⟩)
  clear hO hB hm1 hm2 hmt
  go_wp2
  go_ret
  exact ⟨p, rfl, HA.out⟩
end Go.Proofs.YtkkommomefmpgaaGreat

/- The program's kernel as it is being made: how it begins, and how files and terminals come to it. -/
namespace Go.Proofs.YtkkommomefmpgaaGreat
open Go.RowKit Go.Maps

def KB0 (W : World) (I : PI) : Prop := W.heap[I.kb]? = some (.cells ([.bool true, .map (some I.fm), .map (some I.tm), .map (some I.om), .int .i64 (0 : Nat), .pointer none, .int .i64 (0 : Nat), .int .i64 (0 : Nat)] : List Value).toArray 96 (0, 0))
structure PY (W : World) (B : Nat) (ρ : Nat → Option PTag) (I : PI) (K : KS) (k0 f0 t0 o0 : Nat) : Prop where
  px : PX W ρ I K
  blk : KB0 W I
  kern : ρ I.kb = some .kern
  kb : I.kb = k0
  fm : I.fm = f0
  tm : I.tm = t0
  om : I.om = o0
  last : I.last = 0
  low : ∀ k t, ρ k = some t → B ≤ k
def pi0 (n : Nat) : PI := ⟨n + 1 + 1 + 1, n, n + 1, n + 1 + 1, 0, .slice none 0 0, id, id, id, id, 0⟩
def rho0 (n : Nat) (k : Nat) : Option PTag := if k = n then some .fmap else if k = n + 1 then some .tmap else if k = n + 1 + 1 then some .omap else if k = n + 1 + 1 + 1 then some .kern else none
theorem planOk_of {l : List Fault} (h : planOk l) : KOk (KS.nought l) := by
  refine ⟨Nat.zero_le _, Nat.zero_le _, ?_, ?_, ?_, ?_, ?_, ?_, ?_, h⟩ <;> (intro d hd; cases hd)
theorem nought_nm (l : List Fault) : KNm (KS.nought l) := by
  refine ⟨List.Pairwise.nil, ?_, ?_, ?_⟩
  · intro i hi; cases hi
  · intro i hi; exact absurd hi (Nat.not_lt_zero _)
  · intro i hi; cases hi
theorem start_py (w1 : World) (B : Nat) (hB : B ≤ w1.heap.size) (l : List Fault) (hl : planOk l) :
    PY ((((w1.alloc (.map #[] 0)).alloc (.map #[] 0)).alloc (.map #[] 0)).alloc (Obj.cells #[.bool true, .map (some w1.heap.size), .map (some (w1.heap.size + 1)), .map (some (w1.heap.size + 1 + 1)), .int .i64 0, .pointer none, .int .i64 0, .int .i64 0] 96)) B (rho0 w1.heap.size) (pi0 w1.heap.size) (KS.nought l) (w1.heap.size + 1 + 1 + 1) w1.heap.size (w1.heap.size + 1) (w1.heap.size + 1 + 1) := by
  have s1 : (w1.alloc (.map #[] 0)).heap.size = w1.heap.size + 1 := by simp
  have s2 : ((w1.alloc (.map #[] 0)).alloc (.map #[] 0)).heap.size = w1.heap.size + 1 + 1 := by simp
  have s3 : (((w1.alloc (.map #[] 0)).alloc (.map #[] 0)).alloc (.map #[] 0)).heap.size = w1.heap.size + 1 + 1 + 1 := by simp
  have p1 := PMap.made w1 Tryz.prog 9
  have p2 := PMap.made (w1.alloc (.map #[] 0)) Tryz.prog 9
  have p3 := PMap.made ((w1.alloc (.map #[] 0)).alloc (.map #[] 0)) Tryz.prog 3
  rw [s1] at p2
  rw [s2] at p3
  have k1 := fun (w : World) (o : Obj) (b : Nat) (h : b < w.heap.size) => (recv_below w o).block b h
  refine ⟨⟨fun t h1 h2 => ?_, fun k t e => ?_, planOk_of hl, nought_nm l⟩, ?_, by show rho0 w1.heap.size (w1.heap.size + 1 + 1 + 1) = _; unfold rho0; rw [if_neg (by omega), if_neg (by omega), if_neg (by omega), if_pos rfl], rfl, rfl, rfl, rfl, rfl, fun k t e => ?_⟩
  · cases t with
    | kern => exact absurd rfl h1
    | plan => exact absurd rfl h2
    | fmap => exact ⟨((p1.keep (k1 _ _ _ (by omega))).keep (k1 _ _ _ (by omega))).keep (k1 _ _ _ (by show w1.heap.size < _; omega)), by simp [rho0, pi0]⟩
    | tmap => exact ⟨(p2.keep (k1 _ _ _ (by omega))).keep (k1 _ _ _ (by show w1.heap.size + 1 < _; omega)), by simp [rho0, pi0]⟩
    | omap => exact ⟨p3.keep (k1 _ _ _ (by show w1.heap.size + 1 + 1 < _; omega)), by show rho0 w1.heap.size (w1.heap.size + 1 + 1) = _; unfold rho0; rw [if_neg (by omega), if_neg (by omega), if_pos rfl]⟩
    | obj i => exact fun h => absurd h (Nat.not_lt_zero _)
    | cons i => exact fun h => absurd h (Nat.not_lt_zero _)
    | desc n => exact fun d hd => by cases hd
    | ofile n => exact fun d hd => by cases hd
  · have : k < w1.heap.size + 1 + 1 + 1 + 1 := by
      unfold rho0 at e
      split at e
      · omega
      · split at e
        · omega
        · split at e
          · omega
          · split at e
            · omega
            · cases e
    simp
    omega
  · have := heap_alloc_new (((w1.alloc (.map #[] 0)).alloc (.map #[] 0)).alloc (.map #[] 0)) (Obj.cells #[.bool true, .map (some w1.heap.size), .map (some (w1.heap.size + 1)), .map (some (w1.heap.size + 1 + 1)), .int .i64 0, .pointer none, .int .i64 0, .int .i64 0] 96)
    rw [s3] at this
    exact this
  · unfold rho0 at e
    split at e
    · omega
    · split at e
      · omega
      · split at e
        · omega
        · split at e
          · omega
          · cases e
theorem PY.under {W W' : World} {B : Nat} {ρ : Nat → Option PTag} {I : PI} {K : KS} {k0 f0 t0 o0 : Nat} (h : PY W B ρ I K k0 f0 t0 o0) (hB : Below W.heap.size W W') : PY W' B ρ I K k0 f0 t0 o0 :=
  ⟨h.px.under hB, (hB.block _ (h.px.lt _ _ h.kern)).trans h.blk, h.kern, h.kb, h.fm, h.tm, h.om, h.last, h.low⟩
theorem PY.addFile {W W' : World} {B : Nat} {ρ : Nat → Option PTag} {I : PI} {K : KS} {k0 f0 t0 o0 : Nat} (h : PY W B ρ I K k0 f0 t0 o0) (hB : B ≤ W.heap.size) {s : ByteArray} {b : List UInt8} {p : Nat} (hO : PObj W' (fun k => W.heap.size ≤ k ∧ k < W'.heap.size) p (.file b)) (hm : PMap W' Tryz.prog 9 I.fm ((nkey s, p) :: K.fl I)) (hT : Turned (fun k => k = I.fm) W W')
    (hs : nameOk s = true) (hnew : ∀ i ∈ K.nm, K.nameOf i ≠ s) (hl : K.nm.length < 256) : ∃ ρ' I', PY W' B ρ' I' (K.addTh ⟨s, .file b⟩) k0 f0 t0 o0 := by
  have hfm := (h.px.comp .fmap (by simp) (by simp)).2
  have htm := h.px.comp .tmap (by simp) (by simp)
  have hfl := fl_addFile K h.px.ok I s b p I.fm
  have hfmlt := h.px.lt _ _ hfm
  have hne : I.tm ≠ I.fm := fun e => by have := htm.2; rw [e, hfm] at this; cases this
  have hne2 : I.kb ≠ I.fm := fun e => by have := h.kern; rw [e, hfm] at this; cases this
  obtain ⟨ρ', a1, a2, a3⟩ := h.px.more (more_addTh K ⟨s, .file b⟩) p I.fm (W' := W') hO (fun k e => ⟨e.1, by omega⟩) (fun ls scr e => by cases e) (hT.mono fun k e => by rw [e]; exact .inl hfm)
    (h.px.ok.addTh _ hl) (h.px.nm.addTh h.px.ok _ (.inl rfl) hs hnew) (hm.perm hfl.1.symm) ((htm.1.keep (hT.block _ (h.px.lt _ _ htm.2) hne)).perm hfl.2.symm)
  refine ⟨ρ', _, a1, (hT.block _ (h.px.lt _ _ h.kern) hne2).trans h.blk, by rw [a3 _ (h.px.lt _ _ h.kern)]; exact h.kern, h.kb, h.fm, h.tm, h.om, h.last, fun k t e => ?_⟩
  rcases a2 k t e with ⟨t', e'⟩ | e'
  · exact h.low k t' e'
  · omega
theorem PY.addTerm {W W' : World} {B : Nat} {ρ : Nat → Option PTag} {I : PI} {K : KS} {k0 f0 t0 o0 : Nat} (h : PY W B ρ I K k0 f0 t0 o0) (hB : B ≤ W.heap.size) {s : ByteArray} {ls : List (List UInt8)} {p c : Nat} {O : Nat → Prop} (hO : PObj W' O p (.term ls [])) (hO' : ∀ k, O k → W.heap.size ≤ k ∧ k ≠ c) (hc : COc W' c p 0) (hcl : W.heap.size ≤ c) (hm : PMap W' Tryz.prog 9 I.tm ((nkey s, c) :: K.tl I)) (hT : Turned (fun k => k = I.tm) W W')
    (hs : nameOk s = true) (hnew : ∀ i ∈ K.nm, K.nameOf i ≠ s) (hl : K.nm.length < 256) : ∃ ρ' I', PY W' B ρ' I' (K.addTh ⟨s, .term ls []⟩) k0 f0 t0 o0 := by
  have htm := (h.px.comp .tmap (by simp) (by simp)).2
  have hfm := h.px.comp .fmap (by simp) (by simp)
  have hfl := fl_addTerm K h.px.ok I s ls [] p c
  have hne : I.fm ≠ I.tm := fun e => by have := hfm.2; rw [e, htm] at this; cases this
  have hne2 : I.kb ≠ I.tm := fun e => by have := h.kern; rw [e, htm] at this; cases this
  obtain ⟨ρ', a1, a2, a3⟩ := h.px.more (more_addTh K ⟨s, .term ls []⟩) p c (W' := W') hO hO' (fun ls' scr e => by cases e; exact ⟨hc, hcl⟩) (hT.mono fun k e => by rw [e]; exact .inr htm)
    (h.px.ok.addTh _ hl) (h.px.nm.addTh h.px.ok _ (.inr rfl) hs hnew) ((hfm.1.keep (hT.block _ (h.px.lt _ _ hfm.2) hne)).perm hfl.1.symm) (hm.perm hfl.2.symm)
  refine ⟨ρ', _, a1, (hT.block _ (h.px.lt _ _ h.kern) hne2).trans h.blk, by rw [a3 _ (h.px.lt _ _ h.kern)]; exact h.kern, h.kb, h.fm, h.tm, h.om, h.last, fun k t e => ?_⟩
  rcases a2 k t e with ⟨t', e'⟩ | e'
  · exact h.low k t' e'
  · omega
theorem PY.done {W W1 W' : World} {B : Nat} {ρ : Nat → Option PTag} {I : PI} {K : KS} {k0 f0 t0 o0 : Nat} (h : PY W B ρ I K k0 f0 t0 o0) (hB : B ≤ W.heap.size) (hN : K.next = 1 ∧ K.reads = 0 ∧ K.writes = 0) {g : Nat} {v : Value} (hP : PlanAt W1 g v K.plan) (hg : W.heap.size ≤ g) (hv : ∀ k, v.ownBlock = some k → W.heap.size ≤ k) (hB1 : Below W.heap.size W W1)
    (hW : W' = W1.setCell ⟨k0, 5, none⟩ (.pointer (some ⟨g, 0, none⟩))) (hgl : g < W1.heap.size) (hvl : ∀ k, v.ownBlock = some k → k < W1.heap.size) : KAt W' (fun k => B ≤ k) k0 K := by
  have hk0 := h.kb
  subst hk0
  have hkl := h.px.lt _ _ h.kern
  have hb1 : W1.heap[I.kb]? = _ := (hB1.block _ hkl).trans h.blk
  have hT : Turned (fun k => k = I.kb) W1 W' := by rw [hW]; exact (Turned.refl _ W1).set (.inl rfl)
  have hsz : W'.heap.size = W1.heap.size := by rw [hW]; exact heap_set_size _ _ _ _
  classical
  obtain ⟨ρ', hρ⟩ : ∃ ρ' : Nat → Option PTag, ρ' = fun k => if k = g ∨ v.ownBlock = some k then some .plan else ρ k := ⟨_, rfl⟩
  have hno : ∀ {k t}, ρ k = some t → ¬ (k = g ∨ v.ownBlock = some k) := fun {k t} e e' => by
    have := h.px.lt k t e
    rcases e' with e' | e'
    · omega
    · have := hv k e'; omega
  have fit : ∀ {k t}, ρ k = some t → ρ' k = some t := fun {k t} e => by rw [hρ]; simp only [if_neg (hno e)]; exact e
  have back : ∀ {k t}, ρ' k = some t → ρ k = some t ∨ k = g ∨ v.ownBlock = some k := fun {k t} e => by
    rw [hρ] at e
    simp only at e
    split at e
    · rename_i hh; exact .inr hh
    · exact .inl e
  have key : ∀ t, t ≠ .kern → t ≠ .plan → PComp W' ρ { I with pb := g, pv := v } K t := fun t h1 h2 => by
    have := ((h.px.comp t h1 h2).keep (W' := W1) (fun k e hlt => hB1.block k hlt) hB1.size).keep (W' := W') (fun k e hlt => hT.block k hlt (fun e' => by rw [e', h.kern] at e; exact h1 (Option.some.inj e).symm)) hT.size
    cases t <;> first | exact this | exact absurd rfl h1 | exact absurd rfl h2
  refine ⟨ρ', { I with pb := g, pv := v }, ⟨fun t => ?_, fun k t e => ?_, h.px.ok, h.px.nm⟩, rfl, fun k t e => ?_⟩
  · cases t with
    | kern =>
      refine ⟨?_, fit h.kern, by show K.next = I.last + 1; rw [h.last, hN.1]⟩
      rw [hW, heap_setCell_same 5 _ hb1, hN.2.1, hN.2.2]
      show _ = some (Obj.cells ([_, _, _, _, Value.int .i64 I.last, _, _, _] : List Value).toArray _ _)
      rw [h.last]
      rfl
    | plan =>
      refine ⟨?_, by rw [hρ]; simp, fun k e => by rw [hρ]; simp [show v.ownBlock = some k from e]⟩
      refine hP.keep fun k hlt e => hT.block k hlt (fun e' => ?_)
      rcases e with e | e
      · omega
      · have := hv k e; omega
    | fmap => obtain ⟨x1, x2⟩ := key .fmap (by simp) (by simp); exact ⟨x1, fit x2⟩
    | tmap => obtain ⟨x1, x2⟩ := key .tmap (by simp) (by simp); exact ⟨x1, fit x2⟩
    | omap => obtain ⟨x1, x2⟩ := key .omap (by simp) (by simp); exact ⟨x1, fit x2⟩
    | obj i => exact fun hi => (key (.obj i) (by simp) (by simp) hi).mono fun k e => fit e
    | cons i => exact fun hi ls scr e => by obtain ⟨x1, x2⟩ := key (.cons i) (by simp) (by simp) hi ls scr e; exact ⟨x1, fit x2⟩
    | desc n => exact fun d hd e => by obtain ⟨x1, x2⟩ := key (.desc n) (by simp) (by simp) d hd e; exact ⟨x1, fit x2⟩
    | ofile n => exact fun d hd e b hb => by obtain ⟨x1, x2⟩ := key (.ofile n) (by simp) (by simp) d hd e b hb; exact ⟨x1, fit x2⟩
  · rw [hsz]
    rcases back e with e' | e' | e'
    · exact Nat.lt_of_lt_of_le (h.px.lt k t e') hB1.size
    · omega
    · exact hvl k e'
  · rcases back e with e' | e' | e'
    · exact h.low k t e'
    · omega
    · have := hv k e'; omega
end Go.Proofs.YtkkommomefmpgaaGreat

/- The program's kernel: New. -/
namespace Go.Proofs.YtkkommomefmpgaaGreat
open Go.RowKit Go.Maps

theorem giveE_zero {ns : List ByteArray} {s : ByteArray} (h : giveE ns s = 0) : nameOk s = true ∧ s ∉ ns := by
  unfold giveE at h
  by_cases h1 : nameOk s = false
  · rw [if_pos h1] at h; cases h
  · rw [if_neg h1] at h
    by_cases h2 : inNames s ns = true
    · rw [if_pos h2] at h; cases h
    · exact ⟨by simpa using h1, fun e => h2 ((inNames_iff s ns).2 e)⟩
structure Seen (K : KS) (ns : List ByteArray) (n : Nat) : Prop where
  names : ∀ i ∈ K.nm, K.nameOf i ∈ ns
  len : K.nm.length = n
  next : K.next = 1 ∧ K.reads = 0 ∧ K.writes = 0
theorem Seen.add {K : KS} {ns : List ByteArray} {n : Nat} (h : Seen K ns n) (hok : KOk K) (t : Th) : Seen (K.addTh t) (ns ++ [t.name]) (n + 1) := by
  have hM := more_addTh K t
  refine ⟨fun i hi => ?_, ?_, h.next⟩
  · rw [addTh_nm] at hi
    rcases mem_insN.1 hi with rfl | hi
    · rw [hM.nameNew]; simp
    · rw [hM.nameOf (hok.nm i hi)]
      exact List.mem_append_left _ (h.names i hi)
  · rw [addTh_nm, (insN_perm _ _ _).length_eq]; simp [h.len]
theorem foldl_take {α β : Type} (f : β → α → β) (b : β) (l : List α) (k : Nat) (hk : k < l.length) : (l.take (k + 1)).foldl f b = f ((l.take k).foldl f b) l[k] := by
  rw [List.take_succ_eq_append_getElem hk, List.foldl_append]; rfl
def addF (K : KS) (f : Nm) : KS := K.addTh ⟨f.1, .file f.2⟩
def addT (K : KS) (t : Tp) : KS := K.addTh ⟨t.1, .term t.2 []⟩
theorem check_plan {l : List Fault} (h : (chk l).1 = 0) : planOk l := by
  have hl : ¬ 4096 < l.length := fun e => by rw [chk_long e] at h; cases h
  have hfb : fb l = l.length := by
    rcases Nat.lt_or_ge (fb l) l.length with e | e
    · rw [chk_bad hl e] at h; cases h
    · have := fb_le l; omega
  refine ⟨by omega, fun f hf e1 => ?_⟩
  obtain ⟨j, hj, rfl⟩ := List.getElem_of_mem hf
  have := fb_good hfb j hj
  rw [List.getD_eq_getElem?_getD, List.getElem?_eq_getElem hj] at this
  simp only [Option.getD_some] at this
  unfold may at this
  simp [e1] at this
  omega
set_option maxRecDepth 100000 in
set_option maxHeartbeats 8000000 in
theorem knew_good (a1 a2 a3 : Option Addr) (c1 c2 c3 : Nat) (fs : List Nm) (ts : List Tp) (l : List Fault) (w : World) (h1 : Nms w (.slice a1 fs.length c1) fs) (h2 : Tps w (.slice a2 ts.length c2) ts) (h3 : Flts w (.slice a3 l.length c3) l) (hs3 : l.length * 16 ≤ 140737488351232) (hl1 : fs.length ≤ 140737488351232) (hl2 : ts.length ≤ 140737488351232) (hE : checkE fs ts l = 0) :
    Calls Tryz.prog 7 #[.agg #[.slice a1 fs.length c1, .slice a2 ts.length c2, .slice a3 l.length c3]] w fun e w' => ∃ kb, e = .returned (.tuple #[.pointer (some ⟨kb, 0, none⟩), .int .i64 0]) ∧ KAt w' (fun k => w.heap.size ≤ k) kb (KS.new fs ts l) ∧ Below w.heap.size w w' := by
  have hEs : ¬ 256 < fs.length + ts.length ∧ (kfiles [] fs).1 = 0 ∧ kterms (kfiles [] fs).2 ts = 0 ∧ (chk l).1 = 0 := by
    unfold checkE at hE
    by_cases e1 : 256 < fs.length + ts.length
    · rw [if_pos e1] at hE; cases hE
    · rw [if_neg e1] at hE
      by_cases e2 : (kfiles [] fs).1 = 0
      · rw [if_pos e2] at hE
        by_cases e3 : kterms (kfiles [] fs).2 ts = 0
        · rw [if_pos e3] at hE; exact ⟨e1, e2, e3, hE⟩
        · rw [if_neg e3] at hE; exact absurd hE e3
      · rw [if_neg e2] at hE; exact absurd hE e2
  obtain ⟨hc, hE1, hE2, hE3⟩ := hEs
  have H1 := hide h1
  have H2 := hide h2
  have H3 := hide h3
  have HE3 := hide hE3
  have hmm := @run_makeMap Tryz.prog
  have hB0 := recv_below w (Obj.cells #[.slice a1 fs.length c1, .slice a2 ts.length c2, .slice a3 l.length c3] 28)
  have HCk := hide (kcheck_any a1 a2 a3 c1 c2 c3 fs ts l _ (h1.below hB0) (h2.below hB0) (h3.below hB0) (by unfold maxLen; omega) hl1 hl2)
  rw [hE] at HCk
  obtain ⟨cc0, cc1, cc2⟩ := trio_cells w (.slice a1 fs.length c1) (.slice a2 ts.length c2) (.slice a3 l.length c3) 28
  have hlt0 : w.heap.size < (w.alloc (Obj.cells #[.slice a1 fs.length c1, .slice a2 ts.length c2, .slice a3 l.length c3] 28)).heap.size := size_new _ _
  have HKf : Hid ((kfiles [] fs).1 = 0 ∧ kterms (kfiles [] fs).2 ts = 0) := hide ⟨hE1, hE2⟩
  clear h1 h2 h3 hE1 hE2 hE3 hE
  go_enter Tryz.func7, Tryz.ntmps7
  go_wp2_with fail
  refine HCk.out.mono ?_
  rintro e w1 ⟨rfl, hB1⟩
  have d0 := (hB1.cell (p := ⟨w.heap.size, 0, none⟩) hlt0).trans cc0
  have d1 := (hB1.cell (p := ⟨w.heap.size, 1, none⟩) hlt0).trans cc1
  have d2 := (hB1.cell (p := ⟨w.heap.size, 2, none⟩) hlt0).trans cc2
  have hBw1 : Below w.heap.size w w1 := hB0.trans (hB1.mono hB0.size)
  have hlt1 : w.heap.size < w1.heap.size := Nat.lt_of_lt_of_le hlt0 hB1.size
  have hBk : Below w1.heap.size w1 ((((w1.alloc (.map #[] 0)).alloc (.map #[] 0)).alloc (.map #[] 0)).alloc (Obj.cells #[.bool true, .map (some w1.heap.size), .map (some (w1.heap.size + 1)), .map (some (w1.heap.size + 1 + 1)), .int .i64 0, .pointer none, .int .i64 0, .int .i64 0] 96)) := (recv_below _ _).trans (((recv_below _ _).trans (((recv_below _ _).trans ((recv_below _ _).mono (by simp))).mono (by simp))).mono (by simp))
  have e0 := (hBk.cell (p := ⟨w.heap.size, 0, none⟩) hlt1).trans d0
  have e1 := (hBk.cell (p := ⟨w.heap.size, 1, none⟩) hlt1).trans d1
  have e2 := (hBk.cell (p := ⟨w.heap.size, 2, none⟩) hlt1).trans d2
  have HY := hide (start_py w1 w.heap.size (Nat.le_of_lt hlt1) l (check_plan HE3.out))
  have hBwk : Below w.heap.size w ((((w1.alloc (.map #[] 0)).alloc (.map #[] 0)).alloc (.map #[] 0)).alloc (Obj.cells #[.bool true, .map (some w1.heap.size), .map (some (w1.heap.size + 1)), .map (some (w1.heap.size + 1 + 1)), .int .i64 0, .pointer none, .int .i64 0, .int .i64 0] 96)) := hBw1.trans (hBk.mono (Nat.le_of_lt hlt1))
  clear hB0 hB1 hBw1 hBk d0 d1 d2 cc0 cc1 cc2 HCk
  generalize hk0 : w1.heap.size + 1 + 1 + 1 = k0 at *
  generalize hf0 : w1.heap.size = f0 at *
  generalize ht0 : f0 + 1 = t0 at *
  generalize ho0 : t0 + 1 = o0 at *
  have HK0 : Hid (k0 ≠ f0 ∧ f0 ≠ t0 ∧ k0 ≠ t0 ∧ w.heap.size < f0 ∧ w.heap.size < t0 ∧ w.heap.size < k0) := hide (by omega)
  have HC0 := hide (And.intro e1 e2)
  clear e1 e2
  go_wp2
  clear hk0 hf0 ht0 ho0 hlt1
  go_loopw [25] (fun i wr => ∃ (k : Nat) (K : KS) (ns : List ByteArray), k ≤ fs.length ∧ i = .int .i64 k ∧ Hid (∃ ρ I, PY wr w.heap.size ρ I K k0 f0 t0 o0) ∧ Hid (Seen K ns k ∧ (kfiles ns (fs.drop k)).1 = 0 ∧ kterms (kfiles ns (fs.drop k)).2 ts = 0 ∧ K = (fs.take k).foldl addF (KS.nought l)) ∧ Hid (wr.cell? ⟨w.heap.size, 1, none⟩ = some (.slice a2 ts.length c2) ∧ wr.cell? ⟨w.heap.size, 2, none⟩ = some (.slice a3 l.length c3)) ∧ Below w.heap.size w wr) (fun i _ => fs.length - (intOf i).toNat)
  case atStart => exact ⟨0, KS.nought l, [], Nat.zero_le _, rfl, hide ⟨_, _, HY.out⟩, hide ⟨⟨fun i hi => (by cases hi), rfl, rfl, rfl, rfl⟩, HKf.out.1, HKf.out.2, rfl⟩, HC0, hBwk⟩
  case round =>
    clear HY HC0 hBwk e0
    obtain ⟨k, K, ns, hk, rfl, HY, HS, HCc, hB⟩ := hrel
    have hsz := hB.size
    by_cases hlt : k < fs.length
    · obtain ⟨b, off, va, vc, rfl, hbl, q0, q1, hby, -, hnm⟩ := H1.out.at k hlt
      have hc0 := (hB.cell (p := ⟨b, off + k * 2, none⟩) hbl).trans q0
      have hc1 := (hB.cell (p := ⟨b, off + k * 2 + 1, none⟩) hbl).trans q1
      have hk1 : (0 : Int) ≤ (k : Int) := by omega
      have hk2 : (k : Int) < (fs.length : Int) := by omega
      obtain ⟨hS, hF, hF2, hKe⟩ := HS.out
      rw [drop_at fs k hlt] at hF hF2
      have hKe2 := foldl_take addF (KS.nought l) fs k hlt
      rw [← hKe] at hKe2
      clear q0 q1
      generalize fs[k] = p at hc0 hc1 hnm hF hF2 hby hKe2
      obtain ⟨nm, L⟩ := p
      simp only at hc0 hc1 hnm hby
      rw [kfiles_cons] at hF hF2
      have hg : giveE ns nm = 0 := by
        by_cases hg : giveE ns nm = 0
        · exact hg
        · rw [if_neg hg] at hF; exact absurd hF hg
      rw [if_pos hg] at hF hF2
      have hL : ¬ 1048576 < L.length := fun e => by rw [if_pos e] at hF; cases hF
      rw [if_neg hL] at hF hF2
      obtain ⟨hno, hnn⟩ := giveE_zero hg
      have hnew : ∀ i ∈ K.nm, K.nameOf i ≠ nm := fun i hi e => hnn (e ▸ hS.names i hi)
      have hBa := recv_below wr (Obj.cells #[.string nm, .slice va L.length vc] 86)
      obtain ⟨ca0, ca1⟩ := pair_cells wr (.string nm) (.slice va L.length vc) 86
      obtain ⟨ρ, I, hY⟩ := HY.out
      have hYa := hY.under hBa
      have hlenK : K.nm.length < 256 := by have := hS.len; omega
      have kc : (wr.alloc (Obj.cells #[.string nm, .slice va L.length vc] 86)).cell? ⟨k0, 1, none⟩ = some (.map (some f0)) := by
        rw [← hY.kb, ← hY.fm, cell_of_row _ I.kb _ _ _ _ hYa.blk]; rfl
      have HNf := hide (newFile_raw k0 f0 (K.fl I) nm (.slice va L.length vc) L _ kc (by rw [← hY.fm]; exact (hYa.px.comp .fmap (by simp) (by simp)).1) ((hby.below hB).below hBa) (by omega) hnm (mem_names hnew).1 (by have := (fl_len (I := I) hY.px.ok).1; unfold maxLen; omega))
      have HST : Hid (∀ w2 p, PObj w2 (fun k => (wr.alloc (Obj.cells #[.string nm, .slice va L.length vc] 86)).heap.size ≤ k ∧ k < w2.heap.size) p (.file L) → PMap w2 Tryz.prog 9 f0 ((nkey nm, p) :: K.fl I) → Turned (fun k => k = f0) (wr.alloc (Obj.cells #[.string nm, .slice va L.length vc] 86)) w2 → (∃ ρ I, PY w2 w.heap.size ρ I (addF K (nm, L)) k0 f0 t0 o0) ∧ (w2.cell? ⟨w.heap.size, 1, none⟩ = some (.slice a2 ts.length c2) ∧ w2.cell? ⟨w.heap.size, 2, none⟩ = some (.slice a3 l.length c3)) ∧ Below w.heap.size w w2) := hide (by
        intro w2 p hO hm hT
        have hlt0 : w.heap.size < wr.heap.size := by have := World.block_lt_of_cell? wr _ HCc.out.1; exact this
        have hBwa := hB.trans (hBa.mono hsz)
        refine ⟨hYa.addFile hBwa.size hO (by rw [hY.fm]; exact hm) (by rw [hY.fm]; exact hT) hno hnew hlenK, ⟨hT.cell ((hBa.cell (p := ⟨w.heap.size, 1, none⟩) hlt0).trans HCc.out.1) (by show ¬ w.heap.size = f0; have := HK0.out; omega), hT.cell ((hBa.cell (p := ⟨w.heap.size, 2, none⟩) hlt0).trans HCc.out.2) (by show ¬ w.heap.size = f0; have := HK0.out; omega)⟩, ?_⟩
        exact hBwa.trans (hT.below (fun k e => by rw [e]; have := HK0.out; omega) hBwa.size))
      have HS2 : Hid (Seen (addF K (nm, L)) (ns ++ [nm]) (k + 1) ∧ (kfiles (ns ++ [nm]) (fs.drop (k + 1))).1 = 0 ∧ kterms (kfiles (ns ++ [nm]) (fs.drop (k + 1))).2 ts = 0 ∧ addF K (nm, L) = (fs.take (k + 1)).foldl addF (KS.nought l)) := hide ⟨hS.add hY.px.ok ⟨nm, .file L⟩, hF, hF2, hKe2.symm⟩
      clear hY hYa hBa hS hF hF2 hKe hKe2 hnew hby hg hno hnn HS HY HCc
      go_wp2_with fail
      refine HNf.out.mono ?_
      rintro e w2 ⟨p, rfl, hO, hm, hT⟩
      obtain ⟨g1, g2, g3⟩ := HST.out w2 p hO hm hT
      have HY2 := hide g1
      have HC2 := hide g2
      clear g1 g2 hO hm hT HST
      go_wp2
      all_goals
        go_roundw
        case rel => exact ⟨k + 1, addF K (nm, L), ns ++ [nm], by omega, by go_num, HY2, HS2, HC2, g3⟩
        case measure => simp [intOf]; omega
    · have HS2 : Hid (Seen K ns fs.length ∧ kterms ns ts = 0 ∧ K = fs.foldl addF (KS.nought l)) := hide (by
        obtain ⟨hS, hF, hF2, hKe⟩ := HS.out
        have hke : k = fs.length := by omega
        subst hke
        rw [List.drop_length, kfiles] at hF2
        rw [List.take_length] at hKe
        exact ⟨hS, hF2, hKe⟩)
      have c41 := HCc.out.1
      clear HS
      go_wp2
      go_loopw [39] (fun i wq => ∃ (k : Nat) (K : KS) (ns : List ByteArray), k ≤ ts.length ∧ i = .int .i64 k ∧ Hid (∃ ρ I, PY wq w.heap.size ρ I K k0 f0 t0 o0) ∧ Hid (Seen K ns (fs.length + k) ∧ kterms ns (ts.drop k) = 0 ∧ K = (ts.take k).foldl addT (fs.foldl addF (KS.nought l))) ∧ Hid (wq.cell? ⟨w.heap.size, 2, none⟩ = some (.slice a3 l.length c3)) ∧ Below w.heap.size w wq) (fun i _ => ts.length - (intOf i).toNat)
      case atStart => exact ⟨0, K, ns, Nat.zero_le _, rfl, HY, hide ⟨HS2.out.1, HS2.out.2.1, HS2.out.2.2⟩, hide HCc.out.2, hB⟩
      case round =>
        rename_i hrel
        clear HY HS2 HCc hB hsz c41
        obtain ⟨k2, K2, ms, hk3, rfl, HY, HS, HCc, hB⟩ := hrel
        have hsz := hB.size
        by_cases hlt2 : k2 < ts.length
        · obtain ⟨b, off, va, vc, rfl, hbl, q0, q1, hby, hnm⟩ := H2.out.at k2 hlt2
          have hc0 := (hB.cell (p := ⟨b, off + k2 * 2, none⟩) hbl).trans q0
          have hc1 := (hB.cell (p := ⟨b, off + k2 * 2 + 1, none⟩) hbl).trans q1
          have hk1 : (0 : Int) ≤ (k2 : Int) := by omega
          have hk2 : (k2 : Int) < (ts.length : Int) := by omega
          obtain ⟨hS, hF, hKe⟩ := HS.out
          rw [drop_at ts k2 hlt2] at hF
          have hKe2 := foldl_take addT (fs.foldl addF (KS.nought l)) ts k2 hlt2
          rw [← hKe] at hKe2
          clear q0 q1
          generalize ts[k2] = pp at hc0 hc1 hnm hF hby hKe2
          obtain ⟨nm, ls⟩ := pp
          simp only at hc0 hc1 hnm hby
          rw [kterms_cons] at hF
          have hg : giveE ms nm = 0 := by
            by_cases hg : giveE ms nm = 0
            · exact hg
            · rw [if_neg hg] at hF; exact absurd hF hg
          rw [if_pos hg] at hF
          have hL : newE ls = 0 := by
            by_cases e : newE ls = 0
            · exact e
            · rw [if_neg e] at hF; exact absurd hF e
          rw [if_pos hL] at hF
          obtain ⟨hno, hnn⟩ := giveE_zero hg
          obtain ⟨ρ, I, hY⟩ := HY.out
          have hnew : ∀ i ∈ K2.nm, K2.nameOf i ≠ nm := fun i hi e => hnn (e ▸ hS.names i hi)
          have hBa := recv_below wr (Obj.cells #[.string nm, .slice va ls.length vc] 100)
          obtain ⟨ca0, ca1⟩ := pair_cells wr (.string nm) (.slice va ls.length vc) 100
          have hYa := hY.under hBa
          have hlenK : K2.nm.length < 256 := by have := hS.len; omega
          have HTn := hide (po_new_term (.slice va ls.length vc) ls (wr.alloc (Obj.cells #[.string nm, .slice va ls.length vc] 100)) ((hby.below hB).below hBa) hL)
          have hBwa := hB.trans (hBa.mono hsz)
          have hlt0 : w.heap.size < wr.heap.size := World.block_lt_of_cell? wr _ HCc.out
          have kc : (wr.alloc (Obj.cells #[.string nm, .slice va ls.length vc] 100)).cell? ⟨k0, 2, none⟩ = some (.map (some t0)) := by
            rw [← hY.kb, ← hY.tm, cell_of_row _ I.kb _ _ _ _ hYa.blk]; rfl
          have HST : Hid (∀ w3 p, PObj w3 (fun k => (wr.alloc (Obj.cells #[.string nm, .slice va ls.length vc] 100)).heap.size ≤ k ∧ k < w3.heap.size) p (.term ls []) → Below (wr.alloc (Obj.cells #[.string nm, .slice va ls.length vc] 100)).heap.size (wr.alloc (Obj.cells #[.string nm, .slice va ls.length vc] 100)) w3 →
              ∃ w4, (Instr.mapUpdate 92 (.map (some t0)) (.string nm) (.pointer (some ⟨w3.heap.size, 0, none⟩))).run Tryz.prog (w3.alloc (Obj.cells #[.pointer (some ⟨p, 0, none⟩), .int .i64 0] 106)).drew = .ok () w4 ∧ Hid (∃ ρ I, PY w4 w.heap.size ρ I (addT K2 (nm, ls)) k0 f0 t0 o0) ∧ Hid (w4.cell? ⟨w.heap.size, 2, none⟩ = some (.slice a3 l.length c3)) ∧ Below w.heap.size w w4) := hide (by
            intro w3 p hO hB3
            have hBc : Below w3.heap.size w3 (w3.alloc (Obj.cells #[.pointer (some ⟨p, 0, none⟩), .int .i64 0] 106)).drew := (recv_below w3 (Obj.cells #[.pointer (some ⟨p, 0, none⟩), .int .i64 0] 106)).trans ((Below.refl _ _).drew.mono (Nat.le_of_lt (size_new w3 (Obj.cells #[.pointer (some ⟨p, 0, none⟩), .int .i64 0] 106))))
            have hBac : Below (wr.alloc (Obj.cells #[.string nm, .slice va ls.length vc] 100)).heap.size (wr.alloc (Obj.cells #[.string nm, .slice va ls.length vc] 100)) (w3.alloc (Obj.cells #[.pointer (some ⟨p, 0, none⟩), .int .i64 0] 106)).drew := hB3.trans (hBc.mono hB3.size)
            have hmt0 := hYa.px.comp .tmap (by simp) (by simp)
            have hm3 := hmt0.1.keep (hBac.block _ (hYa.px.lt _ _ hmt0.2))
            rw [hY.tm] at hm3
            obtain ⟨w4, hrun, hm4, hmt⟩ := hm3.store skeyed Tryz.underlying92 (by have := (fl_len (I := I) hY.px.ok).2; unfold maxLen; omega) (key := .string nm) w3.heap.size (string_key nm hnm) (mem_names hnew).2
            have hT4 := mapTurned_turned hmt
            have htl : t0 < (wr.alloc (Obj.cells #[.string nm, .slice va ls.length vc] 100)).heap.size := by rw [← hY.tm]; exact hYa.px.lt _ _ hmt0.2
            have hTa : Turned (fun k => k = t0) (wr.alloc (Obj.cells #[.string nm, .slice va ls.length vc] 100)) w4 := (Turned.of_below hBac).trans hT4 (fun _ _ e => e)
            have hcc : COc w4 w3.heap.size p 0 := by
              refine (hT4.block w3.heap.size (by show w3.heap.size < (w3.alloc (Obj.cells #[.pointer (some ⟨p, 0, none⟩), .int .i64 0] 106)).heap.size; exact size_new _ _) (by have := hB3.size; omega)).trans ?_
              exact heap_alloc_new w3 (Obj.cells #[.pointer (some ⟨p, 0, none⟩), .int .i64 0] 106)
            refine ⟨w4, hrun, hide (hYa.addTerm hBwa.size (O := fun k => (wr.alloc (Obj.cells #[.string nm, .slice va ls.length vc] 100)).heap.size ≤ k ∧ k < w3.heap.size) ?_ (fun k e => ⟨e.1, by omega⟩) hcc hB3.size (by rw [hY.tm]; exact hm4) (by rw [hY.tm]; exact hTa) hno hnew hlenK), hide (hTa.cell ((hBa.cell (p := ⟨w.heap.size, 2, none⟩) hlt0).trans HCc.out) (by show ¬ w.heap.size = t0; have := HK0.out; omega)), ?_⟩
            · exact (hO.keep (fun k e hlt => hBc.block k hlt) hBc.size).keep (fun k e hlt => hT4.block k hlt (by omega)) hT4.size
            · exact hBwa.trans (hTa.below (fun k e => by rw [e]; have := HK0.out; omega) hBwa.size))
          have HS2 : Hid (Seen (addT K2 (nm, ls)) (ms ++ [nm]) (fs.length + (k2 + 1)) ∧ kterms (ms ++ [nm]) (ts.drop (k2 + 1)) = 0 ∧ addT K2 (nm, ls) = (ts.take (k2 + 1)).foldl addT (fs.foldl addF (KS.nought l))) := hide ⟨hS.add hY.px.ok ⟨nm, .term ls []⟩, hF, hKe2.symm⟩
          have hltk : k0 < (wr.alloc (Obj.cells #[.string nm, .slice va ls.length vc] 100)).heap.size := World.block_lt_of_cell? _ _ kc
          have hlta : wr.heap.size < (wr.alloc (Obj.cells #[.string nm, .slice va ls.length vc] 100)).heap.size := size_new _ _
          clear hY hYa hBa hBwa hS hF hKe hKe2 hnew hby hg hno hnn HS HY HCc
          go_wp2_with fail
          refine HTn.out.mono ?_
          rintro e w3 ⟨p, rfl, hO, hB3⟩
          obtain ⟨w4, hr4, HY4, HC4, hB4⟩ := HST.out w3 p hO hB3
          have kc3 := (hB3.cell (p := ⟨k0, 2, none⟩) hltk).trans kc
          have ca3 := (hB3.cell (p := ⟨wr.heap.size, 0, none⟩) hlta).trans ca0
          have kc4 := ((recv_below w3 (Obj.cells #[.pointer (some ⟨p, 0, none⟩), .int .i64 0] 106)).cell (p := ⟨k0, 2, none⟩) (World.block_lt_of_cell? w3 _ kc3)).trans kc3
          have ca4 := ((recv_below w3 (Obj.cells #[.pointer (some ⟨p, 0, none⟩), .int .i64 0] 106)).cell (p := ⟨wr.heap.size, 0, none⟩) (World.block_lt_of_cell? w3 _ ca3)).trans ca3
          clear hO hB3 HST ca0 ca1 kc
          go_wp2_with fail
          go_region
          go_wp2
          all_goals
            go_roundw
            case rel => exact ⟨k2 + 1, addT K2 (nm, ls), ms ++ [nm], by omega, by go_num, HY4, HS2, HC4, hB4⟩
            case measure => simp [intOf]; omega
        · have HS2 : Hid (Seen K2 ms (fs.length + ts.length) ∧ K2 = KS.new fs ts l) := hide (by
            obtain ⟨hS, hF, hKe⟩ := HS.out
            have hke : k2 = ts.length := by omega
            subst hke
            rw [List.take_length] at hKe
            exact ⟨hS, hKe⟩)
          have c42 := HCc.out
          have HFn := hide (Fa_new_good (.slice a3 l.length c3) l wr (H3.out.below hB) hs3 HE3.out)
          have kcs : ∃ ρ I, PY wr w.heap.size ρ I K2 k0 f0 t0 o0 := HY.out
          obtain ⟨ρ, I, hY⟩ := kcs
          have HYy := hide hY
          have kb5 : wr.cell? ⟨k0, 5, none⟩ = some (.pointer none) := by
            rw [← hY.kb, cell_of_row _ I.kb _ _ _ _ hY.blk]; rfl
          have kb5s : wr.frozen? ⟨k0, 5, none⟩ = false := by rw [← hY.kb]; exact frozen_of_row wr I.kb 5 _ _ hY.blk
          have hltk : k0 < wr.heap.size := World.block_lt_of_cell? _ _ kb5
          clear HS hY HY
          go_wp2_with fail
          refine HFn.out.mono ?_
          rintro e w2 ⟨g, v', rfl, hP, g1, g2, g3, hB2⟩
          have kb6 := (hB2.cell (p := ⟨k0, 5, none⟩) hltk).trans kb5
          have kb6s : w2.frozen? ⟨k0, 5, none⟩ = false := (World.frozen?_of_block (w := wr) (hB2.block k0 hltk)).trans kb5s
          have HD : Hid (KAt (w2.setCell ⟨k0, 5, none⟩ (.pointer (some ⟨g, 0, none⟩))) (fun k => w.heap.size ≤ k) k0 (KS.new fs ts l) ∧ Below w.heap.size w (w2.setCell ⟨k0, 5, none⟩ (.pointer (some ⟨g, 0, none⟩)))) := hide (by
            obtain ⟨hS, hKe⟩ := HS2.out
            rw [← hKe]
            have hpl : K2.plan = l := by
              rw [hKe]
              have : ∀ (ts : List Tp) (K : KS), (ts.foldl (fun K t => K.addTh ⟨t.1, .term t.2 []⟩) K).plan = K.plan := fun ts => by
                induction ts with
                | nil => intro K; rfl
                | cons t r ih => intro K; rw [List.foldl_cons, ih]; rfl
              have this2 : ∀ (ts : List Nm) (K : KS), (ts.foldl (fun K t => K.addTh ⟨t.1, .file t.2⟩) K).plan = K.plan := fun ts => by
                induction ts with
                | nil => intro K; rfl
                | cons t r ih => intro K; rw [List.foldl_cons, ih]; rfl
              unfold KS.new
              rw [this, this2]
              rfl
            refine ⟨HYy.out.done hsz hS.next (W1 := w2) (by rw [hpl]; exact hP) g1 (fun k e => (g3 k e).1) hB2 rfl g2 (fun k e => (g3 k e).2), ?_⟩
            have hBw2 := hB.trans (hB2.mono hsz)
            exact hBw2.trans (((Turned.refl (fun k => k = k0) w2).set (g := k0) (j := 5) (u := .pointer (some ⟨g, 0, none⟩)) (.inl rfl)).below (fun k e => by rw [e]; have := HK0.out; omega) hBw2.size))
          clear hP g1 g2 g3 hB2
          go_wp2
          go_ret2
          exact ⟨k0, rfl, HD.out⟩
end Go.Proofs.YtkkommomefmpgaaGreat

/- The program's kernel: Read, walked. -/
namespace Go.Proofs.YtkkommomefmpgaaGreat
open Go.RowKit Go.Maps

theorem PRd.done {w w1 w4 : World} {ρ : Nat → Option PTag} {I I1 : PI} {r : List UInt8 × Int × KS} {v : Value} (hT : Turned (Own ρ) w w1) (hk : I1.kb = I.kb) (hrow : w4.ownsRow w1.heap.size 5 1 v r.1.length (r.1.map bv)) (hN : PHold ρ I1 w1 r.2.2 w4) :
    PRd ρ I w r (.returned (.tuple #[v, .int .i64 r.2.1])) w4 := ⟨v, rfl, owns_mono hrow hT.size, hN.after hT hk⟩
theorem waits_file {ob : Ob} {b : List UInt8} (h : ob = .file b) : ob.waits = false := by rw [h]; rfl
theorem waits_term {ob : Ob} {ls : List (List UInt8)} {scr : List UInt8} (h : ob = .term ls scr) : ob.waits = false := by rw [h]; rfl
set_option maxRecDepth 100000 in
theorem of_readWaits (x : Nat) (w : World) : Calls Tryz.prog 308 #[.pointer (some ⟨x, 0, none⟩)] w fun e w' => e = .returned (.bool false) ∧ w' = w := by
  go_enter Tryz.func308, Tryz.ntmps308
  go_wp2
  go_ret
  exact ⟨rfl, rfl⟩
set_option maxRecDepth 100000 in
theorem co_readWaits (x : Nat) (w : World) : Calls Tryz.prog 299 #[.pointer (some ⟨x, 0, none⟩)] w fun e w' => e = .returned (.bool false) ∧ w' = w := by
  go_enter Tryz.func299, Tryz.ntmps299
  go_wp2
  go_ret
  exact ⟨rfl, rfl⟩
set_option maxRecDepth 100000 in
set_option maxHeartbeats 4000000 in
theorem kread_any (ρ : Nat → Option PTag) (I : PI) (K : KS) (d n : Int) (w : World) (h : PK w ρ I K) (hd : I64 d) (hr : K.reads < 9223372036854775807) :
    Calls Tryz.prog 51 #[.pointer (some ⟨I.kb, 0, none⟩), .int .i64 d, .int .i64 n] w (PRd ρ I w (K.read d n)) := by
  have HF := hide (described_any ρ I K d w h hd)
  have HX := hide fun E => PRd.refused h (Below.refl _ w) E
  have HK := hide h
  cases hx : K.find d with
  | none =>
    rw [hx] at HF
    rw [show K.read d n = ([], 64, K) by unfold KS.read; rw [hx]]
    clear h HK
    go_enter Tryz.func51, Tryz.ntmps51
    go_wp2_with fail
    refine HF.out.mono ?_
    rintro e w1 ⟨rfl, rfl⟩
    unfold descV
    go_wp2
    go_ret2
    exact HX.out 64
  | some x =>
    rw [hx] at HF
    have hm := (KS.find_some hx).1
    have hdc := h.desc hm
    have c0 := hdc.thing
    have c1 := hdc.reads
    by_cases hf : fbit x.flags 1 = 0
    · rw [show K.read d n = ([], 65, K) by unfold KS.read; rw [hx]; simp only; rw [if_pos hf]]
      rw [bit_no hf] at c1
      clear h hdc HK
      go_enter Tryz.func51, Tryz.ntmps51
      go_wp2_with fail
      refine HF.out.mono ?_
      rintro e w1 ⟨rfl, rfl⟩
      unfold descV
      go_wp2
      go_ret2
      exact HX.out 65
    · rw [bit_yes hf] at c1
      by_cases hn : n < 0 ∨ 1048576 < n
      · rw [show K.read d n = ([], 4, K) by unfold KS.read; rw [hx]; simp only; rw [if_neg hf, if_pos hn]]
        clear h hdc HK
        rcases hn with hn | hn
        · go_enter Tryz.func51, Tryz.ntmps51
          go_wp2_with fail
          refine HF.out.mono ?_
          rintro e w1 ⟨rfl, rfl⟩
          unfold descV
          go_wp2
          go_ret2
          exact HX.out 4
        · have hn' : ¬ n < 0 := by omega
          go_enter Tryz.func51, Tryz.ntmps51
          go_wp2_with fail
          refine HF.out.mono ?_
          rintro e w1 ⟨rfl, rfl⟩
          unfold descV
          go_wp2
          go_ret2
          exact HX.out 4
      · by_cases hz : n = 0
        · rw [show K.read d n = ([], 0, K) by unfold KS.read; rw [hx]; simp only; rw [if_neg hf, if_neg hn, if_pos hz]]
          subst hz
          clear h hdc HK
          go_enter Tryz.func51, Tryz.ntmps51
          go_wp2_with fail
          refine HF.out.mono ?_
          rintro e w1 ⟨rfl, rfl⟩
          unfold descV
          go_wp2
          go_ret2
          exact HX.out 0
        · have n1 : ¬ n < 0 := by omega
          have n2 : ¬ 1048576 < n := by omega
          have n3 : (n == 0) = false := by simpa using hz
          have n4 : 1 ≤ n := by omega
          have n5 : n ≤ 1048576 := by omega
          have n6 : ¬ n = 0 := hz
          obtain ⟨pr, hpr⟩ : ∃ pr, pr = nxt K.plan n := ⟨_, rfl⟩
          have HG : Hid (pr.2 = 0 → 1 ≤ pr.1 ∧ pr.1 ≤ 1048576) := hide (fun e => by rw [hpr] at e ⊢; have := nxt_good h.ok.plan n4 n5 e; omega)
          have HN := hide fun W I' K' (hW : PK W ρ I' K') (hpl : K'.plan = K.plan) => by
            have := knext_any ρ I' K' n W hW n4 n5
            rw [hpl, ← hpr] at this
            exact this
          have hK := HK
          clear hdc
          cases ho : K.tho x with
          | file b =>
            rw [read_is hx hf n4 n5 (waits_file ho), ← hpr]
            have HP2 := hide h.readUp
            have HT0 := hide ho
            rw [thing_file ho] at c0
            have hmw := mf_readWaits (I.xb x.n)
            have hmr := mf_read (I.xb x.n)
            have c6 := h.cells.reads
            have c6s : w.frozen? ⟨I.kb, 6, none⟩ = false := frozen_of_row w I.kb 6 _ _ (h.comp .kern).1
            have c5 := HP2.out.1.cells.plan
            have d2 := (HP2.out.1.desc (x := x) hm).thing
            clear h HX HK
            clear hpr
            obtain ⟨pr1, pr2⟩ := pr
            simp only at HG HN ⊢
            by_cases he : pr2 = 0
            · subst he
              rw [if_pos rfl]
              go_enter Tryz.func51, Tryz.ntmps51
              go_wp2_with fail
              refine HF.out.mono ?_
              rintro e w1 ⟨rfl, rfl⟩
              unfold descV
              go_wp2_with fail
              refine (of_readWaits (I.xb x.n) _).mono ?_
              rintro e w1' ⟨rfl, rfl⟩
              go_wp2_with fail
              generalize hw2 : w1'.setCell ⟨I.kb, 6, none⟩ (.int .i64 ((K.reads : Int) + 1)) = w2 at *
              refine (HN.out w2 I _ HP2.out.1 rfl).mono ?_
              rintro e w3 ⟨rfl, v', hP3, hT3⟩
              have c7 := (hP3.desc (x := x) hm).thing
              rw [thing_file (K := { K with reads := K.reads + 1, plan := K.plan.tail }) ho] at c7
              simp only at c7
              go_wp2_with fail
              refine (xread_file ρ _ _ x b pr1 w3 hP3 hm ho (HG.out (by first | rfl | trivial)).1 (HG.out (by first | rfl | trivial)).2).mono ?_
              rintro e w4 ⟨v, rfl, hrow, hN⟩
              obtain ⟨va, vc, rfl⟩ := owns_slice hrow
              have HV := hide hrow
              have HS := hide hN
              clear hrow hN
              go_wp2
              go_ret2
              exact PRd.done (HP2.out.2.trans hT3 (fun _ _ e => e)) rfl HV.out HS.out
            · rw [if_neg he]
              have he2 : (pr2 == 0) = false := by simpa using he
              go_enter Tryz.func51, Tryz.ntmps51
              go_wp2_with fail
              refine HF.out.mono ?_
              rintro e w1 ⟨rfl, rfl⟩
              unfold descV
              go_wp2_with fail
              refine (of_readWaits (I.xb x.n) _).mono ?_
              rintro e w1' ⟨rfl, rfl⟩
              go_wp2_with fail
              generalize hw2 : w1'.setCell ⟨I.kb, 6, none⟩ (.int .i64 ((K.reads : Int) + 1)) = w2 at *
              refine (HN.out w2 I _ HP2.out.1 rfl).mono ?_
              rintro e w3 ⟨rfl, v', hP3, hT3⟩
              have HP3 := hide hP3
              clear hP3
              go_wp2
              go_ret2
              exact ⟨_, rfl, World.ownsRow_nil _ _ _ _, PHold.of HP3.out rfl (HP2.out.2.trans hT3 (fun _ _ e => e))⟩
          | term ls scr =>
            rw [read_is hx hf n4 n5 (waits_term ho), ← hpr]
            have HP2 := hide h.readUp
            have HT0 := hide ho
            rw [thing_term ho] at c0
            have hmw := mt_readWaits (I.cb x.th)
            have hmr := mt_read (I.cb x.th)
            have c6 := h.cells.reads
            have c6s : w.frozen? ⟨I.kb, 6, none⟩ = false := frozen_of_row w I.kb 6 _ _ (h.comp .kern).1
            have c5 := HP2.out.1.cells.plan
            have d2 := (HP2.out.1.desc (x := x) hm).thing
            clear h HX HK
            clear hpr
            obtain ⟨pr1, pr2⟩ := pr
            simp only at HG HN ⊢
            by_cases he : pr2 = 0
            · subst he
              rw [if_pos rfl]
              go_enter Tryz.func51, Tryz.ntmps51
              go_wp2_with fail
              refine HF.out.mono ?_
              rintro e w1 ⟨rfl, rfl⟩
              unfold descV
              go_wp2_with fail
              refine (co_readWaits (I.cb x.th) _).mono ?_
              rintro e w1' ⟨rfl, rfl⟩
              go_wp2_with fail
              generalize hw2 : w1'.setCell ⟨I.kb, 6, none⟩ (.int .i64 ((K.reads : Int) + 1)) = w2 at *
              refine (HN.out w2 I _ HP2.out.1 rfl).mono ?_
              rintro e w3 ⟨rfl, v', hP3, hT3⟩
              have c7 := (hP3.desc (x := x) hm).thing
              rw [thing_term (K := { K with reads := K.reads + 1, plan := K.plan.tail }) ho] at c7
              simp only at c7
              go_wp2_with fail
              refine (xread_term ρ _ _ x ls scr pr1 w3 hP3 hm ho).mono ?_
              rintro e w4 ⟨v, rfl, hrow, hN⟩
              obtain ⟨va, vc, rfl⟩ := owns_slice hrow
              have HV := hide hrow
              have HS := hide hN
              clear hrow hN
              go_wp2
              go_ret2
              exact PRd.done (HP2.out.2.trans hT3 (fun _ _ e => e)) rfl HV.out HS.out
            · rw [if_neg he]
              have he2 : (pr2 == 0) = false := by simpa using he
              go_enter Tryz.func51, Tryz.ntmps51
              go_wp2_with fail
              refine HF.out.mono ?_
              rintro e w1 ⟨rfl, rfl⟩
              unfold descV
              go_wp2_with fail
              refine (co_readWaits (I.cb x.th) _).mono ?_
              rintro e w1' ⟨rfl, rfl⟩
              go_wp2_with fail
              generalize hw2 : w1'.setCell ⟨I.kb, 6, none⟩ (.int .i64 ((K.reads : Int) + 1)) = w2 at *
              refine (HN.out w2 I _ HP2.out.1 rfl).mono ?_
              rintro e w3 ⟨rfl, v', hP3, hT3⟩
              have HP3 := hide hP3
              clear hP3
              go_wp2
              go_ret2
              exact ⟨_, rfl, World.ownsRow_nil _ _ _ _, PHold.of HP3.out rfl (HP2.out.2.trans hT3 (fun _ _ e => e))⟩
          | pipe q rd wt =>
            cases hcan : canR q.length rd wt with
            | false =>
              rw [show K.read d n = ([], 52, K) by unfold KS.read; rw [hx]; simp only; rw [if_neg hf, if_neg hn, if_neg hz, if_pos (by rw [ho]; show (!canR q.length rd wt) = true; rw [hcan]; rfl)]]
              have HW := hide (pp_readWaits (I.ob x.th) q rd wt w (by have := h.pobj hm; rw [ho] at this; exact this.1))
              rw [hcan] at HW
              rw [thing_pipe ho] at c0
              have hmw := mp_readWaits (I.ob x.th)
              clear h hK HN HG HX
              go_enter Tryz.func51, Tryz.ntmps51
              go_wp2_with fail
              refine HF.out.mono ?_
              rintro e w1 ⟨rfl, rfl⟩
              unfold descV
              go_wp2_with fail
              refine HW.out.mono ?_
              rintro e w2 ⟨rfl, hB⟩
              go_wp2
              go_ret2
              exact PRd.refused HK.out hB 52
            | true =>
            rw [read_is hx hf n4 n5 (by rw [ho]; show (!canR q.length rd wt) = false; rw [hcan]; rfl), ← hpr]
            have HW := hide (pp_readWaits (I.ob x.th) q rd wt w (by have := h.pobj hm; rw [ho] at this; exact this.1))
            rw [hcan] at HW
            have HP := hide h
            have HT0 := hide ho
            rw [thing_pipe ho] at c0
            have hmw := mp_readWaits (I.ob x.th)
            have hmr := mp_read (I.ob x.th)
            clear h HX HK
            clear hpr
            obtain ⟨pr1, pr2⟩ := pr
            simp only at HG HN ⊢
            by_cases he : pr2 = 0
            · subst he
              rw [if_pos rfl]
              go_enter Tryz.func51, Tryz.ntmps51
              go_wp2_with fail
              refine HF.out.mono ?_
              rintro e w1 ⟨rfl, rfl⟩
              unfold descV
              go_wp2_with fail
              refine HW.out.mono ?_
              rintro e w1' ⟨rfl, hB⟩
              have hP1 := HP.out.under hB
              have HP2 := hide hP1.readUp
              have c6 := hP1.cells.reads
              have c6s : w1'.frozen? ⟨I.kb, 6, none⟩ = false := frozen_of_row w1' I.kb 6 _ _ (hP1.comp .kern).1
              have c5 := HP2.out.1.cells.plan
              have d2 := (HP2.out.1.desc (x := x) hm).thing
              have HT1 := hide (Turned.of_below (S := Own ρ) hB)
              clear hP1 hB
              go_wp2_with fail
              generalize hw2 : w1'.setCell ⟨I.kb, 6, none⟩ (.int .i64 ((K.reads : Int) + 1)) = w2 at *
              refine (HN.out w2 I _ HP2.out.1 rfl).mono ?_
              rintro e w3 ⟨rfl, v', hP3, hT3⟩
              have c7 := (hP3.desc (x := x) hm).thing
              rw [thing_pipe (K := { K with reads := K.reads + 1, plan := K.plan.tail }) ho] at c7
              simp only at c7
              go_wp2_with fail
              refine (xread_pipe ρ _ _ x q rd wt pr1 w3 hP3 hm ho).mono ?_
              rintro e w4 ⟨v, rfl, hrow, hN⟩
              obtain ⟨va, vc, rfl⟩ := owns_slice hrow
              have HV := hide hrow
              have HS := hide hN
              clear hrow hN
              go_wp2
              go_ret2
              exact PRd.done ((HT1.out.trans HP2.out.2 (fun _ _ e => e)).trans hT3 (fun _ _ e => e)) rfl HV.out HS.out
            · rw [if_neg he]
              have he2 : (pr2 == 0) = false := by simpa using he
              go_enter Tryz.func51, Tryz.ntmps51
              go_wp2_with fail
              refine HF.out.mono ?_
              rintro e w1 ⟨rfl, rfl⟩
              unfold descV
              go_wp2_with fail
              refine HW.out.mono ?_
              rintro e w1' ⟨rfl, hB⟩
              have hP1 := HP.out.under hB
              have HP2 := hide hP1.readUp
              have c6 := hP1.cells.reads
              have c6s : w1'.frozen? ⟨I.kb, 6, none⟩ = false := frozen_of_row w1' I.kb 6 _ _ (hP1.comp .kern).1
              have c5 := HP2.out.1.cells.plan
              have d2 := (HP2.out.1.desc (x := x) hm).thing
              have HT1 := hide (Turned.of_below (S := Own ρ) hB)
              clear hP1 hB
              go_wp2_with fail
              generalize hw2 : w1'.setCell ⟨I.kb, 6, none⟩ (.int .i64 ((K.reads : Int) + 1)) = w2 at *
              refine (HN.out w2 I _ HP2.out.1 rfl).mono ?_
              rintro e w3 ⟨rfl, v', hP3, hT3⟩
              have HP3 := hide hP3
              clear hP3
              go_wp2
              go_ret2
              exact ⟨_, rfl, World.ownsRow_nil _ _ _ _, PHold.of HP3.out rfl ((HT1.out.trans HP2.out.2 (fun _ _ e => e)).trans hT3 (fun _ _ e => e))⟩
end Go.Proofs.YtkkommomefmpgaaGreat

/- The program's kernel: Pipe. -/
namespace Go.Proofs.YtkkommomefmpgaaGreat
open Go.RowKit Go.Maps

end Go.Proofs.YtkkommomefmpgaaGreat

/- The program's kernel: Pipe, walked. -/
namespace Go.Proofs.YtkkommomefmpgaaGreat
open Go.RowKit Go.Maps

end Go.Proofs.YtkkommomefmpgaaGreat

/- The program's kernel: CanRead, CanWrite. -/
namespace Go.Proofs.YtkkommomefmpgaaGreat
open Go.RowKit Go.Maps

end Go.Proofs.YtkkommomefmpgaaGreat

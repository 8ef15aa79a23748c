/- What the proof stands on, part 8: the contracts of the program's calls that it reaches. -/
import Derived.Test.YtkkicbhmcjbmbaaGreatKM7
/- The program's kernel: Read. -/
namespace Go.Proofs.YtkkicbhmcjbmbaaGreat
open Go.RowKit Go.Maps

/-- The blocks of a kernel. -/
def Own (ρ : Nat → Option PTag) (k : Nat) : Prop := ∃ t, ρ k = some t
/-- A kernel behind a step, with its new marks. -/
def PNext (ρ : Nat → Option PTag) (I : PI) (w : World) (K' : KS) (w' : World) : Prop := ∃ ρ' I', PK w' ρ' I' K' ∧ I'.kb = I.kb ∧ newTags ρ ρ' w ∧ Turned (Own ρ) w w'
theorem PNext.step {w w' : World} {O : Nat → Prop} {ρ : Nat → Option PTag} {I : PI} {K' : KS} (hO : ∀ k t, ρ k = some t → O k) (h : PNext ρ I w K' w') : KStep w O I.kb K' w' := by
  obtain ⟨ρ', I', h1, h2, h3, h4⟩ := h
  exact PK.step hO h1 h2 h3 h4
theorem newTags.refl (ρ : Nat → Option PTag) (w : World) : newTags ρ ρ w := fun _ t e => .inl ⟨t, e⟩
theorem PNext.same {w : World} {ρ : Nat → Option PTag} {I : PI} {K : KS} (h : PK w ρ I K) : PNext ρ I w K w := ⟨ρ, I, h, rfl, newTags.refl _ _, Turned.refl _ _⟩
theorem PNext.of {w w' : World} {ρ : Nat → Option PTag} {I I' : PI} {K' : KS} (h : PK w' ρ I' K') (hk : I'.kb = I.kb) (hT : Turned (Own ρ) w w') : PNext ρ I w K' w' := ⟨ρ, I', h, hk, newTags.refl _ _, hT⟩
theorem PNext.after {w w1 w' : World} {ρ : Nat → Option PTag} {I I1 : PI} {K' : KS} (hT : Turned (Own ρ) w w1) (hk : I1.kb = I.kb) (h : PNext ρ I1 w1 K' w') : PNext ρ I w K' w' := by
  obtain ⟨ρ', I', h1, h2, h3, h4⟩ := h
  exact ⟨ρ', I', h1, h2.trans hk, fun k t e => (h3 k t e).imp id (fun e => Nat.le_trans hT.size e), hT.trans h4 (fun _ _ e => e)⟩
theorem PK.under {W W' : World} {ρ : Nat → Option PTag} {I : PI} {K : KS} (h : PK W ρ I K) (hB : Below W.heap.size W W') : PK W' ρ I K := h.keep (fun k t e => hB.block k (h.lt k t e)) hB.size
/-- A read, or a write, is counted. -/
theorem PK.readUp {W : World} {ρ : Nat → Option PTag} {I : PI} {K : KS} (h : PK W ρ I K) : PK (W.setCell ⟨I.kb, 6, none⟩ (.int .i64 ((K.reads : Int) + 1))) ρ I { K with reads := K.reads + 1 } ∧ Turned (Own ρ) W (W.setCell ⟨I.kb, 6, none⟩ (.int .i64 ((K.reads : Int) + 1))) := by
  have hb := (h.comp .kern).1
  have hT := (Turned.refl (fun k => k = I.kb) W).set (g := I.kb) (j := 6) (u := .int .i64 ((K.reads : Int) + 1)) (.inl rfl)
  have := h.kernel (K.reads + 1) K.writes I.last (by rw [heap_setCell_same 6 _ hb]; rfl) hT (Nat.le_refl _)
  rw [← (h.comp .kern).2.2] at this
  exact ⟨this, hT.mono fun k e => ⟨.kern, by rw [e]; exact (h.comp .kern).2.1⟩⟩
theorem PK.writeUp {W : World} {ρ : Nat → Option PTag} {I : PI} {K : KS} (h : PK W ρ I K) : PK (W.setCell ⟨I.kb, 7, none⟩ (.int .i64 ((K.writes : Int) + 1))) ρ I { K with writes := K.writes + 1 } ∧ Turned (Own ρ) W (W.setCell ⟨I.kb, 7, none⟩ (.int .i64 ((K.writes : Int) + 1))) := by
  have hb := (h.comp .kern).1
  have hT := (Turned.refl (fun k => k = I.kb) W).set (g := I.kb) (j := 7) (u := .int .i64 ((K.writes : Int) + 1)) (.inl rfl)
  have := h.kernel K.reads (K.writes + 1) I.last (by rw [heap_setCell_same 7 _ hb]; rfl) hT (Nat.le_refl _)
  rw [← (h.comp .kern).2.2] at this
  exact ⟨this, hT.mono fun k e => ⟨.kern, by rw [e]; exact (h.comp .kern).2.1⟩⟩
/-- Next, of the kernel's plan. -/
theorem knext_any (ρ : Nat → Option PTag) (I : PI) (K : KS) (want : Int) (w : World) (h : PK w ρ I K) (h1 : 1 ≤ want) (h2 : want ≤ 1048576) :
    Calls Tryz.prog 135 #[.pointer (some ⟨I.pb, 0, none⟩), .int .i64 want] w fun e w' => e = .returned (.tuple #[.int .i64 (nxt K.plan want).1, .int .i64 (nxt K.plan want).2]) ∧ ∃ v', PK w' ρ { I with pv := v' } { K with plan := K.plan.tail } ∧ Turned (Own ρ) w w' := by
  have hp := (h.comp .plan).1
  cases hpl : K.plan with
  | nil =>
    rw [hpl] at hp
    refine (next_end I.pb I.pv want w hp h1 h2).mono ?_
    rintro e w' ⟨rfl, rfl⟩
    refine ⟨by rw [show nxt ([] : List Fault) want = (want, 0) by simp [nxt]; omega], I.pv, ?_, Turned.refl _ _⟩
    have : ({ K with plan := ([] : List Fault).tail } : KS) = K := by
      obtain ⟨_, _, _, _, plan, _, _⟩ := K
      simp only at hpl
      subst hpl
      rfl
    rw [this]
    exact h
  | cons f r =>
    have hpo := h.ok.plan
    rw [hpl] at hp hpo
    refine (next_some I.pb I.pv f r want w hp h1 h2 (by have := hpo.1; simp at this; unfold maxLen; omega)).mono ?_
    rintro e w' ⟨rfl, v', h3, h4, h5⟩
    have hT : Turned (fun k => k = I.pb) w w' := (Turned.refl _ w).grown h5 (fun k e => by cases e; exact .inl rfl)
    exact ⟨rfl, v', h.used h3 (fun k e => by rw [← h4]; exact e) hT hpo.tail, hT.mono fun k e => ⟨.plan, by rw [e]; exact (h.comp .plan).2.1⟩⟩
/-- An object that a call has turned. -/
theorem PK.objStep {W W' : World} {ρ : Nat → Option PTag} {I : PI} {K : KS} (h : PK W ρ I K) {i : Nat} (hi : i < K.th.length) {ob' : Ob} (hk : ob'.kind = K.th[i].ob.kind) (hS : PStep W (fun k => ρ k = some (.obj i)) (I.ob i) ob' W')
    (hc : ∀ ls scr, ob' = .term ls scr → ∃ ls0 scr0, K.th[i].ob = .term ls0 scr0 ∧ scr.length = scr0.length) : PNext ρ I W (K.setOb i ob') W' := by
  obtain ⟨O', h1, h2, h3⟩ := hS
  obtain ⟨ρ', h4, h5, h6⟩ := h.setOb hi hk (h3.mono fun k e => Or.inl e) h1 h2 (fun ls scr e => by
    obtain ⟨ls0, scr0, e0, e1⟩ := hc ls scr e
    obtain ⟨a1, a2⟩ := h.comp (.cons i) hi ls0 scr0 e0
    rw [e1]
    exact (h3.block _ (h.lt _ _ a2) (fun e' => by rw [a2] at e'; cases e')).trans a1)
  exact ⟨ρ', I, h4, rfl, h5, h3.mono fun k e => ⟨_, e⟩⟩
/-- A kernel behind a step that gives it no block. -/
def PHold (ρ : Nat → Option PTag) (I : PI) (w : World) (K' : KS) (w' : World) : Prop := ∃ ρ' I', PK w' ρ' I' K' ∧ I'.kb = I.kb ∧ (∀ k, Own ρ' k → Own ρ k) ∧ Turned (Own ρ) w w'
theorem PHold.of {w w' : World} {ρ : Nat → Option PTag} {I I' : PI} {K' : KS} (h : PK w' ρ I' K') (hk : I'.kb = I.kb) (hT : Turned (Own ρ) w w') : PHold ρ I w K' w' := ⟨ρ, I', h, hk, fun _ e => e, hT⟩
theorem PHold.after {w w1 w' : World} {ρ : Nat → Option PTag} {I I1 : PI} {K' : KS} (hT : Turned (Own ρ) w w1) (hk : I1.kb = I.kb) (h : PHold ρ I1 w1 K' w') : PHold ρ I w K' w' := by
  obtain ⟨ρ', I', h1, h2, h3, h4⟩ := h
  exact ⟨ρ', I', h1, h2.trans hk, h3, hT.trans h4 (fun _ _ e => e)⟩
theorem PK.objHold {W W' : World} {ρ : Nat → Option PTag} {I : PI} {K : KS} (h : PK W ρ I K) {i : Nat} (hi : i < K.th.length) {ob' : Ob} (hk : ob'.kind = K.th[i].ob.kind) (hO : PObj W' (fun k => ρ k = some (.obj i)) (I.ob i) ob') (hT : Turned (fun k => ρ k = some (.obj i)) W W')
    (hc : ∀ ls scr, ob' = .term ls scr → ∃ ls0 scr0, K.th[i].ob = .term ls0 scr0 ∧ scr.length = scr0.length) : PHold ρ I W (K.setOb i ob') W' := by
  obtain ⟨ρ', h4, h5, h6⟩ := h.setOb hi hk (hT.mono fun k e => Or.inl e) hO (fun k e => .inl e) (fun ls scr e => by
    obtain ⟨ls0, scr0, e0, e1⟩ := hc ls scr e
    obtain ⟨a1, a2⟩ := h.comp (.cons i) hi ls0 scr0 e0
    rw [e1]
    exact (hT.block _ (h.lt _ _ a2) (fun e' => by rw [a2] at e'; cases e')).trans a1)
  exact ⟨ρ', I, h4, rfl, fun k ⟨t, e⟩ => (h6.2 k t e).elim id (fun e => ⟨_, e⟩), hT.mono fun k e => ⟨_, e⟩⟩
/-- What is read of a thing. -/
def KS.rdx (K : KS) (x : De) (m : Int) : List UInt8 × Int × KS := match K.tho x with
  | .file b => (piece b x.pos m.toNat, 0, K.setDe { x with pos := x.pos + (piece b x.pos m.toNat).length })
  | .term ls scr => (rdH ls m, Te_rdE m, K.setOb x.th (.term (rdR ls m) scr))
  | .pipe q rd wt => (rdB m q rd wt, Kp_rdE m q.length rd wt, K.setOb x.th (.pipe (rdQ m q rd wt) rd wt))
/-- Bytes and an error are answered. -/
def PRd (ρ : Nat → Option PTag) (I : PI) (w : World) (r : List UInt8 × Int × KS) (e : Ending) (w' : World) : Prop :=
  ∃ v, e = .returned (.tuple #[v, .int .i64 r.2.1]) ∧ w'.ownsRow w.heap.size 5 1 v r.1.length (r.1.map bv) ∧ PHold ρ I w r.2.2 w'
theorem PK.pobj {W : World} {ρ : Nat → Option PTag} {I : PI} {K : KS} (h : PK W ρ I K) {x : De} (hx : x ∈ K.de) : PObj W (fun k => ρ k = some (.obj x.th)) (I.ob x.th) (K.tho x) := by
  have hi := h.ok.th x hx
  rw [KS.tho_eq hi]
  exact h.comp (.obj x.th) hi
theorem KS.tho_th {K : KS} (h : KOk K) {x : De} (hx : x ∈ K.de) : K.th[x.th]? = some (K.th[x.th]'(h.th x hx)) ∧ K.tho x = (K.th[x.th]'(h.th x hx)).ob := ⟨List.getElem?_eq_getElem _, KS.tho_eq _⟩
theorem xread_file (ρ : Nat → Option PTag) (I : PI) (K : KS) (x : De) (b : List UInt8) (m : Int) (w : World) (h : PK w ρ I K) (hx : x ∈ K.de) (ho : K.tho x = .file b) (h1 : 1 ≤ m) (h2 : m ≤ 1048576) :
    Calls Tryz.prog 238 #[.pointer (some ⟨I.xb x.n, 0, none⟩), .int .i64 m] w (PRd ρ I w (K.rdx x m)) := by
  have hO := h.pobj hx
  rw [ho] at hO
  obtain ⟨hb, ht⟩ := h.comp (.ofile x.n) x hx rfl b ho
  have hdc := h.comp (.desc x.n) x hx rfl
  have hpos := h.ok.pos x hx
  refine (of_read (I.xb x.n) (I.ob x.th) b x.pos (bit x.flags 4) m _ w hb hO hpos h1 h2).mono ?_
  rintro e w' ⟨v, rfl, hrow, hC, hT⟩
  rw [show K.rdx x m = (piece b x.pos m.toNat, 0, K.setDe { x with pos := x.pos + (piece b x.pos m.toNat).length }) by unfold KS.rdx; rw [ho]]
  have hle : x.pos + (piece b x.pos m.toNat).length ≤ 1048576 := by have := hO.1; rw [piece_len]; omega
  have hT2 : Turned (fun k => ρ k = some (.desc x.n) ∨ ρ k = some (.ofile x.n)) w w' := hT.mono fun k e => by rw [e]; exact .inr ht
  refine ⟨v, rfl, hrow, PHold.of (h.setDe hx (x' := { x with pos := x.pos + (piece b x.pos m.toNat).length }) rfl rfl rfl hle (h.ok.held x hx) hT2 ?_ ?_) rfl (hT.mono fun k e => ⟨.ofile x.n, by rw [e]; exact ht⟩)⟩
  · exact (hT.block _ (h.lt _ _ hdc.2) (fun e => by rw [e, ht] at hdc; cases hdc.2)).trans hdc.1
  · intro b' _
    exact hC
theorem xread_term (ρ : Nat → Option PTag) (I : PI) (K : KS) (x : De) (ls : List (List UInt8)) (scr : List UInt8) (m : Int) (w : World) (h : PK w ρ I K) (hx : x ∈ K.de) (ho : K.tho x = .term ls scr) :
    Calls Tryz.prog 232 #[.pointer (some ⟨I.cb x.th, 0, none⟩), .int .i64 m] w (PRd ρ I w (K.rdx x m)) := by
  have hO := h.pobj hx
  have hi := h.ok.th x hx
  have hth := KS.tho_eq (K := K) (x := x) hi
  rw [ho] at hO hth
  obtain ⟨hb, ht⟩ := h.comp (.cons x.th) hi ls scr hth.symm
  refine (co_read (I.cb x.th) (I.ob x.th) scr.length ls scr m _ w hb hO).mono ?_
  rintro e w' ⟨v, rfl, hrow, hS, hT⟩
  rw [show K.rdx x m = (rdH ls m, Te_rdE m, K.setOb x.th (.term (rdR ls m) scr)) by unfold KS.rdx; rw [ho]]
  exact ⟨v, rfl, hrow, h.objHold hi (by rw [← hth]; rfl) hS hT (fun ls' scr' e => ⟨ls, scr, hth.symm, by cases e; rfl⟩)⟩
theorem xread_pipe (ρ : Nat → Option PTag) (I : PI) (K : KS) (x : De) (q : List UInt8) (rd wt : Nat) (m : Int) (w : World) (h : PK w ρ I K) (hx : x ∈ K.de) (ho : K.tho x = .pipe q rd wt) :
    Calls Tryz.prog 257 #[.agg #[.pointer (some ⟨I.ob x.th, 0, none⟩)], .int .i64 m] w (PRd ρ I w (K.rdx x m)) := by
  have hO := h.pobj hx
  have hi := h.ok.th x hx
  have hth := KS.tho_eq (K := K) (x := x) hi
  rw [ho] at hO hth
  refine (pp_read (I.ob x.th) q rd wt m _ w hO).mono ?_
  rintro e w' ⟨v, rfl, hrow, hS, hT⟩
  rw [show K.rdx x m = (rdB m q rd wt, Kp_rdE m q.length rd wt, K.setOb x.th (.pipe (rdQ m q rd wt) rd wt)) by unfold KS.rdx; rw [ho]]
  exact ⟨v, rfl, hrow, h.objHold hi (by rw [← hth]; rfl) hS hT (fun ls' scr' e => by cases e)⟩
theorem read_is {K : KS} {d n : Int} {x : De} (hx : K.find d = some x) (h1 : fbit x.flags 1 ≠ 0) (h2 : 1 ≤ n) (h3 : n ≤ 1048576) (h4 : (K.tho x).waits = false) :
    K.read d n = if (nxt K.plan n).2 = 0 then K.readUp.rdx x (nxt K.plan n).1 else ([], (nxt K.plan n).2, K.readUp) := by
  unfold KS.read KS.rdx
  rw [hx]
  simp only
  rw [if_neg h1, if_neg (by omega), if_neg (by omega), if_neg (by rw [h4]; decide)]
  show _ = if _ then (match K.tho x with | .file b => _ | .term ls scr => _ | .pipe q rd wt => _) else _
  split
  · cases K.tho x <;> rfl
  · rfl
theorem PRd.refused {w : World} {ρ : Nat → Option PTag} {I : PI} {K : KS} {w' : World} (h : PK w ρ I K) (hB : Below w.heap.size w w') (E : Int) : PRd ρ I w ([], E, K) (.returned (.tuple #[.slice none 0 0, .int .i64 E])) w' :=
  ⟨_, rfl, World.ownsRow_nil _ _ _ _, PHold.of (h.under hB) rfl (Turned.of_below hB)⟩
end Go.Proofs.YtkkicbhmcjbmbaaGreat

/- The program's kernel: what is written to a thing. -/
namespace Go.Proofs.YtkkicbhmcjbmbaaGreat
open Go.RowKit Go.Maps

/-- What is written to a thing. -/
def KS.wrx (K : KS) (x : De) (b : List UInt8) (m : Int) : Int × Int × KS := match K.tho x with
  | .file f => ((min m.toNat (1048576 - placeOf f x.flags x.pos) : Nat), 0, (K.setOb x.th (.file (wrL f (placeOf f x.flags x.pos) (b.take (min m.toNat (1048576 - placeOf f x.flags x.pos)))))).setDe { x with pos := placeOf f x.flags x.pos + min m.toNat (1048576 - placeOf f x.flags x.pos) })
  | .term ls scr => ((min m.toNat (1048576 - scr.length) : Nat), 0, K.setOb x.th (.term ls (scr ++ b.take (min m.toNat (1048576 - scr.length)))))
  | .pipe q rd wt => ((wrN b.length m q.length rd wt : Nat), Kp_wrE b.length m q.length rd wt, K.setOb x.th (.pipe (q ++ b.take (wrN b.length m q.length rd wt)) rd wt))
/-- A number and an error are answered. -/
def PNum (ρ : Nat → Option PTag) (I : PI) (w : World) (r : Int × Int × KS) (e : Ending) (w' : World) : Prop :=
  e = .returned (.tuple #[.int .i64 r.1, .int .i64 r.2.1]) ∧ PNext ρ I w r.2.2 w'
theorem PNum.refused {w : World} {ρ : Nat → Option PTag} {I : PI} {K : KS} {w' : World} (h : PK w ρ I K) (hB : Below w.heap.size w w') (E : Int) : PNum ρ I w (0, E, K) (.returned (.tuple #[.int .i64 0, .int .i64 E])) w' :=
  ⟨rfl, PNext.of (h.under hB) rfl (Turned.of_below hB)⟩
theorem plc_place (b : List UInt8) (f : Int) (pos : Nat) : plc b (bit f 4) pos = placeOf b f pos := rfl
theorem xwrite_file (ρ : Nat → Option PTag) (I : PI) (K : KS) (x : De) (b bs : List UInt8) (m : Nat) (a1 : Option Addr) (cx : Nat) (w : World) (h : PK w ρ I K) (hx : x ∈ K.de) (ho : K.tho x = .file b)
    (hb : Bys w (.slice a1 bs.length cx) bs) (hcap : bs.length ≤ cx) (h1 : 1 ≤ m) (h2 : m ≤ bs.length) (h3 : bs.length ≤ 1048576) (hd : ∀ k, (Value.slice a1 bs.length cx).ownBlock = some k → ¬ Own ρ k) :
    Calls Tryz.prog 241 #[.pointer (some ⟨I.xb x.n, 0, none⟩), .slice a1 bs.length cx, .int .i64 m] w (PNum ρ I w (K.wrx x bs m)) := by
  have hO := h.pobj hx
  have hi := h.ok.th x hx
  have hth := KS.tho_eq (K := K) (x := x) hi
  rw [ho] at hO hth
  obtain ⟨hxb, ht⟩ := h.comp (.ofile x.n) x hx rfl b ho
  have hdc := h.comp (.desc x.n) x hx rfl
  have hpos := h.ok.pos x hx
  have hxO : ¬ ρ (I.xb x.n) = some (.obj x.th) := fun e => by rw [ht] at e; cases e
  refine (of_write (I.xb x.n) (I.ob x.th) b bs x.pos (bit x.flags 4) m a1 cx _ w hxb hO hxO hpos hb hcap h1 h2 h3 (fun k e => ⟨fun e' => hd k e ⟨_, e'⟩, fun e' => hd k e ⟨.ofile x.n, by rw [e']; exact ht⟩⟩)).mono ?_
  rintro e w' ⟨rfl, hS⟩
  rw [plc_place] at hS
  have hat : placeOf b x.flags x.pos ≤ 1048576 := by
    unfold placeOf; split
    · exact hO.1
    · exact hpos
  rw [show K.wrx x bs m = (((min m (1048576 - placeOf b x.flags x.pos) : Nat) : Int), 0, (K.setOb x.th (.file (wrL b (placeOf b x.flags x.pos) (bs.take (min m (1048576 - placeOf b x.flags x.pos)))))).setDe { x with pos := placeOf b x.flags x.pos + min m (1048576 - placeOf b x.flags x.pos) }) by unfold KS.wrx; rw [ho]; rfl]
  rw [plc_place]
  generalize placeOf b x.flags x.pos = A at *
  have hz : (bs.take (min m (1048576 - A))).length = min m (1048576 - A) := by simp; omega
  rw [hz] at hS ⊢
  have hN : A + min m (1048576 - A) ≤ 1048576 := by omega
  generalize min m (1048576 - A) = N at *
  have hT1 := (Turned.refl (fun k => k = I.xb x.n) w).set (g := I.xb x.n) (j := 1) (u := .int .i64 ((A : Int) + (N : Int))) (.inl rfl)
  have hP1 : PK (w.setCell ⟨I.xb x.n, 1, none⟩ (.int .i64 ((A : Int) + (N : Int)))) ρ I (K.setDe { x with pos := A + N }) := by
    refine h.setDe hx (x' := { x with pos := A + N }) rfl rfl rfl hN (h.ok.held x hx) (hT1.mono fun k e => by rw [e]; exact .inr ht) ?_ ?_
    · exact (hT1.block _ (h.lt _ _ hdc.2) (fun e => by rw [e, ht] at hdc; cases hdc.2)).trans hdc.1
    · intro b' _
      rw [heap_setCell_same 1 _ hxb]
      rfl
  refine ⟨rfl, PNext.after (hT1.mono fun k e => ⟨.ofile x.n, by rw [e]; exact ht⟩) rfl (hP1.objStep (ob' := .file (wrL b A (bs.take N))) hi (by show (1 : Int) = (K.th[x.th].ob).kind; rw [← hth]; rfl) hS (fun ls scr e => by cases e))⟩
theorem xwrite_term (ρ : Nat → Option PTag) (I : PI) (K : KS) (x : De) (ls : List (List UInt8)) (scr bs : List UInt8) (m : Nat) (a1 : Option Addr) (cx : Nat) (w : World) (h : PK w ρ I K) (hx : x ∈ K.de) (ho : K.tho x = .term ls scr)
    (hb : Bys w (.slice a1 bs.length cx) bs) (hcap : bs.length ≤ cx) (h1 : 1 ≤ m) (h2 : m ≤ bs.length) (h3 : bs.length ≤ 1048576) (hd : ∀ k, (Value.slice a1 bs.length cx).ownBlock = some k → ¬ Own ρ k) :
    Calls Tryz.prog 235 #[.pointer (some ⟨I.cb x.th, 0, none⟩), .slice a1 bs.length cx, .int .i64 m] w (PNum ρ I w (K.wrx x bs m)) := by
  have hO := h.pobj hx
  have hi := h.ok.th x hx
  have hth := KS.tho_eq (K := K) (x := x) hi
  rw [ho] at hO hth
  obtain ⟨hcb, ht⟩ := h.comp (.cons x.th) hi ls scr hth.symm
  have hxO : ¬ ρ (I.cb x.th) = some (.obj x.th) := fun e => by rw [ht] at e; cases e
  have hat : scr.length ≤ 1048576 := hO.ok.2.2
  refine (co_write (I.cb x.th) (I.ob x.th) ls scr bs m a1 cx _ w hcb hO hxO hb hcap h1 h2 h3 (fun k e e' => hd k e ⟨.cons x.th, by rw [e']; exact ht⟩)).mono ?_
  rintro e w' ⟨rfl, hC, ⟨O', hO1, hO2⟩, hT⟩
  rw [show K.wrx x bs m = (((min m (1048576 - scr.length) : Nat) : Int), 0, K.setOb x.th (.term ls (scr ++ bs.take (min m (1048576 - scr.length))))) by unfold KS.wrx; rw [ho]; rfl]
  have hz : (bs.take (min m (1048576 - scr.length))).length = min m (1048576 - scr.length) := by simp; omega
  rw [hz]
  obtain ⟨ρ', a1, a2, a3⟩ := h.setOb hi (ob' := .term ls (scr ++ bs.take (min m (1048576 - scr.length)))) (by rw [← hth]; rfl) (hT.mono fun k e => e.imp id (fun e => by rw [e]; exact ht)) hO1 hO2 (fun ls' scr' e => by cases e; exact hC)
  exact ⟨rfl, ρ', I, a1, rfl, a2, hT.mono fun k e => by
    rcases e with e | e
    · exact ⟨_, e⟩
    · exact ⟨.cons x.th, by rw [e]; exact ht⟩⟩
theorem xwrite_pipe (ρ : Nat → Option PTag) (I : PI) (K : KS) (x : De) (q : List UInt8) (rd wt : Nat) (bs : List UInt8) (m : Int) (a1 : Option Addr) (cx : Nat) (w : World) (h : PK w ρ I K) (hx : x ∈ K.de) (ho : K.tho x = .pipe q rd wt)
    (hb : Bys w (.slice a1 bs.length cx) bs) (hcap : bs.length ≤ cx) (h3 : bs.length ≤ 1048576) (hd : ∀ k, (Value.slice a1 bs.length cx).ownBlock = some k → ¬ Own ρ k) :
    Calls Tryz.prog 260 #[.agg #[.pointer (some ⟨I.ob x.th, 0, none⟩)], .slice a1 bs.length cx, .int .i64 m] w (PNum ρ I w (K.wrx x bs m)) := by
  have hO := h.pobj hx
  have hi := h.ok.th x hx
  have hth := KS.tho_eq (K := K) (x := x) hi
  rw [ho] at hO hth
  refine (pp_write (I.ob x.th) q bs rd wt m a1 cx _ w hO hb hcap h3 (fun k e e' => hd k e ⟨_, e'⟩)).mono ?_
  rintro e w' ⟨rfl, hS⟩
  rw [show K.wrx x bs m = (((wrN bs.length m q.length rd wt : Nat) : Int), Kp_wrE bs.length m q.length rd wt, K.setOb x.th (.pipe (q ++ bs.take (wrN bs.length m q.length rd wt)) rd wt)) by unfold KS.wrx; rw [ho]]
  exact ⟨rfl, h.objStep hi (by rw [← hth]; rfl) hS (fun ls' scr' e => by cases e)⟩
theorem write_is {K : KS} {d : Int} {b : List UInt8} {x : De} (hx : K.find d = some x) (h1 : fbit x.flags 2 ≠ 0) (h2 : 1 ≤ b.length) (h3 : b.length ≤ 1048576) (h4 : refusal (K.tho x) x.flags x.pos b.length = 0) :
    K.write d b = if (nxt K.plan b.length).2 = 0 then K.writeUp.wrx x b (nxt K.plan b.length).1 else (0, (nxt K.plan b.length).2, K.writeUp) := by
  unfold KS.write KS.wrx
  rw [hx]
  simp only
  rw [if_neg h1, if_neg (by omega), if_neg (by omega), if_pos h4]
  show _ = if _ then (match K.tho x with | .file b => _ | .term ls scr => _ | .pipe q rd wt => _) else _
  split
  · cases K.tho x <;> rfl
  · rfl
end Go.Proofs.YtkkicbhmcjbmbaaGreat

/- The program's kernel: Seek, Keep. -/
namespace Go.Proofs.YtkkicbhmcjbmbaaGreat
open Go.RowKit Go.Maps

theorem as_openFile_openFile (x : Nat) (w : World) : (Instr.typeAssert (.iface 229 (.pointer (some ⟨x, 0, none⟩))) 169 229 true).run Tryz.prog w = .ok (.tuple #[(.pointer (some ⟨x, 0, none⟩)), .bool true]) w := by kernel_rfl
theorem as_openFile_console (x : Nat) (w : World) : (Instr.typeAssert (.iface 102 (.pointer (some ⟨x, 0, none⟩))) 169 229 true).run Tryz.prog w = .ok (.tuple #[.pointer none, .bool false]) w := by kernel_rfl
theorem as_openFile_pipeEnd (x : Nat) (w : World) : (Instr.typeAssert (.iface 239 (.agg #[.pointer (some ⟨x, 0, none⟩)])) 169 229 true).run Tryz.prog w = .ok (.tuple #[.pointer none, .bool false]) w := by kernel_rfl
theorem as_pipeEnd_openFile (x : Nat) (w : World) : (Instr.typeAssert (.iface 229 (.pointer (some ⟨x, 0, none⟩))) 169 239 true).run Tryz.prog w = .ok (.tuple #[.agg #[.pointer none], .bool false]) w := by kernel_rfl
theorem as_pipeEnd_console (x : Nat) (w : World) : (Instr.typeAssert (.iface 102 (.pointer (some ⟨x, 0, none⟩))) 169 239 true).run Tryz.prog w = .ok (.tuple #[.agg #[.pointer none], .bool false]) w := by kernel_rfl
theorem as_pipeEnd_pipeEnd (x : Nat) (w : World) : (Instr.typeAssert (.iface 239 (.agg #[.pointer (some ⟨x, 0, none⟩)])) 169 239 true).run Tryz.prog w = .ok (.tuple #[(.agg #[.pointer (some ⟨x, 0, none⟩)]), .bool true]) w := by kernel_rfl
set_option maxRecDepth 100000 in
theorem fileOf_yes (x : Nat) (w : World) : Calls Tryz.prog 147 #[.iface 229 (.pointer (some ⟨x, 0, none⟩))] w fun e w' => e = .returned (.tuple #[.pointer (some ⟨x, 0, none⟩), .bool true]) ∧ w' = w := by
  have ha := as_openFile_openFile x
  go_enter Tryz.func147, Tryz.ntmps147
  go_wp2
  go_ret2
  exact ⟨rfl, rfl⟩
set_option maxRecDepth 100000 in
theorem fileOf_term (x : Nat) (w : World) : Calls Tryz.prog 147 #[.iface 102 (.pointer (some ⟨x, 0, none⟩))] w fun e w' => e = .returned (.tuple #[.pointer none, .bool false]) ∧ w' = w := by
  have ha := as_openFile_console x
  go_enter Tryz.func147, Tryz.ntmps147
  go_wp2
  go_ret2
  exact ⟨rfl, rfl⟩
set_option maxRecDepth 100000 in
theorem fileOf_pipe (x : Nat) (w : World) : Calls Tryz.prog 147 #[.iface 239 (.agg #[.pointer (some ⟨x, 0, none⟩)])] w fun e w' => e = .returned (.tuple #[.pointer none, .bool false]) ∧ w' = w := by
  have ha := as_openFile_pipeEnd x
  go_enter Tryz.func147, Tryz.ntmps147
  go_wp2
  go_ret2
  exact ⟨rfl, rfl⟩
theorem res_pipe {fn : Func} {p u : Tmp} {w : World} (h : fn.results = #[.cell p 239, .tmp u]) (tmps : Array Value) (b : Nat) (hp : tmps.getD p undef = .pointer (some ⟨b, 0, none⟩)) (v : Option Addr) (h1 : w.cell? ⟨b, 0, none⟩ = some (.pointer v)) :
    (results fn tmps).run Tryz.prog w = .ok (.tuple #[.agg #[.pointer v], tmps.getD u undef]) w := by
  have a60 := Tryz.isAgg239
  have z60 := Tryz.sizeOf239
  have u3 := Tryz.underlying237
  have a3 := Tryz.isAgg237
  have z3 := Tryz.sizeOf237
  rw [results_cell_tmp h, hp]
  simp only [loadVar]
  go_simp
theorem recv2 (w : World) (v : Value) (t t' : TypeId) (o' : Value) : ((w.alloc (Obj.cells #[v] t)).alloc (Obj.cells #[o'] t')).cell? ⟨w.heap.size, 0, none⟩ = some v := by
  have := recv_below (w.alloc (Obj.cells #[v] t)) (Obj.cells #[o'] t')
  rw [this.cell (p := ⟨w.heap.size, 0, none⟩) (size_new _ _)]
  exact recv_cell w v t
theorem recv2b (w : World) (o o' : Obj) : Below w.heap.size w ((w.alloc o).alloc o') := (recv_below w o).trans ((recv_below _ o').mono (Nat.le_of_lt (size_new _ _)))
set_option maxRecDepth 100000 in
theorem pipeOf_file (x : Nat) (w : World) : Calls Tryz.prog 150 #[.iface 229 (.pointer (some ⟨x, 0, none⟩))] w fun e w' => e = .returned (.tuple #[.agg #[.pointer none], .bool false]) ∧ Below w.heap.size w w' := by
  have ha := as_pipeEnd_openFile x
  go_enter Tryz.func150, Tryz.ntmps150
  go_wp2
  refine bodyPost_ret (res_pipe rfl _ w.heap.size rfl none (recv2 _ _ _ _ _)) rfl ?_
  exact ⟨rfl, recv2b _ _ _⟩
set_option maxRecDepth 100000 in
theorem pipeOf_term (x : Nat) (w : World) : Calls Tryz.prog 150 #[.iface 102 (.pointer (some ⟨x, 0, none⟩))] w fun e w' => e = .returned (.tuple #[.agg #[.pointer none], .bool false]) ∧ Below w.heap.size w w' := by
  have ha := as_pipeEnd_console x
  go_enter Tryz.func150, Tryz.ntmps150
  go_wp2
  refine bodyPost_ret (res_pipe rfl _ w.heap.size rfl none (recv2 _ _ _ _ _)) rfl ?_
  exact ⟨rfl, recv2b _ _ _⟩
set_option maxRecDepth 100000 in
theorem pipeOf_yes (x : Nat) (w : World) : Calls Tryz.prog 150 #[.iface 239 (.agg #[.pointer (some ⟨x, 0, none⟩)])] w fun e w' => e = .returned (.tuple #[(.agg #[.pointer (some ⟨x, 0, none⟩)]), .bool true]) ∧ Below w.heap.size w w' := by
  have ha := as_pipeEnd_pipeEnd x
  go_enter Tryz.func150, Tryz.ntmps150
  go_wp2
  refine bodyPost_ret (res_pipe rfl _ w.heap.size rfl (some ⟨x, 0, none⟩) (recv2 _ _ _ _ _)) rfl ?_
  exact ⟨rfl, recv2b _ _ _⟩
theorem PK.seekTo {W : World} {ρ : Nat → Option PTag} {I : PI} {K : KS} (h : PK W ρ I K) {x : De} (hx : x ∈ K.de) {b : List UInt8} (ho : K.tho x = .file b) (p : Nat) (hp : p ≤ 1048576) (v : Int) (hv : v = (p : Int)) :
    PNext ρ I W (K.setDe { x with pos := p }) (W.setCell ⟨I.xb x.n, 1, none⟩ (.int .i64 v)) := by
  subst hv
  obtain ⟨hxb, ht⟩ := h.comp (.ofile x.n) x hx rfl b ho
  have hdc := h.comp (.desc x.n) x hx rfl
  have hT1 := (Turned.refl (fun k => k = I.xb x.n) W).set (g := I.xb x.n) (j := 1) (u := .int .i64 (p : Int)) (.inl rfl)
  refine PNext.of (h.setDe hx (x' := { x with pos := p }) rfl rfl rfl hp (h.ok.held x hx) (hT1.mono fun k e => by rw [e]; exact .inr ht) ?_ ?_) rfl (hT1.mono fun k e => ⟨.ofile x.n, by rw [e]; exact ht⟩)
  · exact (hT1.block _ (h.lt _ _ hdc.2) (fun e => by rw [e, ht] at hdc; cases hdc.2)).trans hdc.1
  · intro b' _
    rw [heap_setCell_same 1 _ hxb]
    rfl
set_option maxRecDepth 100000 in
set_option maxHeartbeats 4000000 in
theorem kseek_any (ρ : Nat → Option PTag) (I : PI) (K : KS) (d off wh : Int) (w : World) (h : PK w ρ I K) (hd : I64 d) (hoff : I64 off) :
    Calls Tryz.prog 58 #[.pointer (some ⟨I.kb, 0, none⟩), .int .i64 d, .int .i64 off, .int .i64 wh] w (PNum ρ I w (K.seek d off wh)) := by
  have HF := hide (described_any ρ I K d w h hd)
  have HX := hide fun E => PNum.refused h (Below.refl _ w) E
  cases hx : K.find d with
  | none =>
    rw [hx] at HF
    rw [show K.seek d off wh = (0, 64, K) by unfold KS.seek; rw [hx]]
    clear h
    go_enter Tryz.func58, Tryz.ntmps58
    go_wp2_with fail
    refine HF.out.mono ?_
    rintro e w1 ⟨rfl, rfl⟩
    unfold descV
    go_wp2
    go_ret2
    exact HX.out 64
  | some x =>
    rw [hx] at HF
    have hm := (KS.find_some hx).1
    have c0 := (h.desc hm).thing
    have hpos := h.ok.pos x hm
    have HO := hide (h.pobj hm)
    cases ho : K.tho x with
    | term ls scr =>
      rw [show K.seek d off wh = (0, 66, K) by unfold KS.seek; rw [hx]; simp only; rw [ho]]
      rw [thing_term ho] at c0
      clear h
      go_enter Tryz.func58, Tryz.ntmps58
      go_wp2_with fail
      refine HF.out.mono ?_
      rintro e w1 ⟨rfl, rfl⟩
      unfold descV
      go_wp2_with fail
      refine (fileOf_term (I.cb x.th) _).mono ?_
      rintro e w2 ⟨rfl, rfl⟩
      go_wp2
      go_ret2
      exact HX.out 66
    | pipe q rd wt =>
      rw [show K.seek d off wh = (0, 66, K) by unfold KS.seek; rw [hx]; simp only; rw [ho]]
      rw [thing_pipe ho] at c0
      clear h
      go_enter Tryz.func58, Tryz.ntmps58
      go_wp2_with fail
      refine HF.out.mono ?_
      rintro e w1 ⟨rfl, rfl⟩
      unfold descV
      go_wp2_with fail
      refine (fileOf_pipe (I.ob x.th) _).mono ?_
      rintro e w2 ⟨rfl, rfl⟩
      go_wp2
      go_ret2
      exact HX.out 66
    | file b =>
      rw [thing_file ho] at c0
      rw [ho] at HO
      have hbl := HO.out.1
      obtain ⟨c1, c2, c3, c4⟩ := OFc.cells (h.comp (.ofile x.n) x hm rfl b ho).1
      have HSz := hide (po_fsize _ (I.ob x.th) b w HO.out)
      have HT := hide fun p hp v hv => h.seekTo hm ho p hp v hv
      have hR : ∀ base : Int, base = (if wh = 1 then (x.pos : Int) else if wh = 2 then (b.length : Int) else 0) → 0 ≤ wh → wh ≤ 2 → K.seek d off wh = if 0 ≤ base + off ∧ base + off ≤ 1048576 then (base + off, 0, K.setDe { x with pos := (base + off).toNat }) else (0, 4, K) := by
        intro base hb h1 h2
        subst hb
        unfold KS.seek
        rw [hx]
        simp only
        rw [ho]
        simp only
        rw [if_neg (by omega)]
      by_cases hw : wh < 0 ∨ 2 < wh
      · rw [show K.seek d off wh = (0, 1, K) by unfold KS.seek; rw [hx]; simp only; rw [ho]; simp only; rw [if_pos hw]]
        have q0 : ¬ wh = 0 := by omega
        have q1 : ¬ wh = 1 := by omega
        have q2 : ¬ wh = 2 := by omega
        have r0 : (wh == 0) = false := by simpa using q0
        have r1 : (wh == 1) = false := by simpa using q1
        have r2 : (wh == 2) = false := by simpa using q2
        have s0 : ((0 : Int) == wh) = false := by simp; omega
        have s1 : ((1 : Int) == wh) = false := by simp; omega
        have s2 : ((2 : Int) == wh) = false := by simp; omega
        clear h hR HT
        go_enter Tryz.func58, Tryz.ntmps58
        go_wp2_with fail
        refine HF.out.mono ?_
        rintro e w1 ⟨rfl, rfl⟩
        unfold descV
        go_wp2_with fail
        refine (fileOf_yes (I.xb x.n) _).mono ?_
        rintro e w2 ⟨rfl, rfl⟩
        go_wp2
        go_ret2
        exact HX.out 1
      · obtain ⟨o1, o2⟩ := hoff
        rcases (show wh = 0 ∨ wh = 1 ∨ wh = 2 by omega) with rfl | rfl | rfl
        · have hK := hR (0 : Int) (by simp) (by omega) (by omega)
          by_cases hin : 0 ≤ (0 : Int) + off ∧ (0 : Int) + off ≤ 1048576
          · rw [if_pos hin] at hK
            rw [hK]
            have HD := hide (HT.out ((0 : Int) + off).toNat (by omega) (off) (by omega))
            have t1 : ¬ off < -(0 : Int) := by omega
            have t2 : ¬ 1048576 - (0 : Int) < off := by omega
            have HI := hide hin
            clear h hR HT hK hin
            go_enter Tryz.func58, Tryz.ntmps58
            go_wp2_with fail
            refine HF.out.mono ?_
            rintro e w1 ⟨rfl, rfl⟩
            unfold descV
            go_wp2_with fail
            refine (fileOf_yes (I.xb x.n) _).mono ?_
            rintro e w2 ⟨rfl, rfl⟩
            go_wp2
            go_ret2
            refine ⟨?_, HD.out⟩
            first | rfl | (simp only [Int.zero_add]; rfl)
          · rw [if_neg hin] at hK
            rw [hK]
            clear h hR HT hK
            by_cases t1 : off < -(0 : Int)
            · go_enter Tryz.func58, Tryz.ntmps58
              go_wp2_with fail
              refine HF.out.mono ?_
              rintro e w1 ⟨rfl, rfl⟩
              unfold descV
              go_wp2_with fail
              refine (fileOf_yes (I.xb x.n) _).mono ?_
              rintro e w2 ⟨rfl, rfl⟩
              go_wp2
              go_ret2
              exact HX.out 4
            · have t2 : 1048576 - (0 : Int) < off := by omega
              go_enter Tryz.func58, Tryz.ntmps58
              go_wp2_with fail
              refine HF.out.mono ?_
              rintro e w1 ⟨rfl, rfl⟩
              unfold descV
              go_wp2_with fail
              refine (fileOf_yes (I.xb x.n) _).mono ?_
              rintro e w2 ⟨rfl, rfl⟩
              go_wp2
              go_ret2
              exact HX.out 4
        · have hK := hR (x.pos : Int) (by simp) (by omega) (by omega)
          by_cases hin : 0 ≤ (x.pos : Int) + off ∧ (x.pos : Int) + off ≤ 1048576
          · rw [if_pos hin] at hK
            rw [hK]
            have HD := hide (HT.out ((x.pos : Int) + off).toNat (by omega) ((x.pos : Int) + off) (by omega))
            have t1 : ¬ off < -(x.pos : Int) := by omega
            have t2 : ¬ 1048576 - (x.pos : Int) < off := by omega
            have HI := hide hin
            clear h hR HT hK hin
            go_enter Tryz.func58, Tryz.ntmps58
            go_wp2_with fail
            refine HF.out.mono ?_
            rintro e w1 ⟨rfl, rfl⟩
            unfold descV
            go_wp2_with fail
            refine (fileOf_yes (I.xb x.n) _).mono ?_
            rintro e w2 ⟨rfl, rfl⟩
            go_wp2
            go_ret2
            refine ⟨?_, HD.out⟩
            first | rfl | (simp only [Int.zero_add]; rfl)
          · rw [if_neg hin] at hK
            rw [hK]
            clear h hR HT hK
            by_cases t1 : off < -(x.pos : Int)
            · go_enter Tryz.func58, Tryz.ntmps58
              go_wp2_with fail
              refine HF.out.mono ?_
              rintro e w1 ⟨rfl, rfl⟩
              unfold descV
              go_wp2_with fail
              refine (fileOf_yes (I.xb x.n) _).mono ?_
              rintro e w2 ⟨rfl, rfl⟩
              go_wp2
              go_ret2
              exact HX.out 4
            · have t2 : 1048576 - (x.pos : Int) < off := by omega
              go_enter Tryz.func58, Tryz.ntmps58
              go_wp2_with fail
              refine HF.out.mono ?_
              rintro e w1 ⟨rfl, rfl⟩
              unfold descV
              go_wp2_with fail
              refine (fileOf_yes (I.xb x.n) _).mono ?_
              rintro e w2 ⟨rfl, rfl⟩
              go_wp2
              go_ret2
              exact HX.out 4
        · have hK := hR (b.length : Int) (by simp) (by omega) (by omega)
          by_cases hin : 0 ≤ (b.length : Int) + off ∧ (b.length : Int) + off ≤ 1048576
          · rw [if_pos hin] at hK
            rw [hK]
            have HD := hide (HT.out ((b.length : Int) + off).toNat (by omega) ((b.length : Int) + off) (by omega))
            have t1 : ¬ off < -(b.length : Int) := by omega
            have t2 : ¬ 1048576 - (b.length : Int) < off := by omega
            have HI := hide hin
            clear h hR HT hK hin
            go_enter Tryz.func58, Tryz.ntmps58
            go_wp2_with fail
            refine HF.out.mono ?_
            rintro e w1 ⟨rfl, rfl⟩
            unfold descV
            go_wp2_with fail
            refine (fileOf_yes (I.xb x.n) _).mono ?_
            rintro e w2 ⟨rfl, rfl⟩
            go_wp2_with fail
            refine HSz.out.mono ?_
            rintro e w3 ⟨rfl, rfl⟩
            go_wp2
            go_ret2
            refine ⟨?_, HD.out⟩
            first | rfl | (simp only [Int.zero_add]; rfl)
          · rw [if_neg hin] at hK
            rw [hK]
            clear h hR HT hK
            by_cases t1 : off < -(b.length : Int)
            · go_enter Tryz.func58, Tryz.ntmps58
              go_wp2_with fail
              refine HF.out.mono ?_
              rintro e w1 ⟨rfl, rfl⟩
              unfold descV
              go_wp2_with fail
              refine (fileOf_yes (I.xb x.n) _).mono ?_
              rintro e w2 ⟨rfl, rfl⟩
              go_wp2_with fail
              refine HSz.out.mono ?_
              rintro e w3 ⟨rfl, rfl⟩
              go_wp2
              go_ret2
              exact HX.out 4
            · have t2 : 1048576 - (b.length : Int) < off := by omega
              go_enter Tryz.func58, Tryz.ntmps58
              go_wp2_with fail
              refine HF.out.mono ?_
              rintro e w1 ⟨rfl, rfl⟩
              unfold descV
              go_wp2_with fail
              refine (fileOf_yes (I.xb x.n) _).mono ?_
              rintro e w2 ⟨rfl, rfl⟩
              go_wp2_with fail
              refine HSz.out.mono ?_
              rintro e w3 ⟨rfl, rfl⟩
              go_wp2
              go_ret2
              exact HX.out 4
end Go.Proofs.YtkkicbhmcjbmbaaGreat

/- The program's kernel: Keep, Drop. -/
namespace Go.Proofs.YtkkicbhmcjbmbaaGreat
open Go.RowKit Go.Maps

/-- An error is answered. -/
def PErr (ρ : Nat → Option PTag) (I : PI) (w : World) (r : Int × KS) (e : Ending) (w' : World) : Prop :=
  e = .returned (.int .i64 r.1) ∧ PNext ρ I w r.2 w'
theorem PErr.refused {w : World} {ρ : Nat → Option PTag} {I : PI} {K : KS} {w' : World} (h : PK w ρ I K) (hB : Below w.heap.size w w') (E : Int) : PErr ρ I w (E, K) (.returned (.int .i64 E)) w' :=
  ⟨rfl, PNext.of (h.under hB) rfl (Turned.of_below hB)⟩
theorem PK.holdTo {W : World} {ρ : Nat → Option PTag} {I : PI} {K : KS} (h : PK W ρ I K) {x : De} (hx : x ∈ K.de) (n : Nat) (h1 : 1 ≤ n) (h2 : n ≤ 1024) (v : Int) (hv : v = (n : Int)) :
    PNext ρ I W (K.setDe { x with held := n }) (W.setCell ⟨I.db x.n, 3, none⟩ (.int .i64 v)) := by
  subst hv
  obtain ⟨hb, ht⟩ := h.comp (.desc x.n) x hx rfl
  have hT1 := (Turned.refl (fun k => k = I.db x.n) W).set (g := I.db x.n) (j := 3) (u := .int .i64 (n : Int)) (.inl rfl)
  refine PNext.of (h.setDe hx (x' := { x with held := n }) rfl rfl rfl (h.ok.pos x hx) ⟨h1, h2⟩ (hT1.mono fun k e => by rw [e]; exact .inl ht) ?_ ?_) rfl (hT1.mono fun k e => ⟨.desc x.n, by rw [e]; exact ht⟩)
  · rw [heap_setCell_same 3 _ hb]
    rfl
  · intro b' hb'
    obtain ⟨a1, a2⟩ := h.comp (.ofile x.n) x hx rfl b' hb'
    exact (hT1.block _ (h.lt _ _ a2) (fun e => by rw [e, ht] at a2; cases a2)).trans a1
set_option maxRecDepth 100000 in
set_option maxHeartbeats 2000000 in
theorem kkeep_any (ρ : Nat → Option PTag) (I : PI) (K : KS) (d : Int) (w : World) (h : PK w ρ I K) (hd : I64 d) :
    Calls Tryz.prog 60 #[.pointer (some ⟨I.kb, 0, none⟩), .int .i64 d] w (PErr ρ I w (K.keepE d, K.keepK d)) := by
  have HF := hide (described_any ρ I K d w h hd)
  have HX := hide fun E => PErr.refused h (Below.refl _ w) E
  cases hx : K.find d with
  | none =>
    rw [hx] at HF
    rw [show K.keepE d = 64 by unfold KS.keepE; rw [hx], show K.keepK d = K by unfold KS.keepK; rw [hx]]
    clear h
    go_enter Tryz.func60, Tryz.ntmps60
    go_wp2_with fail
    refine HF.out.mono ?_
    rintro e w1 ⟨rfl, rfl⟩
    unfold descV
    go_wp2
    go_ret
    exact HX.out 64
  | some x =>
    rw [hx] at HF
    have hm := (KS.find_some hx).1
    have c3 := (h.desc hm).held
    have c3s : w.frozen? ⟨I.db x.n, 3, none⟩ = false := frozen_of_row w (I.db x.n) 3 _ _ (h.comp (.desc x.n) x hm rfl).1
    have hh := h.ok.held x hm
    by_cases hc : 1024 ≤ x.held
    · rw [show K.keepE d = 3 by unfold KS.keepE; rw [hx]; simp only; rw [if_pos hc], show K.keepK d = K by unfold KS.keepK; rw [hx]; simp only; rw [if_pos hc]]
      have h1 : x.held = 1024 := by omega
      rw [h1] at c3
      clear h
      go_enter Tryz.func60, Tryz.ntmps60
      go_wp2_with fail
      refine HF.out.mono ?_
      rintro e w1 ⟨rfl, rfl⟩
      unfold descV
      go_wp2
      go_ret
      exact HX.out 3
    · rw [show K.keepE d = 0 by unfold KS.keepE; rw [hx]; simp only; rw [if_neg hc], show K.keepK d = K.setDe { x with held := x.held + 1 } by unfold KS.keepK; rw [hx]; simp only; rw [if_neg hc]]
      have h1 : ¬ (x.held : Int) = 1024 := by omega
      have h2 : ((x.held : Int) == 1024) = false := by simpa using h1
      have HD := hide (h.holdTo hm (x.held + 1) (by omega) (by omega) ((x.held : Int) + 1) (by omega))
      clear h HX
      go_enter Tryz.func60, Tryz.ntmps60
      go_wp2_with fail
      refine HF.out.mono ?_
      rintro e w1 ⟨rfl, rfl⟩
      unfold descV
      go_wp2
      go_ret
      exact ⟨rfl, HD.out⟩
theorem perm_lose {x : De} : ∀ {l : List De}, l.Pairwise (fun a b => a.n ≠ b.n) → x ∈ l → l.Perm (x :: l.filter fun y => decide (y.n ≠ x.n))
  | [], _, h => by simp at h
  | a :: r, hp, h => by
    obtain ⟨h1, h2⟩ := List.pairwise_cons.1 hp
    by_cases e : a = x
    · subst e
      have : r.filter (fun y => decide (y.n ≠ a.n)) = r := List.filter_eq_self.2 fun y hy => by simpa using Ne.symm (h1 y hy)
      rw [List.filter_cons_of_neg (by simp), this]
    · have hx : x ∈ r := by simpa [Ne.symm e] using h
      rw [List.filter_cons_of_pos (by simpa using h1 x hx)]
      exact ((perm_lose h2 hx).cons a).trans (List.Perm.swap x a _)
theorem PK.apart {W : World} {ρ : Nat → Option PTag} {I : PI} {K : KS} (h : PK W ρ I K) : K.de.Pairwise fun a b => a.n ≠ b.n := by
  have := (h.comp .omap).1.nodup
  unfold KS.dl at this
  rw [List.pairwise_map] at this
  exact this.imp fun {a b} hab e => hab (by rw [e])
theorem PK.lose {W W' : World} {ρ : Nat → Option PTag} {I : PI} {K : KS} (h : PK W ρ I K) {x : De} (hm : PMap W' Tryz.prog 3 I.om ((K.lose x.n).dl I)) (hT : Turned (fun k => ρ k = some (.desc x.n) ∨ ρ k = some .omap) W W') : PK W' ρ I (K.lose x.n) := by
  have key : ∀ t, t ≠ .desc x.n → t ≠ .omap → PComp W' ρ I K t := fun t h1 h2 => (h.comp t).keep (fun k e hlt => hT.block k hlt (fun e' => by
    rcases e' with e' | e'
    · rw [e'] at e; exact h1 (Option.some.inj e).symm
    · rw [e'] at e; exact h2 (Option.some.inj e).symm)) hT.size
  have sub : ∀ d, d ∈ (K.lose x.n).de → d ∈ K.de ∧ d.n ≠ x.n := fun d hd => by
    have := List.mem_filter.1 hd
    exact ⟨this.1, by simpa using this.2⟩
  refine ⟨fun t => ?_, fun k t e => Nat.lt_of_lt_of_le (h.lt k t e) hT.size, ⟨Nat.le_trans (List.length_filter_le _ _) h.ok.few, h.ok.named, fun d hd => h.ok.th d (sub d hd).1, h.ok.nm, fun d hd => h.ok.num d (sub d hd).1, fun d hd d' hd' => h.ok.once d (sub d hd).1 d' (sub d' hd').1, fun d hd => h.ok.flags d (sub d hd).1, fun d hd => h.ok.pos d (sub d hd).1, fun d hd => h.ok.held d (sub d hd).1, h.ok.plan⟩, h.nm.same rfl rfl⟩
  cases t with
  | kern => exact key .kern (by simp) (by simp)
  | fmap => exact key .fmap (by simp) (by simp)
  | tmap => exact key .tmap (by simp) (by simp)
  | omap => exact ⟨hm, (h.comp .omap).2⟩
  | plan => exact key .plan (by simp) (by simp)
  | obj i => exact key (.obj i) (by simp) (by simp)
  | cons i => exact key (.cons i) (by simp) (by simp)
  | desc n =>
    intro d hd e
    subst e
    exact key (.desc d.n) (by simpa using (sub d hd).2) (by simp) d (sub d hd).1 rfl
  | ofile n => exact fun d hd e b hb => key (.ofile n) (by simp) (by simp) d (sub d hd).1 e b hb
/-- delete, of a description, in a world whose map is as it was. -/
theorem lose_run {W W1 : World} {ρ : Nat → Option PTag} {I : PI} {K : KS} (h : PK W ρ I K) {x : De} (hx : x ∈ K.de) (d : Int) (hd : I64 d) (hn : (x.n : Int) = d) (hW : W1.heap[I.om]? = W.heap[I.om]?) (hT : Turned (fun k => ρ k = some (.desc x.n) ∨ ρ k = some .omap) W W1) (ty : TypeId) :
    ∃ w', (Builtin.delete_ #[88, 3] ty #[.map (some I.om), .int .i64 d]).run Tryz.prog W1 = .ok (.tuple #[]) w' ∧ Hid (PNext ρ I W (K.lose x.n) w') := by
  have hpm : (K.dl I).Perm ((dkey x.n, I.db x.n) :: (K.lose x.n).dl I) := (perm_lose h.apart hx).map fun d : De => (dkey d.n, I.db d.n)
  have hm := ((h.comp .omap).1.perm hpm).keep hW
  obtain ⟨w', h1, h2, h3⟩ := PMap.drop (kl := dkey x.n) hm ikeyed Tryz.underlying88 (key := .int .i64 d) (by rw [dkey, hn]; exact int_key d hd.wf) ty
  refine ⟨w', h1, hide ?_⟩
  have hT2 : Turned (fun k => ρ k = some (.desc x.n) ∨ ρ k = some .omap) W w' := hT.trans (mapTurned_turned h3) (fun k _ e => by rw [e]; exact .inr (h.comp .omap).2)
  exact PNext.of (h.lose h2 hT2) rfl (hT2.mono fun k e => by
    rcases e with e | e
    · exact ⟨_, e⟩
    · exact ⟨_, e⟩)
end Go.Proofs.YtkkicbhmcjbmbaaGreat

/- The program's kernel: Drop, CanRead, CanWrite. -/
namespace Go.Proofs.YtkkicbhmcjbmbaaGreat
open Go.RowKit Go.Maps

/-- A world with another block in its place. -/
def putBlock (w : World) (b : Nat) (o : Obj) : World := { w with heap := w.heap.setIfInBounds b o }
/-- A world with a description's cell as it was. -/
theorem restored {W W1 W2 : World} {O : Nat → Prop} {g : Nat} {p : Nat} {ob : Ob} (hg : g < W.heap.size) (hO : ¬ O g) (hT : Turned (fun k => k = g) W W1) (hS : PStep W1 O p ob W2) : ∃ V, PStep W O p ob V ∧ Turned (fun k => k = g) V W2 ∧ V.heap.size = W2.heap.size ∧ ∀ k, k ≠ g → V.heap[k]? = W2.heap[k]? := by
  obtain ⟨O', h1, h2, h3⟩ := hS
  have hO' : ∀ k, O' k → k ≠ g := fun k e e' => by
    subst e'
    rcases h2 k e with h | h
    · exact hO h
    · have := hT.size; omega
  have hs2 : g < W2.heap.size := Nat.lt_of_lt_of_le hg (Nat.le_trans hT.size h3.size)
  obtain ⟨o, ho⟩ : ∃ o, W.heap[g]? = some o := ⟨W.heap[g], Array.getElem?_eq_getElem hg⟩
  have hV : ∀ k, k ≠ g → (putBlock W2 g o).heap[k]? = W2.heap[k]? := fun k hk => by
    unfold putBlock
    simp [Ne.symm hk]
  have hVg : (putBlock W2 g o).heap[g]? = some o := by
    unfold putBlock
    simp [hs2]
  have hVs : (putBlock W2 g o).heap.size = W2.heap.size := by unfold putBlock; simp
  refine ⟨putBlock W2 g o, ⟨O', h1.keep (fun k e _ => hV k (hO' k e)) (by rw [hVs]; exact Nat.le_refl _), fun k e => (h2 k e).imp id (fun e => Nat.le_trans hT.size e), ?_⟩, ?_, hVs, hV⟩
  · refine ⟨h3.os.trans hT.os, h3.tape.trans hT.tape, h3.output.trans hT.output, by rw [hVs]; exact Nat.le_trans hT.size h3.size, fun k hk hn => ?_⟩
    by_cases e : k = g
    · subst e; rw [hVg, ho]
    · rw [hV k e, h3.block k (Nat.lt_of_lt_of_le hk hT.size) hn, hT.block k hk e]
  · exact ⟨rfl, rfl, rfl, by rw [hVs]; exact Nat.le_refl _, fun k _ hn => (hV k hn).symm⟩
theorem PNext.join {w w1 w2 : World} {ρ ρ' : Nat → Option PTag} {I I' : PI} {K2 : KS} (hn : newTags ρ ρ' w) (hT : Turned (Own ρ) w w1) (hk : I'.kb = I.kb) (h : PNext ρ' I' w1 K2 w2) : PNext ρ I w K2 w2 := by
  obtain ⟨ρ2, I2, b1, b2, b3, b4⟩ := h
  refine ⟨ρ2, I2, b1, b2.trans hk, fun k t e => ?_, hT.trans b4 (fun k hk ⟨t, e⟩ => ?_)⟩
  · rcases b3 k t e with ⟨t', e'⟩ | e'
    · exact hn k t' e'
    · exact .inr (Nat.le_trans hT.size e')
  · rcases hn k t e with h | h
    · exact h
    · omega
set_option maxRecDepth 100000 in
set_option maxHeartbeats 2000000 in
theorem kdrop_any (ρ : Nat → Option PTag) (I : PI) (K : KS) (d : Int) (w : World) (h : PK w ρ I K) (hd : I64 d) :
    Calls Tryz.prog 62 #[.pointer (some ⟨I.kb, 0, none⟩), .int .i64 d] w (PErr ρ I w (K.dropE d, K.dropK d)) := by
  have HF := hide (described_any ρ I K d w h hd)
  have HX := hide fun E => PErr.refused h (Below.refl _ w) E
  cases hx : K.find d with
  | none =>
    rw [hx] at HF
    rw [show K.dropE d = 64 by unfold KS.dropE; rw [hx], show K.dropK d = K by unfold KS.dropK; rw [hx]]
    clear h
    go_enter Tryz.func62, Tryz.ntmps62
    go_wp2_with fail
    refine HF.out.mono ?_
    rintro e w1 ⟨rfl, rfl⟩
    unfold descV
    go_wp2
    go_ret
    exact HX.out 64
  | some x =>
    rw [hx] at HF
    have hm := (KS.find_some hx).1
    have hnd := (KS.find_some hx).2
    have c0 := (h.desc hm).thing
    have c2 := (h.desc hm).writes
    have c3 := (h.desc hm).held
    obtain ⟨hb, ht⟩ := h.comp (.desc x.n) x hm rfl
    have c3s : w.frozen? ⟨I.db x.n, 3, none⟩ = false := frozen_of_row w (I.db x.n) 3 _ _ hb
    have hh := h.ok.held x hm
    rw [show K.dropE d = 0 by unfold KS.dropE; rw [hx]]
    by_cases hc : 1 < x.held
    · rw [show K.dropK d = K.setDe { x with held := x.held - 1 } by unfold KS.dropK; rw [hx]; simp only; rw [if_pos hc]]
      have HD := hide (h.holdTo hm (x.held - 1) (by omega) (by omega) ((x.held : Int) - 1) (by omega))
      have h1 : 0 < (x.held : Int) - 1 := by omega
      clear h HX hb
      go_enter Tryz.func62, Tryz.ntmps62
      go_wp2_with fail
      refine HF.out.mono ?_
      rintro e w1 ⟨rfl, rfl⟩
      unfold descV
      go_wp2
      go_ret
      exact ⟨rfl, HD.out⟩
    · have h1 : x.held = 1 := by omega
      rw [h1] at c3
      have hT1 := (Turned.refl (fun k => k = I.db x.n) w).set (g := I.db x.n) (j := 3) (u := .int .i64 (0 : Int)) (.inl rfl)
      have hlt : I.db x.n < w.heap.size := h.lt _ _ ht
      have hne : ∀ k t, ρ k = some t → t ≠ .desc x.n → k ≠ I.db x.n := fun k t e e' e2 => by rw [e2, ht] at e; exact e' (Option.some.inj e).symm
      have k3 : (w.setCell ⟨I.db x.n, 3, none⟩ (.int .i64 (0 : Int))).cell? ⟨I.kb, 3, none⟩ = some (.map (some I.om)) := hT1.cell h.cells.opens (hne _ _ (h.comp .kern).2.1 (by simp))
      have k0 : (w.setCell ⟨I.db x.n, 3, none⟩ (.int .i64 (0 : Int))).cell? ⟨I.db x.n, 0, none⟩ = some (thingV I K x) := by
        rw [World.cell?_setCell_other]
        · exact c0
        · simp
      have k2 : (w.setCell ⟨I.db x.n, 3, none⟩ (.int .i64 (0 : Int))).cell? ⟨I.db x.n, 2, none⟩ = some (.bool (bit x.flags 2)) := by
        rw [World.cell?_setCell_other]
        · exact c2
        · simp
      have HK := hide h
      have HT1 := hide hT1
      cases ho : K.tho x with
      | file b =>
        rw [show K.dropK d = K.lose x.n by unfold KS.dropK; rw [hx]; simp only; rw [if_neg hc, ho]]
        rw [thing_file ho] at k0
        clear h hb HX hT1
        go_enter Tryz.func62, Tryz.ntmps62
        go_wp2_with fail
        refine HF.out.mono ?_
        rintro e w1 ⟨rfl, rfl⟩
        unfold descV
        go_wp2_with fail
        generalize w1.setCell ⟨I.db x.n, 3, none⟩ (.int .i64 (0 : Int)) = w2 at *
        refine (pipeOf_file (I.xb x.n) _).mono ?_
        rintro e w3' ⟨rfl, hB'⟩
        have hB : Below w2.heap.size w2 (w3'.alloc (Obj.cells #[.pointer none] 239)) := hB'.trans ((recv_below _ _).mono hB'.size)
        have k3' := (hB.cell (p := ⟨I.kb, 3, none⟩) (World.block_lt_of_cell? w2 _ k3)).trans k3
        have hT3 : Turned (fun k => k = I.db x.n) w1 (w3'.alloc (Obj.cells #[.pointer none] 239)) := HT1.out.trans (Turned.of_below hB) (fun _ _ e => e)
        obtain ⟨w4, hr4, HN4⟩ := lose_run HK.out hm d hd hnd (hT3.block _ (HK.out.lt _ _ (HK.out.comp .omap).2) (hne _ _ (HK.out.comp .omap).2 (by simp))) (hT3.mono fun k e => by rw [e]; exact .inl ht) 0
        go_wp2
        go_ret
        exact ⟨rfl, HN4.out⟩
      | term ls scr =>
        rw [show K.dropK d = K.lose x.n by unfold KS.dropK; rw [hx]; simp only; rw [if_neg hc, ho]]
        rw [thing_term ho] at k0
        clear h hb HX hT1
        go_enter Tryz.func62, Tryz.ntmps62
        go_wp2_with fail
        refine HF.out.mono ?_
        rintro e w1 ⟨rfl, rfl⟩
        unfold descV
        go_wp2_with fail
        generalize w1.setCell ⟨I.db x.n, 3, none⟩ (.int .i64 (0 : Int)) = w2 at *
        refine (pipeOf_term (I.cb x.th) _).mono ?_
        rintro e w3' ⟨rfl, hB'⟩
        have hB : Below w2.heap.size w2 (w3'.alloc (Obj.cells #[.pointer none] 239)) := hB'.trans ((recv_below _ _).mono hB'.size)
        have k3' := (hB.cell (p := ⟨I.kb, 3, none⟩) (World.block_lt_of_cell? w2 _ k3)).trans k3
        have hT3 : Turned (fun k => k = I.db x.n) w1 (w3'.alloc (Obj.cells #[.pointer none] 239)) := HT1.out.trans (Turned.of_below hB) (fun _ _ e => e)
        obtain ⟨w4, hr4, HN4⟩ := lose_run HK.out hm d hd hnd (hT3.block _ (HK.out.lt _ _ (HK.out.comp .omap).2) (hne _ _ (HK.out.comp .omap).2 (by simp))) (hT3.mono fun k e => by rw [e]; exact .inl ht) 0
        go_wp2
        go_ret
        exact ⟨rfl, HN4.out⟩
      | pipe q rd wt =>
        rw [show K.dropK d = (K.setOb x.th (.pipe q (leaveR (bit x.flags 2) rd wt) (leaveW (bit x.flags 2) rd wt))).lose x.n by unfold KS.dropK; rw [hx]; simp only; rw [if_neg hc, ho]]
        rw [thing_pipe ho] at k0
        have hO := h.pobj hm
        have hi := h.ok.th x hm
        have hth := KS.tho_eq (K := K) (x := x) hi
        rw [ho] at hO hth
        have hOg : ¬ ρ (I.db x.n) = some (.obj x.th) := fun e => by rw [ht] at e; cases e
        have HL := hide fun W (hB : Turned (fun k => k = I.db x.n) w W) => po_pleave (fun k => ρ k = some (.obj x.th)) (I.ob x.th) q rd wt (bit x.flags 2) W (hO.keep (fun k e hlt => hB.block k hlt (fun e' => hOg (by rw [← e']; exact e))) hB.size)
        clear hb HX hT1
        have HE : Hid (∀ W2, Turned (fun k => k = I.db x.n) w W2 → ∀ W3, PStep W2 (fun k => ρ k = some (.obj x.th)) (I.ob x.th) (.pipe q (leaveR (bit x.flags 2) rd wt) (leaveW (bit x.flags 2) rd wt)) W3 → ∀ ty, ∃ w', (Builtin.delete_ #[88, 3] ty #[.map (some I.om), .int .i64 d]).run Tryz.prog W3 = .ok (.tuple #[]) w' ∧ Hid (PNext ρ I w ((K.setOb x.th (.pipe q (leaveR (bit x.flags 2) rd wt) (leaveW (bit x.flags 2) rd wt))).lose x.n) w')) := hide (by
          intro W2 hT W3 hS ty
          obtain ⟨V, hV1, hV2, hV3, hV4⟩ := restored hlt hOg hT hS
          obtain ⟨ρ', h1', h2', h3'⟩ := h.setOb (O' := hV1.choose) hi (ob' := .pipe q (leaveR (bit x.flags 2) rd wt) (leaveW (bit x.flags 2) rd wt)) (by rw [← hth]; rfl) (hV1.choose_spec.2.2.mono fun k e => Or.inl e) hV1.choose_spec.1 hV1.choose_spec.2.1 (fun ls' scr' e => by cases e)
          have om' := h3'.1 I.om (h.lt _ _ (h.comp .omap).2)
          have db' := h3'.1 (I.db x.n) hlt
          obtain ⟨w', a1, a2⟩ := lose_run h1' (x := x) hm d hd hnd (hV4 I.om (hne _ _ (h.comp .omap).2 (by simp))).symm (hV2.mono fun k e => by rw [e, db']; exact .inl ht) ty
          exact ⟨w', a1, hide (PNext.join h2' (hV1.choose_spec.2.2.mono fun k e => ⟨_, e⟩) rfl a2.out)⟩)
        clear c2
        generalize bit x.flags 2 = wb at *
        cases wb
        · clear h hO
          go_enter Tryz.func62, Tryz.ntmps62
          go_wp2_with fail
          refine HF.out.mono ?_
          rintro e w1 ⟨rfl, rfl⟩
          unfold descV
          go_wp2_with fail
          generalize w1.setCell ⟨I.db x.n, 3, none⟩ (.int .i64 (0 : Int)) = w2 at *
          refine (pipeOf_yes (I.ob x.th) _).mono ?_
          rintro e w3 ⟨rfl, hB'⟩
          have kp := recv_cell w3 (.pointer (some ⟨I.ob x.th, 0, none⟩)) 239
          have hB : Below w2.heap.size w2 (w3.alloc (Obj.cells #[.pointer (some ⟨I.ob x.th, 0, none⟩)] 239)) := hB'.trans ((recv_below _ _).mono hB'.size)
          have k3' := (hB.cell (p := ⟨I.kb, 3, none⟩) (World.block_lt_of_cell? w2 _ k3)).trans k3
          have k2' := (hB.cell (p := ⟨I.db x.n, 2, none⟩) (World.block_lt_of_cell? w2 _ k2)).trans k2
          have hlt2 := World.block_lt_of_cell? w2 _ k2
          have hlt3 := World.block_lt_of_cell? w2 _ k3
          have hsz := hB'.size
          have hT3 : Turned (fun k => k = I.db x.n) w1 (w3.alloc (Obj.cells #[.pointer (some ⟨I.ob x.th, 0, none⟩)] 239)).drew := HT1.out.trans (Turned.of_below (hB.trans ((Below.refl _ _).drew.mono hB.size))) (fun _ _ e => e)
          have HL3 := hide (HL.out _ hT3)
          have HE3 := hide (HE.out _ hT3)
          have hkO : ¬ ρ I.kb = some (.obj x.th) := fun e => by rw [(HK.out.comp .kern).2.1] at e; cases e
          have hnO : ¬ ρ w3.heap.size = some (.obj x.th) := fun e => by have := HK.out.lt _ _ e; have := HT1.out.size; omega
          clear hB HT1 hT3
          go_wp2_with fail
          go_region_held3 (fun w' => w'.cell? ⟨w3.heap.size, 0, none⟩ = some (.pointer (some ⟨I.ob x.th, 0, none⟩)) ∧ w'.cell? ⟨I.db x.n, 2, none⟩ = some (.bool false) ∧ w'.cell? ⟨I.kb, 3, none⟩ = some (.map (some I.om)))
            (first | exact K5 | go_keep)
            (first
              | (go_at_call 151; refine HL3.out.mono ?_; rintro e w5 ⟨rfl, hS5⟩; have K5 : w5.cell? ⟨w3.heap.size, 0, none⟩ = some (.pointer (some ⟨I.ob x.th, 0, none⟩)) ∧ w5.cell? ⟨I.db x.n, 2, none⟩ = some (.bool false) ∧ w5.cell? ⟨I.kb, 3, none⟩ = some (.map (some I.om)) := by obtain ⟨O', hs1, hs2, hs3⟩ := hS5; exact ⟨hs3.cell kp hnO, hs3.cell k2' hOg, hs3.cell k3' hkO⟩)
              | fail)
          obtain ⟨w6, hr6, HN6⟩ := HE3.out w5 hS5 0
          have k35 := K5.2.2
          go_wp2
          go_ret
          exact ⟨rfl, HN6.out⟩
        · clear h hO
          go_enter Tryz.func62, Tryz.ntmps62
          go_wp2_with fail
          refine HF.out.mono ?_
          rintro e w1 ⟨rfl, rfl⟩
          unfold descV
          go_wp2_with fail
          generalize w1.setCell ⟨I.db x.n, 3, none⟩ (.int .i64 (0 : Int)) = w2 at *
          refine (pipeOf_yes (I.ob x.th) _).mono ?_
          rintro e w3 ⟨rfl, hB'⟩
          have kp := recv_cell w3 (.pointer (some ⟨I.ob x.th, 0, none⟩)) 239
          have hB : Below w2.heap.size w2 (w3.alloc (Obj.cells #[.pointer (some ⟨I.ob x.th, 0, none⟩)] 239)) := hB'.trans ((recv_below _ _).mono hB'.size)
          have k3' := (hB.cell (p := ⟨I.kb, 3, none⟩) (World.block_lt_of_cell? w2 _ k3)).trans k3
          have k2' := (hB.cell (p := ⟨I.db x.n, 2, none⟩) (World.block_lt_of_cell? w2 _ k2)).trans k2
          have hlt2 := World.block_lt_of_cell? w2 _ k2
          have hlt3 := World.block_lt_of_cell? w2 _ k3
          have hsz := hB'.size
          have hT3 : Turned (fun k => k = I.db x.n) w1 (w3.alloc (Obj.cells #[.pointer (some ⟨I.ob x.th, 0, none⟩)] 239)).drew := HT1.out.trans (Turned.of_below (hB.trans ((Below.refl _ _).drew.mono hB.size))) (fun _ _ e => e)
          have HL3 := hide (HL.out _ hT3)
          have HE3 := hide (HE.out _ hT3)
          have hkO : ¬ ρ I.kb = some (.obj x.th) := fun e => by rw [(HK.out.comp .kern).2.1] at e; cases e
          have hnO : ¬ ρ w3.heap.size = some (.obj x.th) := fun e => by have := HK.out.lt _ _ e; have := HT1.out.size; omega
          clear hB HT1 hT3
          go_wp2_with fail
          go_region_held3 (fun w' => w'.cell? ⟨w3.heap.size, 0, none⟩ = some (.pointer (some ⟨I.ob x.th, 0, none⟩)) ∧ w'.cell? ⟨I.db x.n, 2, none⟩ = some (.bool true) ∧ w'.cell? ⟨I.kb, 3, none⟩ = some (.map (some I.om)))
            (first | exact K5 | go_keep)
            (first
              | (go_at_call 151; refine HL3.out.mono ?_; rintro e w5 ⟨rfl, hS5⟩; have K5 : w5.cell? ⟨w3.heap.size, 0, none⟩ = some (.pointer (some ⟨I.ob x.th, 0, none⟩)) ∧ w5.cell? ⟨I.db x.n, 2, none⟩ = some (.bool true) ∧ w5.cell? ⟨I.kb, 3, none⟩ = some (.map (some I.om)) := by obtain ⟨O', hs1, hs2, hs3⟩ := hS5; exact ⟨hs3.cell kp hnO, hs3.cell k2' hOg, hs3.cell k3' hkO⟩)
              | fail)
          obtain ⟨w6, hr6, HN6⟩ := HE3.out w5 hS5 0
          have k35 := K5.2.2
          go_wp2
          go_ret
          exact ⟨rfl, HN6.out⟩
end Go.Proofs.YtkkicbhmcjbmbaaGreat

/- What the proof stands on, part 9: the contracts of the program's calls that it reaches. -/
import Derived.Test.YtdmkjbdlidadiaaGreatKP8
import Derived.BigRegion
import Derived.Sort.Walk0
/- The reference's kernel: one thing more; Pipe. -/
namespace Go.Proofs.YtdmkjbdlidadiaaGreat
open Go.RowKit

def KS.more (K : KS) (t : Th) : KS := { K with th := K.th ++ [t] }
def updT (f : Nat → Nat) (n v : Nat) : Nat → Nat := fun j => if j = n then v else f j
theorem updT_old {f : Nat → Nat} {n v j : Nat} (h : j < n) : updT f n v j = f j := by unfold updT; rw [if_neg (by omega)]
theorem updT_new {f : Nat → Nat} {n v : Nat} : updT f n v n = v := by unfold updT; rw [if_pos rfl]
theorem RK.more {W W' : World} {B : Nat → Prop} {ρ : Nat → Option Tag} {I : RI} {K : KS} (h : RK W B ρ I K) (t : Th) {nb ob : Nat} {O : Nat → Prop} (hk : ∀ k, k < W.heap.size → W'.heap[k]? = W.heap[k]?) (hs : W.heap.size ≤ W'.heap.size) (hnb : W.heap.size ≤ nb)
    (hth : W'.heap[nb]? = some (.cells (tcells t ob).toArray 236 (0, 0))) (hO : RObj W' O ob t.ob) (hOn : ∀ k, O k → W.heap.size ≤ k ∧ k ≠ nb) (hok : t.ob.ok) :
    ∃ ρ', RK W' B ρ' { I with tb := updT I.tb K.th.length nb, ob := updT I.ob K.th.length ob } (K.more t) := by
  have hnl : nb < W'.heap.size := (Array.getElem?_eq_some_iff.1 hth).1
  have hOt := hO.trim
  obtain ⟨ρ', hρ⟩ : ∃ ρ' : Nat → Option Tag, ∀ k, (k < W.heap.size → ρ' k = ρ k) ∧ (¬ k < W.heap.size → (k = nb → ρ' k = some (.thing K.th.length)) ∧ (k ≠ nb → (O k ∧ k < W'.heap.size → ρ' k = some (.obj K.th.length)) ∧ (¬ (O k ∧ k < W'.heap.size) → ρ' k = none))) :=
    ⟨fun k => if k < W.heap.size then ρ k else if k = nb then some (.thing K.th.length) else @ite _ (O k ∧ k < W'.heap.size) (Classical.propDecidable _) (some (.obj K.th.length)) none, fun k => ⟨fun hk => if_pos hk, fun hk => ⟨fun e => (if_neg hk).trans (if_pos e), fun e => ⟨fun e' => (if_neg hk).trans ((if_neg e).trans (@if_pos _ (Classical.propDecidable _) e' _ _ _)), fun e' => (if_neg hk).trans ((if_neg e).trans (@if_neg _ (Classical.propDecidable _) e' _ _ _))⟩⟩⟩⟩
  have old : ∀ k t, ρ k = some t → ρ' k = some t := fun k t e => by rw [(hρ k).1 (h.lt k t e).2]; exact e
  have keep : ∀ t, RComp W' B ρ I K t := fun t => (h.comp t).keep (fun k _ hlt => hk k hlt) hs
  have hlen : (K.more t).th.length = K.th.length + 1 := by show (K.th ++ [t]).length = _; simp
  have hget : ∀ j (hj : j < K.th.length) (hj' : j < (K.more t).th.length), (K.more t).th[j] = K.th[j] := fun j hj hj' => by simp [KS.more, hj]
  have hgetn : ∀ (hj' : K.th.length < (K.more t).th.length), (K.more t).th[K.th.length] = t := fun hj' => by simp [KS.more]
  refine ⟨ρ', ⟨fun t' => ?_, fun k t' e => ?_, ?_, fun k e => h.up k (Nat.le_trans hs e)⟩⟩
  · cases t' with
    | kern => have := keep .kern; exact ⟨this.1, old _ _ this.2⟩
    | trow =>
      have := keep .trow
      refine ⟨?_, fun k e => old _ _ (this.2 k e)⟩
      show W'.ownsRow 0 _ 1 I.vT K.nm.length (K.nm.map fun i => Value.pointer (some ⟨updT I.tb K.th.length nb i, 0, none⟩))
      rw [show (K.nm.map fun i => Value.pointer (some ⟨updT I.tb K.th.length nb i, 0, none⟩)) = K.nm.map fun i => Value.pointer (some ⟨I.tb i, 0, none⟩) from List.map_congr_left fun i hi => by rw [updT_old (h.ok.nm i hi)]]
      exact this.1
    | drow => have := keep .drow; exact ⟨this.1, fun k e => old _ _ (this.2 k e)⟩
    | plan => have := keep .plan; exact ⟨this.1, old _ _ this.2.1, fun k e => old _ _ (this.2.2 k e)⟩
    | thing j =>
      intro hj
      by_cases e : j < K.th.length
      · have := keep (.thing j) e
        show W'.heap[updT I.tb K.th.length nb j]? = some (.cells (tcells (K.more t).th[j] (updT I.ob K.th.length ob j)).toArray _ _) ∧ ρ' (updT I.tb K.th.length nb j) = _
        rw [updT_old e, updT_old e, hget j e hj]
        exact ⟨this.1, old _ _ this.2⟩
      · obtain rfl : j = K.th.length := by omega
        show W'.heap[updT I.tb K.th.length nb K.th.length]? = some (.cells (tcells (K.more t).th[K.th.length] (updT I.ob K.th.length ob K.th.length)).toArray _ _) ∧ ρ' (updT I.tb K.th.length nb K.th.length) = _
        rw [updT_new, updT_new, hgetn hj]
        exact ⟨hth, ((hρ nb).2 (by omega)).1 rfl⟩
    | obj j =>
      intro hj
      by_cases e : j < K.th.length
      · have := keep (.obj j) e
        show RObj W' _ (updT I.ob K.th.length ob j) (K.more t).th[j].ob ∧ (K.more t).th[j].ob.ok
        rw [updT_old e, hget j e hj]
        exact ⟨this.1.mono fun k e => old _ _ e, this.2⟩
      · obtain rfl : j = K.th.length := by omega
        show RObj W' _ (updT I.ob K.th.length ob K.th.length) (K.more t).th[K.th.length].ob ∧ (K.more t).th[K.th.length].ob.ok
        rw [updT_new, hgetn hj]
        refine ⟨hOt.mono fun k e => ?_, hok⟩
        have := hOn k e.1
        exact (((hρ k).2 (by omega)).2 this.2).1 e
    | desc n =>
      intro d hd e
      have := keep (.desc n) d hd e
      show W'.heap[I.db n]? = some (.cells ([.int .i64 n, .pointer (some ⟨updT I.tb K.th.length nb d.th, 0, none⟩), .int .i64 d.flags, .int .i64 d.pos, .int .i64 d.held] : List Value).toArray _ _) ∧ _
      rw [updT_old (h.ok.th d hd)]
      exact ⟨this.1, old _ _ this.2⟩
  · by_cases hlt : k < W.heap.size
    · rw [(hρ k).1 hlt] at e; exact ⟨(h.lt k t' e).1, Nat.lt_of_lt_of_le (h.lt k t' e).2 hs⟩
    · by_cases hn : k = nb
      · exact ⟨h.up k (by omega), by omega⟩
      · by_cases ho : O k ∧ k < W'.heap.size
        · exact ⟨h.up k (by omega), ho.2⟩
        · rw [(((hρ k).2 hlt).2 hn).2 ho] at e; cases e
  · exact ⟨h.ok.few, h.ok.named, fun d hd => by rw [hlen]; exact Nat.lt_succ_of_lt (h.ok.th d hd), fun i hi => by rw [hlen]; exact Nat.lt_succ_of_lt (h.ok.nm i hi), h.ok.num, h.ok.once, h.ok.flags, h.ok.pos, h.ok.held, h.ok.plan⟩
def RKTwo (w : World) (B : Nat → Prop) (kb : Nat) (r : Int × Int × Int × KS) (e : Ending) (w' : World) : Prop :=
  ∃ ρ' I', e = .returned (.tuple #[.int .i64 r.1, .int .i64 r.2.1, .int .i64 r.2.2.1]) ∧ RK w' B ρ' I' r.2.2.2 ∧ I'.kb = kb ∧ Turned B w w'
set_option maxRecDepth 100000 in
set_option maxHeartbeats 4000000 in
theorem rkpipe_any (B : Nat → Prop) (ρ : Nat → Option Tag) (I : RI) (K : KS) (w : World) (h : RK w B ρ I K) (hn1 : 1 ≤ K.next) (hn : K.next < 9223372036854775806) :
    Calls Tryz.prog 61 #[.pointer (some ⟨I.kb, 0, none⟩)] w (RKTwo w B I.kb K.pipe) := by
  have hb := (h.comp .kern).1
  have c1 : w.cell? ⟨I.kb, 1, none⟩ = some I.vD := by rw [cell_of_row w I.kb 1 _ _ _ hb]; rfl
  obtain ⟨da, dc, hdv⟩ := owns_slice (h.comp .drow).1
  rw [hdv] at c1
  have hfew := h.ok.few
  by_cases hl : 254 < K.de.length
  · rw [show K.pipe = (0, 0, 3, K) by unfold KS.pipe; rw [if_pos hl]]
    have hl' : (254 : Int) < (K.de.length : Int) := by omega
    have HX : Hid (RKTwo w B I.kb (0, 0, 3, K) (.returned (.tuple #[.int .i64 0, .int .i64 0, .int .i64 3])) w) := hide ⟨ρ, I, rfl, h, rfl, Turned.refl _ _⟩
    clear h hb hdv
    go_enter Tryz.func61, Tryz.ntmps61
    go_wp2
    refine bodyPost_ret (v := .tuple #[.int .i64 0, .int .i64 0, .int .i64 3]) (by simp [results, Tryz.f61, go_sem]) rfl ?_
    exact HX.out
  · have hl' : ¬ (254 : Int) < (K.de.length : Int) := by omega
    have hW : K.pipe = ((K.next : Int), ((K.next + 1 : Nat) : Int), 0, ((K.addP (.pipe [] 1 1)).newDe K.th.length 1).newDe K.th.length 2) := by unfold KS.pipe; rw [if_neg hl]
    rw [hW]
    obtain ⟨o1, ho1⟩ : ∃ o1, o1 = Obj.cells #[.slice none 0 0, .int .i64 1, .int .i64 1] 254 := ⟨_, rfl⟩
    obtain ⟨o2, ho2⟩ : ∃ o2, o2 = Obj.cells #[.string ⟨#[]⟩, .int .i64 3, .pointer none, .pointer none, .pointer (some ⟨w.heap.size, 0, none⟩)] 236 := ⟨_, rfl⟩
    have hB1 := recv_below w o1
    have hB2 := recv_below (w.alloc o1) o2
    have hs1 : (w.alloc o1).heap.size = w.heap.size + 1 := by simp
    have hs2 : ((w.alloc o1).alloc o2).heap.size = w.heap.size + 2 := by simp
    have hB12 : Below w.heap.size w ((w.alloc o1).alloc o2) := hB1.trans (hB2.mono (by omega))
    have hn1' := heap_alloc_new w o1
    have hn2' := heap_alloc_new (w.alloc o1) o2
    rw [hs1] at hn2'
    have hn1'' : ((w.alloc o1).alloc o2).heap[w.heap.size]? = some o1 := (hB2.block _ (by omega)).trans hn1'
    obtain ⟨ρ2, hK2⟩ := h.more (W' := (w.alloc o1).alloc o2) ⟨ByteArray.empty, .pipe [] 1 1⟩ (nb := w.heap.size + 1) (ob := w.heap.size) (O := fun k => k = w.heap.size) (fun k hk => hB12.block k hk) hB12.size (by omega) (by rw [hn2', ho2]; rfl)
      ⟨none, 0, w.heap.size, ⟨by rw [hn1'', ho1]; rfl, .inl ⟨rfl, rfl⟩, Nat.le_refl _, by simp, by decide, by decide, .inl ⟨rfl, rfl, rfl⟩⟩, by omega, rfl, fun k e => by cases e⟩ (fun k e => by subst e; exact ⟨Nat.le_refl _, by omega⟩) ⟨by simp, by decide, by decide⟩
    have hth2 : (K.more ⟨ByteArray.empty, .pipe [] 1 1⟩).th.length = K.th.length + 1 := by simp [KS.more]
    have hD := rdesc_any B ρ2 _ _ K.th.length 1 _ hK2 (by rw [hth2]; omega) rfl (by show K.de.length < 256; omega) hn1 (by show K.next < _; omega)
    simp only [updT_new] at hD
    have HD := hide hD
    have HB12 := hide hB12
    subst ho1
    subst ho2
    clear h hb hdv hB1 hB2 hs1 hs2 hn1' hn2' hn1'' hK2 hD hW hB12 hth2
    go_enter Tryz.func61, Tryz.ntmps61
    go_wp2_with fail
    refine HD.out.mono ?_
    rintro e w3 ⟨rfl, ρ3, I3, hK3, hkb, htb, hT3⟩
    have hth3 : K.th.length < ((K.more ⟨ByteArray.empty, .pipe [] 1 1⟩).newDe K.th.length 1).th.length := by show K.th.length < (K.th ++ [_]).length; simp
    have ht3 := (htb K.th.length (by show K.th.length < (K.th ++ [_]).length; simp)).1
    simp only [updT_new] at ht3 hkb
    have hD2 := rdesc_any B ρ3 I3 _ K.th.length 2 _ hK3 hth3 rfl (by show (K.de ++ [_]).length < 256; rw [List.length_append]; simp; omega) (by show 1 ≤ K.next + 1; omega) (by show K.next + 1 < _; omega)
    rw [ht3, hkb] at hD2
    have HD2 := hide hD2
    have HT3 := hide ((Turned.of_below (S := B) HB12.out).trans hT3 (fun _ _ e => e))
    have HKb := hide hkb
    clear hK3 htb hT3 ht3 hD2 hth3 hkb
    go_wp2_with fail
    refine HD2.out.mono ?_
    rintro e w4 ⟨rfl, ρ4, I4, hK4, hkb4, -, hT4⟩
    have HE : Hid (RKTwo w B I.kb ((K.next : Int), ((K.next + 1 : Nat) : Int), 0, ((K.addP (.pipe [] 1 1)).newDe K.th.length 1).newDe K.th.length 2) (.returned (.tuple #[.int .i64 K.next, .int .i64 ((K.next + 1 : Nat) : Int), .int .i64 0])) w4) := hide ⟨ρ4, I4, rfl, hK4, hkb4.trans HKb.out, HT3.out.trans hT4 (fun _ _ e => e)⟩
    clear hK4 hkb4 hT4
    go_wp2
    refine bodyPost_ret (v := .tuple #[.int .i64 K.next, .int .i64 ((K.next + 1 : Nat) : Int), .int .i64 0]) (by simp [results, Tryz.f61, go_sem, KS.more, KS.newDe]) rfl ?_
    exact HE.out
end Go.Proofs.YtdmkjbdlidadiaaGreat

/- The reference's kernel: a thing by its name. -/
namespace Go.Proofs.YtdmkjbdlidadiaaGreat
open Go.RowKit

theorem RK.tcell {W : World} {B : Nat → Prop} {ρ : Nat → Option Tag} {I : RI} {K : KS} (h : RK W B ρ I K) {i : Nat} (hi : i < K.th.length) : W.cell? ⟨I.tb i, 0, none⟩ = some (.string (K.nameOf i)) ∧ W.cell? ⟨I.tb i, 1, none⟩ = some (.int .i64 (K.obOf i).kind) ∧
    (∀ b, K.obOf i = .file b → W.cell? ⟨I.tb i, 2, none⟩ = some (.pointer (some ⟨I.ob i, 0, none⟩))) ∧ (∀ ls scr, K.obOf i = .term ls scr → W.cell? ⟨I.tb i, 3, none⟩ = some (.pointer (some ⟨I.ob i, 0, none⟩))) := by
  have h2 := (h.comp (.thing i) hi).1
  have hn : K.nameOf i = K.th[i].name := by simp [KS.nameOf, hi]
  rw [KS.obOf_eq hi, hn]
  refine ⟨?_, ?_, fun b e => ?_, fun ls scr e => ?_⟩
  · rw [cell_of_row W _ 0 _ _ _ h2]
    cases h3 : K.th[i].ob <;> simp [tcells, h3]
  · rw [cell_of_row W _ 1 _ _ _ h2]
    cases h3 : K.th[i].ob <;> simp [tcells, h3, Ob.kind]
  · rw [cell_of_row W _ 2 _ _ _ h2]; simp [tcells, e]
  · rw [cell_of_row W _ 3 _ _ _ h2]; simp [tcells, e]
end Go.Proofs.YtdmkjbdlidadiaaGreat

/- The reference's kernel: a thing is put among the names. -/
namespace Go.Proofs.YtdmkjbdlidadiaaGreat
open Go.RowKit

theorem RK.names {W W' : World} {B : Nat → Prop} {ρ : Nat → Option Tag} {I : RI} {K : KS} (h : RK W B ρ I K) (L : List Nat) (hL : L.length ≤ 256) (hLi : ∀ i ∈ L, i < K.th.length) {v' : Value}
    (h1 : W'.heap[I.kb]? = some (.cells ([v', I.vD, .int .i64 K.next, .pointer (some ⟨I.pb, 0, none⟩), .int .i64 K.reads, .int .i64 K.writes] : List Value).toArray 153 (0, 0)))
    (h2 : W'.ownsRow 0 232 1 v' L.length (L.map fun i => .pointer (some ⟨I.tb i, 0, none⟩)))
    (h4 : ∀ k, v'.ownBlock = some k → I.vT.ownBlock = some k ∨ W.heap.size ≤ k)
    (hk : ∀ k, k < W.heap.size → k ≠ I.kb → I.vT.ownBlock ≠ some k → W'.heap[k]? = W.heap[k]?) (hs : W.heap.size ≤ W'.heap.size) :
    ∃ ρ', RK W' B ρ' { I with vT := v' } { K with nm := L } := by
  obtain ⟨ρ', hρ⟩ : ∃ ρ' : Nat → Option Tag, ∀ k, (k < W.heap.size → ρ' k = ρ k) ∧ (¬ k < W.heap.size → (v'.ownBlock = some k → ρ' k = some .trow) ∧ (v'.ownBlock ≠ some k → ρ' k = none)) :=
    ⟨fun k => if k < W.heap.size then ρ k else if v'.ownBlock = some k then some .trow else none, fun k => ⟨fun hk => if_pos hk, fun hk => ⟨fun e => (if_neg hk).trans (if_pos e), fun e => (if_neg hk).trans (if_neg e)⟩⟩⟩
  have old : ∀ k t, ρ k = some t → ρ' k = some t := fun k t e => by rw [(hρ k).1 (h.lt k t e).2]; exact e
  have kr := (h.comp .kern).2
  have dr := (h.comp .trow).2
  have keep : ∀ t, t ≠ .kern → t ≠ .trow → RComp W' B ρ I K t := fun t n1 n2 => (h.comp t).keep (fun k e hlt => hk k hlt (fun e' => by subst e'; rw [kr] at e; exact n1 (Option.some.inj e).symm) (fun e' => by have := dr k e'; rw [e] at this; exact n2 (Option.some.inj this))) hs
  refine ⟨ρ', ⟨fun t => ?_, fun k t e => ?_, ?_, fun k e => h.up k (Nat.le_trans hs e)⟩⟩
  · cases t with
    | kern => exact ⟨h1, old _ _ kr⟩
    | trow =>
      refine ⟨h2, fun k e => ?_⟩
      rcases h4 k e with h6 | h6
      · exact old _ _ (dr k h6)
      · exact ((hρ k).2 (by omega)).1 e
    | drow => have := keep .drow (by simp) (by simp); exact ⟨this.1, fun k e => old _ _ (this.2 k e)⟩
    | plan => have := keep .plan (by simp) (by simp); exact ⟨this.1, old _ _ this.2.1, fun k e => old _ _ (this.2.2 k e)⟩
    | thing j => intro hj; have := keep (.thing j) (by simp) (by simp) hj; exact ⟨this.1, old _ _ this.2⟩
    | obj j => intro hj; have := keep (.obj j) (by simp) (by simp) hj; exact ⟨this.1.mono fun k e => old _ _ e, this.2⟩
    | desc n => intro d hd e; have := keep (.desc n) (by simp) (by simp) d hd e; exact ⟨this.1, old _ _ this.2⟩
  · by_cases hlt : k < W.heap.size
    · rw [(hρ k).1 hlt] at e; exact ⟨(h.lt k t e).1, Nat.lt_of_lt_of_le (h.lt k t e).2 hs⟩
    · by_cases hv : v'.ownBlock = some k
      · exact ⟨h.up k (by omega), (h2.lt k hv).2⟩
      · rw [((hρ k).2 hlt).2 hv] at e; cases e
  · exact ⟨h.ok.few, hL, h.ok.th, hLi, h.ok.num, h.ok.once, h.ok.flags, h.ok.pos, h.ok.held, h.ok.plan⟩
end Go.Proofs.YtdmkjbdlidadiaaGreat

/- The program's kernel: Read. -/
namespace Go.Proofs.YtdmkjbdlidadiaaGreat
open Go.RowKit Go.Maps

def Own (ρ : Nat → Option PTag) (k : Nat) : Prop := ∃ t, ρ k = some t
def PNext (ρ : Nat → Option PTag) (I : PI) (w : World) (K' : KS) (w' : World) : Prop := ∃ ρ' I', PK w' ρ' I' K' ∧ I'.kb = I.kb ∧ newTags ρ ρ' w ∧ Turned (Own ρ) w w'
theorem PNext.step {w w' : World} {O : Nat → Prop} {ρ : Nat → Option PTag} {I : PI} {K' : KS} (hO : ∀ k t, ρ k = some t → O k) (h : PNext ρ I w K' w') : KStep w O I.kb K' w' := by
  obtain ⟨ρ', I', h1, h2, h3, h4⟩ := h
  exact PK.step hO h1 h2 h3 h4
theorem newTags.refl (ρ : Nat → Option PTag) (w : World) : newTags ρ ρ w := fun _ t e => .inl ⟨t, e⟩
theorem PNext.same {w : World} {ρ : Nat → Option PTag} {I : PI} {K : KS} (h : PK w ρ I K) : PNext ρ I w K w := ⟨ρ, I, h, rfl, newTags.refl _ _, Turned.refl _ _⟩
theorem PNext.of {w w' : World} {ρ : Nat → Option PTag} {I I' : PI} {K' : KS} (h : PK w' ρ I' K') (hk : I'.kb = I.kb) (hT : Turned (Own ρ) w w') : PNext ρ I w K' w' := ⟨ρ, I', h, hk, newTags.refl _ _, hT⟩
theorem PNext.after {w w1 w' : World} {ρ : Nat → Option PTag} {I I1 : PI} {K' : KS} (hT : Turned (Own ρ) w w1) (hk : I1.kb = I.kb) (h : PNext ρ I1 w1 K' w') : PNext ρ I w K' w' := by
  obtain ⟨ρ', I', h1, h2, h3, h4⟩ := h
  exact ⟨ρ', I', h1, h2.trans hk, fun k t e => (h3 k t e).imp id (fun e => Nat.le_trans hT.size e), hT.trans h4 (fun _ _ e => e)⟩
theorem PK.under {W W' : World} {ρ : Nat → Option PTag} {I : PI} {K : KS} (h : PK W ρ I K) (hB : Below W.heap.size W W') : PK W' ρ I K := h.keep (fun k t e => hB.block k (h.lt k t e)) hB.size
theorem PK.readUp {W : World} {ρ : Nat → Option PTag} {I : PI} {K : KS} (h : PK W ρ I K) : PK (W.setCell ⟨I.kb, 6, none⟩ (.int .i64 ((K.reads : Int) + 1))) ρ I { K with reads := K.reads + 1 } ∧ Turned (Own ρ) W (W.setCell ⟨I.kb, 6, none⟩ (.int .i64 ((K.reads : Int) + 1))) := by
  have hb := (h.comp .kern).1
  have hT := (Turned.refl (fun k => k = I.kb) W).set (g := I.kb) (j := 6) (u := .int .i64 ((K.reads : Int) + 1)) (.inl rfl)
  have := h.kernel (K.reads + 1) K.writes I.last (by rw [heap_setCell_same 6 _ hb]; rfl) hT (Nat.le_refl _)
  rw [← (h.comp .kern).2.2] at this
  exact ⟨this, hT.mono fun k e => ⟨.kern, by rw [e]; exact (h.comp .kern).2.1⟩⟩
theorem PK.writeUp {W : World} {ρ : Nat → Option PTag} {I : PI} {K : KS} (h : PK W ρ I K) : PK (W.setCell ⟨I.kb, 7, none⟩ (.int .i64 ((K.writes : Int) + 1))) ρ I { K with writes := K.writes + 1 } ∧ Turned (Own ρ) W (W.setCell ⟨I.kb, 7, none⟩ (.int .i64 ((K.writes : Int) + 1))) := by
  have hb := (h.comp .kern).1
  have hT := (Turned.refl (fun k => k = I.kb) W).set (g := I.kb) (j := 7) (u := .int .i64 ((K.writes : Int) + 1)) (.inl rfl)
  have := h.kernel K.reads (K.writes + 1) I.last (by rw [heap_setCell_same 7 _ hb]; rfl) hT (Nat.le_refl _)
  rw [← (h.comp .kern).2.2] at this
  exact ⟨this, hT.mono fun k e => ⟨.kern, by rw [e]; exact (h.comp .kern).2.1⟩⟩
theorem knext_any (ρ : Nat → Option PTag) (I : PI) (K : KS) (want : Int) (w : World) (h : PK w ρ I K) (h1 : 1 ≤ want) (h2 : want ≤ 1048576) :
    Calls Tryz.prog 160 #[.pointer (some ⟨I.pb, 0, none⟩), .int .i64 want] w fun e w' => e = .returned (.tuple #[.int .i64 (nxt K.plan want).1, .int .i64 (nxt K.plan want).2]) ∧ ∃ v', PK w' ρ { I with pv := v' } { K with plan := K.plan.tail } ∧ Turned (Own ρ) w w' := by
  have hp := (h.comp .plan).1
  cases hpl : K.plan with
  | nil =>
    rw [hpl] at hp
    refine (next_end I.pb I.pv want w hp h1 h2).mono ?_
    rintro e w' ⟨rfl, rfl⟩
    refine ⟨by rw [show nxt ([] : List Fault) want = (want, 0) by simp [nxt]; omega], I.pv, ?_, Turned.refl _ _⟩
    have : ({ K with plan := ([] : List Fault).tail } : KS) = K := by
      obtain ⟨_, _, _, _, plan, _, _⟩ := K
      simp only at hpl
      subst hpl
      rfl
    rw [this]
    exact h
  | cons f r =>
    have hpo := h.ok.plan
    rw [hpl] at hp hpo
    refine (next_some I.pb I.pv f r want w hp h1 h2 (by have := hpo.1; simp at this; unfold maxLen; omega)).mono ?_
    rintro e w' ⟨rfl, v', h3, h4, h5⟩
    have hT : Turned (fun k => k = I.pb) w w' := (Turned.refl _ w).grown h5 (fun k e => by cases e; exact .inl rfl)
    exact ⟨rfl, v', h.used h3 (fun k e => by rw [← h4]; exact e) hT hpo.tail, hT.mono fun k e => ⟨.plan, by rw [e]; exact (h.comp .plan).2.1⟩⟩
theorem PK.objStep {W W' : World} {ρ : Nat → Option PTag} {I : PI} {K : KS} (h : PK W ρ I K) {i : Nat} (hi : i < K.th.length) {ob' : Ob} (hk : ob'.kind = K.th[i].ob.kind) (hS : PStep W (fun k => ρ k = some (.obj i)) (I.ob i) ob' W')
    (hc : ∀ ls scr, ob' = .term ls scr → ∃ ls0 scr0, K.th[i].ob = .term ls0 scr0 ∧ scr.length = scr0.length) : PNext ρ I W (K.setOb i ob') W' := by
  obtain ⟨O', h1, h2, h3⟩ := hS
  obtain ⟨ρ', h4, h5, h6⟩ := h.setOb hi hk (h3.mono fun k e => Or.inl e) h1 h2 (fun ls scr e => by
    obtain ⟨ls0, scr0, e0, e1⟩ := hc ls scr e
    obtain ⟨a1, a2⟩ := h.comp (.cons i) hi ls0 scr0 e0
    rw [e1]
    exact (h3.block _ (h.lt _ _ a2) (fun e' => by rw [a2] at e'; cases e')).trans a1)
  exact ⟨ρ', I, h4, rfl, h5, h3.mono fun k e => ⟨_, e⟩⟩
def PHold (ρ : Nat → Option PTag) (I : PI) (w : World) (K' : KS) (w' : World) : Prop := ∃ ρ' I', PK w' ρ' I' K' ∧ I'.kb = I.kb ∧ (∀ k, Own ρ' k → Own ρ k) ∧ Turned (Own ρ) w w'
theorem PHold.of {w w' : World} {ρ : Nat → Option PTag} {I I' : PI} {K' : KS} (h : PK w' ρ I' K') (hk : I'.kb = I.kb) (hT : Turned (Own ρ) w w') : PHold ρ I w K' w' := ⟨ρ, I', h, hk, fun _ e => e, hT⟩
theorem PHold.after {w w1 w' : World} {ρ : Nat → Option PTag} {I I1 : PI} {K' : KS} (hT : Turned (Own ρ) w w1) (hk : I1.kb = I.kb) (h : PHold ρ I1 w1 K' w') : PHold ρ I w K' w' := by
  obtain ⟨ρ', I', h1, h2, h3, h4⟩ := h
  exact ⟨ρ', I', h1, h2.trans hk, h3, hT.trans h4 (fun _ _ e => e)⟩
theorem PK.objHold {W W' : World} {ρ : Nat → Option PTag} {I : PI} {K : KS} (h : PK W ρ I K) {i : Nat} (hi : i < K.th.length) {ob' : Ob} (hk : ob'.kind = K.th[i].ob.kind) (hO : PObj W' (fun k => ρ k = some (.obj i)) (I.ob i) ob') (hT : Turned (fun k => ρ k = some (.obj i)) W W')
    (hc : ∀ ls scr, ob' = .term ls scr → ∃ ls0 scr0, K.th[i].ob = .term ls0 scr0 ∧ scr.length = scr0.length) : PHold ρ I W (K.setOb i ob') W' := by
  obtain ⟨ρ', h4, h5, h6⟩ := h.setOb hi hk (hT.mono fun k e => Or.inl e) hO (fun k e => .inl e) (fun ls scr e => by
    obtain ⟨ls0, scr0, e0, e1⟩ := hc ls scr e
    obtain ⟨a1, a2⟩ := h.comp (.cons i) hi ls0 scr0 e0
    rw [e1]
    exact (hT.block _ (h.lt _ _ a2) (fun e' => by rw [a2] at e'; cases e')).trans a1)
  exact ⟨ρ', I, h4, rfl, fun k ⟨t, e⟩ => (h6.2 k t e).elim id (fun e => ⟨_, e⟩), hT.mono fun k e => ⟨_, e⟩⟩
def KS.rdx (K : KS) (x : De) (m : Int) : List UInt8 × Int × KS := match K.tho x with
  | .file b => (piece b x.pos m.toNat, 0, K.setDe { x with pos := x.pos + (piece b x.pos m.toNat).length })
  | .term ls scr => (rdH ls m, Te_rdE m, K.setOb x.th (.term (rdR ls m) scr))
  | .pipe q rd wt => (rdB m q rd wt, Kp_rdE m q.length rd wt, K.setOb x.th (.pipe (rdQ m q rd wt) rd wt))
def PRd (ρ : Nat → Option PTag) (I : PI) (w : World) (r : List UInt8 × Int × KS) (e : Ending) (w' : World) : Prop :=
  ∃ v, e = .returned (.tuple #[v, .int .i64 r.2.1]) ∧ w'.ownsRow w.heap.size 5 1 v r.1.length (r.1.map bv) ∧ PHold ρ I w r.2.2 w'
theorem PK.pobj {W : World} {ρ : Nat → Option PTag} {I : PI} {K : KS} (h : PK W ρ I K) {x : De} (hx : x ∈ K.de) : PObj W (fun k => ρ k = some (.obj x.th)) (I.ob x.th) (K.tho x) := by
  have hi := h.ok.th x hx
  rw [KS.tho_eq hi]
  exact h.comp (.obj x.th) hi
theorem xread_file (ρ : Nat → Option PTag) (I : PI) (K : KS) (x : De) (b : List UInt8) (m : Int) (w : World) (h : PK w ρ I K) (hx : x ∈ K.de) (ho : K.tho x = .file b) (h1 : 1 ≤ m) (h2 : m ≤ 1048576) :
    Calls Tryz.prog 333 #[.pointer (some ⟨I.xb x.n, 0, none⟩), .int .i64 m] w (PRd ρ I w (K.rdx x m)) := by
  have hO := h.pobj hx
  rw [ho] at hO
  obtain ⟨hb, ht⟩ := h.comp (.ofile x.n) x hx rfl b ho
  have hdc := h.comp (.desc x.n) x hx rfl
  have hpos := h.ok.pos x hx
  refine (of_read (I.xb x.n) (I.ob x.th) b x.pos (bit x.flags 4) m _ w hb hO hpos h1 h2).mono ?_
  rintro e w' ⟨v, rfl, hrow, hC, hT⟩
  rw [show K.rdx x m = (piece b x.pos m.toNat, 0, K.setDe { x with pos := x.pos + (piece b x.pos m.toNat).length }) by unfold KS.rdx; rw [ho]]
  have hle : x.pos + (piece b x.pos m.toNat).length ≤ 1048576 := by have := hO.1; rw [piece_len]; omega
  have hT2 : Turned (fun k => ρ k = some (.desc x.n) ∨ ρ k = some (.ofile x.n)) w w' := hT.mono fun k e => by rw [e]; exact .inr ht
  refine ⟨v, rfl, hrow, PHold.of (h.setDe hx (x' := { x with pos := x.pos + (piece b x.pos m.toNat).length }) rfl rfl rfl hle (h.ok.held x hx) hT2 ?_ ?_) rfl (hT.mono fun k e => ⟨.ofile x.n, by rw [e]; exact ht⟩)⟩
  · exact (hT.block _ (h.lt _ _ hdc.2) (fun e => by rw [e, ht] at hdc; cases hdc.2)).trans hdc.1
  · intro b' _
    exact hC
theorem xread_term (ρ : Nat → Option PTag) (I : PI) (K : KS) (x : De) (ls : List (List UInt8)) (scr : List UInt8) (m : Int) (w : World) (h : PK w ρ I K) (hx : x ∈ K.de) (ho : K.tho x = .term ls scr) :
    Calls Tryz.prog 324 #[.pointer (some ⟨I.cb x.th, 0, none⟩), .int .i64 m] w (PRd ρ I w (K.rdx x m)) := by
  have hO := h.pobj hx
  have hi := h.ok.th x hx
  have hth := KS.tho_eq (K := K) (x := x) hi
  rw [ho] at hO hth
  obtain ⟨hb, ht⟩ := h.comp (.cons x.th) hi ls scr hth.symm
  refine (co_read (I.cb x.th) (I.ob x.th) scr.length ls scr m _ w hb hO).mono ?_
  rintro e w' ⟨v, rfl, hrow, hS, hT⟩
  rw [show K.rdx x m = (rdH ls m, Te_rdE m, K.setOb x.th (.term (rdR ls m) scr)) by unfold KS.rdx; rw [ho]]
  exact ⟨v, rfl, hrow, h.objHold hi (by rw [← hth]; rfl) hS hT (fun ls' scr' e => ⟨ls, scr, hth.symm, by cases e; rfl⟩)⟩
theorem xread_pipe (ρ : Nat → Option PTag) (I : PI) (K : KS) (x : De) (q : List UInt8) (rd wt : Nat) (m : Int) (w : World) (h : PK w ρ I K) (hx : x ∈ K.de) (ho : K.tho x = .pipe q rd wt) :
    Calls Tryz.prog 350 #[.agg #[.pointer (some ⟨I.ob x.th, 0, none⟩)], .int .i64 m] w (PRd ρ I w (K.rdx x m)) := by
  have hO := h.pobj hx
  have hi := h.ok.th x hx
  have hth := KS.tho_eq (K := K) (x := x) hi
  rw [ho] at hO hth
  refine (pp_read (I.ob x.th) q rd wt m _ w hO).mono ?_
  rintro e w' ⟨v, rfl, hrow, hS, hT⟩
  rw [show K.rdx x m = (rdB m q rd wt, Kp_rdE m q.length rd wt, K.setOb x.th (.pipe (rdQ m q rd wt) rd wt)) by unfold KS.rdx; rw [ho]]
  exact ⟨v, rfl, hrow, h.objHold hi (by rw [← hth]; rfl) hS hT (fun ls' scr' e => by cases e)⟩
theorem read_is {K : KS} {d n : Int} {x : De} (hx : K.find d = some x) (h1 : fbit x.flags 1 ≠ 0) (h2 : 1 ≤ n) (h3 : n ≤ 1048576) (h4 : (K.tho x).waits = false) :
    K.read d n = if (nxt K.plan n).2 = 0 then K.readUp.rdx x (nxt K.plan n).1 else ([], (nxt K.plan n).2, K.readUp) := by
  unfold KS.read KS.rdx
  rw [hx]
  simp only
  rw [if_neg h1, if_neg (by omega), if_neg (by omega), if_neg (by rw [h4]; decide)]
  show _ = if _ then (match K.tho x with | .file b => _ | .term ls scr => _ | .pipe q rd wt => _) else _
  split
  · cases K.tho x <;> rfl
  · rfl
theorem PRd.refused {w : World} {ρ : Nat → Option PTag} {I : PI} {K : KS} {w' : World} (h : PK w ρ I K) (hB : Below w.heap.size w w') (E : Int) : PRd ρ I w ([], E, K) (.returned (.tuple #[.slice none 0 0, .int .i64 E])) w' :=
  ⟨_, rfl, World.ownsRow_nil _ _ _ _, PHold.of (h.under hB) rfl (Turned.of_below hB)⟩
end Go.Proofs.YtdmkjbdlidadiaaGreat

/- The program's kernel: what is written to a thing. -/
namespace Go.Proofs.YtdmkjbdlidadiaaGreat
open Go.RowKit Go.Maps

def KS.wrx (K : KS) (x : De) (b : List UInt8) (m : Int) : Int × Int × KS := match K.tho x with
  | .file f => ((min m.toNat (1048576 - placeOf f x.flags x.pos) : Nat), 0, (K.setOb x.th (.file (wrL f (placeOf f x.flags x.pos) (b.take (min m.toNat (1048576 - placeOf f x.flags x.pos)))))).setDe { x with pos := placeOf f x.flags x.pos + min m.toNat (1048576 - placeOf f x.flags x.pos) })
  | .term ls scr => ((min m.toNat (1048576 - scr.length) : Nat), 0, K.setOb x.th (.term ls (scr ++ b.take (min m.toNat (1048576 - scr.length)))))
  | .pipe q rd wt => ((wrN b.length m q.length rd wt : Nat), Kp_wrE b.length m q.length rd wt, K.setOb x.th (.pipe (q ++ b.take (wrN b.length m q.length rd wt)) rd wt))
def PNum (ρ : Nat → Option PTag) (I : PI) (w : World) (r : Int × Int × KS) (e : Ending) (w' : World) : Prop :=
  e = .returned (.tuple #[.int .i64 r.1, .int .i64 r.2.1]) ∧ PNext ρ I w r.2.2 w'
theorem PNum.refused {w : World} {ρ : Nat → Option PTag} {I : PI} {K : KS} {w' : World} (h : PK w ρ I K) (hB : Below w.heap.size w w') (E : Int) : PNum ρ I w (0, E, K) (.returned (.tuple #[.int .i64 0, .int .i64 E])) w' :=
  ⟨rfl, PNext.of (h.under hB) rfl (Turned.of_below hB)⟩
theorem plc_place (b : List UInt8) (f : Int) (pos : Nat) : plc b (bit f 4) pos = placeOf b f pos := rfl
theorem xwrite_file (ρ : Nat → Option PTag) (I : PI) (K : KS) (x : De) (b bs : List UInt8) (m : Nat) (a1 : Option Addr) (cx : Nat) (w : World) (h : PK w ρ I K) (hx : x ∈ K.de) (ho : K.tho x = .file b)
    (hb : Bys w (.slice a1 bs.length cx) bs) (hcap : bs.length ≤ cx) (h1 : 1 ≤ m) (h2 : m ≤ bs.length) (h3 : bs.length ≤ 1048576) (hd : ∀ k, (Value.slice a1 bs.length cx).ownBlock = some k → ¬ Own ρ k) :
    Calls Tryz.prog 336 #[.pointer (some ⟨I.xb x.n, 0, none⟩), .slice a1 bs.length cx, .int .i64 m] w (PNum ρ I w (K.wrx x bs m)) := by
  have hO := h.pobj hx
  have hi := h.ok.th x hx
  have hth := KS.tho_eq (K := K) (x := x) hi
  rw [ho] at hO hth
  obtain ⟨hxb, ht⟩ := h.comp (.ofile x.n) x hx rfl b ho
  have hdc := h.comp (.desc x.n) x hx rfl
  have hpos := h.ok.pos x hx
  have hxO : ¬ ρ (I.xb x.n) = some (.obj x.th) := fun e => by rw [ht] at e; cases e
  refine (of_write (I.xb x.n) (I.ob x.th) b bs x.pos (bit x.flags 4) m a1 cx _ w hxb hO hxO hpos hb hcap h1 h2 h3 (fun k e => ⟨fun e' => hd k e ⟨_, e'⟩, fun e' => hd k e ⟨.ofile x.n, by rw [e']; exact ht⟩⟩)).mono ?_
  rintro e w' ⟨rfl, hS⟩
  rw [plc_place] at hS
  have hat : placeOf b x.flags x.pos ≤ 1048576 := by
    unfold placeOf; split
    · exact hO.1
    · exact hpos
  rw [show K.wrx x bs m = (((min m (1048576 - placeOf b x.flags x.pos) : Nat) : Int), 0, (K.setOb x.th (.file (wrL b (placeOf b x.flags x.pos) (bs.take (min m (1048576 - placeOf b x.flags x.pos)))))).setDe { x with pos := placeOf b x.flags x.pos + min m (1048576 - placeOf b x.flags x.pos) }) by unfold KS.wrx; rw [ho]; rfl]
  rw [plc_place]
  generalize placeOf b x.flags x.pos = A at *
  have hz : (bs.take (min m (1048576 - A))).length = min m (1048576 - A) := by simp; omega
  rw [hz] at hS ⊢
  have hN : A + min m (1048576 - A) ≤ 1048576 := by omega
  generalize min m (1048576 - A) = N at *
  have hT1 := (Turned.refl (fun k => k = I.xb x.n) w).set (g := I.xb x.n) (j := 1) (u := .int .i64 ((A : Int) + (N : Int))) (.inl rfl)
  have hP1 : PK (w.setCell ⟨I.xb x.n, 1, none⟩ (.int .i64 ((A : Int) + (N : Int)))) ρ I (K.setDe { x with pos := A + N }) := by
    refine h.setDe hx (x' := { x with pos := A + N }) rfl rfl rfl hN (h.ok.held x hx) (hT1.mono fun k e => by rw [e]; exact .inr ht) ?_ ?_
    · exact (hT1.block _ (h.lt _ _ hdc.2) (fun e => by rw [e, ht] at hdc; cases hdc.2)).trans hdc.1
    · intro b' _
      rw [heap_setCell_same 1 _ hxb]
      rfl
  refine ⟨rfl, PNext.after (hT1.mono fun k e => ⟨.ofile x.n, by rw [e]; exact ht⟩) rfl (hP1.objStep (ob' := .file (wrL b A (bs.take N))) hi (by show (1 : Int) = (K.th[x.th].ob).kind; rw [← hth]; rfl) hS (fun ls scr e => by cases e))⟩
theorem xwrite_term (ρ : Nat → Option PTag) (I : PI) (K : KS) (x : De) (ls : List (List UInt8)) (scr bs : List UInt8) (m : Nat) (a1 : Option Addr) (cx : Nat) (w : World) (h : PK w ρ I K) (hx : x ∈ K.de) (ho : K.tho x = .term ls scr)
    (hb : Bys w (.slice a1 bs.length cx) bs) (hcap : bs.length ≤ cx) (h1 : 1 ≤ m) (h2 : m ≤ bs.length) (h3 : bs.length ≤ 1048576) (hd : ∀ k, (Value.slice a1 bs.length cx).ownBlock = some k → ¬ Own ρ k) :
    Calls Tryz.prog 327 #[.pointer (some ⟨I.cb x.th, 0, none⟩), .slice a1 bs.length cx, .int .i64 m] w (PNum ρ I w (K.wrx x bs m)) := by
  have hO := h.pobj hx
  have hi := h.ok.th x hx
  have hth := KS.tho_eq (K := K) (x := x) hi
  rw [ho] at hO hth
  obtain ⟨hcb, ht⟩ := h.comp (.cons x.th) hi ls scr hth.symm
  have hxO : ¬ ρ (I.cb x.th) = some (.obj x.th) := fun e => by rw [ht] at e; cases e
  have hat : scr.length ≤ 1048576 := hO.ok.2.2
  refine (co_write (I.cb x.th) (I.ob x.th) ls scr bs m a1 cx _ w hcb hO hxO hb hcap h1 h2 h3 (fun k e e' => hd k e ⟨.cons x.th, by rw [e']; exact ht⟩)).mono ?_
  rintro e w' ⟨rfl, hC, ⟨O', hO1, hO2⟩, hT⟩
  rw [show K.wrx x bs m = (((min m (1048576 - scr.length) : Nat) : Int), 0, K.setOb x.th (.term ls (scr ++ bs.take (min m (1048576 - scr.length))))) by unfold KS.wrx; rw [ho]; rfl]
  have hz : (bs.take (min m (1048576 - scr.length))).length = min m (1048576 - scr.length) := by simp; omega
  rw [hz]
  obtain ⟨ρ', a1, a2, a3⟩ := h.setOb hi (ob' := .term ls (scr ++ bs.take (min m (1048576 - scr.length)))) (by rw [← hth]; rfl) (hT.mono fun k e => e.imp id (fun e => by rw [e]; exact ht)) hO1 hO2 (fun ls' scr' e => by cases e; exact hC)
  exact ⟨rfl, ρ', I, a1, rfl, a2, hT.mono fun k e => by
    rcases e with e | e
    · exact ⟨_, e⟩
    · exact ⟨.cons x.th, by rw [e]; exact ht⟩⟩
theorem xwrite_pipe (ρ : Nat → Option PTag) (I : PI) (K : KS) (x : De) (q : List UInt8) (rd wt : Nat) (bs : List UInt8) (m : Int) (a1 : Option Addr) (cx : Nat) (w : World) (h : PK w ρ I K) (hx : x ∈ K.de) (ho : K.tho x = .pipe q rd wt)
    (hb : Bys w (.slice a1 bs.length cx) bs) (hcap : bs.length ≤ cx) (h3 : bs.length ≤ 1048576) (hd : ∀ k, (Value.slice a1 bs.length cx).ownBlock = some k → ¬ Own ρ k) :
    Calls Tryz.prog 353 #[.agg #[.pointer (some ⟨I.ob x.th, 0, none⟩)], .slice a1 bs.length cx, .int .i64 m] w (PNum ρ I w (K.wrx x bs m)) := by
  have hO := h.pobj hx
  have hi := h.ok.th x hx
  have hth := KS.tho_eq (K := K) (x := x) hi
  rw [ho] at hO hth
  refine (pp_write (I.ob x.th) q bs rd wt m a1 cx _ w hO hb hcap h3 (fun k e e' => hd k e ⟨_, e'⟩)).mono ?_
  rintro e w' ⟨rfl, hS⟩
  rw [show K.wrx x bs m = (((wrN bs.length m q.length rd wt : Nat) : Int), Kp_wrE bs.length m q.length rd wt, K.setOb x.th (.pipe (q ++ bs.take (wrN bs.length m q.length rd wt)) rd wt)) by unfold KS.wrx; rw [ho]]
  exact ⟨rfl, h.objStep hi (by rw [← hth]; rfl) hS (fun ls' scr' e => by cases e)⟩
theorem write_is {K : KS} {d : Int} {b : List UInt8} {x : De} (hx : K.find d = some x) (h1 : fbit x.flags 2 ≠ 0) (h2 : 1 ≤ b.length) (h3 : b.length ≤ 1048576) (h4 : refusal (K.tho x) x.flags x.pos b.length = 0) :
    K.write d b = if (nxt K.plan b.length).2 = 0 then K.writeUp.wrx x b (nxt K.plan b.length).1 else (0, (nxt K.plan b.length).2, K.writeUp) := by
  unfold KS.write KS.wrx
  rw [hx]
  simp only
  rw [if_neg h1, if_neg (by omega), if_neg (by omega), if_pos h4]
  show _ = if _ then (match K.tho x with | .file b => _ | .term ls scr => _ | .pipe q rd wt => _) else _
  split
  · cases K.tho x <;> rfl
  · rfl
end Go.Proofs.YtdmkjbdlidadiaaGreat

/- The program's kernel: Seek, Keep. -/
namespace Go.Proofs.YtdmkjbdlidadiaaGreat
open Go.RowKit Go.Maps

end Go.Proofs.YtdmkjbdlidadiaaGreat

/- The program's kernel: Keep, Drop. -/
namespace Go.Proofs.YtdmkjbdlidadiaaGreat
open Go.RowKit Go.Maps

def PErr (ρ : Nat → Option PTag) (I : PI) (w : World) (r : Int × KS) (e : Ending) (w' : World) : Prop :=
  e = .returned (.int .i64 r.1) ∧ PNext ρ I w r.2 w'
theorem PErr.refused {w : World} {ρ : Nat → Option PTag} {I : PI} {K : KS} {w' : World} (h : PK w ρ I K) (hB : Below w.heap.size w w') (E : Int) : PErr ρ I w (E, K) (.returned (.int .i64 E)) w' :=
  ⟨rfl, PNext.of (h.under hB) rfl (Turned.of_below hB)⟩
theorem PK.apart {W : World} {ρ : Nat → Option PTag} {I : PI} {K : KS} (h : PK W ρ I K) : K.de.Pairwise fun a b => a.n ≠ b.n := by
  have := (h.comp .omap).1.nodup
  unfold KS.dl at this
  rw [List.pairwise_map] at this
  exact this.imp fun {a b} hab e => hab (by rw [e])
theorem PK.lose {W W' : World} {ρ : Nat → Option PTag} {I : PI} {K : KS} (h : PK W ρ I K) {x : De} (hm : PMap W' Tryz.prog 3 I.om ((K.lose x.n).dl I)) (hT : Turned (fun k => ρ k = some (.desc x.n) ∨ ρ k = some .omap) W W') : PK W' ρ I (K.lose x.n) := by
  have key : ∀ t, t ≠ .desc x.n → t ≠ .omap → PComp W' ρ I K t := fun t h1 h2 => (h.comp t).keep (fun k e hlt => hT.block k hlt (fun e' => by
    rcases e' with e' | e'
    · rw [e'] at e; exact h1 (Option.some.inj e).symm
    · rw [e'] at e; exact h2 (Option.some.inj e).symm)) hT.size
  have sub : ∀ d, d ∈ (K.lose x.n).de → d ∈ K.de ∧ d.n ≠ x.n := fun d hd => by
    have := List.mem_filter.1 hd
    exact ⟨this.1, by simpa using this.2⟩
  refine ⟨fun t => ?_, fun k t e => Nat.lt_of_lt_of_le (h.lt k t e) hT.size, ⟨Nat.le_trans (List.length_filter_le _ _) h.ok.few, h.ok.named, fun d hd => h.ok.th d (sub d hd).1, h.ok.nm, fun d hd => h.ok.num d (sub d hd).1, fun d hd d' hd' => h.ok.once d (sub d hd).1 d' (sub d' hd').1, fun d hd => h.ok.flags d (sub d hd).1, fun d hd => h.ok.pos d (sub d hd).1, fun d hd => h.ok.held d (sub d hd).1, h.ok.plan⟩, h.nm.same rfl rfl⟩
  cases t with
  | kern => exact key .kern (by simp) (by simp)
  | fmap => exact key .fmap (by simp) (by simp)
  | tmap => exact key .tmap (by simp) (by simp)
  | omap => exact ⟨hm, (h.comp .omap).2⟩
  | plan => exact key .plan (by simp) (by simp)
  | obj i => exact key (.obj i) (by simp) (by simp)
  | cons i => exact key (.cons i) (by simp) (by simp)
  | desc n =>
    intro d hd e
    subst e
    exact key (.desc d.n) (by simpa using (sub d hd).2) (by simp) d (sub d hd).1 rfl
  | ofile n => exact fun d hd e b hb => key (.ofile n) (by simp) (by simp) d (sub d hd).1 e b hb
end Go.Proofs.YtdmkjbdlidadiaaGreat

/- The program's kernel: Drop, CanRead, CanWrite. -/
namespace Go.Proofs.YtdmkjbdlidadiaaGreat
open Go.RowKit Go.Maps

end Go.Proofs.YtdmkjbdlidadiaaGreat

/- The program's kernel: new things and new descriptions. -/
namespace Go.Proofs.YtdmkjbdlidadiaaGreat
open Go.RowKit Go.Maps

def upd (f : Nat → Nat) (i v : Nat) : Nat → Nat := fun j => if j = i then v else f j
theorem upd_same (f : Nat → Nat) (i v : Nat) : upd f i v i = v := by simp [upd]
theorem upd_other {f : Nat → Nat} {i v j : Nat} (h : j ≠ i) : upd f i v j = f j := by simp [upd, h]
structure More (K K' : KS) (t : Th) : Prop where
  th : K'.th = K.th ++ [t]
  de : K'.de = K.de
  next : K'.next = K.next
  plan : K'.plan = K.plan
  reads : K'.reads = K.reads
  writes : K'.writes = K.writes
theorem More.obOf {K K' : KS} {t : Th} (h : More K K' t) {j : Nat} (hj : j < K.th.length) : K'.obOf j = K.obOf j := by simp [KS.obOf, h.th, List.getElem?_append_left hj]
theorem More.nameOf {K K' : KS} {t : Th} (h : More K K' t) {j : Nat} (hj : j < K.th.length) : K'.nameOf j = K.nameOf j := by simp [KS.nameOf, h.th, List.getElem?_append_left hj]
theorem More.obNew {K K' : KS} {t : Th} (h : More K K' t) : K'.obOf K.th.length = t.ob := by simp [KS.obOf, h.th]
theorem More.nameNew {K K' : KS} {t : Th} (h : More K K' t) : K'.nameOf K.th.length = t.name := by simp [KS.nameOf, h.th]
theorem More.at {K K' : KS} {t : Th} (h : More K K' t) {j : Nat} (hj : j < K.th.length) (hj' : j < K'.th.length) : K'.th[j] = K.th[j] := by simp [h.th, List.getElem_append_left hj]
theorem More.atNew {K K' : KS} {t : Th} (h : More K K' t) (hj' : K.th.length < K'.th.length) : K'.th[K.th.length] = t := by simp [h.th]
theorem PK.more {W W' : World} {ρ : Nat → Option PTag} {I : PI} {K K' : KS} {t : Th} (h : PK W ρ I K) (hM : More K K' t) (p c : Nat) {O' : Nat → Prop} (hO : PObj W' O' p t.ob) (hO' : ∀ k, O' k → W.heap.size ≤ k ∧ k ≠ c)
    (hc : ∀ ls scr, t.ob = .term ls scr → COc W' c p scr.length ∧ W.heap.size ≤ c) (hT : Turned (fun k => ρ k = some .fmap ∨ ρ k = some .tmap) W W') (hok : KOk K') (hnm : KNm K')
    (hf : PMap W' Tryz.prog 9 I.fm (K'.fl { I with ob := upd I.ob K.th.length p, cb := upd I.cb K.th.length c })) (ht : PMap W' Tryz.prog 9 I.tm (K'.tl { I with ob := upd I.ob K.th.length p, cb := upd I.cb K.th.length c })) :
    ∃ ρ', PK W' ρ' { I with ob := upd I.ob K.th.length p, cb := upd I.cb K.th.length c } K' ∧ newTags ρ ρ' W ∧ ∀ k, k < W.heap.size → ρ' k = ρ k := by
  classical
  obtain ⟨ρ', hρ⟩ : ∃ ρ' : Nat → Option PTag, ρ' = fun k => if k < W.heap.size then ρ k else if k < W'.heap.size then (if k = c then some (.cons K.th.length) else if O' k then some (.obj K.th.length) else none) else none := ⟨_, rfl⟩
  have low : ∀ k, k < W.heap.size → ρ' k = ρ k := fun k hlt => by rw [hρ]; simp [hlt]
  have fit : ∀ {k t}, ρ k = some t → ρ' k = some t := fun {k t} e => (low k (h.lt k t e)).trans e
  have back : ∀ {k t}, ρ' k = some t → ρ k = some t ∨ (W.heap.size ≤ k ∧ k < W'.heap.size) := by
    intro k t e
    by_cases hlt : k < W.heap.size
    · rw [low k hlt] at e; exact .inl e
    · rw [hρ] at e
      simp only [if_neg hlt] at e
      split at e
      · exact .inr ⟨by omega, by assumption⟩
      · cases e
  have key : ∀ t, t ≠ .fmap → t ≠ .tmap → PComp W' ρ I K t := fun t h1 h2 => (h.comp t).keep (fun k e hlt => hT.block k hlt (fun e' => by
    rcases e' with e' | e'
    · rw [e'] at e; exact h1 (Option.some.inj e).symm
    · rw [e'] at e; exact h2 (Option.some.inj e).symm)) hT.size
  have hlen : K'.th.length = K.th.length + 1 := by rw [hM.th]; simp
  have hthv : ∀ d ∈ K.de, thingV { I with ob := upd I.ob K.th.length p, cb := upd I.cb K.th.length c } K' d = thingV I K d := by
    intro d hd
    have hlt := h.ok.th d hd
    unfold thingV
    rw [KS.tho_obOf, KS.tho_obOf, hM.obOf hlt]
    simp only [upd_other (Nat.ne_of_lt hlt)]
  refine ⟨ρ', ⟨fun t' => ?_, fun k t e => ?_, hok, hnm⟩, fun k t e => (back e).imp (fun e' => ⟨t, e'⟩) (fun e' => e'.1), low⟩
  · cases t' with
    | kern =>
      obtain ⟨a1, a2, a3⟩ := key .kern (by simp) (by simp)
      refine ⟨?_, fit a2, by rw [hM.next]; exact a3⟩
      rw [hM.reads, hM.writes]
      exact a1
    | fmap => exact ⟨hf, fit (h.comp .fmap).2⟩
    | tmap => exact ⟨ht, fit (h.comp .tmap).2⟩
    | omap =>
      obtain ⟨a1, a2⟩ := key .omap (by simp) (by simp)
      refine ⟨?_, fit a2⟩
      unfold KS.dl at a1 ⊢
      rw [hM.de]
      exact a1
    | plan =>
      obtain ⟨a1, a2, a3⟩ := key .plan (by simp) (by simp)
      refine ⟨?_, fit a2, fun k e => fit (a3 k e)⟩
      rw [hM.plan]
      exact a1
    | obj j =>
      intro hj
      by_cases e : j = K.th.length
      · subst e
        rw [hM.atNew hj]
        simp only [upd_same]
        refine hO.trim.mono fun k ⟨e1, e2⟩ => ?_
        have := hO' k e1
        rw [hρ]
        simp [Nat.not_lt.2 this.1, e2, this.2, e1]
      · have hj' : j < K.th.length := by omega
        rw [hM.at hj' hj]
        simp only [upd_other e]
        exact (key (.obj j) (by simp) (by simp) hj').mono fun k e => fit e
    | cons j =>
      intro hj ls scr e1
      by_cases e : j = K.th.length
      · subst e
        rw [hM.atNew hj] at e1
        obtain ⟨a1, a2⟩ := hc ls scr e1
        simp only [upd_same]
        have hlt : c < W'.heap.size := (Array.getElem?_eq_some_iff.1 a1).1
        exact ⟨a1, by rw [hρ]; simp [Nat.not_lt.2 a2, hlt]⟩
      · have hj' : j < K.th.length := by omega
        rw [hM.at hj' hj] at e1
        simp only [upd_other e]
        obtain ⟨a1, a2⟩ := key (.cons j) (by simp) (by simp) hj' ls scr e1
        exact ⟨a1, fit a2⟩
    | desc n =>
      intro d hd e
      rw [hM.de] at hd
      obtain ⟨a1, a2⟩ := key (.desc n) (by simp) (by simp) d hd e
      exact ⟨by rw [hthv d hd]; exact a1, fit a2⟩
    | ofile n =>
      intro d hd e b hb
      rw [hM.de] at hd
      have hlt := h.ok.th d hd
      rw [KS.tho_obOf, hM.obOf hlt] at hb
      simp only [upd_other (Nat.ne_of_lt hlt)]
      obtain ⟨a1, a2⟩ := key (.ofile n) (by simp) (by simp) d hd e b hb
      exact ⟨a1, fit a2⟩
  · rcases back e with e' | e'
    · exact Nat.lt_of_lt_of_le (h.lt k t e') hT.size
    · exact e'.2
structure Described (w : World) (I : PI) (K : KS) (tv : Value) (flags : Int) (nb : Nat) (w' : World) : Prop where
  new : w.heap.size ≤ nb
  desc : w'.heap[nb]? = some (.cells ([tv, .bool (bit flags 1), .bool (bit flags 2), .int .i64 (1 : Nat)] : List Value).toArray 259 (0, 0))
  kern : w'.heap[I.kb]? = some (.cells ([.bool true, .map (some I.fm), .map (some I.tm), .map (some I.om), .int .i64 ((I.last + 1 : Nat) : Int), .pointer (some ⟨I.pb, 0, none⟩), .int .i64 K.reads, .int .i64 K.writes] : List Value).toArray 102 (0, 0))
  map : PMap w' Tryz.prog 3 I.om ((dkey (I.last + 1), nb) :: K.dl I)
  turned : Turned (fun k => k = I.kb ∨ k = I.om) w w'
theorem flags_ok1 : flagsOk 1 = true ∧ flagsOk 2 = true := by constructor <;> rfl
theorem PK.newDe {w w' : World} {ρ : Nat → Option PTag} {I : PI} {K : KS} (h : PK w ρ I K) {i : Nat} (hi : i < K.th.length) {flags : Int} (hf : flagsOk flags = true) (hfew : K.de.length < 256) {tv : Value} {nb xb : Nat} (hD : Described w I K tv flags nb w')
    (hx : ∀ b, K.obOf i = .file b → tv = .iface 274 (.pointer (some ⟨xb, 0, none⟩)) ∧ OFc w xb (I.ob i) 0 (bit flags 4) ∧ ρ xb = none)
    (hy : ∀ ls scr, K.obOf i = .term ls scr → tv = .iface 112 (.pointer (some ⟨I.cb i, 0, none⟩)))
    (hz : ∀ q rd wt, K.obOf i = .pipe q rd wt → tv = .iface 282 (.agg #[.pointer (some ⟨I.ob i, 0, none⟩)])) :
    ∃ ρ', PK w' ρ' { I with db := upd I.db K.next nb, xb := upd I.xb K.next xb, last := I.last + 1 } (K.newDe i flags) ∧ (∀ k t, ρ' k = some t → ρ k = some t ∨ k = nb ∨ ((∃ b, K.obOf i = .file b) ∧ k = xb)) ∧ (∀ k t, ρ k = some t → ρ' k = some t) := by
  classical
  have hnx := (h.comp .kern).2.2
  have hkb := (h.comp .kern).2.1
  have hom := (h.comp .omap).2
  obtain ⟨ρ', hρ⟩ : ∃ ρ' : Nat → Option PTag, ρ' = fun k => if k = nb then some (.desc K.next) else if (∃ b, K.obOf i = .file b) ∧ k = xb then some (.ofile K.next) else ρ k := ⟨_, rfl⟩
  have hnb : ∀ {k t}, ρ k = some t → k ≠ nb := fun {k t} e e' => by have := h.lt k t e; have := hD.new; omega
  have fit : ∀ {k t}, ρ k = some t → ρ' k = some t := fun {k t} e => by
    rw [hρ]
    simp only [if_neg (hnb e)]
    rw [if_neg (fun hh => by obtain ⟨⟨b, hb⟩, e'⟩ := hh; rw [e', (hx b hb).2.2] at e; cases e)]
    exact e
  have back : ∀ {k t}, ρ' k = some t → ρ k = some t ∨ k = nb ∨ ((∃ b, K.obOf i = .file b) ∧ k = xb) := fun {k t} e => by
    rw [hρ] at e
    simp only at e
    split at e
    · rename_i hh; exact .inr (.inl hh)
    · split at e
      · rename_i hh; exact .inr (.inr hh)
      · exact .inl e
  have hT := hD.turned
  have key : ∀ t, t ≠ .kern → t ≠ .omap → PComp w' ρ I K t := fun t h1 h2 => (h.comp t).keep (fun k e hlt => hT.block k hlt (fun e' => by
    rcases e' with e' | e'
    · rw [e', hkb] at e; exact h1 (Option.some.inj e).symm
    · rw [e', hom] at e; exact h2 (Option.some.inj e).symm)) hT.size
  have hmem : ∀ d, d ∈ (K.newDe i flags).de → d ∈ K.de ∨ d = ⟨K.next, i, flags, 0, 1⟩ := fun d hd => by
    have : d ∈ K.de ++ [(⟨K.next, i, flags, 0, 1⟩ : De)] := hd
    simpa using this
  have hold : ∀ d ∈ K.de, d.n ≠ K.next := fun d hd => by have := (h.ok.num d hd).2; omega
  have hthv : ∀ d ∈ K.de, thingV { I with db := upd I.db K.next nb, xb := upd I.xb K.next xb, last := I.last + 1 } (K.newDe i flags) d = thingV I K d := by
    intro d hd
    unfold thingV
    rw [show (K.newDe i flags).tho d = K.tho d from rfl]
    simp only [upd_other (hold d hd)]
  have h1n : 1 ≤ K.next := by omega
  refine ⟨ρ', ⟨fun t' => ?_, fun k t e => ?_, ?_, h.nm.same rfl rfl⟩, fun k t e => back e, fun k t e => fit e⟩
  · cases t' with
    | kern => exact ⟨hD.kern, fit hkb, by show K.next + 1 = _; rw [hnx]⟩
    | fmap => obtain ⟨a1, a2⟩ := key .fmap (by simp) (by simp); exact ⟨a1, fit a2⟩
    | tmap => obtain ⟨a1, a2⟩ := key .tmap (by simp) (by simp); exact ⟨a1, fit a2⟩
    | omap =>
      refine ⟨hD.map.perm ?_, fit hom⟩
      unfold KS.dl
      show List.Perm _ (List.map _ (K.de ++ [_]))
      rw [List.map_append]
      simp only [List.map_cons, List.map_nil, upd_same]
      rw [show K.de.map (fun d => (dkey d.n, upd I.db K.next nb d.n)) = K.de.map (fun d => (dkey d.n, I.db d.n)) from List.map_congr_left fun d hd => by rw [upd_other (hold d hd)], hnx]
      exact (List.perm_append_comm (l₁ := [_]) (l₂ := _))
    | plan => obtain ⟨a1, a2, a3⟩ := key .plan (by simp) (by simp); exact ⟨a1, fit a2, fun k e => fit (a3 k e)⟩
    | obj j => exact fun hj => (key (.obj j) (by simp) (by simp) hj).mono fun k e => fit e
    | cons j => exact fun hj ls scr e => by obtain ⟨a1, a2⟩ := key (.cons j) (by simp) (by simp) hj ls scr e; exact ⟨a1, fit a2⟩
    | desc n =>
      intro d hd e
      subst e
      rcases hmem d hd with hd | rfl
      · obtain ⟨a1, a2⟩ := key (.desc d.n) (by simp) (by simp) d hd rfl
        simp only [upd_other (hold d hd)]
        exact ⟨by rw [hthv d hd]; exact a1, fit a2⟩
      · simp only [upd_same]
        refine ⟨?_, by rw [hρ]; simp⟩
        rw [hD.desc]
        have : thingV { I with db := upd I.db K.next nb, xb := upd I.xb K.next xb, last := I.last + 1 } (K.newDe i flags) ⟨K.next, i, flags, 0, 1⟩ = tv := by
          unfold thingV
          rw [show (K.newDe i flags).tho ⟨K.next, i, flags, 0, 1⟩ = K.obOf i from rfl]
          cases ho : K.obOf i with
          | file b => simp only [upd_same]; exact (hx b ho).1.symm
          | term ls scr => exact (hy ls scr ho).symm
          | pipe q rd wt => exact (hz q rd wt ho).symm
        rw [this]
    | ofile n =>
      intro d hd e b hb
      subst e
      rcases hmem d hd with hd | rfl
      · obtain ⟨a1, a2⟩ := key (.ofile d.n) (by simp) (by simp) d hd rfl b hb
        simp only [upd_other (hold d hd)]
        exact ⟨a1, fit a2⟩
      · simp only [upd_same]
        have hb' : K.obOf i = .file b := hb
        obtain ⟨a1, a2, a3⟩ := hx b hb'
        have hlt : xb < w.heap.size := (Array.getElem?_eq_some_iff.1 a2).1
        refine ⟨(hT.block xb hlt (fun e => ?_)).trans a2, ?_⟩
        · rcases e with e | e
          · rw [e, hkb] at a3; cases a3
          · rw [e, hom] at a3; cases a3
        · rw [hρ]
          have : xb ≠ nb := by have := hD.new; omega
          simp [this, hb']
  · rcases back e with e' | rfl | ⟨⟨b, hb⟩, rfl⟩
    · exact Nat.lt_of_lt_of_le (h.lt k t e') hT.size
    · exact (Array.getElem?_eq_some_iff.1 hD.desc).1
    · exact Nat.lt_of_lt_of_le (Array.getElem?_eq_some_iff.1 (hx b hb).2.1).1 hT.size
  · refine ⟨by show (K.de ++ [_]).length ≤ 256; simp; omega, h.ok.named, fun d hd => ?_, h.ok.nm, fun d hd => ?_, fun d hd d' hd' e => ?_, fun d hd => ?_, fun d hd => ?_, fun d hd => ?_, h.ok.plan⟩
    · rcases hmem d hd with hd | rfl
      · exact h.ok.th d hd
      · exact hi
    · rcases hmem d hd with hd | rfl
      · have := h.ok.num d hd; exact ⟨this.1, by show d.n < K.next + 1; omega⟩
      · exact ⟨h1n, by show K.next < K.next + 1; omega⟩
    · rcases hmem d hd with hd | rfl <;> rcases hmem d' hd' with hd' | rfl
      · exact h.ok.once d hd d' hd' e
      · exact absurd e (hold d hd)
      · exact absurd e.symm (hold d' hd')
      · rfl
    · rcases hmem d hd with hd | rfl
      · exact h.ok.flags d hd
      · exact hf
    · rcases hmem d hd with hd | rfl
      · exact h.ok.pos d hd
      · exact Nat.zero_le _
    · rcases hmem d hd with hd | rfl
      · exact h.ok.held d hd
      · exact ⟨Nat.le_refl _, by show (1 : Nat) ≤ 1024; omega⟩
end Go.Proofs.YtdmkjbdlidadiaaGreat

/- The program's kernel: describe. -/
namespace Go.Proofs.YtdmkjbdlidadiaaGreat
open Go.RowKit Go.Maps

set_option maxRecDepth 100000 in
set_option maxHeartbeats 2000000 in
theorem describe_any (ρ : Nat → Option PTag) (I : PI) (K : KS) (tT : TypeId) (tu : Value) (flags : Int) (w : World) (h : PK w ρ I K) (hl : I.last + 1 < 9223372036854775807) :
    Calls Tryz.prog 154 #[.pointer (some ⟨I.kb, 0, none⟩), .iface tT tu, .int .i64 flags] w fun e w' => e = .returned (.int .i64 ((I.last + 1 : Nat) : Int)) ∧ ∃ nb, Described w I K (.iface tT tu) flags nb w' := by
  have c3 := h.cells.opens
  have c4 := h.cells.last
  have c4s : w.frozen? ⟨I.kb, 4, none⟩ = false := frozen_of_row w I.kb 4 _ _ (h.comp .kern).1
  have hb := (h.comp .kern).1
  have hT1 := (Turned.refl (fun k => k = I.kb) w).set (g := I.kb) (j := 4) (u := .int .i64 ((I.last : Int) + 1)) (.inl rfl)
  have b1 : (w.setCell ⟨I.kb, 4, none⟩ (.int .i64 ((I.last : Int) + 1))).heap[I.kb]? = some (.cells ([.bool true, .map (some I.fm), .map (some I.tm), .map (some I.om), .int .i64 ((I.last + 1 : Nat) : Int), .pointer (some ⟨I.pb, 0, none⟩), .int .i64 K.reads, .int .i64 K.writes] : List Value).toArray 102 (0, 0)) := by
    rw [heap_setCell_same 4 _ hb]; rfl
  have d3 : (w.setCell ⟨I.kb, 4, none⟩ (.int .i64 ((I.last : Int) + 1))).cell? ⟨I.kb, 3, none⟩ = some (.map (some I.om)) := by rw [cell_of_row _ I.kb _ _ _ _ b1]; rfl
  have d4 : (w.setCell ⟨I.kb, 4, none⟩ (.int .i64 ((I.last : Int) + 1))).cell? ⟨I.kb, 4, none⟩ = some (.int .i64 ((I.last : Int) + 1)) := by rw [cell_of_row _ I.kb _ _ _ _ b1]; rfl
  have hsz : (w.setCell ⟨I.kb, 4, none⟩ (.int .i64 ((I.last : Int) + 1))).heap.size = w.heap.size := heap_set_size _ _ _ _
  have hkb := h.lt _ _ (h.comp .kern).2.1
  have hom := h.lt _ _ (h.comp .omap).2
  have hne : I.om ≠ I.kb := fun e => by have := (h.comp .omap).2; rw [e, (h.comp .kern).2.1] at this; cases this
  have hfew := h.ok.few
  have hmap : PMap ((w.setCell ⟨I.kb, 4, none⟩ (.int .i64 ((I.last : Int) + 1))).drew.alloc (Obj.cells #[.iface tT tu, .bool (bit flags 1), .bool (bit flags 2), .int .i64 1] 259)) Tryz.prog 3 I.om (K.dl I) := by
    refine (h.comp .omap).1.keep ?_
    rw [Below.heap_alloc _ _ I.om (by show I.om < (w.setCell ⟨I.kb, 4, none⟩ (.int .i64 ((I.last : Int) + 1))).heap.size; omega)]
    exact hT1.block _ hom hne
  have hnew : ∀ p ∈ K.dl I, p.1 ≠ dkey (I.last + 1) := fun p hp e => by
    obtain ⟨d, hd, rfl⟩ := List.mem_map.1 hp
    have := (h.ok.num d hd).2
    have := (h.comp .kern).2.2
    simp only [dkey, Lit.int.injEq] at e
    omega
  obtain ⟨w', hrun, hm', hmt⟩ := hmap.store ikeyed Tryz.underlying99 (by show (K.dl I).length < maxLen; unfold KS.dl maxLen; simp; omega) (key := .int .i64 ((I.last : Int) + 1)) (kl := dkey (I.last + 1)) w.heap.size (by rw [show (dkey (I.last + 1)) = Lit.int .i64 ((I.last : Int) + 1) by simp [dkey]]; exact int_key _ (I64.wf ⟨by omega, by omega⟩)) hnew
  have hB2 : Below w.heap.size (w.setCell ⟨I.kb, 4, none⟩ (.int .i64 ((I.last : Int) + 1))) ((w.setCell ⟨I.kb, 4, none⟩ (.int .i64 ((I.last : Int) + 1))).drew.alloc (Obj.cells #[.iface tT tu, .bool (bit flags 1), .bool (bit flags 2), .int .i64 1] 259)) := (Below.refl _ _).drew.trans ((recv_below _ _).mono (by show w.heap.size ≤ (w.setCell ⟨I.kb, 4, none⟩ (.int .i64 ((I.last : Int) + 1))).heap.size; omega))
  have hT2 := mapTurned_turned hmt
  have HD : Hid (Described w I K (.iface tT tu) flags w.heap.size w') := hide (by
    have hlt2 : w.heap.size < ((w.setCell ⟨I.kb, 4, none⟩ (.int .i64 ((I.last : Int) + 1))).drew.alloc (Obj.cells #[.iface tT tu, .bool (bit flags 1), .bool (bit flags 2), .int .i64 1] 259)).heap.size := by
      have := size_new (w.setCell ⟨I.kb, 4, none⟩ (.int .i64 ((I.last : Int) + 1))).drew (Obj.cells #[.iface tT tu, .bool (bit flags 1), .bool (bit flags 2), .int .i64 1] 259)
      rw [← hsz]; exact this
    refine ⟨Nat.le_refl _, ?_, ?_, hm', ?_⟩
    · rw [hT2.block _ hlt2 (by omega)]
      have := heap_alloc_new (w.setCell ⟨I.kb, 4, none⟩ (.int .i64 ((I.last : Int) + 1))).drew (Obj.cells #[.iface tT tu, .bool (bit flags 1), .bool (bit flags 2), .int .i64 1] 259)
      rw [show (w.setCell ⟨I.kb, 4, none⟩ (.int .i64 ((I.last : Int) + 1))).drew.heap.size = w.heap.size from hsz] at this
      exact this
    · rw [hT2.block _ (by omega) (Ne.symm hne), hB2.block _ hkb]
      exact b1
    · exact ((hT1.mono fun k e => Or.inl e).trans (Turned.of_below (S := fun k => k = I.kb ∨ k = I.om) (hB2.mono (by omega))) (fun _ _ e => e)).trans (hT2.mono fun k e => Or.inr e) (fun _ _ e => e))
  have e3 := (hB2.cell (p := ⟨I.kb, 3, none⟩) hkb).trans d3
  have e4 := (hB2.cell (p := ⟨I.kb, 4, none⟩) hkb).trans d4
  have HF : Hid (w'.cell? ⟨I.kb, 4, none⟩ = some (.int .i64 ((I.last : Int) + 1))) := hide (hT2.cell e4 (Ne.symm hne))
  have hrun' : (Instr.mapUpdate 99 (.map (some I.om)) (.int .i64 ((I.last : Int) + 1)) (.pointer (some ⟨w.heap.size, 0, none⟩))).run Tryz.prog (((w.setCell ⟨I.kb, 4, none⟩ (.int .i64 ((I.last : Int) + 1))).alloc (Obj.cells #[.iface tT tu, .bool (bits .and .i64 flags 1 != 0), .bool (bits .and .i64 flags 2 != 0), .int .i64 1] 259)).drew) = .ok () w' := hrun
  have hF := HF.out
  clear hrun e3 e4 HF
  clear hB2 hT2 hmt hm' hmap hT1 h hb b1
  go_enter Tryz.func154, Tryz.ntmps154
  go_wp2_with fail
  go_region
  go_wp2
  go_ret
  exact ⟨by go_num, _, HD.out⟩
end Go.Proofs.YtdmkjbdlidadiaaGreat

/- The program's kernel: new files. -/
namespace Go.Proofs.YtdmkjbdlidadiaaGreat
open Go.RowKit Go.Maps

theorem more_addTh (K : KS) (t : Th) : More K (K.addTh t) t := ⟨rfl, rfl, rfl, rfl, rfl, rfl⟩
theorem more_addP (K : KS) (ob : Ob) : More K (K.addP ob) ⟨ByteArray.empty, ob⟩ := ⟨rfl, rfl, rfl, rfl, rfl, rfl⟩
theorem addTh_nm (K : KS) (t : Th) : (K.addTh t).nm = insN (K.addTh t).nameOf K.th.length K.nm := rfl
theorem KOk.addTh {K : KS} (h : KOk K) (t : Th) (hl : K.nm.length < 256) : KOk (K.addTh t) := by
  have hlen : (K.addTh t).th.length = K.th.length + 1 := by show (K.th ++ [t]).length = _; simp
  refine ⟨h.few, ?_, fun d hd => by have := h.th d hd; omega, fun i hi => ?_, h.num, h.once, h.flags, h.pos, h.held, h.plan⟩
  · rw [addTh_nm, (insN_perm _ _ _).length_eq]; simp; omega
  · rw [addTh_nm] at hi
    rcases mem_insN.1 hi with rfl | hi
    · omega
    · have := h.nm i hi; omega
theorem KNm.addTh {K : KS} (h : KNm K) (hok : KOk K) (t : Th) (hk : t.ob.kind = 1 ∨ t.ob.kind = 2) (hn : nameOk t.name = true) (hnew : ∀ i ∈ K.nm, K.nameOf i ≠ t.name) : KNm (K.addTh t) := by
  have hM := more_addTh K t
  refine ⟨?_, fun i hi => ?_, fun i hi e => ?_, fun i hi => ?_⟩
  · rw [addTh_nm]
    refine insN_sorted ?_ fun j hj => ?_
    · refine h.sorted.imp_of_mem fun {a b} ha hb hab => ?_
      rw [hM.nameOf (hok.nm a ha), hM.nameOf (hok.nm b hb)]
      exact hab
    · rw [hM.nameOf (hok.nm j hj), hM.nameNew]
      exact hnew j hj
  · rw [addTh_nm] at hi
    rcases mem_insN.1 hi with rfl | hi
    · rw [hM.obNew]; exact hk
    · rw [hM.obOf (hok.nm i hi)]; exact h.kind i hi
  · rw [addTh_nm]
    rw [show (K.addTh t).th.length = K.th.length + 1 by show (K.th ++ [t]).length = _; simp] at hi
    by_cases e' : i = K.th.length
    · exact mem_insN.2 (.inl e')
    · have hlt : i < K.th.length := by omega
      rw [hM.obOf hlt] at e
      exact mem_insN.2 (.inr (h.all i hlt e))
  · rw [addTh_nm] at hi
    rcases mem_insN.1 hi with rfl | hi
    · rw [hM.nameNew]; exact hn
    · rw [hM.nameOf (hok.nm i hi)]; exact h.ok i hi
theorem map_old {K : KS} (hok : KOk K) {K' : KS} {t : Th} (hM : More K K' t) (f : Nat → Nat) (v : Nat) (q : Nat → Bool) : (K.nm.filter q).map (fun i => (nkey (K'.nameOf i), upd f K.th.length v i)) = (K.nm.filter q).map fun i => (nkey (K.nameOf i), f i) := by
  refine List.map_congr_left fun i hi => ?_
  have hlt := hok.nm i (List.mem_filter.1 hi).1
  rw [hM.nameOf hlt, upd_other (Nat.ne_of_lt hlt)]
def Added (ρ : Nat → Option PTag) (I : PI) (K' : KS) (w : World) (n p c : Nat) (w' : World) : Prop :=
  ∃ ρ', PK w' ρ' { I with ob := upd I.ob n p, cb := upd I.cb n c } K' ∧ newTags ρ ρ' w ∧ (∀ k, k < w.heap.size → ρ' k = ρ k) ∧ Turned (Own ρ) w w'
theorem nkey_inj {a b : ByteArray} (h : nkey a = nkey b) : a = b := Go.WideShapes.bytes_inj (by simpa [nkey] using h)
end Go.Proofs.YtdmkjbdlidadiaaGreat

/- The reference's kernel: Open. -/
namespace Go.Proofs.YtdmkjbdlidadiaaGreat
open Go.RowKit

end Go.Proofs.YtdmkjbdlidadiaaGreat

/- The reference's kernel: Open, of a name that is there. -/
namespace Go.Proofs.YtdmkjbdlidadiaaGreat
open Go.RowKit

end Go.Proofs.YtdmkjbdlidadiaaGreat

/- The program's kernel: thingFor. -/
namespace Go.Proofs.YtdmkjbdlidadiaaGreat
open Go.RowKit Go.Maps

theorem KNm.inj {K : KS} (h : KNm K) {i j : Nat} (hi : i ∈ K.nm) (hj : j ∈ K.nm) (e : K.nameOf i = K.nameOf j) : i = j := by
  obtain ⟨a, ha, rfl⟩ := List.getElem_of_mem hi
  obtain ⟨b, hb, rfl⟩ := List.getElem_of_mem hj
  have hp := List.pairwise_iff_getElem.1 h.sorted
  rcases Nat.lt_trichotomy a b with hab | hab | hab
  · exact absurd e (nlt_ne (hp a b ha hb hab))
  · subst hab; rfl
  · exact absurd e.symm (nlt_ne (hp b a hb ha hab))
structure Fits (w : World) (ρ : Nat → Option PTag) (I : PI) (K : KS) (i : Nat) (flags : Int) (tv : Value) (xb : Nat) : Prop where
  lt : i < K.th.length
  file : ∀ b, K.obOf i = .file b → tv = .iface 274 (.pointer (some ⟨xb, 0, none⟩)) ∧ OFc w xb (I.ob i) 0 (bit flags 4) ∧ ρ xb = none
  term : ∀ ls scr, K.obOf i = .term ls scr → tv = .iface 112 (.pointer (some ⟨I.cb i, 0, none⟩))
  pipe : ∀ q rd wt, K.obOf i = .pipe q rd wt → tv = .iface 282 (.agg #[.pointer (some ⟨I.ob i, 0, none⟩)])
def TFor (ρ : Nat → Option PTag) (I : PI) (w : World) (K' : KS) (i : Nat) (flags : Int) (e : Ending) (w' : World) : Prop :=
  ∃ tT tu xb ρ' I', e = .returned (.tuple #[.iface tT tu, .int .i64 0]) ∧ PK w' ρ' I' K' ∧ I'.kb = I.kb ∧ I'.last = I.last ∧ newTags ρ ρ' w ∧ Turned (Own ρ) w w' ∧ Fits w' ρ' I' K' i flags (.iface tT tu) xb ∧ ((∃ b, K'.obOf i = .file b) → w.heap.size ≤ xb)
theorem TFor.term {ρ : Nat → Option PTag} {I : PI} {w : World} {K : KS} {i : Nat} {flags : Int} {ls : List (List UInt8)} {scr : List UInt8} (h : PK w ρ I K) (hi : i < K.th.length) (ho : K.obOf i = .term ls scr) : TFor ρ I w (K.cut i flags) i flags (.returned (.tuple #[.iface 112 (.pointer (some ⟨I.cb i, 0, none⟩)), .int .i64 0])) w := by
  have : K.cut i flags = K := by unfold KS.cut; rw [ho]; split <;> rfl
  rw [this]
  exact ⟨_, _, 0, ρ, I, rfl, h, rfl, rfl, newTags.refl _ _, Turned.refl _ _, ⟨hi, fun b e => (by rw [ho] at e; cases e), fun _ _ _ => rfl, fun q rd wt e => (by rw [ho] at e; cases e)⟩, fun ⟨b, e⟩ => (by rw [ho] at e; cases e)⟩
theorem TFor.file {ρ ρ' : Nat → Option PTag} {I I' : PI} {w w1 : World} {K' : KS} {i : Nat} {flags : Int} {b : List UInt8} (h : PK w1 ρ' I' K') (hk : I'.kb = I.kb) (hl : I'.last = I.last) (hn : newTags ρ ρ' w) (hT : Turned (Own ρ) w w1) (hi : i < K'.th.length) (ho : K'.obOf i = .file b) {w2 : World}
    (hw : w2 = w1.alloc (Obj.cells #[.pointer (some ⟨I'.ob i, 0, none⟩), .int .i64 0, .bool (bit flags 4)] 278)) :
    TFor ρ I w K' i flags (.returned (.tuple #[.iface 274 (.pointer (some ⟨w1.heap.size, 0, none⟩)), .int .i64 0])) w2 := by
  subst hw
  have hB := recv_below w1 (Obj.cells #[.pointer (some ⟨I'.ob i, 0, none⟩), .int .i64 0, .bool (bit flags 4)] 278)
  refine ⟨_, _, w1.heap.size, ρ', I', rfl, h.under hB, hk, hl, hn, hT.trans (Turned.of_below (S := Own ρ) hB) (fun _ _ e => e), ⟨hi, fun b' _ => ⟨rfl, heap_alloc_new _ _, ?_⟩, fun ls scr e => (by rw [ho] at e; cases e), fun q rd wt e => (by rw [ho] at e; cases e)⟩, fun _ => hT.size⟩
  cases hr : ρ' w1.heap.size with
  | none => rfl
  | some t => have := h.lt _ _ hr; omega
end Go.Proofs.YtdmkjbdlidadiaaGreat

/- The program's kernel: thingFor, walked. -/
namespace Go.Proofs.YtdmkjbdlidadiaaGreat
open Go.RowKit Go.Maps

end Go.Proofs.YtdmkjbdlidadiaaGreat

/- The program's kernel: thingFor, where a file is made. -/
namespace Go.Proofs.YtdmkjbdlidadiaaGreat
open Go.RowKit Go.Maps

theorem PK.drew {w : World} {ρ : Nat → Option PTag} {I : PI} {K : KS} (h : PK w ρ I K) : PK w.drew ρ I K := h.keep (fun _ _ _ => rfl) (Nat.le_refl _)
end Go.Proofs.YtdmkjbdlidadiaaGreat

/- The program's kernel: nameMayBe, flagsMayBe. -/
namespace Go.Proofs.YtdmkjbdlidadiaaGreat
open Go.RowKit Go.Maps
set_option linter.unusedSimpArgs false

end Go.Proofs.YtdmkjbdlidadiaaGreat

/- The program's kernel: Open. -/
namespace Go.Proofs.YtdmkjbdlidadiaaGreat
open Go.RowKit Go.Maps

theorem TFor.newDe {ρ ρ' : Nat → Option PTag} {I I' : PI} {w w1 w2 : World} {K' : KS} {i : Nat} {flags : Int} {tv : Value} {xb nb : Nat} (h : PK w1 ρ' I' K') (hk : I'.kb = I.kb) (hn : newTags ρ ρ' w) (hT : Turned (Own ρ) w w1) (hF : Fits w1 ρ' I' K' i flags tv xb) (hx : (∃ b, K'.obOf i = .file b) → w.heap.size ≤ xb)
    (hf : flagsOk flags = true) (hfew : K'.de.length < 256) (hD : Described w1 I' K' tv flags nb w2) : PNext ρ I w (K'.newDe i flags) w2 := by
  obtain ⟨ρ2, g1, g2, g3⟩ := h.newDe hF.lt hf hfew hD hF.file hF.term hF.pipe
  refine ⟨ρ2, _, g1, hk, fun k t e => ?_, hT.trans hD.turned (fun k hk' e => ?_)⟩
  · rcases g2 k t e with e' | e' | ⟨e1, e2⟩
    · exact hn k t e'
    · exact .inr (by rw [e']; exact Nat.le_trans hT.size hD.new)
    · exact .inr (by rw [e2]; exact hx e1)
  · have : ∃ t, ρ' k = some t := by
      rcases e with e | e
      · exact ⟨_, by rw [e]; exact (h.comp .kern).2.1⟩
      · exact ⟨_, by rw [e]; exact (h.comp .omap).2⟩
    obtain ⟨t, e'⟩ := this
    rcases hn k t e' with h' | h'
    · exact h'
    · omega
end Go.Proofs.YtdmkjbdlidadiaaGreat

/- The program's kernel: give. -/
namespace Go.Proofs.YtdmkjbdlidadiaaGreat
open Go.RowKit Go.Maps

def NSet (W : World) (b : Nat) (ns : List ByteArray) : Prop := ∃ D : DataW Unit, W.ownsMap Tryz.prog 9 unitElem b ns.length D ∧ ∀ s, Maps.has D (nkey s) = inNames s ns
theorem NSet.lt {W : World} {b : Nat} {ns : List ByteArray} (h : NSet W b ns) : b < W.heap.size := by obtain ⟨D, h1, _⟩ := h; exact h1.lt
theorem NSet.keep {W W' : World} {b : Nat} {ns : List ByteArray} (h : NSet W b ns) (hk : W'.heap[b]? = W.heap[b]?) : NSet W' b ns := by
  obtain ⟨D, ⟨es, clock, hb, F, hs, hD⟩, h2⟩ := h
  exact ⟨D, ⟨es, clock, hk.trans hb, F, hs, hD⟩, h2⟩
theorem NSet.made (w : World) : NSet (w.alloc (.map #[] 0)) w.heap.size [] := ⟨.map [], World.ownsMap_made w _ _ unitElem, fun _ => rfl⟩
theorem NSet.store {W : World} {b : Nat} {ns : List ByteArray} (h : NSet W b ns) (s : ByteArray) (hs : s.size ≤ maxLen) (hl : ns.length < maxLen) : ∃ w', (Instr.mapUpdate 125 (.map (some b)) (.string s) (.agg #[])).run Tryz.prog W = .ok () w' ∧ Hid (NSet w' b (ns ++ [s])) ∧ W.mapTurned w' b := by
  obtain ⟨D, h1, h2⟩ := h
  obtain ⟨w', hrun, ho, hT⟩ := h1.store skeyed (t := 125) (e := 239) Tryz.underlying125 hl (string_key s hs) (val := .agg #[]) (d := .agg []) (ps := []) unitElem_mk
  refine ⟨w', hrun, hide ⟨_, by simpa using ho, fun x => ?_⟩, hT⟩
  by_cases e : x = s
  · subst e
    rw [Maps.has_put_same h1.isMap (skeyed.key (string_key x hs)), eq_comm, inNames_iff]
    simp
  · rw [Maps.has_put_other (fun e' => e (nkey_inj e')), h2 x, Bool.eq_iff_iff, inNames_iff, inNames_iff]
    simp [e]
end Go.Proofs.YtdmkjbdlidadiaaGreat

/- The program's kernel: Check. -/
namespace Go.Proofs.YtdmkjbdlidadiaaGreat
open Go.RowKit Go.Maps

end Go.Proofs.YtdmkjbdlidadiaaGreat

/- What the proof stands on, part 11: the contracts of the program's calls that it reaches. -/
import Derived.Test.YtkkicbhmcjbmbaaGreatKM10
import Derived.BigRegion
import Derived.Sort.Walk0
/- The reference's kernel: a thing is put among the names. -/
namespace Go.Proofs.YtkkicbhmcjbmbaaGreat
open Go.RowKit

theorem insN_at (f : Nat → ByteArray) (i0 : Nat) : ∀ (L : List Nat) (k : Nat), k ≤ L.length → (∀ j (hj : j < L.length), j < k → ¬ nlt (f i0) (f L[j])) → (∀ j (hj : j < L.length), k ≤ j → nlt (f i0) (f L[j])) → insN f i0 L = L.take k ++ i0 :: L.drop k
  | [], k, hk, _, _ => by
    obtain rfl : k = 0 := by simpa using hk
    rfl
  | a :: r, 0, _, _, h2 => by
    have := h2 0 (by simp) (Nat.le_refl _)
    simp only [List.getElem_cons_zero] at this
    show (if nlt (f i0) (f a) then i0 :: a :: r else a :: insN f i0 r) = _
    rw [if_pos this]
    rfl
  | a :: r, k + 1, hk, h1, h2 => by
    have := h1 0 (by simp) (by omega)
    simp only [List.getElem_cons_zero] at this
    show (if nlt (f i0) (f a) then i0 :: a :: r else a :: insN f i0 r) = _
    rw [if_neg this, insN_at f i0 r k (by simpa using hk) (fun j hj hjk => by have := h1 (j + 1) (by simpa using hj) (by omega); simpa using this) (fun j hj hjk => by have := h2 (j + 1) (by simpa using hj) (by omega); simpa using this)]
    rfl
/-- Other names in the row. -/
theorem RK.names {W W' : World} {B : Nat → Prop} {ρ : Nat → Option Tag} {I : RI} {K : KS} (h : RK W B ρ I K) (L : List Nat) (hL : L.length ≤ 256) (hLi : ∀ i ∈ L, i < K.th.length) {v' : Value}
    (h1 : W'.heap[I.kb]? = some (.cells ([v', I.vD, .int .i64 K.next, .pointer (some ⟨I.pb, 0, none⟩), .int .i64 K.reads, .int .i64 K.writes] : List Value).toArray 133 (0, 0)))
    (h2 : W'.ownsRow 0 173 1 v' L.length (L.map fun i => .pointer (some ⟨I.tb i, 0, none⟩)))
    (h4 : ∀ k, v'.ownBlock = some k → I.vT.ownBlock = some k ∨ W.heap.size ≤ k)
    (hk : ∀ k, k < W.heap.size → k ≠ I.kb → I.vT.ownBlock ≠ some k → W'.heap[k]? = W.heap[k]?) (hs : W.heap.size ≤ W'.heap.size) :
    ∃ ρ', RK W' B ρ' { I with vT := v' } { K with nm := L } := by
  obtain ⟨ρ', hρ⟩ : ∃ ρ' : Nat → Option Tag, ∀ k, (k < W.heap.size → ρ' k = ρ k) ∧ (¬ k < W.heap.size → (v'.ownBlock = some k → ρ' k = some .trow) ∧ (v'.ownBlock ≠ some k → ρ' k = none)) :=
    ⟨fun k => if k < W.heap.size then ρ k else if v'.ownBlock = some k then some .trow else none, fun k => ⟨fun hk => if_pos hk, fun hk => ⟨fun e => (if_neg hk).trans (if_pos e), fun e => (if_neg hk).trans (if_neg e)⟩⟩⟩
  have old : ∀ k t, ρ k = some t → ρ' k = some t := fun k t e => by rw [(hρ k).1 (h.lt k t e).2]; exact e
  have kr := (h.comp .kern).2
  have dr := (h.comp .trow).2
  have keep : ∀ t, t ≠ .kern → t ≠ .trow → RComp W' B ρ I K t := fun t n1 n2 => (h.comp t).keep (fun k e hlt => hk k hlt (fun e' => by subst e'; rw [kr] at e; exact n1 (Option.some.inj e).symm) (fun e' => by have := dr k e'; rw [e] at this; exact n2 (Option.some.inj this))) hs
  refine ⟨ρ', ⟨fun t => ?_, fun k t e => ?_, ?_, fun k e => h.up k (Nat.le_trans hs e)⟩⟩
  · cases t with
    | kern => exact ⟨h1, old _ _ kr⟩
    | trow =>
      refine ⟨h2, fun k e => ?_⟩
      rcases h4 k e with h6 | h6
      · exact old _ _ (dr k h6)
      · exact ((hρ k).2 (by omega)).1 e
    | drow => have := keep .drow (by simp) (by simp); exact ⟨this.1, fun k e => old _ _ (this.2 k e)⟩
    | plan => have := keep .plan (by simp) (by simp); exact ⟨this.1, old _ _ this.2.1, fun k e => old _ _ (this.2.2 k e)⟩
    | thing j => intro hj; have := keep (.thing j) (by simp) (by simp) hj; exact ⟨this.1, old _ _ this.2⟩
    | obj j => intro hj; have := keep (.obj j) (by simp) (by simp) hj; exact ⟨this.1.mono fun k e => old _ _ e, this.2⟩
    | desc n => intro d hd e; have := keep (.desc n) (by simp) (by simp) d hd e; exact ⟨this.1, old _ _ this.2⟩
  · by_cases hlt : k < W.heap.size
    · rw [(hρ k).1 hlt] at e; exact ⟨(h.lt k t e).1, Nat.lt_of_lt_of_le (h.lt k t e).2 hs⟩
    · by_cases hv : v'.ownBlock = some k
      · exact ⟨h.up k (by omega), (h2.lt k hv).2⟩
      · rw [((hρ k).2 hlt).2 hv] at e; cases e
  · exact ⟨h.ok.few, hL, h.ok.th, hLi, h.ok.num, h.ok.once, h.ok.flags, h.ok.pos, h.ok.held, h.ok.plan⟩
theorem swap_list {α β : Type} (f : α → β) (L : List α) (q : Nat) (n : α) (hq : q < L.length) {u v : β} (hu : u = f L[q]) (hv : v = f n) : (((L.take (q + 1) ++ n :: L.drop (q + 1)).map f).set (q + 1) u).set q v = (L.take q ++ n :: L.drop q).map f := by
  subst hu hv
  have h1 : L.take (q + 1) = L.take q ++ [L[q]] := by rw [List.take_add_one, List.getElem?_eq_getElem hq]; rfl
  have h2 : L.drop q = L[q] :: L.drop (q + 1) := List.drop_eq_getElem_cons hq
  have hl : (L.take q).length = q := by rw [List.length_take]; omega
  rw [h1, h2]
  simp only [List.map_append, List.map_cons, List.append_assoc, List.cons_append, List.nil_append]
  have hlm : ((L.take q).map f).length = q := by rw [List.length_map]; exact hl
  rw [List.set_append_right _ _ (by omega), hlm, show q + 1 - q = 1 by omega, List.set_append_right _ _ (by omega), hlm, Nat.sub_self]
  rfl
theorem gtr_yes {nn nx : ByteArray} (h : nlt nn nx) : Op.bytesLess nx.toList nn.toList = false ∧ (nx.toList == nn.toList) = false := by
  rw [bytesLess_eq, ByteArray.toList_eq, ByteArray.toList_eq]
  refine ⟨decide_eq_false (fun e => List.lt_irrefl _ (List.lt_trans h e)), ?_⟩
  rw [beq_eq_false_iff_ne]
  intro e
  have h' : nn.data.toList < nx.data.toList := h
  rw [e] at h'
  exact List.lt_irrefl _ h'
theorem gtr_no {nn nx : ByteArray} (h : ¬ nlt nn nx) : Op.bytesLess nx.toList nn.toList = true ∨ (Op.bytesLess nx.toList nn.toList = false ∧ (nx.toList == nn.toList) = true) := by
  by_cases e : nn = nx
  · subst e
    refine .inr ⟨?_, by simp⟩
    rw [bytesLess_eq]
    exact decide_eq_false (List.lt_irrefl _)
  · refine .inl ?_
    rw [bytesLess_eq, ByteArray.toList_eq, ByteArray.toList_eq]
    exact decide_eq_true (nlt_total h e)
theorem added_drew {w wr : World} {B : Nat → Prop} {I : RI} {K : KS} (h : ∃ ρ' I', RK wr B ρ' I' K ∧ I'.kb = I.kb ∧ I'.tb = I.tb ∧ I'.ob = I.ob ∧ Turned B w wr) (nq : Nat) : ∃ ρ' I', RK (wr.drewN nq) B ρ' I' K ∧ I'.kb = I.kb ∧ I'.tb = I.tb ∧ I'.ob = I.ob ∧ Turned B w (wr.drewN nq) := by
  obtain ⟨ρ', I', h1, h2, h3, h4, h5⟩ := h
  have hB := below_drewN (Below.refl wr.heap.size wr) nq
  exact ⟨ρ', I', h1.below hB, h2, h3, h4, h5.trans (Turned.of_below hB) (fun _ _ e => e)⟩
def tptr (I : RI) (i : Nat) : Value := .pointer (some ⟨I.tb i, 0, none⟩)
set_option maxRecDepth 100000 in
set_option maxHeartbeats 8000000 in
theorem radd_any (B : Nat → Prop) (ρ : Nat → Option Tag) (I : RI) (K : KS) (n : Nat) (w : World) (h : RK w B ρ I K) (hn : n < K.th.length) (hs : K.nm.Pairwise fun i j => nlt (K.nameOf i) (K.nameOf j)) (hl : K.nm.length < 256) :
    Calls Tryz.prog 118 #[.pointer (some ⟨I.kb, 0, none⟩), .pointer (some ⟨I.tb n, 0, none⟩)] w fun e w' => e = .returned (.tuple #[]) ∧ ∃ ρ' I', RK w' B ρ' I' { K with nm := insN K.nameOf n K.nm } ∧ I'.kb = I.kb ∧ I'.tb = I.tb ∧ I'.ob = I.ob ∧ Turned B w w' := by
  have hb := (h.comp .kern).1
  have hkl : I.kb < w.heap.size := (Array.getElem?_eq_some_iff.1 hb).1
  have hrow := (h.comp .trow).1
  have hdr := (h.comp .trow).2
  have hkr := (h.comp .kern).2
  have c1 : w.cell? ⟨I.kb, 0, none⟩ = some I.vT := by rw [cell_of_row w I.kb 0 _ _ _ hb]; rfl
  obtain ⟨da, dc, hdv⟩ := owns_slice hrow
  rw [hdv] at c1
  obtain ⟨o2, ho2⟩ : ∃ o2, o2 = Obj.cells #[.pointer (some ⟨I.tb n, 0, none⟩)] 173 := ⟨_, rfl⟩
  have hB1 := recv_below w o2
  have hs1 : (w.alloc o2).heap.size = w.heap.size + 1 := by simp
  have hB12 : Below w.heap.size w (w.alloc o2) := hB1
  have hx2 : (w.alloc o2).cell? ⟨w.heap.size, 0, none⟩ = some (.pointer (some ⟨I.tb n, 0, none⟩)) := by
    have := heap_alloc_new w o2
    show (w.alloc o2).cell? ⟨w.heap.size, 0, none⟩ = _
    rw [World.cell?, this, ho2]
    rfl
  obtain ⟨s', w3, hrun, HO3, hg3, hb3⟩ := run_append_tptr (w.alloc o2) 129 0 I.vT K.nm.length _ w.heap.size 1 (.pointer (some ⟨I.tb n, 0, none⟩)) rfl (owns_keep hrow (fun k e => hB12.block k (hrow.lt k e).2)) hx2 (by omega) (by have := hB12.size; omega)
  rw [hdv] at hrun
  have HR := hide hrun
  have e1 : (w.alloc o2).cell? ⟨I.kb, 0, none⟩ = some (.slice da K.nm.length dc) := (hB12.cell (p := ⟨I.kb, 0, none⟩) hkl).trans c1
  obtain ⟨sa, sc, rfl⟩ := owns_slice HO3.out
  have hkb3 : w3.heap[I.kb]? = w.heap[I.kb]? := (hg3.block I.kb (by show I.kb < (w.alloc o2).heap.size; omega) (fun e => by
    have h9 := hdr I.kb e.symm
    rw [hkr] at h9
    cases h9)).trans (hB12.block I.kb hkl)
  have hb3' : w3.heap[I.kb]? = some (.cells ([I.vT, I.vD, .int .i64 K.next, .pointer (some ⟨I.pb, 0, none⟩), .int .i64 K.reads, .int .i64 K.writes] : List Value).toArray 133 (0, 0)) := hkb3.trans hb
  have f1 : w3.frozen? ⟨I.kb, 0, none⟩ = false := frozen_of_row w3 I.kb 0 _ _ hb3'
  have f1c : w3.cell? ⟨I.kb, 0, none⟩ = some (.slice da K.nm.length dc) := by rw [cell_of_row w3 I.kb 0 _ _ _ hb3', ← hdv]; rfl
  have hb4 := heap_setCell_same 0 (.slice sa (K.nm.length + 1) sc) hb3'
  simp only [List.set_cons_zero] at hb4
  have f2c : (w3.setCell ⟨I.kb, 0, none⟩ (.slice sa (K.nm.length + 1) sc)).cell? ⟨I.kb, 0, none⟩ = some (.slice sa (K.nm.length + 1) sc) := by rw [cell_of_row _ I.kb 0 _ _ _ hb4]; rfl
  obtain ⟨rb, rfl⟩ : ∃ rb, sa = some ⟨rb, 0, none⟩ := by
    rcases HO3.out.2 with ⟨h0, _⟩ | ⟨g, cap, cur, h1, _⟩
    · simp at h0
    · simp only [Value.slice.injEq] at h1; exact ⟨g, h1.1⟩
  have hlt3 : (w.alloc o2).heap.size ≤ w3.heap.size := hg3.size
  have hrk : rb ≠ I.kb ∧ (I.vT.ownBlock = some rb ∨ w.heap.size ≤ rb) := by
    rcases hb3 with e | e
    · have e2 : I.vT.ownBlock = some rb := e.symm
      refine ⟨fun e' => ?_, .inl e2⟩
      have h9 := hdr rb e2
      rw [e', hkr] at h9
      cases h9
    · have h7 : rb = (w.alloc o2).heap.size := Option.some.inj e
      exact ⟨by omega, .inr (by omega)⟩
  have HRk := hide hrk
  obtain ⟨w4, hw4⟩ : ∃ w4, w4 = w3.setCell ⟨I.kb, 0, none⟩ (.slice (some ⟨rb, 0, none⟩) (K.nm.length + 1) sc) := ⟨_, rfl⟩
  have hsz4 : w4.heap.size = w3.heap.size := by rw [hw4]; simp [World.setCell]
  have hoth4 : ∀ k, k ≠ I.kb → w4.heap[k]? = w3.heap[k]? := fun k hk => by rw [hw4]; exact Below.heap_setCell _ _ _ _ hk
  have HK4 : Hid (w4.heap[I.kb]? = some (.cells ([.slice (some ⟨rb, 0, none⟩) (K.nm.length + 1) sc, I.vD, .int .i64 K.next, .pointer (some ⟨I.pb, 0, none⟩), .int .i64 K.reads, .int .i64 K.writes] : List Value).toArray 133 (0, 0))) := hide (by rw [hw4]; exact hb4)
  have HO4 : Hid (w4.ownsRow 0 173 1 (.slice (some ⟨rb, 0, none⟩) (K.nm.length + 1) sc) (K.nm.length + 1) ((K.nm.take K.nm.length ++ n :: K.nm.drop K.nm.length).map (tptr I))) := hide (by
    have h8 := owns_keep HO3.out (W' := w4) (fun k e => hoth4 k (by have : rb = k := by simpa [Value.ownBlock] using e
                                                                    rw [← this]; exact hrk.1))
    rw [List.take_length, List.drop_length, List.map_append]
    exact h8)
  have HN4 : Hid (∀ k, k < w.heap.size → k ≠ I.kb → I.vT.ownBlock ≠ some k → w4.heap[k]? = w.heap[k]?) := hide (fun k hk n1 n2 => (hoth4 k n1).trans ((hg3.block k (by omega) (fun e => n2 e.symm)).trans (hB12.block k hk)))
  have HT4 : Hid (w4.os = w.os ∧ w4.tape = w.tape ∧ w4.output = w.output) := hide (by rw [hw4]; exact ⟨hg3.os.trans hB12.os, hg3.tape.trans hB12.tape, hg3.output.trans hB12.output⟩)
  have hs4 : w.heap.size ≤ w4.heap.size := by omega
  have f2c4 : w4.cell? ⟨I.kb, 0, none⟩ = some (.slice (some ⟨rb, 0, none⟩) (K.nm.length + 1) sc) := by rw [hw4]; exact f2c
  have HTc := hide fun i (hi : i < K.th.length) => (h.tcell hi).1
  have HTb := hide fun i (hi : i < K.th.length) => (h.comp (.thing i) hi).2
  have HH := hide h
  have HS := hide hs
  have HDr := hide (And.intro hdr hkr)
  subst ho2
  clear hrun HO3 hg3 hb3 hkb3 hb3' hb4 hB1 hB12 hx2 hs1 hb hrow hlt3 hrk hoth4 hsz4 h hs hdr hkr
  go_enter Tryz.func118, Tryz.ntmps118
  go_wp2_with (first | (at_builtin; refine Lib.wpList_append_run _ rfl _ _ _ _ rfl _ _ rfl rfl _ _ HR.out ?_) | fail)
  rw [← hw4]
  clear hw4 f1 f1c f2c c1 e1 HR
  go_loopw [4] (fun iv wr => ∃ i : Nat, iv = .int .i64 i ∧ i ≤ K.nm.length ∧ Hid (wr.ownsRow 0 173 1 (.slice (some ⟨rb, 0, none⟩) (K.nm.length + 1) sc) (K.nm.length + 1) ((K.nm.take i ++ n :: K.nm.drop i).map (tptr I))) ∧ Hid (wr.heap[I.kb]? = some (.cells ([.slice (some ⟨rb, 0, none⟩) (K.nm.length + 1) sc, I.vD, .int .i64 K.next, .pointer (some ⟨I.pb, 0, none⟩), .int .i64 K.reads, .int .i64 K.writes] : List Value).toArray 133 (0, 0))) ∧ Hid (∀ j (hj : j < K.nm.length), i ≤ j → nlt (K.nameOf n) (K.nameOf K.nm[j])) ∧ Hid (∀ k, k < w.heap.size → k ≠ I.kb → I.vT.ownBlock ≠ some k → wr.heap[k]? = w.heap[k]?) ∧ w.heap.size ≤ wr.heap.size ∧ Hid (wr.os = w.os ∧ wr.tape = w.tape ∧ wr.output = w.output)) (fun iv _ => (intOf iv).toNat)
  case atStart => exact ⟨K.nm.length, rfl, Nat.le_refl _, HO4, HK4, hide (fun j hj h => by omega), HN4, hs4, HT4⟩
  case round =>
    obtain ⟨i, rfl, hi, HOr, HKr, HLt, HNr, hsr, HTr⟩ := hrel
    clear HO4 HK4 HN4 hs4 HT4 f2c4
    have c0 : wr.cell? ⟨I.kb, 0, none⟩ = some (.slice (some ⟨rb, 0, none⟩) (K.nm.length + 1) sc) := by rw [cell_of_row wr I.kb 0 _ _ _ HKr.out]; rfl
    have HEnd : Hid ((∀ j (hj : j < K.nm.length), j < i → ¬ nlt (K.nameOf n) (K.nameOf K.nm[j])) → ∃ ρ' I', RK wr B ρ' I' { K with nm := insN K.nameOf n K.nm } ∧ I'.kb = I.kb ∧ I'.tb = I.tb ∧ I'.ob = I.ob ∧ Turned B w wr) := hide (fun hle => by
      have hL := insN_at K.nameOf n K.nm i hi hle HLt.out
      have hlen : (insN K.nameOf n K.nm).length = K.nm.length + 1 := by rw [hL, List.length_append, List.length_take, List.length_cons, List.length_drop]; omega
      have h := HH.out
      obtain ⟨ρ', hR⟩ := h.names (W' := wr) (insN K.nameOf n K.nm) (by omega) (fun j hj => by
        have := (insN_perm K.nameOf n K.nm).mem_iff.1 hj
        rcases List.mem_cons.1 this with rfl | e
        · exact hn
        · exact h.ok.nm j e) HKr.out (by rw [hlen, hL]; exact HOr.out) (fun k e => by
        have : rb = k := by simpa [Value.ownBlock] using e
        rw [← this]; exact HRk.out.2) HNr.out hsr
      exact ⟨ρ', _, hR, rfl, rfl, rfl, HTr.out.1, HTr.out.2.1, HTr.out.2.2, hsr, fun k hk hnb => HNr.out k hk (fun e => hnb (by rw [e]; exact (h.lt _ _ HDr.out.2).1)) (fun e => hnb (h.lt _ _ ((h.comp .trow).2 k e)).1)⟩)
    by_cases hi0 : i = 0
    · subst hi0
      have hE := HEnd.out (fun j hj hj0 => absurd hj0 (by omega))
      have HE := hide hE
      clear hE HEnd HOr HKr HLt HNr
      go_wp2_with fail
      go_quiet (fail)
      go_wp2
      go_end0
      exact ⟨rfl, added_drew HE.out _⟩
    · obtain ⟨q, rfl⟩ : ∃ q, i = q + 1 := ⟨i - 1, by omega⟩
      have hql : q < K.nm.length := by omega
      obtain ⟨x, hx⟩ : ∃ x, x = K.nm[q] := ⟨_, rfl⟩
      have hxt : x < K.th.length := by rw [hx]; exact HH.out.ok.nm _ (List.getElem_mem _)
      have hr0 : wr.cell? ⟨rb, q, none⟩ = some (.pointer (some ⟨I.tb x, 0, none⟩)) := by
        have := HOr.out.cellAt q (by omega)
        rw [this, List.getElem?_map, List.getElem?_append_left (by rw [List.length_take]; omega), List.getElem?_take_of_lt (by omega), List.getElem?_eq_getElem hql, ← hx]
        rfl
      have hr1 : wr.cell? ⟨rb, q + 1, none⟩ = some (.pointer (some ⟨I.tb n, 0, none⟩)) := by
        have := HOr.out.cellAt (q + 1) (by omega)
        rw [this, List.getElem?_map, List.getElem?_append_right (by rw [List.length_take]; omega), List.length_take, show q + 1 - min (q + 1) K.nm.length = 0 by omega]
        rfl
      have hname : ∀ j, j < K.th.length → wr.cell? ⟨I.tb j, 0, none⟩ = some (.string (K.nameOf j)) := fun j hj => by
        have h1 := HTc.out j hj
        have h2 := World.block_lt_of_cell? w _ h1
        refine (World.cell?_of_block (w := w) (a := ⟨I.tb j, 0, none⟩) (HNr.out _ h2 (fun e => ?_) (fun e => ?_))).trans h1
        · have h9 := HTb.out j hj
          rw [show I.tb j = I.kb from e, HDr.out.2] at h9
          cases h9
        · have h9 := HDr.out.1 _ e
          rw [HTb.out j hj] at h9
          cases h9
      have hnx := hname x hxt
      have hnn := hname n hn
      have HX := hide hx
      obtain ⟨nx, hnx'⟩ : ∃ nx, nx = K.nameOf x := ⟨_, rfl⟩
      obtain ⟨nn, hnn'⟩ : ∃ nn, nn = K.nameOf n := ⟨_, rfl⟩
      rw [← hnx'] at hnx
      rw [← hnn'] at hnn
      have HNm := hide (And.intro hnx' hnn')
      have p0 : (0 : Int) < (q : Int) + 1 := by omega
      have p1 : (0 : Int) ≤ (q : Int) := by omega
      have p2 : (q : Int) < (K.nm.length : Int) + 1 := by omega
      have p3 : (q : Int) + 1 < (K.nm.length : Int) + 1 := by omega
      have p4 : (0 : Int) ≤ (q : Int) + 1 := by omega
      clear hx hname hnx' hnn' hi0
      by_cases hgt : nlt nn nx
      · obtain ⟨b1, b2⟩ := gtr_yes hgt
        obtain ⟨rc, hrc⟩ : ∃ rc : List Value, wr.heap[rb]? = some (.cells rc.toArray 173 (0, 0)) := by
          rcases HOr.out.2 with ⟨h0, _⟩ | ⟨g, cap, cur, h1, _, h3, _⟩
          · simp at h0
          · simp only [Value.slice.injEq, Option.some.injEq, Addr.mk.injEq, and_true, true_and] at h1
            obtain ⟨rfl, rfl⟩ := h1
            exact ⟨cur.toList, by simpa using h3⟩
        have fz : ∀ j, wr.frozen? ⟨rb, j, none⟩ = false := fun j => frozen_of_row wr rb j _ _ hrc
        have fz0 := fz q
        have fz1 := fz (q + 1)
        have HQ := hide (And.intro HOr (And.intro HKr (And.intro HLt (And.intro HNr HTr))))
        clear fz hrc HOr HKr HLt HNr HTr HEnd
        go_wp2_with fail
        go_quiet (fail)
        go_wp2_with fail
        have c0q : (wr.drewN nq).drew.cell? ⟨I.kb, 0, none⟩ = some (.slice (some ⟨rb, 0, none⟩) (K.nm.length + 1) sc) := c0
        have r0q : (wr.drewN nq).drew.cell? ⟨rb, q, none⟩ = some (.pointer (some ⟨I.tb x, 0, none⟩)) := hr0
        have r1q : (wr.drewN nq).drew.cell? ⟨rb, q + 1, none⟩ = some (.pointer (some ⟨I.tb n, 0, none⟩)) := hr1
        have z0q : (wr.drewN nq).drew.frozen? ⟨rb, q, none⟩ = false := fz0
        have z1q : (wr.drewN nq).drew.frozen? ⟨rb, q + 1, none⟩ = false := fz1
        generalize hwq : (wr.drewN nq).drew = wq at *
        go_big_region
        have hwq1 : ∀ k : Nat, wq.heap[k]? = wr.heap[k]? := fun k => by rw [← hwq]; rfl
        have hwq2 : wq.heap.size = wr.heap.size := by rw [← hwq]; rfl
        have hwq3 : wq.os = wr.os ∧ wq.tape = wr.tape ∧ wq.output = wr.output := by rw [← hwq]; exact ⟨rfl, rfl, rfl⟩
        obtain ⟨HOr, HKr, HLt, HNr, HTr⟩ := HQ.out
        have hOq : wq.ownsRow 0 173 1 (.slice (some ⟨rb, 0, none⟩) (K.nm.length + 1) sc) (K.nm.length + 1) ((K.nm.take (q + 1) ++ n :: K.nm.drop (q + 1)).map (tptr I)) := owns_keep HOr.out (fun k _ => hwq1 k)
        obtain ⟨s1, g1⟩ := hOq.stored (q + 1) (.pointer (some ⟨I.tb x, 0, none⟩))
        obtain ⟨s2, g2⟩ := s1.stored q (.pointer (some ⟨I.tb n, 0, none⟩))
        have hlist : (((K.nm.take (q + 1) ++ n :: K.nm.drop (q + 1)).map (tptr I)).set (q + 1) (.pointer (some ⟨I.tb x, 0, none⟩))).set q (.pointer (some ⟨I.tb n, 0, none⟩)) = (K.nm.take q ++ n :: K.nm.drop q).map (tptr I) := swap_list (tptr I) K.nm q n hql (by rw [HX.out]; rfl) rfl
        rw [hlist] at s2
        generalize ((wq.setCell ⟨rb, q + 1, none⟩ (.pointer (some ⟨I.tb x, 0, none⟩))).setCell ⟨rb, q, none⟩ (.pointer (some ⟨I.tb n, 0, none⟩))) = w9 at *
        generalize wq.setCell ⟨rb, q + 1, none⟩ (.pointer (some ⟨I.tb x, 0, none⟩)) = w8 at *
        have hblk : ∀ k : Nat, k < wr.heap.size → k ≠ rb → w9.heap[k]? = wr.heap[k]? := fun k hk hne => by
          have z1 := g1.size
          rw [g2.block k (by omega) (fun e => hne (Option.some.inj e)), g1.block k (by omega) (fun e => hne (Option.some.inj e)), hwq1]
        have HO9 := hide s2
        have hkbl : I.kb < wr.heap.size := (Array.getElem?_eq_some_iff.1 HKr.out).1
        have HK9 := hide ((hblk I.kb hkbl (fun e => HRk.out.1 e.symm)).trans HKr.out)
        have HN9 : Hid (∀ k, k < w.heap.size → k ≠ I.kb → I.vT.ownBlock ≠ some k → w9.heap[k]? = w.heap[k]?) := hide (fun k hk n1 n2 => (hblk k (by omega) (fun e => by
          subst e
          rcases HRk.out.2 with e2 | e2
          · exact n2 e2
          · omega)).trans (HNr.out k hk n1 n2))
        have hs9 : w.heap.size ≤ w9.heap.size := by have := g1.size; have := g2.size; omega
        have HT9 : Hid (w9.os = w.os ∧ w9.tape = w.tape ∧ w9.output = w.output) := hide ⟨g2.os.trans (g1.os.trans (hwq3.1.trans HTr.out.1)), g2.tape.trans (g1.tape.trans (hwq3.2.1.trans HTr.out.2.1)), g2.output.trans (g1.output.trans (hwq3.2.2.trans HTr.out.2.2))⟩
        have HL9 : Hid (∀ j (hj : j < K.nm.length), q ≤ j → nlt (K.nameOf n) (K.nameOf K.nm[j])) := hide (fun j hj hqj => by
          by_cases e : j = q
          · subst e
            rw [← HX.out, ← HNm.out.1, ← HNm.out.2]
            exact hgt
          · exact HLt.out j hj (by omega))
        clear hOq s1 s2 g1 g2 hlist hblk hwq1 hwq2 hwq3 hwq c0q r0q r1q z0q z1q HOr HKr HLt HNr HTr HQ c0 hr0 hr1 hnx hnn fz0 fz1
        go_wp2
        go_roundw
        case rel => exact ⟨q, by go_num, by omega, HO9, HK9, HL9, HN9, hs9, HT9⟩
        case measure => simp [intOf]
      · have b1 := gtr_no hgt
        have HE := hide (HEnd.out (fun j hj hjq hlt => by
          have hle : nlt (K.nameOf n) (K.nameOf K.nm[q]) := by
            by_cases e : j = q
            · subst e; exact hlt
            · exact nlt_trans hlt (List.pairwise_iff_getElem.1 HS.out j q hj hql (by omega))
          rw [← HX.out, ← HNm.out.1, ← HNm.out.2] at hle
          exact hgt hle))
        clear HEnd HOr HKr HLt HNr
        rcases b1 with b1 | ⟨b1, b2⟩
        all_goals
          go_wp2_with fail
          go_quiet (fail)
          go_wp2
          go_end0
          exact ⟨rfl, added_drew HE.out _⟩
end Go.Proofs.YtkkicbhmcjbmbaaGreat

/- The program's kernel: Read. -/
namespace Go.Proofs.YtkkicbhmcjbmbaaGreat
open Go.RowKit Go.Maps

/-- The blocks of a kernel. -/
def Own (ρ : Nat → Option PTag) (k : Nat) : Prop := ∃ t, ρ k = some t
/-- A kernel behind a step, with its new marks. -/
def PNext (ρ : Nat → Option PTag) (I : PI) (w : World) (K' : KS) (w' : World) : Prop := ∃ ρ' I', PK w' ρ' I' K' ∧ I'.kb = I.kb ∧ newTags ρ ρ' w ∧ Turned (Own ρ) w w'
theorem PNext.step {w w' : World} {O : Nat → Prop} {ρ : Nat → Option PTag} {I : PI} {K' : KS} (hO : ∀ k t, ρ k = some t → O k) (h : PNext ρ I w K' w') : KStep w O I.kb K' w' := by
  obtain ⟨ρ', I', h1, h2, h3, h4⟩ := h
  exact PK.step hO h1 h2 h3 h4
theorem newTags.refl (ρ : Nat → Option PTag) (w : World) : newTags ρ ρ w := fun _ t e => .inl ⟨t, e⟩
theorem PNext.same {w : World} {ρ : Nat → Option PTag} {I : PI} {K : KS} (h : PK w ρ I K) : PNext ρ I w K w := ⟨ρ, I, h, rfl, newTags.refl _ _, Turned.refl _ _⟩
theorem PNext.of {w w' : World} {ρ : Nat → Option PTag} {I I' : PI} {K' : KS} (h : PK w' ρ I' K') (hk : I'.kb = I.kb) (hT : Turned (Own ρ) w w') : PNext ρ I w K' w' := ⟨ρ, I', h, hk, newTags.refl _ _, hT⟩
theorem PNext.after {w w1 w' : World} {ρ : Nat → Option PTag} {I I1 : PI} {K' : KS} (hT : Turned (Own ρ) w w1) (hk : I1.kb = I.kb) (h : PNext ρ I1 w1 K' w') : PNext ρ I w K' w' := by
  obtain ⟨ρ', I', h1, h2, h3, h4⟩ := h
  exact ⟨ρ', I', h1, h2.trans hk, fun k t e => (h3 k t e).imp id (fun e => Nat.le_trans hT.size e), hT.trans h4 (fun _ _ e => e)⟩
theorem PK.under {W W' : World} {ρ : Nat → Option PTag} {I : PI} {K : KS} (h : PK W ρ I K) (hB : Below W.heap.size W W') : PK W' ρ I K := h.keep (fun k t e => hB.block k (h.lt k t e)) hB.size
/-- A read, or a write, is counted. -/
theorem PK.readUp {W : World} {ρ : Nat → Option PTag} {I : PI} {K : KS} (h : PK W ρ I K) : PK (W.setCell ⟨I.kb, 6, none⟩ (.int .i64 ((K.reads : Int) + 1))) ρ I { K with reads := K.reads + 1 } ∧ Turned (Own ρ) W (W.setCell ⟨I.kb, 6, none⟩ (.int .i64 ((K.reads : Int) + 1))) := by
  have hb := (h.comp .kern).1
  have hT := (Turned.refl (fun k => k = I.kb) W).set (g := I.kb) (j := 6) (u := .int .i64 ((K.reads : Int) + 1)) (.inl rfl)
  have := h.kernel (K.reads + 1) K.writes I.last (by rw [heap_setCell_same 6 _ hb]; rfl) hT (Nat.le_refl _)
  rw [← (h.comp .kern).2.2] at this
  exact ⟨this, hT.mono fun k e => ⟨.kern, by rw [e]; exact (h.comp .kern).2.1⟩⟩
theorem PK.writeUp {W : World} {ρ : Nat → Option PTag} {I : PI} {K : KS} (h : PK W ρ I K) : PK (W.setCell ⟨I.kb, 7, none⟩ (.int .i64 ((K.writes : Int) + 1))) ρ I { K with writes := K.writes + 1 } ∧ Turned (Own ρ) W (W.setCell ⟨I.kb, 7, none⟩ (.int .i64 ((K.writes : Int) + 1))) := by
  have hb := (h.comp .kern).1
  have hT := (Turned.refl (fun k => k = I.kb) W).set (g := I.kb) (j := 7) (u := .int .i64 ((K.writes : Int) + 1)) (.inl rfl)
  have := h.kernel K.reads (K.writes + 1) I.last (by rw [heap_setCell_same 7 _ hb]; rfl) hT (Nat.le_refl _)
  rw [← (h.comp .kern).2.2] at this
  exact ⟨this, hT.mono fun k e => ⟨.kern, by rw [e]; exact (h.comp .kern).2.1⟩⟩
/-- Next, of the kernel's plan. -/
theorem knext_any (ρ : Nat → Option PTag) (I : PI) (K : KS) (want : Int) (w : World) (h : PK w ρ I K) (h1 : 1 ≤ want) (h2 : want ≤ 1048576) :
    Calls Tryz.prog 135 #[.pointer (some ⟨I.pb, 0, none⟩), .int .i64 want] w fun e w' => e = .returned (.tuple #[.int .i64 (nxt K.plan want).1, .int .i64 (nxt K.plan want).2]) ∧ ∃ v', PK w' ρ { I with pv := v' } { K with plan := K.plan.tail } ∧ Turned (Own ρ) w w' := by
  have hp := (h.comp .plan).1
  cases hpl : K.plan with
  | nil =>
    rw [hpl] at hp
    refine (next_end I.pb I.pv want w hp h1 h2).mono ?_
    rintro e w' ⟨rfl, rfl⟩
    refine ⟨by rw [show nxt ([] : List Fault) want = (want, 0) by simp [nxt]; omega], I.pv, ?_, Turned.refl _ _⟩
    have : ({ K with plan := ([] : List Fault).tail } : KS) = K := by
      obtain ⟨_, _, _, _, plan, _, _⟩ := K
      simp only at hpl
      subst hpl
      rfl
    rw [this]
    exact h
  | cons f r =>
    have hpo := h.ok.plan
    rw [hpl] at hp hpo
    refine (next_some I.pb I.pv f r want w hp h1 h2 (by have := hpo.1; simp at this; unfold maxLen; omega)).mono ?_
    rintro e w' ⟨rfl, v', h3, h4, h5⟩
    have hT : Turned (fun k => k = I.pb) w w' := (Turned.refl _ w).grown h5 (fun k e => by cases e; exact .inl rfl)
    exact ⟨rfl, v', h.used h3 (fun k e => by rw [← h4]; exact e) hT hpo.tail, hT.mono fun k e => ⟨.plan, by rw [e]; exact (h.comp .plan).2.1⟩⟩
/-- An object that a call has turned. -/
theorem PK.objStep {W W' : World} {ρ : Nat → Option PTag} {I : PI} {K : KS} (h : PK W ρ I K) {i : Nat} (hi : i < K.th.length) {ob' : Ob} (hk : ob'.kind = K.th[i].ob.kind) (hS : PStep W (fun k => ρ k = some (.obj i)) (I.ob i) ob' W')
    (hc : ∀ ls scr, ob' = .term ls scr → ∃ ls0 scr0, K.th[i].ob = .term ls0 scr0 ∧ scr.length = scr0.length) : PNext ρ I W (K.setOb i ob') W' := by
  obtain ⟨O', h1, h2, h3⟩ := hS
  obtain ⟨ρ', h4, h5, h6⟩ := h.setOb hi hk (h3.mono fun k e => Or.inl e) h1 h2 (fun ls scr e => by
    obtain ⟨ls0, scr0, e0, e1⟩ := hc ls scr e
    obtain ⟨a1, a2⟩ := h.comp (.cons i) hi ls0 scr0 e0
    rw [e1]
    exact (h3.block _ (h.lt _ _ a2) (fun e' => by rw [a2] at e'; cases e')).trans a1)
  exact ⟨ρ', I, h4, rfl, h5, h3.mono fun k e => ⟨_, e⟩⟩
/-- A kernel behind a step that gives it no block. -/
def PHold (ρ : Nat → Option PTag) (I : PI) (w : World) (K' : KS) (w' : World) : Prop := ∃ ρ' I', PK w' ρ' I' K' ∧ I'.kb = I.kb ∧ (∀ k, Own ρ' k → Own ρ k) ∧ Turned (Own ρ) w w'
theorem PHold.of {w w' : World} {ρ : Nat → Option PTag} {I I' : PI} {K' : KS} (h : PK w' ρ I' K') (hk : I'.kb = I.kb) (hT : Turned (Own ρ) w w') : PHold ρ I w K' w' := ⟨ρ, I', h, hk, fun _ e => e, hT⟩
theorem PHold.after {w w1 w' : World} {ρ : Nat → Option PTag} {I I1 : PI} {K' : KS} (hT : Turned (Own ρ) w w1) (hk : I1.kb = I.kb) (h : PHold ρ I1 w1 K' w') : PHold ρ I w K' w' := by
  obtain ⟨ρ', I', h1, h2, h3, h4⟩ := h
  exact ⟨ρ', I', h1, h2.trans hk, h3, hT.trans h4 (fun _ _ e => e)⟩
theorem PK.objHold {W W' : World} {ρ : Nat → Option PTag} {I : PI} {K : KS} (h : PK W ρ I K) {i : Nat} (hi : i < K.th.length) {ob' : Ob} (hk : ob'.kind = K.th[i].ob.kind) (hO : PObj W' (fun k => ρ k = some (.obj i)) (I.ob i) ob') (hT : Turned (fun k => ρ k = some (.obj i)) W W')
    (hc : ∀ ls scr, ob' = .term ls scr → ∃ ls0 scr0, K.th[i].ob = .term ls0 scr0 ∧ scr.length = scr0.length) : PHold ρ I W (K.setOb i ob') W' := by
  obtain ⟨ρ', h4, h5, h6⟩ := h.setOb hi hk (hT.mono fun k e => Or.inl e) hO (fun k e => .inl e) (fun ls scr e => by
    obtain ⟨ls0, scr0, e0, e1⟩ := hc ls scr e
    obtain ⟨a1, a2⟩ := h.comp (.cons i) hi ls0 scr0 e0
    rw [e1]
    exact (hT.block _ (h.lt _ _ a2) (fun e' => by rw [a2] at e'; cases e')).trans a1)
  exact ⟨ρ', I, h4, rfl, fun k ⟨t, e⟩ => (h6.2 k t e).elim id (fun e => ⟨_, e⟩), hT.mono fun k e => ⟨_, e⟩⟩
/-- What is read of a thing. -/
def KS.rdx (K : KS) (x : De) (m : Int) : List UInt8 × Int × KS := match K.tho x with
  | .file b => (piece b x.pos m.toNat, 0, K.setDe { x with pos := x.pos + (piece b x.pos m.toNat).length })
  | .term ls scr => (rdH ls m, Te_rdE m, K.setOb x.th (.term (rdR ls m) scr))
  | .pipe q rd wt => (rdB m q rd wt, Kp_rdE m q.length rd wt, K.setOb x.th (.pipe (rdQ m q rd wt) rd wt))
/-- Bytes and an error are answered. -/
def PRd (ρ : Nat → Option PTag) (I : PI) (w : World) (r : List UInt8 × Int × KS) (e : Ending) (w' : World) : Prop :=
  ∃ v, e = .returned (.tuple #[v, .int .i64 r.2.1]) ∧ w'.ownsRow w.heap.size 5 1 v r.1.length (r.1.map bv) ∧ PHold ρ I w r.2.2 w'
theorem PK.pobj {W : World} {ρ : Nat → Option PTag} {I : PI} {K : KS} (h : PK W ρ I K) {x : De} (hx : x ∈ K.de) : PObj W (fun k => ρ k = some (.obj x.th)) (I.ob x.th) (K.tho x) := by
  have hi := h.ok.th x hx
  rw [KS.tho_eq hi]
  exact h.comp (.obj x.th) hi
theorem KS.tho_th {K : KS} (h : KOk K) {x : De} (hx : x ∈ K.de) : K.th[x.th]? = some (K.th[x.th]'(h.th x hx)) ∧ K.tho x = (K.th[x.th]'(h.th x hx)).ob := ⟨List.getElem?_eq_getElem _, KS.tho_eq _⟩
theorem xread_file (ρ : Nat → Option PTag) (I : PI) (K : KS) (x : De) (b : List UInt8) (m : Int) (w : World) (h : PK w ρ I K) (hx : x ∈ K.de) (ho : K.tho x = .file b) (h1 : 1 ≤ m) (h2 : m ≤ 1048576) :
    Calls Tryz.prog 238 #[.pointer (some ⟨I.xb x.n, 0, none⟩), .int .i64 m] w (PRd ρ I w (K.rdx x m)) := by
  have hO := h.pobj hx
  rw [ho] at hO
  obtain ⟨hb, ht⟩ := h.comp (.ofile x.n) x hx rfl b ho
  have hdc := h.comp (.desc x.n) x hx rfl
  have hpos := h.ok.pos x hx
  refine (of_read (I.xb x.n) (I.ob x.th) b x.pos (bit x.flags 4) m _ w hb hO hpos h1 h2).mono ?_
  rintro e w' ⟨v, rfl, hrow, hC, hT⟩
  rw [show K.rdx x m = (piece b x.pos m.toNat, 0, K.setDe { x with pos := x.pos + (piece b x.pos m.toNat).length }) by unfold KS.rdx; rw [ho]]
  have hle : x.pos + (piece b x.pos m.toNat).length ≤ 1048576 := by have := hO.1; rw [piece_len]; omega
  have hT2 : Turned (fun k => ρ k = some (.desc x.n) ∨ ρ k = some (.ofile x.n)) w w' := hT.mono fun k e => by rw [e]; exact .inr ht
  refine ⟨v, rfl, hrow, PHold.of (h.setDe hx (x' := { x with pos := x.pos + (piece b x.pos m.toNat).length }) rfl rfl rfl hle (h.ok.held x hx) hT2 ?_ ?_) rfl (hT.mono fun k e => ⟨.ofile x.n, by rw [e]; exact ht⟩)⟩
  · exact (hT.block _ (h.lt _ _ hdc.2) (fun e => by rw [e, ht] at hdc; cases hdc.2)).trans hdc.1
  · intro b' _
    exact hC
theorem xread_term (ρ : Nat → Option PTag) (I : PI) (K : KS) (x : De) (ls : List (List UInt8)) (scr : List UInt8) (m : Int) (w : World) (h : PK w ρ I K) (hx : x ∈ K.de) (ho : K.tho x = .term ls scr) :
    Calls Tryz.prog 232 #[.pointer (some ⟨I.cb x.th, 0, none⟩), .int .i64 m] w (PRd ρ I w (K.rdx x m)) := by
  have hO := h.pobj hx
  have hi := h.ok.th x hx
  have hth := KS.tho_eq (K := K) (x := x) hi
  rw [ho] at hO hth
  obtain ⟨hb, ht⟩ := h.comp (.cons x.th) hi ls scr hth.symm
  refine (co_read (I.cb x.th) (I.ob x.th) scr.length ls scr m _ w hb hO).mono ?_
  rintro e w' ⟨v, rfl, hrow, hS, hT⟩
  rw [show K.rdx x m = (rdH ls m, Te_rdE m, K.setOb x.th (.term (rdR ls m) scr)) by unfold KS.rdx; rw [ho]]
  exact ⟨v, rfl, hrow, h.objHold hi (by rw [← hth]; rfl) hS hT (fun ls' scr' e => ⟨ls, scr, hth.symm, by cases e; rfl⟩)⟩
theorem xread_pipe (ρ : Nat → Option PTag) (I : PI) (K : KS) (x : De) (q : List UInt8) (rd wt : Nat) (m : Int) (w : World) (h : PK w ρ I K) (hx : x ∈ K.de) (ho : K.tho x = .pipe q rd wt) :
    Calls Tryz.prog 257 #[.agg #[.pointer (some ⟨I.ob x.th, 0, none⟩)], .int .i64 m] w (PRd ρ I w (K.rdx x m)) := by
  have hO := h.pobj hx
  have hi := h.ok.th x hx
  have hth := KS.tho_eq (K := K) (x := x) hi
  rw [ho] at hO hth
  refine (pp_read (I.ob x.th) q rd wt m _ w hO).mono ?_
  rintro e w' ⟨v, rfl, hrow, hS, hT⟩
  rw [show K.rdx x m = (rdB m q rd wt, Kp_rdE m q.length rd wt, K.setOb x.th (.pipe (rdQ m q rd wt) rd wt)) by unfold KS.rdx; rw [ho]]
  exact ⟨v, rfl, hrow, h.objHold hi (by rw [← hth]; rfl) hS hT (fun ls' scr' e => by cases e)⟩
theorem read_is {K : KS} {d n : Int} {x : De} (hx : K.find d = some x) (h1 : fbit x.flags 1 ≠ 0) (h2 : 1 ≤ n) (h3 : n ≤ 1048576) (h4 : (K.tho x).waits = false) :
    K.read d n = if (nxt K.plan n).2 = 0 then K.readUp.rdx x (nxt K.plan n).1 else ([], (nxt K.plan n).2, K.readUp) := by
  unfold KS.read KS.rdx
  rw [hx]
  simp only
  rw [if_neg h1, if_neg (by omega), if_neg (by omega), if_neg (by rw [h4]; decide)]
  show _ = if _ then (match K.tho x with | .file b => _ | .term ls scr => _ | .pipe q rd wt => _) else _
  split
  · cases K.tho x <;> rfl
  · rfl
theorem PRd.refused {w : World} {ρ : Nat → Option PTag} {I : PI} {K : KS} {w' : World} (h : PK w ρ I K) (hB : Below w.heap.size w w') (E : Int) : PRd ρ I w ([], E, K) (.returned (.tuple #[.slice none 0 0, .int .i64 E])) w' :=
  ⟨_, rfl, World.ownsRow_nil _ _ _ _, PHold.of (h.under hB) rfl (Turned.of_below hB)⟩
end Go.Proofs.YtkkicbhmcjbmbaaGreat

/- The program's kernel: what is written to a thing. -/
namespace Go.Proofs.YtkkicbhmcjbmbaaGreat
open Go.RowKit Go.Maps

/-- What is written to a thing. -/
def KS.wrx (K : KS) (x : De) (b : List UInt8) (m : Int) : Int × Int × KS := match K.tho x with
  | .file f => ((min m.toNat (1048576 - placeOf f x.flags x.pos) : Nat), 0, (K.setOb x.th (.file (wrL f (placeOf f x.flags x.pos) (b.take (min m.toNat (1048576 - placeOf f x.flags x.pos)))))).setDe { x with pos := placeOf f x.flags x.pos + min m.toNat (1048576 - placeOf f x.flags x.pos) })
  | .term ls scr => ((min m.toNat (1048576 - scr.length) : Nat), 0, K.setOb x.th (.term ls (scr ++ b.take (min m.toNat (1048576 - scr.length)))))
  | .pipe q rd wt => ((wrN b.length m q.length rd wt : Nat), Kp_wrE b.length m q.length rd wt, K.setOb x.th (.pipe (q ++ b.take (wrN b.length m q.length rd wt)) rd wt))
/-- A number and an error are answered. -/
def PNum (ρ : Nat → Option PTag) (I : PI) (w : World) (r : Int × Int × KS) (e : Ending) (w' : World) : Prop :=
  e = .returned (.tuple #[.int .i64 r.1, .int .i64 r.2.1]) ∧ PNext ρ I w r.2.2 w'
theorem PNum.refused {w : World} {ρ : Nat → Option PTag} {I : PI} {K : KS} {w' : World} (h : PK w ρ I K) (hB : Below w.heap.size w w') (E : Int) : PNum ρ I w (0, E, K) (.returned (.tuple #[.int .i64 0, .int .i64 E])) w' :=
  ⟨rfl, PNext.of (h.under hB) rfl (Turned.of_below hB)⟩
theorem plc_place (b : List UInt8) (f : Int) (pos : Nat) : plc b (bit f 4) pos = placeOf b f pos := rfl
theorem xwrite_file (ρ : Nat → Option PTag) (I : PI) (K : KS) (x : De) (b bs : List UInt8) (m : Nat) (a1 : Option Addr) (cx : Nat) (w : World) (h : PK w ρ I K) (hx : x ∈ K.de) (ho : K.tho x = .file b)
    (hb : Bys w (.slice a1 bs.length cx) bs) (hcap : bs.length ≤ cx) (h1 : 1 ≤ m) (h2 : m ≤ bs.length) (h3 : bs.length ≤ 1048576) (hd : ∀ k, (Value.slice a1 bs.length cx).ownBlock = some k → ¬ Own ρ k) :
    Calls Tryz.prog 241 #[.pointer (some ⟨I.xb x.n, 0, none⟩), .slice a1 bs.length cx, .int .i64 m] w (PNum ρ I w (K.wrx x bs m)) := by
  have hO := h.pobj hx
  have hi := h.ok.th x hx
  have hth := KS.tho_eq (K := K) (x := x) hi
  rw [ho] at hO hth
  obtain ⟨hxb, ht⟩ := h.comp (.ofile x.n) x hx rfl b ho
  have hdc := h.comp (.desc x.n) x hx rfl
  have hpos := h.ok.pos x hx
  have hxO : ¬ ρ (I.xb x.n) = some (.obj x.th) := fun e => by rw [ht] at e; cases e
  refine (of_write (I.xb x.n) (I.ob x.th) b bs x.pos (bit x.flags 4) m a1 cx _ w hxb hO hxO hpos hb hcap h1 h2 h3 (fun k e => ⟨fun e' => hd k e ⟨_, e'⟩, fun e' => hd k e ⟨.ofile x.n, by rw [e']; exact ht⟩⟩)).mono ?_
  rintro e w' ⟨rfl, hS⟩
  rw [plc_place] at hS
  have hat : placeOf b x.flags x.pos ≤ 1048576 := by
    unfold placeOf; split
    · exact hO.1
    · exact hpos
  rw [show K.wrx x bs m = (((min m (1048576 - placeOf b x.flags x.pos) : Nat) : Int), 0, (K.setOb x.th (.file (wrL b (placeOf b x.flags x.pos) (bs.take (min m (1048576 - placeOf b x.flags x.pos)))))).setDe { x with pos := placeOf b x.flags x.pos + min m (1048576 - placeOf b x.flags x.pos) }) by unfold KS.wrx; rw [ho]; rfl]
  rw [plc_place]
  generalize placeOf b x.flags x.pos = A at *
  have hz : (bs.take (min m (1048576 - A))).length = min m (1048576 - A) := by simp; omega
  rw [hz] at hS ⊢
  have hN : A + min m (1048576 - A) ≤ 1048576 := by omega
  generalize min m (1048576 - A) = N at *
  have hT1 := (Turned.refl (fun k => k = I.xb x.n) w).set (g := I.xb x.n) (j := 1) (u := .int .i64 ((A : Int) + (N : Int))) (.inl rfl)
  have hP1 : PK (w.setCell ⟨I.xb x.n, 1, none⟩ (.int .i64 ((A : Int) + (N : Int)))) ρ I (K.setDe { x with pos := A + N }) := by
    refine h.setDe hx (x' := { x with pos := A + N }) rfl rfl rfl hN (h.ok.held x hx) (hT1.mono fun k e => by rw [e]; exact .inr ht) ?_ ?_
    · exact (hT1.block _ (h.lt _ _ hdc.2) (fun e => by rw [e, ht] at hdc; cases hdc.2)).trans hdc.1
    · intro b' _
      rw [heap_setCell_same 1 _ hxb]
      rfl
  refine ⟨rfl, PNext.after (hT1.mono fun k e => ⟨.ofile x.n, by rw [e]; exact ht⟩) rfl (hP1.objStep (ob' := .file (wrL b A (bs.take N))) hi (by show (1 : Int) = (K.th[x.th].ob).kind; rw [← hth]; rfl) hS (fun ls scr e => by cases e))⟩
theorem xwrite_term (ρ : Nat → Option PTag) (I : PI) (K : KS) (x : De) (ls : List (List UInt8)) (scr bs : List UInt8) (m : Nat) (a1 : Option Addr) (cx : Nat) (w : World) (h : PK w ρ I K) (hx : x ∈ K.de) (ho : K.tho x = .term ls scr)
    (hb : Bys w (.slice a1 bs.length cx) bs) (hcap : bs.length ≤ cx) (h1 : 1 ≤ m) (h2 : m ≤ bs.length) (h3 : bs.length ≤ 1048576) (hd : ∀ k, (Value.slice a1 bs.length cx).ownBlock = some k → ¬ Own ρ k) :
    Calls Tryz.prog 235 #[.pointer (some ⟨I.cb x.th, 0, none⟩), .slice a1 bs.length cx, .int .i64 m] w (PNum ρ I w (K.wrx x bs m)) := by
  have hO := h.pobj hx
  have hi := h.ok.th x hx
  have hth := KS.tho_eq (K := K) (x := x) hi
  rw [ho] at hO hth
  obtain ⟨hcb, ht⟩ := h.comp (.cons x.th) hi ls scr hth.symm
  have hxO : ¬ ρ (I.cb x.th) = some (.obj x.th) := fun e => by rw [ht] at e; cases e
  have hat : scr.length ≤ 1048576 := hO.ok.2.2
  refine (co_write (I.cb x.th) (I.ob x.th) ls scr bs m a1 cx _ w hcb hO hxO hb hcap h1 h2 h3 (fun k e e' => hd k e ⟨.cons x.th, by rw [e']; exact ht⟩)).mono ?_
  rintro e w' ⟨rfl, hC, ⟨O', hO1, hO2⟩, hT⟩
  rw [show K.wrx x bs m = (((min m (1048576 - scr.length) : Nat) : Int), 0, K.setOb x.th (.term ls (scr ++ bs.take (min m (1048576 - scr.length))))) by unfold KS.wrx; rw [ho]; rfl]
  have hz : (bs.take (min m (1048576 - scr.length))).length = min m (1048576 - scr.length) := by simp; omega
  rw [hz]
  obtain ⟨ρ', a1, a2, a3⟩ := h.setOb hi (ob' := .term ls (scr ++ bs.take (min m (1048576 - scr.length)))) (by rw [← hth]; rfl) (hT.mono fun k e => e.imp id (fun e => by rw [e]; exact ht)) hO1 hO2 (fun ls' scr' e => by cases e; exact hC)
  exact ⟨rfl, ρ', I, a1, rfl, a2, hT.mono fun k e => by
    rcases e with e | e
    · exact ⟨_, e⟩
    · exact ⟨.cons x.th, by rw [e]; exact ht⟩⟩
theorem xwrite_pipe (ρ : Nat → Option PTag) (I : PI) (K : KS) (x : De) (q : List UInt8) (rd wt : Nat) (bs : List UInt8) (m : Int) (a1 : Option Addr) (cx : Nat) (w : World) (h : PK w ρ I K) (hx : x ∈ K.de) (ho : K.tho x = .pipe q rd wt)
    (hb : Bys w (.slice a1 bs.length cx) bs) (hcap : bs.length ≤ cx) (h3 : bs.length ≤ 1048576) (hd : ∀ k, (Value.slice a1 bs.length cx).ownBlock = some k → ¬ Own ρ k) :
    Calls Tryz.prog 260 #[.agg #[.pointer (some ⟨I.ob x.th, 0, none⟩)], .slice a1 bs.length cx, .int .i64 m] w (PNum ρ I w (K.wrx x bs m)) := by
  have hO := h.pobj hx
  have hi := h.ok.th x hx
  have hth := KS.tho_eq (K := K) (x := x) hi
  rw [ho] at hO hth
  refine (pp_write (I.ob x.th) q bs rd wt m a1 cx _ w hO hb hcap h3 (fun k e e' => hd k e ⟨_, e'⟩)).mono ?_
  rintro e w' ⟨rfl, hS⟩
  rw [show K.wrx x bs m = (((wrN bs.length m q.length rd wt : Nat) : Int), Kp_wrE bs.length m q.length rd wt, K.setOb x.th (.pipe (q ++ bs.take (wrN bs.length m q.length rd wt)) rd wt)) by unfold KS.wrx; rw [ho]]
  exact ⟨rfl, h.objStep hi (by rw [← hth]; rfl) hS (fun ls' scr' e => by cases e)⟩
theorem write_is {K : KS} {d : Int} {b : List UInt8} {x : De} (hx : K.find d = some x) (h1 : fbit x.flags 2 ≠ 0) (h2 : 1 ≤ b.length) (h3 : b.length ≤ 1048576) (h4 : refusal (K.tho x) x.flags x.pos b.length = 0) :
    K.write d b = if (nxt K.plan b.length).2 = 0 then K.writeUp.wrx x b (nxt K.plan b.length).1 else (0, (nxt K.plan b.length).2, K.writeUp) := by
  unfold KS.write KS.wrx
  rw [hx]
  simp only
  rw [if_neg h1, if_neg (by omega), if_neg (by omega), if_pos h4]
  show _ = if _ then (match K.tho x with | .file b => _ | .term ls scr => _ | .pipe q rd wt => _) else _
  split
  · cases K.tho x <;> rfl
  · rfl
end Go.Proofs.YtkkicbhmcjbmbaaGreat

/- The program's kernel: Seek, Keep. -/
namespace Go.Proofs.YtkkicbhmcjbmbaaGreat
open Go.RowKit Go.Maps

theorem as_openFile_openFile (x : Nat) (w : World) : (Instr.typeAssert (.iface 229 (.pointer (some ⟨x, 0, none⟩))) 169 229 true).run Tryz.prog w = .ok (.tuple #[(.pointer (some ⟨x, 0, none⟩)), .bool true]) w := by kernel_rfl
theorem as_openFile_console (x : Nat) (w : World) : (Instr.typeAssert (.iface 102 (.pointer (some ⟨x, 0, none⟩))) 169 229 true).run Tryz.prog w = .ok (.tuple #[.pointer none, .bool false]) w := by kernel_rfl
theorem as_openFile_pipeEnd (x : Nat) (w : World) : (Instr.typeAssert (.iface 239 (.agg #[.pointer (some ⟨x, 0, none⟩)])) 169 229 true).run Tryz.prog w = .ok (.tuple #[.pointer none, .bool false]) w := by kernel_rfl
theorem as_pipeEnd_openFile (x : Nat) (w : World) : (Instr.typeAssert (.iface 229 (.pointer (some ⟨x, 0, none⟩))) 169 239 true).run Tryz.prog w = .ok (.tuple #[.agg #[.pointer none], .bool false]) w := by kernel_rfl
theorem as_pipeEnd_console (x : Nat) (w : World) : (Instr.typeAssert (.iface 102 (.pointer (some ⟨x, 0, none⟩))) 169 239 true).run Tryz.prog w = .ok (.tuple #[.agg #[.pointer none], .bool false]) w := by kernel_rfl
theorem as_pipeEnd_pipeEnd (x : Nat) (w : World) : (Instr.typeAssert (.iface 239 (.agg #[.pointer (some ⟨x, 0, none⟩)])) 169 239 true).run Tryz.prog w = .ok (.tuple #[(.agg #[.pointer (some ⟨x, 0, none⟩)]), .bool true]) w := by kernel_rfl
set_option maxRecDepth 100000 in
theorem fileOf_yes (x : Nat) (w : World) : Calls Tryz.prog 147 #[.iface 229 (.pointer (some ⟨x, 0, none⟩))] w fun e w' => e = .returned (.tuple #[.pointer (some ⟨x, 0, none⟩), .bool true]) ∧ w' = w := by
  have ha := as_openFile_openFile x
  go_enter Tryz.func147, Tryz.ntmps147
  go_wp2
  go_ret2
  exact ⟨rfl, rfl⟩
set_option maxRecDepth 100000 in
theorem fileOf_term (x : Nat) (w : World) : Calls Tryz.prog 147 #[.iface 102 (.pointer (some ⟨x, 0, none⟩))] w fun e w' => e = .returned (.tuple #[.pointer none, .bool false]) ∧ w' = w := by
  have ha := as_openFile_console x
  go_enter Tryz.func147, Tryz.ntmps147
  go_wp2
  go_ret2
  exact ⟨rfl, rfl⟩
set_option maxRecDepth 100000 in
theorem fileOf_pipe (x : Nat) (w : World) : Calls Tryz.prog 147 #[.iface 239 (.agg #[.pointer (some ⟨x, 0, none⟩)])] w fun e w' => e = .returned (.tuple #[.pointer none, .bool false]) ∧ w' = w := by
  have ha := as_openFile_pipeEnd x
  go_enter Tryz.func147, Tryz.ntmps147
  go_wp2
  go_ret2
  exact ⟨rfl, rfl⟩
theorem res_pipe {fn : Func} {p u : Tmp} {w : World} (h : fn.results = #[.cell p 239, .tmp u]) (tmps : Array Value) (b : Nat) (hp : tmps.getD p undef = .pointer (some ⟨b, 0, none⟩)) (v : Option Addr) (h1 : w.cell? ⟨b, 0, none⟩ = some (.pointer v)) :
    (results fn tmps).run Tryz.prog w = .ok (.tuple #[.agg #[.pointer v], tmps.getD u undef]) w := by
  have a60 := Tryz.isAgg239
  have z60 := Tryz.sizeOf239
  have u3 := Tryz.underlying237
  have a3 := Tryz.isAgg237
  have z3 := Tryz.sizeOf237
  rw [results_cell_tmp h, hp]
  simp only [loadVar]
  go_simp
theorem recv2 (w : World) (v : Value) (t t' : TypeId) (o' : Value) : ((w.alloc (Obj.cells #[v] t)).alloc (Obj.cells #[o'] t')).cell? ⟨w.heap.size, 0, none⟩ = some v := by
  have := recv_below (w.alloc (Obj.cells #[v] t)) (Obj.cells #[o'] t')
  rw [this.cell (p := ⟨w.heap.size, 0, none⟩) (size_new _ _)]
  exact recv_cell w v t
theorem recv2b (w : World) (o o' : Obj) : Below w.heap.size w ((w.alloc o).alloc o') := (recv_below w o).trans ((recv_below _ o').mono (Nat.le_of_lt (size_new _ _)))
set_option maxRecDepth 100000 in
theorem pipeOf_file (x : Nat) (w : World) : Calls Tryz.prog 150 #[.iface 229 (.pointer (some ⟨x, 0, none⟩))] w fun e w' => e = .returned (.tuple #[.agg #[.pointer none], .bool false]) ∧ Below w.heap.size w w' := by
  have ha := as_pipeEnd_openFile x
  go_enter Tryz.func150, Tryz.ntmps150
  go_wp2
  refine bodyPost_ret (res_pipe rfl _ w.heap.size rfl none (recv2 _ _ _ _ _)) rfl ?_
  exact ⟨rfl, recv2b _ _ _⟩
set_option maxRecDepth 100000 in
theorem pipeOf_term (x : Nat) (w : World) : Calls Tryz.prog 150 #[.iface 102 (.pointer (some ⟨x, 0, none⟩))] w fun e w' => e = .returned (.tuple #[.agg #[.pointer none], .bool false]) ∧ Below w.heap.size w w' := by
  have ha := as_pipeEnd_console x
  go_enter Tryz.func150, Tryz.ntmps150
  go_wp2
  refine bodyPost_ret (res_pipe rfl _ w.heap.size rfl none (recv2 _ _ _ _ _)) rfl ?_
  exact ⟨rfl, recv2b _ _ _⟩
set_option maxRecDepth 100000 in
theorem pipeOf_yes (x : Nat) (w : World) : Calls Tryz.prog 150 #[.iface 239 (.agg #[.pointer (some ⟨x, 0, none⟩)])] w fun e w' => e = .returned (.tuple #[(.agg #[.pointer (some ⟨x, 0, none⟩)]), .bool true]) ∧ Below w.heap.size w w' := by
  have ha := as_pipeEnd_pipeEnd x
  go_enter Tryz.func150, Tryz.ntmps150
  go_wp2
  refine bodyPost_ret (res_pipe rfl _ w.heap.size rfl (some ⟨x, 0, none⟩) (recv2 _ _ _ _ _)) rfl ?_
  exact ⟨rfl, recv2b _ _ _⟩
theorem PK.seekTo {W : World} {ρ : Nat → Option PTag} {I : PI} {K : KS} (h : PK W ρ I K) {x : De} (hx : x ∈ K.de) {b : List UInt8} (ho : K.tho x = .file b) (p : Nat) (hp : p ≤ 1048576) (v : Int) (hv : v = (p : Int)) :
    PNext ρ I W (K.setDe { x with pos := p }) (W.setCell ⟨I.xb x.n, 1, none⟩ (.int .i64 v)) := by
  subst hv
  obtain ⟨hxb, ht⟩ := h.comp (.ofile x.n) x hx rfl b ho
  have hdc := h.comp (.desc x.n) x hx rfl
  have hT1 := (Turned.refl (fun k => k = I.xb x.n) W).set (g := I.xb x.n) (j := 1) (u := .int .i64 (p : Int)) (.inl rfl)
  refine PNext.of (h.setDe hx (x' := { x with pos := p }) rfl rfl rfl hp (h.ok.held x hx) (hT1.mono fun k e => by rw [e]; exact .inr ht) ?_ ?_) rfl (hT1.mono fun k e => ⟨.ofile x.n, by rw [e]; exact ht⟩)
  · exact (hT1.block _ (h.lt _ _ hdc.2) (fun e => by rw [e, ht] at hdc; cases hdc.2)).trans hdc.1
  · intro b' _
    rw [heap_setCell_same 1 _ hxb]
    rfl
set_option maxRecDepth 100000 in
set_option maxHeartbeats 4000000 in
theorem kseek_any (ρ : Nat → Option PTag) (I : PI) (K : KS) (d off wh : Int) (w : World) (h : PK w ρ I K) (hd : I64 d) (hoff : I64 off) :
    Calls Tryz.prog 58 #[.pointer (some ⟨I.kb, 0, none⟩), .int .i64 d, .int .i64 off, .int .i64 wh] w (PNum ρ I w (K.seek d off wh)) := by
  have HF := hide (described_any ρ I K d w h hd)
  have HX := hide fun E => PNum.refused h (Below.refl _ w) E
  cases hx : K.find d with
  | none =>
    rw [hx] at HF
    rw [show K.seek d off wh = (0, 64, K) by unfold KS.seek; rw [hx]]
    clear h
    go_enter Tryz.func58, Tryz.ntmps58
    go_wp2_with fail
    refine HF.out.mono ?_
    rintro e w1 ⟨rfl, rfl⟩
    unfold descV
    go_wp2
    go_ret2
    exact HX.out 64
  | some x =>
    rw [hx] at HF
    have hm := (KS.find_some hx).1
    have c0 := (h.desc hm).thing
    have hpos := h.ok.pos x hm
    have HO := hide (h.pobj hm)
    cases ho : K.tho x with
    | term ls scr =>
      rw [show K.seek d off wh = (0, 66, K) by unfold KS.seek; rw [hx]; simp only; rw [ho]]
      rw [thing_term ho] at c0
      clear h
      go_enter Tryz.func58, Tryz.ntmps58
      go_wp2_with fail
      refine HF.out.mono ?_
      rintro e w1 ⟨rfl, rfl⟩
      unfold descV
      go_wp2_with fail
      refine (fileOf_term (I.cb x.th) _).mono ?_
      rintro e w2 ⟨rfl, rfl⟩
      go_wp2
      go_ret2
      exact HX.out 66
    | pipe q rd wt =>
      rw [show K.seek d off wh = (0, 66, K) by unfold KS.seek; rw [hx]; simp only; rw [ho]]
      rw [thing_pipe ho] at c0
      clear h
      go_enter Tryz.func58, Tryz.ntmps58
      go_wp2_with fail
      refine HF.out.mono ?_
      rintro e w1 ⟨rfl, rfl⟩
      unfold descV
      go_wp2_with fail
      refine (fileOf_pipe (I.ob x.th) _).mono ?_
      rintro e w2 ⟨rfl, rfl⟩
      go_wp2
      go_ret2
      exact HX.out 66
    | file b =>
      rw [thing_file ho] at c0
      rw [ho] at HO
      have hbl := HO.out.1
      obtain ⟨c1, c2, c3, c4⟩ := OFc.cells (h.comp (.ofile x.n) x hm rfl b ho).1
      have HSz := hide (po_fsize _ (I.ob x.th) b w HO.out)
      have HT := hide fun p hp v hv => h.seekTo hm ho p hp v hv
      have hR : ∀ base : Int, base = (if wh = 1 then (x.pos : Int) else if wh = 2 then (b.length : Int) else 0) → 0 ≤ wh → wh ≤ 2 → K.seek d off wh = if 0 ≤ base + off ∧ base + off ≤ 1048576 then (base + off, 0, K.setDe { x with pos := (base + off).toNat }) else (0, 4, K) := by
        intro base hb h1 h2
        subst hb
        unfold KS.seek
        rw [hx]
        simp only
        rw [ho]
        simp only
        rw [if_neg (by omega)]
      by_cases hw : wh < 0 ∨ 2 < wh
      · rw [show K.seek d off wh = (0, 1, K) by unfold KS.seek; rw [hx]; simp only; rw [ho]; simp only; rw [if_pos hw]]
        have q0 : ¬ wh = 0 := by omega
        have q1 : ¬ wh = 1 := by omega
        have q2 : ¬ wh = 2 := by omega
        have r0 : (wh == 0) = false := by simpa using q0
        have r1 : (wh == 1) = false := by simpa using q1
        have r2 : (wh == 2) = false := by simpa using q2
        have s0 : ((0 : Int) == wh) = false := by simp; omega
        have s1 : ((1 : Int) == wh) = false := by simp; omega
        have s2 : ((2 : Int) == wh) = false := by simp; omega
        clear h hR HT
        go_enter Tryz.func58, Tryz.ntmps58
        go_wp2_with fail
        refine HF.out.mono ?_
        rintro e w1 ⟨rfl, rfl⟩
        unfold descV
        go_wp2_with fail
        refine (fileOf_yes (I.xb x.n) _).mono ?_
        rintro e w2 ⟨rfl, rfl⟩
        go_wp2
        go_ret2
        exact HX.out 1
      · obtain ⟨o1, o2⟩ := hoff
        rcases (show wh = 0 ∨ wh = 1 ∨ wh = 2 by omega) with rfl | rfl | rfl
        · have hK := hR (0 : Int) (by simp) (by omega) (by omega)
          by_cases hin : 0 ≤ (0 : Int) + off ∧ (0 : Int) + off ≤ 1048576
          · rw [if_pos hin] at hK
            rw [hK]
            have HD := hide (HT.out ((0 : Int) + off).toNat (by omega) (off) (by omega))
            have t1 : ¬ off < -(0 : Int) := by omega
            have t2 : ¬ 1048576 - (0 : Int) < off := by omega
            have HI := hide hin
            clear h hR HT hK hin
            go_enter Tryz.func58, Tryz.ntmps58
            go_wp2_with fail
            refine HF.out.mono ?_
            rintro e w1 ⟨rfl, rfl⟩
            unfold descV
            go_wp2_with fail
            refine (fileOf_yes (I.xb x.n) _).mono ?_
            rintro e w2 ⟨rfl, rfl⟩
            go_wp2
            go_ret2
            refine ⟨?_, HD.out⟩
            first | rfl | (simp only [Int.zero_add]; rfl)
          · rw [if_neg hin] at hK
            rw [hK]
            clear h hR HT hK
            by_cases t1 : off < -(0 : Int)
            · go_enter Tryz.func58, Tryz.ntmps58
              go_wp2_with fail
              refine HF.out.mono ?_
              rintro e w1 ⟨rfl, rfl⟩
              unfold descV
              go_wp2_with fail
              refine (fileOf_yes (I.xb x.n) _).mono ?_
              rintro e w2 ⟨rfl, rfl⟩
              go_wp2
              go_ret2
              exact HX.out 4
            · have t2 : 1048576 - (0 : Int) < off := by omega
              go_enter Tryz.func58, Tryz.ntmps58
              go_wp2_with fail
              refine HF.out.mono ?_
              rintro e w1 ⟨rfl, rfl⟩
              unfold descV
              go_wp2_with fail
              refine (fileOf_yes (I.xb x.n) _).mono ?_
              rintro e w2 ⟨rfl, rfl⟩
              go_wp2
              go_ret2
              exact HX.out 4
        · have hK := hR (x.pos : Int) (by simp) (by omega) (by omega)
          by_cases hin : 0 ≤ (x.pos : Int) + off ∧ (x.pos : Int) + off ≤ 1048576
          · rw [if_pos hin] at hK
            rw [hK]
            have HD := hide (HT.out ((x.pos : Int) + off).toNat (by omega) ((x.pos : Int) + off) (by omega))
            have t1 : ¬ off < -(x.pos : Int) := by omega
            have t2 : ¬ 1048576 - (x.pos : Int) < off := by omega
            have HI := hide hin
            clear h hR HT hK hin
            go_enter Tryz.func58, Tryz.ntmps58
            go_wp2_with fail
            refine HF.out.mono ?_
            rintro e w1 ⟨rfl, rfl⟩
            unfold descV
            go_wp2_with fail
            refine (fileOf_yes (I.xb x.n) _).mono ?_
            rintro e w2 ⟨rfl, rfl⟩
            go_wp2
            go_ret2
            refine ⟨?_, HD.out⟩
            first | rfl | (simp only [Int.zero_add]; rfl)
          · rw [if_neg hin] at hK
            rw [hK]
            clear h hR HT hK
            by_cases t1 : off < -(x.pos : Int)
            · go_enter Tryz.func58, Tryz.ntmps58
              go_wp2_with fail
              refine HF.out.mono ?_
              rintro e w1 ⟨rfl, rfl⟩
              unfold descV
              go_wp2_with fail
              refine (fileOf_yes (I.xb x.n) _).mono ?_
              rintro e w2 ⟨rfl, rfl⟩
              go_wp2
              go_ret2
              exact HX.out 4
            · have t2 : 1048576 - (x.pos : Int) < off := by omega
              go_enter Tryz.func58, Tryz.ntmps58
              go_wp2_with fail
              refine HF.out.mono ?_
              rintro e w1 ⟨rfl, rfl⟩
              unfold descV
              go_wp2_with fail
              refine (fileOf_yes (I.xb x.n) _).mono ?_
              rintro e w2 ⟨rfl, rfl⟩
              go_wp2
              go_ret2
              exact HX.out 4
        · have hK := hR (b.length : Int) (by simp) (by omega) (by omega)
          by_cases hin : 0 ≤ (b.length : Int) + off ∧ (b.length : Int) + off ≤ 1048576
          · rw [if_pos hin] at hK
            rw [hK]
            have HD := hide (HT.out ((b.length : Int) + off).toNat (by omega) ((b.length : Int) + off) (by omega))
            have t1 : ¬ off < -(b.length : Int) := by omega
            have t2 : ¬ 1048576 - (b.length : Int) < off := by omega
            have HI := hide hin
            clear h hR HT hK hin
            go_enter Tryz.func58, Tryz.ntmps58
            go_wp2_with fail
            refine HF.out.mono ?_
            rintro e w1 ⟨rfl, rfl⟩
            unfold descV
            go_wp2_with fail
            refine (fileOf_yes (I.xb x.n) _).mono ?_
            rintro e w2 ⟨rfl, rfl⟩
            go_wp2_with fail
            refine HSz.out.mono ?_
            rintro e w3 ⟨rfl, rfl⟩
            go_wp2
            go_ret2
            refine ⟨?_, HD.out⟩
            first | rfl | (simp only [Int.zero_add]; rfl)
          · rw [if_neg hin] at hK
            rw [hK]
            clear h hR HT hK
            by_cases t1 : off < -(b.length : Int)
            · go_enter Tryz.func58, Tryz.ntmps58
              go_wp2_with fail
              refine HF.out.mono ?_
              rintro e w1 ⟨rfl, rfl⟩
              unfold descV
              go_wp2_with fail
              refine (fileOf_yes (I.xb x.n) _).mono ?_
              rintro e w2 ⟨rfl, rfl⟩
              go_wp2_with fail
              refine HSz.out.mono ?_
              rintro e w3 ⟨rfl, rfl⟩
              go_wp2
              go_ret2
              exact HX.out 4
            · have t2 : 1048576 - (b.length : Int) < off := by omega
              go_enter Tryz.func58, Tryz.ntmps58
              go_wp2_with fail
              refine HF.out.mono ?_
              rintro e w1 ⟨rfl, rfl⟩
              unfold descV
              go_wp2_with fail
              refine (fileOf_yes (I.xb x.n) _).mono ?_
              rintro e w2 ⟨rfl, rfl⟩
              go_wp2_with fail
              refine HSz.out.mono ?_
              rintro e w3 ⟨rfl, rfl⟩
              go_wp2
              go_ret2
              exact HX.out 4
end Go.Proofs.YtkkicbhmcjbmbaaGreat

/- The program's kernel: Keep, Drop. -/
namespace Go.Proofs.YtkkicbhmcjbmbaaGreat
open Go.RowKit Go.Maps

/-- An error is answered. -/
def PErr (ρ : Nat → Option PTag) (I : PI) (w : World) (r : Int × KS) (e : Ending) (w' : World) : Prop :=
  e = .returned (.int .i64 r.1) ∧ PNext ρ I w r.2 w'
theorem PErr.refused {w : World} {ρ : Nat → Option PTag} {I : PI} {K : KS} {w' : World} (h : PK w ρ I K) (hB : Below w.heap.size w w') (E : Int) : PErr ρ I w (E, K) (.returned (.int .i64 E)) w' :=
  ⟨rfl, PNext.of (h.under hB) rfl (Turned.of_below hB)⟩
theorem PK.holdTo {W : World} {ρ : Nat → Option PTag} {I : PI} {K : KS} (h : PK W ρ I K) {x : De} (hx : x ∈ K.de) (n : Nat) (h1 : 1 ≤ n) (h2 : n ≤ 1024) (v : Int) (hv : v = (n : Int)) :
    PNext ρ I W (K.setDe { x with held := n }) (W.setCell ⟨I.db x.n, 3, none⟩ (.int .i64 v)) := by
  subst hv
  obtain ⟨hb, ht⟩ := h.comp (.desc x.n) x hx rfl
  have hT1 := (Turned.refl (fun k => k = I.db x.n) W).set (g := I.db x.n) (j := 3) (u := .int .i64 (n : Int)) (.inl rfl)
  refine PNext.of (h.setDe hx (x' := { x with held := n }) rfl rfl rfl (h.ok.pos x hx) ⟨h1, h2⟩ (hT1.mono fun k e => by rw [e]; exact .inl ht) ?_ ?_) rfl (hT1.mono fun k e => ⟨.desc x.n, by rw [e]; exact ht⟩)
  · rw [heap_setCell_same 3 _ hb]
    rfl
  · intro b' hb'
    obtain ⟨a1, a2⟩ := h.comp (.ofile x.n) x hx rfl b' hb'
    exact (hT1.block _ (h.lt _ _ a2) (fun e => by rw [e, ht] at a2; cases a2)).trans a1
set_option maxRecDepth 100000 in
set_option maxHeartbeats 2000000 in
theorem kkeep_any (ρ : Nat → Option PTag) (I : PI) (K : KS) (d : Int) (w : World) (h : PK w ρ I K) (hd : I64 d) :
    Calls Tryz.prog 60 #[.pointer (some ⟨I.kb, 0, none⟩), .int .i64 d] w (PErr ρ I w (K.keepE d, K.keepK d)) := by
  have HF := hide (described_any ρ I K d w h hd)
  have HX := hide fun E => PErr.refused h (Below.refl _ w) E
  cases hx : K.find d with
  | none =>
    rw [hx] at HF
    rw [show K.keepE d = 64 by unfold KS.keepE; rw [hx], show K.keepK d = K by unfold KS.keepK; rw [hx]]
    clear h
    go_enter Tryz.func60, Tryz.ntmps60
    go_wp2_with fail
    refine HF.out.mono ?_
    rintro e w1 ⟨rfl, rfl⟩
    unfold descV
    go_wp2
    go_ret
    exact HX.out 64
  | some x =>
    rw [hx] at HF
    have hm := (KS.find_some hx).1
    have c3 := (h.desc hm).held
    have c3s : w.frozen? ⟨I.db x.n, 3, none⟩ = false := frozen_of_row w (I.db x.n) 3 _ _ (h.comp (.desc x.n) x hm rfl).1
    have hh := h.ok.held x hm
    by_cases hc : 1024 ≤ x.held
    · rw [show K.keepE d = 3 by unfold KS.keepE; rw [hx]; simp only; rw [if_pos hc], show K.keepK d = K by unfold KS.keepK; rw [hx]; simp only; rw [if_pos hc]]
      have h1 : x.held = 1024 := by omega
      rw [h1] at c3
      clear h
      go_enter Tryz.func60, Tryz.ntmps60
      go_wp2_with fail
      refine HF.out.mono ?_
      rintro e w1 ⟨rfl, rfl⟩
      unfold descV
      go_wp2
      go_ret
      exact HX.out 3
    · rw [show K.keepE d = 0 by unfold KS.keepE; rw [hx]; simp only; rw [if_neg hc], show K.keepK d = K.setDe { x with held := x.held + 1 } by unfold KS.keepK; rw [hx]; simp only; rw [if_neg hc]]
      have h1 : ¬ (x.held : Int) = 1024 := by omega
      have h2 : ((x.held : Int) == 1024) = false := by simpa using h1
      have HD := hide (h.holdTo hm (x.held + 1) (by omega) (by omega) ((x.held : Int) + 1) (by omega))
      clear h HX
      go_enter Tryz.func60, Tryz.ntmps60
      go_wp2_with fail
      refine HF.out.mono ?_
      rintro e w1 ⟨rfl, rfl⟩
      unfold descV
      go_wp2
      go_ret
      exact ⟨rfl, HD.out⟩
theorem perm_lose {x : De} : ∀ {l : List De}, l.Pairwise (fun a b => a.n ≠ b.n) → x ∈ l → l.Perm (x :: l.filter fun y => decide (y.n ≠ x.n))
  | [], _, h => by simp at h
  | a :: r, hp, h => by
    obtain ⟨h1, h2⟩ := List.pairwise_cons.1 hp
    by_cases e : a = x
    · subst e
      have : r.filter (fun y => decide (y.n ≠ a.n)) = r := List.filter_eq_self.2 fun y hy => by simpa using Ne.symm (h1 y hy)
      rw [List.filter_cons_of_neg (by simp), this]
    · have hx : x ∈ r := by simpa [Ne.symm e] using h
      rw [List.filter_cons_of_pos (by simpa using h1 x hx)]
      exact ((perm_lose h2 hx).cons a).trans (List.Perm.swap x a _)
theorem PK.apart {W : World} {ρ : Nat → Option PTag} {I : PI} {K : KS} (h : PK W ρ I K) : K.de.Pairwise fun a b => a.n ≠ b.n := by
  have := (h.comp .omap).1.nodup
  unfold KS.dl at this
  rw [List.pairwise_map] at this
  exact this.imp fun {a b} hab e => hab (by rw [e])
theorem PK.lose {W W' : World} {ρ : Nat → Option PTag} {I : PI} {K : KS} (h : PK W ρ I K) {x : De} (hm : PMap W' Tryz.prog 3 I.om ((K.lose x.n).dl I)) (hT : Turned (fun k => ρ k = some (.desc x.n) ∨ ρ k = some .omap) W W') : PK W' ρ I (K.lose x.n) := by
  have key : ∀ t, t ≠ .desc x.n → t ≠ .omap → PComp W' ρ I K t := fun t h1 h2 => (h.comp t).keep (fun k e hlt => hT.block k hlt (fun e' => by
    rcases e' with e' | e'
    · rw [e'] at e; exact h1 (Option.some.inj e).symm
    · rw [e'] at e; exact h2 (Option.some.inj e).symm)) hT.size
  have sub : ∀ d, d ∈ (K.lose x.n).de → d ∈ K.de ∧ d.n ≠ x.n := fun d hd => by
    have := List.mem_filter.1 hd
    exact ⟨this.1, by simpa using this.2⟩
  refine ⟨fun t => ?_, fun k t e => Nat.lt_of_lt_of_le (h.lt k t e) hT.size, ⟨Nat.le_trans (List.length_filter_le _ _) h.ok.few, h.ok.named, fun d hd => h.ok.th d (sub d hd).1, h.ok.nm, fun d hd => h.ok.num d (sub d hd).1, fun d hd d' hd' => h.ok.once d (sub d hd).1 d' (sub d' hd').1, fun d hd => h.ok.flags d (sub d hd).1, fun d hd => h.ok.pos d (sub d hd).1, fun d hd => h.ok.held d (sub d hd).1, h.ok.plan⟩, h.nm.same rfl rfl⟩
  cases t with
  | kern => exact key .kern (by simp) (by simp)
  | fmap => exact key .fmap (by simp) (by simp)
  | tmap => exact key .tmap (by simp) (by simp)
  | omap => exact ⟨hm, (h.comp .omap).2⟩
  | plan => exact key .plan (by simp) (by simp)
  | obj i => exact key (.obj i) (by simp) (by simp)
  | cons i => exact key (.cons i) (by simp) (by simp)
  | desc n =>
    intro d hd e
    subst e
    exact key (.desc d.n) (by simpa using (sub d hd).2) (by simp) d (sub d hd).1 rfl
  | ofile n => exact fun d hd e b hb => key (.ofile n) (by simp) (by simp) d (sub d hd).1 e b hb
/-- delete, of a description, in a world whose map is as it was. -/
theorem lose_run {W W1 : World} {ρ : Nat → Option PTag} {I : PI} {K : KS} (h : PK W ρ I K) {x : De} (hx : x ∈ K.de) (d : Int) (hd : I64 d) (hn : (x.n : Int) = d) (hW : W1.heap[I.om]? = W.heap[I.om]?) (hT : Turned (fun k => ρ k = some (.desc x.n) ∨ ρ k = some .omap) W W1) (ty : TypeId) :
    ∃ w', (Builtin.delete_ #[88, 3] ty #[.map (some I.om), .int .i64 d]).run Tryz.prog W1 = .ok (.tuple #[]) w' ∧ Hid (PNext ρ I W (K.lose x.n) w') := by
  have hpm : (K.dl I).Perm ((dkey x.n, I.db x.n) :: (K.lose x.n).dl I) := (perm_lose h.apart hx).map fun d : De => (dkey d.n, I.db d.n)
  have hm := ((h.comp .omap).1.perm hpm).keep hW
  obtain ⟨w', h1, h2, h3⟩ := PMap.drop (kl := dkey x.n) hm ikeyed Tryz.underlying88 (key := .int .i64 d) (by rw [dkey, hn]; exact int_key d hd.wf) ty
  refine ⟨w', h1, hide ?_⟩
  have hT2 : Turned (fun k => ρ k = some (.desc x.n) ∨ ρ k = some .omap) W w' := hT.trans (mapTurned_turned h3) (fun k _ e => by rw [e]; exact .inr (h.comp .omap).2)
  exact PNext.of (h.lose h2 hT2) rfl (hT2.mono fun k e => by
    rcases e with e | e
    · exact ⟨_, e⟩
    · exact ⟨_, e⟩)
end Go.Proofs.YtkkicbhmcjbmbaaGreat

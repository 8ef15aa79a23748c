/- What the proof stands on, part 12: the contracts of the program's calls that it reaches. -/
import Derived.Test.YtkkicbhmcjbmbaaGreatKM11
/- The program's kernel: Drop, CanRead, CanWrite. -/
namespace Go.Proofs.YtkkicbhmcjbmbaaGreat
open Go.RowKit Go.Maps

/-- A world with another block in its place. -/
def putBlock (w : World) (b : Nat) (o : Obj) : World := { w with heap := w.heap.setIfInBounds b o }
/-- A world with a description's cell as it was. -/
theorem restored {W W1 W2 : World} {O : Nat → Prop} {g : Nat} {p : Nat} {ob : Ob} (hg : g < W.heap.size) (hO : ¬ O g) (hT : Turned (fun k => k = g) W W1) (hS : PStep W1 O p ob W2) : ∃ V, PStep W O p ob V ∧ Turned (fun k => k = g) V W2 ∧ V.heap.size = W2.heap.size ∧ ∀ k, k ≠ g → V.heap[k]? = W2.heap[k]? := by
  obtain ⟨O', h1, h2, h3⟩ := hS
  have hO' : ∀ k, O' k → k ≠ g := fun k e e' => by
    subst e'
    rcases h2 k e with h | h
    · exact hO h
    · have := hT.size; omega
  have hs2 : g < W2.heap.size := Nat.lt_of_lt_of_le hg (Nat.le_trans hT.size h3.size)
  obtain ⟨o, ho⟩ : ∃ o, W.heap[g]? = some o := ⟨W.heap[g], Array.getElem?_eq_getElem hg⟩
  have hV : ∀ k, k ≠ g → (putBlock W2 g o).heap[k]? = W2.heap[k]? := fun k hk => by
    unfold putBlock
    simp [Ne.symm hk]
  have hVg : (putBlock W2 g o).heap[g]? = some o := by
    unfold putBlock
    simp [hs2]
  have hVs : (putBlock W2 g o).heap.size = W2.heap.size := by unfold putBlock; simp
  refine ⟨putBlock W2 g o, ⟨O', h1.keep (fun k e _ => hV k (hO' k e)) (by rw [hVs]; exact Nat.le_refl _), fun k e => (h2 k e).imp id (fun e => Nat.le_trans hT.size e), ?_⟩, ?_, hVs, hV⟩
  · refine ⟨h3.os.trans hT.os, h3.tape.trans hT.tape, h3.output.trans hT.output, by rw [hVs]; exact Nat.le_trans hT.size h3.size, fun k hk hn => ?_⟩
    by_cases e : k = g
    · subst e; rw [hVg, ho]
    · rw [hV k e, h3.block k (Nat.lt_of_lt_of_le hk hT.size) hn, hT.block k hk e]
  · exact ⟨rfl, rfl, rfl, by rw [hVs]; exact Nat.le_refl _, fun k _ hn => (hV k hn).symm⟩
theorem PNext.join {w w1 w2 : World} {ρ ρ' : Nat → Option PTag} {I I' : PI} {K2 : KS} (hn : newTags ρ ρ' w) (hT : Turned (Own ρ) w w1) (hk : I'.kb = I.kb) (h : PNext ρ' I' w1 K2 w2) : PNext ρ I w K2 w2 := by
  obtain ⟨ρ2, I2, b1, b2, b3, b4⟩ := h
  refine ⟨ρ2, I2, b1, b2.trans hk, fun k t e => ?_, hT.trans b4 (fun k hk ⟨t, e⟩ => ?_)⟩
  · rcases b3 k t e with ⟨t', e'⟩ | e'
    · exact hn k t' e'
    · exact .inr (Nat.le_trans hT.size e')
  · rcases hn k t e with h | h
    · exact h
    · omega
set_option maxRecDepth 100000 in
set_option maxHeartbeats 2000000 in
theorem kdrop_any (ρ : Nat → Option PTag) (I : PI) (K : KS) (d : Int) (w : World) (h : PK w ρ I K) (hd : I64 d) :
    Calls Tryz.prog 62 #[.pointer (some ⟨I.kb, 0, none⟩), .int .i64 d] w (PErr ρ I w (K.dropE d, K.dropK d)) := by
  have HF := hide (described_any ρ I K d w h hd)
  have HX := hide fun E => PErr.refused h (Below.refl _ w) E
  cases hx : K.find d with
  | none =>
    rw [hx] at HF
    rw [show K.dropE d = 64 by unfold KS.dropE; rw [hx], show K.dropK d = K by unfold KS.dropK; rw [hx]]
    clear h
    go_enter Tryz.func62, Tryz.ntmps62
    go_wp2_with fail
    refine HF.out.mono ?_
    rintro e w1 ⟨rfl, rfl⟩
    unfold descV
    go_wp2
    go_ret
    exact HX.out 64
  | some x =>
    rw [hx] at HF
    have hm := (KS.find_some hx).1
    have hnd := (KS.find_some hx).2
    have c0 := (h.desc hm).thing
    have c2 := (h.desc hm).writes
    have c3 := (h.desc hm).held
    obtain ⟨hb, ht⟩ := h.comp (.desc x.n) x hm rfl
    have c3s : w.frozen? ⟨I.db x.n, 3, none⟩ = false := frozen_of_row w (I.db x.n) 3 _ _ hb
    have hh := h.ok.held x hm
    rw [show K.dropE d = 0 by unfold KS.dropE; rw [hx]]
    by_cases hc : 1 < x.held
    · rw [show K.dropK d = K.setDe { x with held := x.held - 1 } by unfold KS.dropK; rw [hx]; simp only; rw [if_pos hc]]
      have HD := hide (h.holdTo hm (x.held - 1) (by omega) (by omega) ((x.held : Int) - 1) (by omega))
      have h1 : 0 < (x.held : Int) - 1 := by omega
      clear h HX hb
      go_enter Tryz.func62, Tryz.ntmps62
      go_wp2_with fail
      refine HF.out.mono ?_
      rintro e w1 ⟨rfl, rfl⟩
      unfold descV
      go_wp2
      go_ret
      exact ⟨rfl, HD.out⟩
    · have h1 : x.held = 1 := by omega
      rw [h1] at c3
      have hT1 := (Turned.refl (fun k => k = I.db x.n) w).set (g := I.db x.n) (j := 3) (u := .int .i64 (0 : Int)) (.inl rfl)
      have hlt : I.db x.n < w.heap.size := h.lt _ _ ht
      have hne : ∀ k t, ρ k = some t → t ≠ .desc x.n → k ≠ I.db x.n := fun k t e e' e2 => by rw [e2, ht] at e; exact e' (Option.some.inj e).symm
      have k3 : (w.setCell ⟨I.db x.n, 3, none⟩ (.int .i64 (0 : Int))).cell? ⟨I.kb, 3, none⟩ = some (.map (some I.om)) := hT1.cell h.cells.opens (hne _ _ (h.comp .kern).2.1 (by simp))
      have k0 : (w.setCell ⟨I.db x.n, 3, none⟩ (.int .i64 (0 : Int))).cell? ⟨I.db x.n, 0, none⟩ = some (thingV I K x) := by
        rw [World.cell?_setCell_other]
        · exact c0
        · simp
      have k2 : (w.setCell ⟨I.db x.n, 3, none⟩ (.int .i64 (0 : Int))).cell? ⟨I.db x.n, 2, none⟩ = some (.bool (bit x.flags 2)) := by
        rw [World.cell?_setCell_other]
        · exact c2
        · simp
      have HK := hide h
      have HT1 := hide hT1
      cases ho : K.tho x with
      | file b =>
        rw [show K.dropK d = K.lose x.n by unfold KS.dropK; rw [hx]; simp only; rw [if_neg hc, ho]]
        rw [thing_file ho] at k0
        clear h hb HX hT1
        go_enter Tryz.func62, Tryz.ntmps62
        go_wp2_with fail
        refine HF.out.mono ?_
        rintro e w1 ⟨rfl, rfl⟩
        unfold descV
        go_wp2_with fail
        generalize w1.setCell ⟨I.db x.n, 3, none⟩ (.int .i64 (0 : Int)) = w2 at *
        refine (pipeOf_file (I.xb x.n) _).mono ?_
        rintro e w3' ⟨rfl, hB'⟩
        have hB : Below w2.heap.size w2 (w3'.alloc (Obj.cells #[.pointer none] 239)) := hB'.trans ((recv_below _ _).mono hB'.size)
        have k3' := (hB.cell (p := ⟨I.kb, 3, none⟩) (World.block_lt_of_cell? w2 _ k3)).trans k3
        have hT3 : Turned (fun k => k = I.db x.n) w1 (w3'.alloc (Obj.cells #[.pointer none] 239)) := HT1.out.trans (Turned.of_below hB) (fun _ _ e => e)
        obtain ⟨w4, hr4, HN4⟩ := lose_run HK.out hm d hd hnd (hT3.block _ (HK.out.lt _ _ (HK.out.comp .omap).2) (hne _ _ (HK.out.comp .omap).2 (by simp))) (hT3.mono fun k e => by rw [e]; exact .inl ht) 0
        go_wp2
        go_ret
        exact ⟨rfl, HN4.out⟩
      | term ls scr =>
        rw [show K.dropK d = K.lose x.n by unfold KS.dropK; rw [hx]; simp only; rw [if_neg hc, ho]]
        rw [thing_term ho] at k0
        clear h hb HX hT1
        go_enter Tryz.func62, Tryz.ntmps62
        go_wp2_with fail
        refine HF.out.mono ?_
        rintro e w1 ⟨rfl, rfl⟩
        unfold descV
        go_wp2_with fail
        generalize w1.setCell ⟨I.db x.n, 3, none⟩ (.int .i64 (0 : Int)) = w2 at *
        refine (pipeOf_term (I.cb x.th) _).mono ?_
        rintro e w3' ⟨rfl, hB'⟩
        have hB : Below w2.heap.size w2 (w3'.alloc (Obj.cells #[.pointer none] 239)) := hB'.trans ((recv_below _ _).mono hB'.size)
        have k3' := (hB.cell (p := ⟨I.kb, 3, none⟩) (World.block_lt_of_cell? w2 _ k3)).trans k3
        have hT3 : Turned (fun k => k = I.db x.n) w1 (w3'.alloc (Obj.cells #[.pointer none] 239)) := HT1.out.trans (Turned.of_below hB) (fun _ _ e => e)
        obtain ⟨w4, hr4, HN4⟩ := lose_run HK.out hm d hd hnd (hT3.block _ (HK.out.lt _ _ (HK.out.comp .omap).2) (hne _ _ (HK.out.comp .omap).2 (by simp))) (hT3.mono fun k e => by rw [e]; exact .inl ht) 0
        go_wp2
        go_ret
        exact ⟨rfl, HN4.out⟩
      | pipe q rd wt =>
        rw [show K.dropK d = (K.setOb x.th (.pipe q (leaveR (bit x.flags 2) rd wt) (leaveW (bit x.flags 2) rd wt))).lose x.n by unfold KS.dropK; rw [hx]; simp only; rw [if_neg hc, ho]]
        rw [thing_pipe ho] at k0
        have hO := h.pobj hm
        have hi := h.ok.th x hm
        have hth := KS.tho_eq (K := K) (x := x) hi
        rw [ho] at hO hth
        have hOg : ¬ ρ (I.db x.n) = some (.obj x.th) := fun e => by rw [ht] at e; cases e
        have HL := hide fun W (hB : Turned (fun k => k = I.db x.n) w W) => po_pleave (fun k => ρ k = some (.obj x.th)) (I.ob x.th) q rd wt (bit x.flags 2) W (hO.keep (fun k e hlt => hB.block k hlt (fun e' => hOg (by rw [← e']; exact e))) hB.size)
        clear hb HX hT1
        have HE : Hid (∀ W2, Turned (fun k => k = I.db x.n) w W2 → ∀ W3, PStep W2 (fun k => ρ k = some (.obj x.th)) (I.ob x.th) (.pipe q (leaveR (bit x.flags 2) rd wt) (leaveW (bit x.flags 2) rd wt)) W3 → ∀ ty, ∃ w', (Builtin.delete_ #[88, 3] ty #[.map (some I.om), .int .i64 d]).run Tryz.prog W3 = .ok (.tuple #[]) w' ∧ Hid (PNext ρ I w ((K.setOb x.th (.pipe q (leaveR (bit x.flags 2) rd wt) (leaveW (bit x.flags 2) rd wt))).lose x.n) w')) := hide (by
          intro W2 hT W3 hS ty
          obtain ⟨V, hV1, hV2, hV3, hV4⟩ := restored hlt hOg hT hS
          obtain ⟨ρ', h1', h2', h3'⟩ := h.setOb (O' := hV1.choose) hi (ob' := .pipe q (leaveR (bit x.flags 2) rd wt) (leaveW (bit x.flags 2) rd wt)) (by rw [← hth]; rfl) (hV1.choose_spec.2.2.mono fun k e => Or.inl e) hV1.choose_spec.1 hV1.choose_spec.2.1 (fun ls' scr' e => by cases e)
          have om' := h3'.1 I.om (h.lt _ _ (h.comp .omap).2)
          have db' := h3'.1 (I.db x.n) hlt
          obtain ⟨w', a1, a2⟩ := lose_run h1' (x := x) hm d hd hnd (hV4 I.om (hne _ _ (h.comp .omap).2 (by simp))).symm (hV2.mono fun k e => by rw [e, db']; exact .inl ht) ty
          exact ⟨w', a1, hide (PNext.join h2' (hV1.choose_spec.2.2.mono fun k e => ⟨_, e⟩) rfl a2.out)⟩)
        clear c2
        generalize bit x.flags 2 = wb at *
        cases wb
        · clear h hO
          go_enter Tryz.func62, Tryz.ntmps62
          go_wp2_with fail
          refine HF.out.mono ?_
          rintro e w1 ⟨rfl, rfl⟩
          unfold descV
          go_wp2_with fail
          generalize w1.setCell ⟨I.db x.n, 3, none⟩ (.int .i64 (0 : Int)) = w2 at *
          refine (pipeOf_yes (I.ob x.th) _).mono ?_
          rintro e w3 ⟨rfl, hB'⟩
          have kp := recv_cell w3 (.pointer (some ⟨I.ob x.th, 0, none⟩)) 239
          have hB : Below w2.heap.size w2 (w3.alloc (Obj.cells #[.pointer (some ⟨I.ob x.th, 0, none⟩)] 239)) := hB'.trans ((recv_below _ _).mono hB'.size)
          have k3' := (hB.cell (p := ⟨I.kb, 3, none⟩) (World.block_lt_of_cell? w2 _ k3)).trans k3
          have k2' := (hB.cell (p := ⟨I.db x.n, 2, none⟩) (World.block_lt_of_cell? w2 _ k2)).trans k2
          have hlt2 := World.block_lt_of_cell? w2 _ k2
          have hlt3 := World.block_lt_of_cell? w2 _ k3
          have hsz := hB'.size
          have hT3 : Turned (fun k => k = I.db x.n) w1 (w3.alloc (Obj.cells #[.pointer (some ⟨I.ob x.th, 0, none⟩)] 239)).drew := HT1.out.trans (Turned.of_below (hB.trans ((Below.refl _ _).drew.mono hB.size))) (fun _ _ e => e)
          have HL3 := hide (HL.out _ hT3)
          have HE3 := hide (HE.out _ hT3)
          have hkO : ¬ ρ I.kb = some (.obj x.th) := fun e => by rw [(HK.out.comp .kern).2.1] at e; cases e
          have hnO : ¬ ρ w3.heap.size = some (.obj x.th) := fun e => by have := HK.out.lt _ _ e; have := HT1.out.size; omega
          clear hB HT1 hT3
          go_wp2_with fail
          go_region_held3 (fun w' => w'.cell? ⟨w3.heap.size, 0, none⟩ = some (.pointer (some ⟨I.ob x.th, 0, none⟩)) ∧ w'.cell? ⟨I.db x.n, 2, none⟩ = some (.bool false) ∧ w'.cell? ⟨I.kb, 3, none⟩ = some (.map (some I.om)))
            (first | exact K5 | go_keep)
            (first
              | (go_at_call 151; refine HL3.out.mono ?_; rintro e w5 ⟨rfl, hS5⟩; have K5 : w5.cell? ⟨w3.heap.size, 0, none⟩ = some (.pointer (some ⟨I.ob x.th, 0, none⟩)) ∧ w5.cell? ⟨I.db x.n, 2, none⟩ = some (.bool false) ∧ w5.cell? ⟨I.kb, 3, none⟩ = some (.map (some I.om)) := by obtain ⟨O', hs1, hs2, hs3⟩ := hS5; exact ⟨hs3.cell kp hnO, hs3.cell k2' hOg, hs3.cell k3' hkO⟩)
              | fail)
          obtain ⟨w6, hr6, HN6⟩ := HE3.out w5 hS5 0
          have k35 := K5.2.2
          go_wp2
          go_ret
          exact ⟨rfl, HN6.out⟩
        · clear h hO
          go_enter Tryz.func62, Tryz.ntmps62
          go_wp2_with fail
          refine HF.out.mono ?_
          rintro e w1 ⟨rfl, rfl⟩
          unfold descV
          go_wp2_with fail
          generalize w1.setCell ⟨I.db x.n, 3, none⟩ (.int .i64 (0 : Int)) = w2 at *
          refine (pipeOf_yes (I.ob x.th) _).mono ?_
          rintro e w3 ⟨rfl, hB'⟩
          have kp := recv_cell w3 (.pointer (some ⟨I.ob x.th, 0, none⟩)) 239
          have hB : Below w2.heap.size w2 (w3.alloc (Obj.cells #[.pointer (some ⟨I.ob x.th, 0, none⟩)] 239)) := hB'.trans ((recv_below _ _).mono hB'.size)
          have k3' := (hB.cell (p := ⟨I.kb, 3, none⟩) (World.block_lt_of_cell? w2 _ k3)).trans k3
          have k2' := (hB.cell (p := ⟨I.db x.n, 2, none⟩) (World.block_lt_of_cell? w2 _ k2)).trans k2
          have hlt2 := World.block_lt_of_cell? w2 _ k2
          have hlt3 := World.block_lt_of_cell? w2 _ k3
          have hsz := hB'.size
          have hT3 : Turned (fun k => k = I.db x.n) w1 (w3.alloc (Obj.cells #[.pointer (some ⟨I.ob x.th, 0, none⟩)] 239)).drew := HT1.out.trans (Turned.of_below (hB.trans ((Below.refl _ _).drew.mono hB.size))) (fun _ _ e => e)
          have HL3 := hide (HL.out _ hT3)
          have HE3 := hide (HE.out _ hT3)
          have hkO : ¬ ρ I.kb = some (.obj x.th) := fun e => by rw [(HK.out.comp .kern).2.1] at e; cases e
          have hnO : ¬ ρ w3.heap.size = some (.obj x.th) := fun e => by have := HK.out.lt _ _ e; have := HT1.out.size; omega
          clear hB HT1 hT3
          go_wp2_with fail
          go_region_held3 (fun w' => w'.cell? ⟨w3.heap.size, 0, none⟩ = some (.pointer (some ⟨I.ob x.th, 0, none⟩)) ∧ w'.cell? ⟨I.db x.n, 2, none⟩ = some (.bool true) ∧ w'.cell? ⟨I.kb, 3, none⟩ = some (.map (some I.om)))
            (first | exact K5 | go_keep)
            (first
              | (go_at_call 151; refine HL3.out.mono ?_; rintro e w5 ⟨rfl, hS5⟩; have K5 : w5.cell? ⟨w3.heap.size, 0, none⟩ = some (.pointer (some ⟨I.ob x.th, 0, none⟩)) ∧ w5.cell? ⟨I.db x.n, 2, none⟩ = some (.bool true) ∧ w5.cell? ⟨I.kb, 3, none⟩ = some (.map (some I.om)) := by obtain ⟨O', hs1, hs2, hs3⟩ := hS5; exact ⟨hs3.cell kp hnO, hs3.cell k2' hOg, hs3.cell k3' hkO⟩)
              | fail)
          obtain ⟨w6, hr6, HN6⟩ := HE3.out w5 hS5 0
          have k35 := K5.2.2
          go_wp2
          go_ret
          exact ⟨rfl, HN6.out⟩
end Go.Proofs.YtkkicbhmcjbmbaaGreat

/- The program's kernel: new things and new descriptions. -/
namespace Go.Proofs.YtkkicbhmcjbmbaaGreat
open Go.RowKit Go.Maps

def upd (f : Nat → Nat) (i v : Nat) : Nat → Nat := fun j => if j = i then v else f j
theorem upd_same (f : Nat → Nat) (i v : Nat) : upd f i v i = v := by simp [upd]
theorem upd_other {f : Nat → Nat} {i v j : Nat} (h : j ≠ i) : upd f i v j = f j := by simp [upd, h]
/-- A kernel with one more thing, and perhaps names in another order. -/
structure More (K K' : KS) (t : Th) : Prop where
  th : K'.th = K.th ++ [t]
  de : K'.de = K.de
  next : K'.next = K.next
  plan : K'.plan = K.plan
  reads : K'.reads = K.reads
  writes : K'.writes = K.writes
theorem More.obOf {K K' : KS} {t : Th} (h : More K K' t) {j : Nat} (hj : j < K.th.length) : K'.obOf j = K.obOf j := by simp [KS.obOf, h.th, List.getElem?_append_left hj]
theorem More.nameOf {K K' : KS} {t : Th} (h : More K K' t) {j : Nat} (hj : j < K.th.length) : K'.nameOf j = K.nameOf j := by simp [KS.nameOf, h.th, List.getElem?_append_left hj]
theorem More.obNew {K K' : KS} {t : Th} (h : More K K' t) : K'.obOf K.th.length = t.ob := by simp [KS.obOf, h.th]
theorem More.nameNew {K K' : KS} {t : Th} (h : More K K' t) : K'.nameOf K.th.length = t.name := by simp [KS.nameOf, h.th]
theorem More.at {K K' : KS} {t : Th} (h : More K K' t) {j : Nat} (hj : j < K.th.length) (hj' : j < K'.th.length) : K'.th[j] = K.th[j] := by simp [h.th, List.getElem_append_left hj]
theorem More.atNew {K K' : KS} {t : Th} (h : More K K' t) (hj' : K.th.length < K'.th.length) : K'.th[K.th.length] = t := by simp [h.th]
theorem PK.more {W W' : World} {ρ : Nat → Option PTag} {I : PI} {K K' : KS} {t : Th} (h : PK W ρ I K) (hM : More K K' t) (p c : Nat) {O' : Nat → Prop} (hO : PObj W' O' p t.ob) (hO' : ∀ k, O' k → W.heap.size ≤ k ∧ k ≠ c)
    (hc : ∀ ls scr, t.ob = .term ls scr → COc W' c p scr.length ∧ W.heap.size ≤ c) (hT : Turned (fun k => ρ k = some .fmap ∨ ρ k = some .tmap) W W') (hok : KOk K') (hnm : KNm K')
    (hf : PMap W' Tryz.prog 9 I.fm (K'.fl { I with ob := upd I.ob K.th.length p, cb := upd I.cb K.th.length c })) (ht : PMap W' Tryz.prog 9 I.tm (K'.tl { I with ob := upd I.ob K.th.length p, cb := upd I.cb K.th.length c })) :
    ∃ ρ', PK W' ρ' { I with ob := upd I.ob K.th.length p, cb := upd I.cb K.th.length c } K' ∧ newTags ρ ρ' W ∧ ∀ k, k < W.heap.size → ρ' k = ρ k := by
  classical
  obtain ⟨ρ', hρ⟩ : ∃ ρ' : Nat → Option PTag, ρ' = fun k => if k < W.heap.size then ρ k else if k < W'.heap.size then (if k = c then some (.cons K.th.length) else if O' k then some (.obj K.th.length) else none) else none := ⟨_, rfl⟩
  have low : ∀ k, k < W.heap.size → ρ' k = ρ k := fun k hlt => by rw [hρ]; simp [hlt]
  have fit : ∀ {k t}, ρ k = some t → ρ' k = some t := fun {k t} e => (low k (h.lt k t e)).trans e
  have back : ∀ {k t}, ρ' k = some t → ρ k = some t ∨ (W.heap.size ≤ k ∧ k < W'.heap.size) := by
    intro k t e
    by_cases hlt : k < W.heap.size
    · rw [low k hlt] at e; exact .inl e
    · rw [hρ] at e
      simp only [if_neg hlt] at e
      split at e
      · exact .inr ⟨by omega, by assumption⟩
      · cases e
  have key : ∀ t, t ≠ .fmap → t ≠ .tmap → PComp W' ρ I K t := fun t h1 h2 => (h.comp t).keep (fun k e hlt => hT.block k hlt (fun e' => by
    rcases e' with e' | e'
    · rw [e'] at e; exact h1 (Option.some.inj e).symm
    · rw [e'] at e; exact h2 (Option.some.inj e).symm)) hT.size
  have hlen : K'.th.length = K.th.length + 1 := by rw [hM.th]; simp
  have hthv : ∀ d ∈ K.de, thingV { I with ob := upd I.ob K.th.length p, cb := upd I.cb K.th.length c } K' d = thingV I K d := by
    intro d hd
    have hlt := h.ok.th d hd
    unfold thingV
    rw [KS.tho_obOf, KS.tho_obOf, hM.obOf hlt]
    simp only [upd_other (Nat.ne_of_lt hlt)]
  refine ⟨ρ', ⟨fun t' => ?_, fun k t e => ?_, hok, hnm⟩, fun k t e => (back e).imp (fun e' => ⟨t, e'⟩) (fun e' => e'.1), low⟩
  · cases t' with
    | kern =>
      obtain ⟨a1, a2, a3⟩ := key .kern (by simp) (by simp)
      refine ⟨?_, fit a2, by rw [hM.next]; exact a3⟩
      rw [hM.reads, hM.writes]
      exact a1
    | fmap => exact ⟨hf, fit (h.comp .fmap).2⟩
    | tmap => exact ⟨ht, fit (h.comp .tmap).2⟩
    | omap =>
      obtain ⟨a1, a2⟩ := key .omap (by simp) (by simp)
      refine ⟨?_, fit a2⟩
      unfold KS.dl at a1 ⊢
      rw [hM.de]
      exact a1
    | plan =>
      obtain ⟨a1, a2, a3⟩ := key .plan (by simp) (by simp)
      refine ⟨?_, fit a2, fun k e => fit (a3 k e)⟩
      rw [hM.plan]
      exact a1
    | obj j =>
      intro hj
      by_cases e : j = K.th.length
      · subst e
        rw [hM.atNew hj]
        simp only [upd_same]
        refine hO.trim.mono fun k ⟨e1, e2⟩ => ?_
        have := hO' k e1
        rw [hρ]
        simp [Nat.not_lt.2 this.1, e2, this.2, e1]
      · have hj' : j < K.th.length := by omega
        rw [hM.at hj' hj]
        simp only [upd_other e]
        exact (key (.obj j) (by simp) (by simp) hj').mono fun k e => fit e
    | cons j =>
      intro hj ls scr e1
      by_cases e : j = K.th.length
      · subst e
        rw [hM.atNew hj] at e1
        obtain ⟨a1, a2⟩ := hc ls scr e1
        simp only [upd_same]
        have hlt : c < W'.heap.size := (Array.getElem?_eq_some_iff.1 a1).1
        exact ⟨a1, by rw [hρ]; simp [Nat.not_lt.2 a2, hlt]⟩
      · have hj' : j < K.th.length := by omega
        rw [hM.at hj' hj] at e1
        simp only [upd_other e]
        obtain ⟨a1, a2⟩ := key (.cons j) (by simp) (by simp) hj' ls scr e1
        exact ⟨a1, fit a2⟩
    | desc n =>
      intro d hd e
      rw [hM.de] at hd
      obtain ⟨a1, a2⟩ := key (.desc n) (by simp) (by simp) d hd e
      exact ⟨by rw [hthv d hd]; exact a1, fit a2⟩
    | ofile n =>
      intro d hd e b hb
      rw [hM.de] at hd
      have hlt := h.ok.th d hd
      rw [KS.tho_obOf, hM.obOf hlt] at hb
      simp only [upd_other (Nat.ne_of_lt hlt)]
      obtain ⟨a1, a2⟩ := key (.ofile n) (by simp) (by simp) d hd e b hb
      exact ⟨a1, fit a2⟩
  · rcases back e with e' | e'
    · exact Nat.lt_of_lt_of_le (h.lt k t e') hT.size
    · exact e'.2
/-- What 'describe' leaves. -/
structure Described (w : World) (I : PI) (K : KS) (tv : Value) (flags : Int) (nb : Nat) (w' : World) : Prop where
  new : w.heap.size ≤ nb
  desc : w'.heap[nb]? = some (.cells ([tv, .bool (bit flags 1), .bool (bit flags 2), .int .i64 (1 : Nat)] : List Value).toArray 218 (0, 0))
  kern : w'.heap[I.kb]? = some (.cells ([.bool true, .map (some I.fm), .map (some I.tm), .map (some I.om), .int .i64 ((I.last + 1 : Nat) : Int), .pointer (some ⟨I.pb, 0, none⟩), .int .i64 K.reads, .int .i64 K.writes] : List Value).toArray 91 (0, 0))
  map : PMap w' Tryz.prog 3 I.om ((dkey (I.last + 1), nb) :: K.dl I)
  turned : Turned (fun k => k = I.kb ∨ k = I.om) w w'
theorem flags_ok1 : flagsOk 1 = true ∧ flagsOk 2 = true := by constructor <;> rfl
theorem PK.newDe {w w' : World} {ρ : Nat → Option PTag} {I : PI} {K : KS} (h : PK w ρ I K) {i : Nat} (hi : i < K.th.length) {flags : Int} (hf : flagsOk flags = true) (hfew : K.de.length < 256) {tv : Value} {nb xb : Nat} (hD : Described w I K tv flags nb w')
    (hx : ∀ b, K.obOf i = .file b → tv = .iface 229 (.pointer (some ⟨xb, 0, none⟩)) ∧ OFc w xb (I.ob i) 0 (bit flags 4) ∧ ρ xb = none)
    (hy : ∀ ls scr, K.obOf i = .term ls scr → tv = .iface 102 (.pointer (some ⟨I.cb i, 0, none⟩)))
    (hz : ∀ q rd wt, K.obOf i = .pipe q rd wt → tv = .iface 239 (.agg #[.pointer (some ⟨I.ob i, 0, none⟩)])) :
    ∃ ρ', PK w' ρ' { I with db := upd I.db K.next nb, xb := upd I.xb K.next xb, last := I.last + 1 } (K.newDe i flags) ∧ (∀ k t, ρ' k = some t → ρ k = some t ∨ k = nb ∨ ((∃ b, K.obOf i = .file b) ∧ k = xb)) ∧ (∀ k t, ρ k = some t → ρ' k = some t) := by
  classical
  have hnx := (h.comp .kern).2.2
  have hkb := (h.comp .kern).2.1
  have hom := (h.comp .omap).2
  obtain ⟨ρ', hρ⟩ : ∃ ρ' : Nat → Option PTag, ρ' = fun k => if k = nb then some (.desc K.next) else if (∃ b, K.obOf i = .file b) ∧ k = xb then some (.ofile K.next) else ρ k := ⟨_, rfl⟩
  have hnb : ∀ {k t}, ρ k = some t → k ≠ nb := fun {k t} e e' => by have := h.lt k t e; have := hD.new; omega
  have fit : ∀ {k t}, ρ k = some t → ρ' k = some t := fun {k t} e => by
    rw [hρ]
    simp only [if_neg (hnb e)]
    rw [if_neg (fun hh => by obtain ⟨⟨b, hb⟩, e'⟩ := hh; rw [e', (hx b hb).2.2] at e; cases e)]
    exact e
  have back : ∀ {k t}, ρ' k = some t → ρ k = some t ∨ k = nb ∨ ((∃ b, K.obOf i = .file b) ∧ k = xb) := fun {k t} e => by
    rw [hρ] at e
    simp only at e
    split at e
    · rename_i hh; exact .inr (.inl hh)
    · split at e
      · rename_i hh; exact .inr (.inr hh)
      · exact .inl e
  have hT := hD.turned
  have key : ∀ t, t ≠ .kern → t ≠ .omap → PComp w' ρ I K t := fun t h1 h2 => (h.comp t).keep (fun k e hlt => hT.block k hlt (fun e' => by
    rcases e' with e' | e'
    · rw [e', hkb] at e; exact h1 (Option.some.inj e).symm
    · rw [e', hom] at e; exact h2 (Option.some.inj e).symm)) hT.size
  have hmem : ∀ d, d ∈ (K.newDe i flags).de → d ∈ K.de ∨ d = ⟨K.next, i, flags, 0, 1⟩ := fun d hd => by
    have : d ∈ K.de ++ [(⟨K.next, i, flags, 0, 1⟩ : De)] := hd
    simpa using this
  have hold : ∀ d ∈ K.de, d.n ≠ K.next := fun d hd => by have := (h.ok.num d hd).2; omega
  have hthv : ∀ d ∈ K.de, thingV { I with db := upd I.db K.next nb, xb := upd I.xb K.next xb, last := I.last + 1 } (K.newDe i flags) d = thingV I K d := by
    intro d hd
    unfold thingV
    rw [show (K.newDe i flags).tho d = K.tho d from rfl]
    simp only [upd_other (hold d hd)]
  have h1n : 1 ≤ K.next := by omega
  refine ⟨ρ', ⟨fun t' => ?_, fun k t e => ?_, ?_, h.nm.same rfl rfl⟩, fun k t e => back e, fun k t e => fit e⟩
  · cases t' with
    | kern => exact ⟨hD.kern, fit hkb, by show K.next + 1 = _; rw [hnx]⟩
    | fmap => obtain ⟨a1, a2⟩ := key .fmap (by simp) (by simp); exact ⟨a1, fit a2⟩
    | tmap => obtain ⟨a1, a2⟩ := key .tmap (by simp) (by simp); exact ⟨a1, fit a2⟩
    | omap =>
      refine ⟨hD.map.perm ?_, fit hom⟩
      unfold KS.dl
      show List.Perm _ (List.map _ (K.de ++ [_]))
      rw [List.map_append]
      simp only [List.map_cons, List.map_nil, upd_same]
      rw [show K.de.map (fun d => (dkey d.n, upd I.db K.next nb d.n)) = K.de.map (fun d => (dkey d.n, I.db d.n)) from List.map_congr_left fun d hd => by rw [upd_other (hold d hd)], hnx]
      exact (List.perm_append_comm (l₁ := [_]) (l₂ := _))
    | plan => obtain ⟨a1, a2, a3⟩ := key .plan (by simp) (by simp); exact ⟨a1, fit a2, fun k e => fit (a3 k e)⟩
    | obj j => exact fun hj => (key (.obj j) (by simp) (by simp) hj).mono fun k e => fit e
    | cons j => exact fun hj ls scr e => by obtain ⟨a1, a2⟩ := key (.cons j) (by simp) (by simp) hj ls scr e; exact ⟨a1, fit a2⟩
    | desc n =>
      intro d hd e
      subst e
      rcases hmem d hd with hd | rfl
      · obtain ⟨a1, a2⟩ := key (.desc d.n) (by simp) (by simp) d hd rfl
        simp only [upd_other (hold d hd)]
        exact ⟨by rw [hthv d hd]; exact a1, fit a2⟩
      · simp only [upd_same]
        refine ⟨?_, by rw [hρ]; simp⟩
        rw [hD.desc]
        have : thingV { I with db := upd I.db K.next nb, xb := upd I.xb K.next xb, last := I.last + 1 } (K.newDe i flags) ⟨K.next, i, flags, 0, 1⟩ = tv := by
          unfold thingV
          rw [show (K.newDe i flags).tho ⟨K.next, i, flags, 0, 1⟩ = K.obOf i from rfl]
          cases ho : K.obOf i with
          | file b => simp only [upd_same]; exact (hx b ho).1.symm
          | term ls scr => exact (hy ls scr ho).symm
          | pipe q rd wt => exact (hz q rd wt ho).symm
        rw [this]
    | ofile n =>
      intro d hd e b hb
      subst e
      rcases hmem d hd with hd | rfl
      · obtain ⟨a1, a2⟩ := key (.ofile d.n) (by simp) (by simp) d hd rfl b hb
        simp only [upd_other (hold d hd)]
        exact ⟨a1, fit a2⟩
      · simp only [upd_same]
        have hb' : K.obOf i = .file b := hb
        obtain ⟨a1, a2, a3⟩ := hx b hb'
        have hlt : xb < w.heap.size := (Array.getElem?_eq_some_iff.1 a2).1
        refine ⟨(hT.block xb hlt (fun e => ?_)).trans a2, ?_⟩
        · rcases e with e | e
          · rw [e, hkb] at a3; cases a3
          · rw [e, hom] at a3; cases a3
        · rw [hρ]
          have : xb ≠ nb := by have := hD.new; omega
          simp [this, hb']
  · rcases back e with e' | rfl | ⟨⟨b, hb⟩, rfl⟩
    · exact Nat.lt_of_lt_of_le (h.lt k t e') hT.size
    · exact (Array.getElem?_eq_some_iff.1 hD.desc).1
    · exact Nat.lt_of_lt_of_le (Array.getElem?_eq_some_iff.1 (hx b hb).2.1).1 hT.size
  · refine ⟨by show (K.de ++ [_]).length ≤ 256; simp; omega, h.ok.named, fun d hd => ?_, h.ok.nm, fun d hd => ?_, fun d hd d' hd' e => ?_, fun d hd => ?_, fun d hd => ?_, fun d hd => ?_, h.ok.plan⟩
    · rcases hmem d hd with hd | rfl
      · exact h.ok.th d hd
      · exact hi
    · rcases hmem d hd with hd | rfl
      · have := h.ok.num d hd; exact ⟨this.1, by show d.n < K.next + 1; omega⟩
      · exact ⟨h1n, by show K.next < K.next + 1; omega⟩
    · rcases hmem d hd with hd | rfl <;> rcases hmem d' hd' with hd' | rfl
      · exact h.ok.once d hd d' hd' e
      · exact absurd e (hold d hd)
      · exact absurd e.symm (hold d' hd')
      · rfl
    · rcases hmem d hd with hd | rfl
      · exact h.ok.flags d hd
      · exact hf
    · rcases hmem d hd with hd | rfl
      · exact h.ok.pos d hd
      · exact Nat.zero_le _
    · rcases hmem d hd with hd | rfl
      · exact h.ok.held d hd
      · exact ⟨Nat.le_refl _, by show (1 : Nat) ≤ 1024; omega⟩
end Go.Proofs.YtkkicbhmcjbmbaaGreat

/- The program's kernel: describe. -/
namespace Go.Proofs.YtkkicbhmcjbmbaaGreat
open Go.RowKit Go.Maps

set_option maxRecDepth 100000 in
set_option maxHeartbeats 2000000 in
theorem describe_any (ρ : Nat → Option PTag) (I : PI) (K : KS) (tT : TypeId) (tu : Value) (flags : Int) (w : World) (h : PK w ρ I K) (hl : I.last + 1 < 9223372036854775807) :
    Calls Tryz.prog 110 #[.pointer (some ⟨I.kb, 0, none⟩), .iface tT tu, .int .i64 flags] w fun e w' => e = .returned (.int .i64 ((I.last + 1 : Nat) : Int)) ∧ ∃ nb, Described w I K (.iface tT tu) flags nb w' := by
  have c3 := h.cells.opens
  have c4 := h.cells.last
  have c4s : w.frozen? ⟨I.kb, 4, none⟩ = false := frozen_of_row w I.kb 4 _ _ (h.comp .kern).1
  have hb := (h.comp .kern).1
  have hT1 := (Turned.refl (fun k => k = I.kb) w).set (g := I.kb) (j := 4) (u := .int .i64 ((I.last : Int) + 1)) (.inl rfl)
  have b1 : (w.setCell ⟨I.kb, 4, none⟩ (.int .i64 ((I.last : Int) + 1))).heap[I.kb]? = some (.cells ([.bool true, .map (some I.fm), .map (some I.tm), .map (some I.om), .int .i64 ((I.last + 1 : Nat) : Int), .pointer (some ⟨I.pb, 0, none⟩), .int .i64 K.reads, .int .i64 K.writes] : List Value).toArray 91 (0, 0)) := by
    rw [heap_setCell_same 4 _ hb]; rfl
  have d3 : (w.setCell ⟨I.kb, 4, none⟩ (.int .i64 ((I.last : Int) + 1))).cell? ⟨I.kb, 3, none⟩ = some (.map (some I.om)) := by rw [cell_of_row _ I.kb _ _ _ _ b1]; rfl
  have d4 : (w.setCell ⟨I.kb, 4, none⟩ (.int .i64 ((I.last : Int) + 1))).cell? ⟨I.kb, 4, none⟩ = some (.int .i64 ((I.last : Int) + 1)) := by rw [cell_of_row _ I.kb _ _ _ _ b1]; rfl
  have hsz : (w.setCell ⟨I.kb, 4, none⟩ (.int .i64 ((I.last : Int) + 1))).heap.size = w.heap.size := heap_set_size _ _ _ _
  have hkb := h.lt _ _ (h.comp .kern).2.1
  have hom := h.lt _ _ (h.comp .omap).2
  have hne : I.om ≠ I.kb := fun e => by have := (h.comp .omap).2; rw [e, (h.comp .kern).2.1] at this; cases this
  have hfew := h.ok.few
  have hmap : PMap ((w.setCell ⟨I.kb, 4, none⟩ (.int .i64 ((I.last : Int) + 1))).drew.alloc (Obj.cells #[.iface tT tu, .bool (bit flags 1), .bool (bit flags 2), .int .i64 1] 218)) Tryz.prog 3 I.om (K.dl I) := by
    refine (h.comp .omap).1.keep ?_
    rw [Below.heap_alloc _ _ I.om (by show I.om < (w.setCell ⟨I.kb, 4, none⟩ (.int .i64 ((I.last : Int) + 1))).heap.size; omega)]
    exact hT1.block _ hom hne
  have hnew : ∀ p ∈ K.dl I, p.1 ≠ dkey (I.last + 1) := fun p hp e => by
    obtain ⟨d, hd, rfl⟩ := List.mem_map.1 hp
    have := (h.ok.num d hd).2
    have := (h.comp .kern).2.2
    simp only [dkey, Lit.int.injEq] at e
    omega
  obtain ⟨w', hrun, hm', hmt⟩ := hmap.store ikeyed Tryz.underlying88 (by show (K.dl I).length < maxLen; unfold KS.dl maxLen; simp; omega) (key := .int .i64 ((I.last : Int) + 1)) (kl := dkey (I.last + 1)) w.heap.size (by rw [show (dkey (I.last + 1)) = Lit.int .i64 ((I.last : Int) + 1) by simp [dkey]]; exact int_key _ (I64.wf ⟨by omega, by omega⟩)) hnew
  have hB2 : Below w.heap.size (w.setCell ⟨I.kb, 4, none⟩ (.int .i64 ((I.last : Int) + 1))) ((w.setCell ⟨I.kb, 4, none⟩ (.int .i64 ((I.last : Int) + 1))).drew.alloc (Obj.cells #[.iface tT tu, .bool (bit flags 1), .bool (bit flags 2), .int .i64 1] 218)) := (Below.refl _ _).drew.trans ((recv_below _ _).mono (by show w.heap.size ≤ (w.setCell ⟨I.kb, 4, none⟩ (.int .i64 ((I.last : Int) + 1))).heap.size; omega))
  have hT2 := mapTurned_turned hmt
  have HD : Hid (Described w I K (.iface tT tu) flags w.heap.size w') := hide (by
    have hlt2 : w.heap.size < ((w.setCell ⟨I.kb, 4, none⟩ (.int .i64 ((I.last : Int) + 1))).drew.alloc (Obj.cells #[.iface tT tu, .bool (bit flags 1), .bool (bit flags 2), .int .i64 1] 218)).heap.size := by
      have := size_new (w.setCell ⟨I.kb, 4, none⟩ (.int .i64 ((I.last : Int) + 1))).drew (Obj.cells #[.iface tT tu, .bool (bit flags 1), .bool (bit flags 2), .int .i64 1] 218)
      rw [← hsz]; exact this
    refine ⟨Nat.le_refl _, ?_, ?_, hm', ?_⟩
    · rw [hT2.block _ hlt2 (by omega)]
      have := heap_alloc_new (w.setCell ⟨I.kb, 4, none⟩ (.int .i64 ((I.last : Int) + 1))).drew (Obj.cells #[.iface tT tu, .bool (bit flags 1), .bool (bit flags 2), .int .i64 1] 218)
      rw [show (w.setCell ⟨I.kb, 4, none⟩ (.int .i64 ((I.last : Int) + 1))).drew.heap.size = w.heap.size from hsz] at this
      exact this
    · rw [hT2.block _ (by omega) (Ne.symm hne), hB2.block _ hkb]
      exact b1
    · exact ((hT1.mono fun k e => Or.inl e).trans (Turned.of_below (S := fun k => k = I.kb ∨ k = I.om) (hB2.mono (by omega))) (fun _ _ e => e)).trans (hT2.mono fun k e => Or.inr e) (fun _ _ e => e))
  have e3 := (hB2.cell (p := ⟨I.kb, 3, none⟩) hkb).trans d3
  have e4 := (hB2.cell (p := ⟨I.kb, 4, none⟩) hkb).trans d4
  have HF : Hid (w'.cell? ⟨I.kb, 4, none⟩ = some (.int .i64 ((I.last : Int) + 1))) := hide (hT2.cell e4 (Ne.symm hne))
  have hrun' : (Instr.mapUpdate 88 (.map (some I.om)) (.int .i64 ((I.last : Int) + 1)) (.pointer (some ⟨w.heap.size, 0, none⟩))).run Tryz.prog (((w.setCell ⟨I.kb, 4, none⟩ (.int .i64 ((I.last : Int) + 1))).alloc (Obj.cells #[.iface tT tu, .bool (bits .and .i64 flags 1 != 0), .bool (bits .and .i64 flags 2 != 0), .int .i64 1] 218)).drew) = .ok () w' := hrun
  have hF := HF.out
  clear hrun e3 e4 HF
  clear hB2 hT2 hmt hm' hmap hT1 h hb b1
  go_enter Tryz.func110, Tryz.ntmps110
  go_wp2_with fail
  go_region
  go_wp2
  go_ret
  exact ⟨by go_num, _, HD.out⟩
end Go.Proofs.YtkkicbhmcjbmbaaGreat

/- The program's kernel: new files. -/
namespace Go.Proofs.YtkkicbhmcjbmbaaGreat
open Go.RowKit Go.Maps

theorem more_addTh (K : KS) (t : Th) : More K (K.addTh t) t := ⟨rfl, rfl, rfl, rfl, rfl, rfl⟩
theorem more_addP (K : KS) (ob : Ob) : More K (K.addP ob) ⟨ByteArray.empty, ob⟩ := ⟨rfl, rfl, rfl, rfl, rfl, rfl⟩
theorem addTh_nm (K : KS) (t : Th) : (K.addTh t).nm = insN (K.addTh t).nameOf K.th.length K.nm := rfl
theorem KOk.addTh {K : KS} (h : KOk K) (t : Th) (hl : K.nm.length < 256) : KOk (K.addTh t) := by
  have hlen : (K.addTh t).th.length = K.th.length + 1 := by show (K.th ++ [t]).length = _; simp
  refine ⟨h.few, ?_, fun d hd => by have := h.th d hd; omega, fun i hi => ?_, h.num, h.once, h.flags, h.pos, h.held, h.plan⟩
  · rw [addTh_nm, (insN_perm _ _ _).length_eq]; simp; omega
  · rw [addTh_nm] at hi
    rcases mem_insN.1 hi with rfl | hi
    · omega
    · have := h.nm i hi; omega
theorem KNm.addTh {K : KS} (h : KNm K) (hok : KOk K) (t : Th) (hk : t.ob.kind = 1 ∨ t.ob.kind = 2) (hn : nameOk t.name = true) (hnew : ∀ i ∈ K.nm, K.nameOf i ≠ t.name) : KNm (K.addTh t) := by
  have hM := more_addTh K t
  refine ⟨?_, fun i hi => ?_, fun i hi e => ?_, fun i hi => ?_⟩
  · rw [addTh_nm]
    refine insN_sorted ?_ fun j hj => ?_
    · refine h.sorted.imp_of_mem fun {a b} ha hb hab => ?_
      rw [hM.nameOf (hok.nm a ha), hM.nameOf (hok.nm b hb)]
      exact hab
    · rw [hM.nameOf (hok.nm j hj), hM.nameNew]
      exact hnew j hj
  · rw [addTh_nm] at hi
    rcases mem_insN.1 hi with rfl | hi
    · rw [hM.obNew]; exact hk
    · rw [hM.obOf (hok.nm i hi)]; exact h.kind i hi
  · rw [addTh_nm]
    rw [show (K.addTh t).th.length = K.th.length + 1 by show (K.th ++ [t]).length = _; simp] at hi
    by_cases e' : i = K.th.length
    · exact mem_insN.2 (.inl e')
    · have hlt : i < K.th.length := by omega
      rw [hM.obOf hlt] at e
      exact mem_insN.2 (.inr (h.all i hlt e))
  · rw [addTh_nm] at hi
    rcases mem_insN.1 hi with rfl | hi
    · rw [hM.nameNew]; exact hn
    · rw [hM.nameOf (hok.nm i hi)]; exact h.ok i hi
theorem idx_addTh (K : KS) (hok : KOk K) (t : Th) (c : Int) : ((K.addTh t).nm.filter fun i => ((K.addTh t).obOf i).kind == c).Perm (if t.ob.kind == c then K.th.length :: K.nm.filter (fun i => (K.obOf i).kind == c) else K.nm.filter fun i => (K.obOf i).kind == c) := by
  have hM := more_addTh K t
  rw [addTh_nm]
  refine ((insN_perm _ _ _).filter _).trans ?_
  have e1 : K.nm.filter (fun i => ((K.addTh t).obOf i).kind == c) = K.nm.filter fun i => (K.obOf i).kind == c := List.filter_congr fun i hi => by rw [hM.obOf (hok.nm i hi)]
  rw [List.filter_cons, hM.obNew, e1]
theorem map_old {K : KS} (hok : KOk K) {K' : KS} {t : Th} (hM : More K K' t) (f : Nat → Nat) (v : Nat) (q : Nat → Bool) : (K.nm.filter q).map (fun i => (nkey (K'.nameOf i), upd f K.th.length v i)) = (K.nm.filter q).map fun i => (nkey (K.nameOf i), f i) := by
  refine List.map_congr_left fun i hi => ?_
  have hlt := hok.nm i (List.mem_filter.1 hi).1
  rw [hM.nameOf hlt, upd_other (Nat.ne_of_lt hlt)]
theorem fl_addFile (K : KS) (hok : KOk K) (I : PI) (s : ByteArray) (b : List UInt8) (p c : Nat) : ((K.addTh ⟨s, .file b⟩).fl { I with ob := upd I.ob K.th.length p, cb := upd I.cb K.th.length c }).Perm ((nkey s, p) :: K.fl I) ∧ ((K.addTh ⟨s, .file b⟩).tl { I with ob := upd I.ob K.th.length p, cb := upd I.cb K.th.length c }).Perm (K.tl I) := by
  have hM := more_addTh K ⟨s, .file b⟩
  constructor
  · refine ((idx_addTh K hok ⟨s, .file b⟩ 1).map _).trans ?_
    rw [if_pos (by rfl), List.map_cons, hM.nameNew]
    simp only [upd_same]
    rw [map_old hok hM]
    exact List.Perm.refl _
  · refine ((idx_addTh K hok ⟨s, .file b⟩ 2).map _).trans ?_
    rw [if_neg (by show ¬ (((1 : Int) == 2) = true); decide)]
    simp only
    rw [map_old hok hM]
    exact List.Perm.refl _
theorem fl_addTerm (K : KS) (hok : KOk K) (I : PI) (s : ByteArray) (ls : List (List UInt8)) (scr : List UInt8) (p c : Nat) : ((K.addTh ⟨s, .term ls scr⟩).fl { I with ob := upd I.ob K.th.length p, cb := upd I.cb K.th.length c }).Perm (K.fl I) ∧ ((K.addTh ⟨s, .term ls scr⟩).tl { I with ob := upd I.ob K.th.length p, cb := upd I.cb K.th.length c }).Perm ((nkey s, c) :: K.tl I) := by
  have hM := more_addTh K ⟨s, .term ls scr⟩
  constructor
  · refine ((idx_addTh K hok ⟨s, .term ls scr⟩ 1).map _).trans ?_
    rw [if_neg (by show ¬ (((2 : Int) == 1) = true); decide)]
    simp only
    rw [map_old hok hM]
    exact List.Perm.refl _
  · refine ((idx_addTh K hok ⟨s, .term ls scr⟩ 2).map _).trans ?_
    rw [if_pos (by rfl), List.map_cons, hM.nameNew]
    simp only [upd_same]
    rw [map_old hok hM]
    exact List.Perm.refl _
theorem name_size {s : ByteArray} (h : nameOk s = true) : s.size ≤ 64 := by
  unfold nameOk at h
  simp at h
  exact h.2.1
/-- A file is added. -/
def Added (ρ : Nat → Option PTag) (I : PI) (K' : KS) (w : World) (n p c : Nat) (w' : World) : Prop :=
  ∃ ρ', PK w' ρ' { I with ob := upd I.ob n p, cb := upd I.cb n c } K' ∧ newTags ρ ρ' w ∧ (∀ k, k < w.heap.size → ρ' k = ρ k) ∧ Turned (Own ρ) w w'
theorem nkey_inj {a b : ByteArray} (h : nkey a = nkey b) : a = b := Go.WideShapes.bytes_inj (by simpa [nkey] using h)
theorem mem_names {K : KS} {I : PI} {s : ByteArray} (hnew : ∀ i ∈ K.nm, K.nameOf i ≠ s) : (∀ q ∈ K.fl I, q.1 ≠ nkey s) ∧ ∀ q ∈ K.tl I, q.1 ≠ nkey s := by
  constructor
  · intro q hq e
    obtain ⟨i, hi, rfl⟩ := List.mem_map.1 hq
    exact hnew i (List.mem_filter.1 hi).1 (nkey_inj e)
  · intro q hq e
    obtain ⟨i, hi, rfl⟩ := List.mem_map.1 hq
    exact hnew i (List.mem_filter.1 hi).1 (nkey_inj e)
theorem fl_len {K : KS} {I : PI} (hok : KOk K) : (K.fl I).length ≤ 256 ∧ (K.tl I).length ≤ 256 := by
  have := hok.named
  constructor
  · have := List.length_filter_le (fun i => (K.obOf i).kind == 1) K.nm
    unfold KS.fl KS.fidx; simp; omega
  · have := List.length_filter_le (fun i => (K.obOf i).kind == 2) K.nm
    unfold KS.tl KS.tidx; simp; omega
set_option maxRecDepth 100000 in
set_option maxHeartbeats 2000000 in
theorem newFile_any (ρ : Nat → Option PTag) (I : PI) (K : KS) (s : ByteArray) (v : Value) (b : List UInt8) (w : World) (h : PK w ρ I K) (hv : Bys w v b) (hb : b.length ≤ 1048576) (hs : nameOk s = true) (hnew : ∀ i ∈ K.nm, K.nameOf i ≠ s) (hl : K.nm.length < 256) :
    Calls Tryz.prog 42 #[.pointer (some ⟨I.kb, 0, none⟩), .string s, v] w fun e w' => ∃ p, e = .returned (.pointer (some ⟨p, 0, none⟩)) ∧ Added ρ I (K.addTh ⟨s, .file b⟩) w K.th.length p I.fm w' := by
  have HN := hide (po_new_file v b w hv hb)
  have HK := hide h
  clear h hv
  go_enter Tryz.func42, Tryz.ntmps42
  go_wp2_with fail
  refine HN.out.mono ?_
  rintro e w1 ⟨p, rfl, hO, hB⟩
  have hP1 := HK.out.under hB
  have c1 := hP1.cells.files
  have hfm := (hP1.comp .fmap)
  obtain ⟨w2, hrun, hm2, hmt⟩ := hfm.1.store skeyed Tryz.underlying86 (by have := (fl_len (I := I) HK.out.ok).1; unfold maxLen; omega) (key := .string s) p (string_key s (by have := name_size hs; unfold maxLen; omega)) (mem_names hnew).1
  have HA : Hid (Added ρ I (K.addTh ⟨s, .file b⟩) w K.th.length p I.fm w2) := hide (by
    have hT2 := mapTurned_turned hmt
    have hfl := fl_addFile K HK.out.ok I s b p I.fm
    have hfmlt := HK.out.lt _ _ (HK.out.comp .fmap).2
    have htm : I.tm ≠ I.fm := fun e => by have := (HK.out.comp .tmap).2; rw [e, (HK.out.comp .fmap).2] at this; cases this
    have hTw : Turned (fun k => ρ k = some .fmap ∨ ρ k = some .tmap) w w2 := (Turned.of_below hB).trans (hT2.mono fun k e => by rw [e]; exact .inl (HK.out.comp .fmap).2) (fun _ _ e => e)
    obtain ⟨ρ', a1, a2, a3⟩ := HK.out.more (more_addTh K ⟨s, .file b⟩) p I.fm (W' := w2) (O' := fun k => w.heap.size ≤ k ∧ k < w1.heap.size) (hO.keep (fun k e hlt => hT2.block k hlt (by omega)) hT2.size) (fun k e => ⟨e.1, by omega⟩) (fun ls scr e => by cases e) hTw
      (HK.out.ok.addTh _ hl) (HK.out.nm.addTh HK.out.ok _ (.inl rfl) hs hnew) (hm2.perm hfl.1.symm)
      (((hP1.comp .tmap).1.keep (hT2.block _ (hP1.lt _ _ (hP1.comp .tmap).2) htm)).perm hfl.2.symm)
    exact ⟨ρ', a1, a2, a3, hTw.mono fun k e => by
      rcases e with e | e
      · exact ⟨_, e⟩
      · exact ⟨_, e⟩⟩)
  clear hP1 hfm hm2 hmt hO
  go_wp2
  go_ret
  exact ⟨p, rfl, HA.out⟩
end Go.Proofs.YtkkicbhmcjbmbaaGreat

/- The reference's kernel: Open. -/
namespace Go.Proofs.YtkkicbhmcjbmbaaGreat
open Go.RowKit

theorem more_names {K : KS} {t : Th} {i : Nat} (h : i < K.th.length) : (K.more t).nameOf i = K.nameOf i := by simp [KS.nameOf, KS.more, List.getElem?_append_left h]
theorem more_sorted {K : KS} (hok : KOk K) (hnm : KNm K) (t : Th) : (K.more t).nm.Pairwise fun i j => nlt ((K.more t).nameOf i) ((K.more t).nameOf j) := by
  refine List.Pairwise.imp_of_mem (fun {a b} ha hb hlt => ?_) hnm.sorted
  rw [more_names (hok.nm a ha), more_names (hok.nm b hb)]
  exact hlt
set_option maxRecDepth 100000 in
set_option maxHeartbeats 2000000 in
/-- Refused. -/
theorem rkopen_no (B : Nat → Prop) (ρ : Nat → Option Tag) (I : RI) (K : KS) (s : ByteArray) (flags : Int) (w : World) (h : RK w B ρ I K) (hs : s.size ≤ maxLen) (hno : nameOk s = false ∨ flagsOk flags = false ∨ 256 ≤ K.de.length) :
    Calls Tryz.prog 30 #[.pointer (some ⟨I.kb, 0, none⟩), .string s, .int .i64 flags] w (RKNum w B I.kb (K.open s flags)) := by
  have HX := hide fun E => RKNum.refused h 0 E
  have hb := (h.comp .kern).1
  have c1 : w.cell? ⟨I.kb, 1, none⟩ = some I.vD := by rw [cell_of_row w I.kb 1 _ _ _ hb]; rfl
  obtain ⟨da, dc, hdv⟩ := owns_slice (h.comp .drow).1
  rw [hdv] at c1
  have HN := hide (named_any s w hs)
  have HF := hide (flagged_any flags w)
  clear h hb hdv
  by_cases k0 : nameOk s = false
  · rw [show K.open s flags = (0, 61, K) by unfold KS.open; rw [if_pos k0]]
    rw [k0] at HN
    go_enter Tryz.func30, Tryz.ntmps30
    go_wp2_with fail
    refine HN.out.mono ?_
    rintro e w ⟨rfl, rfl⟩
    go_wp2
    go_ret2
    exact HX.out 61
  · have k0' : nameOk s = true := by simpa using k0
    rw [k0'] at HN
    by_cases k1 : flagsOk flags = false
    · rw [show K.open s flags = (0, 65, K) by unfold KS.open; rw [if_neg k0, if_pos k1]]
      rw [k1] at HF
      go_enter Tryz.func30, Tryz.ntmps30
      go_wp2_with fail
      refine HN.out.mono ?_
      rintro e w ⟨rfl, rfl⟩
      go_wp2_with fail
      refine HF.out.mono ?_
      rintro e w ⟨rfl, rfl⟩
      go_wp2
      go_ret2
      exact HX.out 65
    · have k1' : flagsOk flags = true := by simpa using k1
      rw [k1'] at HF
      have k2 : 256 ≤ K.de.length := by rcases hno with e | e | e; exact absurd e k0; exact absurd e k1; exact e
      rw [show K.open s flags = (0, 3, K) by unfold KS.open; rw [if_neg k0, if_neg k1, if_pos k2]]
      have k3 : (256 : Int) ≤ (K.de.length : Int) := by omega
      go_enter Tryz.func30, Tryz.ntmps30
      go_wp2_with fail
      refine HN.out.mono ?_
      rintro e w ⟨rfl, rfl⟩
      go_wp2_with fail
      refine HF.out.mono ?_
      rintro e w ⟨rfl, rfl⟩
      go_wp2
      go_ret2
      exact HX.out 3
set_option maxRecDepth 100000 in
set_option maxHeartbeats 4000000 in
/-- A name that is not there. -/
theorem rkopen_new (B : Nat → Prop) (ρ : Nat → Option Tag) (I : RI) (K : KS) (s : ByteArray) (flags : Int) (w : World) (h : RK w B ρ I K) (hnm : KNm K) (hs : s.size ≤ maxLen) (hn1 : 1 ≤ K.next) (hn : K.next < 9223372036854775807) (k0 : nameOk s = true) (k1 : flagsOk flags = true) (k2 : ¬ 256 ≤ K.de.length) (hby : K.byName s = none) :
    Calls Tryz.prog 30 #[.pointer (some ⟨I.kb, 0, none⟩), .string s, .int .i64 flags] w (RKNum w B I.kb (K.open s flags)) := by
  have HX := hide fun E => RKNum.refused h 0 E
  have hb := (h.comp .kern).1
  have c1 : w.cell? ⟨I.kb, 1, none⟩ = some I.vD := by rw [cell_of_row w I.kb 1 _ _ _ hb]; rfl
  have c2 : w.cell? ⟨I.kb, 0, none⟩ = some I.vT := by rw [cell_of_row w I.kb 0 _ _ _ hb]; rfl
  obtain ⟨da, dc, hdv⟩ := owns_slice (h.comp .drow).1
  obtain ⟨ta, tc, htv⟩ := owns_slice (h.comp .trow).1
  rw [hdv] at c1
  rw [htv] at c2
  have HN := hide (named_any s w hs)
  have HF := hide (flagged_any flags w)
  have HT := hide (rthing_any B ρ I K s w h)
  rw [k0] at HN
  rw [k1] at HF
  rw [hby] at HT
  have k3 : ¬ (256 : Int) ≤ (K.de.length : Int) := by omega
  have hO : K.open s flags = if fbit flags 8 = 0 then (0, 62, K) else if 256 ≤ K.nm.length then (0, 3, K) else ((K.next : Int), 0, (K.addTh ⟨s, .file []⟩).newDe K.th.length flags) := by
    unfold KS.open
    rw [if_neg (by simp [k0]), if_neg (by simp [k1]), if_neg k2, hby]
  obtain ⟨v8, hv8⟩ : ∃ v8, bits .and .i64 flags 8 = v8 := ⟨_, rfl⟩
  rw [show fbit flags 8 = v8 from hv8] at hO
  have HH := hide (And.intro h hnm)
  clear h hb hdv htv
  by_cases e8 : v8 = 0
  · subst e8
    rw [if_pos rfl] at hO
    rw [hO]
    go_enter Tryz.func30, Tryz.ntmps30
    go_wp2_with fail
    refine HN.out.mono ?_
    rintro e w ⟨rfl, rfl⟩
    go_wp2_with fail
    refine HF.out.mono ?_
    rintro e w ⟨rfl, rfl⟩
    go_wp2_with fail
    refine HT.out.mono ?_
    rintro e w ⟨rfl, rfl⟩
    simp only [Option.map_none]
    go_wp2
    go_ret2
    exact HX.out 62
  have m8 : (v8 == 0) = false := by simpa using e8
  have m8' : (v8 != 0) = true := by simpa using e8
  rw [if_neg e8] at hO
  by_cases hfull : 256 ≤ K.nm.length
  · rw [if_pos hfull] at hO
    rw [hO]
    have hf' : (256 : Int) ≤ (K.nm.length : Int) := by omega
    go_enter Tryz.func30, Tryz.ntmps30
    go_wp2_with fail
    refine HN.out.mono ?_
    rintro e w ⟨rfl, rfl⟩
    go_wp2_with fail
    refine HF.out.mono ?_
    rintro e w ⟨rfl, rfl⟩
    go_wp2_with fail
    refine HT.out.mono ?_
    rintro e w ⟨rfl, rfl⟩
    simp only [Option.map_none]
    go_wp2
    go_ret2
    exact HX.out 3
  rw [if_neg hfull] at hO
  rw [hO]
  have hf' : ¬ (256 : Int) ≤ (K.nm.length : Int) := by omega
  have HNw := hide (Fi_rnew_good (.slice none 0 0) [] w (.inl ⟨rfl, rfl⟩) (by decide))
  go_enter Tryz.func30, Tryz.ntmps30
  go_wp2_with fail
  refine HN.out.mono ?_
  rintro e w ⟨rfl, rfl⟩
  go_wp2_with fail
  refine HF.out.mono ?_
  rintro e w ⟨rfl, rfl⟩
  go_wp2_with fail
  refine HT.out.mono ?_
  rintro e w ⟨rfl, rfl⟩
  simp only [Option.map_none]
  go_wp2_with fail
  refine HNw.out.mono ?_
  rintro e w1 ⟨rfl, ⟨u, hF1⟩, hB1⟩
  obtain ⟨h, hnm⟩ := HH.out
  have hs1 := hB1.size
  have hfl : w.heap.size < w1.heap.size := hF1.lt
  obtain ⟨o2, ho2⟩ : ∃ o2, o2 = Obj.cells #[.string s, .int .i64 1, .pointer (some ⟨w.heap.size, 0, none⟩), .pointer none, .pointer none] 180 := ⟨_, rfl⟩
  have hB2 := recv_below w1 o2
  have hs2 : (w1.alloc o2).heap.size = w1.heap.size + 1 := by simp
  have hn2 := heap_alloc_new w1 o2
  have hB12 : Below w.heap.size w (w1.alloc o2) := hB1.trans (hB2.mono hs1)
  have hO1 : RObj w1 (fun k => k = w.heap.size ∨ u.ownBlock = some k) w.heap.size (.file []) := ⟨u, w.heap.size + 1, hF1, by omega, .inl rfl, fun k e => .inr e⟩
  obtain ⟨ρ2, hK2⟩ := h.more (W' := w1.alloc o2) ⟨s, .file []⟩ (nb := w1.heap.size) (ob := w.heap.size) (O := fun k => k = w.heap.size ∨ u.ownBlock = some k) (fun k hk => hB12.block k hk) hB12.size hs1 (by rw [hn2, ho2]; rfl)
    (hO1.keep (fun k _ hl => hB2.block k hl) hB2.size) (fun k e => by
      rcases e with rfl | e
      · exact ⟨Nat.le_refl _, by omega⟩
      · have := hF1.row.lt k e; omega) (by show ([] : List UInt8).length ≤ 1048576; simp)
  have hth2 : (K.more ⟨s, .file []⟩).th.length = K.th.length + 1 := by simp [KS.more]
  have hA := radd_any B ρ2 _ _ K.th.length _ hK2 (by rw [hth2]; omega) (more_sorted h.ok hnm _) (by show K.nm.length < 256; omega)
  simp only [updT_new] at hA
  have HA := hide hA
  have HB12 := hide hB12
  subst ho2
  clear h hnm hF1 hB1 hB2 hs2 hn2 hB12 hO1 hK2 hth2 hA hs1 hfl
  go_wp2_with fail
  refine HA.out.mono ?_
  rintro e w3 ⟨rfl, ρ3, I3, hK3, hkb3, htb3, -, hT3⟩
  have hD := rdesc_any B ρ3 I3 _ K.th.length flags _ hK3 (by show K.th.length < (K.th ++ [_]).length; simp) k1 (by show K.de.length < 256; omega) hn1 hn
  rw [hkb3, htb3] at hD
  simp only [updT_new] at hD
  have HD := hide hD
  have HT3 := hide ((Turned.of_below (S := B) HB12.out).trans hT3 (fun _ _ e => e))
  have HKb : Hid (I3.kb = I.kb) := hide hkb3
  clear hK3 hkb3 htb3 hT3 hD
  go_wp2_with fail
  refine HD.out.mono ?_
  rintro e w4 ⟨rfl, ρ4, I4, hK4, hkb4, -, hT4⟩
  have HE : Hid (RKNum w B I.kb ((K.next : Int), 0, (K.addTh ⟨s, .file []⟩).newDe K.th.length flags) (.returned (.tuple #[.int .i64 K.next, .int .i64 0])) w4) := hide ⟨ρ4, I4, rfl, hK4, hkb4.trans HKb.out, HT3.out.trans hT4 (fun _ _ e => e)⟩
  clear hK4 hkb4 hT4
  go_wp2
  go_ret2
  exact HE.out
end Go.Proofs.YtkkicbhmcjbmbaaGreat

/- The reference's kernel: Open, of a name that is there. -/
namespace Go.Proofs.YtkkicbhmcjbmbaaGreat
open Go.RowKit

set_option maxRecDepth 100000 in
set_option maxHeartbeats 4000000 in
theorem rkopen_old (B : Nat → Prop) (ρ : Nat → Option Tag) (I : RI) (K : KS) (s : ByteArray) (flags : Int) (w : World) (h : RK w B ρ I K) (hs : s.size ≤ maxLen) (hn1 : 1 ≤ K.next) (hn : K.next < 9223372036854775807) (k0 : nameOk s = true) (k1 : flagsOk flags = true) (k2 : ¬ 256 ≤ K.de.length) {i : Nat} (hby : K.byName s = some i) :
    Calls Tryz.prog 30 #[.pointer (some ⟨I.kb, 0, none⟩), .string s, .int .i64 flags] w (RKNum w B I.kb (K.open s flags)) := by
  have HX := hide fun E => RKNum.refused h 0 E
  have hi : i < K.th.length := h.ok.nm i (List.mem_of_find?_eq_some hby)
  have hb := (h.comp .kern).1
  have c1 : w.cell? ⟨I.kb, 1, none⟩ = some I.vD := by rw [cell_of_row w I.kb 1 _ _ _ hb]; rfl
  obtain ⟨da, dc, hdv⟩ := owns_slice (h.comp .drow).1
  rw [hdv] at c1
  have HN := hide (named_any s w hs)
  have HF := hide (flagged_any flags w)
  have HT := hide (rthing_any B ρ I K s w h)
  rw [k0] at HN
  rw [k1] at HF
  rw [hby] at HT
  obtain ⟨-, t1, t2, t3⟩ := h.tcell hi
  have k3 : ¬ (256 : Int) ≤ (K.de.length : Int) := by omega
  have hO : K.open s flags = if fbit flags 32 = 0 then ((K.next : Int), 0, (K.cut i flags).newDe i flags) else (0, 63, K) := by
    unfold KS.open
    rw [if_neg (by simp [k0]), if_neg (by simp [k1]), if_neg k2, hby]
  obtain ⟨v5, hv5⟩ : ∃ v5, bits .and .i64 flags 32 = v5 := ⟨_, rfl⟩
  rw [show fbit flags 32 = v5 from hv5] at hO
  have HH := hide h
  have HO := hide ((h.comp (.obj i)) hi)
  clear h hb hdv
  by_cases e5 : v5 = 0
  case neg =>
    have m5 : (v5 == 0) = false := by simpa using e5
    have m5' : (v5 != 0) = true := by simpa using e5
    rw [if_neg e5] at hO
    rw [hO]
    clear t1 t2 t3
    go_enter Tryz.func30, Tryz.ntmps30
    go_wp2_with fail
    refine HN.out.mono ?_
    rintro e w ⟨rfl, rfl⟩
    go_wp2_with fail
    refine HF.out.mono ?_
    rintro e w ⟨rfl, rfl⟩
    go_wp2_with fail
    refine HT.out.mono ?_
    rintro e w ⟨rfl, rfl⟩
    simp only [Option.map_some]
    go_wp2
    go_ret2
    exact HX.out 63
  subst e5
  rw [if_pos rfl] at hO
  rw [hO]
  obtain ⟨v16, hv16⟩ : ∃ v16, bits .and .i64 flags 16 = v16 := ⟨_, rfl⟩
  have hcut : K.cut i flags = if v16 = 0 then K else (match K.obOf i with | .file _ => K.setOb i (.file []) | _ => K) := by
    unfold KS.cut bit
    rw [show fbit flags 16 = v16 from hv16]
    by_cases e : v16 = 0
    · rw [if_pos e, e]; rfl
    · rw [if_neg e, if_pos (by simpa using e)]
      first | done | rfl
  have HCut := hide hcut
  by_cases hfile : (∃ f, K.obOf i = .file f) ∧ ¬ v16 = 0
  case neg =>
    -- nothing is emptied
    have hsame : K.cut i flags = K := by
      rw [hcut]
      split
      · rfl
      · rename_i e
        cases ho : K.obOf i with
        | file f => exact absurd ⟨⟨f, ho⟩, e⟩ hfile
        | term _ _ => rfl
        | pipe _ _ _ => rfl
    rw [hsame]
    have hD := rdesc_any B ρ I K i flags w HH.out hi k1 (by omega) hn1 hn
    have HD := hide hD
    have hk : ((K.obOf i).kind = 1 ∧ v16 = 0) ∨ (¬ (K.obOf i).kind = 1 ∧ ((K.obOf i).kind == 1) = false) := by
      cases ho : K.obOf i with
      | file f => exact .inl ⟨rfl, by by_cases e : v16 = 0; exact e; exact absurd ⟨⟨f, ho⟩, e⟩ hfile⟩
      | term _ _ => exact .inr ⟨by simp [Ob.kind], by simp [Ob.kind]⟩
      | pipe _ _ _ => exact .inr ⟨by simp [Ob.kind], by simp [Ob.kind]⟩
    generalize (K.obOf i).kind = kd at *
    clear hsame hcut HCut t2 t3 hfile hD hO
    rcases hk with ⟨rfl, rfl⟩ | ⟨g1, g2⟩
    all_goals
      go_enter Tryz.func30, Tryz.ntmps30
      go_wp2_with fail
      refine HN.out.mono ?_
      rintro e w ⟨rfl, rfl⟩
      go_wp2_with fail
      refine HF.out.mono ?_
      rintro e w ⟨rfl, rfl⟩
      go_wp2_with fail
      refine HT.out.mono ?_
      rintro e w ⟨rfl, rfl⟩
      simp only [Option.map_some]
      go_wp2_with fail
      refine HD.out.mono ?_
      rintro e w4 ⟨rfl, ρ4, I4, hK4, hkb4, -, hT4⟩
      have HE : Hid (RKNum w B I.kb ((K.next : Int), 0, K.newDe i flags) (.returned (.tuple #[.int .i64 K.next, .int .i64 0])) w4) := hide ⟨ρ4, I4, rfl, hK4, hkb4, hT4⟩
      clear hK4 hkb4 hT4
      go_wp2
      go_ret2
      exact HE.out
  obtain ⟨⟨f, ho⟩, e16⟩ := hfile
  have m16 : (v16 == 0) = false := by simpa using e16
  have m16' : (v16 != 0) = true := by simpa using e16
  rw [if_neg e16, ho] at hcut
  simp only at hcut
  rw [hcut]
  rw [ho] at t1
  simp only [Ob.kind] at t1
  have t4 := t2 f ho
  have hO1 := HO.out
  rw [← KS.obOf_eq hi, ho] at hO1
  obtain ⟨⟨u, Bu, hF, hBu, hOp, hOu⟩, -⟩ := hO1
  have d1 := hF.data
  have d2 := hF.soft
  have hst : ObjStep w (fun k => ρ k = some (.obj i)) (I.ob i) (.file []) (w.setCell ⟨I.ob i, 0, none⟩ (.slice none 0 0)) := by
    refine ⟨fun k => ρ k = some (.obj i), ⟨.slice none 0 0, Bu, ⟨World.cell?_setCell_same _ _ _ hF.data, (World.frozen?_setCell _ _ _ _).trans hF.soft, World.ownsRow_nil _ _ _ _, by simp [Value.ownBlock]⟩, by simp [World.setCell]; exact hBu, hOp, fun k e => by cases e⟩, fun _ e => .inl e, (Turned.refl _ _).set (.inl hOp)⟩
  obtain ⟨ρ2, hK2, -, hT2⟩ := HH.out.setOb hi hst (by rw [← KS.obOf_eq hi, ho]; rfl) (by show ([] : List UInt8).length ≤ 1048576; simp)
  have hD := rdesc_any B ρ2 I _ i flags _ hK2 (by rw [setOb_len]; exact hi) k1 (by show K.de.length < 256; omega) hn1 hn
  have HD := hide hD
  have HT2 := hide hT2
  clear hcut HCut t2 t3 hF hBu hOp hOu hst hK2 hT2 hD HO hO
  go_enter Tryz.func30, Tryz.ntmps30
  go_wp2_with fail
  refine HN.out.mono ?_
  rintro e w ⟨rfl, rfl⟩
  go_wp2_with fail
  refine HF.out.mono ?_
  rintro e w ⟨rfl, rfl⟩
  go_wp2_with fail
  refine HT.out.mono ?_
  rintro e w ⟨rfl, rfl⟩
  simp only [Option.map_some]
  go_wp2_with fail
  refine HD.out.mono ?_
  rintro e w4 ⟨rfl, ρ4, I4, hK4, hkb4, -, hT4⟩
  have HE : Hid (RKNum w B I.kb ((K.next : Int), 0, (K.setOb i (.file [])).newDe i flags) (.returned (.tuple #[.int .i64 K.next, .int .i64 0])) w4) := hide ⟨ρ4, I4, rfl, hK4, hkb4, HT2.out.trans hT4 (fun _ _ e => e)⟩
  clear hK4 hkb4 hT4
  go_wp2
  go_ret2
  exact HE.out
theorem rkopen_any (B : Nat → Prop) (ρ : Nat → Option Tag) (I : RI) (K : KS) (s : ByteArray) (flags : Int) (w : World) (h : RK w B ρ I K) (hnm : KNm K) (hs : s.size ≤ maxLen) (hn1 : 1 ≤ K.next) (hn : K.next < 9223372036854775807) :
    Calls Tryz.prog 30 #[.pointer (some ⟨I.kb, 0, none⟩), .string s, .int .i64 flags] w (RKNum w B I.kb (K.open s flags)) := by
  by_cases hno : nameOk s = false ∨ flagsOk flags = false ∨ 256 ≤ K.de.length
  · exact rkopen_no B ρ I K s flags w h hs hno
  · have k0 : nameOk s = true := by simpa using fun e => hno (.inl e)
    have k1 : flagsOk flags = true := by simpa using fun e => hno (.inr (.inl e))
    have k2 : ¬ 256 ≤ K.de.length := fun e => hno (.inr (.inr e))
    cases hby : K.byName s with
    | none => exact rkopen_new B ρ I K s flags w h hnm hs hn1 hn k0 k1 k2 hby
    | some i => exact rkopen_old B ρ I K s flags w h hs hn1 hn k0 k1 k2 hby
end Go.Proofs.YtkkicbhmcjbmbaaGreat

/- The program's kernel: thingFor. -/
namespace Go.Proofs.YtkkicbhmcjbmbaaGreat
open Go.RowKit Go.Maps

theorem byName_some {K : KS} {s : ByteArray} {i : Nat} (h : K.byName s = some i) : i ∈ K.nm ∧ K.nameOf i = s := by
  unfold KS.byName at h
  exact ⟨List.mem_of_find?_eq_some h, by simpa using List.find?_some h⟩
theorem byName_none {K : KS} {s : ByteArray} (h : K.byName s = none) : ∀ i ∈ K.nm, K.nameOf i ≠ s := by
  unfold KS.byName at h
  intro i hi
  simpa using List.find?_eq_none.1 h i hi
theorem KNm.inj {K : KS} (h : KNm K) {i j : Nat} (hi : i ∈ K.nm) (hj : j ∈ K.nm) (e : K.nameOf i = K.nameOf j) : i = j := by
  obtain ⟨a, ha, rfl⟩ := List.getElem_of_mem hi
  obtain ⟨b, hb, rfl⟩ := List.getElem_of_mem hj
  have hp := List.pairwise_iff_getElem.1 h.sorted
  rcases Nat.lt_trichotomy a b with hab | hab | hab
  · exact absurd e (nlt_ne (hp a b ha hb hab))
  · subst hab; rfl
  · exact absurd e.symm (nlt_ne (hp b a hb ha hab))
theorem zero_file (w : World) : (zeroValue 94).run Tryz.prog w = .ok (.pointer none) w := by kernel_rfl
theorem zero_cons (w : World) : (zeroValue 102).run Tryz.prog w = .ok (.pointer none) w := by kernel_rfl
theorem look_file {w : World} {ρ : Nat → Option PTag} {I : PI} {K : KS} (h : PK w ρ I K) {s : ByteArray} (hs : s.size ≤ maxLen) {i : Nat} (hi : i ∈ K.nm) (hn : K.nameOf i = s) (hk : (K.obOf i).kind = 1) (c : Bool) :
    (Instr.lookup 86 (.map (some I.fm)) (.string s) c).run Tryz.prog w = .ok (if c then .tuple #[.pointer (some ⟨I.ob i, 0, none⟩), .bool true] else .pointer (some ⟨I.ob i, 0, none⟩)) w :=
  (h.comp .fmap).1.hit skeyed Tryz.underlying86 (zero_file w) (string_key s hs) (g := I.ob i) (List.mem_map.2 ⟨i, List.mem_filter.2 ⟨hi, by simp [hk]⟩, by rw [hn]⟩) c
theorem look_term {w : World} {ρ : Nat → Option PTag} {I : PI} {K : KS} (h : PK w ρ I K) {s : ByteArray} (hs : s.size ≤ maxLen) {i : Nat} (hi : i ∈ K.nm) (hn : K.nameOf i = s) (hk : (K.obOf i).kind = 2) (c : Bool) :
    (Instr.lookup 87 (.map (some I.tm)) (.string s) c).run Tryz.prog w = .ok (if c then .tuple #[.pointer (some ⟨I.cb i, 0, none⟩), .bool true] else .pointer (some ⟨I.cb i, 0, none⟩)) w :=
  (h.comp .tmap).1.hit skeyed Tryz.underlying87 (zero_cons w) (string_key s hs) (g := I.cb i) (List.mem_map.2 ⟨i, List.mem_filter.2 ⟨hi, by simp [hk]⟩, by rw [hn]⟩) c
theorem miss_file {w : World} {ρ : Nat → Option PTag} {I : PI} {K : KS} (h : PK w ρ I K) {s : ByteArray} (hs : s.size ≤ maxLen) (hn : ∀ i ∈ K.nm, (K.obOf i).kind = 1 → K.nameOf i ≠ s) (c : Bool) :
    (Instr.lookup 86 (.map (some I.fm)) (.string s) c).run Tryz.prog w = .ok (if c then .tuple #[.pointer none, .bool false] else .pointer none) w :=
  (h.comp .fmap).1.miss skeyed Tryz.underlying86 (zero_file w) (string_key s hs) (fun p hp e => by
    obtain ⟨i, hi, rfl⟩ := List.mem_map.1 hp
    have := List.mem_filter.1 hi
    exact hn i this.1 (by simpa using this.2) (nkey_inj e)) c
theorem miss_term {w : World} {ρ : Nat → Option PTag} {I : PI} {K : KS} (h : PK w ρ I K) {s : ByteArray} (hs : s.size ≤ maxLen) (hn : ∀ i ∈ K.nm, (K.obOf i).kind = 2 → K.nameOf i ≠ s) (c : Bool) :
    (Instr.lookup 87 (.map (some I.tm)) (.string s) c).run Tryz.prog w = .ok (if c then .tuple #[.pointer none, .bool false] else .pointer none) w :=
  (h.comp .tmap).1.miss skeyed Tryz.underlying87 (zero_cons w) (string_key s hs) (fun p hp e => by
    obtain ⟨i, hi, rfl⟩ := List.mem_map.1 hp
    have := List.mem_filter.1 hi
    exact hn i this.1 (by simpa using this.2) (nkey_inj e)) c
theorem split_len (f : Nat → Int) : ∀ l : List Nat, (∀ i ∈ l, f i = 1 ∨ f i = 2) → (l.filter fun i => f i == 1).length + (l.filter fun i => f i == 2).length = l.length
  | [], _ => rfl
  | a :: r, h => by
    have ih := split_len f r fun i hi => h i (by simp [hi])
    rcases h a (by simp) with e | e
    · rw [List.filter_cons_of_pos (by simp [e]), List.filter_cons_of_neg (by simp [e])]; simp; omega
    · rw [List.filter_cons_of_neg (by simp [e]), List.filter_cons_of_pos (by simp [e])]; simp; omega
theorem names_len {K : KS} (I : PI) (h : KNm K) : (K.fl I).length + (K.tl I).length = K.nm.length := by
  have := split_len (fun i => (K.obOf i).kind) K.nm h.kind
  unfold KS.fl KS.tl KS.fidx KS.tidx
  simpa using this
/-- What a new description, opened so, is of: thing i, as tu of type tT. -/
structure Fits (w : World) (ρ : Nat → Option PTag) (I : PI) (K : KS) (i : Nat) (flags : Int) (tv : Value) (xb : Nat) : Prop where
  lt : i < K.th.length
  file : ∀ b, K.obOf i = .file b → tv = .iface 229 (.pointer (some ⟨xb, 0, none⟩)) ∧ OFc w xb (I.ob i) 0 (bit flags 4) ∧ ρ xb = none
  term : ∀ ls scr, K.obOf i = .term ls scr → tv = .iface 102 (.pointer (some ⟨I.cb i, 0, none⟩))
  pipe : ∀ q rd wt, K.obOf i = .pipe q rd wt → tv = .iface 239 (.agg #[.pointer (some ⟨I.ob i, 0, none⟩)])
/-- A thing is answered. -/
def TFor (ρ : Nat → Option PTag) (I : PI) (w : World) (K' : KS) (i : Nat) (flags : Int) (e : Ending) (w' : World) : Prop :=
  ∃ tT tu xb ρ' I', e = .returned (.tuple #[.iface tT tu, .int .i64 0]) ∧ PK w' ρ' I' K' ∧ I'.kb = I.kb ∧ I'.last = I.last ∧ newTags ρ ρ' w ∧ Turned (Own ρ) w w' ∧ Fits w' ρ' I' K' i flags (.iface tT tu) xb ∧ ((∃ b, K'.obOf i = .file b) → w.heap.size ≤ xb)
theorem TFor.term {ρ : Nat → Option PTag} {I : PI} {w : World} {K : KS} {i : Nat} {flags : Int} {ls : List (List UInt8)} {scr : List UInt8} (h : PK w ρ I K) (hi : i < K.th.length) (ho : K.obOf i = .term ls scr) : TFor ρ I w (K.cut i flags) i flags (.returned (.tuple #[.iface 102 (.pointer (some ⟨I.cb i, 0, none⟩)), .int .i64 0])) w := by
  have : K.cut i flags = K := by unfold KS.cut; rw [ho]; split <;> rfl
  rw [this]
  exact ⟨_, _, 0, ρ, I, rfl, h, rfl, rfl, newTags.refl _ _, Turned.refl _ _, ⟨hi, fun b e => (by rw [ho] at e; cases e), fun _ _ _ => rfl, fun q rd wt e => (by rw [ho] at e; cases e)⟩, fun ⟨b, e⟩ => (by rw [ho] at e; cases e)⟩
theorem TFor.file {ρ ρ' : Nat → Option PTag} {I I' : PI} {w w1 : World} {K' : KS} {i : Nat} {flags : Int} {b : List UInt8} (h : PK w1 ρ' I' K') (hk : I'.kb = I.kb) (hl : I'.last = I.last) (hn : newTags ρ ρ' w) (hT : Turned (Own ρ) w w1) (hi : i < K'.th.length) (ho : K'.obOf i = .file b) {w2 : World}
    (hw : w2 = w1.alloc (Obj.cells #[.pointer (some ⟨I'.ob i, 0, none⟩), .int .i64 0, .bool (bit flags 4)] 233)) :
    TFor ρ I w K' i flags (.returned (.tuple #[.iface 229 (.pointer (some ⟨w1.heap.size, 0, none⟩)), .int .i64 0])) w2 := by
  subst hw
  have hB := recv_below w1 (Obj.cells #[.pointer (some ⟨I'.ob i, 0, none⟩), .int .i64 0, .bool (bit flags 4)] 233)
  refine ⟨_, _, w1.heap.size, ρ', I', rfl, h.under hB, hk, hl, hn, hT.trans (Turned.of_below (S := Own ρ) hB) (fun _ _ e => e), ⟨hi, fun b' _ => ⟨rfl, heap_alloc_new _ _, ?_⟩, fun ls scr e => (by rw [ho] at e; cases e), fun q rd wt e => (by rw [ho] at e; cases e)⟩, fun _ => hT.size⟩
  cases hr : ρ' w1.heap.size with
  | none => rfl
  | some t => have := h.lt _ _ hr; omega
end Go.Proofs.YtkkicbhmcjbmbaaGreat

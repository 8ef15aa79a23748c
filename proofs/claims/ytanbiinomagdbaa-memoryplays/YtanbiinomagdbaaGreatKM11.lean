/- What the proof stands on, part 11: the contracts of the program's calls that it reaches. -/
import Derived.Test.YtanbiinomagdbaaGreatKM10
import Derived.Lib.MinMax
/- A kernel by the page: what it is, as a value; what lies in memory for the reference's kernel. -/
namespace Go.Proofs.YtanbiinomagdbaaGreat
open Go.RowKit

inductive Tag where
  | kern
  | trow
  | drow
  | plan
  | thing (i : Nat)
  | obj (i : Nat)
  | desc (n : Nat)
structure RI where
  kb : Nat
  vT : Value
  vD : Value
  pb : Nat
  pv : Value
  tb : Nat → Nat
  ob : Nat → Nat
  db : Nat → Nat
def tcells (t : Th) (o : Nat) : List Value :=
  match t.ob with
  | .file _ => [.string t.name, .int .i64 1, .pointer (some ⟨o, 0, none⟩), .pointer none, .pointer none]
  | .term _ _ => [.string t.name, .int .i64 2, .pointer none, .pointer (some ⟨o, 0, none⟩), .pointer none]
  | .pipe _ _ _ => [.string t.name, .int .i64 3, .pointer none, .pointer none, .pointer (some ⟨o, 0, none⟩)]
def RComp (W : World) (_ : Nat → Prop) (ρ : Nat → Option Tag) (I : RI) (K : KS) : Tag → Prop
  | .kern => W.heap[I.kb]? = some (.cells ([I.vT, I.vD, .int .i64 K.next, .pointer (some ⟨I.pb, 0, none⟩), .int .i64 K.reads, .int .i64 K.writes] : List Value).toArray 157 (0, 0)) ∧ ρ I.kb = some .kern
  | .trow => W.ownsRow 0 228 1 I.vT K.nm.length (K.nm.map fun i => .pointer (some ⟨I.tb i, 0, none⟩)) ∧ ∀ k, I.vT.ownBlock = some k → ρ k = some .trow
  | .drow => W.ownsRow 0 257 1 I.vD K.de.length (K.de.map fun d => .pointer (some ⟨I.db d.n, 0, none⟩)) ∧ ∀ k, I.vD.ownBlock = some k → ρ k = some .drow
  | .plan => RPlanAt W I.pb I.pv K.plan ∧ ρ I.pb = some .plan ∧ ∀ k, I.pv.ownBlock = some k → ρ k = some .plan
  | .thing i => ∀ (h : i < K.th.length), W.heap[I.tb i]? = some (.cells (tcells K.th[i] (I.ob i)).toArray 232 (0, 0)) ∧ ρ (I.tb i) = some (.thing i)
  | .obj i => ∀ (h : i < K.th.length), RObj W (fun k => ρ k = some (.obj i)) (I.ob i) K.th[i].ob ∧ K.th[i].ob.ok
  | .desc n => ∀ d ∈ K.de, d.n = n → W.heap[I.db n]? = some (.cells ([.int .i64 n, .pointer (some ⟨I.tb d.th, 0, none⟩), .int .i64 d.flags, .int .i64 d.pos, .int .i64 d.held] : List Value).toArray 260 (0, 0)) ∧ ρ (I.db n) = some (.desc n)
theorem RComp.keep {W W' : World} {B : Nat → Prop} {ρ : Nat → Option Tag} {I : RI} {K : KS} {t : Tag} (h : RComp W B ρ I K t) (hk : ∀ k, ρ k = some t → k < W.heap.size → W'.heap[k]? = W.heap[k]?) (hs : W.heap.size ≤ W'.heap.size) : RComp W' B ρ I K t := by
  have lt : ∀ {k o}, W.heap[k]? = some o → k < W.heap.size := fun e => (Array.getElem?_eq_some_iff.1 e).1
  cases t with
  | kern => exact ⟨(hk _ h.2 (lt h.1)).trans h.1, h.2⟩
  | trow => exact ⟨owns_keep h.1 fun k e => hk k (h.2 k e) (h.1.lt k e).2, h.2⟩
  | drow => exact ⟨owns_keep h.1 fun k e => hk k (h.2 k e) (h.1.lt k e).2, h.2⟩
  | plan => exact ⟨h.1.keep fun k hlt e => by
      rcases e with rfl | e
      · exact hk _ h.2.1 hlt
      · exact hk k (h.2.2 k e) hlt, h.2⟩
  | thing i => exact fun hi => ⟨(hk _ (h hi).2 (lt (h hi).1)).trans (h hi).1, (h hi).2⟩
  | obj i => exact fun hi => ⟨(h hi).1.keep (fun k e hlt => hk k e hlt) hs, (h hi).2⟩
  | desc n => exact fun d hd e => ⟨(hk _ (h d hd e).2 (lt (h d hd e).1)).trans (h d hd e).1, (h d hd e).2⟩
structure RK (W : World) (B : Nat → Prop) (ρ : Nat → Option Tag) (I : RI) (K : KS) : Prop where
  comp : ∀ t, RComp W B ρ I K t
  lt : ∀ k t, ρ k = some t → B k ∧ k < W.heap.size
  ok : KOk K
  up : ∀ k, W.heap.size ≤ k → B k
theorem RK.below {W W' : World} {B : Nat → Prop} {ρ : Nat → Option Tag} {I : RI} {K : KS} (h : RK W B ρ I K) (hB : Below W.heap.size W W') : RK W' B ρ I K :=
  ⟨fun t => (h.comp t).keep (fun k _ hlt => hB.block k hlt) hB.size, fun k t e => ⟨(h.lt k t e).1, Nat.lt_of_lt_of_le (h.lt k t e).2 hB.size⟩, h.ok, fun k e => h.up k (Nat.le_trans hB.size e)⟩
theorem RK.own {W : World} {B : Nat → Prop} {ρ : Nat → Option Tag} {I : RI} {K : KS} (h : RK W B ρ I K) : RK W (fun k => (∃ t, ρ k = some t) ∨ W.heap.size ≤ k) ρ I K :=
  ⟨fun t => by have := h.comp t; cases t <;> exact this, fun k t e => ⟨.inl ⟨t, e⟩, (h.lt k t e).2⟩, h.ok, fun _ e => .inr e⟩

set_option maxRecDepth 100000 in
set_option maxHeartbeats 2000000 in
theorem rfind_any (B : Nat → Prop) (ρ : Nat → Option Tag) (I : RI) (K : KS) (d : Int) (w : World) (h : RK w B ρ I K) :
    Calls Tryz.prog 152 #[.pointer (some ⟨I.kb, 0, none⟩), .int .i64 d] w fun e w' => e = .returned (.pointer ((K.find d).map fun x => ⟨I.db x.n, 0, none⟩)) ∧ w' = w := by
  have hb := (h.comp .kern).1
  have c1 : w.cell? ⟨I.kb, 1, none⟩ = some I.vD := by rw [cell_of_row w I.kb 1 _ _ _ hb]; rfl
  have HD := hide (h.comp .drow).1
  have HC := hide fun n => h.comp (.desc n)
  have hfew := h.ok.few
  obtain ⟨va, vc, hv⟩ := owns_slice (h.comp .drow).1
  rw [hv] at c1 HD
  clear h hb hv
  obtain ⟨R, hR⟩ : ∃ R, R = (K.find d).map fun x => (⟨I.db x.n, 0, none⟩ : Addr) := ⟨_, rfl⟩
  rw [← hR]
  have HR := hide hR
  clear hR
  go_enter Tryz.func152, Tryz.ntmps152
  go_wp2
  go_loop [5] (fun i => ∃ k : Nat, k ≤ K.de.length ∧ i = .int .i64 k ∧ Hid (∀ j (hj : j < K.de.length), j < k → ((K.de[j].n : Nat) : Int) ≠ d)) (fun i => K.de.length - (intOf i).toNat)
  case atStart => exact ⟨0, Nat.zero_le _, rfl, fun _ _ h => by omega⟩
  case round =>
    obtain ⟨k, hk, rfl, HA⟩ := hrel
    by_cases hlt : k < K.de.length
    · obtain ⟨b, rfl⟩ : ∃ b, va = some ⟨b, 0, none⟩ := by
        rcases HD.out.2 with ⟨h0, _⟩ | ⟨g, cap, cur, h1, _⟩
        · simp only [Value.slice.injEq] at h0; omega
        · simp only [Value.slice.injEq] at h1; exact ⟨g, h1.1⟩
      have hcell := HD.out.cellAt k (by simpa using hlt)
      rw [List.getElem?_map, List.getElem?_eq_getElem hlt] at hcell
      simp only [Option.map_some] at hcell
      have hbk := (HC.out K.de[k].n K.de[k] (List.getElem_mem _) rfl).1
      have hn : w.cell? ⟨I.db K.de[k].n, 0, none⟩ = some (.int .i64 K.de[k].n) := by rw [cell_of_row w _ 0 _ _ _ hbk]; rfl
      have hk1 : (0 : Int) ≤ (k : Int) := by omega
      have hk2 : (k : Int) < (K.de.length : Int) := by omega
      clear hbk
      obtain ⟨x, hx⟩ : ∃ x, x = K.de[k] := ⟨_, rfl⟩
      rw [← hx] at hcell hn
      have HX := hide hx
      clear hx
      by_cases he : ((x.n : Nat) : Int) = d
      · have HF : Hid (R = some ⟨I.db x.n, 0, none⟩) := hide (by
          rw [HR.out, show K.find d = some x by
            unfold KS.find
            rw [List.find?_eq_some_iff_getElem]
            exact ⟨by simpa using he, k, hlt, HX.out.symm, fun j hj => by simpa using HA.out j (by omega) hj⟩]
          rfl)
        have he2 : (((x.n : Nat) : Int) == d) = true := by simpa using he
        go_wp2
        go_ret
        exact ⟨by rw [HF.out]; rfl, rfl⟩
      · have he2 : (((x.n : Nat) : Int) == d) = false := by simpa using he
        go_wp2
        all_goals
          go_round
          case rel =>
            refine ⟨k + 1, by omega, by go_num, fun j hj hjk => ?_⟩
            rcases Nat.lt_or_ge j k with h | h
            · exact HA.out j hj h
            · obtain rfl : j = k := by omega
              rw [← HX.out]
              exact he
          case measure => simp [intOf]; omega
    · have HF : Hid (R = none) := hide (by
        rw [HR.out, show K.find d = none by
          unfold KS.find
          rw [List.find?_eq_none]
          intro x hx
          obtain ⟨j, hj, rfl⟩ := List.getElem_of_mem hx
          simpa using HA.out j hj (by omega)]
        rfl)
      go_wp2
      go_ret
      exact ⟨by rw [HF.out]; rfl, rfl⟩
end Go.Proofs.YtanbiinomagdbaaGreat

/- The reference's kernel: what a description that is found leads to; Kind, Held, CanRead, CanWrite, Keep. -/
namespace Go.Proofs.YtanbiinomagdbaaGreat
open Go.RowKit

structure DeAt (W : World) (I : RI) (K : KS) (x : De) : Prop where
  t : W.cell? ⟨I.db x.n, 1, none⟩ = some (.pointer (some ⟨I.tb x.th, 0, none⟩))
  f : W.cell? ⟨I.db x.n, 2, none⟩ = some (.int .i64 x.flags)
  p : W.cell? ⟨I.db x.n, 3, none⟩ = some (.int .i64 x.pos)
  h : W.cell? ⟨I.db x.n, 4, none⟩ = some (.int .i64 x.held)
  soft : ∀ j, W.frozen? ⟨I.db x.n, j, none⟩ = false
  lt : x.th < K.th.length
  kind : W.cell? ⟨I.tb x.th, 1, none⟩ = some (.int .i64 (K.tho x).kind)
theorem RK.de {W : World} {B : Nat → Prop} {ρ : Nat → Option Tag} {I : RI} {K : KS} (h : RK W B ρ I K) {x : De} (hx : x ∈ K.de) : DeAt W I K x := by
  have h1 := (h.comp (.desc x.n) x hx rfl).1
  have hl := h.ok.th x hx
  have h2 := (h.comp (.thing x.th) hl).1
  refine ⟨?_, ?_, ?_, ?_, fun j => frozen_of_row W _ j _ _ h1, hl, ?_⟩
  · rw [cell_of_row W _ 1 _ _ _ h1]; rfl
  · rw [cell_of_row W _ 2 _ _ _ h1]; rfl
  · rw [cell_of_row W _ 3 _ _ _ h1]; rfl
  · rw [cell_of_row W _ 4 _ _ _ h1]; rfl
  · rw [cell_of_row W _ 1 _ _ _ h2, KS.tho_eq hl]
    cases h3 : K.th[x.th].ob <;> simp [tcells, h3, Ob.kind]
theorem RK.robj {W : World} {B : Nat → Prop} {ρ : Nat → Option Tag} {I : RI} {K : KS} (h : RK W B ρ I K) {x : De} (hx : x ∈ K.de) : RObj W (fun k => ρ k = some (.obj x.th)) (I.ob x.th) (K.tho x) ∧ (K.tho x).ok := by
  have hl := h.ok.th x hx
  rw [KS.tho_eq hl]
  exact h.comp (.obj x.th) hl
theorem RK.ptr {W : World} {B : Nat → Prop} {ρ : Nat → Option Tag} {I : RI} {K : KS} (h : RK W B ρ I K) {x : De} (hx : x ∈ K.de) :
    (∀ b, K.tho x = .file b → W.cell? ⟨I.tb x.th, 2, none⟩ = some (.pointer (some ⟨I.ob x.th, 0, none⟩))) ∧ (∀ ls scr, K.tho x = .term ls scr → W.cell? ⟨I.tb x.th, 3, none⟩ = some (.pointer (some ⟨I.ob x.th, 0, none⟩))) ∧ (∀ q rd wt, K.tho x = .pipe q rd wt → W.cell? ⟨I.tb x.th, 4, none⟩ = some (.pointer (some ⟨I.ob x.th, 0, none⟩))) := by
  have hl := h.ok.th x hx
  have h2 := (h.comp (.thing x.th) hl).1
  rw [KS.tho_eq hl]
  refine ⟨fun b e => ?_, fun ls scr e => ?_, fun q rd wt e => ?_⟩
  · rw [cell_of_row W _ 2 _ _ _ h2]; simp [tcells, e]
  · rw [cell_of_row W _ 3 _ _ _ h2]; simp [tcells, e]
  · rw [cell_of_row W _ 4 _ _ _ h2]; simp [tcells, e]

end Go.Proofs.YtanbiinomagdbaaGreat

/- The reference's kernel: CanWrite, Held, Keep. -/
namespace Go.Proofs.YtanbiinomagdbaaGreat
open Go.RowKit

theorem RK.setDe {W : World} {B : Nat → Prop} {ρ : Nat → Option Tag} {I : RI} {K : KS} (h : RK W B ρ I K) {x x' : De} (hx : x ∈ K.de) (hn : x'.n = x.n) (ht : x'.th = x.th) (hf : x'.flags = x.flags) (hp : x'.pos ≤ 1048576) (hh : 1 ≤ x'.held ∧ x'.held ≤ 1024) (j : Nat) (v : Value)
    (hl : ([.int .i64 x.n, .pointer (some ⟨I.tb x.th, 0, none⟩), .int .i64 x.flags, .int .i64 x.pos, .int .i64 x.held] : List Value).set j v = [.int .i64 x'.n, .pointer (some ⟨I.tb x'.th, 0, none⟩), .int .i64 x'.flags, .int .i64 x'.pos, .int .i64 x'.held]) :
    RK (W.setCell ⟨I.db x.n, j, none⟩ v) B ρ I (K.setDe x') ∧ Turned (fun k => ρ k = some (.desc x.n)) W (W.setCell ⟨I.db x.n, j, none⟩ v) := by
  obtain ⟨hb, hr⟩ := h.comp (.desc x.n) x hx rfl
  have hs : (W.setCell ⟨I.db x.n, j, none⟩ v).heap.size = W.heap.size := by simp [World.setCell]
  have oth : ∀ k, ρ k ≠ some (.desc x.n) → (W.setCell ⟨I.db x.n, j, none⟩ v).heap[k]? = W.heap[k]? := fun k hk => Below.heap_setCell _ _ _ _ (fun e => hk (by rw [e]; exact hr))
  refine ⟨⟨fun t => ?_, fun k t e => by rw [hs]; exact h.lt k t e, h.ok.setDe hx hn ht hf hp hh, fun k e => h.up k (by rw [hs] at e; exact e)⟩, (Turned.refl _ _).set (.inl hr)⟩
  have kp : ∀ t, t ≠ .desc x.n → RComp (W.setCell ⟨I.db x.n, j, none⟩ v) B ρ I K t := fun t hne => (h.comp t).keep (fun k e _ => oth k (by rw [e]; exact fun e' => hne (Option.some.inj e'))) (Nat.le_of_eq hs.symm)
  cases t with
  | kern => exact kp .kern (by simp)
  | trow => exact kp .trow (by simp)
  | drow =>
    have h1 := kp .drow (by simp)
    refine ⟨?_, h1.2⟩
    have h2 := h1.1
    have e1 : (K.setDe x').de.map (fun d => Value.pointer (some ⟨I.db d.n, 0, none⟩)) = K.de.map fun d => Value.pointer (some ⟨I.db d.n, 0, none⟩) := setDe_ns (fun n => .pointer (some ⟨I.db n, 0, none⟩))
    have e2 : (K.setDe x').de.length = K.de.length := by simp [KS.setDe]
    rw [e1, e2]
    exact h2
  | plan => exact kp .plan (by simp)
  | thing i => exact kp (.thing i) (by simp)
  | obj i => exact kp (.obj i) (by simp)
  | desc n =>
    intro d hd e
    rcases mem_setDe hd with rfl | ⟨h1, h2⟩
    · subst e
      rw [hn]
      refine ⟨?_, hr⟩
      rw [heap_setCell_same j v hb, hl, hn]
    · have hne : n ≠ x.n := by rw [← e, ← hn]; exact h2
      exact kp (.desc n) (by simpa using hne) d h1 e

end Go.Proofs.YtanbiinomagdbaaGreat

/- The reference's kernel: what it is when an object of it turns, when a call is counted, when a fault is used up. -/
namespace Go.Proofs.YtanbiinomagdbaaGreat
open Go.RowKit

theorem RObj.trim {W : World} {O : Nat → Prop} {p : Nat} {ob : Ob} (h : RObj W O p ob) : RObj W (fun k => O k ∧ k < W.heap.size) p ob := by
  have hp := h.at
  cases ob with
  | file b => obtain ⟨u, B, h1, h2, h3, h4⟩ := h; exact ⟨u, B, h1, h2, hp, fun k e => ⟨h4 k e, (h1.row.lt k e).2⟩⟩
  | term ls scr => obtain ⟨la, lc, s, B, O1, h1, h2⟩ := h; exact ⟨la, lc, s, B, O1, h1, fun k e => ⟨h2 k e, (h1.lt k e).2⟩⟩
  | pipe q rd wt =>
    obtain ⟨a, c, B, h1, h2, h3, h4⟩ := h
    refine ⟨a, c, B, h1, h2, hp, fun k e => ⟨h4 k e, ?_⟩⟩
    rcases h1.ad with ⟨rfl, _⟩ | ⟨b, off, rfl, _, _, h8⟩
    · cases e
    · have : b = k := by simpa [Value.ownBlock] using e
      omega
theorem tcells_ob {t : Th} {ob : Ob} (o : Nat) (h : ob.kind = t.ob.kind) : tcells { t with ob := ob } o = tcells t o := by
  obtain ⟨nm, ob0⟩ := t
  cases ob <;> cases ob0 <;> simp_all [tcells, Ob.kind]
theorem RK.setOb {W W' : World} {B : Nat → Prop} {ρ : Nat → Option Tag} {I : RI} {K : KS} (h : RK W B ρ I K) {i : Nat} (hi : i < K.th.length) {ob' : Ob} (hs : ObjStep W (fun k => ρ k = some (.obj i)) (I.ob i) ob' W') (hk : ob'.kind = K.th[i].ob.kind) (hok : ob'.ok) :
    ∃ ρ', RK W' B ρ' I (K.setOb i ob') ∧ (∀ k, k < W.heap.size → ρ' k = ρ k) ∧ Turned B W W' := by
  obtain ⟨O', h1, h2, h3⟩ := hs
  obtain ⟨ρ', hρ⟩ : ∃ ρ' : Nat → Option Tag, ∀ k, (k < W.heap.size → ρ' k = ρ k) ∧ (¬ k < W.heap.size → (O' k ∧ k < W'.heap.size → ρ' k = some (.obj i)) ∧ (¬ (O' k ∧ k < W'.heap.size) → ρ' k = none)) :=
    ⟨fun k => if k < W.heap.size then ρ k else @ite _ (O' k ∧ k < W'.heap.size) (Classical.propDecidable _) (some (.obj i)) none, fun k => ⟨fun hk => if_pos hk, fun hk => ⟨fun ho => (if_neg hk).trans (@if_pos _ (Classical.propDecidable _) ho _ _ _), fun ho => (if_neg hk).trans (@if_neg _ (Classical.propDecidable _) ho _ _ _)⟩⟩⟩
  have old : ∀ k t, ρ k = some t → ρ' k = some t := fun k t e => by rw [(hρ k).1 (h.lt k t e).2]; exact e
  have keep : ∀ t, t ≠ .obj i → RComp W' B ρ I K t := fun t hne => (h.comp t).keep (fun k e hlt => h3.block k hlt (by rw [e]; exact fun e' => hne (Option.some.inj e'))) h3.size
  refine ⟨ρ', ⟨fun t => ?_, fun k t e => ?_, ?_, fun k e => h.up k (Nat.le_trans h3.size e)⟩, fun k hk => (hρ k).1 hk, h3.mono fun k e => (h.lt k _ e).1⟩
  · cases t with
    | kern => have := keep .kern (by simp); exact ⟨this.1, old _ _ this.2⟩
    | trow => have := keep .trow (by simp); exact ⟨this.1, fun k e => old _ _ (this.2 k e)⟩
    | drow => have := keep .drow (by simp); exact ⟨this.1, fun k e => old _ _ (this.2 k e)⟩
    | plan => have := keep .plan (by simp); exact ⟨this.1, old _ _ this.2.1, fun k e => old _ _ (this.2.2 k e)⟩
    | thing j =>
      intro hj
      have hj' : j < K.th.length := by rw [setOb_len] at hj; exact hj
      have h4 := keep (.thing j) (by simp) hj'
      refine ⟨?_, old _ _ h4.2⟩
      by_cases e : j = i
      · subst e
        rw [setOb_same hj hj', tcells_ob _ hk]
        exact h4.1
      · rw [setOb_other e hj hj']
        exact h4.1
    | obj j =>
      intro hj
      have hj' : j < K.th.length := by rw [setOb_len] at hj; exact hj
      by_cases e : j = i
      · subst e
        rw [setOb_same hj hj']
        refine ⟨h1.trim.mono fun k hk => ?_, hok⟩
        by_cases hlt : k < W.heap.size
        · rcases h2 k hk.1 with h5 | h5
          · exact old _ _ h5
          · omega
        · exact ((hρ k).2 hlt).1 hk
      · rw [setOb_other e hj hj']
        have h4 := keep (.obj j) (by simpa using e) hj'
        exact ⟨h4.1.mono fun k e => old _ _ e, h4.2⟩
    | desc n =>
      intro d hd e
      have h4 := keep (.desc n) (by simp) d hd e
      exact ⟨h4.1, old _ _ h4.2⟩
  · by_cases hlt : k < W.heap.size
    · rw [(hρ k).1 hlt] at e
      exact ⟨(h.lt k t e).1, Nat.lt_of_lt_of_le (h.lt k t e).2 h3.size⟩
    · by_cases ho : O' k ∧ k < W'.heap.size
      · exact ⟨h.up k (by omega), ho.2⟩
      · rw [((hρ k).2 hlt).2 ho] at e
        cases e
  · have hl := setOb_len K i ob'
    exact ⟨h.ok.few, h.ok.named, fun d hd => by rw [hl]; exact h.ok.th d hd, fun j hj => by rw [hl]; exact h.ok.nm j hj, h.ok.num, h.ok.once, h.ok.flags, h.ok.pos, h.ok.held, h.ok.plan⟩

theorem RK.setKern {W : World} {B : Nat → Prop} {ρ : Nat → Option Tag} {I : RI} {K K' : KS} (h : RK W B ρ I K) (ht : K'.th = K.th) (hn : K'.nm = K.nm) (hd : K'.de = K.de) (hp : K'.plan = K.plan) (hx : K.next ≤ K'.next) (j : Nat) (v : Value)
    (hl : ([I.vT, I.vD, .int .i64 K.next, .pointer (some ⟨I.pb, 0, none⟩), .int .i64 K.reads, .int .i64 K.writes] : List Value).set j v = [I.vT, I.vD, .int .i64 K'.next, .pointer (some ⟨I.pb, 0, none⟩), .int .i64 K'.reads, .int .i64 K'.writes]) :
    RK (W.setCell ⟨I.kb, j, none⟩ v) B ρ I K' ∧ Turned B W (W.setCell ⟨I.kb, j, none⟩ v) := by
  obtain ⟨hb, hr⟩ := h.comp .kern
  have hs : (W.setCell ⟨I.kb, j, none⟩ v).heap.size = W.heap.size := by simp [World.setCell]
  have kp : ∀ t, t ≠ .kern → RComp (W.setCell ⟨I.kb, j, none⟩ v) B ρ I K t := fun t hne => (h.comp t).keep (fun k e _ => Below.heap_setCell _ _ _ _ (fun e' => by
    subst e'
    rw [hr] at e
    exact hne (Option.some.inj e).symm)) (Nat.le_of_eq hs.symm)
  obtain ⟨th, nm, de, next, plan, reads, writes⟩ := K'
  simp only at ht hn hd hp hx hl
  subst ht hn hd hp
  refine ⟨⟨fun t => ?_, fun k t e => by rw [hs]; exact h.lt k t e, ⟨h.ok.few, h.ok.named, h.ok.th, h.ok.nm, fun d hd => by have := h.ok.num d hd; exact ⟨this.1, Nat.lt_of_lt_of_le this.2 hx⟩, h.ok.once, h.ok.flags, h.ok.pos, h.ok.held, h.ok.plan⟩, fun k e => h.up k (by rw [hs] at e; exact e)⟩, (Turned.refl _ _).set (.inl (h.lt _ _ hr).1)⟩
  cases t with
  | kern => exact ⟨by rw [heap_setCell_same j v hb, hl], hr⟩
  | trow => exact kp .trow (by simp)
  | drow => exact kp .drow (by simp)
  | plan => exact kp .plan (by simp)
  | thing i => exact kp (.thing i) (by simp)
  | obj i => exact kp (.obj i) (by simp)
  | desc n => exact kp (.desc n) (by simp)

theorem RK.used {W W' : World} {B : Nat → Prop} {ρ : Nat → Option Tag} {I : RI} {K : KS} (h : RK W B ρ I K) {r : List Fault} {v' : Value} (hR : RPlanAt W' I.pb v' r) (hv : v'.ownBlock = I.pv.ownBlock) (hg : W.grownBy W' (some I.pb)) (hok : planOk r) :
    RK W' B ρ { I with pv := v' } { K with plan := r } ∧ Turned B W W' := by
  have hp := h.comp .plan
  have kp : ∀ t, t ≠ .plan → RComp W' B ρ I K t := fun t hne => (h.comp t).keep (fun k e hlt => hg.block k hlt (fun e' => by
    cases e'
    rw [hp.2.1] at e
    exact hne (Option.some.inj e).symm)) hg.size
  refine ⟨⟨fun t => ?_, fun k t e => ⟨(h.lt k t e).1, Nat.lt_of_lt_of_le (h.lt k t e).2 hg.size⟩, ⟨h.ok.few, h.ok.named, h.ok.th, h.ok.nm, h.ok.num, h.ok.once, h.ok.flags, h.ok.pos, h.ok.held, hok⟩, fun k e => h.up k (Nat.le_trans hg.size e)⟩, (Turned.refl _ _).grown hg (fun k e => by cases e; exact .inl (h.lt _ _ hp.2.1).1)⟩
  cases t with
  | kern => exact kp .kern (by simp)
  | trow => exact kp .trow (by simp)
  | drow => exact kp .drow (by simp)
  | plan => exact ⟨hR, hp.2.1, fun k e => hp.2.2 k (by rw [← hv]; exact e)⟩
  | thing i => exact kp (.thing i) (by simp)
  | obj i => exact kp (.obj i) (by simp)
  | desc n => exact kp (.desc n) (by simp)

theorem rknext_any (B : Nat → Prop) (ρ : Nat → Option Tag) (I : RI) (K : KS) (want : Int) (w : World) (h : RK w B ρ I K) (h1 : 1 ≤ want) (h2 : want ≤ 1048576) :
    Calls Tryz.prog 154 #[.pointer (some ⟨I.pb, 0, none⟩), .int .i64 want] w fun e w' => e = .returned (.tuple #[.int .i64 (nxt K.plan want).1, .int .i64 (nxt K.plan want).2]) ∧ ∃ v', RK w' B ρ { I with pv := v' } { K with plan := K.plan.tail } ∧ Turned B w w' := by
  have hp := (h.comp .plan).1
  cases hpl : K.plan with
  | nil =>
    rw [hpl] at hp
    refine (rnext_end I.pb I.pv want w hp h1 h2).mono ?_
    rintro e w' ⟨rfl, rfl⟩
    refine ⟨by rw [show nxt ([] : List Fault) want = (want, 0) by simp [nxt]; omega], I.pv, ?_, Turned.refl _ _⟩
    have : ({ K with plan := ([] : List Fault).tail } : KS) = K := by
      obtain ⟨_, _, _, _, plan, _, _⟩ := K
      simp only at hpl
      subst hpl
      rfl
    rw [this]
    exact h
  | cons f r =>
    have hpo := h.ok.plan
    rw [hpl] at hp hpo
    refine (rnext_some I.pb I.pv f r want w hp h1 h2 (by have := hpo.1; simp at this; unfold maxLen; omega)).mono ?_
    rintro e w' ⟨rfl, v', h3, h4, h5⟩
    obtain ⟨h6, h7⟩ := h.used h3 h4 h5 hpo.tail
    exact ⟨rfl, v', h6, h7⟩
end Go.Proofs.YtanbiinomagdbaaGreat

/- The reference's kernel: Read. -/
namespace Go.Proofs.YtanbiinomagdbaaGreat
open Go.RowKit

def RKRead (w : World) (B : Nat → Prop) (kb : Nat) (r : List UInt8 × Int × KS) (e : Ending) (w' : World) : Prop :=
  ∃ v ρ' I', e = .returned (.tuple #[v, .int .i64 r.2.1]) ∧ Bys w' v r.1 ∧ RK w' B ρ' I' r.2.2 ∧ I'.kb = kb ∧ Turned B w w'
theorem RKRead.refused {w : World} {B : Nat → Prop} {ρ : Nat → Option Tag} {I : RI} {K : KS} (h : RK w B ρ I K) (E : Int) : RKRead w B I.kb ([], E, K) (.returned (.tuple #[.slice none 0 0, .int .i64 E])) w :=
  ⟨_, ρ, I, rfl, .inl ⟨rfl, rfl⟩, h, rfl, Turned.refl _ _⟩
set_option maxRecDepth 100000 in
set_option maxHeartbeats 4000000 in
theorem rkread_any (B : Nat → Prop) (ρ : Nat → Option Tag) (I : RI) (K : KS) (d n : Int) (w : World) (h : RK w B ρ I K) (hr : K.reads < 9223372036854775807) :
    Calls Tryz.prog 60 #[.pointer (some ⟨I.kb, 0, none⟩), .int .i64 d, .int .i64 n] w (RKRead w B I.kb (K.read d n)) := by
  have HF := hide (rfind_any B ρ I K d w h)
  have HK := hide h
  have HX := hide fun E => RKRead.refused h E
  cases hx : K.find d with
  | none =>
    rw [hx] at HF
    rw [show K.read d n = ([], 64, K) by unfold KS.read; rw [hx]]
    clear h
    go_enter Tryz.func60, Tryz.ntmps60
    go_wp2_with fail
    refine HF.out.mono ?_
    rintro e w1 ⟨rfl, rfl⟩
    go_wp2
    go_ret2
    exact HX.out 64
  | some x =>
    rw [hx] at HF
    have hm := (KS.find_some hx).1
    have hd := h.de hm
    have c1 := hd.t
    have c2 := hd.kind
    have c3 := hd.f
    have HP := hide (h.ptr hm)
    have HO := hide (h.robj hm)
    have hR : K.read d n = if fbit x.flags 1 = 0 then ([], 65, K) else if n < 0 ∨ 1048576 < n then ([], 4, K) else if n = 0 then ([], 0, K) else if (K.tho x).waits = true then ([], 52, K)
      else if (nxt K.plan n).2 = 0 then
        match K.tho x with
        | .file b => (piece b x.pos (nxt K.plan n).1.toNat, 0, K.readUp.setDe { x with pos := x.pos + (piece b x.pos (nxt K.plan n).1.toNat).length })
        | .term ls scr => (rdH ls (nxt K.plan n).1, Te_rdE (nxt K.plan n).1, K.readUp.setOb x.th (.term (rdR ls (nxt K.plan n).1) scr))
        | .pipe q rd wt => (rdB (nxt K.plan n).1 q rd wt, Kp_rdE (nxt K.plan n).1 q.length rd wt, K.readUp.setOb x.th (.pipe (rdQ (nxt K.plan n).1 q rd wt) rd wt))
      else ([], (nxt K.plan n).2, K.readUp) := by unfold KS.read; rw [hx]; first | done | rfl
    obtain ⟨v, hv⟩ : ∃ v, bits .and .i64 x.flags 1 = v := ⟨_, rfl⟩
    rw [show fbit x.flags 1 = v from hv] at hR
    by_cases k0 : v = 0
    · subst k0
      rw [if_pos rfl] at hR
      rw [hR]
      clear h hd hR
      go_enter Tryz.func60, Tryz.ntmps60
      go_wp2_with fail
      refine HF.out.mono ?_
      rintro e w1 ⟨rfl, rfl⟩
      simp only [Option.map_some]
      go_wp2
      go_ret2
      exact HX.out 65
    · have m0 : (v == 0) = false := by simpa using k0
      rw [if_neg k0] at hR
      by_cases k1 : n < 0 ∨ 1048576 < n
      · rw [if_pos k1] at hR
        rw [hR]
        clear h hd hR
        rcases (show n < 0 ∨ (¬ n < 0 ∧ 1048576 < n) by omega) with k2 | ⟨k2, k3⟩
        · go_enter Tryz.func60, Tryz.ntmps60
          go_wp2_with fail
          refine HF.out.mono ?_
          rintro e w1 ⟨rfl, rfl⟩
          simp only [Option.map_some]
          go_wp2
          go_ret2
          exact HX.out 4
        · go_enter Tryz.func60, Tryz.ntmps60
          go_wp2_with fail
          refine HF.out.mono ?_
          rintro e w1 ⟨rfl, rfl⟩
          simp only [Option.map_some]
          go_wp2
          go_ret2
          exact HX.out 4
      · rw [if_neg k1] at hR
        have k2 : ¬ n < 0 := by omega
        have k3 : ¬ 1048576 < n := by omega
        by_cases k4 : n = 0
        · subst k4
          rw [if_pos rfl] at hR
          rw [hR]
          clear h hd hR k1
          go_enter Tryz.func60, Tryz.ntmps60
          go_wp2_with fail
          refine HF.out.mono ?_
          rintro e w1 ⟨rfl, rfl⟩
          simp only [Option.map_some]
          go_wp2
          go_ret2
          exact HX.out 0
        · rw [if_neg k4] at hR
          have m4 : (n == 0) = false := by simpa using k4
          have hb := (h.comp .kern).1
          have q4 : w.cell? ⟨I.kb, 4, none⟩ = some (.int .i64 K.reads) := by rw [cell_of_row w I.kb 4 _ _ _ hb]; rfl
          have q4s : w.frozen? ⟨I.kb, 4, none⟩ = false := frozen_of_row w I.kb 4 _ _ hb
          obtain ⟨hU, hTU⟩ := h.setKern (K' := { K with reads := K.reads + 1 }) rfl rfl rfl rfl (Nat.le_refl _) 4 (.int .i64 ((K.reads + 1 : Nat) : Int)) (by simp)
          have HN := hide (rknext_any B ρ I _ n _ hU (by omega) (by omega))
          have HTU := hide hTU
          have hb1 := (hU.comp .kern).1
          have q3 : (w.setCell ⟨I.kb, 4, none⟩ (.int .i64 ((K.reads + 1 : Nat) : Int))).cell? ⟨I.kb, 3, none⟩ = some (.pointer (some ⟨I.pb, 0, none⟩)) := by rw [cell_of_row _ I.kb 3 _ _ _ hb1]; rfl
          have HG := hide (nxt_good (want := n) h.ok.plan (by omega) (by omega))
          have hrv : (K.reads : Int) + 1 = ((K.reads + 1 : Nat) : Int) := by omega
          have HRv := hide hrv
          rw [← hrv] at q3
          clear hb hb1 hU hTU h hrv
          obtain ⟨m, hm1⟩ : ∃ m, m = (nxt K.plan n).1 := ⟨_, rfl⟩
          obtain ⟨E, hE⟩ : ∃ E, E = (nxt K.plan n).2 := ⟨_, rfl⟩
          rw [← hm1, ← hE] at hR HG
          have HN : Hid (Calls Tryz.prog 154 #[.pointer (some ⟨I.pb, 0, none⟩), .int .i64 n] (w.setCell ⟨I.kb, 4, none⟩ (.int .i64 ((K.reads + 1 : Nat) : Int))) fun e w' => e = .returned (.tuple #[.int .i64 m, .int .i64 E]) ∧ ∃ v', RK w' B ρ { I with pv := v' } K.readUp ∧ Turned B (w.setCell ⟨I.kb, 4, none⟩ (.int .i64 ((K.reads + 1 : Nat) : Int))) w') := hide (by rw [hm1, hE]; exact HN.out)
          clear hm1 hE
          by_cases hwt : (K.tho x).waits = true
          · rw [if_pos hwt] at hR
            rw [hR]
            cases ho : K.tho x with
            | file b => rw [ho] at hwt; simp [Ob.waits] at hwt
            | term ls scr => rw [ho] at hwt; simp [Ob.waits] at hwt
            | pipe q rd wt =>
              rw [ho] at hwt c2 HO
              simp only [Ob.kind] at c2
              have c4 := HP.out.2.2 q rd wt ho
              have HC := hide (ob_pcanRead _ _ q rd wt w HO.out.1)
              have HCv : Hid (canR q.length rd wt = false) := hide (by simpa [Ob.waits] using hwt)
              clear hwt hR HN
              go_enter Tryz.func60, Tryz.ntmps60
              go_wp2_with fail
              refine HF.out.mono ?_
              rintro e w0 ⟨rfl, rfl⟩
              simp only [Option.map_some]
              go_wp2_with fail
              refine HC.out.mono ?_
              rintro e w0 ⟨rfl, rfl⟩
              rw [HCv.out]
              go_wp2
              go_ret2
              exact HX.out 52
          · rw [if_neg hwt] at hR
            by_cases hE0 : E = 0
            · subst hE0
              rw [if_pos rfl] at hR
              have hmg := HG.out rfl
              cases ho : K.tho x with
              | file b =>
                rw [ho] at c2 hR
                simp only [Ob.kind] at c2
                simp only at hR
                rw [hR]
                have hpos := HK.out.ok.pos x hm
                obtain ⟨mm, rfl, hm1, hm2⟩ := inN_nat (n := m) (by simp only [inN, Bool.and_eq_true, decide_eq_true_eq]; omega)
                simp only [Int.toNat_natCast]
                clear hR hwt
                go_enter Tryz.func60, Tryz.ntmps60
                go_wp2_with fail
                refine HF.out.mono ?_
                rintro e w0 ⟨rfl, rfl⟩
                simp only [Option.map_some]
                go_wp2_with fail
                rw [HRv.out]
                refine HN.out.mono ?_
                rintro e w2 ⟨rfl, v', hK2, hT2⟩
                have HT2 := hide (HTU.out.trans hT2 (fun _ _ e => e))
                have HK2 := hide hK2
                clear hK2 hT2 q3 q4 q4s c1 c2 c3
                have hd2 := HK2.out.de (x := x) hm
                have c1 := hd2.t
                have c5 := hd2.p
                have c5s := hd2.soft 3
                have c2 : w2.cell? ⟨I.tb x.th, 1, none⟩ = some (.int .i64 1) := by have := hd2.kind; rw [show K.readUp.tho x = .file b from ho] at this; exact this
                have c4 := (HK2.out.ptr (x := x) hm).1 b ho
                have hO2 := HK2.out.robj (x := x) hm
                rw [show K.readUp.tho x = .file b from ho] at hO2
                obtain ⟨⟨u, Bu, hF2, -⟩, hbl⟩ := hO2
                have hbl' : b.length ≤ 1048576 := hbl
                have c6 := hF2.data
                have HU := hide hF2.row
                obtain ⟨ua, uc, hu⟩ := owns_slice hF2.row
                rw [hu] at c6 HU
                have HPi := hide (piece_any Bu _ b x.pos mm w2.drew HU.out hbl' hpos hm2)
                have hpl := piece_len b x.pos mm
                have hpp : x.pos + (piece b x.pos mm).length ≤ 1048576 := by omega
                clear hpl
                generalize piece b x.pos mm = Y at *
                clear hd2 hF2 hu hbl
                have hlo := HK2.out.lt
                have hbd := World.block_lt_of_cell? w2 _ c1
                have hbt := World.block_lt_of_cell? w2 _ c4
                have hbo := World.block_lt_of_cell? w2 _ c6
                go_wp2_with fail
                go_region_held3 (fun w' => w'.cell? ⟨I.db x.n, 1, none⟩ = some (.pointer (some ⟨I.tb x.th, 0, none⟩)) ∧ w'.cell? ⟨I.tb x.th, 2, none⟩ = some (.pointer (some ⟨I.ob x.th, 0, none⟩)) ∧ w'.cell? ⟨I.ob x.th, 0, none⟩ = some (.slice ua b.length uc) ∧ w'.cell? ⟨I.db x.n, 3, none⟩ = some (.int .i64 x.pos))
                  (first | exact K5 | go_keep)
                  (first
                    | (go_at_call 102; refine HPi.out.mono ?_; rintro e w5 ⟨v5, rfl, hown5, hB5⟩; have K5 : w5.cell? ⟨I.db x.n, 1, none⟩ = some (.pointer (some ⟨I.tb x.th, 0, none⟩)) ∧ w5.cell? ⟨I.tb x.th, 2, none⟩ = some (.pointer (some ⟨I.ob x.th, 0, none⟩)) ∧ w5.cell? ⟨I.ob x.th, 0, none⟩ = some (.slice ua b.length uc) ∧ w5.cell? ⟨I.db x.n, 3, none⟩ = some (.int .i64 x.pos) := ⟨(hB5.cell (p := ⟨I.db x.n, 1, none⟩) hbd).trans c1, (hB5.cell (p := ⟨I.tb x.th, 2, none⟩) hbt).trans c4, (hB5.cell (p := ⟨I.ob x.th, 0, none⟩) hbo).trans c6, (hB5.cell (p := ⟨I.db x.n, 3, none⟩) hbd).trans c5⟩)
                    | fail)
                have hB25 : Below w2.heap.size w2 w5 := (Below.refl _ w2).drew.trans hB5
                obtain ⟨va5, vc5, rfl⟩ := owns_slice hown5
                have hK5 := HK2.out.below hB25
                have c7 := K5.2.2.2
                have c7s := (hK5.de (x := x) hm).soft 3
                obtain ⟨hK6, hT6⟩ := hK5.setDe (x := x) (x' := { x with pos := x.pos + Y.length }) hm rfl rfl rfl hpp (hK5.ok.held x hm) 3 (.int .i64 ((x.pos + Y.length : Nat) : Int)) (by simp)
                have HK6 := hide hK6
                have hnb : ¬ ρ w2.heap.size = some (.desc x.n) := fun e => by have := (hlo _ _ e).2; omega
                have HO5 := hide (owns_turned hown5 hT6 (fun k hk e => by have h1 : w2.heap.size ≤ k := (hown5.lt k hk).1; have := (hlo _ _ e).2; omega))
                have HT6 := hide ((HT2.out.trans (Turned.of_below (S := B) hB25) (fun _ _ e => e)).trans hT6 (fun k _ e => (hlo _ _ e).1))
                clear hK6 hT6 hK5 hown5 K5 HPi hlo
                go_wp2
                go_ret2
                rw [show (x.pos : Int) + (Y.length : Int) = ((x.pos + Y.length : Nat) : Int) by omega]
                exact ⟨_, ρ, _, rfl, Bys.of_owns HO5.out, HK6.out, rfl, HT6.out⟩
              | term ls scr =>
                rw [ho] at c2 hR
                simp only [Ob.kind] at c2
                simp only at hR
                rw [hR]
                have hlt := hd.lt
                have hth : K.th[x.th].ob = .term ls scr := by rw [← KS.tho_eq hlt]; exact ho
                clear hR hwt
                go_enter Tryz.func60, Tryz.ntmps60
                go_wp2_with fail
                refine HF.out.mono ?_
                rintro e w0 ⟨rfl, rfl⟩
                simp only [Option.map_some]
                go_wp2_with fail
                rw [HRv.out]
                refine HN.out.mono ?_
                rintro e w2 ⟨rfl, v', hK2, hT2⟩
                have HT2 := hide (HTU.out.trans hT2 (fun _ _ e => e))
                have HK2 := hide hK2
                clear hK2 hT2 q3 q4 q4s c1 c2 c3
                have hd2 := HK2.out.de (x := x) hm
                have c1 := hd2.t
                have c2 : w2.cell? ⟨I.tb x.th, 1, none⟩ = some (.int .i64 2) := by have := hd2.kind; rw [show K.readUp.tho x = .term ls scr from ho] at this; exact this
                have c4 := (HK2.out.ptr (x := x) hm).2.1 ls scr ho
                have hO2 := HK2.out.robj (x := x) hm
                rw [show K.readUp.tho x = .term ls scr from ho] at hO2
                have HO2 := hide hO2
                clear hd2 hO2
                go_wp2_with fail
                refine (ob_tread _ _ ls scr m _ HO2.out.1 HO2.out.2).mono ?_
                rintro e w3 ⟨v3, rfl, hb3, hs3⟩
                obtain ⟨ρ', hK3, -, hT3⟩ := HK2.out.setOb (i := x.th) hlt hs3 (by show _ = K.th[x.th].ob.kind; rw [hth]; rfl) (term_ok HO2.out.2)
                have HK3 := hide hK3
                have HB3 := hide hb3
                have HT3 := hide (HT2.out.trans hT3 (fun _ _ e => e))
                clear hK3 hb3 hT3 hs3
                go_wp2
                go_ret2
                exact ⟨_, ρ', _, rfl, HB3.out, HK3.out, rfl, HT3.out⟩
              | pipe q rd wt =>
                rw [ho] at c2 hR hwt
                simp only [Ob.kind] at c2
                simp only at hR
                rw [hR]
                have hlt := hd.lt
                have hth : K.th[x.th].ob = .pipe q rd wt := by rw [← KS.tho_eq hlt]; exact ho
                have c4 := HP.out.2.2 q rd wt ho
                have hO1 := HO.out.1
                rw [ho] at hO1
                have HC := hide (ob_pcanRead _ _ q rd wt w hO1)
                have HCv : Hid (canR q.length rd wt = true) := hide (by simpa [Ob.waits] using hwt)
                clear hR hwt hO1
                go_enter Tryz.func60, Tryz.ntmps60
                go_wp2_with fail
                refine HF.out.mono ?_
                rintro e w0 ⟨rfl, rfl⟩
                simp only [Option.map_some]
                go_wp2_with fail
                refine HC.out.mono ?_
                rintro e w0 ⟨rfl, rfl⟩
                rw [HCv.out]
                go_wp2_with fail
                rw [HRv.out]
                refine HN.out.mono ?_
                rintro e w2 ⟨rfl, v', hK2, hT2⟩
                have HT2 := hide (HTU.out.trans hT2 (fun _ _ e => e))
                have HK2 := hide hK2
                clear hK2 hT2 c4 q3 q4 q4s c1 c2 c3
                have hd2 := HK2.out.de (x := x) hm
                have c1 := hd2.t
                have c2 : w2.cell? ⟨I.tb x.th, 1, none⟩ = some (.int .i64 3) := by have := hd2.kind; rw [show K.readUp.tho x = .pipe q rd wt from ho] at this; exact this
                have c4 := (HK2.out.ptr (x := x) hm).2.2 q rd wt ho
                have hO2 := HK2.out.robj (x := x) hm
                rw [show K.readUp.tho x = .pipe q rd wt from ho] at hO2
                have HO2 := hide hO2
                clear hd2 hO2
                go_wp2_with fail
                refine (ob_pread _ _ q rd wt m _ HO2.out.1).mono ?_
                rintro e w3 ⟨v3, rfl, hb3, hs3⟩
                obtain ⟨ρ', hK3, -, hT3⟩ := HK2.out.setOb (i := x.th) hlt hs3 (by show _ = K.th[x.th].ob.kind; rw [hth]; rfl) (pipe_ok HO2.out.2)
                have HK3 := hide hK3
                have HB3 := hide hb3
                have HT3 := hide (HT2.out.trans hT3 (fun _ _ e => e))
                clear hK3 hb3 hT3 hs3
                go_wp2
                go_ret2
                exact ⟨_, ρ', _, rfl, HB3.out, HK3.out, rfl, HT3.out⟩
            · rw [if_neg hE0] at hR
              rw [hR]
              have hE1 : (E != 0) = true := by simpa using hE0
              cases ho : K.tho x with
              | file b =>
                rw [ho] at c2
                simp only [Ob.kind] at c2
                clear hR hwt
                go_enter Tryz.func60, Tryz.ntmps60
                go_wp2_with fail
                refine HF.out.mono ?_
                rintro e w0 ⟨rfl, rfl⟩
                simp only [Option.map_some]
                go_wp2_with fail
                rw [HRv.out]
                refine HN.out.mono ?_
                rintro e w2 ⟨rfl, v', hK2, hT2⟩
                have HT2 := hide (HTU.out.trans hT2 (fun _ _ e => e))
                have HK2 := hide hK2
                clear hK2 hT2 q3 q4 q4s c1 c2 c3
                go_wp2
                go_ret2
                exact ⟨_, ρ, _, rfl, .inl ⟨rfl, rfl⟩, HK2.out, rfl, HT2.out⟩
              | term ls scr =>
                rw [ho] at c2
                simp only [Ob.kind] at c2
                clear hR hwt
                go_enter Tryz.func60, Tryz.ntmps60
                go_wp2_with fail
                refine HF.out.mono ?_
                rintro e w0 ⟨rfl, rfl⟩
                simp only [Option.map_some]
                go_wp2_with fail
                rw [HRv.out]
                refine HN.out.mono ?_
                rintro e w2 ⟨rfl, v', hK2, hT2⟩
                have HT2 := hide (HTU.out.trans hT2 (fun _ _ e => e))
                have HK2 := hide hK2
                clear hK2 hT2 q3 q4 q4s c1 c2 c3
                go_wp2
                go_ret2
                exact ⟨_, ρ, _, rfl, .inl ⟨rfl, rfl⟩, HK2.out, rfl, HT2.out⟩
              | pipe q rd wt =>
                rw [ho] at c2 hwt
                simp only [Ob.kind] at c2
                have c4 := HP.out.2.2 q rd wt ho
                have hO1 := HO.out.1
                rw [ho] at hO1
                have HC := hide (ob_pcanRead _ _ q rd wt w hO1)
                have HCv : Hid (canR q.length rd wt = true) := hide (by simpa [Ob.waits] using hwt)
                clear hR hwt hO1
                go_enter Tryz.func60, Tryz.ntmps60
                go_wp2_with fail
                refine HF.out.mono ?_
                rintro e w0 ⟨rfl, rfl⟩
                simp only [Option.map_some]
                go_wp2_with fail
                refine HC.out.mono ?_
                rintro e w0 ⟨rfl, rfl⟩
                rw [HCv.out]
                go_wp2_with fail
                rw [HRv.out]
                refine HN.out.mono ?_
                rintro e w2 ⟨rfl, v', hK2, hT2⟩
                have HT2 := hide (HTU.out.trans hT2 (fun _ _ e => e))
                have HK2 := hide hK2
                clear hK2 hT2 q3 q4 q4s c1 c2 c3
                go_wp2
                go_ret2
                exact ⟨_, ρ, _, rfl, .inl ⟨rfl, rfl⟩, HK2.out, rfl, HT2.out⟩
end Go.Proofs.YtanbiinomagdbaaGreat

/- The reference's kernel: room, Seek. -/
namespace Go.Proofs.YtanbiinomagdbaaGreat
open Go.RowKit

set_option maxRecDepth 100000 in
set_option maxHeartbeats 1000000 in
theorem rroom_any (B : Nat → Prop) (ρ : Nat → Option Tag) (I : RI) (K : KS) (x : De) (w : World) (h : RK w B ρ I K) (hm : x ∈ K.de) (hk : (K.tho x).kind ≠ 3) :
    Calls Tryz.prog 158 #[.pointer (some ⟨I.db x.n, 0, none⟩)] w fun e w' => e = .returned (.int .i64 (roomOf (K.tho x) x.flags x.pos : Nat)) ∧ w' = w := by
  have hd := h.de hm
  have c1 := hd.t
  have c2 := hd.kind
  have c3 := hd.f
  have c4 := hd.p
  have hpos := h.ok.pos x hm
  have hp := h.ptr hm
  obtain ⟨hO, hok⟩ := h.robj hm
  clear hd h
  cases ho : K.tho x with
  | pipe q rd wt => rw [ho] at hk; exact absurd rfl hk
  | term ls scr =>
    rw [ho] at c2 hO hok
    simp only [Ob.kind] at c2
    have c5 := hp.2.1 ls scr ho
    obtain ⟨la, lc, s, B', O1, hT, -⟩ := hO
    have c6 := hT.screen
    obtain ⟨sa, sc, rfl⟩ := owns_slice hT.scr
    have hsl : scr.length ≤ 1048576 := hok.2.2
    show Calls _ _ _ _ fun e w' => e = .returned (.int .i64 ((1048576 - scr.length : Nat) : Int)) ∧ w' = w
    clear hp hT hok
    go_enter Tryz.func158, Tryz.ntmps158
    go_wp2
    go_ret
    exact ⟨ret_int (by omega), rfl⟩
  | file b =>
    rw [ho] at c2 hO hok
    simp only [Ob.kind] at c2
    have c5 := hp.1 b ho
    obtain ⟨u, B', hF, -⟩ := hO
    have c6 := hF.data
    obtain ⟨ua, uc, rfl⟩ := owns_slice hF.row
    have hbl : b.length ≤ 1048576 := hok
    obtain ⟨v, hv⟩ : ∃ v, bits .and .i64 x.flags 4 = v := ⟨_, rfl⟩
    show Calls _ _ _ _ fun e w' => e = .returned (.int .i64 ((if bits .and .i64 x.flags 4 = 0 then 1048576 - x.pos else 1048576 - b.length : Nat) : Int)) ∧ w' = w
    rw [hv]
    clear hp hF hok
    by_cases k0 : v = 0
    · subst k0
      rw [if_pos rfl]
      go_enter Tryz.func158, Tryz.ntmps158
      go_wp2
      go_ret
      exact ⟨ret_int (by omega), rfl⟩
    · rw [if_neg k0]
      have m0 : (v == 0) = false := by simpa using k0
      have m0' : (v != 0) = true := by simpa using k0
      go_enter Tryz.func158, Tryz.ntmps158
      go_wp2
      go_ret
      exact ⟨ret_int (by omega), rfl⟩

def RKNum (w : World) (B : Nat → Prop) (kb : Nat) (r : Int × Int × KS) (e : Ending) (w' : World) : Prop :=
  ∃ ρ' I', e = .returned (.tuple #[.int .i64 r.1, .int .i64 r.2.1]) ∧ RK w' B ρ' I' r.2.2 ∧ I'.kb = kb ∧ Turned B w w'
theorem RKNum.refused {w : World} {B : Nat → Prop} {ρ : Nat → Option Tag} {I : RI} {K : KS} (h : RK w B ρ I K) (a E : Int) : RKNum w B I.kb (a, E, K) (.returned (.tuple #[.int .i64 a, .int .i64 E])) w :=
  ⟨ρ, I, rfl, h, rfl, Turned.refl _ _⟩
set_option maxRecDepth 100000 in
set_option maxHeartbeats 4000000 in
theorem rkseek_any (B : Nat → Prop) (ρ : Nat → Option Tag) (I : RI) (K : KS) (d off wh : Int) (w : World) (h : RK w B ρ I K) :
    Calls Tryz.prog 64 #[.pointer (some ⟨I.kb, 0, none⟩), .int .i64 d, .int .i64 off, .int .i64 wh] w (RKNum w B I.kb (K.seek d off wh)) := by
  have HF := hide (rfind_any B ρ I K d w h)
  have HX := hide fun a E => RKNum.refused h a E
  cases hx : K.find d with
  | none =>
    rw [hx] at HF
    rw [show K.seek d off wh = (0, 64, K) by unfold KS.seek; rw [hx]]
    clear h
    go_enter Tryz.func64, Tryz.ntmps64
    go_wp2_with fail
    refine HF.out.mono ?_
    rintro e w1 ⟨rfl, rfl⟩
    go_wp2
    go_ret2
    exact HX.out 0 64
  | some x =>
    rw [hx] at HF
    have hm := (KS.find_some hx).1
    have hd := h.de hm
    have c1 := hd.t
    have c2 := hd.kind
    have c3 := hd.p
    have c3s := hd.soft 3
    have hpos := h.ok.pos x hm
    have hp := h.ptr hm
    have hO := h.robj hm
    cases ho : K.tho x with
    | pipe q rd wt =>
      rw [show K.seek d off wh = (0, 66, K) by unfold KS.seek; rw [hx]; simp only; rw [ho]]
      rw [ho] at c2
      simp only [Ob.kind] at c2
      clear h hd hp hO
      go_enter Tryz.func64, Tryz.ntmps64
      go_wp2_with fail
      refine HF.out.mono ?_
      rintro e w1 ⟨rfl, rfl⟩
      simp only [Option.map_some]
      go_wp2
      go_ret2
      exact HX.out 0 66
    | term ls scr =>
      rw [show K.seek d off wh = (0, 66, K) by unfold KS.seek; rw [hx]; simp only; rw [ho]]
      rw [ho] at c2
      simp only [Ob.kind] at c2
      clear h hd hp hO
      go_enter Tryz.func64, Tryz.ntmps64
      go_wp2_with fail
      refine HF.out.mono ?_
      rintro e w1 ⟨rfl, rfl⟩
      simp only [Option.map_some]
      go_wp2
      go_ret2
      exact HX.out 0 66
    | file b =>
      have hR : K.seek d off wh = if wh < 0 ∨ 2 < wh then (0, 1, K) else
        if 0 ≤ (if wh = 1 then (x.pos : Int) else if wh = 2 then (b.length : Int) else 0) + off ∧ (if wh = 1 then (x.pos : Int) else if wh = 2 then (b.length : Int) else 0) + off ≤ 1048576 then
          ((if wh = 1 then (x.pos : Int) else if wh = 2 then (b.length : Int) else 0) + off, 0, K.setDe { x with pos := ((if wh = 1 then (x.pos : Int) else if wh = 2 then (b.length : Int) else 0) + off).toNat })
        else (0, 4, K) := by unfold KS.seek; rw [hx]; simp only; rw [ho]
      rw [ho] at c2 hO
      simp only [Ob.kind] at c2
      have c5 := hp.1 b ho
      obtain ⟨⟨u, B', hF, -⟩, hbl⟩ := hO
      have hbl' : b.length ≤ 1048576 := hbl
      have c6 := hF.data
      obtain ⟨ua, uc, hu⟩ := owns_slice hF.row
      rw [hu] at c6
      clear hp hF hbl hu
      rcases (show wh < 0 ∨ (¬ wh < 0 ∧ 2 < wh) ∨ wh = 0 ∨ wh = 1 ∨ wh = 2 by omega) with k1 | ⟨k1, k2⟩ | rfl | rfl | rfl
      · rw [if_pos (.inl k1)] at hR
        rw [hR]
        clear h hd hR
        go_enter Tryz.func64, Tryz.ntmps64
        go_wp2_with fail
        refine HF.out.mono ?_
        rintro e w1 ⟨rfl, rfl⟩
        simp only [Option.map_some]
        go_wp2
        go_ret2
        exact HX.out 0 1
      · rw [if_pos (.inr k2)] at hR
        rw [hR]
        clear h hd hR
        go_enter Tryz.func64, Tryz.ntmps64
        go_wp2_with fail
        refine HF.out.mono ?_
        rintro e w1 ⟨rfl, rfl⟩
        simp only [Option.map_some]
        go_wp2
        go_ret2
        exact HX.out 0 1
      · rw [if_neg (by omega)] at hR
        have HM := hide (move_any 0 off 1048576 w (by omega) (by omega) (by omega) (by omega))
        simp only [show ¬ ((0 : Int) = 1) by decide, show ¬ ((0 : Int) = 2) by decide, if_false] at hR
        by_cases k3 : 0 ≤ (0 : Int) + off ∧ (0 : Int) + off ≤ 1048576
        · rw [if_pos k3] at hR HM
          obtain ⟨p, hp⟩ : ∃ p : Nat, (0 : Int) + off = (p : Int) := ⟨((0 : Int) + off).toNat, by omega⟩
          rw [hp] at hR HM
          simp only [Int.toNat_natCast] at hR
          rw [hR]
          obtain ⟨hK2, hT2⟩ := h.setDe (x := x) (x' := { x with pos := p }) hm rfl rfl rfl (by show p ≤ 1048576; omega) (h.ok.held x hm) 3 (.int .i64 (p : Int)) (by simp)
          have HK2 := hide hK2
          have HT2 := hide (hT2.mono (S' := B) fun k e => (h.lt k _ e).1)
          clear h hd hR hK2 hT2
          go_enter Tryz.func64, Tryz.ntmps64
          go_wp2_with fail
          refine HF.out.mono ?_
          rintro e w1 ⟨rfl, rfl⟩
          simp only [Option.map_some]
          go_wp2_with fail
          refine HM.out.mono ?_
          rintro e w1 ⟨rfl, rfl⟩
          go_wp2
          go_ret2
          exact ⟨_, _, rfl, HK2.out, rfl, HT2.out⟩
        · rw [if_neg k3] at hR HM
          rw [hR]
          clear h hd hR
          go_enter Tryz.func64, Tryz.ntmps64
          go_wp2_with fail
          refine HF.out.mono ?_
          rintro e w1 ⟨rfl, rfl⟩
          simp only [Option.map_some]
          go_wp2_with fail
          refine HM.out.mono ?_
          rintro e w1 ⟨rfl, rfl⟩
          go_wp2
          go_ret2
          exact HX.out 0 4
      · rw [if_neg (by omega)] at hR
        have HM := hide (move_any x.pos off 1048576 w (by omega) (by omega) (by omega) (by omega))
        simp only [if_true] at hR
        by_cases k3 : 0 ≤ (x.pos : Int) + off ∧ (x.pos : Int) + off ≤ 1048576
        · rw [if_pos k3] at hR HM
          obtain ⟨p, hp⟩ : ∃ p : Nat, (x.pos : Int) + off = (p : Int) := ⟨((x.pos : Int) + off).toNat, by omega⟩
          rw [hp] at hR HM
          simp only [Int.toNat_natCast] at hR
          rw [hR]
          obtain ⟨hK2, hT2⟩ := h.setDe (x := x) (x' := { x with pos := p }) hm rfl rfl rfl (by show p ≤ 1048576; omega) (h.ok.held x hm) 3 (.int .i64 (p : Int)) (by simp)
          have HK2 := hide hK2
          have HT2 := hide (hT2.mono (S' := B) fun k e => (h.lt k _ e).1)
          clear h hd hR hK2 hT2
          go_enter Tryz.func64, Tryz.ntmps64
          go_wp2_with fail
          refine HF.out.mono ?_
          rintro e w1 ⟨rfl, rfl⟩
          simp only [Option.map_some]
          go_wp2_with fail
          refine HM.out.mono ?_
          rintro e w1 ⟨rfl, rfl⟩
          go_wp2
          go_ret2
          exact ⟨_, _, rfl, HK2.out, rfl, HT2.out⟩
        · rw [if_neg k3] at hR HM
          rw [hR]
          clear h hd hR
          go_enter Tryz.func64, Tryz.ntmps64
          go_wp2_with fail
          refine HF.out.mono ?_
          rintro e w1 ⟨rfl, rfl⟩
          simp only [Option.map_some]
          go_wp2_with fail
          refine HM.out.mono ?_
          rintro e w1 ⟨rfl, rfl⟩
          go_wp2
          go_ret2
          exact HX.out 0 4
      · rw [if_neg (by omega)] at hR
        have HM := hide (move_any b.length off 1048576 w (by omega) (by omega) (by omega) (by omega))
        simp only [show ¬ ((2 : Int) = 1) by decide, if_false, if_true] at hR
        by_cases k3 : 0 ≤ (b.length : Int) + off ∧ (b.length : Int) + off ≤ 1048576
        · rw [if_pos k3] at hR HM
          obtain ⟨p, hp⟩ : ∃ p : Nat, (b.length : Int) + off = (p : Int) := ⟨((b.length : Int) + off).toNat, by omega⟩
          rw [hp] at hR HM
          simp only [Int.toNat_natCast] at hR
          rw [hR]
          obtain ⟨hK2, hT2⟩ := h.setDe (x := x) (x' := { x with pos := p }) hm rfl rfl rfl (by show p ≤ 1048576; omega) (h.ok.held x hm) 3 (.int .i64 (p : Int)) (by simp)
          have HK2 := hide hK2
          have HT2 := hide (hT2.mono (S' := B) fun k e => (h.lt k _ e).1)
          clear h hd hR hK2 hT2
          go_enter Tryz.func64, Tryz.ntmps64
          go_wp2_with fail
          refine HF.out.mono ?_
          rintro e w1 ⟨rfl, rfl⟩
          simp only [Option.map_some]
          go_wp2_with fail
          refine HM.out.mono ?_
          rintro e w1 ⟨rfl, rfl⟩
          go_wp2
          go_ret2
          exact ⟨_, _, rfl, HK2.out, rfl, HT2.out⟩
        · rw [if_neg k3] at hR HM
          rw [hR]
          clear h hd hR
          go_enter Tryz.func64, Tryz.ntmps64
          go_wp2_with fail
          refine HF.out.mono ?_
          rintro e w1 ⟨rfl, rfl⟩
          simp only [Option.map_some]
          go_wp2_with fail
          refine HM.out.mono ?_
          rintro e w1 ⟨rfl, rfl⟩
          go_wp2
          go_ret2
          exact HX.out 0 4
end Go.Proofs.YtanbiinomagdbaaGreat

/- The reference's kernel: Write. -/
namespace Go.Proofs.YtanbiinomagdbaaGreat
open Go.RowKit

theorem setDe_setOb (K : KS) (x : De) (i : Nat) (o : Ob) : (K.setDe x).setOb i o = (K.setOb i o).setDe x := rfl
theorem setDe_twice (K : KS) {x y : De} (h : x.n = y.n) : (K.setDe x).setDe y = K.setDe y := by
  unfold KS.setDe
  simp only [List.map_map]
  congr 1
  apply List.map_congr_left
  intro z _
  simp only [Function.comp]
  by_cases hz : z.n = x.n
  · rw [if_pos hz, if_pos h, if_pos (hz.trans h)]
  · rw [if_neg hz]
theorem room_place (f : List UInt8) (flags : Int) (pos : Nat) : roomOf (.file f) flags pos = 1048576 - placeOf f flags pos := by
  unfold roomOf placeOf bit
  simp only
  by_cases h : fbit flags 4 = 0
  · rw [if_pos h, h]; rfl
  · rw [if_neg h]
    have : (!(fbit flags 4 == 0)) = true := by simpa using h
    rw [if_pos this]
theorem rkw_refused {K : KS} {d : Int} {b : List UInt8} {x : De} (hx : K.find d = some x) (h1 : fbit x.flags 2 ≠ 0) (h2 : ¬ 1048576 < b.length) (h3 : ¬ b.length = 0) (h4 : refusal (K.tho x) x.flags x.pos b.length ≠ 0) : K.write d b = (0, refusal (K.tho x) x.flags x.pos b.length, K) := by
  unfold KS.write
  rw [hx]
  simp only
  rw [if_neg h1, if_neg h2, if_neg h3, if_neg h4]
theorem rkw_fault {K : KS} {d : Int} {b : List UInt8} {x : De} (hx : K.find d = some x) (h1 : fbit x.flags 2 ≠ 0) (h2 : ¬ 1048576 < b.length) (h3 : ¬ b.length = 0) (h4 : refusal (K.tho x) x.flags x.pos b.length = 0) (h5 : (nxt K.plan b.length).2 ≠ 0) : K.write d b = (0, (nxt K.plan b.length).2, K.writeUp) := by
  unfold KS.write
  rw [hx]
  simp only
  rw [if_neg h1, if_neg h2, if_neg h3, if_pos h4, if_neg h5]
set_option maxRecDepth 100000 in
set_option maxHeartbeats 1000000 in
theorem rkwrite_head (B : Nat → Prop) (ρ : Nat → Option Tag) (I : RI) (K : KS) (d : Int) (b : List UInt8) (a1 : Option Addr) (cx : Nat) (w : World) (h : RK w B ρ I K)
    (hh : K.find d = none ∨ ∃ x, K.find d = some x ∧ (fbit x.flags 2 = 0 ∨ 1048576 < b.length ∨ b.length = 0)) :
    Calls Tryz.prog 62 #[.pointer (some ⟨I.kb, 0, none⟩), .int .i64 d, .slice a1 b.length cx] w (RKNum w B I.kb (K.write d b)) := by
  have HF := hide (rfind_any B ρ I K d w h)
  have HX := hide fun E => RKNum.refused h 0 E
  rcases hh with hx | ⟨x, hx, hh⟩
  · rw [hx] at HF
    rw [show K.write d b = (0, 64, K) by unfold KS.write; rw [hx]]
    clear h
    go_enter Tryz.func62, Tryz.ntmps62
    go_wp2_with fail
    refine HF.out.mono ?_
    rintro e w1 ⟨rfl, rfl⟩
    go_wp2
    go_ret2
    exact HX.out 64
  · rw [hx] at HF
    have hm := (KS.find_some hx).1
    have c3 := (h.de hm).f
    have hR : K.write d b = if fbit x.flags 2 = 0 then (0, 65, K) else if 1048576 < b.length then (0, 5, K) else if b.length = 0 then (0, 0, K) else K.write d b := by
      by_cases k1 : fbit x.flags 2 = 0
      · rw [if_pos k1]; unfold KS.write; rw [hx]; simp only; rw [if_pos k1]
      · rw [if_neg k1]
        by_cases k2 : 1048576 < b.length
        · rw [if_pos k2]; unfold KS.write; rw [hx]; simp only; rw [if_neg k1, if_pos k2]
        · rw [if_neg k2]
          by_cases k3 : b.length = 0
          · rw [if_pos k3]; unfold KS.write; rw [hx]; simp only; rw [if_neg k1, if_neg k2, if_pos k3]
          · rw [if_neg k3]
    obtain ⟨v, hv⟩ : ∃ v, bits .and .i64 x.flags 2 = v := ⟨_, rfl⟩
    rw [show fbit x.flags 2 = v from hv] at hR hh
    by_cases k0 : v = 0
    · subst k0
      rw [if_pos rfl] at hR
      rw [hR]
      clear h hR hh
      go_enter Tryz.func62, Tryz.ntmps62
      go_wp2_with fail
      refine HF.out.mono ?_
      rintro e w1 ⟨rfl, rfl⟩
      simp only [Option.map_some]
      go_wp2
      go_ret2
      exact HX.out 65
    · have m0 : (v == 0) = false := by simpa using k0
      rw [if_neg k0] at hR
      by_cases k1 : 1048576 < b.length
      · rw [if_pos k1] at hR
        rw [hR]
        have k2 : (1048576 : Int) < (b.length : Int) := by omega
        clear h hR hh
        go_enter Tryz.func62, Tryz.ntmps62
        go_wp2_with fail
        refine HF.out.mono ?_
        rintro e w1 ⟨rfl, rfl⟩
        simp only [Option.map_some]
        go_wp2
        go_ret2
        exact HX.out 5
      · rw [if_neg k1] at hR
        have k3 : b.length = 0 := by rcases hh with e | e | e; exact absurd e k0; exact absurd e k1; exact e
        rw [if_pos k3] at hR
        rw [hR]
        rw [k3]
        clear h hR hh k1
        go_enter Tryz.func62, Tryz.ntmps62
        go_wp2_with fail
        refine HF.out.mono ?_
        rintro e w1 ⟨rfl, rfl⟩
        simp only [Option.map_some]
        go_wp2
        go_ret2
        exact HX.out 0
theorem RK.wup {w : World} {B : Nat → Prop} {ρ : Nat → Option Tag} {I : RI} {K : KS} (h : RK w B ρ I K) (n : Int) (h1 : 1 ≤ n) (h2 : n ≤ 1048576) :
    w.cell? ⟨I.kb, 5, none⟩ = some (.int .i64 K.writes) ∧ w.frozen? ⟨I.kb, 5, none⟩ = false ∧ (w.setCell ⟨I.kb, 5, none⟩ (.int .i64 ((K.writes : Int) + 1))).cell? ⟨I.kb, 3, none⟩ = some (.pointer (some ⟨I.pb, 0, none⟩)) ∧
    Hid (Calls Tryz.prog 154 #[.pointer (some ⟨I.pb, 0, none⟩), .int .i64 n] (w.setCell ⟨I.kb, 5, none⟩ (.int .i64 ((K.writes : Int) + 1))) fun e w' => e = .returned (.tuple #[.int .i64 (nxt K.plan n).1, .int .i64 (nxt K.plan n).2]) ∧ ∃ v', RK w' B ρ { I with pv := v' } K.writeUp ∧ Turned B w w') := by
  have hb := (h.comp .kern).1
  obtain ⟨hU, hTU⟩ := h.setKern (K' := { K with writes := K.writes + 1 }) rfl rfl rfl rfl (Nat.le_refl _) 5 (.int .i64 ((K.writes + 1 : Nat) : Int)) (by simp)
  have hb1 := (hU.comp .kern).1
  have hN := rknext_any B ρ I _ n _ hU h1 h2
  have hrv : ((K.writes + 1 : Nat) : Int) = (K.writes : Int) + 1 := by omega
  rw [hrv] at hb1 hN hTU
  refine ⟨by rw [cell_of_row w I.kb 5 _ _ _ hb]; rfl, frozen_of_row w I.kb 5 _ _ hb, by rw [cell_of_row _ I.kb 3 _ _ _ hb1]; rfl, hide (hN.mono ?_)⟩
  rintro e w' ⟨rfl, v', h3, h4⟩
  exact ⟨rfl, v', h3, hTU.trans h4 (fun _ _ e => e)⟩
end Go.Proofs.YtanbiinomagdbaaGreat

/- The reference's kernel: Write, to a terminal and to a pipe. -/
namespace Go.Proofs.YtanbiinomagdbaaGreat
open Go.RowKit

theorem pipe_ok_w {q b : List UInt8} {rd wt : Nat} {m : Int} (h : (Ob.pipe q rd wt).ok) : (Ob.pipe (q ++ b.take (wrN b.length m q.length rd wt)) rd wt).ok := by
  have h1 := wrN_le b.length m q.length rd wt
  refine ⟨?_, h.2⟩
  have h2 := h1.2 h.1
  rw [List.length_append, List.length_take]
  omega
set_option maxRecDepth 100000 in
set_option maxHeartbeats 2000000 in
theorem rkwrite_pipe (B : Nat → Prop) (ρ : Nat → Option Tag) (I : RI) (K : KS) (d : Int) (b : List UInt8) (a1 : Option Addr) (cx : Nat) (w : World) (h : RK w B ρ I K) (hr : K.writes < 9223372036854775807) (hb : Bys w (.slice a1 b.length cx) b) (hcap : b.length ≤ cx) (hap : ∀ k, (Value.slice a1 b.length cx).ownBlock = some k → ¬ B k)
    {x : De} (hx : K.find d = some x) (h1 : fbit x.flags 2 ≠ 0) (h2 : ¬ 1048576 < b.length) (h3 : ¬ b.length = 0) {q : List UInt8} {rd wt : Nat} (ho : K.tho x = .pipe q rd wt) :
    Calls Tryz.prog 62 #[.pointer (some ⟨I.kb, 0, none⟩), .int .i64 d, .slice a1 b.length cx] w (RKNum w B I.kb (K.write d b)) := by
  have HF := hide (rfind_any B ρ I K d w h)
  have HX := hide fun E => RKNum.refused h 0 E
  have HW := hide (And.intro hx (And.intro h1 (And.intro h2 h3)))
  rw [hx] at HF
  have hm := (KS.find_some hx).1
  have hd := h.de hm
  have c1 := hd.t
  have c2 := hd.kind
  have c3 := hd.f
  have hlt := hd.lt
  rw [ho] at c2
  simp only [Ob.kind] at c2
  have c4 := (h.ptr hm).2.2 q rd wt ho
  have hO := h.robj hm
  rw [ho] at hO
  obtain ⟨pa, pc, Bp, hP, -⟩ := hO.1
  have c5 := hP.c1
  have HO := hide hO
  have HB := hide hb
  have HK := hide h
  have m2 : ¬ (1048576 : Int) < (b.length : Int) := by omega
  have m3 : ¬ (b.length : Int) = 0 := by omega
  have m4 : ((b.length : Int) == 0) = false := by rw [beq_eq_false_iff_ne]; exact m3
  obtain ⟨v, hv⟩ : ∃ v, bits .and .i64 x.flags 2 = v := ⟨_, rfl⟩
  have k0 : ¬ v = 0 := by rw [← hv]; exact h1
  have m0 : (v == 0) = false := by simpa using k0
  by_cases hrd : rd = 0
  · subst hrd
    have hW := rkw_refused (b := b) hx h1 h2 h3 (by rw [ho]; simp [refusal])
    rw [ho, show refusal (.pipe q 0 wt) x.flags x.pos b.length = 53 from rfl] at hW
    rw [hW]
    have c6 : w.cell? ⟨I.ob x.th, 1, none⟩ = some (.int .i64 0) := c5
    clear c5
    clear h hd hP hb hO hW
    go_enter Tryz.func62, Tryz.ntmps62
    go_wp2_with fail
    refine HF.out.mono ?_
    rintro e w1 ⟨rfl, rfl⟩
    simp only [Option.map_some]
    go_wp2
    go_ret2
    exact HX.out 53
  have mr : ¬ (rd : Int) = 0 := by omega
  have mr2 : ((rd : Int) == 0) = false := by rw [beq_eq_false_iff_ne]; exact mr
  have HC := hide (ob_pcanWrite _ _ q rd wt (b.length : Int) w hO.1)
  by_cases hcw : canW (b.length : Int) q.length rd wt = false
  · have hrf : refusal (.pipe q rd wt) x.flags x.pos b.length = 52 := by show (if rd = 0 then (53 : Int) else if canW (b.length : Int) q.length rd wt = false then 52 else 0) = 52; rw [if_neg hrd, if_pos hcw]
    have hW := rkw_refused (b := b) hx h1 h2 h3 (by rw [ho, hrf]; decide)
    rw [ho, hrf] at hW
    rw [hW]
    rw [hcw] at HC
    clear h hd hP hb hO hW hrf
    go_enter Tryz.func62, Tryz.ntmps62
    go_wp2_with fail
    refine HF.out.mono ?_
    rintro e w1 ⟨rfl, rfl⟩
    simp only [Option.map_some]
    go_wp2_with fail
    refine HC.out.mono ?_
    rintro e w1 ⟨rfl, rfl⟩
    go_wp2
    go_ret2
    exact HX.out 52
  have hct : canW (b.length : Int) q.length rd wt = true := by simpa using hcw
  rw [hct] at HC
  have hrf : refusal (.pipe q rd wt) x.flags x.pos b.length = 0 := by show (if rd = 0 then (53 : Int) else if canW (b.length : Int) q.length rd wt = false then 52 else 0) = 0; rw [if_neg hrd, if_neg hcw]
  obtain ⟨q5, q5s, q3, HN⟩ := h.wup (b.length : Int) (by omega) (by omega)
  by_cases hE : (nxt K.plan (b.length : Int)).2 = 0
  · have hW : K.write d b = (((wrN b.length (nxt K.plan b.length).1 q.length rd wt : Nat) : Int), Kp_wrE b.length (nxt K.plan b.length).1 q.length rd wt, K.writeUp.setOb x.th (.pipe (q ++ b.take (wrN b.length (nxt K.plan b.length).1 q.length rd wt)) rd wt)) := by
      unfold KS.write
      rw [hx]
      simp only
      rw [if_neg h1, if_neg h2, if_neg h3, if_pos (by rw [ho]; exact hrf), if_pos hE, ho]
    rw [hW]
    rw [hE] at HN
    generalize (nxt K.plan (b.length : Int)).1 = m at *
    clear h hd hP hb hO hW hrf hcw hE
    go_enter Tryz.func62, Tryz.ntmps62
    go_wp2_with fail
    refine HF.out.mono ?_
    rintro e w1 ⟨rfl, rfl⟩
    simp only [Option.map_some]
    go_wp2_with fail
    refine HC.out.mono ?_
    rintro e w1 ⟨rfl, rfl⟩
    go_wp2_with fail
    refine HN.out.mono ?_
    rintro e w2 ⟨rfl, v', hK2, hT2⟩
    have HT2 := hide hT2
    have HK2 := hide hK2
    clear c1 c2 c3 c4 c5 q5 q5s q3
    have hd2 := hK2.de (x := x) hm
    have c1 := hd2.t
    have c2 : w2.cell? ⟨I.tb x.th, 1, none⟩ = some (.int .i64 3) := by have := hd2.kind; rw [show K.writeUp.tho x = .pipe q rd wt from ho] at this; exact this
    have c4 := (hK2.ptr (x := x) hm).2.2 q rd wt ho
    have hO2 := hK2.robj (x := x) hm
    rw [show K.writeUp.tho x = .pipe q rd wt from ho] at hO2
    have HO2 := hide hO2
    have HB2 := hide (HB.out.turned HT2.out (fun k hk _ e => by exact hap k hk e))
    clear hd2 hO2 hK2 hT2
    go_wp2_with fail
    refine (ob_pwrite _ _ q b rd wt m a1 b.length cx _ HO2.out.1 HB2.out hcap (by omega)).mono ?_
    rintro e w3 ⟨rfl, hs3⟩
    obtain ⟨ρ', hK3, -, hT3⟩ := HK2.out.setOb (i := x.th) hlt hs3 (by show _ = K.th[x.th].ob.kind; rw [show K.th[x.th].ob = .pipe q rd wt by rw [← KS.tho_eq hlt]; exact ho]; rfl) (pipe_ok_w HO2.out.2)
    have HK3 := hide hK3
    have HT3 := hide (HT2.out.trans hT3 (fun _ _ e => e))
    clear hK3 hT3 hs3
    go_wp2
    go_ret2
    exact ⟨ρ', _, rfl, HK3.out, rfl, HT3.out⟩
  · rw [rkw_fault hx h1 h2 h3 (by rw [ho]; exact hrf) hE]
    have hE1 : ((nxt K.plan (b.length : Int)).2 != 0) = true := by simpa using hE
    generalize nxt K.plan (b.length : Int) = mE at *
    obtain ⟨m, E⟩ := mE
    simp only at HN hE hE1 ⊢
    clear h hd hP hb hO hrf hcw
    go_enter Tryz.func62, Tryz.ntmps62
    go_wp2_with fail
    refine HF.out.mono ?_
    rintro e w1 ⟨rfl, rfl⟩
    simp only [Option.map_some]
    go_wp2_with fail
    refine HC.out.mono ?_
    rintro e w1 ⟨rfl, rfl⟩
    go_wp2_with fail
    refine HN.out.mono ?_
    rintro e w2 ⟨rfl, v', hK2, hT2⟩
    have HT2 := hide hT2
    have HK2 := hide hK2
    clear hK2 hT2 c1 c2 c3 c4 c5 q5 q5s q3
    go_wp2
    go_ret2
    exact ⟨ρ, _, rfl, HK2.out, rfl, HT2.out⟩
end Go.Proofs.YtanbiinomagdbaaGreat

/- What the proof stands on, part 4: the contracts of the program's calls that it reaches. -/
import Derived.Test.YtdmkjbdlidadiaaGreatKO3
import Derived.Lib.MinMax
import Derived.Maps.OwnSet
import Derived.Sort.KeysCollected
/- The reference's things: files, terminals and pipes in one notion, each within a set of blocks of its own. -/
namespace Go.Proofs.YtdmkjbdlidadiaaGreat
open Go.RowKit

def RObj (W : World) (O : Nat → Prop) (p : Nat) : Ob → Prop
  | .file b => ∃ u B, RFileAt W B p u b ∧ B ≤ W.heap.size ∧ O p ∧ ∀ k, u.ownBlock = some k → O k
  | .term ls scr => ∃ la lc s B O1, Term W B p 0 O1 la lc s ls scr ∧ ∀ k, O1 k → O k
  | .pipe q rd wt => ∃ a c B, RP W B p a c q rd wt ∧ B ≤ W.heap.size ∧ O p ∧ ∀ k, (Value.slice a q.length c).ownBlock = some k → O k
theorem RObj.at {W : World} {O : Nat → Prop} {p : Nat} {ob : Ob} (h : RObj W O p ob) : O p ∧ p < W.heap.size := by
  cases ob with
  | file b => obtain ⟨u, B, h1, _, h2, _⟩ := h; exact ⟨h2, h1.lt⟩
  | term ls scr => obtain ⟨la, lc, s, B, O1, h1, h2⟩ := h; exact ⟨h2 _ h1.ot, (h1.lt _ h1.ot).2⟩
  | pipe q rd wt => obtain ⟨a, c, B, h1, _, h2, _⟩ := h; exact ⟨h2, h1.lt⟩
theorem RObj.mono {W : World} {O O' : Nat → Prop} {p : Nat} {ob : Ob} (h : RObj W O p ob) (hO : ∀ k, O k → O' k) : RObj W O' p ob := by
  cases ob with
  | file b => obtain ⟨u, B, h1, h2, h3, h4⟩ := h; exact ⟨u, B, h1, h2, hO _ h3, fun k e => hO _ (h4 k e)⟩
  | term ls scr => obtain ⟨la, lc, s, B, O1, h1, h2⟩ := h; exact ⟨la, lc, s, B, O1, h1, fun k e => hO _ (h2 k e)⟩
  | pipe q rd wt => obtain ⟨a, c, B, h1, h2, h3, h4⟩ := h; exact ⟨a, c, B, h1, h2, hO _ h3, fun k e => hO _ (h4 k e)⟩
theorem RObj.keep {W W' : World} {O : Nat → Prop} {p : Nat} {ob : Ob} (h : RObj W O p ob) (hk : ∀ k, O k → k < W.heap.size → W'.heap[k]? = W.heap[k]?) (hs : W.heap.size ≤ W'.heap.size) : RObj W' O p ob := by
  cases ob with
  | file b =>
    obtain ⟨u, B, h1, h2, h3, h4⟩ := h
    have hp := hk p h3 h1.lt
    exact ⟨u, B, ⟨(World.cell?_of_block (w := W) hp).trans h1.data, (World.frozen?_of_block (w := W) hp).trans h1.soft, owns_keep h1.row fun k e => hk k (h4 k e) (h1.row.lt k e).2, h1.apart⟩, Nat.le_trans h2 hs, h3, h4⟩
  | term ls scr =>
    obtain ⟨la, lc, s, B, O1, h1, h2⟩ := h
    exact ⟨la, lc, s, B, O1, h1.keep (fun k e => hk k (h2 k e) (h1.lt k e).2) hs, h2⟩
  | pipe q rd wt =>
    obtain ⟨a, c, B, h1, h2, h3, h4⟩ := h
    refine ⟨a, c, B, ⟨(hk p h3 h1.lt).trans h1.blk, h1.bys.keep fun k e hlt => hk k (h4 k e) hlt, h1.cap, h1.lq, h1.lr, h1.lw, ?_⟩, Nat.le_trans h2 hs, h3, h4⟩
    rcases h1.ad with h5 | ⟨b, off, h5, h6, h7, h8⟩
    · exact .inl h5
    · exact .inr ⟨b, off, h5, h6, h7, Nat.lt_of_lt_of_le h8 hs⟩
def ObjStep (w : World) (O : Nat → Prop) (p : Nat) (ob' : Ob) (w' : World) : Prop := ∃ O', RObj w' O' p ob' ∧ (∀ k, O' k → O k ∨ w.heap.size ≤ k) ∧ Turned O w w'
theorem ObjStep.same {w : World} {O : Nat → Prop} {p : Nat} {ob : Ob} (h : RObj w O p ob) : ObjStep w O p ob w := ⟨O, h, fun _ e => .inl e, Turned.refl _ _⟩

theorem ob_pleave (O : Nat → Prop) (p : Nat) (q : List UInt8) (rd wt : Nat) (x : Bool) (w : World) (h : RObj w O p (.pipe q rd wt)) :
    Calls Tryz.prog 176 #[.pointer (some ⟨p, 0, none⟩), .bool x] w fun e w' => e = .returned (.int .i64 (leaveE x rd wt)) ∧ ObjStep w O p (.pipe q (leaveR x rd wt) (leaveW x rd wt)) w' := by
  obtain ⟨a, c, B, h1, h2, h3, h4⟩ := h
  refine (rleave_any x B p a c q rd wt w h1).mono ?_
  rintro e w' ⟨rfl, h6, h7⟩
  exact ⟨rfl, O, ⟨a, c, B, h6, Nat.le_trans h2 h7.size, h3, h4⟩, fun _ e => .inl e, h7.mono fun k e => by rw [e]; exact h3⟩
end Go.Proofs.YtdmkjbdlidadiaaGreat

/- CopyNamed, SameNamed. -/
namespace Go.Proofs.YtdmkjbdlidadiaaGreat
open Go.RowKit

end Go.Proofs.YtdmkjbdlidadiaaGreat

/- CopyTyped. -/
namespace Go.Proofs.YtdmkjbdlidadiaaGreat
open Go.RowKit

end Go.Proofs.YtdmkjbdlidadiaaGreat

/- The reference's kernel: Named, has, flagged, Move. -/
namespace Go.Proofs.YtdmkjbdlidadiaaGreat
open Go.RowKit

theorem move_any (base off most : Int) (w : World) (h1 : 0 ≤ base) (h2 : base ≤ 1048576) (h3 : 0 ≤ most) (h4 : most ≤ 1048576) :
    Calls Tryz.prog 138 #[.int .i64 base, .int .i64 off, .int .i64 most] w fun e w' => e = .returned (if 0 ≤ base + off ∧ base + off ≤ most then .tuple #[.int .i64 (base + off), .bool true] else .tuple #[.int .i64 0, .bool false]) ∧ w' = w := by
  rcases (show off < -base ∨ (¬ off < -base ∧ most - base < off) ∨ (¬ off < -base ∧ ¬ most - base < off) by omega) with e1 | ⟨e1, e2⟩ | ⟨e1, e2⟩
  · rw [if_neg (by omega)]
    go_enter Tryz.func138, Tryz.ntmps138
    go_wp2
    go_ret2
    exact ⟨rfl, rfl⟩
  · rw [if_neg (by omega)]
    go_enter Tryz.func138, Tryz.ntmps138
    go_wp2
    go_ret2
    exact ⟨rfl, rfl⟩
  · rw [if_pos (by omega)]
    have e3 : -9223372036854775808 ≤ base + off ∧ base + off ≤ 9223372036854775807 := by omega
    go_enter Tryz.func138, Tryz.ntmps138
    go_wp2
    go_ret2
    exact ⟨rfl, rfl⟩
end Go.Proofs.YtdmkjbdlidadiaaGreat

/- The reference's plan: Next. -/
namespace Go.Proofs.YtdmkjbdlidadiaaGreat
open Go.RowKit

end Go.Proofs.YtdmkjbdlidadiaaGreat

/- The reference's kernel: has, Check. -/
namespace Go.Proofs.YtdmkjbdlidadiaaGreat
open Go.RowKit

end Go.Proofs.YtdmkjbdlidadiaaGreat

/- A kernel by the page: what it is, as a value; what lies in memory for the reference's kernel. -/
namespace Go.Proofs.YtdmkjbdlidadiaaGreat
open Go.RowKit

inductive Tag where
  | kern
  | trow
  | drow
  | plan
  | thing (i : Nat)
  | obj (i : Nat)
  | desc (n : Nat)
structure RI where
  kb : Nat
  vT : Value
  vD : Value
  pb : Nat
  pv : Value
  tb : Nat → Nat
  ob : Nat → Nat
  db : Nat → Nat
def tcells (t : Th) (o : Nat) : List Value :=
  match t.ob with
  | .file _ => [.string t.name, .int .i64 1, .pointer (some ⟨o, 0, none⟩), .pointer none, .pointer none]
  | .term _ _ => [.string t.name, .int .i64 2, .pointer none, .pointer (some ⟨o, 0, none⟩), .pointer none]
  | .pipe _ _ _ => [.string t.name, .int .i64 3, .pointer none, .pointer none, .pointer (some ⟨o, 0, none⟩)]
def RComp (W : World) (_ : Nat → Prop) (ρ : Nat → Option Tag) (I : RI) (K : KS) : Tag → Prop
  | .kern => W.heap[I.kb]? = some (.cells ([I.vT, I.vD, .int .i64 K.next, .pointer (some ⟨I.pb, 0, none⟩), .int .i64 K.reads, .int .i64 K.writes] : List Value).toArray 153 (0, 0)) ∧ ρ I.kb = some .kern
  | .trow => W.ownsRow 0 232 1 I.vT K.nm.length (K.nm.map fun i => .pointer (some ⟨I.tb i, 0, none⟩)) ∧ ∀ k, I.vT.ownBlock = some k → ρ k = some .trow
  | .drow => W.ownsRow 0 262 1 I.vD K.de.length (K.de.map fun d => .pointer (some ⟨I.db d.n, 0, none⟩)) ∧ ∀ k, I.vD.ownBlock = some k → ρ k = some .drow
  | .plan => RPlanAt W I.pb I.pv K.plan ∧ ρ I.pb = some .plan ∧ ∀ k, I.pv.ownBlock = some k → ρ k = some .plan
  | .thing i => ∀ (h : i < K.th.length), W.heap[I.tb i]? = some (.cells (tcells K.th[i] (I.ob i)).toArray 236 (0, 0)) ∧ ρ (I.tb i) = some (.thing i)
  | .obj i => ∀ (h : i < K.th.length), RObj W (fun k => ρ k = some (.obj i)) (I.ob i) K.th[i].ob ∧ K.th[i].ob.ok
  | .desc n => ∀ d ∈ K.de, d.n = n → W.heap[I.db n]? = some (.cells ([.int .i64 n, .pointer (some ⟨I.tb d.th, 0, none⟩), .int .i64 d.flags, .int .i64 d.pos, .int .i64 d.held] : List Value).toArray 265 (0, 0)) ∧ ρ (I.db n) = some (.desc n)
theorem RComp.keep {W W' : World} {B : Nat → Prop} {ρ : Nat → Option Tag} {I : RI} {K : KS} {t : Tag} (h : RComp W B ρ I K t) (hk : ∀ k, ρ k = some t → k < W.heap.size → W'.heap[k]? = W.heap[k]?) (hs : W.heap.size ≤ W'.heap.size) : RComp W' B ρ I K t := by
  have lt : ∀ {k o}, W.heap[k]? = some o → k < W.heap.size := fun e => (Array.getElem?_eq_some_iff.1 e).1
  cases t with
  | kern => exact ⟨(hk _ h.2 (lt h.1)).trans h.1, h.2⟩
  | trow => exact ⟨owns_keep h.1 fun k e => hk k (h.2 k e) (h.1.lt k e).2, h.2⟩
  | drow => exact ⟨owns_keep h.1 fun k e => hk k (h.2 k e) (h.1.lt k e).2, h.2⟩
  | plan => exact ⟨h.1.keep fun k hlt e => by
      rcases e with rfl | e
      · exact hk _ h.2.1 hlt
      · exact hk k (h.2.2 k e) hlt, h.2⟩
  | thing i => exact fun hi => ⟨(hk _ (h hi).2 (lt (h hi).1)).trans (h hi).1, (h hi).2⟩
  | obj i => exact fun hi => ⟨(h hi).1.keep (fun k e hlt => hk k e hlt) hs, (h hi).2⟩
  | desc n => exact fun d hd e => ⟨(hk _ (h d hd e).2 (lt (h d hd e).1)).trans (h d hd e).1, (h d hd e).2⟩
structure RK (W : World) (B : Nat → Prop) (ρ : Nat → Option Tag) (I : RI) (K : KS) : Prop where
  comp : ∀ t, RComp W B ρ I K t
  lt : ∀ k t, ρ k = some t → B k ∧ k < W.heap.size
  ok : KOk K
  up : ∀ k, W.heap.size ≤ k → B k
theorem RK.below {W W' : World} {B : Nat → Prop} {ρ : Nat → Option Tag} {I : RI} {K : KS} (h : RK W B ρ I K) (hB : Below W.heap.size W W') : RK W' B ρ I K :=
  ⟨fun t => (h.comp t).keep (fun k _ hlt => hB.block k hlt) hB.size, fun k t e => ⟨(h.lt k t e).1, Nat.lt_of_lt_of_le (h.lt k t e).2 hB.size⟩, h.ok, fun k e => h.up k (Nat.le_trans hB.size e)⟩
theorem RK.own {W : World} {B : Nat → Prop} {ρ : Nat → Option Tag} {I : RI} {K : KS} (h : RK W B ρ I K) : RK W (fun k => (∃ t, ρ k = some t) ∨ W.heap.size ≤ k) ρ I K :=
  ⟨fun t => by have := h.comp t; cases t <;> exact this, fun k t e => ⟨.inl ⟨t, e⟩, (h.lt k t e).2⟩, h.ok, fun _ e => .inr e⟩

set_option maxRecDepth 100000 in
set_option maxHeartbeats 2000000 in
theorem rfind_any (B : Nat → Prop) (ρ : Nat → Option Tag) (I : RI) (K : KS) (d : Int) (w : World) (h : RK w B ρ I K) :
    Calls Tryz.prog 161 #[.pointer (some ⟨I.kb, 0, none⟩), .int .i64 d] w fun e w' => e = .returned (.pointer ((K.find d).map fun x => ⟨I.db x.n, 0, none⟩)) ∧ w' = w := by
  have hb := (h.comp .kern).1
  have c1 : w.cell? ⟨I.kb, 1, none⟩ = some I.vD := by rw [cell_of_row w I.kb 1 _ _ _ hb]; rfl
  have HD := hide (h.comp .drow).1
  have HC := hide fun n => h.comp (.desc n)
  have hfew := h.ok.few
  obtain ⟨va, vc, hv⟩ := owns_slice (h.comp .drow).1
  rw [hv] at c1 HD
  clear h hb hv
  obtain ⟨R, hR⟩ : ∃ R, R = (K.find d).map fun x => (⟨I.db x.n, 0, none⟩ : Addr) := ⟨_, rfl⟩
  rw [← hR]
  have HR := hide hR
  clear hR
  go_enter Tryz.func161, Tryz.ntmps161
  go_wp2
  go_loop [5] (fun i => ∃ k : Nat, k ≤ K.de.length ∧ i = .int .i64 k ∧ Hid (∀ j (hj : j < K.de.length), j < k → ((K.de[j].n : Nat) : Int) ≠ d)) (fun i => K.de.length - (intOf i).toNat)
  case atStart => exact ⟨0, Nat.zero_le _, rfl, fun _ _ h => by omega⟩
  case round =>
    obtain ⟨k, hk, rfl, HA⟩ := hrel
    by_cases hlt : k < K.de.length
    · obtain ⟨b, rfl⟩ : ∃ b, va = some ⟨b, 0, none⟩ := by
        rcases HD.out.2 with ⟨h0, _⟩ | ⟨g, cap, cur, h1, _⟩
        · simp only [Value.slice.injEq] at h0; omega
        · simp only [Value.slice.injEq] at h1; exact ⟨g, h1.1⟩
      have hcell := HD.out.cellAt k (by simpa using hlt)
      rw [List.getElem?_map, List.getElem?_eq_getElem hlt] at hcell
      simp only [Option.map_some] at hcell
      have hbk := (HC.out K.de[k].n K.de[k] (List.getElem_mem _) rfl).1
      have hn : w.cell? ⟨I.db K.de[k].n, 0, none⟩ = some (.int .i64 K.de[k].n) := by rw [cell_of_row w _ 0 _ _ _ hbk]; rfl
      have hk1 : (0 : Int) ≤ (k : Int) := by omega
      have hk2 : (k : Int) < (K.de.length : Int) := by omega
      clear hbk
      obtain ⟨x, hx⟩ : ∃ x, x = K.de[k] := ⟨_, rfl⟩
      rw [← hx] at hcell hn
      have HX := hide hx
      clear hx
      by_cases he : ((x.n : Nat) : Int) = d
      · have HF : Hid (R = some ⟨I.db x.n, 0, none⟩) := hide (by
          rw [HR.out, show K.find d = some x by
            unfold KS.find
            rw [List.find?_eq_some_iff_getElem]
            exact ⟨by simpa using he, k, hlt, HX.out.symm, fun j hj => by simpa using HA.out j (by omega) hj⟩]
          rfl)
        have he2 : (((x.n : Nat) : Int) == d) = true := by simpa using he
        go_wp2
        go_ret
        exact ⟨by rw [HF.out]; rfl, rfl⟩
      · have he2 : (((x.n : Nat) : Int) == d) = false := by simpa using he
        go_wp2
        all_goals
          go_round
          case rel =>
            refine ⟨k + 1, by omega, by go_num, fun j hj hjk => ?_⟩
            rcases Nat.lt_or_ge j k with h | h
            · exact HA.out j hj h
            · obtain rfl : j = k := by omega
              rw [← HX.out]
              exact he
          case measure => simp [intOf]; omega
    · have HF : Hid (R = none) := hide (by
        rw [HR.out, show K.find d = none by
          unfold KS.find
          rw [List.find?_eq_none]
          intro x hx
          obtain ⟨j, hj, rfl⟩ := List.getElem_of_mem hx
          simpa using HA.out j hj (by omega)]
        rfl)
      go_wp2
      go_ret
      exact ⟨by rw [HF.out]; rfl, rfl⟩
end Go.Proofs.YtdmkjbdlidadiaaGreat

/- The reference's kernel: what a description that is found leads to; Kind, Held, CanRead, CanWrite, Keep. -/
namespace Go.Proofs.YtdmkjbdlidadiaaGreat
open Go.RowKit

structure DeAt (W : World) (I : RI) (K : KS) (x : De) : Prop where
  t : W.cell? ⟨I.db x.n, 1, none⟩ = some (.pointer (some ⟨I.tb x.th, 0, none⟩))
  f : W.cell? ⟨I.db x.n, 2, none⟩ = some (.int .i64 x.flags)
  p : W.cell? ⟨I.db x.n, 3, none⟩ = some (.int .i64 x.pos)
  h : W.cell? ⟨I.db x.n, 4, none⟩ = some (.int .i64 x.held)
  soft : ∀ j, W.frozen? ⟨I.db x.n, j, none⟩ = false
  lt : x.th < K.th.length
  kind : W.cell? ⟨I.tb x.th, 1, none⟩ = some (.int .i64 (K.tho x).kind)
theorem RK.de {W : World} {B : Nat → Prop} {ρ : Nat → Option Tag} {I : RI} {K : KS} (h : RK W B ρ I K) {x : De} (hx : x ∈ K.de) : DeAt W I K x := by
  have h1 := (h.comp (.desc x.n) x hx rfl).1
  have hl := h.ok.th x hx
  have h2 := (h.comp (.thing x.th) hl).1
  refine ⟨?_, ?_, ?_, ?_, fun j => frozen_of_row W _ j _ _ h1, hl, ?_⟩
  · rw [cell_of_row W _ 1 _ _ _ h1]; rfl
  · rw [cell_of_row W _ 2 _ _ _ h1]; rfl
  · rw [cell_of_row W _ 3 _ _ _ h1]; rfl
  · rw [cell_of_row W _ 4 _ _ _ h1]; rfl
  · rw [cell_of_row W _ 1 _ _ _ h2, KS.tho_eq hl]
    cases h3 : K.th[x.th].ob <;> simp [tcells, h3, Ob.kind]
end Go.Proofs.YtdmkjbdlidadiaaGreat

/- The reference's kernel: CanWrite, Held, Keep. -/
namespace Go.Proofs.YtdmkjbdlidadiaaGreat
open Go.RowKit

theorem RK.setDe {W : World} {B : Nat → Prop} {ρ : Nat → Option Tag} {I : RI} {K : KS} (h : RK W B ρ I K) {x x' : De} (hx : x ∈ K.de) (hn : x'.n = x.n) (ht : x'.th = x.th) (hf : x'.flags = x.flags) (hp : x'.pos ≤ 1048576) (hh : 1 ≤ x'.held ∧ x'.held ≤ 1024) (j : Nat) (v : Value)
    (hl : ([.int .i64 x.n, .pointer (some ⟨I.tb x.th, 0, none⟩), .int .i64 x.flags, .int .i64 x.pos, .int .i64 x.held] : List Value).set j v = [.int .i64 x'.n, .pointer (some ⟨I.tb x'.th, 0, none⟩), .int .i64 x'.flags, .int .i64 x'.pos, .int .i64 x'.held]) :
    RK (W.setCell ⟨I.db x.n, j, none⟩ v) B ρ I (K.setDe x') ∧ Turned (fun k => ρ k = some (.desc x.n)) W (W.setCell ⟨I.db x.n, j, none⟩ v) := by
  obtain ⟨hb, hr⟩ := h.comp (.desc x.n) x hx rfl
  have hs : (W.setCell ⟨I.db x.n, j, none⟩ v).heap.size = W.heap.size := by simp [World.setCell]
  have oth : ∀ k, ρ k ≠ some (.desc x.n) → (W.setCell ⟨I.db x.n, j, none⟩ v).heap[k]? = W.heap[k]? := fun k hk => Below.heap_setCell _ _ _ _ (fun e => hk (by rw [e]; exact hr))
  refine ⟨⟨fun t => ?_, fun k t e => by rw [hs]; exact h.lt k t e, h.ok.setDe hx hn ht hf hp hh, fun k e => h.up k (by rw [hs] at e; exact e)⟩, (Turned.refl _ _).set (.inl hr)⟩
  have kp : ∀ t, t ≠ .desc x.n → RComp (W.setCell ⟨I.db x.n, j, none⟩ v) B ρ I K t := fun t hne => (h.comp t).keep (fun k e _ => oth k (by rw [e]; exact fun e' => hne (Option.some.inj e'))) (Nat.le_of_eq hs.symm)
  cases t with
  | kern => exact kp .kern (by simp)
  | trow => exact kp .trow (by simp)
  | drow =>
    have h1 := kp .drow (by simp)
    refine ⟨?_, h1.2⟩
    have h2 := h1.1
    have e1 : (K.setDe x').de.map (fun d => Value.pointer (some ⟨I.db d.n, 0, none⟩)) = K.de.map fun d => Value.pointer (some ⟨I.db d.n, 0, none⟩) := setDe_ns (fun n => .pointer (some ⟨I.db n, 0, none⟩))
    have e2 : (K.setDe x').de.length = K.de.length := by simp [KS.setDe]
    rw [e1, e2]
    exact h2
  | plan => exact kp .plan (by simp)
  | thing i => exact kp (.thing i) (by simp)
  | obj i => exact kp (.obj i) (by simp)
  | desc n =>
    intro d hd e
    rcases mem_setDe hd with rfl | ⟨h1, h2⟩
    · subst e
      rw [hn]
      refine ⟨?_, hr⟩
      rw [heap_setCell_same j v hb, hl, hn]
    · have hne : n ≠ x.n := by rw [← e, ← hn]; exact h2
      exact kp (.desc n) (by simpa using hne) d h1 e

end Go.Proofs.YtdmkjbdlidadiaaGreat

/- The reference's kernel: what it is when an object of it turns, when a call is counted, when a fault is used up. -/
namespace Go.Proofs.YtdmkjbdlidadiaaGreat
open Go.RowKit

theorem RObj.trim {W : World} {O : Nat → Prop} {p : Nat} {ob : Ob} (h : RObj W O p ob) : RObj W (fun k => O k ∧ k < W.heap.size) p ob := by
  have hp := h.at
  cases ob with
  | file b => obtain ⟨u, B, h1, h2, h3, h4⟩ := h; exact ⟨u, B, h1, h2, hp, fun k e => ⟨h4 k e, (h1.row.lt k e).2⟩⟩
  | term ls scr => obtain ⟨la, lc, s, B, O1, h1, h2⟩ := h; exact ⟨la, lc, s, B, O1, h1, fun k e => ⟨h2 k e, (h1.lt k e).2⟩⟩
  | pipe q rd wt =>
    obtain ⟨a, c, B, h1, h2, h3, h4⟩ := h
    refine ⟨a, c, B, h1, h2, hp, fun k e => ⟨h4 k e, ?_⟩⟩
    rcases h1.ad with ⟨rfl, _⟩ | ⟨b, off, rfl, _, _, h8⟩
    · cases e
    · have : b = k := by simpa [Value.ownBlock] using e
      omega
theorem tcells_ob {t : Th} {ob : Ob} (o : Nat) (h : ob.kind = t.ob.kind) : tcells { t with ob := ob } o = tcells t o := by
  obtain ⟨nm, ob0⟩ := t
  cases ob <;> cases ob0 <;> simp_all [tcells, Ob.kind]
theorem RK.setOb {W W' : World} {B : Nat → Prop} {ρ : Nat → Option Tag} {I : RI} {K : KS} (h : RK W B ρ I K) {i : Nat} (hi : i < K.th.length) {ob' : Ob} (hs : ObjStep W (fun k => ρ k = some (.obj i)) (I.ob i) ob' W') (hk : ob'.kind = K.th[i].ob.kind) (hok : ob'.ok) :
    ∃ ρ', RK W' B ρ' I (K.setOb i ob') ∧ (∀ k, k < W.heap.size → ρ' k = ρ k) ∧ Turned B W W' := by
  obtain ⟨O', h1, h2, h3⟩ := hs
  obtain ⟨ρ', hρ⟩ : ∃ ρ' : Nat → Option Tag, ∀ k, (k < W.heap.size → ρ' k = ρ k) ∧ (¬ k < W.heap.size → (O' k ∧ k < W'.heap.size → ρ' k = some (.obj i)) ∧ (¬ (O' k ∧ k < W'.heap.size) → ρ' k = none)) :=
    ⟨fun k => if k < W.heap.size then ρ k else @ite _ (O' k ∧ k < W'.heap.size) (Classical.propDecidable _) (some (.obj i)) none, fun k => ⟨fun hk => if_pos hk, fun hk => ⟨fun ho => (if_neg hk).trans (@if_pos _ (Classical.propDecidable _) ho _ _ _), fun ho => (if_neg hk).trans (@if_neg _ (Classical.propDecidable _) ho _ _ _)⟩⟩⟩
  have old : ∀ k t, ρ k = some t → ρ' k = some t := fun k t e => by rw [(hρ k).1 (h.lt k t e).2]; exact e
  have keep : ∀ t, t ≠ .obj i → RComp W' B ρ I K t := fun t hne => (h.comp t).keep (fun k e hlt => h3.block k hlt (by rw [e]; exact fun e' => hne (Option.some.inj e'))) h3.size
  refine ⟨ρ', ⟨fun t => ?_, fun k t e => ?_, ?_, fun k e => h.up k (Nat.le_trans h3.size e)⟩, fun k hk => (hρ k).1 hk, h3.mono fun k e => (h.lt k _ e).1⟩
  · cases t with
    | kern => have := keep .kern (by simp); exact ⟨this.1, old _ _ this.2⟩
    | trow => have := keep .trow (by simp); exact ⟨this.1, fun k e => old _ _ (this.2 k e)⟩
    | drow => have := keep .drow (by simp); exact ⟨this.1, fun k e => old _ _ (this.2 k e)⟩
    | plan => have := keep .plan (by simp); exact ⟨this.1, old _ _ this.2.1, fun k e => old _ _ (this.2.2 k e)⟩
    | thing j =>
      intro hj
      have hj' : j < K.th.length := by rw [setOb_len] at hj; exact hj
      have h4 := keep (.thing j) (by simp) hj'
      refine ⟨?_, old _ _ h4.2⟩
      by_cases e : j = i
      · subst e
        rw [setOb_same hj hj', tcells_ob _ hk]
        exact h4.1
      · rw [setOb_other e hj hj']
        exact h4.1
    | obj j =>
      intro hj
      have hj' : j < K.th.length := by rw [setOb_len] at hj; exact hj
      by_cases e : j = i
      · subst e
        rw [setOb_same hj hj']
        refine ⟨h1.trim.mono fun k hk => ?_, hok⟩
        by_cases hlt : k < W.heap.size
        · rcases h2 k hk.1 with h5 | h5
          · exact old _ _ h5
          · omega
        · exact ((hρ k).2 hlt).1 hk
      · rw [setOb_other e hj hj']
        have h4 := keep (.obj j) (by simpa using e) hj'
        exact ⟨h4.1.mono fun k e => old _ _ e, h4.2⟩
    | desc n =>
      intro d hd e
      have h4 := keep (.desc n) (by simp) d hd e
      exact ⟨h4.1, old _ _ h4.2⟩
  · by_cases hlt : k < W.heap.size
    · rw [(hρ k).1 hlt] at e
      exact ⟨(h.lt k t e).1, Nat.lt_of_lt_of_le (h.lt k t e).2 h3.size⟩
    · by_cases ho : O' k ∧ k < W'.heap.size
      · exact ⟨h.up k (by omega), ho.2⟩
      · rw [((hρ k).2 hlt).2 ho] at e
        cases e
  · have hl := setOb_len K i ob'
    exact ⟨h.ok.few, h.ok.named, fun d hd => by rw [hl]; exact h.ok.th d hd, fun j hj => by rw [hl]; exact h.ok.nm j hj, h.ok.num, h.ok.once, h.ok.flags, h.ok.pos, h.ok.held, h.ok.plan⟩

end Go.Proofs.YtdmkjbdlidadiaaGreat

/- The reference's kernel: Read. -/
namespace Go.Proofs.YtdmkjbdlidadiaaGreat
open Go.RowKit

end Go.Proofs.YtdmkjbdlidadiaaGreat

/- The reference's kernel: room, Seek. -/
namespace Go.Proofs.YtdmkjbdlidadiaaGreat
open Go.RowKit

end Go.Proofs.YtdmkjbdlidadiaaGreat

/- A kernel by the page, as a value: writes, drops, opens, pipes, beginnings. No program. -/
namespace Go.Proofs.YtdmkjbdlidadiaaGreat
open Go.RowKit

def bit (f m : Int) : Bool := !(fbit f m == 0)
def KS.lose (K : KS) (n : Nat) : KS := { K with de := K.de.filter fun y => decide (y.n ≠ n) }
def KS.dropE (K : KS) (d : Int) : Int := match K.find d with
  | none => 64
  | some _ => 0
def KS.dropK (K : KS) (d : Int) : KS := match K.find d with
  | none => K
  | some x => if 1 < x.held then K.setDe { x with held := x.held - 1 } else
    match K.tho x with
    | .pipe q rd wt => (K.setOb x.th (.pipe q (leaveR (bit x.flags 2) rd wt) (leaveW (bit x.flags 2) rd wt))).lose x.n
    | _ => K.lose x.n
def KS.newDe (K : KS) (i : Nat) (flags : Int) : KS := { K with de := K.de ++ [⟨K.next, i, flags, 0, 1⟩], next := K.next + 1 }
def KS.obOf (K : KS) (i : Nat) : Ob := (K.th[i]?.map Th.ob).getD (.file [])
def KS.nameOf (K : KS) (i : Nat) : ByteArray := (K.th[i]?.map Th.name).getD ByteArray.empty
def nlt (a b : ByteArray) : Prop := a.data.toList < b.data.toList
instance (a b : ByteArray) : Decidable (nlt a b) := inferInstanceAs (Decidable (a.data.toList < b.data.toList))
def insN (f : Nat → ByteArray) (i : Nat) : List Nat → List Nat
  | [] => [i]
  | j :: r => if nlt (f i) (f j) then i :: j :: r else j :: insN f i r
def KS.addTh (K : KS) (t : Th) : KS := { K with th := K.th ++ [t], nm := insN (fun j => ((K.th ++ [t])[j]?.map Th.name).getD ByteArray.empty) K.th.length K.nm }
def KS.addP (K : KS) (ob : Ob) : KS := { K with th := K.th ++ [⟨ByteArray.empty, ob⟩] }
def KS.cut (K : KS) (i : Nat) (flags : Int) : KS := if bit flags 16 = true then (match K.obOf i with | .file _ => K.setOb i (.file []) | _ => K) else K
def KS.pipe (K : KS) : Int × Int × Int × KS :=
  if 254 < K.de.length then (0, 0, 3, K) else (K.next, (K.next + 1 : Nat), 0, ((K.addP (.pipe [] 1 1)).newDe K.th.length 1).newDe K.th.length 2)
def KS.nought (l : List Fault) : KS := ⟨[], [], [], 1, l, 0, 0⟩
def KS.new (fs : List Nm) (ts : List Tp) (l : List Fault) : KS := ts.foldl (fun K t => K.addTh ⟨t.1, .term t.2 []⟩) (fs.foldl (fun K f => K.addTh ⟨f.1, .file f.2⟩) (KS.nought l))
structure KNm (K : KS) : Prop where
  sorted : K.nm.Pairwise fun i j => nlt (K.nameOf i) (K.nameOf j)
  kind : ∀ i ∈ K.nm, (K.obOf i).kind = 1 ∨ (K.obOf i).kind = 2
  all : ∀ i, i < K.th.length → (K.obOf i).kind ≠ 3 → i ∈ K.nm
  ok : ∀ i ∈ K.nm, nameOk (K.nameOf i) = true

theorem KS.obOf_eq {K : KS} {i : Nat} (h : i < K.th.length) : K.obOf i = K.th[i].ob := by simp [KS.obOf, h]
theorem KS.tho_obOf (K : KS) (x : De) : K.tho x = K.obOf x.th := rfl
theorem KS.nameOf_setOb (K : KS) (i j : Nat) (ob : Ob) : (K.setOb i ob).nameOf j = K.nameOf j := by
  unfold KS.nameOf KS.setOb
  simp only [List.getElem?_modify]
  by_cases h : i = j
  · subst h; cases K.th[i]? <;> simp
  · simp [h]
theorem KS.obOf_setOb_same {K : KS} {i : Nat} (ob : Ob) (h : i < K.th.length) : (K.setOb i ob).obOf i = ob := by simp [KS.obOf, KS.setOb, h]
theorem KS.obOf_setOb_other {K : KS} {i j : Nat} (ob : Ob) (h : j ≠ i) : (K.setOb i ob).obOf j = K.obOf j := by
  unfold KS.obOf KS.setOb
  simp [Ne.symm h]
theorem KS.kind_setOb {K : KS} {i : Nat} {ob : Ob} (h : i < K.th.length) (hk : ob.kind = K.th[i].ob.kind) (j : Nat) : ((K.setOb i ob).obOf j).kind = (K.obOf j).kind := by
  by_cases e : j = i
  · subst e; rw [KS.obOf_setOb_same ob h, hk, KS.obOf_eq h]
  · rw [KS.obOf_setOb_other ob e]
theorem KNm.setOb {K : KS} (h : KNm K) {i : Nat} {ob : Ob} (hi : i < K.th.length) (hk : ob.kind = K.th[i].ob.kind) : KNm (K.setOb i ob) := by
  refine ⟨?_, fun j hj => by rw [KS.kind_setOb hi hk]; exact h.kind j hj, fun j hj e => h.all j (by rw [setOb_len] at hj; exact hj) (by rw [KS.kind_setOb hi hk] at e; exact e), fun j hj => by rw [KS.nameOf_setOb]; exact h.ok j hj⟩
  refine List.Pairwise.imp (fun {a b} hab => ?_) h.sorted
  rw [KS.nameOf_setOb, KS.nameOf_setOb]; exact hab
theorem KNm.same {K K' : KS} (h : KNm K) (ht : K'.th = K.th) (hn : K'.nm = K.nm) : KNm K' := by
  have e1 : K'.nameOf = K.nameOf := by funext i; simp [KS.nameOf, ht]
  have e2 : K'.obOf = K.obOf := by funext i; simp [KS.obOf, ht]
  exact ⟨by rw [hn, e1]; exact h.sorted, by rw [hn, e2]; exact h.kind, by rw [hn, e2, ht]; exact h.all, by rw [hn, e1]; exact h.ok⟩
theorem KOk.setOb {K : KS} (h : KOk K) (i : Nat) (ob : Ob) : KOk (K.setOb i ob) :=
  ⟨h.few, h.named, fun d hd => by rw [setOb_len]; exact h.th d hd, fun j hj => by rw [setOb_len]; exact h.nm j hj, h.num, h.once, h.flags, h.pos, h.held, h.plan⟩
theorem nlt_ne {a b : ByteArray} (h : nlt a b) : a ≠ b := fun e => by subst e; exact List.lt_irrefl _ h
theorem nlt_trans {a b c : ByteArray} (h : nlt a b) (h' : nlt b c) : nlt a c := List.lt_trans h h'
theorem nlt_total {a b : ByteArray} (h : ¬ nlt a b) (hne : a ≠ b) : nlt b a := by
  unfold nlt at *
  by_cases h1 : b.data.toList < a.data.toList
  · exact h1
  · exact absurd (Go.WideShapes.bytes_inj (List.le_antisymm (List.not_lt.1 h1) (List.not_lt.1 h))) hne
theorem mem_insN {f : Nat → ByteArray} {i j : Nat} : ∀ {l : List Nat}, j ∈ insN f i l ↔ j = i ∨ j ∈ l
  | [] => by simp [insN]
  | a :: r => by
    unfold insN
    split
    · simp
    · simp only [List.mem_cons, mem_insN (l := r)]
      constructor
      · rintro (h | h | h) <;> simp [h]
      · rintro (h | h | h) <;> simp [h]
theorem insN_perm (f : Nat → ByteArray) (i : Nat) : ∀ l : List Nat, (insN f i l).Perm (i :: l)
  | [] => List.Perm.refl _
  | a :: r => by
    unfold insN
    split
    · exact List.Perm.refl _
    · exact ((insN_perm f i r).cons a).trans (List.Perm.swap i a r)
theorem insN_sorted {f : Nat → ByteArray} {i : Nat} : ∀ {l : List Nat}, l.Pairwise (fun a b => nlt (f a) (f b)) → (∀ j ∈ l, f j ≠ f i) → (insN f i l).Pairwise fun a b => nlt (f a) (f b)
  | [], _, _ => by simp [insN]
  | a :: r, h, hne => by
    obtain ⟨h1, h2⟩ := List.pairwise_cons.1 h
    unfold insN
    split
    · rename_i hlt
      refine List.pairwise_cons.2 ⟨fun b hb => ?_, h⟩
      rcases List.mem_cons.1 hb with rfl | hb
      · exact hlt
      · exact nlt_trans hlt (h1 b hb)
    · rename_i hlt
      refine List.pairwise_cons.2 ⟨fun b hb => ?_, insN_sorted h2 fun j hj => hne j (by simp [hj])⟩
      rcases mem_insN.1 hb with rfl | hb
      · exact nlt_total hlt (Ne.symm (hne a (by simp)))
      · exact h1 b hb
end Go.Proofs.YtdmkjbdlidadiaaGreat

/- The reference's kernel: Write. -/
namespace Go.Proofs.YtdmkjbdlidadiaaGreat
open Go.RowKit

end Go.Proofs.YtdmkjbdlidadiaaGreat

/- The reference's kernel: Write, to a terminal and to a pipe. -/
namespace Go.Proofs.YtdmkjbdlidadiaaGreat
open Go.RowKit

end Go.Proofs.YtdmkjbdlidadiaaGreat

/- The reference's kernel: Write, to a terminal. -/
namespace Go.Proofs.YtdmkjbdlidadiaaGreat
open Go.RowKit

end Go.Proofs.YtdmkjbdlidadiaaGreat

/- The reference's kernel: Write, to a file. -/
namespace Go.Proofs.YtdmkjbdlidadiaaGreat
open Go.RowKit

end Go.Proofs.YtdmkjbdlidadiaaGreat

/- The reference's kernel: a new description. -/
namespace Go.Proofs.YtdmkjbdlidadiaaGreat
open Go.RowKit

theorem Tryz.infoDp : (Tryz.prog.info? 262).map (fun i => (i.zero, i.size, i.bytes)) = some (some (.pointer none), 1, 8) := by kernel_rfl
theorem run_append_dptr (w : World) (ty : TypeId) (base : Nat) (s : Value) (n : Nat) (xs : List Value) (g c : Nat) (p : Value) (hp : p.oneCell' = true) (hs : w.ownsRow base 262 1 s n xs) (hx : w.cell? ⟨g, 0, none⟩ = some p) (hn : (n + 1) * 8 ≤ 140737488355328) (hb : base ≤ w.heap.size) :
    ∃ s' w', (Builtin.append_ #[150, 150] ty #[s, .slice (some ⟨g, 0, none⟩) 1 c]).run Tryz.prog w = .ok s' w' ∧ Hid (w'.ownsRow base 262 1 s' (n + 1) (xs ++ [p])) ∧ w.grownBy w' s.ownBlock ∧ (s'.ownBlock = s.ownBlock ∨ s'.ownBlock = some w.heap.size) := by
  refine (?_ : ∃ s' w', (Builtin.append_ #[150, 150] ty #[s, .slice (some ⟨g, 0, none⟩) 1 c]).run Tryz.prog w = .ok s' w' ∧ w'.ownsRow base 262 1 s' (n + 1) (xs ++ [p]) ∧ w.grownBy w' s.ownBlock ∧ (s'.ownBlock = s.ownBlock ∨ s'.ownBlock = some w.heap.size))
  obtain ⟨i0, hi, hz0, hz1, hz2⟩ := info_parts Tryz.infoDp
  obtain ⟨v', w', h1, h2, h3, _, h5⟩ := run_append_own_at (P := Tryz.prog) w base 150 ty 262 i0 (.pointer none) 1 8 Tryz.underlying150 hi hz0 hz1 hz2 rfl (by decide) s _ _ hs ⟨g, 0, none⟩ 1 c [p] rfl (fun j v hj => by
    match j, hj with
    | 0, hj =>
      obtain rfl : p = v := by simpa using hj
      have hadd : (⟨g, 0, none⟩ : Addr).add 0 = ⟨g, 0, none⟩ := by unfold Addr.add; split <;> simp_all
      rw [hadd]; exact hx) (by intro v hv; simp at hv; subst hv; exact hp) (by unfold maxLen; omega) (by omega) hb
  exact ⟨v', w', h1, h2, h3, h5⟩
theorem KOk.newDe2 {K : KS} (h : KOk K) {i : Nat} (hi : i < K.th.length) {flags : Int} (hf : flagsOk flags = true) (hd : K.de.length < 256) (hn : 1 ≤ K.next) : KOk (K.newDe i flags) := by
  have el : ∀ d ∈ (K.newDe i flags).de, d ∈ K.de ∨ d = ⟨K.next, i, flags, 0, 1⟩ := fun d hd => by
    rcases List.mem_append.1 hd with e | e
    · exact .inl e
    · exact .inr (by simpa using e)
  refine ⟨?_, h.named, fun d hd => ?_, h.nm, fun d hd => ?_, fun d hd d' hd' e => ?_, fun d hd => ?_, fun d hd => ?_, fun d hd => ?_, h.plan⟩
  · show (K.de ++ [_]).length ≤ 256
    rw [List.length_append]; simp; omega
  · rcases el d hd with e | rfl
    · exact h.th d e
    · exact hi
  · rcases el d hd with e | rfl
    · have := h.num d e; exact ⟨this.1, Nat.lt_succ_of_lt this.2⟩
    · exact ⟨hn, Nat.lt_succ_self _⟩
  · rcases el d hd with e1 | rfl
    · rcases el d' hd' with e2 | rfl
      · exact h.once d e1 d' e2 e
      · have h9 := (h.num d e1).2; have h8 : d.n = K.next := e; omega
    · rcases el d' hd' with e2 | rfl
      · have h9 := (h.num d' e2).2; have h8 : K.next = d'.n := e; omega
      · rfl
  · rcases el d hd with e | rfl
    · exact h.flags d e
    · exact hf
  · rcases el d hd with e | rfl
    · exact h.pos d e
    · exact Nat.zero_le _
  · rcases el d hd with e | rfl
    · exact h.held d e
    · exact ⟨Nat.le_refl _, show (1 : Nat) ≤ 1024 by decide⟩
theorem RK.newDe {W W' : World} {B : Nat → Prop} {ρ : Nat → Option Tag} {I : RI} {K : KS} (h : RK W B ρ I K) {i : Nat} (hi : i < K.th.length) {flags : Int} (hf : flagsOk flags = true) (hd : K.de.length < 256) (hn1 : 1 ≤ K.next) {nb : Nat} {v' : Value}
    (h1 : W'.heap[I.kb]? = some (.cells ([I.vT, v', .int .i64 ((K.next + 1 : Nat) : Int), .pointer (some ⟨I.pb, 0, none⟩), .int .i64 K.reads, .int .i64 K.writes] : List Value).toArray 153 (0, 0)))
    (h2 : W'.ownsRow 0 262 1 v' (K.de.length + 1) (K.de.map (fun d => .pointer (some ⟨I.db d.n, 0, none⟩)) ++ [.pointer (some ⟨nb, 0, none⟩)]))
    (h3 : W'.heap[nb]? = some (.cells ([.int .i64 K.next, .pointer (some ⟨I.tb i, 0, none⟩), .int .i64 flags, .int .i64 0, .int .i64 1] : List Value).toArray 265 (0, 0)))
    (h4 : ∀ k, v'.ownBlock = some k → I.vD.ownBlock = some k ∨ (W.heap.size ≤ k ∧ k ≠ nb)) (h5 : W.heap.size ≤ nb)
    (hk : ∀ k, k < W.heap.size → k ≠ I.kb → I.vD.ownBlock ≠ some k → W'.heap[k]? = W.heap[k]?) (hs : W.heap.size ≤ W'.heap.size) :
    ∃ ρ', RK W' B ρ' { I with vD := v', db := fun n => if n = K.next then nb else I.db n } (K.newDe i flags) := by
  have hnb : nb < W'.heap.size := (Array.getElem?_eq_some_iff.1 h3).1
  obtain ⟨ρ', hρ⟩ : ∃ ρ' : Nat → Option Tag, ∀ k, (k < W.heap.size → ρ' k = ρ k) ∧ (¬ k < W.heap.size → (k = nb → ρ' k = some (.desc K.next)) ∧ (k ≠ nb → (v'.ownBlock = some k → ρ' k = some .drow) ∧ (v'.ownBlock ≠ some k → ρ' k = none))) :=
    ⟨fun k => if k < W.heap.size then ρ k else if k = nb then some (.desc K.next) else if v'.ownBlock = some k then some .drow else none, fun k => ⟨fun hk => if_pos hk, fun hk => ⟨fun e => (if_neg hk).trans (if_pos e), fun e => ⟨fun e' => (if_neg hk).trans ((if_neg e).trans (if_pos e')), fun e' => (if_neg hk).trans ((if_neg e).trans (if_neg e'))⟩⟩⟩⟩
  have old : ∀ k t, ρ k = some t → ρ' k = some t := fun k t e => by rw [(hρ k).1 (h.lt k t e).2]; exact e
  have kr := (h.comp .kern).2
  have dr := (h.comp .drow).2
  have keep : ∀ t, t ≠ .kern → t ≠ .drow → RComp W' B ρ I K t := fun t n1 n2 => (h.comp t).keep (fun k e hlt => hk k hlt (fun e' => by subst e'; rw [kr] at e; exact n1 (Option.some.inj e).symm) (fun e' => by have := dr k e'; rw [e] at this; exact n2 (Option.some.inj this))) hs
  refine ⟨ρ', ⟨fun t => ?_, fun k t e => ?_, ?_, fun k e => h.up k (Nat.le_trans hs e)⟩⟩
  · cases t with
    | kern => exact ⟨h1, old _ _ kr⟩
    | trow => have := keep .trow (by simp) (by simp); exact ⟨this.1, fun k e => old _ _ (this.2 k e)⟩
    | drow =>
      refine ⟨?_, fun k e => ?_⟩
      · have e : (K.newDe i flags).de.map (fun d => Value.pointer (some ⟨(if d.n = K.next then nb else I.db d.n), 0, none⟩)) = K.de.map (fun d => Value.pointer (some ⟨I.db d.n, 0, none⟩)) ++ [.pointer (some ⟨nb, 0, none⟩)] := by
          show (K.de ++ [(⟨K.next, i, flags, 0, 1⟩ : De)]).map _ = _
          rw [List.map_append]
          congr 1
          · apply List.map_congr_left
            intro d hd
            have := (h.ok.num d hd).2
            rw [if_neg (by omega)]
          · simp
        show W'.ownsRow 0 _ 1 v' (K.de ++ [(⟨K.next, i, flags, 0, 1⟩ : De)]).length ((K.newDe i flags).de.map _)
        rw [e, List.length_append]
        exact h2
      · rcases h4 k e with h6 | ⟨h6, h7⟩
        · exact old _ _ (dr k h6)
        · exact (((hρ k).2 (by omega)).2 h7).1 e
    | plan => have := keep .plan (by simp) (by simp); exact ⟨this.1, old _ _ this.2.1, fun k e => old _ _ (this.2.2 k e)⟩
    | thing j => intro hj; have := keep (.thing j) (by simp) (by simp) hj; exact ⟨this.1, old _ _ this.2⟩
    | obj j => intro hj; have := keep (.obj j) (by simp) (by simp) hj; exact ⟨this.1.mono fun k e => old _ _ e, this.2⟩
    | desc n =>
      intro d hd' e
      rcases List.mem_append.1 hd' with hm | hm
      · have hlt := (h.ok.num d hm).2
        have := keep (.desc n) (by simp) (by simp) d hm e
        have hne : ¬ n = K.next := by omega
        refine ⟨?_, ?_⟩
        · show W'.heap[if n = K.next then nb else I.db n]? = _
          rw [if_neg hne]; exact this.1
        · show ρ' (if n = K.next then nb else I.db n) = _
          rw [if_neg hne]; exact old _ _ this.2
      · obtain rfl : d = ⟨K.next, i, flags, 0, 1⟩ := by simpa using hm
        obtain rfl : K.next = n := e
        refine ⟨?_, ?_⟩
        · show W'.heap[if K.next = K.next then nb else I.db K.next]? = _
          rw [if_pos rfl]; exact h3
        · show ρ' (if K.next = K.next then nb else I.db K.next) = _
          rw [if_pos rfl]; exact ((hρ nb).2 (by omega)).1 rfl
  · by_cases hlt : k < W.heap.size
    · rw [(hρ k).1 hlt] at e; exact ⟨(h.lt k t e).1, Nat.lt_of_lt_of_le (h.lt k t e).2 hs⟩
    · by_cases hn : k = nb
      · exact ⟨h.up k (by omega), by omega⟩
      · by_cases hv : v'.ownBlock = some k
        · exact ⟨h.up k (by omega), (h2.lt k hv).2⟩
        · rw [(((hρ k).2 hlt).2 hn).2 hv] at e; cases e
  · exact KOk.newDe2 h.ok hi hf hd hn1
end Go.Proofs.YtdmkjbdlidadiaaGreat

/- Spoil turns the block of its slice, and no other. -/
namespace Go.Proofs.YtdmkjbdlidadiaaGreat
open Go.RowKit

set_option maxRecDepth 100000 in
set_option maxHeartbeats 1000000 in
theorem Kp_spoil_turn (base : Nat) (v : Value) (n : Nat) (xs : List Value) (w : World) (h : w.ownsRow base 5 1 v n xs) (hx : ∀ u ∈ xs, ∃ c, u = .int .u8 c) (hs : n ≤ maxLen) :
    Calls Tryz.prog 32 #[v] w fun e w' => e = .returned (.tuple #[]) ∧ Turned (fun k => v.ownBlock = some k) w w' := by
  unfold maxLen at hs
  rcases h.2 with ⟨rfl, h0⟩ | ⟨g, cap, cur, rfl, hbg, -⟩
  · go_enter Tryz.func32, Tryz.ntmps32
    go_wp2
    go_loopw [2] (fun i wr => i = .int .i64 0 ∧ wr = w) (fun _ _ => 0)
    case atStart => exact ⟨rfl, rfl⟩
    case round =>
      obtain ⟨rfl, rfl⟩ := hrel
      go_wp2
      go_end0
      exact ⟨rfl, Turned.refl _ _⟩
  · have HO := hide h
    have HX := hide hx
    have hlen : xs.length = n := by have := h.1; omega
    clear h hx
    go_enter Tryz.func32, Tryz.ntmps32
    go_wp2
    go_loopw [2] (fun i wr => ∃ (k : Nat) (ys : List Value), k ≤ n ∧ i = .int .i64 k ∧ ys.length = n ∧ (∀ u ∈ ys, ∃ c, u = .int .u8 c) ∧ wr.ownsRow base 5 1 (.slice (some ⟨g, 0, none⟩) n cap) n ys ∧ Turned (fun k => (Value.slice (some ⟨g, 0, none⟩) n cap).ownBlock = some k) w wr) (fun i _ => n - (intOf i).toNat)
    case atStart => exact ⟨0, xs, Nat.zero_le _, rfl, hlen, HX.out, HO.out, Turned.refl _ _⟩
    case round =>
      clear HO HX hlen
      obtain ⟨k, ys, hk, rfl, hlen, hys, hown, hT⟩ := hrel
      have HT := hide hT
      clear hT
      by_cases hlt : k < n
      · obtain ⟨c, hc⟩ := hys ys[k] (List.getElem_mem _)
        have hcell := hown.cellAt k (by omega)
        rw [List.getElem?_eq_getElem (by omega), hc] at hcell
        have hfr := hown.frozenAt k
        have HY := hide hys
        have HO := hide hown
        have HL := hide hlen
        clear hys hown hc hlen
        go_wp2
        go_roundw
        case rel =>
          obtain ⟨hst, hgr⟩ := HO.out.stored k (Value.int .u8 (bits .xor .u8 c 85))
          refine ⟨k + 1, _, by omega, by go_num, ?_, ?_, hst, HT.out.set (.inl rfl)⟩
          · rw [List.length_set]; exact HL.out
          · intro u hu
            rcases List.mem_or_eq_of_mem_set hu with h | h
            · exact HY.out u h
            · exact ⟨_, h⟩
        case measure => simp [intOf]; omega
      · go_wp2
        go_end0
        exact ⟨rfl, HT.out⟩
theorem Kp_bv_ints (l : List UInt8) : ∀ u ∈ l.map bv, ∃ c, u = .int .u8 c := by
  intro u hu
  obtain ⟨c, _, rfl⟩ := List.mem_map.1 hu
  exact ⟨_, rfl⟩
end Go.Proofs.YtdmkjbdlidadiaaGreat

/- The program's files, terminals and pipes in one notion, each within a set of blocks of its own. -/
namespace Go.Proofs.YtdmkjbdlidadiaaGreat
open Go.RowKit

def PObj (W : World) (O : Nat → Prop) (p : Nat) : Ob → Prop
  | .file b => b.length ≤ 1048576 ∧ ∃ r cap, FileAt W p r cap b ∧ O p ∧ O r
  | .term ls scr => ∃ B O1, PTerm W B p O1 ls scr ∧ ∀ k, O1 k → O k
  | .pipe q rd wt => PipeAt W p q rd wt ∧ O p
theorem PObj.ok {W : World} {O : Nat → Prop} {p : Nat} {ob : Ob} (h : PObj W O p ob) : ob.ok := by
  cases ob with
  | file b => exact h.1
  | term ls scr => obtain ⟨B, O1, h1, _⟩ := h; exact ⟨h1.few, h1.short, h1.room⟩
  | pipe q rd wt => obtain ⟨⟨R, f, h1, _⟩, _⟩ := h; exact ⟨h1.lc, h1.lr, h1.lw⟩
theorem PObj.at {W : World} {O : Nat → Prop} {p : Nat} {ob : Ob} (h : PObj W O p ob) : O p ∧ p < W.heap.size := by
  cases ob with
  | file b => obtain ⟨_, r, cap, h1, h2, _⟩ := h; exact ⟨h2, h1.lt⟩
  | term ls scr => obtain ⟨B, O1, h1, h2⟩ := h; obtain ⟨la, lc, s, h3⟩ := h1.term; exact ⟨h2 _ h3.ot, (h3.lt _ h3.ot).2⟩
  | pipe q rd wt => exact ⟨h.2, h.1.lt⟩
theorem PObj.mono {W : World} {O O' : Nat → Prop} {p : Nat} {ob : Ob} (h : PObj W O p ob) (hO : ∀ k, O k → O' k) : PObj W O' p ob := by
  cases ob with
  | file b => obtain ⟨h0, r, cap, h1, h2, h3⟩ := h; exact ⟨h0, r, cap, h1, hO _ h2, hO _ h3⟩
  | term ls scr => obtain ⟨B, O1, h1, h2⟩ := h; exact ⟨B, O1, h1, fun k e => hO _ (h2 k e)⟩
  | pipe q rd wt => exact ⟨h.1, hO _ h.2⟩
theorem PObj.keep {W W' : World} {O : Nat → Prop} {p : Nat} {ob : Ob} (h : PObj W O p ob) (hk : ∀ k, O k → k < W.heap.size → W'.heap[k]? = W.heap[k]?) (hs : W.heap.size ≤ W'.heap.size) : PObj W' O p ob := by
  cases ob with
  | file b =>
    obtain ⟨h0, r, cap, h1, h2, h3⟩ := h
    have hp := hk p h2 h1.lt
    exact ⟨h0, r, cap, ⟨(World.cell?_of_block (w := W) hp).trans h1.made, (World.cell?_of_block (w := W) hp).trans h1.data, (World.frozen?_of_block (w := W) hp).trans h1.soft, h1.row.keep (hk r h3 h1.row.lt), h1.apart⟩, h2, h3⟩
  | term ls scr =>
    obtain ⟨B, O1, h1, h2⟩ := h
    obtain ⟨la, lc, s, h3⟩ := h1.term
    have hp := hk p (h2 _ h3.ot) (h3.lt _ h3.ot).2
    exact ⟨B, O1, ⟨(World.cell?_of_block (w := W) hp).trans h1.made, ⟨la, lc, s, h3.keep (fun k e => hk k (h2 k e) (h3.lt k e).2) hs⟩, h1.few, h1.short, h1.room⟩, h2⟩
  | pipe q rd wt => exact ⟨h.1.keep (hk p h.2 h.1.lt), h.2⟩
def PStep (w : World) (O : Nat → Prop) (p : Nat) (ob' : Ob) (w' : World) : Prop := ∃ O', PObj w' O' p ob' ∧ (∀ k, O' k → O k ∨ w.heap.size ≤ k) ∧ Turned O w w'
theorem PStep.same {w : World} {O : Nat → Prop} {p : Nat} {ob : Ob} (h : PObj w O p ob) : PStep w O p ob w := ⟨O, h, fun _ e => .inl e, Turned.refl _ _⟩

theorem po_pjoin (O : Nat → Prop) (p : Nat) (q : List UInt8) (rd wt : Nat) (x : Bool) (w : World) (h : PObj w O p (.pipe q rd wt)) :
    Calls Tryz.prog 218 #[.pointer (some ⟨p, 0, none⟩), .bool x] w fun e w' => e = .returned (.int .i64 (joinE x rd wt)) ∧ PStep w O p (.pipe q (joinR x rd wt) (joinW x rd wt)) w' := by
  refine (join_any x p q rd wt w h.1).mono ?_
  rintro e w' ⟨rfl, h4, h5⟩
  exact ⟨rfl, O, ⟨h4, h.2⟩, fun _ e => .inl e, h5.mono fun k e => by rw [e]; exact h.2⟩
theorem po_new_pipe (w : World) :
    Calls Tryz.prog 217 #[] w fun e w' => ∃ p, e = .returned (.pointer (some ⟨p, 0, none⟩)) ∧ PObj w' (fun k => w.heap.size ≤ k ∧ k < w'.heap.size) p (.pipe [] 0 0) ∧ Below w.heap.size w w' := by
  refine (new_any w).mono ?_
  rintro e w' ⟨rfl, h1, h2⟩
  exact ⟨_, rfl, ⟨h1, Nat.le_refl _, h1.lt⟩, h2⟩
end Go.Proofs.YtdmkjbdlidadiaaGreat

/- Maps whose values are pointers to blocks: what they hold, as a list of keys and blocks in any order. -/
namespace Go.Proofs.YtdmkjbdlidadiaaGreat
open Go.RowKit Go.Maps

def ptrElem : Value → Option (DataW Unit × List MemPlace)
  | .pointer (some ⟨g, 0, none⟩) => some (.lit (.int .i64 g), [])
  | .pointer none => some (.nil, [])
  | _ => none
theorem tight {w : World} {P : Program} {k : TypeId} {R : Value → Option (DataW Unit × List MemPlace)} {b n : Nat} {D : DataW Unit} (h : w.ownsMap P k R b n D) : w.ownsMap P k R b (Maps.size D) D := by
  obtain ⟨es, clock, hb, F, hs, hD⟩ := h
  have e1 : Maps.size D = es.size := by rw [hD]; simp [Maps.size, length_sorted]
  exact ⟨es, clock, hb, F, by rw [e1]; exact Nat.le_refl _, hD⟩
structure PMap (W : World) (P : Program) (k : TypeId) (b : Nat) (l : List (Lit × Nat)) : Prop where
  own : ∃ D : DataW Unit, W.ownsMap P k ptrElem b l.length D ∧ Maps.size D = l.length ∧ (∀ p ∈ l, ∀ z, D.atKey p.1 z = .lit (.int .i64 p.2)) ∧ ∀ kl, Maps.has D kl = true → ∃ p ∈ l, p.1 = kl
  nodup : l.Pairwise (fun p q => p.1 ≠ q.1)
theorem PMap.lt {W : World} {P : Program} {k : TypeId} {b : Nat} {l : List (Lit × Nat)} (h : PMap W P k b l) : b < W.heap.size := by
  obtain ⟨D, h1, _⟩ := h.own; exact h1.lt
theorem PMap.keep {W W' : World} {P : Program} {k : TypeId} {b : Nat} {l : List (Lit × Nat)} (h : PMap W P k b l) (hk : W'.heap[b]? = W.heap[b]?) : PMap W' P k b l := by
  obtain ⟨D, ⟨es, clock, hb, F, hs, hD⟩, h2, h3⟩ := h.own
  exact ⟨⟨D, ⟨es, clock, hk.trans hb, F, hs, hD⟩, h2, h3⟩, h.nodup⟩
theorem PMap.perm {W : World} {P : Program} {k : TypeId} {b : Nat} {l l' : List (Lit × Nat)} (h : PMap W P k b l) (hp : l.Perm l') : PMap W P k b l' := by
  obtain ⟨D, h1, h2, h3, h4⟩ := h.own
  refine ⟨⟨D, by rw [← hp.length_eq]; exact h1, by rw [← hp.length_eq]; exact h2, fun p hm => h3 p (hp.mem_iff.2 hm), fun kl hh => ?_⟩, ?_⟩
  · obtain ⟨p, hm, e⟩ := h4 kl hh
    exact ⟨p, hp.mem_iff.1 hm, e⟩
  · exact hp.pairwise h.nodup (fun {a b} hab => Ne.symm hab)
theorem PMap.made (w : World) (P : Program) (k : TypeId) : PMap (w.alloc (.map #[] 0)) P k w.heap.size [] :=
  ⟨⟨.map [], World.ownsMap_made w P k ptrElem, rfl, fun _ h => by simp at h, fun kl h => by simp [Maps.has] at h⟩, List.Pairwise.nil⟩
theorem PMap.len {W : World} {P : Program} {k t e : TypeId} {b : Nat} {l : List (Lit × Nat)} (h : PMap W P k b l) (ht : P.underlying t = some (.map k e)) (ty : TypeId) : (Builtin.len_ #[t] ty #[.map (some b)]).run P W = .ok (.int .i64 l.length) W := by
  obtain ⟨D, h1, h2, _⟩ := h.own
  rw [h1.len ht ty, h2]
theorem mapTurned_turned {w w' : World} {b : Nat} (h : w.mapTurned w' b) : Turned (fun k => k = b) w w' := (Turned.refl _ w).grown h.grown (fun k e => by cases e; exact .inl rfl)
theorem PMap.store {W : World} {P : Program} {k t e : TypeId} {b : Nat} {l : List (Lit × Nat)} (h : PMap W P k b l) (K : Keyed P k) (ht : P.underlying t = some (.map k e)) (hn : l.length < maxLen)
    {key : Value} {kl : Lit} (g : Nat) (hkey : keyOf P k key = some kl) (hm : ∀ p ∈ l, p.1 ≠ kl) : ∃ w', (Instr.mapUpdate t (.map (some b)) key (.pointer (some ⟨g, 0, none⟩))).run P W = .ok () w' ∧ PMap w' P k b ((kl, g) :: l) ∧ W.mapTurned w' b := by
  obtain ⟨D, h1, h2, h3, h4⟩ := h.own
  have hno : Maps.has D kl = false := by
    rcases hh : Maps.has D kl with _ | _
    · rfl
    · obtain ⟨p, hp, e⟩ := h4 kl hh
      exact absurd e (hm p hp)
  obtain ⟨w', hrun, ho, hT⟩ := h1.store K ht hn hkey (d := .lit (.int .i64 g)) (ps := []) (val := .pointer (some ⟨g, 0, none⟩)) rfl
  refine ⟨w', hrun, ⟨⟨_, ho, ?_, ?_, ?_⟩, List.pairwise_cons.2 ⟨fun p hp e => hm p hp e.symm, h.nodup⟩⟩, hT⟩
  · rw [Maps.size_put (h1.tidy K), hno, h2]; rfl
  · intro p hp z
    rcases List.mem_cons.1 hp with rfl | hp
    · exact Maps.atKey_put_same h1.isMap (K.key hkey) _ _
    · rw [Maps.atKey_put_other (hm p hp)]; exact h3 p hp z
  · intro kl' hh
    by_cases e : kl' = kl
    · exact ⟨(kl, g), by simp, e.symm⟩
    · rw [Maps.has_put_other e] at hh
      obtain ⟨p, hp, e2⟩ := h4 kl' hh
      exact ⟨p, List.mem_cons_of_mem _ hp, e2⟩
theorem PMap.drop {W : World} {P : Program} {k t e : TypeId} {b : Nat} {l : List (Lit × Nat)} {key : Value} {kl : Lit} {g : Nat} (h : PMap W P k b ((kl, g) :: l)) (K : Keyed P k) (ht : P.underlying t = some (.map k e))
    (hkey : keyOf P k key = some kl) (ty : TypeId) : ∃ w', (Builtin.delete_ #[t, k] ty #[.map (some b), key]).run P W = .ok (.tuple #[]) w' ∧ PMap w' P k b l ∧ W.mapTurned w' b := by
  obtain ⟨D, h1, h2, h3, h4⟩ := h.own
  have hyes : Maps.has D kl = true := Maps.has_true_of_atKey (h3 (kl, g) (by simp))
  have hap := List.pairwise_cons.1 h.nodup
  obtain ⟨w', hrun, ho, hT⟩ := h1.drop K ht hkey ty
  have hsz : Maps.size (D.del kl) = l.length := by
    have := Maps.size_del (k := kl) (h1.tidy K)
    rw [hyes, h2] at this
    simpa using this
  refine ⟨w', hrun, ⟨⟨_, by rw [← hsz]; exact tight ho, hsz, ?_, ?_⟩, hap.2⟩, hT⟩
  · intro p hp z
    rw [Maps.atKey_del_other (fun e => hap.1 p hp e.symm)]
    exact h3 p (List.mem_cons_of_mem _ hp) z
  · intro kl' hh
    by_cases e : kl' = kl
    · rw [e, Maps.has_del_same] at hh; cases hh
    · rw [Maps.has_del_other e] at hh
      obtain ⟨p, hp, e2⟩ := h4 kl' hh
      rcases List.mem_cons.1 hp with rfl | hp
      · exact absurd e2.symm e
      · exact ⟨p, hp, e2⟩
end Go.Proofs.YtdmkjbdlidadiaaGreat

/- The program's kernel: what lies in memory for it; isMade, described. -/
namespace Go.Proofs.YtdmkjbdlidadiaaGreat
open Go.RowKit Go.Maps

inductive PTag where
  | kern
  | fmap
  | tmap
  | omap
  | plan
  | obj (i : Nat)
  | cons (i : Nat)
  | desc (n : Nat)
  | ofile (n : Nat)
structure PI where
  kb : Nat
  fm : Nat
  tm : Nat
  om : Nat
  pb : Nat
  pv : Value
  ob : Nat → Nat
  cb : Nat → Nat
  db : Nat → Nat
  xb : Nat → Nat
  last : Nat
def nkey (s : ByteArray) : Lit := .string s.data.toList
def dkey (n : Nat) : Lit := .int .i64 n
def KS.fidx (K : KS) : List Nat := K.nm.filter fun i => (K.obOf i).kind == 1
def KS.tidx (K : KS) : List Nat := K.nm.filter fun i => (K.obOf i).kind == 2
def KS.fl (K : KS) (I : PI) : List (Lit × Nat) := K.fidx.map fun i => (nkey (K.nameOf i), I.ob i)
def KS.tl (K : KS) (I : PI) : List (Lit × Nat) := K.tidx.map fun i => (nkey (K.nameOf i), I.cb i)
def KS.dl (K : KS) (I : PI) : List (Lit × Nat) := K.de.map fun d => (dkey d.n, I.db d.n)
def thingV (I : PI) (K : KS) (d : De) : Value := match K.tho d with
  | .file _ => .iface 274 (.pointer (some ⟨I.xb d.n, 0, none⟩))
  | .term _ _ => .iface 112 (.pointer (some ⟨I.cb d.th, 0, none⟩))
  | .pipe _ _ _ => .iface 282 (.agg #[.pointer (some ⟨I.ob d.th, 0, none⟩)])
def PComp (W : World) (ρ : Nat → Option PTag) (I : PI) (K : KS) : PTag → Prop
  | .kern => W.heap[I.kb]? = some (.cells ([.bool true, .map (some I.fm), .map (some I.tm), .map (some I.om), .int .i64 I.last, .pointer (some ⟨I.pb, 0, none⟩), .int .i64 K.reads, .int .i64 K.writes] : List Value).toArray 102 (0, 0)) ∧ ρ I.kb = some .kern ∧ K.next = I.last + 1
  | .fmap => PMap W Tryz.prog 9 I.fm (K.fl I) ∧ ρ I.fm = some .fmap
  | .tmap => PMap W Tryz.prog 9 I.tm (K.tl I) ∧ ρ I.tm = some .tmap
  | .omap => PMap W Tryz.prog 3 I.om (K.dl I) ∧ ρ I.om = some .omap
  | .plan => PlanAt W I.pb I.pv K.plan ∧ ρ I.pb = some .plan ∧ ∀ k, I.pv.ownBlock = some k → ρ k = some .plan
  | .obj i => ∀ (h : i < K.th.length), PObj W (fun k => ρ k = some (.obj i)) (I.ob i) K.th[i].ob
  | .cons i => ∀ (h : i < K.th.length), ∀ ls scr, K.th[i].ob = .term ls scr → W.heap[I.cb i]? = some (.cells ([.pointer (some ⟨I.ob i, 0, none⟩), .int .i64 scr.length] : List Value).toArray 114 (0, 0)) ∧ ρ (I.cb i) = some (.cons i)
  | .desc n => ∀ d ∈ K.de, d.n = n → W.heap[I.db n]? = some (.cells ([thingV I K d, .bool (bit d.flags 1), .bool (bit d.flags 2), .int .i64 d.held] : List Value).toArray 259 (0, 0)) ∧ ρ (I.db n) = some (.desc n)
  | .ofile n => ∀ d ∈ K.de, d.n = n → ∀ b, K.tho d = .file b → W.heap[I.xb n]? = some (.cells ([.pointer (some ⟨I.ob d.th, 0, none⟩), .int .i64 d.pos, .bool (bit d.flags 4)] : List Value).toArray 278 (0, 0)) ∧ ρ (I.xb n) = some (.ofile n)
theorem PComp.keep {W W' : World} {ρ : Nat → Option PTag} {I : PI} {K : KS} {t : PTag} (h : PComp W ρ I K t) (hk : ∀ k, ρ k = some t → k < W.heap.size → W'.heap[k]? = W.heap[k]?) (hs : W.heap.size ≤ W'.heap.size) : PComp W' ρ I K t := by
  have lt : ∀ {k o}, W.heap[k]? = some o → k < W.heap.size := fun e => (Array.getElem?_eq_some_iff.1 e).1
  cases t with
  | kern => exact ⟨(hk _ h.2.1 (lt h.1)).trans h.1, h.2⟩
  | fmap => exact ⟨h.1.keep (hk _ h.2 h.1.lt), h.2⟩
  | tmap => exact ⟨h.1.keep (hk _ h.2 h.1.lt), h.2⟩
  | omap => exact ⟨h.1.keep (hk _ h.2 h.1.lt), h.2⟩
  | plan => exact ⟨h.1.keep fun k hlt e => by
      rcases e with rfl | e
      · exact hk _ h.2.1 hlt
      · exact hk k (h.2.2 k e) hlt, h.2⟩
  | obj i => exact fun hi => (h hi).keep (fun k e hlt => hk k e hlt) hs
  | cons i => exact fun hi ls scr e => ⟨(hk _ (h hi ls scr e).2 (lt (h hi ls scr e).1)).trans (h hi ls scr e).1, (h hi ls scr e).2⟩
  | desc n => exact fun d hd e => ⟨(hk _ (h d hd e).2 (lt (h d hd e).1)).trans (h d hd e).1, (h d hd e).2⟩
  | ofile n => exact fun d hd e b eb => ⟨(hk _ (h d hd e b eb).2 (lt (h d hd e b eb).1)).trans (h d hd e b eb).1, (h d hd e b eb).2⟩
structure PK (W : World) (ρ : Nat → Option PTag) (I : PI) (K : KS) : Prop where
  comp : ∀ t, PComp W ρ I K t
  lt : ∀ k t, ρ k = some t → k < W.heap.size
  ok : KOk K
  nm : KNm K
theorem PK.keep {W W' : World} {ρ : Nat → Option PTag} {I : PI} {K : KS} (h : PK W ρ I K) (hk : ∀ k t, ρ k = some t → W'.heap[k]? = W.heap[k]?) (hs : W.heap.size ≤ W'.heap.size) : PK W' ρ I K :=
  ⟨fun t => (h.comp t).keep (fun k e _ => hk k t e) hs, fun k t e => Nat.lt_of_lt_of_le (h.lt k t e) hs, h.ok, h.nm⟩
def KAt (W : World) (O : Nat → Prop) (kb : Nat) (K : KS) : Prop := ∃ ρ I, PK W ρ I K ∧ I.kb = kb ∧ ∀ k t, ρ k = some t → O k
theorem KAt.keep {W W' : World} {O : Nat → Prop} {kb : Nat} {K : KS} (h : KAt W O kb K) (hk : ∀ k, O k → k < W.heap.size → W'.heap[k]? = W.heap[k]?) (hs : W.heap.size ≤ W'.heap.size) : KAt W' O kb K := by
  obtain ⟨ρ, I, h1, h2, h3⟩ := h
  exact ⟨ρ, I, h1.keep (fun k t e => hk k (h3 k t e) (h1.lt k t e)) hs, h2, h3⟩
theorem KAt.below {W W' : World} {O : Nat → Prop} {kb : Nat} {K : KS} (h : KAt W O kb K) (hB : Below W.heap.size W W') : KAt W' O kb K := h.keep (fun k _ hlt => hB.block k hlt) hB.size
theorem KAt.mono {W : World} {O O' : Nat → Prop} {kb : Nat} {K : KS} (h : KAt W O kb K) (hO : ∀ k, O k → O' k) : KAt W O' kb K := by
  obtain ⟨ρ, I, h1, h2, h3⟩ := h
  exact ⟨ρ, I, h1, h2, fun k t e => hO k (h3 k t e)⟩
theorem KAt.ok {W : World} {O : Nat → Prop} {kb : Nat} {K : KS} (h : KAt W O kb K) : KOk K ∧ KNm K := by
  obtain ⟨ρ, I, h1, h2, h3⟩ := h
  exact ⟨h1.ok, h1.nm⟩
theorem KAt.lt {W : World} {O : Nat → Prop} {kb : Nat} {K : KS} (h : KAt W O kb K) : O kb ∧ kb < W.heap.size := by
  obtain ⟨ρ, I, h1, rfl, h3⟩ := h
  have := (h1.comp .kern).2.1
  exact ⟨h3 _ _ this, h1.lt _ _ this⟩
def KStep (w : World) (O : Nat → Prop) (kb : Nat) (K' : KS) (w' : World) : Prop := ∃ O', KAt w' O' kb K' ∧ (∀ k, O' k → O k ∨ w.heap.size ≤ k) ∧ Turned O w w'
theorem KStep.same {w : World} {O : Nat → Prop} {kb : Nat} {K : KS} (h : KAt w O kb K) : KStep w O kb K w := ⟨O, h, fun _ e => .inl e, Turned.refl _ _⟩
theorem KStep.below {w w' : World} {O : Nat → Prop} {kb : Nat} {K : KS} (h : KAt w O kb K) (hB : Below w.heap.size w w') : KStep w O kb K w' := ⟨O, h.below hB, fun _ e => .inl e, Turned.of_below hB⟩

theorem string_key (s : ByteArray) (hs : s.size ≤ maxLen) : keyOf Tryz.prog 9 (.string s) = some (nkey s) := by
  have hu := Tryz.underlying9
  simp [keyOf, hu, mapKey, nkey, hs]
theorem int_key (d : Int) (hd : (Lit.int .i64 d).wf = true) : keyOf Tryz.prog 3 (.int .i64 d) = some (.int .i64 d) := keyOf_int_mk Tryz.underlying3 hd
theorem skeyed : Keyed Tryz.prog 9 := string_keyed Tryz.underlying9
theorem ikeyed : Keyed Tryz.prog 3 := int_keyed Tryz.underlying3

structure KCells (W : World) (ρ : Nat → Option PTag) (I : PI) (K : KS) : Prop where
  made : W.cell? ⟨I.kb, 0, none⟩ = some (.bool true)
  files : W.cell? ⟨I.kb, 1, none⟩ = some (.map (some I.fm))
  terms : W.cell? ⟨I.kb, 2, none⟩ = some (.map (some I.tm))
  opens : W.cell? ⟨I.kb, 3, none⟩ = some (.map (some I.om))
  last : W.cell? ⟨I.kb, 4, none⟩ = some (.int .i64 I.last)
  plan : W.cell? ⟨I.kb, 5, none⟩ = some (.pointer (some ⟨I.pb, 0, none⟩))
  reads : W.cell? ⟨I.kb, 6, none⟩ = some (.int .i64 K.reads)
  writes : W.cell? ⟨I.kb, 7, none⟩ = some (.int .i64 K.writes)
theorem PK.cells {W : World} {ρ : Nat → Option PTag} {I : PI} {K : KS} (h : PK W ρ I K) : KCells W ρ I K := by
  have hb := (h.comp .kern).1
  constructor <;> (rw [cell_of_row W I.kb _ _ _ _ hb]; rfl)
set_option maxRecDepth 100000 in
theorem kmade_any (kb : Nat) (w : World) (h : w.cell? ⟨kb, 0, none⟩ = some (.bool true)) :
    Calls Tryz.prog 151 #[.pointer (some ⟨kb, 0, none⟩)] w fun e w' => e = .returned (.bool true) ∧ w' = w := by
  go_enter Tryz.func151, Tryz.ntmps151
  go_wp2
  go_ret
  exact ⟨rfl, rfl⟩
end Go.Proofs.YtdmkjbdlidadiaaGreat

/- The program's kernel: described, Kind. -/
namespace Go.Proofs.YtdmkjbdlidadiaaGreat
open Go.RowKit Go.Maps

structure DCells (W : World) (I : PI) (K : KS) (x : De) : Prop where
  thing : W.cell? ⟨I.db x.n, 0, none⟩ = some (thingV I K x)
  reads : W.cell? ⟨I.db x.n, 1, none⟩ = some (.bool (bit x.flags 1))
  writes : W.cell? ⟨I.db x.n, 2, none⟩ = some (.bool (bit x.flags 2))
  held : W.cell? ⟨I.db x.n, 3, none⟩ = some (.int .i64 x.held)
theorem PK.desc {W : World} {ρ : Nat → Option PTag} {I : PI} {K : KS} (h : PK W ρ I K) {x : De} (hx : x ∈ K.de) : DCells W I K x := by
  have hb := (h.comp (.desc x.n) x hx rfl).1
  constructor <;> (rw [cell_of_row W _ _ _ _ _ hb]; rfl)
end Go.Proofs.YtdmkjbdlidadiaaGreat

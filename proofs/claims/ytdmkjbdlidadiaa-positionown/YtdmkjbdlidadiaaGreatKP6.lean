/- What the proof stands on, part 6: the contracts of the program's calls that it reaches. -/
import Derived.Test.YtdmkjbdlidadiaaGreatKP5
/- The reference's things: files, terminals and pipes in one notion, each within a set of blocks of its own. -/
namespace Go.Proofs.YtdmkjbdlidadiaaGreat
open Go.RowKit

def RObj (W : World) (O : Nat → Prop) (p : Nat) : Ob → Prop
  | .file b => ∃ u B, RFileAt W B p u b ∧ B ≤ W.heap.size ∧ O p ∧ ∀ k, u.ownBlock = some k → O k
  | .term ls scr => ∃ la lc s B O1, Term W B p 0 O1 la lc s ls scr ∧ ∀ k, O1 k → O k
  | .pipe q rd wt => ∃ a c B, RP W B p a c q rd wt ∧ B ≤ W.heap.size ∧ O p ∧ ∀ k, (Value.slice a q.length c).ownBlock = some k → O k
theorem RObj.at {W : World} {O : Nat → Prop} {p : Nat} {ob : Ob} (h : RObj W O p ob) : O p ∧ p < W.heap.size := by
  cases ob with
  | file b => obtain ⟨u, B, h1, _, h2, _⟩ := h; exact ⟨h2, h1.lt⟩
  | term ls scr => obtain ⟨la, lc, s, B, O1, h1, h2⟩ := h; exact ⟨h2 _ h1.ot, (h1.lt _ h1.ot).2⟩
  | pipe q rd wt => obtain ⟨a, c, B, h1, _, h2, _⟩ := h; exact ⟨h2, h1.lt⟩
theorem RObj.mono {W : World} {O O' : Nat → Prop} {p : Nat} {ob : Ob} (h : RObj W O p ob) (hO : ∀ k, O k → O' k) : RObj W O' p ob := by
  cases ob with
  | file b => obtain ⟨u, B, h1, h2, h3, h4⟩ := h; exact ⟨u, B, h1, h2, hO _ h3, fun k e => hO _ (h4 k e)⟩
  | term ls scr => obtain ⟨la, lc, s, B, O1, h1, h2⟩ := h; exact ⟨la, lc, s, B, O1, h1, fun k e => hO _ (h2 k e)⟩
  | pipe q rd wt => obtain ⟨a, c, B, h1, h2, h3, h4⟩ := h; exact ⟨a, c, B, h1, h2, hO _ h3, fun k e => hO _ (h4 k e)⟩
theorem RObj.keep {W W' : World} {O : Nat → Prop} {p : Nat} {ob : Ob} (h : RObj W O p ob) (hk : ∀ k, O k → k < W.heap.size → W'.heap[k]? = W.heap[k]?) (hs : W.heap.size ≤ W'.heap.size) : RObj W' O p ob := by
  cases ob with
  | file b =>
    obtain ⟨u, B, h1, h2, h3, h4⟩ := h
    have hp := hk p h3 h1.lt
    exact ⟨u, B, ⟨(World.cell?_of_block (w := W) hp).trans h1.data, (World.frozen?_of_block (w := W) hp).trans h1.soft, owns_keep h1.row fun k e => hk k (h4 k e) (h1.row.lt k e).2, h1.apart⟩, Nat.le_trans h2 hs, h3, h4⟩
  | term ls scr =>
    obtain ⟨la, lc, s, B, O1, h1, h2⟩ := h
    exact ⟨la, lc, s, B, O1, h1.keep (fun k e => hk k (h2 k e) (h1.lt k e).2) hs, h2⟩
  | pipe q rd wt =>
    obtain ⟨a, c, B, h1, h2, h3, h4⟩ := h
    refine ⟨a, c, B, ⟨(hk p h3 h1.lt).trans h1.blk, h1.bys.keep fun k e hlt => hk k (h4 k e) hlt, h1.cap, h1.lq, h1.lr, h1.lw, ?_⟩, Nat.le_trans h2 hs, h3, h4⟩
    rcases h1.ad with h5 | ⟨b, off, h5, h6, h7, h8⟩
    · exact .inl h5
    · exact .inr ⟨b, off, h5, h6, h7, Nat.lt_of_lt_of_le h8 hs⟩
def ObjStep (w : World) (O : Nat → Prop) (p : Nat) (ob' : Ob) (w' : World) : Prop := ∃ O', RObj w' O' p ob' ∧ (∀ k, O' k → O k ∨ w.heap.size ≤ k) ∧ Turned O w w'
theorem ObjStep.same {w : World} {O : Nat → Prop} {p : Nat} {ob : Ob} (h : RObj w O p ob) : ObjStep w O p ob w := ⟨O, h, fun _ e => .inl e, Turned.refl _ _⟩

theorem ob_fwrite (O : Nat → Prop) (p : Nat) (b x : List UInt8) (off : Int) (vx : Value) (w : World) (h : RObj w O p (.file b)) (hl : b.length ≤ 1048576) (hx : Bys w vx x) (hd : 0 < x.length → ∀ k, vx.ownBlock = some k → ¬ O k) :
    Calls Tryz.prog 171 #[.pointer (some ⟨p, 0, none⟩), .int .i64 off, vx] w fun e w' => e = .returned (.int .i64 (Fi_wrE off x.length)) ∧ ObjStep w O p (.file (wrL b off x)) w' := by
  obtain ⟨u, B, h1, h2, h3, h4⟩ := h
  refine (rwriteAt_any B p u b off vx x w h1 hx (fun h0 k e e' => hd h0 k e (h4 k e')) hl h2).mono ?_
  rintro e w' ⟨rfl, u', h5, h6, h7⟩
  refine ⟨rfl, fun k => O k ∨ u'.ownBlock = some k, ⟨u', B, h5, Nat.le_trans h2 h7.size, .inl h3, fun k e => .inr e⟩, fun k e => ?_, h7.mono fun k e => ?_⟩
  · rcases e with e | e
    · exact .inl e
    · exact (h6 k e).imp (h4 k) id
  · rcases e with rfl | e
    · exact h3
    · exact h4 k e
theorem ob_tread (O : Nat → Prop) (p : Nat) (ls : List (List UInt8)) (scr : List UInt8) (n : Int) (w : World) (h : RObj w O p (.term ls scr)) (hok : (Ob.term ls scr).ok) :
    Calls Tryz.prog 164 #[.pointer (some ⟨p, 0, none⟩), .int .i64 n] w fun e w' => ∃ v, e = .returned (.tuple #[v, .int .i64 (Te_rdE n)]) ∧ Bys w' v (rdH ls n) ∧ ObjStep w O p (.term (rdR ls n) scr) w' := by
  obtain ⟨la, lc, s, B, O1, h1, h2⟩ := h
  refine (Te_rread_any B p O1 la lc s ls scr n w h1 hok.1 hok.2.1).mono ?_
  rintro e w' ⟨v, rfl, h3, ⟨la', lc', h4⟩, h5⟩
  exact ⟨v, rfl, h3, O, ⟨la', lc', s, B, O1, h4, h2⟩, fun _ e => .inl e, h5.mono h2⟩
theorem ob_twrite (O : Nat → Prop) (p : Nat) (ls : List (List UInt8)) (scr x : List UInt8) (vx : Value) (w : World) (h : RObj w O p (.term ls scr)) (hok : (Ob.term ls scr).ok) (hx : Bys w vx x) (hxs : x.length ≤ 140737488351232) :
    Calls Tryz.prog 170 #[.pointer (some ⟨p, 0, none⟩), vx] w fun e w' => e = .returned (.int .i64 (Te_wrE scr.length x.length)) ∧ ObjStep w O p (.term ls (wrS scr x)) w' := by
  obtain ⟨la, lc, s, B, O1, h1, h2⟩ := h
  refine (Te_rwrite_any B p O1 la lc s ls scr vx x w h1 hx hok.2.2 hxs).mono ?_
  rintro e w' ⟨rfl, O2, s', h3, h4, h5⟩
  refine ⟨rfl, fun k => O k ∨ O2 k, ⟨la, lc, s', B, O2, h3, fun k e => .inr e⟩, fun k e => ?_, h5.mono h2⟩
  rcases e with e | e
  · exact .inl e
  · exact (h4 k e).imp (h2 k) id
theorem ob_pread (O : Nat → Prop) (p : Nat) (q : List UInt8) (rd wt : Nat) (n : Int) (w : World) (h : RObj w O p (.pipe q rd wt)) :
    Calls Tryz.prog 165 #[.pointer (some ⟨p, 0, none⟩), .int .i64 n] w fun e w' => ∃ v, e = .returned (.tuple #[v, .int .i64 (Kp_rdE n q.length rd wt)]) ∧ Bys w' v (rdB n q rd wt) ∧ ObjStep w O p (.pipe (rdQ n q rd wt) rd wt) w' := by
  obtain ⟨a, c, B, h1, h2, h3, h4⟩ := h
  refine (Kp_rread_any n B p a c q rd wt w h1).mono ?_
  rintro e w' ⟨v, a', c', rfl, h5, h6, h7, h8⟩
  exact ⟨v, rfl, h5, O, ⟨a', c', B, h6, Nat.le_trans h2 h7.size, h3, fun k e => h4 k (h8 k e)⟩, fun _ e => .inl e, h7.mono fun k e => by rw [e]; exact h3⟩
theorem ob_pwrite (O : Nat → Prop) (p : Nat) (q x : List UInt8) (rd wt : Nat) (most : Int) (a1 : Option Addr) (n cx : Nat) (w : World) (h : RObj w O p (.pipe q rd wt)) (hx : Bys w (.slice a1 n cx) x) (hcx : x.length ≤ cx) (hxs : x.length ≤ 140737488351232) :
    Calls Tryz.prog 169 #[.pointer (some ⟨p, 0, none⟩), .slice a1 n cx, .int .i64 most] w fun e w' => e = .returned (.tuple #[.int .i64 (wrN x.length most q.length rd wt : Nat), .int .i64 (Kp_wrE x.length most q.length rd wt)]) ∧ ObjStep w O p (.pipe (q ++ x.take (wrN x.length most q.length rd wt)) rd wt) w' := by
  obtain ⟨a, c, B, h1, h2, h3, h4⟩ := h
  refine (Kp_rwrite_any most B p a c q x a1 n cx rd wt w h1 h2 hx hcx hxs).mono ?_
  rintro e w' ⟨a', c', rfl, h6, h7, h8⟩
  refine ⟨rfl, fun k => O k ∨ (Value.slice a' (q ++ x.take (wrN x.length most q.length rd wt)).length c').ownBlock = some k, ⟨a', c', B, h6, Nat.le_trans h2 h7.size, .inl h3, fun k e => .inr e⟩, fun k e => ?_, h7.mono fun k e => by rw [e]; exact h3⟩
  rcases e with e | e
  · exact .inl e
  · exact (h8 k e).imp (h4 k) id
theorem ob_pleave (O : Nat → Prop) (p : Nat) (q : List UInt8) (rd wt : Nat) (x : Bool) (w : World) (h : RObj w O p (.pipe q rd wt)) :
    Calls Tryz.prog 176 #[.pointer (some ⟨p, 0, none⟩), .bool x] w fun e w' => e = .returned (.int .i64 (leaveE x rd wt)) ∧ ObjStep w O p (.pipe q (leaveR x rd wt) (leaveW x rd wt)) w' := by
  obtain ⟨a, c, B, h1, h2, h3, h4⟩ := h
  refine (rleave_any x B p a c q rd wt w h1).mono ?_
  rintro e w' ⟨rfl, h6, h7⟩
  exact ⟨rfl, O, ⟨a, c, B, h6, Nat.le_trans h2 h7.size, h3, h4⟩, fun _ e => .inl e, h7.mono fun k e => by rw [e]; exact h3⟩
theorem ob_pcanRead (O : Nat → Prop) (p : Nat) (q : List UInt8) (rd wt : Nat) (w : World) (h : RObj w O p (.pipe q rd wt)) :
    Calls Tryz.prog 162 #[.pointer (some ⟨p, 0, none⟩)] w fun e w' => e = .returned (.bool (canR q.length rd wt)) ∧ w' = w := by
  obtain ⟨a, c, B, h1, h2, h3, h4⟩ := h
  exact rcanRead_any B p a c q rd wt w h1
theorem ob_pcanWrite (O : Nat → Prop) (p : Nat) (q : List UInt8) (rd wt : Nat) (n : Int) (w : World) (h : RObj w O p (.pipe q rd wt)) :
    Calls Tryz.prog 167 #[.pointer (some ⟨p, 0, none⟩), .int .i64 n] w fun e w' => e = .returned (.bool (canW n q.length rd wt)) ∧ w' = w := by
  obtain ⟨a, c, B, h1, h2, h3, h4⟩ := h
  exact rcanWrite_any n B p a c q rd wt w h1
end Go.Proofs.YtdmkjbdlidadiaaGreat

/- CopyNamed, SameNamed. -/
namespace Go.Proofs.YtdmkjbdlidadiaaGreat
open Go.RowKit

end Go.Proofs.YtdmkjbdlidadiaaGreat

/- CopyTyped. -/
namespace Go.Proofs.YtdmkjbdlidadiaaGreat
open Go.RowKit

end Go.Proofs.YtdmkjbdlidadiaaGreat

/- The reference's kernel: Named, has, flagged, Move. -/
namespace Go.Proofs.YtdmkjbdlidadiaaGreat
open Go.RowKit

theorem move_any (base off most : Int) (w : World) (h1 : 0 ≤ base) (h2 : base ≤ 1048576) (h3 : 0 ≤ most) (h4 : most ≤ 1048576) :
    Calls Tryz.prog 138 #[.int .i64 base, .int .i64 off, .int .i64 most] w fun e w' => e = .returned (if 0 ≤ base + off ∧ base + off ≤ most then .tuple #[.int .i64 (base + off), .bool true] else .tuple #[.int .i64 0, .bool false]) ∧ w' = w := by
  rcases (show off < -base ∨ (¬ off < -base ∧ most - base < off) ∨ (¬ off < -base ∧ ¬ most - base < off) by omega) with e1 | ⟨e1, e2⟩ | ⟨e1, e2⟩
  · rw [if_neg (by omega)]
    go_enter Tryz.func138, Tryz.ntmps138
    go_wp2
    go_ret2
    exact ⟨rfl, rfl⟩
  · rw [if_neg (by omega)]
    go_enter Tryz.func138, Tryz.ntmps138
    go_wp2
    go_ret2
    exact ⟨rfl, rfl⟩
  · rw [if_pos (by omega)]
    have e3 : -9223372036854775808 ≤ base + off ∧ base + off ≤ 9223372036854775807 := by omega
    go_enter Tryz.func138, Tryz.ntmps138
    go_wp2
    go_ret2
    exact ⟨rfl, rfl⟩
end Go.Proofs.YtdmkjbdlidadiaaGreat

/- The reference's plan: Next. -/
namespace Go.Proofs.YtdmkjbdlidadiaaGreat
open Go.RowKit

theorem rplan_world {w : World} {g b off cap n : Nat} {f : Fault} {r : List Fault} {o : Obj} {v' : Value} (h : RPlanAt w g (.slice (some ⟨b, off, none⟩) n cap) (f :: r)) (hn : n = r.length + 1) (hcap : n ≤ cap)
    (hv : v' = .slice (some ⟨b, off + 2, none⟩) r.length (cap - 1) ∨ v' = .slice (some ⟨b, off, none⟩) r.length 0 ∧ cap = 1) :
    RPlanAt ((w.setCell ⟨g, 0, none⟩ v').alloc o) g v' r ∧ v'.ownBlock = some b ∧ w.grownBy ((w.setCell ⟨g, 0, none⟩ v').alloc o) (some g) := by
  have hne : g ≠ b := fun e => h.apart (by rw [e]; rfl)
  have hgl : g < w.heap.size := World.block_lt_of_cell? w _ h.left
  have hsz : (w.setCell ⟨g, 0, none⟩ v').heap.size = w.heap.size := by simp [World.setCell]
  have hal : ∀ k, k < w.heap.size → ((w.setCell ⟨g, 0, none⟩ v').alloc o).heap[k]? = (w.setCell ⟨g, 0, none⟩ v').heap[k]? := fun k hk => Below.heap_alloc _ _ _ (by rw [hsz]; exact hk)
  have hoth : ∀ k, k < w.heap.size → k ≠ g → ((w.setCell ⟨g, 0, none⟩ v').alloc o).heap[k]? = w.heap[k]? := fun k hk hkg => (hal k hk).trans (Below.heap_setCell _ _ _ _ hkg)
  have hob : v'.ownBlock = some b := by rcases hv with rfl | ⟨rfl, _⟩ <;> rfl
  refine ⟨⟨?_, ?_, ?_, by rw [hob]; intro e; exact hne (Option.some.inj e).symm⟩, hob, ⟨rfl, rfl, rfl, ?_, ?_⟩⟩
  · exact (World.cell?_of_block (hal g hgl)).trans (World.cell?_setCell_same _ _ _ h.left)
  · exact (World.frozen?_of_block (hal g hgl)).trans ((World.frozen?_setCell _ _ _ _).trans h.soft)
  · rcases h.list with ⟨h0, _⟩ | ⟨a, c, h0, h1⟩ | ⟨b', off', cap', heq, h0, hc', hc⟩
    · cases h0
    · cases h1
    · cases heq
      rcases hv with rfl | ⟨rfl, h1⟩
      · by_cases hr : r.length = 0
        · exact .inr (.inl ⟨_, _, by rw [hr], List.length_eq_zero_iff.1 hr⟩)
        · refine .inr (.inr ⟨b, off + 2, cap - 1, rfl, by omega, by omega, fun j hj => ?_⟩)
          have hj' : j + 1 < (f :: r).length := by simp only [List.length_cons]; omega
          have hbl : b < w.heap.size := World.block_lt_of_cell? w _ (hc (j + 1) hj').1
          have e := hoth b hbl (Ne.symm hne)
          have e1 := (hc (j + 1) hj').1
          have e2 := (hc (j + 1) hj').2
          rw [List.getD_cons_succ] at e1 e2
          rw [show off + (j + 1) * 2 = off + 2 + j * 2 by omega] at e1 e2
          exact ⟨(World.cell?_of_block (w := w) e).trans e1, (World.cell?_of_block (w := w) e).trans e2⟩
      · have hr : r.length = 0 := by omega
        exact .inr (.inl ⟨_, _, by rw [hr], List.length_eq_zero_iff.1 hr⟩)
  · have := size_new (w.setCell ⟨g, 0, none⟩ v') o
    omega
  · intro k hk hkg
    exact hoth k hk fun e => hkg (by rw [e])

set_option maxRecDepth 100000 in
set_option maxHeartbeats 1000000 in
theorem rnext_end (g : Nat) (v : Value) (want : Int) (w : World) (h : RPlanAt w g v []) (hw1 : 1 ≤ want) (hw2 : want ≤ 1048576) :
    Calls Tryz.prog 163 #[.pointer (some ⟨g, 0, none⟩), .int .i64 want] w fun e w' => e = .returned (.tuple #[.int .i64 want, .int .i64 0]) ∧ w' = w := by
  obtain ⟨a, c, rfl, -⟩ := flts_form h.list
  have h2 := h.left
  simp only [List.length_nil] at h2
  clear h
  go_enter Tryz.func163, Tryz.ntmps163
  go_wp2
  go_ret2
  exact ⟨rfl, rfl⟩
set_option maxRecDepth 100000 in
set_option maxHeartbeats 1000000 in
theorem rnext_some (g : Nat) (v : Value) (f : Fault) (r : List Fault) (want : Int) (w : World) (h : RPlanAt w g v (f :: r)) (hw1 : 1 ≤ want) (hw2 : want ≤ 1048576) (hs : r.length < maxLen) :
    Calls Tryz.prog 163 #[.pointer (some ⟨g, 0, none⟩), .int .i64 want] w fun e w' => e = .returned (.tuple #[.int .i64 (nxt (f :: r) want).1, .int .i64 (nxt (f :: r) want).2]) ∧ ∃ v', RPlanAt w' g v' r ∧ v'.ownBlock = v.ownBlock ∧ w.grownBy w' (some g) := by
  unfold maxLen at hs
  have h2 := h.left
  have h3 := h.soft
  rcases h.list with ⟨rfl, h0⟩ | ⟨a, cap, rfl, h0⟩ | ⟨b, off, cap, rfl, h0, hcap, hc⟩
  · cases h0
  · cases h0
  · have e1 := (hc 0 h0).1
    have e2 := (hc 0 h0).2
    simp only [Nat.zero_mul, Nat.add_zero, List.getD_cons_zero] at e1 e2
    obtain ⟨x, y⟩ := f
    simp only at e1 e2
    have hne : g ≠ b := fun e => h.apart (by rw [e]; rfl)
    simp only [List.length_cons] at h2 hcap
    have HC := hide hc
    have HP := hide h
    have hgl := World.block_lt_of_cell? w _ h2
    have h2' : ∀ o, (w.alloc o).cell? ⟨g, 0, none⟩ = some (.slice (some ⟨b, off, none⟩) (r.length + 1) cap) := fun o => (World.cell?_of_block (w := w) (Below.heap_alloc w o g hgl)).trans h2
    have h3' : ∀ o, (w.alloc o).frozen? ⟨g, 0, none⟩ = false := fun o => (World.frozen?_of_block (w := w) (Below.heap_alloc w o g hgl)).trans h3
    have hgn : w.heap.size ≠ g := by simp only at hgl; omega
    clear hc h h0 h3
    go_enter Tryz.func163, Tryz.ntmps163
    go_wp2
    all_goals go_ret2
    all_goals refine ⟨ret2 (congrArg (Value.int .i64) ?_) (congrArg (Value.int .i64) ?_), _, rplan_world HP.out (by simp) (by simp only [List.length_cons]; omega) (by first | exact .inl rfl | exact .inr ⟨rfl, by first | rfl | omega⟩)⟩
    all_goals clear HC HP
    all_goals rw [nxt_in hw1 hw2]
    all_goals simp_all
    all_goals omega
end Go.Proofs.YtdmkjbdlidadiaaGreat

/- The reference's kernel: has, Check. -/
namespace Go.Proofs.YtdmkjbdlidadiaaGreat
open Go.RowKit

end Go.Proofs.YtdmkjbdlidadiaaGreat

/- A kernel by the page: what it is, as a value; what lies in memory for the reference's kernel. -/
namespace Go.Proofs.YtdmkjbdlidadiaaGreat
open Go.RowKit

inductive Tag where
  | kern
  | trow
  | drow
  | plan
  | thing (i : Nat)
  | obj (i : Nat)
  | desc (n : Nat)
structure RI where
  kb : Nat
  vT : Value
  vD : Value
  pb : Nat
  pv : Value
  tb : Nat → Nat
  ob : Nat → Nat
  db : Nat → Nat
def tcells (t : Th) (o : Nat) : List Value :=
  match t.ob with
  | .file _ => [.string t.name, .int .i64 1, .pointer (some ⟨o, 0, none⟩), .pointer none, .pointer none]
  | .term _ _ => [.string t.name, .int .i64 2, .pointer none, .pointer (some ⟨o, 0, none⟩), .pointer none]
  | .pipe _ _ _ => [.string t.name, .int .i64 3, .pointer none, .pointer none, .pointer (some ⟨o, 0, none⟩)]
def RComp (W : World) (_ : Nat → Prop) (ρ : Nat → Option Tag) (I : RI) (K : KS) : Tag → Prop
  | .kern => W.heap[I.kb]? = some (.cells ([I.vT, I.vD, .int .i64 K.next, .pointer (some ⟨I.pb, 0, none⟩), .int .i64 K.reads, .int .i64 K.writes] : List Value).toArray 153 (0, 0)) ∧ ρ I.kb = some .kern
  | .trow => W.ownsRow 0 232 1 I.vT K.nm.length (K.nm.map fun i => .pointer (some ⟨I.tb i, 0, none⟩)) ∧ ∀ k, I.vT.ownBlock = some k → ρ k = some .trow
  | .drow => W.ownsRow 0 262 1 I.vD K.de.length (K.de.map fun d => .pointer (some ⟨I.db d.n, 0, none⟩)) ∧ ∀ k, I.vD.ownBlock = some k → ρ k = some .drow
  | .plan => RPlanAt W I.pb I.pv K.plan ∧ ρ I.pb = some .plan ∧ ∀ k, I.pv.ownBlock = some k → ρ k = some .plan
  | .thing i => ∀ (h : i < K.th.length), W.heap[I.tb i]? = some (.cells (tcells K.th[i] (I.ob i)).toArray 236 (0, 0)) ∧ ρ (I.tb i) = some (.thing i)
  | .obj i => ∀ (h : i < K.th.length), RObj W (fun k => ρ k = some (.obj i)) (I.ob i) K.th[i].ob ∧ K.th[i].ob.ok
  | .desc n => ∀ d ∈ K.de, d.n = n → W.heap[I.db n]? = some (.cells ([.int .i64 n, .pointer (some ⟨I.tb d.th, 0, none⟩), .int .i64 d.flags, .int .i64 d.pos, .int .i64 d.held] : List Value).toArray 265 (0, 0)) ∧ ρ (I.db n) = some (.desc n)
theorem RComp.keep {W W' : World} {B : Nat → Prop} {ρ : Nat → Option Tag} {I : RI} {K : KS} {t : Tag} (h : RComp W B ρ I K t) (hk : ∀ k, ρ k = some t → k < W.heap.size → W'.heap[k]? = W.heap[k]?) (hs : W.heap.size ≤ W'.heap.size) : RComp W' B ρ I K t := by
  have lt : ∀ {k o}, W.heap[k]? = some o → k < W.heap.size := fun e => (Array.getElem?_eq_some_iff.1 e).1
  cases t with
  | kern => exact ⟨(hk _ h.2 (lt h.1)).trans h.1, h.2⟩
  | trow => exact ⟨owns_keep h.1 fun k e => hk k (h.2 k e) (h.1.lt k e).2, h.2⟩
  | drow => exact ⟨owns_keep h.1 fun k e => hk k (h.2 k e) (h.1.lt k e).2, h.2⟩
  | plan => exact ⟨h.1.keep fun k hlt e => by
      rcases e with rfl | e
      · exact hk _ h.2.1 hlt
      · exact hk k (h.2.2 k e) hlt, h.2⟩
  | thing i => exact fun hi => ⟨(hk _ (h hi).2 (lt (h hi).1)).trans (h hi).1, (h hi).2⟩
  | obj i => exact fun hi => ⟨(h hi).1.keep (fun k e hlt => hk k e hlt) hs, (h hi).2⟩
  | desc n => exact fun d hd e => ⟨(hk _ (h d hd e).2 (lt (h d hd e).1)).trans (h d hd e).1, (h d hd e).2⟩
structure RK (W : World) (B : Nat → Prop) (ρ : Nat → Option Tag) (I : RI) (K : KS) : Prop where
  comp : ∀ t, RComp W B ρ I K t
  lt : ∀ k t, ρ k = some t → B k ∧ k < W.heap.size
  ok : KOk K
  up : ∀ k, W.heap.size ≤ k → B k
theorem RK.below {W W' : World} {B : Nat → Prop} {ρ : Nat → Option Tag} {I : RI} {K : KS} (h : RK W B ρ I K) (hB : Below W.heap.size W W') : RK W' B ρ I K :=
  ⟨fun t => (h.comp t).keep (fun k _ hlt => hB.block k hlt) hB.size, fun k t e => ⟨(h.lt k t e).1, Nat.lt_of_lt_of_le (h.lt k t e).2 hB.size⟩, h.ok, fun k e => h.up k (Nat.le_trans hB.size e)⟩
theorem RK.own {W : World} {B : Nat → Prop} {ρ : Nat → Option Tag} {I : RI} {K : KS} (h : RK W B ρ I K) : RK W (fun k => (∃ t, ρ k = some t) ∨ W.heap.size ≤ k) ρ I K :=
  ⟨fun t => by have := h.comp t; cases t <;> exact this, fun k t e => ⟨.inl ⟨t, e⟩, (h.lt k t e).2⟩, h.ok, fun _ e => .inr e⟩

set_option maxRecDepth 100000 in
set_option maxHeartbeats 2000000 in
theorem rfind_any (B : Nat → Prop) (ρ : Nat → Option Tag) (I : RI) (K : KS) (d : Int) (w : World) (h : RK w B ρ I K) :
    Calls Tryz.prog 161 #[.pointer (some ⟨I.kb, 0, none⟩), .int .i64 d] w fun e w' => e = .returned (.pointer ((K.find d).map fun x => ⟨I.db x.n, 0, none⟩)) ∧ w' = w := by
  have hb := (h.comp .kern).1
  have c1 : w.cell? ⟨I.kb, 1, none⟩ = some I.vD := by rw [cell_of_row w I.kb 1 _ _ _ hb]; rfl
  have HD := hide (h.comp .drow).1
  have HC := hide fun n => h.comp (.desc n)
  have hfew := h.ok.few
  obtain ⟨va, vc, hv⟩ := owns_slice (h.comp .drow).1
  rw [hv] at c1 HD
  clear h hb hv
  obtain ⟨R, hR⟩ : ∃ R, R = (K.find d).map fun x => (⟨I.db x.n, 0, none⟩ : Addr) := ⟨_, rfl⟩
  rw [← hR]
  have HR := hide hR
  clear hR
  go_enter Tryz.func161, Tryz.ntmps161
  go_wp2
  go_loop [5] (fun i => ∃ k : Nat, k ≤ K.de.length ∧ i = .int .i64 k ∧ Hid (∀ j (hj : j < K.de.length), j < k → ((K.de[j].n : Nat) : Int) ≠ d)) (fun i => K.de.length - (intOf i).toNat)
  case atStart => exact ⟨0, Nat.zero_le _, rfl, fun _ _ h => by omega⟩
  case round =>
    obtain ⟨k, hk, rfl, HA⟩ := hrel
    by_cases hlt : k < K.de.length
    · obtain ⟨b, rfl⟩ : ∃ b, va = some ⟨b, 0, none⟩ := by
        rcases HD.out.2 with ⟨h0, _⟩ | ⟨g, cap, cur, h1, _⟩
        · simp only [Value.slice.injEq] at h0; omega
        · simp only [Value.slice.injEq] at h1; exact ⟨g, h1.1⟩
      have hcell := HD.out.cellAt k (by simpa using hlt)
      rw [List.getElem?_map, List.getElem?_eq_getElem hlt] at hcell
      simp only [Option.map_some] at hcell
      have hbk := (HC.out K.de[k].n K.de[k] (List.getElem_mem _) rfl).1
      have hn : w.cell? ⟨I.db K.de[k].n, 0, none⟩ = some (.int .i64 K.de[k].n) := by rw [cell_of_row w _ 0 _ _ _ hbk]; rfl
      have hk1 : (0 : Int) ≤ (k : Int) := by omega
      have hk2 : (k : Int) < (K.de.length : Int) := by omega
      clear hbk
      obtain ⟨x, hx⟩ : ∃ x, x = K.de[k] := ⟨_, rfl⟩
      rw [← hx] at hcell hn
      have HX := hide hx
      clear hx
      by_cases he : ((x.n : Nat) : Int) = d
      · have HF : Hid (R = some ⟨I.db x.n, 0, none⟩) := hide (by
          rw [HR.out, show K.find d = some x by
            unfold KS.find
            rw [List.find?_eq_some_iff_getElem]
            exact ⟨by simpa using he, k, hlt, HX.out.symm, fun j hj => by simpa using HA.out j (by omega) hj⟩]
          rfl)
        have he2 : (((x.n : Nat) : Int) == d) = true := by simpa using he
        go_wp2
        go_ret
        exact ⟨by rw [HF.out]; rfl, rfl⟩
      · have he2 : (((x.n : Nat) : Int) == d) = false := by simpa using he
        go_wp2
        all_goals
          go_round
          case rel =>
            refine ⟨k + 1, by omega, by go_num, fun j hj hjk => ?_⟩
            rcases Nat.lt_or_ge j k with h | h
            · exact HA.out j hj h
            · obtain rfl : j = k := by omega
              rw [← HX.out]
              exact he
          case measure => simp [intOf]; omega
    · have HF : Hid (R = none) := hide (by
        rw [HR.out, show K.find d = none by
          unfold KS.find
          rw [List.find?_eq_none]
          intro x hx
          obtain ⟨j, hj, rfl⟩ := List.getElem_of_mem hx
          simpa using HA.out j hj (by omega)]
        rfl)
      go_wp2
      go_ret
      exact ⟨by rw [HF.out]; rfl, rfl⟩
end Go.Proofs.YtdmkjbdlidadiaaGreat

/- The reference's kernel: what a description that is found leads to; Kind, Held, CanRead, CanWrite, Keep. -/
namespace Go.Proofs.YtdmkjbdlidadiaaGreat
open Go.RowKit

structure DeAt (W : World) (I : RI) (K : KS) (x : De) : Prop where
  t : W.cell? ⟨I.db x.n, 1, none⟩ = some (.pointer (some ⟨I.tb x.th, 0, none⟩))
  f : W.cell? ⟨I.db x.n, 2, none⟩ = some (.int .i64 x.flags)
  p : W.cell? ⟨I.db x.n, 3, none⟩ = some (.int .i64 x.pos)
  h : W.cell? ⟨I.db x.n, 4, none⟩ = some (.int .i64 x.held)
  soft : ∀ j, W.frozen? ⟨I.db x.n, j, none⟩ = false
  lt : x.th < K.th.length
  kind : W.cell? ⟨I.tb x.th, 1, none⟩ = some (.int .i64 (K.tho x).kind)
theorem RK.de {W : World} {B : Nat → Prop} {ρ : Nat → Option Tag} {I : RI} {K : KS} (h : RK W B ρ I K) {x : De} (hx : x ∈ K.de) : DeAt W I K x := by
  have h1 := (h.comp (.desc x.n) x hx rfl).1
  have hl := h.ok.th x hx
  have h2 := (h.comp (.thing x.th) hl).1
  refine ⟨?_, ?_, ?_, ?_, fun j => frozen_of_row W _ j _ _ h1, hl, ?_⟩
  · rw [cell_of_row W _ 1 _ _ _ h1]; rfl
  · rw [cell_of_row W _ 2 _ _ _ h1]; rfl
  · rw [cell_of_row W _ 3 _ _ _ h1]; rfl
  · rw [cell_of_row W _ 4 _ _ _ h1]; rfl
  · rw [cell_of_row W _ 1 _ _ _ h2, KS.tho_eq hl]
    cases h3 : K.th[x.th].ob <;> simp [tcells, h3, Ob.kind]
theorem RK.robj {W : World} {B : Nat → Prop} {ρ : Nat → Option Tag} {I : RI} {K : KS} (h : RK W B ρ I K) {x : De} (hx : x ∈ K.de) : RObj W (fun k => ρ k = some (.obj x.th)) (I.ob x.th) (K.tho x) ∧ (K.tho x).ok := by
  have hl := h.ok.th x hx
  rw [KS.tho_eq hl]
  exact h.comp (.obj x.th) hl
theorem RK.ptr {W : World} {B : Nat → Prop} {ρ : Nat → Option Tag} {I : RI} {K : KS} (h : RK W B ρ I K) {x : De} (hx : x ∈ K.de) :
    (∀ b, K.tho x = .file b → W.cell? ⟨I.tb x.th, 2, none⟩ = some (.pointer (some ⟨I.ob x.th, 0, none⟩))) ∧ (∀ ls scr, K.tho x = .term ls scr → W.cell? ⟨I.tb x.th, 3, none⟩ = some (.pointer (some ⟨I.ob x.th, 0, none⟩))) ∧ (∀ q rd wt, K.tho x = .pipe q rd wt → W.cell? ⟨I.tb x.th, 4, none⟩ = some (.pointer (some ⟨I.ob x.th, 0, none⟩))) := by
  have hl := h.ok.th x hx
  have h2 := (h.comp (.thing x.th) hl).1
  rw [KS.tho_eq hl]
  refine ⟨fun b e => ?_, fun ls scr e => ?_, fun q rd wt e => ?_⟩
  · rw [cell_of_row W _ 2 _ _ _ h2]; simp [tcells, e]
  · rw [cell_of_row W _ 3 _ _ _ h2]; simp [tcells, e]
  · rw [cell_of_row W _ 4 _ _ _ h2]; simp [tcells, e]

end Go.Proofs.YtdmkjbdlidadiaaGreat

/- The reference's kernel: CanWrite, Held, Keep. -/
namespace Go.Proofs.YtdmkjbdlidadiaaGreat
open Go.RowKit

theorem RK.setDe {W : World} {B : Nat → Prop} {ρ : Nat → Option Tag} {I : RI} {K : KS} (h : RK W B ρ I K) {x x' : De} (hx : x ∈ K.de) (hn : x'.n = x.n) (ht : x'.th = x.th) (hf : x'.flags = x.flags) (hp : x'.pos ≤ 1048576) (hh : 1 ≤ x'.held ∧ x'.held ≤ 1024) (j : Nat) (v : Value)
    (hl : ([.int .i64 x.n, .pointer (some ⟨I.tb x.th, 0, none⟩), .int .i64 x.flags, .int .i64 x.pos, .int .i64 x.held] : List Value).set j v = [.int .i64 x'.n, .pointer (some ⟨I.tb x'.th, 0, none⟩), .int .i64 x'.flags, .int .i64 x'.pos, .int .i64 x'.held]) :
    RK (W.setCell ⟨I.db x.n, j, none⟩ v) B ρ I (K.setDe x') ∧ Turned (fun k => ρ k = some (.desc x.n)) W (W.setCell ⟨I.db x.n, j, none⟩ v) := by
  obtain ⟨hb, hr⟩ := h.comp (.desc x.n) x hx rfl
  have hs : (W.setCell ⟨I.db x.n, j, none⟩ v).heap.size = W.heap.size := by simp [World.setCell]
  have oth : ∀ k, ρ k ≠ some (.desc x.n) → (W.setCell ⟨I.db x.n, j, none⟩ v).heap[k]? = W.heap[k]? := fun k hk => Below.heap_setCell _ _ _ _ (fun e => hk (by rw [e]; exact hr))
  refine ⟨⟨fun t => ?_, fun k t e => by rw [hs]; exact h.lt k t e, h.ok.setDe hx hn ht hf hp hh, fun k e => h.up k (by rw [hs] at e; exact e)⟩, (Turned.refl _ _).set (.inl hr)⟩
  have kp : ∀ t, t ≠ .desc x.n → RComp (W.setCell ⟨I.db x.n, j, none⟩ v) B ρ I K t := fun t hne => (h.comp t).keep (fun k e _ => oth k (by rw [e]; exact fun e' => hne (Option.some.inj e'))) (Nat.le_of_eq hs.symm)
  cases t with
  | kern => exact kp .kern (by simp)
  | trow => exact kp .trow (by simp)
  | drow =>
    have h1 := kp .drow (by simp)
    refine ⟨?_, h1.2⟩
    have h2 := h1.1
    have e1 : (K.setDe x').de.map (fun d => Value.pointer (some ⟨I.db d.n, 0, none⟩)) = K.de.map fun d => Value.pointer (some ⟨I.db d.n, 0, none⟩) := setDe_ns (fun n => .pointer (some ⟨I.db n, 0, none⟩))
    have e2 : (K.setDe x').de.length = K.de.length := by simp [KS.setDe]
    rw [e1, e2]
    exact h2
  | plan => exact kp .plan (by simp)
  | thing i => exact kp (.thing i) (by simp)
  | obj i => exact kp (.obj i) (by simp)
  | desc n =>
    intro d hd e
    rcases mem_setDe hd with rfl | ⟨h1, h2⟩
    · subst e
      rw [hn]
      refine ⟨?_, hr⟩
      rw [heap_setCell_same j v hb, hl, hn]
    · have hne : n ≠ x.n := by rw [← e, ← hn]; exact h2
      exact kp (.desc n) (by simpa using hne) d h1 e

end Go.Proofs.YtdmkjbdlidadiaaGreat

/- The reference's kernel: what it is when an object of it turns, when a call is counted, when a fault is used up. -/
namespace Go.Proofs.YtdmkjbdlidadiaaGreat
open Go.RowKit

theorem RObj.trim {W : World} {O : Nat → Prop} {p : Nat} {ob : Ob} (h : RObj W O p ob) : RObj W (fun k => O k ∧ k < W.heap.size) p ob := by
  have hp := h.at
  cases ob with
  | file b => obtain ⟨u, B, h1, h2, h3, h4⟩ := h; exact ⟨u, B, h1, h2, hp, fun k e => ⟨h4 k e, (h1.row.lt k e).2⟩⟩
  | term ls scr => obtain ⟨la, lc, s, B, O1, h1, h2⟩ := h; exact ⟨la, lc, s, B, O1, h1, fun k e => ⟨h2 k e, (h1.lt k e).2⟩⟩
  | pipe q rd wt =>
    obtain ⟨a, c, B, h1, h2, h3, h4⟩ := h
    refine ⟨a, c, B, h1, h2, hp, fun k e => ⟨h4 k e, ?_⟩⟩
    rcases h1.ad with ⟨rfl, _⟩ | ⟨b, off, rfl, _, _, h8⟩
    · cases e
    · have : b = k := by simpa [Value.ownBlock] using e
      omega
theorem tcells_ob {t : Th} {ob : Ob} (o : Nat) (h : ob.kind = t.ob.kind) : tcells { t with ob := ob } o = tcells t o := by
  obtain ⟨nm, ob0⟩ := t
  cases ob <;> cases ob0 <;> simp_all [tcells, Ob.kind]
theorem RK.setOb {W W' : World} {B : Nat → Prop} {ρ : Nat → Option Tag} {I : RI} {K : KS} (h : RK W B ρ I K) {i : Nat} (hi : i < K.th.length) {ob' : Ob} (hs : ObjStep W (fun k => ρ k = some (.obj i)) (I.ob i) ob' W') (hk : ob'.kind = K.th[i].ob.kind) (hok : ob'.ok) :
    ∃ ρ', RK W' B ρ' I (K.setOb i ob') ∧ (∀ k, k < W.heap.size → ρ' k = ρ k) ∧ Turned B W W' := by
  obtain ⟨O', h1, h2, h3⟩ := hs
  obtain ⟨ρ', hρ⟩ : ∃ ρ' : Nat → Option Tag, ∀ k, (k < W.heap.size → ρ' k = ρ k) ∧ (¬ k < W.heap.size → (O' k ∧ k < W'.heap.size → ρ' k = some (.obj i)) ∧ (¬ (O' k ∧ k < W'.heap.size) → ρ' k = none)) :=
    ⟨fun k => if k < W.heap.size then ρ k else @ite _ (O' k ∧ k < W'.heap.size) (Classical.propDecidable _) (some (.obj i)) none, fun k => ⟨fun hk => if_pos hk, fun hk => ⟨fun ho => (if_neg hk).trans (@if_pos _ (Classical.propDecidable _) ho _ _ _), fun ho => (if_neg hk).trans (@if_neg _ (Classical.propDecidable _) ho _ _ _)⟩⟩⟩
  have old : ∀ k t, ρ k = some t → ρ' k = some t := fun k t e => by rw [(hρ k).1 (h.lt k t e).2]; exact e
  have keep : ∀ t, t ≠ .obj i → RComp W' B ρ I K t := fun t hne => (h.comp t).keep (fun k e hlt => h3.block k hlt (by rw [e]; exact fun e' => hne (Option.some.inj e'))) h3.size
  refine ⟨ρ', ⟨fun t => ?_, fun k t e => ?_, ?_, fun k e => h.up k (Nat.le_trans h3.size e)⟩, fun k hk => (hρ k).1 hk, h3.mono fun k e => (h.lt k _ e).1⟩
  · cases t with
    | kern => have := keep .kern (by simp); exact ⟨this.1, old _ _ this.2⟩
    | trow => have := keep .trow (by simp); exact ⟨this.1, fun k e => old _ _ (this.2 k e)⟩
    | drow => have := keep .drow (by simp); exact ⟨this.1, fun k e => old _ _ (this.2 k e)⟩
    | plan => have := keep .plan (by simp); exact ⟨this.1, old _ _ this.2.1, fun k e => old _ _ (this.2.2 k e)⟩
    | thing j =>
      intro hj
      have hj' : j < K.th.length := by rw [setOb_len] at hj; exact hj
      have h4 := keep (.thing j) (by simp) hj'
      refine ⟨?_, old _ _ h4.2⟩
      by_cases e : j = i
      · subst e
        rw [setOb_same hj hj', tcells_ob _ hk]
        exact h4.1
      · rw [setOb_other e hj hj']
        exact h4.1
    | obj j =>
      intro hj
      have hj' : j < K.th.length := by rw [setOb_len] at hj; exact hj
      by_cases e : j = i
      · subst e
        rw [setOb_same hj hj']
        refine ⟨h1.trim.mono fun k hk => ?_, hok⟩
        by_cases hlt : k < W.heap.size
        · rcases h2 k hk.1 with h5 | h5
          · exact old _ _ h5
          · omega
        · exact ((hρ k).2 hlt).1 hk
      · rw [setOb_other e hj hj']
        have h4 := keep (.obj j) (by simpa using e) hj'
        exact ⟨h4.1.mono fun k e => old _ _ e, h4.2⟩
    | desc n =>
      intro d hd e
      have h4 := keep (.desc n) (by simp) d hd e
      exact ⟨h4.1, old _ _ h4.2⟩
  · by_cases hlt : k < W.heap.size
    · rw [(hρ k).1 hlt] at e
      exact ⟨(h.lt k t e).1, Nat.lt_of_lt_of_le (h.lt k t e).2 h3.size⟩
    · by_cases ho : O' k ∧ k < W'.heap.size
      · exact ⟨h.up k (by omega), ho.2⟩
      · rw [((hρ k).2 hlt).2 ho] at e
        cases e
  · have hl := setOb_len K i ob'
    exact ⟨h.ok.few, h.ok.named, fun d hd => by rw [hl]; exact h.ok.th d hd, fun j hj => by rw [hl]; exact h.ok.nm j hj, h.ok.num, h.ok.once, h.ok.flags, h.ok.pos, h.ok.held, h.ok.plan⟩

theorem RK.setKern {W : World} {B : Nat → Prop} {ρ : Nat → Option Tag} {I : RI} {K K' : KS} (h : RK W B ρ I K) (ht : K'.th = K.th) (hn : K'.nm = K.nm) (hd : K'.de = K.de) (hp : K'.plan = K.plan) (hx : K.next ≤ K'.next) (j : Nat) (v : Value)
    (hl : ([I.vT, I.vD, .int .i64 K.next, .pointer (some ⟨I.pb, 0, none⟩), .int .i64 K.reads, .int .i64 K.writes] : List Value).set j v = [I.vT, I.vD, .int .i64 K'.next, .pointer (some ⟨I.pb, 0, none⟩), .int .i64 K'.reads, .int .i64 K'.writes]) :
    RK (W.setCell ⟨I.kb, j, none⟩ v) B ρ I K' ∧ Turned B W (W.setCell ⟨I.kb, j, none⟩ v) := by
  obtain ⟨hb, hr⟩ := h.comp .kern
  have hs : (W.setCell ⟨I.kb, j, none⟩ v).heap.size = W.heap.size := by simp [World.setCell]
  have kp : ∀ t, t ≠ .kern → RComp (W.setCell ⟨I.kb, j, none⟩ v) B ρ I K t := fun t hne => (h.comp t).keep (fun k e _ => Below.heap_setCell _ _ _ _ (fun e' => by
    subst e'
    rw [hr] at e
    exact hne (Option.some.inj e).symm)) (Nat.le_of_eq hs.symm)
  obtain ⟨th, nm, de, next, plan, reads, writes⟩ := K'
  simp only at ht hn hd hp hx hl
  subst ht hn hd hp
  refine ⟨⟨fun t => ?_, fun k t e => by rw [hs]; exact h.lt k t e, ⟨h.ok.few, h.ok.named, h.ok.th, h.ok.nm, fun d hd => by have := h.ok.num d hd; exact ⟨this.1, Nat.lt_of_lt_of_le this.2 hx⟩, h.ok.once, h.ok.flags, h.ok.pos, h.ok.held, h.ok.plan⟩, fun k e => h.up k (by rw [hs] at e; exact e)⟩, (Turned.refl _ _).set (.inl (h.lt _ _ hr).1)⟩
  cases t with
  | kern => exact ⟨by rw [heap_setCell_same j v hb, hl], hr⟩
  | trow => exact kp .trow (by simp)
  | drow => exact kp .drow (by simp)
  | plan => exact kp .plan (by simp)
  | thing i => exact kp (.thing i) (by simp)
  | obj i => exact kp (.obj i) (by simp)
  | desc n => exact kp (.desc n) (by simp)

theorem RK.used {W W' : World} {B : Nat → Prop} {ρ : Nat → Option Tag} {I : RI} {K : KS} (h : RK W B ρ I K) {r : List Fault} {v' : Value} (hR : RPlanAt W' I.pb v' r) (hv : v'.ownBlock = I.pv.ownBlock) (hg : W.grownBy W' (some I.pb)) (hok : planOk r) :
    RK W' B ρ { I with pv := v' } { K with plan := r } ∧ Turned B W W' := by
  have hp := h.comp .plan
  have kp : ∀ t, t ≠ .plan → RComp W' B ρ I K t := fun t hne => (h.comp t).keep (fun k e hlt => hg.block k hlt (fun e' => by
    cases e'
    rw [hp.2.1] at e
    exact hne (Option.some.inj e).symm)) hg.size
  refine ⟨⟨fun t => ?_, fun k t e => ⟨(h.lt k t e).1, Nat.lt_of_lt_of_le (h.lt k t e).2 hg.size⟩, ⟨h.ok.few, h.ok.named, h.ok.th, h.ok.nm, h.ok.num, h.ok.once, h.ok.flags, h.ok.pos, h.ok.held, hok⟩, fun k e => h.up k (Nat.le_trans hg.size e)⟩, (Turned.refl _ _).grown hg (fun k e => by cases e; exact .inl (h.lt _ _ hp.2.1).1)⟩
  cases t with
  | kern => exact kp .kern (by simp)
  | trow => exact kp .trow (by simp)
  | drow => exact kp .drow (by simp)
  | plan => exact ⟨hR, hp.2.1, fun k e => hp.2.2 k (by rw [← hv]; exact e)⟩
  | thing i => exact kp (.thing i) (by simp)
  | obj i => exact kp (.obj i) (by simp)
  | desc n => exact kp (.desc n) (by simp)

theorem rknext_any (B : Nat → Prop) (ρ : Nat → Option Tag) (I : RI) (K : KS) (want : Int) (w : World) (h : RK w B ρ I K) (h1 : 1 ≤ want) (h2 : want ≤ 1048576) :
    Calls Tryz.prog 163 #[.pointer (some ⟨I.pb, 0, none⟩), .int .i64 want] w fun e w' => e = .returned (.tuple #[.int .i64 (nxt K.plan want).1, .int .i64 (nxt K.plan want).2]) ∧ ∃ v', RK w' B ρ { I with pv := v' } { K with plan := K.plan.tail } ∧ Turned B w w' := by
  have hp := (h.comp .plan).1
  cases hpl : K.plan with
  | nil =>
    rw [hpl] at hp
    refine (rnext_end I.pb I.pv want w hp h1 h2).mono ?_
    rintro e w' ⟨rfl, rfl⟩
    refine ⟨by rw [show nxt ([] : List Fault) want = (want, 0) by simp [nxt]; omega], I.pv, ?_, Turned.refl _ _⟩
    have : ({ K with plan := ([] : List Fault).tail } : KS) = K := by
      obtain ⟨_, _, _, _, plan, _, _⟩ := K
      simp only at hpl
      subst hpl
      rfl
    rw [this]
    exact h
  | cons f r =>
    have hpo := h.ok.plan
    rw [hpl] at hp hpo
    refine (rnext_some I.pb I.pv f r want w hp h1 h2 (by have := hpo.1; simp at this; unfold maxLen; omega)).mono ?_
    rintro e w' ⟨rfl, v', h3, h4, h5⟩
    obtain ⟨h6, h7⟩ := h.used h3 h4 h5 hpo.tail
    exact ⟨rfl, v', h6, h7⟩
end Go.Proofs.YtdmkjbdlidadiaaGreat

/- The reference's kernel: Read. -/
namespace Go.Proofs.YtdmkjbdlidadiaaGreat
open Go.RowKit

def RKRead (w : World) (B : Nat → Prop) (kb : Nat) (r : List UInt8 × Int × KS) (e : Ending) (w' : World) : Prop :=
  ∃ v ρ' I', e = .returned (.tuple #[v, .int .i64 r.2.1]) ∧ Bys w' v r.1 ∧ RK w' B ρ' I' r.2.2 ∧ I'.kb = kb ∧ Turned B w w'
theorem RKRead.refused {w : World} {B : Nat → Prop} {ρ : Nat → Option Tag} {I : RI} {K : KS} (h : RK w B ρ I K) (E : Int) : RKRead w B I.kb ([], E, K) (.returned (.tuple #[.slice none 0 0, .int .i64 E])) w :=
  ⟨_, ρ, I, rfl, .inl ⟨rfl, rfl⟩, h, rfl, Turned.refl _ _⟩
set_option maxRecDepth 100000 in
set_option maxHeartbeats 4000000 in
theorem rkread_any (B : Nat → Prop) (ρ : Nat → Option Tag) (I : RI) (K : KS) (d n : Int) (w : World) (h : RK w B ρ I K) (hr : K.reads < 9223372036854775807) :
    Calls Tryz.prog 63 #[.pointer (some ⟨I.kb, 0, none⟩), .int .i64 d, .int .i64 n] w (RKRead w B I.kb (K.read d n)) := by
  have HF := hide (rfind_any B ρ I K d w h)
  have HK := hide h
  have HX := hide fun E => RKRead.refused h E
  cases hx : K.find d with
  | none =>
    rw [hx] at HF
    rw [show K.read d n = ([], 64, K) by unfold KS.read; rw [hx]]
    clear h
    go_enter Tryz.func63, Tryz.ntmps63
    go_wp2_with fail
    refine HF.out.mono ?_
    rintro e w1 ⟨rfl, rfl⟩
    go_wp2
    go_ret2
    exact HX.out 64
  | some x =>
    rw [hx] at HF
    have hm := (KS.find_some hx).1
    have hd := h.de hm
    have c1 := hd.t
    have c2 := hd.kind
    have c3 := hd.f
    have HP := hide (h.ptr hm)
    have HO := hide (h.robj hm)
    have hR : K.read d n = if fbit x.flags 1 = 0 then ([], 65, K) else if n < 0 ∨ 1048576 < n then ([], 4, K) else if n = 0 then ([], 0, K) else if (K.tho x).waits = true then ([], 52, K)
      else if (nxt K.plan n).2 = 0 then
        match K.tho x with
        | .file b => (piece b x.pos (nxt K.plan n).1.toNat, 0, K.readUp.setDe { x with pos := x.pos + (piece b x.pos (nxt K.plan n).1.toNat).length })
        | .term ls scr => (rdH ls (nxt K.plan n).1, Te_rdE (nxt K.plan n).1, K.readUp.setOb x.th (.term (rdR ls (nxt K.plan n).1) scr))
        | .pipe q rd wt => (rdB (nxt K.plan n).1 q rd wt, Kp_rdE (nxt K.plan n).1 q.length rd wt, K.readUp.setOb x.th (.pipe (rdQ (nxt K.plan n).1 q rd wt) rd wt))
      else ([], (nxt K.plan n).2, K.readUp) := by unfold KS.read; rw [hx]; first | done | rfl
    obtain ⟨v, hv⟩ : ∃ v, bits .and .i64 x.flags 1 = v := ⟨_, rfl⟩
    rw [show fbit x.flags 1 = v from hv] at hR
    by_cases k0 : v = 0
    · subst k0
      rw [if_pos rfl] at hR
      rw [hR]
      clear h hd hR
      go_enter Tryz.func63, Tryz.ntmps63
      go_wp2_with fail
      refine HF.out.mono ?_
      rintro e w1 ⟨rfl, rfl⟩
      simp only [Option.map_some]
      go_wp2
      go_ret2
      exact HX.out 65
    · have m0 : (v == 0) = false := by simpa using k0
      rw [if_neg k0] at hR
      by_cases k1 : n < 0 ∨ 1048576 < n
      · rw [if_pos k1] at hR
        rw [hR]
        clear h hd hR
        rcases (show n < 0 ∨ (¬ n < 0 ∧ 1048576 < n) by omega) with k2 | ⟨k2, k3⟩
        · go_enter Tryz.func63, Tryz.ntmps63
          go_wp2_with fail
          refine HF.out.mono ?_
          rintro e w1 ⟨rfl, rfl⟩
          simp only [Option.map_some]
          go_wp2
          go_ret2
          exact HX.out 4
        · go_enter Tryz.func63, Tryz.ntmps63
          go_wp2_with fail
          refine HF.out.mono ?_
          rintro e w1 ⟨rfl, rfl⟩
          simp only [Option.map_some]
          go_wp2
          go_ret2
          exact HX.out 4
      · rw [if_neg k1] at hR
        have k2 : ¬ n < 0 := by omega
        have k3 : ¬ 1048576 < n := by omega
        by_cases k4 : n = 0
        · subst k4
          rw [if_pos rfl] at hR
          rw [hR]
          clear h hd hR k1
          go_enter Tryz.func63, Tryz.ntmps63
          go_wp2_with fail
          refine HF.out.mono ?_
          rintro e w1 ⟨rfl, rfl⟩
          simp only [Option.map_some]
          go_wp2
          go_ret2
          exact HX.out 0
        · rw [if_neg k4] at hR
          have m4 : (n == 0) = false := by simpa using k4
          have hb := (h.comp .kern).1
          have q4 : w.cell? ⟨I.kb, 4, none⟩ = some (.int .i64 K.reads) := by rw [cell_of_row w I.kb 4 _ _ _ hb]; rfl
          have q4s : w.frozen? ⟨I.kb, 4, none⟩ = false := frozen_of_row w I.kb 4 _ _ hb
          obtain ⟨hU, hTU⟩ := h.setKern (K' := { K with reads := K.reads + 1 }) rfl rfl rfl rfl (Nat.le_refl _) 4 (.int .i64 ((K.reads + 1 : Nat) : Int)) (by simp)
          have HN := hide (rknext_any B ρ I _ n _ hU (by omega) (by omega))
          have HTU := hide hTU
          have hb1 := (hU.comp .kern).1
          have q3 : (w.setCell ⟨I.kb, 4, none⟩ (.int .i64 ((K.reads + 1 : Nat) : Int))).cell? ⟨I.kb, 3, none⟩ = some (.pointer (some ⟨I.pb, 0, none⟩)) := by rw [cell_of_row _ I.kb 3 _ _ _ hb1]; rfl
          have HG := hide (nxt_good (want := n) h.ok.plan (by omega) (by omega))
          have hrv : (K.reads : Int) + 1 = ((K.reads + 1 : Nat) : Int) := by omega
          have HRv := hide hrv
          rw [← hrv] at q3
          clear hb hb1 hU hTU h hrv
          obtain ⟨m, hm1⟩ : ∃ m, m = (nxt K.plan n).1 := ⟨_, rfl⟩
          obtain ⟨E, hE⟩ : ∃ E, E = (nxt K.plan n).2 := ⟨_, rfl⟩
          rw [← hm1, ← hE] at hR HG
          have HN : Hid (Calls Tryz.prog 163 #[.pointer (some ⟨I.pb, 0, none⟩), .int .i64 n] (w.setCell ⟨I.kb, 4, none⟩ (.int .i64 ((K.reads + 1 : Nat) : Int))) fun e w' => e = .returned (.tuple #[.int .i64 m, .int .i64 E]) ∧ ∃ v', RK w' B ρ { I with pv := v' } K.readUp ∧ Turned B (w.setCell ⟨I.kb, 4, none⟩ (.int .i64 ((K.reads + 1 : Nat) : Int))) w') := hide (by rw [hm1, hE]; exact HN.out)
          clear hm1 hE
          by_cases hwt : (K.tho x).waits = true
          · rw [if_pos hwt] at hR
            rw [hR]
            cases ho : K.tho x with
            | file b => rw [ho] at hwt; simp [Ob.waits] at hwt
            | term ls scr => rw [ho] at hwt; simp [Ob.waits] at hwt
            | pipe q rd wt =>
              rw [ho] at hwt c2 HO
              simp only [Ob.kind] at c2
              have c4 := HP.out.2.2 q rd wt ho
              have HC := hide (ob_pcanRead _ _ q rd wt w HO.out.1)
              have HCv : Hid (canR q.length rd wt = false) := hide (by simpa [Ob.waits] using hwt)
              clear hwt hR HN
              go_enter Tryz.func63, Tryz.ntmps63
              go_wp2_with fail
              refine HF.out.mono ?_
              rintro e w0 ⟨rfl, rfl⟩
              simp only [Option.map_some]
              go_wp2_with fail
              refine HC.out.mono ?_
              rintro e w0 ⟨rfl, rfl⟩
              rw [HCv.out]
              go_wp2
              go_ret2
              exact HX.out 52
          · rw [if_neg hwt] at hR
            by_cases hE0 : E = 0
            · subst hE0
              rw [if_pos rfl] at hR
              have hmg := HG.out rfl
              cases ho : K.tho x with
              | file b =>
                rw [ho] at c2 hR
                simp only [Ob.kind] at c2
                simp only at hR
                rw [hR]
                have hpos := HK.out.ok.pos x hm
                obtain ⟨mm, rfl, hm1, hm2⟩ := inN_nat (n := m) (by simp only [inN, Bool.and_eq_true, decide_eq_true_eq]; omega)
                simp only [Int.toNat_natCast]
                clear hR hwt
                go_enter Tryz.func63, Tryz.ntmps63
                go_wp2_with fail
                refine HF.out.mono ?_
                rintro e w0 ⟨rfl, rfl⟩
                simp only [Option.map_some]
                go_wp2_with fail
                rw [HRv.out]
                refine HN.out.mono ?_
                rintro e w2 ⟨rfl, v', hK2, hT2⟩
                have HT2 := hide (HTU.out.trans hT2 (fun _ _ e => e))
                have HK2 := hide hK2
                clear hK2 hT2 q3 q4 q4s c1 c2 c3
                have hd2 := HK2.out.de (x := x) hm
                have c1 := hd2.t
                have c5 := hd2.p
                have c5s := hd2.soft 3
                have c2 : w2.cell? ⟨I.tb x.th, 1, none⟩ = some (.int .i64 1) := by have := hd2.kind; rw [show K.readUp.tho x = .file b from ho] at this; exact this
                have c4 := (HK2.out.ptr (x := x) hm).1 b ho
                have hO2 := HK2.out.robj (x := x) hm
                rw [show K.readUp.tho x = .file b from ho] at hO2
                obtain ⟨⟨u, Bu, hF2, -⟩, hbl⟩ := hO2
                have hbl' : b.length ≤ 1048576 := hbl
                have c6 := hF2.data
                have HU := hide hF2.row
                obtain ⟨ua, uc, hu⟩ := owns_slice hF2.row
                rw [hu] at c6 HU
                have HPi := hide (piece_any Bu _ b x.pos mm w2.drew HU.out hbl' hpos hm2)
                have hpl := piece_len b x.pos mm
                have hpp : x.pos + (piece b x.pos mm).length ≤ 1048576 := by omega
                clear hpl
                generalize piece b x.pos mm = Y at *
                clear hd2 hF2 hu hbl
                have hlo := HK2.out.lt
                have hbd := World.block_lt_of_cell? w2 _ c1
                have hbt := World.block_lt_of_cell? w2 _ c4
                have hbo := World.block_lt_of_cell? w2 _ c6
                go_wp2_with fail
                go_region_held3 (fun w' => w'.cell? ⟨I.db x.n, 1, none⟩ = some (.pointer (some ⟨I.tb x.th, 0, none⟩)) ∧ w'.cell? ⟨I.tb x.th, 2, none⟩ = some (.pointer (some ⟨I.ob x.th, 0, none⟩)) ∧ w'.cell? ⟨I.ob x.th, 0, none⟩ = some (.slice ua b.length uc) ∧ w'.cell? ⟨I.db x.n, 3, none⟩ = some (.int .i64 x.pos))
                  (first | exact K5 | go_keep)
                  (first
                    | (go_at_call 166; refine HPi.out.mono ?_; rintro e w5 ⟨v5, rfl, hown5, hB5⟩; have K5 : w5.cell? ⟨I.db x.n, 1, none⟩ = some (.pointer (some ⟨I.tb x.th, 0, none⟩)) ∧ w5.cell? ⟨I.tb x.th, 2, none⟩ = some (.pointer (some ⟨I.ob x.th, 0, none⟩)) ∧ w5.cell? ⟨I.ob x.th, 0, none⟩ = some (.slice ua b.length uc) ∧ w5.cell? ⟨I.db x.n, 3, none⟩ = some (.int .i64 x.pos) := ⟨(hB5.cell (p := ⟨I.db x.n, 1, none⟩) hbd).trans c1, (hB5.cell (p := ⟨I.tb x.th, 2, none⟩) hbt).trans c4, (hB5.cell (p := ⟨I.ob x.th, 0, none⟩) hbo).trans c6, (hB5.cell (p := ⟨I.db x.n, 3, none⟩) hbd).trans c5⟩)
                    | fail)
                have hB25 : Below w2.heap.size w2 w5 := (Below.refl _ w2).drew.trans hB5
                obtain ⟨va5, vc5, rfl⟩ := owns_slice hown5
                have hK5 := HK2.out.below hB25
                have c7 := K5.2.2.2
                have c7s := (hK5.de (x := x) hm).soft 3
                obtain ⟨hK6, hT6⟩ := hK5.setDe (x := x) (x' := { x with pos := x.pos + Y.length }) hm rfl rfl rfl hpp (hK5.ok.held x hm) 3 (.int .i64 ((x.pos + Y.length : Nat) : Int)) (by simp)
                have HK6 := hide hK6
                have hnb : ¬ ρ w2.heap.size = some (.desc x.n) := fun e => by have := (hlo _ _ e).2; omega
                have HO5 := hide (owns_turned hown5 hT6 (fun k hk e => by have h1 : w2.heap.size ≤ k := (hown5.lt k hk).1; have := (hlo _ _ e).2; omega))
                have HT6 := hide ((HT2.out.trans (Turned.of_below (S := B) hB25) (fun _ _ e => e)).trans hT6 (fun k _ e => (hlo _ _ e).1))
                clear hK6 hT6 hK5 hown5 K5 HPi hlo
                go_wp2
                go_ret2
                rw [show (x.pos : Int) + (Y.length : Int) = ((x.pos + Y.length : Nat) : Int) by omega]
                exact ⟨_, ρ, _, rfl, Bys.of_owns HO5.out, HK6.out, rfl, HT6.out⟩
              | term ls scr =>
                rw [ho] at c2 hR
                simp only [Ob.kind] at c2
                simp only at hR
                rw [hR]
                have hlt := hd.lt
                have hth : K.th[x.th].ob = .term ls scr := by rw [← KS.tho_eq hlt]; exact ho
                clear hR hwt
                go_enter Tryz.func63, Tryz.ntmps63
                go_wp2_with fail
                refine HF.out.mono ?_
                rintro e w0 ⟨rfl, rfl⟩
                simp only [Option.map_some]
                go_wp2_with fail
                rw [HRv.out]
                refine HN.out.mono ?_
                rintro e w2 ⟨rfl, v', hK2, hT2⟩
                have HT2 := hide (HTU.out.trans hT2 (fun _ _ e => e))
                have HK2 := hide hK2
                clear hK2 hT2 q3 q4 q4s c1 c2 c3
                have hd2 := HK2.out.de (x := x) hm
                have c1 := hd2.t
                have c2 : w2.cell? ⟨I.tb x.th, 1, none⟩ = some (.int .i64 2) := by have := hd2.kind; rw [show K.readUp.tho x = .term ls scr from ho] at this; exact this
                have c4 := (HK2.out.ptr (x := x) hm).2.1 ls scr ho
                have hO2 := HK2.out.robj (x := x) hm
                rw [show K.readUp.tho x = .term ls scr from ho] at hO2
                have HO2 := hide hO2
                clear hd2 hO2
                go_wp2_with fail
                refine (ob_tread _ _ ls scr m _ HO2.out.1 HO2.out.2).mono ?_
                rintro e w3 ⟨v3, rfl, hb3, hs3⟩
                obtain ⟨ρ', hK3, -, hT3⟩ := HK2.out.setOb (i := x.th) hlt hs3 (by show _ = K.th[x.th].ob.kind; rw [hth]; rfl) (term_ok HO2.out.2)
                have HK3 := hide hK3
                have HB3 := hide hb3
                have HT3 := hide (HT2.out.trans hT3 (fun _ _ e => e))
                clear hK3 hb3 hT3 hs3
                go_wp2
                go_ret2
                exact ⟨_, ρ', _, rfl, HB3.out, HK3.out, rfl, HT3.out⟩
              | pipe q rd wt =>
                rw [ho] at c2 hR hwt
                simp only [Ob.kind] at c2
                simp only at hR
                rw [hR]
                have hlt := hd.lt
                have hth : K.th[x.th].ob = .pipe q rd wt := by rw [← KS.tho_eq hlt]; exact ho
                have c4 := HP.out.2.2 q rd wt ho
                have hO1 := HO.out.1
                rw [ho] at hO1
                have HC := hide (ob_pcanRead _ _ q rd wt w hO1)
                have HCv : Hid (canR q.length rd wt = true) := hide (by simpa [Ob.waits] using hwt)
                clear hR hwt hO1
                go_enter Tryz.func63, Tryz.ntmps63
                go_wp2_with fail
                refine HF.out.mono ?_
                rintro e w0 ⟨rfl, rfl⟩
                simp only [Option.map_some]
                go_wp2_with fail
                refine HC.out.mono ?_
                rintro e w0 ⟨rfl, rfl⟩
                rw [HCv.out]
                go_wp2_with fail
                rw [HRv.out]
                refine HN.out.mono ?_
                rintro e w2 ⟨rfl, v', hK2, hT2⟩
                have HT2 := hide (HTU.out.trans hT2 (fun _ _ e => e))
                have HK2 := hide hK2
                clear hK2 hT2 c4 q3 q4 q4s c1 c2 c3
                have hd2 := HK2.out.de (x := x) hm
                have c1 := hd2.t
                have c2 : w2.cell? ⟨I.tb x.th, 1, none⟩ = some (.int .i64 3) := by have := hd2.kind; rw [show K.readUp.tho x = .pipe q rd wt from ho] at this; exact this
                have c4 := (HK2.out.ptr (x := x) hm).2.2 q rd wt ho
                have hO2 := HK2.out.robj (x := x) hm
                rw [show K.readUp.tho x = .pipe q rd wt from ho] at hO2
                have HO2 := hide hO2
                clear hd2 hO2
                go_wp2_with fail
                refine (ob_pread _ _ q rd wt m _ HO2.out.1).mono ?_
                rintro e w3 ⟨v3, rfl, hb3, hs3⟩
                obtain ⟨ρ', hK3, -, hT3⟩ := HK2.out.setOb (i := x.th) hlt hs3 (by show _ = K.th[x.th].ob.kind; rw [hth]; rfl) (pipe_ok HO2.out.2)
                have HK3 := hide hK3
                have HB3 := hide hb3
                have HT3 := hide (HT2.out.trans hT3 (fun _ _ e => e))
                clear hK3 hb3 hT3 hs3
                go_wp2
                go_ret2
                exact ⟨_, ρ', _, rfl, HB3.out, HK3.out, rfl, HT3.out⟩
            · rw [if_neg hE0] at hR
              rw [hR]
              have hE1 : (E != 0) = true := by simpa using hE0
              cases ho : K.tho x with
              | file b =>
                rw [ho] at c2
                simp only [Ob.kind] at c2
                clear hR hwt
                go_enter Tryz.func63, Tryz.ntmps63
                go_wp2_with fail
                refine HF.out.mono ?_
                rintro e w0 ⟨rfl, rfl⟩
                simp only [Option.map_some]
                go_wp2_with fail
                rw [HRv.out]
                refine HN.out.mono ?_
                rintro e w2 ⟨rfl, v', hK2, hT2⟩
                have HT2 := hide (HTU.out.trans hT2 (fun _ _ e => e))
                have HK2 := hide hK2
                clear hK2 hT2 q3 q4 q4s c1 c2 c3
                go_wp2
                go_ret2
                exact ⟨_, ρ, _, rfl, .inl ⟨rfl, rfl⟩, HK2.out, rfl, HT2.out⟩
              | term ls scr =>
                rw [ho] at c2
                simp only [Ob.kind] at c2
                clear hR hwt
                go_enter Tryz.func63, Tryz.ntmps63
                go_wp2_with fail
                refine HF.out.mono ?_
                rintro e w0 ⟨rfl, rfl⟩
                simp only [Option.map_some]
                go_wp2_with fail
                rw [HRv.out]
                refine HN.out.mono ?_
                rintro e w2 ⟨rfl, v', hK2, hT2⟩
                have HT2 := hide (HTU.out.trans hT2 (fun _ _ e => e))
                have HK2 := hide hK2
                clear hK2 hT2 q3 q4 q4s c1 c2 c3
                go_wp2
                go_ret2
                exact ⟨_, ρ, _, rfl, .inl ⟨rfl, rfl⟩, HK2.out, rfl, HT2.out⟩
              | pipe q rd wt =>
                rw [ho] at c2 hwt
                simp only [Ob.kind] at c2
                have c4 := HP.out.2.2 q rd wt ho
                have hO1 := HO.out.1
                rw [ho] at hO1
                have HC := hide (ob_pcanRead _ _ q rd wt w hO1)
                have HCv : Hid (canR q.length rd wt = true) := hide (by simpa [Ob.waits] using hwt)
                clear hR hwt hO1
                go_enter Tryz.func63, Tryz.ntmps63
                go_wp2_with fail
                refine HF.out.mono ?_
                rintro e w0 ⟨rfl, rfl⟩
                simp only [Option.map_some]
                go_wp2_with fail
                refine HC.out.mono ?_
                rintro e w0 ⟨rfl, rfl⟩
                rw [HCv.out]
                go_wp2_with fail
                rw [HRv.out]
                refine HN.out.mono ?_
                rintro e w2 ⟨rfl, v', hK2, hT2⟩
                have HT2 := hide (HTU.out.trans hT2 (fun _ _ e => e))
                have HK2 := hide hK2
                clear hK2 hT2 q3 q4 q4s c1 c2 c3
                go_wp2
                go_ret2
                exact ⟨_, ρ, _, rfl, .inl ⟨rfl, rfl⟩, HK2.out, rfl, HT2.out⟩
end Go.Proofs.YtdmkjbdlidadiaaGreat

/- The reference's kernel: room, Seek. -/
namespace Go.Proofs.YtdmkjbdlidadiaaGreat
open Go.RowKit

set_option maxRecDepth 100000 in
set_option maxHeartbeats 1000000 in
theorem rroom_any (B : Nat → Prop) (ρ : Nat → Option Tag) (I : RI) (K : KS) (x : De) (w : World) (h : RK w B ρ I K) (hm : x ∈ K.de) (hk : (K.tho x).kind ≠ 3) :
    Calls Tryz.prog 168 #[.pointer (some ⟨I.db x.n, 0, none⟩)] w fun e w' => e = .returned (.int .i64 (roomOf (K.tho x) x.flags x.pos : Nat)) ∧ w' = w := by
  have hd := h.de hm
  have c1 := hd.t
  have c2 := hd.kind
  have c3 := hd.f
  have c4 := hd.p
  have hpos := h.ok.pos x hm
  have hp := h.ptr hm
  obtain ⟨hO, hok⟩ := h.robj hm
  clear hd h
  cases ho : K.tho x with
  | pipe q rd wt => rw [ho] at hk; exact absurd rfl hk
  | term ls scr =>
    rw [ho] at c2 hO hok
    simp only [Ob.kind] at c2
    have c5 := hp.2.1 ls scr ho
    obtain ⟨la, lc, s, B', O1, hT, -⟩ := hO
    have c6 := hT.screen
    obtain ⟨sa, sc, rfl⟩ := owns_slice hT.scr
    have hsl : scr.length ≤ 1048576 := hok.2.2
    show Calls _ _ _ _ fun e w' => e = .returned (.int .i64 ((1048576 - scr.length : Nat) : Int)) ∧ w' = w
    clear hp hT hok
    go_enter Tryz.func168, Tryz.ntmps168
    go_wp2
    go_ret
    exact ⟨ret_int (by omega), rfl⟩
  | file b =>
    rw [ho] at c2 hO hok
    simp only [Ob.kind] at c2
    have c5 := hp.1 b ho
    obtain ⟨u, B', hF, -⟩ := hO
    have c6 := hF.data
    obtain ⟨ua, uc, rfl⟩ := owns_slice hF.row
    have hbl : b.length ≤ 1048576 := hok
    obtain ⟨v, hv⟩ : ∃ v, bits .and .i64 x.flags 4 = v := ⟨_, rfl⟩
    show Calls _ _ _ _ fun e w' => e = .returned (.int .i64 ((if bits .and .i64 x.flags 4 = 0 then 1048576 - x.pos else 1048576 - b.length : Nat) : Int)) ∧ w' = w
    rw [hv]
    clear hp hF hok
    by_cases k0 : v = 0
    · subst k0
      rw [if_pos rfl]
      go_enter Tryz.func168, Tryz.ntmps168
      go_wp2
      go_ret
      exact ⟨ret_int (by omega), rfl⟩
    · rw [if_neg k0]
      have m0 : (v == 0) = false := by simpa using k0
      have m0' : (v != 0) = true := by simpa using k0
      go_enter Tryz.func168, Tryz.ntmps168
      go_wp2
      go_ret
      exact ⟨ret_int (by omega), rfl⟩

def RKNum (w : World) (B : Nat → Prop) (kb : Nat) (r : Int × Int × KS) (e : Ending) (w' : World) : Prop :=
  ∃ ρ' I', e = .returned (.tuple #[.int .i64 r.1, .int .i64 r.2.1]) ∧ RK w' B ρ' I' r.2.2 ∧ I'.kb = kb ∧ Turned B w w'
theorem RKNum.refused {w : World} {B : Nat → Prop} {ρ : Nat → Option Tag} {I : RI} {K : KS} (h : RK w B ρ I K) (a E : Int) : RKNum w B I.kb (a, E, K) (.returned (.tuple #[.int .i64 a, .int .i64 E])) w :=
  ⟨ρ, I, rfl, h, rfl, Turned.refl _ _⟩
end Go.Proofs.YtdmkjbdlidadiaaGreat

/- A kernel by the page, as a value: writes, drops, opens, pipes, beginnings. No program. -/
namespace Go.Proofs.YtdmkjbdlidadiaaGreat
open Go.RowKit

def bit (f m : Int) : Bool := !(fbit f m == 0)
theorem bit_no {f m : Int} (h : fbit f m = 0) : bit f m = false := by unfold bit; rw [h]; rfl
theorem bit_yes {f m : Int} (h : fbit f m ≠ 0) : bit f m = true := by unfold bit; simpa using h
def placeOf (f : List UInt8) (flags : Int) (pos : Nat) : Nat := if bit flags 4 = true then f.length else pos
def refusal (ob : Ob) (flags : Int) (pos : Nat) (n : Int) : Int := match ob with
  | .pipe q rd wt => if rd = 0 then 53 else if canW n q.length rd wt = false then 52 else 0
  | .term _ scr => if scr.length = 1048576 then 31 else 0
  | .file f => if placeOf f flags pos = 1048576 then 31 else 0
def KS.writeUp (K : KS) : KS := { K with writes := K.writes + 1, plan := K.plan.tail }
def KS.write (K : KS) (d : Int) (b : List UInt8) : Int × Int × KS :=
  match K.find d with
  | none => (0, 64, K)
  | some x =>
    if fbit x.flags 2 = 0 then (0, 65, K) else if 1048576 < b.length then (0, 5, K) else if b.length = 0 then (0, 0, K)
    else if refusal (K.tho x) x.flags x.pos b.length = 0 then
      if (nxt K.plan b.length).2 = 0 then
        match K.tho x with
        | .file f => ((min (nxt K.plan b.length).1.toNat (1048576 - placeOf f x.flags x.pos) : Nat), 0, (K.writeUp.setOb x.th (.file (wrL f (placeOf f x.flags x.pos) (b.take (min (nxt K.plan b.length).1.toNat (1048576 - placeOf f x.flags x.pos)))))).setDe { x with pos := placeOf f x.flags x.pos + min (nxt K.plan b.length).1.toNat (1048576 - placeOf f x.flags x.pos) })
        | .term ls scr => ((min (nxt K.plan b.length).1.toNat (1048576 - scr.length) : Nat), 0, K.writeUp.setOb x.th (.term ls (scr ++ b.take (min (nxt K.plan b.length).1.toNat (1048576 - scr.length)))))
        | .pipe q rd wt => ((wrN b.length (nxt K.plan b.length).1 q.length rd wt : Nat), Kp_wrE b.length (nxt K.plan b.length).1 q.length rd wt, K.writeUp.setOb x.th (.pipe (q ++ b.take (wrN b.length (nxt K.plan b.length).1 q.length rd wt)) rd wt))
      else (0, (nxt K.plan b.length).2, K.writeUp)
    else (0, refusal (K.tho x) x.flags x.pos b.length, K)
def KS.lose (K : KS) (n : Nat) : KS := { K with de := K.de.filter fun y => decide (y.n ≠ n) }
def KS.dropE (K : KS) (d : Int) : Int := match K.find d with
  | none => 64
  | some _ => 0
def KS.dropK (K : KS) (d : Int) : KS := match K.find d with
  | none => K
  | some x => if 1 < x.held then K.setDe { x with held := x.held - 1 } else
    match K.tho x with
    | .pipe q rd wt => (K.setOb x.th (.pipe q (leaveR (bit x.flags 2) rd wt) (leaveW (bit x.flags 2) rd wt))).lose x.n
    | _ => K.lose x.n
def KS.newDe (K : KS) (i : Nat) (flags : Int) : KS := { K with de := K.de ++ [⟨K.next, i, flags, 0, 1⟩], next := K.next + 1 }
def KS.obOf (K : KS) (i : Nat) : Ob := (K.th[i]?.map Th.ob).getD (.file [])
def KS.nameOf (K : KS) (i : Nat) : ByteArray := (K.th[i]?.map Th.name).getD ByteArray.empty
def nlt (a b : ByteArray) : Prop := a.data.toList < b.data.toList
instance (a b : ByteArray) : Decidable (nlt a b) := inferInstanceAs (Decidable (a.data.toList < b.data.toList))
def insN (f : Nat → ByteArray) (i : Nat) : List Nat → List Nat
  | [] => [i]
  | j :: r => if nlt (f i) (f j) then i :: j :: r else j :: insN f i r
def KS.addTh (K : KS) (t : Th) : KS := { K with th := K.th ++ [t], nm := insN (fun j => ((K.th ++ [t])[j]?.map Th.name).getD ByteArray.empty) K.th.length K.nm }
def KS.addP (K : KS) (ob : Ob) : KS := { K with th := K.th ++ [⟨ByteArray.empty, ob⟩] }
def KS.cut (K : KS) (i : Nat) (flags : Int) : KS := if bit flags 16 = true then (match K.obOf i with | .file _ => K.setOb i (.file []) | _ => K) else K
def KS.pipe (K : KS) : Int × Int × Int × KS :=
  if 254 < K.de.length then (0, 0, 3, K) else (K.next, (K.next + 1 : Nat), 0, ((K.addP (.pipe [] 1 1)).newDe K.th.length 1).newDe K.th.length 2)
def KS.nought (l : List Fault) : KS := ⟨[], [], [], 1, l, 0, 0⟩
def KS.new (fs : List Nm) (ts : List Tp) (l : List Fault) : KS := ts.foldl (fun K t => K.addTh ⟨t.1, .term t.2 []⟩) (fs.foldl (fun K f => K.addTh ⟨f.1, .file f.2⟩) (KS.nought l))
structure KNm (K : KS) : Prop where
  sorted : K.nm.Pairwise fun i j => nlt (K.nameOf i) (K.nameOf j)
  kind : ∀ i ∈ K.nm, (K.obOf i).kind = 1 ∨ (K.obOf i).kind = 2
  all : ∀ i, i < K.th.length → (K.obOf i).kind ≠ 3 → i ∈ K.nm
  ok : ∀ i ∈ K.nm, nameOk (K.nameOf i) = true

theorem KS.obOf_eq {K : KS} {i : Nat} (h : i < K.th.length) : K.obOf i = K.th[i].ob := by simp [KS.obOf, h]
theorem KS.tho_obOf (K : KS) (x : De) : K.tho x = K.obOf x.th := rfl
theorem KS.nameOf_setOb (K : KS) (i j : Nat) (ob : Ob) : (K.setOb i ob).nameOf j = K.nameOf j := by
  unfold KS.nameOf KS.setOb
  simp only [List.getElem?_modify]
  by_cases h : i = j
  · subst h; cases K.th[i]? <;> simp
  · simp [h]
theorem KS.obOf_setOb_same {K : KS} {i : Nat} (ob : Ob) (h : i < K.th.length) : (K.setOb i ob).obOf i = ob := by simp [KS.obOf, KS.setOb, h]
theorem KS.obOf_setOb_other {K : KS} {i j : Nat} (ob : Ob) (h : j ≠ i) : (K.setOb i ob).obOf j = K.obOf j := by
  unfold KS.obOf KS.setOb
  simp [Ne.symm h]
theorem KS.kind_setOb {K : KS} {i : Nat} {ob : Ob} (h : i < K.th.length) (hk : ob.kind = K.th[i].ob.kind) (j : Nat) : ((K.setOb i ob).obOf j).kind = (K.obOf j).kind := by
  by_cases e : j = i
  · subst e; rw [KS.obOf_setOb_same ob h, hk, KS.obOf_eq h]
  · rw [KS.obOf_setOb_other ob e]
theorem KNm.setOb {K : KS} (h : KNm K) {i : Nat} {ob : Ob} (hi : i < K.th.length) (hk : ob.kind = K.th[i].ob.kind) : KNm (K.setOb i ob) := by
  refine ⟨?_, fun j hj => by rw [KS.kind_setOb hi hk]; exact h.kind j hj, fun j hj e => h.all j (by rw [setOb_len] at hj; exact hj) (by rw [KS.kind_setOb hi hk] at e; exact e), fun j hj => by rw [KS.nameOf_setOb]; exact h.ok j hj⟩
  refine List.Pairwise.imp (fun {a b} hab => ?_) h.sorted
  rw [KS.nameOf_setOb, KS.nameOf_setOb]; exact hab
theorem KNm.same {K K' : KS} (h : KNm K) (ht : K'.th = K.th) (hn : K'.nm = K.nm) : KNm K' := by
  have e1 : K'.nameOf = K.nameOf := by funext i; simp [KS.nameOf, ht]
  have e2 : K'.obOf = K.obOf := by funext i; simp [KS.obOf, ht]
  exact ⟨by rw [hn, e1]; exact h.sorted, by rw [hn, e2]; exact h.kind, by rw [hn, e2, ht]; exact h.all, by rw [hn, e1]; exact h.ok⟩
theorem KOk.setOb {K : KS} (h : KOk K) (i : Nat) (ob : Ob) : KOk (K.setOb i ob) :=
  ⟨h.few, h.named, fun d hd => by rw [setOb_len]; exact h.th d hd, fun j hj => by rw [setOb_len]; exact h.nm j hj, h.num, h.once, h.flags, h.pos, h.held, h.plan⟩
theorem nlt_ne {a b : ByteArray} (h : nlt a b) : a ≠ b := fun e => by subst e; exact List.lt_irrefl _ h
theorem nlt_trans {a b c : ByteArray} (h : nlt a b) (h' : nlt b c) : nlt a c := List.lt_trans h h'
theorem nlt_total {a b : ByteArray} (h : ¬ nlt a b) (hne : a ≠ b) : nlt b a := by
  unfold nlt at *
  by_cases h1 : b.data.toList < a.data.toList
  · exact h1
  · exact absurd (Go.WideShapes.bytes_inj (List.le_antisymm (List.not_lt.1 h1) (List.not_lt.1 h))) hne
theorem mem_insN {f : Nat → ByteArray} {i j : Nat} : ∀ {l : List Nat}, j ∈ insN f i l ↔ j = i ∨ j ∈ l
  | [] => by simp [insN]
  | a :: r => by
    unfold insN
    split
    · simp
    · simp only [List.mem_cons, mem_insN (l := r)]
      constructor
      · rintro (h | h | h) <;> simp [h]
      · rintro (h | h | h) <;> simp [h]
theorem insN_perm (f : Nat → ByteArray) (i : Nat) : ∀ l : List Nat, (insN f i l).Perm (i :: l)
  | [] => List.Perm.refl _
  | a :: r => by
    unfold insN
    split
    · exact List.Perm.refl _
    · exact ((insN_perm f i r).cons a).trans (List.Perm.swap i a r)
theorem insN_sorted {f : Nat → ByteArray} {i : Nat} : ∀ {l : List Nat}, l.Pairwise (fun a b => nlt (f a) (f b)) → (∀ j ∈ l, f j ≠ f i) → (insN f i l).Pairwise fun a b => nlt (f a) (f b)
  | [], _, _ => by simp [insN]
  | a :: r, h, hne => by
    obtain ⟨h1, h2⟩ := List.pairwise_cons.1 h
    unfold insN
    split
    · rename_i hlt
      refine List.pairwise_cons.2 ⟨fun b hb => ?_, h⟩
      rcases List.mem_cons.1 hb with rfl | hb
      · exact hlt
      · exact nlt_trans hlt (h1 b hb)
    · rename_i hlt
      refine List.pairwise_cons.2 ⟨fun b hb => ?_, insN_sorted h2 fun j hj => hne j (by simp [hj])⟩
      rcases mem_insN.1 hb with rfl | hb
      · exact nlt_total hlt (Ne.symm (hne a (by simp)))
      · exact h1 b hb
end Go.Proofs.YtdmkjbdlidadiaaGreat

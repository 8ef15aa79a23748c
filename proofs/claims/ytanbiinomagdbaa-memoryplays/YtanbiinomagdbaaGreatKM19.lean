/- What the proof stands on, part 19: the contracts of the program's calls that it reaches. -/
import Derived.Test.YtanbiinomagdbaaGreatKM18
import Derived.Lib.SlBytesConst
/- The reference's custom streams: Write, Seek. -/
namespace Go.Proofs.YtanbiinomagdbaaGreat
open Go.RowKit

theorem RCusP.less {W : World} {O : Nat → Prop} {g : Nat} {C : CS} {rv wv tv : Value} {m : Int} {R N : Nat → Prop} {k : Int} {r : List Int} (h : RCusP W O g C rv wv tv m R N) (hr : C.writes = k :: r) :
    ∃ b off cap, wv = .slice (some ⟨b, off, none⟩) (r.length + 1) cap ∧ W.cell? ⟨b, off, none⟩ = some (.int .i64 k) ∧ r.length + 1 ≤ cap ∧
      (1 < cap → RCusP (W.setCell ⟨g, 5, none⟩ (.slice (some ⟨b, off + 1, none⟩) r.length (cap - 1))) O g ⟨C.reads, r, C.taken⟩ rv (.slice (some ⟨b, off + 1, none⟩) r.length (cap - 1)) tv m R N) ∧
      (cap = 1 → r = [] ∧ ∀ a, RCusP (W.setCell ⟨g, 5, none⟩ (.slice a 0 0)) O g ⟨C.reads, r, C.taken⟩ rv (.slice a 0 0) tv m R N) := by
  have hN := h.num
  have z2 := h.z2
  rw [hr] at hN z2
  obtain ⟨a, cap, rfl, hcap, hc⟩ := hN
  obtain ⟨b, off, rfl, hb, hd⟩ := hc (by simp)
  have z2' : r.length ≤ 4096 := by simp at z2; omega
  rw [List.length_cons] at hcap
  refine ⟨b, off, cap, rfl, hd 0 (by simp), hcap, fun hc1 => ?_, fun hc1 => ?_⟩
  · refine h.set 5 _ (Go.heap_setCell_same W g 5 _ _ _ h.row) h.ans ⟨_, _, rfl, by show r.length ≤ cap - 1; omega, fun _ => ⟨b, off + 1, rfl, hb, fun j hj => ?_⟩⟩ rfl h.z1 z2' h.z3
    have hj' : j < r.length := hj
    have := hd (j + 1) (by simpa using hj')
    rw [show off + (j + 1) = off + 1 + j by omega] at this
    exact this
  · have hr0 : r = [] := List.length_eq_zero_iff.1 (by omega)
    subst hr0
    exact ⟨rfl, fun a => h.set 5 _ (Go.heap_setCell_same W g 5 _ _ _ h.row) h.ans ⟨_, _, rfl, Nat.le_refl _, fun h => absurd h (by simp)⟩ rfl h.z1 (by simp) h.z3⟩
theorem RCusAt.take {W : World} {O : Nat → Prop} {g : Nat} {C : CS} {a : Option Addr} {n c : Nat} {x : List UInt8} (ty : TypeId) (h : RCusAt W O g C) (hx : Bys W (.slice a n c) x) (hl : C.taken.length + x.length ≤ 140737488351232) :
    ∃ ta tl tc sa sl sc w', W.cell? ⟨g, 1, none⟩ = some (.slice ta tl tc) ∧ W.frozen? ⟨g, 1, none⟩ = false ∧ (Builtin.append_ #[40, 40] ty #[.slice ta tl tc, .slice a n c]).run Tryz.prog W = .ok (.slice sa sl sc) w' ∧ w'.cell? ⟨g, 1, none⟩ = some (.slice ta tl tc) ∧ w'.frozen? ⟨g, 1, none⟩ = false ∧
      RCStep W O g ⟨C.reads, C.writes, C.taken ++ x⟩ (w'.setCell ⟨g, 1, none⟩ (.slice sa sl sc)) := by
  obtain ⟨rv, wv, tv, m, R, N, h⟩ := h
  have hT := h.tak
  obtain ⟨ta, tc, rfl⟩ := owns_slice hT
  obtain ⟨s', w', hrun, HO, hgr, hbl⟩ := run_append_bytes W ty 0 (.slice ta C.taken.length tc) (.slice a n c) C.taken x hT hx hl (Nat.zero_le _)
  obtain ⟨sa, sc, rfl⟩ := owns_slice HO.out
  have hTu : Turned (fun k => (Value.slice ta C.taken.length tc).ownBlock = some k) W w' := ⟨hgr.os, hgr.tape, hgr.output, hgr.size, fun k hk hn => hgr.block k hk (fun e => hn e.symm)⟩
  have hgl := h.lt
  have hg' : w'.heap[g]? = some (.cells (rmc 4 (.slice ta C.taken.length tc) 0 0 rv wv m) 189) := (hTu.block g hgl (fun e => (h.ot g e).2.2.2 rfl)).trans h.row
  have hs := HO.out
  have hsl : ∀ k, (Value.slice sa (C.taken ++ x).length sc).ownBlock = some k → (O k ∨ W.heap.size ≤ k) ∧ ¬ (R k ∧ k < W.heap.size) ∧ ¬ (N k ∧ k < W.heap.size) ∧ k ≠ g := by
    intro k e
    rcases hbl with e' | e'
    · have e3 := h.ot k (by rw [← e', e])
      exact ⟨.inl e3.1, fun x => e3.2.1 x.1, fun x => e3.2.2.1 x.1, e3.2.2.2⟩
    · rw [e'] at e
      have e3 : W.heap.size = k := Option.some.inj e
      exact ⟨.inr (by omega), fun x => by omega, fun x => by omega, by omega⟩
  have hRt : ∀ k, R k → k < W.heap.size → w'.heap[k]? = W.heap[k]? := fun k e hl => hTu.block k hl (fun e' => (h.ot k e').2.1 e)
  have hNt : ∀ k, N k → k < W.heap.size → w'.heap[k]? = W.heap[k]? := fun k e hl => hTu.block k hl (fun e' => (h.ot k e').2.2.1 e)
  obtain ⟨hA', hN'⟩ := cus_rows h.ans h.num
  refine ⟨ta, _, tc, sa, _, sc, w', cell_of_row _ g 1 _ _ _ h.row, frozen_of_row _ g 1 _ _ h.row, hrun, cell_of_row _ g 1 _ _ _ hg', frozen_of_row _ g 1 _ _ hg', fun k => (O k ∧ k < W.heap.size) ∨ (Value.slice sa (C.taken ++ x).length sc).ownBlock = some k, ⟨rv, wv, .slice sa (C.taken ++ x).length sc, m, fun k => R k ∧ k < W.heap.size, fun k => N k ∧ k < W.heap.size, ?_⟩, fun k e => ?_, ?_⟩
  · exact ⟨Go.heap_setCell_same w' g 1 _ _ _ hg', hA'.keep fun k e hl => (heap_setCell_other _ _ _ _ (h.oR k e.1).2.1).trans (hRt k e.1 hl), hN'.keep fun k e hl => (heap_setCell_other _ _ _ _ (h.oN k e.1).2).trans (hNt k e.1 hl), owns_keep hs fun k e => heap_setCell_other _ _ _ _ (hsl k e).2.2.2,
      fun k e => ⟨.inr e, (hsl k e).2⟩, fun k e => ⟨.inl ⟨(h.oR k e.1).1, e.2⟩, (h.oR k e.1).2.1, fun x => (h.oR k e.1).2.2 x.1⟩, fun k e => ⟨.inl ⟨(h.oN k e.1).1, e.2⟩, (h.oN k e.1).2⟩, .inl ⟨h.og, hgl⟩, h.z1, h.z2, h.z3⟩
  · rcases e with e | e
    · exact .inl e.1
    · exact (hsl k e).1
  · exact (hTu.mono (S' := O) (fun k e => (h.ot k e).1)).set (.inl h.og)
def RTk (O : Nat → Prop) (g : Nat) (C : CS) (x : List UInt8) (w : World) (e : Ending) (w' : World) : Prop := e = .returned (.tuple #[.int .i64 (C.write x).1, .int .i64 (C.write x).2.1]) ∧ RCStep w O g (C.write x).2.2 w'
set_option maxRecDepth 100000 in
set_option maxHeartbeats 2000000 in
theorem rtaken_last (O : Nat → Prop) (g : Nat) (C : CS) (x : List UInt8) (a : Option Addr) (c : Nat) (w : World) (h : RCusAt w O g C) (hx : Bys w (.slice a x.length c) x) (hc : x.length ≤ c) (hl : x.length ≤ 1048576) (h0 : 0 < x.length) (hT : C.taken.length + x.length ≤ 140737488351232) (hw : C.writes = []) :
    Calls Tryz.prog 103 #[.pointer (some ⟨g, 0, none⟩), .slice a x.length c] w (RTk O g C x w) := by
  have q5 : ∃ a5 c5, w.cell? ⟨g, 5, none⟩ = some (.slice a5 0 c5) := by
    obtain ⟨rv, wv, tv, m, R, N, h⟩ := h
    have hN := h.num
    rw [hw] at hN
    obtain ⟨a5, c5, rfl, -⟩ := hN
    exact ⟨a5, c5, cell_of_row _ g 5 _ _ _ h.row⟩
  obtain ⟨a5, c5, q5⟩ := q5
  unfold RTk
  rw [CS.write_last hl (fun e => by rw [e] at h0; simp at h0) hw, ← hw]
  have e1 : ((x.length : Int) == -1) = false := by simp
  have e2 : ¬ (x.length : Int) < 0 := by omega
  have e3 : min (x.length : Int) (x.length : Int) = (x.length : Int) := by omega
  obtain ⟨ta, tl, tc, sa, sl, sc, w3, t1, t2, hrun, t3, t4, hS⟩ := (h.below (Below.refl _ _).drew).take 40 (hx.below (Below.refl _ _).drew) hT
  have HR := hide hrun
  have HS := hide hS
  have u1 : w.cell? ⟨g, 1, none⟩ = some (.slice ta tl tc) := t1
  have u2 : w.frozen? ⟨g, 1, none⟩ = false := t2
  clear hrun hS t1 t2 hx h hw
  go_enter Tryz.func103, Tryz.ntmps103
  go_wp2_with fail
  go_region_law (first | (refine step_append_run _ (by rfl) _ _ _ _ (by rfl) _ _ (by rfl) (by rfl) _ _ HR.out ?_) | fail)
  go_wp2
  go_ret2
  obtain ⟨O', a1, a2, a3⟩ := HS.out
  exact ⟨rfl, O', a1, a2, (Turned.of_below (S := O) (Below.refl _ w).drew).trans a3 (fun _ _ e => e)⟩
theorem RCusAt.less {W : World} {O : Nat → Prop} {g : Nat} {C : CS} {k : Int} {r : List Int} (h : RCusAt W O g C) (hr : C.writes = k :: r) :
    ∃ b off cap, W.cell? ⟨g, 5, none⟩ = some (.slice (some ⟨b, off, none⟩) (r.length + 1) cap) ∧ W.cell? ⟨b, off, none⟩ = some (.int .i64 k) ∧ W.frozen? ⟨g, 5, none⟩ = false ∧ r.length + 1 ≤ cap ∧ O g ∧
      (1 < cap → RCusAt (W.setCell ⟨g, 5, none⟩ (.slice (some ⟨b, off + 1, none⟩) r.length (cap - 1))) O g ⟨C.reads, r, C.taken⟩) ∧
      (cap = 1 → r = [] ∧ ∀ a, RCusAt (W.setCell ⟨g, 5, none⟩ (.slice a 0 0)) O g ⟨C.reads, r, C.taken⟩) := by
  obtain ⟨rv, wv, tv, m, R, N, h⟩ := h
  obtain ⟨b, off, cap, rfl, h1, h2, h3, h4⟩ := h.less hr
  exact ⟨b, off, cap, cell_of_row _ g 5 _ _ _ h.row, h1, frozen_of_row _ g 5 _ _ h.row, h2, h.og, fun hc => ⟨_, _, _, _, _, _, h3 hc⟩, fun hc => ⟨(h4 hc).1, fun a => ⟨_, _, _, _, _, _, (h4 hc).2 a⟩⟩⟩
set_option maxRecDepth 100000 in
set_option maxHeartbeats 2000000 in
theorem rtaken_fails (O : Nat → Prop) (g : Nat) (C : CS) (x : List UInt8) (r : List Int) (a : Option Addr) (c : Nat) (w : World) (h : RCusAt w O g C) (hl : x.length ≤ 1048576) (h0 : 0 < x.length) (hw : C.writes = -1 :: r) :
    Calls Tryz.prog 103 #[.pointer (some ⟨g, 0, none⟩), .slice a x.length c] w (RTk O g C x w) := by
  obtain ⟨b, off, cap, q5, c0, f5, hcap, og, hP1, hP2⟩ := h.less hw
  unfold RTk
  rw [CS.write_fails hl (fun e => by rw [e] at h0; simp at h0) hw (by decide)]
  have e4 : (0 : Int) < (r.length : Int) + 1 := by omega
  have H := hide (And.intro hP1 hP2)
  clear h hw hP1 hP2
  by_cases hc : cap = 1
  · subst hc
    obtain ⟨hr0, hP⟩ := H.out.2 rfl
    subst hr0
    have HP := hide hP
    clear hP H
    go_enter Tryz.func103, Tryz.ntmps103
    go_wp2
    go_ret2
    exact ⟨rfl, O, HP.out _, fun _ e => .inl e, (Turned.refl O w).set (.inl og)⟩
  · have HP := hide (H.out.1 (by omega))
    clear H
    go_enter Tryz.func103, Tryz.ntmps103
    go_wp2
    go_ret2
    exact ⟨rfl, O, HP.out, fun _ e => .inl e, (Turned.refl O w).set (.inl og)⟩
set_option maxRecDepth 100000 in
set_option maxHeartbeats 2000000 in
theorem rtaken_some (O : Nat → Prop) (g : Nat) (C : CS) (x : List UInt8) (k : Nat) (r : List Int) (a : Option Addr) (c : Nat) (w : World) (h : RCusAt w O g C) (hx : Bys w (.slice a x.length c) x) (hc : x.length ≤ c) (hap : ∀ j, (Value.slice a x.length c).ownBlock = some j → ¬ O j) (hl : x.length ≤ 1048576) (h0 : 0 < x.length) (hT : C.taken.length + x.length ≤ 140737488351232) (hw : C.writes = (k : Int) :: r) :
    Calls Tryz.prog 103 #[.pointer (some ⟨g, 0, none⟩), .slice a x.length c] w (RTk O g C x w) := by
  obtain ⟨b, off, cap, q5, c0, f5, hcap, og, hP1, hP2⟩ := h.less hw
  unfold RTk
  rw [CS.write_some hl (fun e => by rw [e] at h0; simp at h0) hw]
  obtain ⟨_, xb, xo, rfl, hxl, -⟩ := bys_block hx h0
  obtain ⟨mm, hmm⟩ : ∃ mm, mm = min k x.length := ⟨_, rfl⟩
  rw [← hmm]
  have e1 : ((k : Int) == -1) = false := by simp
  have e2 : ¬ (k : Int) < 0 := by omega
  have e3 : min (k : Int) (x.length : Int) = (mm : Int) := by omega
  have e4 : (0 : Int) < (r.length : Int) + 1 := by omega
  have hm1 : mm ≤ x.length := by omega
  have hm2 : mm ≤ c := by omega
  have htl : (x.take mm).length = mm := by rw [List.length_take]; omega
  have hcut : Bys w (.slice (some ⟨xb, xo, none⟩) mm c) (x.take mm) := by have := bys_cut hx 0 mm c (by omega); simpa using this
  have hcu : ∀ u, Bys (w.setCell ⟨g, 5, none⟩ u).drew (.slice (some ⟨xb, xo, none⟩) mm c) (x.take mm) := fun u => (hcut.set q5 (fun k e => by cases e) u).below (Below.refl _ _).drew
  have HX := hide hcu
  have H := hide (And.intro hP1 hP2)
  have hgb : ¬ g = xb := fun e => hap xb rfl (by rw [← e]; exact og)
  clear h hw hP1 hP2 hmm hcut hcu hx hap
  by_cases hc1 : cap = 1
  · subst hc1
    obtain ⟨hr0, hP⟩ := H.out.2 rfl
    subst hr0
    obtain ⟨ta, tl, tc, sa, sl, sc, w3, t1, t2, hrun, t3, t4, hS⟩ := ((hP (some ⟨b, off, none⟩)).below (Below.refl _ _).drew).take 40 (HX.out _) (by rw [htl]; show C.taken.length + mm ≤ _; omega)
    have HR := hide hrun
    have HS := hide hS
    have u1 : (w.setCell ⟨g, 5, none⟩ (.slice (some ⟨b, off, none⟩) 0 0)).cell? ⟨g, 1, none⟩ = some (.slice ta tl tc) := t1
    have u2 : (w.setCell ⟨g, 5, none⟩ (.slice (some ⟨b, off, none⟩) 0 0)).frozen? ⟨g, 1, none⟩ = false := t2
    clear hP H hrun hS t1 t2 HX
    go_enter Tryz.func103, Tryz.ntmps103
    go_wp2_with fail
    have hTu : Turned O w (w.setCell ⟨g, 5, none⟩ (.slice (some ⟨b, off, none⟩) 0 0)) := (Turned.refl O w).set (.inl og)
    have HTu := hide hTu
    clear hTu
    generalize w.setCell ⟨g, 5, none⟩ (.slice (some ⟨b, off, none⟩) 0 0) = w1 at *
    go_region_law (first | (refine step_append_run _ (by rfl) _ _ _ _ (by rfl) _ _ (by rfl) (by rfl) _ _ HR.out ?_) | fail)
    go_wp2
    go_ret2
    obtain ⟨O', a1, a2, a3⟩ := HS.out
    have hzs := HTu.out.size
    exact ⟨rfl, O', a1, fun k e => (a2 k e).imp id (fun (e' : w1.heap.size ≤ k) => Nat.le_trans hzs e'), HTu.out.trans ((Turned.of_below (S := O) (Below.refl _ w1).drew).trans a3 (fun _ _ e => e)) (fun _ _ e => e)⟩
  · have hP := H.out.1 (by omega)
    obtain ⟨ta, tl, tc, sa, sl, sc, w3, t1, t2, hrun, t3, t4, hS⟩ := (hP.below (Below.refl _ _).drew).take 40 (HX.out _) (by rw [htl]; show C.taken.length + mm ≤ _; omega)
    have HR := hide hrun
    have HS := hide hS
    have u1 : (w.setCell ⟨g, 5, none⟩ (.slice (some ⟨b, off + 1, none⟩) r.length (cap - 1))).cell? ⟨g, 1, none⟩ = some (.slice ta tl tc) := t1
    have u2 : (w.setCell ⟨g, 5, none⟩ (.slice (some ⟨b, off + 1, none⟩) r.length (cap - 1))).frozen? ⟨g, 1, none⟩ = false := t2
    clear hP H hrun hS t1 t2 HX
    go_enter Tryz.func103, Tryz.ntmps103
    go_wp2_with fail
    have hTu : Turned O w (w.setCell ⟨g, 5, none⟩ (.slice (some ⟨b, off + 1, none⟩) r.length (cap - 1))) := (Turned.refl O w).set (.inl og)
    have HTu := hide hTu
    clear hTu
    generalize w.setCell ⟨g, 5, none⟩ (.slice (some ⟨b, off + 1, none⟩) r.length (cap - 1)) = w1 at *
    go_region_law (first | (refine step_append_run _ (by rfl) _ _ _ _ (by rfl) _ _ (by rfl) (by rfl) _ _ HR.out ?_) | fail)
    go_wp2
    go_ret2
    obtain ⟨O', a1, a2, a3⟩ := HS.out
    have hzs := HTu.out.size
    exact ⟨rfl, O', a1, fun k e => (a2 k e).imp id (fun (e' : w1.heap.size ≤ k) => Nat.le_trans hzs e'), HTu.out.trans ((Turned.of_below (S := O) (Below.refl _ w1).drew).trans a3 (fun _ _ e => e)) (fun _ _ e => e)⟩
theorem rtaken_any (O : Nat → Prop) (g : Nat) (C : CS) (x : List UInt8) (a : Option Addr) (c : Nat) (w : World) (h : RCusAt w O g C) (hx : Bys w (.slice a x.length c) x) (hc : x.length ≤ c) (hap : ∀ j, (Value.slice a x.length c).ownBlock = some j → ¬ O j) (hp : ∀ k r, C.writes = k :: r → -1 ≤ k) (hl : x.length ≤ 1048576) (h0 : 0 < x.length) (hT : C.taken.length + x.length ≤ 140737488351232) :
    Calls Tryz.prog 103 #[.pointer (some ⟨g, 0, none⟩), .slice a x.length c] w (RTk O g C x w) := by
  cases hw : C.writes with
  | nil => exact rtaken_last O g C x a c w h hx hc hl h0 hT hw
  | cons k r =>
    by_cases hk : k < 0
    · obtain rfl : k = -1 := by have := hp k r hw; omega
      exact rtaken_fails O g C x r a c w h hl h0 hw
    · obtain ⟨k, rfl⟩ : ∃ n : Nat, k = n := ⟨k.toNat, by omega⟩
      exact rtaken_some O g C x k r a c w h hx hc hap hl h0 hT hw
set_option maxRecDepth 100000 in
set_option maxHeartbeats 2000000 in
theorem rrcwrite_any (O : Nat → Prop) (g : Nat) (C : CS) (x : List UInt8) (a : Option Addr) (c : Nat) (w : World) (h : RCusAt w O g C) (hx : Bys w (.slice a x.length c) x) (hc : x.length ≤ c) (hap : 0 < x.length → ∀ j, (Value.slice a x.length c).ownBlock = some j → ¬ O j) (hp : ∀ k r, C.writes = k :: r → -1 ≤ k) (hT : C.taken.length + x.length ≤ 140737488351232) :
    Calls Tryz.prog 26 #[.pointer (some ⟨g, 0, none⟩), .slice a x.length c] w (RTk O g C x w) := by
  obtain ⟨rv, wv, tv, m, R, N, hP⟩ := h
  have q0 : w.cell? ⟨g, 0, none⟩ = some (.int .i64 4) := cell_of_row w g 0 _ _ _ hP.row
  have q8 : w.cell? ⟨g, 8, none⟩ = some (.int .i64 m) := cell_of_row w g 8 _ _ _ hP.row
  have s8 := frozen_of_row w g 8 _ _ hP.row
  have r0 : ∀ c', (w.setCell ⟨g, 8, none⟩ (.int .i64 c')).cell? ⟨g, 0, none⟩ = some (.int .i64 4) := fun c' => cell_of_row _ g 0 _ _ _ (hP.tick c').row
  have HT : Hid (RCusAt (w.setCell ⟨g, 8, none⟩ (.int .i64 (wrap64 (m + 1)))) O g C ∧ Turned O w (w.setCell ⟨g, 8, none⟩ (.int .i64 (wrap64 (m + 1))))) := hide ⟨⟨_, _, _, _, _, _, hP.tick _⟩, (Turned.refl O w).set (.inl hP.og)⟩
  have HX := hide (And.intro hx hap)
  have og := hP.og
  clear hP hx hap
  unfold RTk
  by_cases h1 : 1048576 < x.length
  · rw [CS.write_long h1]
    have e1 : (1048576 : Int) < (x.length : Int) := by omega
    go_enter Tryz.func26, Tryz.ntmps26
    go_wp2
    go_ret2
    exact ⟨rfl, O, HT.out.1, fun _ e => .inl e, HT.out.2⟩
  by_cases h2 : x = []
  · subst h2
    rw [CS.write_none]
    simp only [List.length_nil] at *
    go_enter Tryz.func26, Tryz.ntmps26
    go_wp2
    go_ret2
    exact ⟨rfl, O, HT.out.1, fun _ e => .inl e, HT.out.2⟩
  have h0 : 0 < x.length := List.length_pos_iff.2 h2
  have e1 : ¬ (1048576 : Int) < (x.length : Int) := by omega
  have e2 : ((x.length : Int) == 0) = false := by simp; omega
  have HA := hide (rtaken_any O g C x a c (w.setCell ⟨g, 8, none⟩ (.int .i64 (wrap64 (m + 1)))) HT.out.1 (HX.out.1.set q8 (fun k e => by cases e) _) hc (HX.out.2 h0) hp (by omega) h0 hT)
  unfold RTk at HA
  clear h1 h2 hp HX
  generalize C.write x = X at *
  go_enter Tryz.func26, Tryz.ntmps26
  go_wp2_with fail
  have hz8 : (w.setCell ⟨g, 8, none⟩ (.int .i64 (wrap64 (m + 1)))).heap.size = w.heap.size := by simp [World.setCell]
  refine HA.out.mono ?_
  rintro _ w5 ⟨rfl, O', b1, b2, b3⟩
  have H5 : Hid (RCStep w O g X.2.2 w5) := hide ⟨O', b1, fun k e => by rw [hz8] at b2; exact b2 k e, HT.out.2.trans b3 (fun _ _ e => e)⟩
  clear b1 b2 b3 HT HA hz8
  go_wp2
  go_ret2
  exact ⟨rfl, H5.out⟩
set_option maxRecDepth 100000 in
set_option maxHeartbeats 2000000 in
theorem rrcseek_any (O : Nat → Prop) (g : Nat) (C : CS) (off wh : Int) (w : World) (h : RCusAt w O g C) :
    Calls Tryz.prog 27 #[.pointer (some ⟨g, 0, none⟩), .int .i64 off, .int .i64 wh] w fun e w' => e = .returned (.tuple #[.int .i64 0, .int .i64 66]) ∧ w = w' := by
  obtain ⟨rv, wv, tv, m, R, N, hP⟩ := h
  have q0 : w.cell? ⟨g, 0, none⟩ = some (.int .i64 4) := cell_of_row w g 0 _ _ _ hP.row
  clear hP
  go_enter Tryz.func27, Tryz.ntmps27
  go_wp2
  go_ret2
  exact ⟨rfl, rfl⟩
end Go.Proofs.YtanbiinomagdbaaGreat

/- Two objects in memory that share nothing. -/
namespace Go.Proofs.YtanbiinomagdbaaGreat
open Go.RowKit

structure OAt (A : World → (Nat → Prop) → Prop) : Prop where
  keep : ∀ {w w' : World} {O : Nat → Prop}, A w O → (∀ j, O j → j < w.heap.size → w'.heap[j]? = w.heap[j]?) → w.heap.size ≤ w'.heap.size → A w' O
  trim : ∀ {w : World} {O : Nat → Prop}, A w O → A w (fun k => O k ∧ k < w.heap.size)
def OStep (A : World → (Nat → Prop) → Prop) (w : World) (O : Nat → Prop) (w' : World) : Prop := ∃ O', A w' O' ∧ (∀ k, O' k → O k ∨ w.heap.size ≤ k) ∧ Turned O w w'
def Both (A B : World → (Nat → Prop) → Prop) (w : World) (Q : Nat → Prop) : Prop := ∃ O P, A w O ∧ B w P ∧ (∀ j, O j → Q j ∧ j < w.heap.size ∧ ¬ P j) ∧ ∀ j, P j → Q j ∧ j < w.heap.size
theorem Both.below {A B : World → (Nat → Prop) → Prop} {w w' : World} {Q : Nat → Prop} (h : Both A B w Q) (hA : OAt A) (hB : OAt B) (hb : Below w.heap.size w w') : Both A B w' (fun j => Q j ∧ (j < w.heap.size ∨ w'.heap.size ≤ j)) := by
  obtain ⟨O, P, h1, h2, h3, h4⟩ := h
  have hz := hb.size
  exact ⟨O, P, hA.keep h1 (fun j _ hl => hb.block j hl) hz, hB.keep h2 (fun j _ hl => hb.block j hl) hz, fun j e => ⟨⟨(h3 j e).1, .inl (h3 j e).2.1⟩, Nat.lt_of_lt_of_le (h3 j e).2.1 hz, (h3 j e).2.2⟩, fun j e => ⟨⟨(h4 j e).1, .inl (h4 j e).2⟩, Nat.lt_of_lt_of_le (h4 j e).2 hz⟩⟩
theorem Both.mono {A B : World → (Nat → Prop) → Prop} {w : World} {Q Q' : Nat → Prop} (h : Both A B w Q) (hq : ∀ j, Q j → Q' j) : Both A B w Q' := by
  obtain ⟨O, P, h1, h2, h3, h4⟩ := h
  exact ⟨O, P, h1, h2, fun j e => ⟨hq j (h3 j e).1, (h3 j e).2⟩, fun j e => ⟨hq j (h4 j e).1, (h4 j e).2⟩⟩
theorem Both.swap {A B : World → (Nat → Prop) → Prop} {w : World} {Q : Nat → Prop} (h : Both A B w Q) : Both B A w Q := by
  obtain ⟨O, P, h1, h2, h3, h4⟩ := h
  exact ⟨P, O, h2, h1, fun j e => ⟨(h4 j e).1, (h4 j e).2, fun e' => (h3 j e').2.2 e⟩, fun j e => ⟨(h3 j e).1, (h3 j e).2.1⟩⟩
theorem Both.one {A B : World → (Nat → Prop) → Prop} {w : World} {Q : Nat → Prop} (h : Both A B w Q) (hB : OAt B) :
    ∃ O, A w O ∧ (∀ j, O j → Q j ∧ j < w.heap.size) ∧ (∀ A' w1 w', Below w.heap.size w w1 → OAt A' → OStep A' w1 O w' → Both A' B w' (fun j => Q j ∨ w1.heap.size ≤ j) ∧ Turned Q w w') ∧
      ∀ A' w', A' w' O → Turned O w w' → Both A' B w' (fun j => Q j ∧ (j < w.heap.size ∨ w'.heap.size ≤ j)) ∧ Turned Q w w' := by
  obtain ⟨O, P, h1, h2, h3, h4⟩ := h
  refine ⟨O, h1, fun j e => ⟨(h3 j e).1, (h3 j e).2.1⟩, fun A' w1 w' hb1 hA' hS => ?_, fun A' w' hA' hT => ?_⟩
  · obtain ⟨O', a1, a2, a3⟩ := hS
    have hz := a3.size
    have hz1 := hb1.size
    refine ⟨⟨fun k => O' k ∧ k < w'.heap.size, P, hA'.trim a1, hB.keep h2 (fun j e hl => (a3.block j (Nat.lt_of_lt_of_le hl hz1) (fun e' => (h3 j e').2.2 e)).trans (hb1.block j hl)) (Nat.le_trans hz1 hz), fun j e => ⟨?_, e.2, fun e' => ?_⟩, fun j e => ⟨.inl (h4 j e).1, Nat.lt_of_lt_of_le (h4 j e).2 (Nat.le_trans hz1 hz)⟩⟩, (Turned.of_below hb1).trans (a3.mono fun k e => (h3 k e).1) (fun _ _ e => e)⟩
    · rcases a2 j e.1 with e1 | e1
      · exact .inl (h3 j e1).1
      · exact .inr e1
    · rcases a2 j e.1 with e1 | e1
      · exact (h3 j e1).2.2 e'
      · have := (h4 j e').2; omega
  · have hz := hT.size
    exact ⟨⟨O, P, hA', hB.keep h2 (fun j e hl => hT.block j hl (fun e' => (h3 j e').2.2 e)) hz, fun j e => ⟨⟨(h3 j e).1, .inl (h3 j e).2.1⟩, Nat.lt_of_lt_of_le (h3 j e).2.1 hz, (h3 j e).2.2⟩, fun j e => ⟨⟨(h4 j e).1, .inl (h4 j e).2⟩, Nat.lt_of_lt_of_le (h4 j e).2 hz⟩⟩, hT.mono fun k e => (h3 k e).1⟩
theorem Both.two {A B : World → (Nat → Prop) → Prop} {w : World} {Q : Nat → Prop} (h : Both A B w Q) (hA : OAt A) :
    ∃ P, B w P ∧ (∀ j, P j → Q j ∧ j < w.heap.size) ∧ (∀ B' w1 w', Below w.heap.size w w1 → OAt B' → OStep B' w1 P w' → Both A B' w' (fun j => Q j ∨ w1.heap.size ≤ j) ∧ Turned Q w w') ∧
      ∀ B' w', B' w' P → Turned P w w' → Both A B' w' (fun j => Q j ∧ (j < w.heap.size ∨ w'.heap.size ≤ j)) ∧ Turned Q w w' := by
  obtain ⟨P, h1, h2, h3, h4⟩ := h.swap.one hA
  exact ⟨P, h1, h2, fun B' w1 w' hb hB' hS => by obtain ⟨a, b⟩ := h3 B' w1 w' hb hB' hS; exact ⟨a.swap, b⟩, fun B' w' hB' hT => by obtain ⟨a, b⟩ := h4 B' w' hB' hT; exact ⟨a.swap, b⟩⟩
theorem Both.make {A B : World → (Nat → Prop) → Prop} {w w' : World} {O Q : Nat → Prop} (hA : OAt A) (hB : OAt B) (h1 : A w O) (hO : ∀ j, O j → j < w.heap.size → Q j) (hQ : ∀ j, w.heap.size ≤ j → j < w'.heap.size → Q j) (hb : Below w.heap.size w w') (h2 : B w' (fun k => w.heap.size ≤ k)) : Both A B w' Q := by
  have hz := hb.size
  exact ⟨fun k => O k ∧ k < w.heap.size, fun k => w.heap.size ≤ k ∧ k < w'.heap.size, hA.keep (hA.trim h1) (fun j _ hl => hb.block j hl) hz, hB.trim h2, fun j e => ⟨hO j e.1 e.2, by have := e.2; omega, fun e' => by have := e.2; have := e'.1; omega⟩, fun j e => ⟨hQ j e.1 e.2, e.2⟩⟩
end Go.Proofs.YtanbiinomagdbaaGreat

/- The statements' own example holds: alive answers true. -/
namespace Go.Proofs.YtanbiinomagdbaaGreat
open Go.RowKit

set_option maxHeartbeats 1000000 in
theorem num_me (x : Int) (w : World) :
    Calls Tryz.prog 23 #[.int .i64 x] w fun e w' => e = .returned (.int .i64 x) ∧ w = w' := by
  go_enter Tryz.func23, Tryz.ntmps23
  go_wp2
  go_ret
  exact ⟨rfl, rfl⟩
theorem mlit_bys (w : World) (l : List UInt8) (cs : Array Value) (n g : Nat) (fr : Nat × Nat) (hg : g = w.heap.size) (hn : n = l.length) (hcs : cs.toList = l.map bv) : Bys (w.alloc (Obj.cells cs 5 fr)) (.slice (some ⟨g, 0, none⟩) n n) l := by
  subst hn
  subst hg
  by_cases h0 : l.length = 0
  · exact .inr (.inl ⟨_, _, by rw [h0], List.length_eq_zero_iff.1 h0⟩)
  · refine .inr (.inr ⟨w.heap.size, 0, l.length, rfl, by omega, fun j hj => ?_⟩)
    rw [cell_of_row _ w.heap.size _ cs _ fr (heap_alloc_new w _)]
    have h1 : cs.toList[0 + j]? = (l.map bv)[j]? := by rw [hcs, Nat.zero_add]
    rw [Array.getElem?_toList] at h1
    rw [h1]
    simp [List.getD_eq_getElem?_getD, List.getElem?_eq_getElem hj, bv]

theorem mconv_lit (w : World) (C : Array Value) (n g m : Nat) (hg : g = w.heap.size) (hm : C.size = m) : (convert 40 40 (.slice (some ⟨g, 0, none⟩) n n)).run Tryz.prog (w.alloc (.cells C 5)) = .ok (.slice (some ⟨g, 0, none⟩) n n) (w.alloc (.cells C 5 (m, m + 1))) := by
  subst hg
  subst hm
  exact Lib.run_convert_bytes_const w 40 5 C n n Tryz.underlying40 Tryz.underlying5

theorem mem_o (g : Nat) (S : MS) : OAt (fun w O => MemAt w O g S) := ⟨fun h hk _ => h.keep hk, fun h => h.trim⟩
theorem cus_o (g : Nat) (C : CS) : OAt (fun w O => CusAt w O g C) := ⟨fun h hk _ => h.keep hk, fun h => h.trim⟩
theorem ex_answers (w : World) (q : Nat) (h : Bys w (.slice (some ⟨q, 0, none⟩) 2 2) [97, 98]) : AnsR (w.alloc (Obj.cells #[.slice (some ⟨q, 0, none⟩) 2 2, .int .i64 0] 187)) (.slice (some ⟨w.heap.size, 0, none⟩) 1 1) [([97, 98], 0)] := by
  have hB := recv4 w (Obj.cells #[.slice (some ⟨q, 0, none⟩) 2 2, .int .i64 0] 187)
  refine ⟨_, 1, rfl, fun _ => ⟨w.heap.size, 0, rfl, fun j hj => ?_⟩⟩
  obtain rfl : j = 0 := by simp at hj; omega
  refine ⟨some ⟨q, 0, none⟩, 2, ?_, ?_, h.below hB, by simp⟩
  · simp only [World.cell?, heap_alloc_new]; rfl
  · simp only [World.cell?, heap_alloc_new]; rfl
theorem ex_ints (w : World) : IntsR (w.alloc (Obj.cells #[.int .i64 1, .int .i64 (-1)] 3)) (.slice (some ⟨w.heap.size, 0, none⟩) 2 2) [1, -1] := by
  refine .inr ⟨_, 2, rfl, fun _ => ⟨w.heap.size, 0, rfl, fun j hj => ?_⟩⟩
  simp only [World.cell?, heap_alloc_new]
  have : j = 0 ∨ j = 1 := by simp at hj; omega
  rcases this with rfl | rfl <;> rfl
abbrev MC (x : Nat) (S : MS) (c : Nat) (C : CS) (w : World) (Q : Nat → Prop) : Prop := Both (fun w O => MemAt w O x S) (fun w O => CusAt w O c C) w Q
theorem lit_write {x c : Nat} {S S' : MS} {C : CS} {N E : Int} {l : List UInt8} (cs : Array Value) (n m : Nat) (w : World) (Q : Nat → Prop) (h : MC x S c C w Q) (hn : n = l.length) (hcs : cs.toList = l.map bv) (hS : S.write l = (N, E, S')) :
    Calls Tryz.prog 96 #[.pointer (some ⟨x, 0, none⟩), .slice (some ⟨w.heap.size, 0, none⟩) n n] (w.alloc (Obj.cells cs 5 (n, m))) fun e w' => e = .returned (.tuple #[.int .i64 N, .int .i64 E]) ∧ Hid (MC x S' c C w' (fun j => Q j ∨ w.heap.size ≤ j)) ∧ Hid (Turned Q w w') := by
  subst hn
  have hb := mlit_bys w l cs l.length w.heap.size (l.length, m) rfl rfl hcs
  have hB := recv4 w (Obj.cells cs 5 (l.length, m))
  generalize w.alloc (Obj.cells cs 5 (l.length, m)) = w1 at *
  obtain ⟨O, h1, h2, h3, -⟩ := h.one (cus_o _ _)
  have hz := hB.size
  refine (fmwrite_any O x S l _ _ w1 (h1.below hB) hb (Nat.le_refl _) (fun _ k hk e => ?_)).mono ?_
  · obtain rfl : w.heap.size = k := by simpa [Value.ownBlock] using hk
    have := (h2 _ e).2
    omega
  · rintro e w2 ⟨rfl, hS2⟩
    rw [hS] at hS2 ⊢
    obtain ⟨q1, q2⟩ := h3 (fun w O => MemAt w O x S') w1 w2 hB (mem_o _ _) hS2
    exact ⟨rfl, q1.mono (fun j e => e.imp id (fun e' => Nat.le_trans hz e')), q2⟩
theorem lit_cwrite {x c : Nat} {S : MS} {C C' : CS} {N E : Int} {l : List UInt8} (cs : Array Value) (n m : Nat) (w : World) (Q : Nat → Prop) (h : MC x S c C w Q) (hn : n = l.length) (hcs : cs.toList = l.map bv) (hS : C.write l = (N, E, C')) (hp : ∀ k r, C.writes = k :: r → -1 ≤ k) (hT : C.taken.length + l.length ≤ 140737488351232) :
    Calls Tryz.prog 100 #[.pointer (some ⟨c, 0, none⟩), .slice (some ⟨w.heap.size, 0, none⟩) n n] (w.alloc (Obj.cells cs 5 (n, m))) fun e w' => e = .returned (.tuple #[.int .i64 N, .int .i64 E]) ∧ Hid (MC x S c C' w' (fun j => Q j ∨ w.heap.size ≤ j)) ∧ Hid (Turned Q w w') := by
  subst hn
  have hb := mlit_bys w l cs l.length w.heap.size (l.length, m) rfl rfl hcs
  have hB := recv4 w (Obj.cells cs 5 (l.length, m))
  generalize w.alloc (Obj.cells cs 5 (l.length, m)) = w1 at *
  obtain ⟨O, h1, h2, h3, -⟩ := h.two (mem_o _ _)
  have hz := hB.size
  refine (cwrite_any O c C l _ _ w1 (h1.below hB) hb (Nat.le_refl _) (fun _ k hk e => ?_) hp hT).mono ?_
  · obtain rfl : w.heap.size = k := by simpa [Value.ownBlock] using hk
    have := (h2 _ e).2
    omega
  · rintro e w2 ⟨rfl, hS2⟩
    rw [hS] at hS2 ⊢
    obtain ⟨q1, q2⟩ := h3 (fun w O => CusAt w O c C') w1 w2 hB (cus_o _ _) hS2
    exact ⟨rfl, q1.mono (fun j e => e.imp id (fun e' => Nat.le_trans hz e')), q2⟩
theorem lit_read {x c : Nat} {S S' : MS} {C : CS} {E n : Int} {l : List UInt8} (w : World) (Q : Nat → Prop) (h : MC x S c C w Q) (hS : S.read n = (l, E, S')) :
    Calls Tryz.prog 98 #[.pointer (some ⟨x, 0, none⟩), .int .i64 n] w fun e w' => ∃ a cc, e = .returned (.tuple #[.slice a l.length cc, .int .i64 E]) ∧ Hid (w'.ownsRow w.heap.size 5 1 (.slice a l.length cc) l.length (l.map bv)) ∧ Hid (MC x S' c C w' (fun j => Q j ∧ (j < w.heap.size ∨ w'.heap.size ≤ j))) ∧ Hid (Turned Q w w') := by
  obtain ⟨O, h1, h2, -, h3⟩ := h.one (cus_o _ _)
  refine (fmread_any O x S n w h1).mono ?_
  rintro e w2 ⟨v, rfl, ho, hM, hT⟩
  rw [hS] at ho hM ⊢
  obtain ⟨a, cc, rfl⟩ := owns_slice ho
  obtain ⟨q1, q2⟩ := h3 (fun w O => MemAt w O x S') w2 hM hT
  exact ⟨a, cc, rfl, ho, q1, q2⟩
theorem lit_cread {x c : Nat} {S : MS} {C C' : CS} {E n : Int} {l : List UInt8} (w : World) (Q : Nat → Prop) (h : MC x S c C w Q) (hS : C.read n = (l, E, C')) :
    Calls Tryz.prog 99 #[.pointer (some ⟨c, 0, none⟩), .int .i64 n] w fun e w' => ∃ a cc, e = .returned (.tuple #[.slice a l.length cc, .int .i64 E]) ∧ Hid (w'.ownsRow w.heap.size 5 1 (.slice a l.length cc) l.length (l.map bv)) ∧ Hid (MC x S c C' w' (fun j => Q j ∧ (j < w.heap.size ∨ w'.heap.size ≤ j))) ∧ Hid (Turned Q w w') := by
  obtain ⟨O, h1, h2, -, h3⟩ := h.two (mem_o _ _)
  refine (cread_any O c C n w h1).mono ?_
  rintro e w2 ⟨v, rfl, ho, hM, hT⟩
  rw [hS] at ho hM ⊢
  obtain ⟨a, cc, rfl⟩ := owns_slice ho
  obtain ⟨q1, q2⟩ := h3 (fun w O => CusAt w O c C') w2 hM hT
  exact ⟨a, cc, rfl, ho, q1, q2⟩
theorem lit_seek {x c : Nat} {S S' : MS} {C : CS} {N E off wh : Int} (w : World) (Q : Nat → Prop) (h : MC x S c C w Q) (hS : S.seek off wh = (N, E, S')) :
    Calls Tryz.prog 97 #[.pointer (some ⟨x, 0, none⟩), .int .i64 off, .int .i64 wh] w fun e w' => e = .returned (.tuple #[.int .i64 N, .int .i64 E]) ∧ Hid (MC x S' c C w' (fun j => Q j ∨ w.heap.size ≤ j)) ∧ Hid (Turned Q w w') := by
  obtain ⟨O, h1, h2, h3, -⟩ := h.one (cus_o _ _)
  refine (fmseek_any O x S off wh w h1).mono ?_
  rintro e w2 ⟨rfl, hS2⟩
  rw [hS] at hS2 ⊢
  obtain ⟨q1, q2⟩ := h3 (fun w O => MemAt w O x S') w w2 (Below.refl _ _) (mem_o _ _) hS2
  exact ⟨rfl, q1, q2⟩
set_option maxRecDepth 100000 in
set_option maxHeartbeats 4000000 in
theorem malive_any (w : World) : Calls Tryz.prog 20 #[] w fun e w' => e = .returned (.bool true) ∧ Below w.heap.size w w' := by
  go_enter Tryz.func20, Tryz.ntmps20
  go_wp2_with fail
  refine (newFixed_good 3 (.slice none 0 0) [] w (.inl ⟨rfl, rfl⟩) (by decide) (by decide)).mono ?_
  rintro e w1 ⟨x, rfl, hX1, hB1⟩
  have HX1 := hide hX1
  have HB1 := hide hB1
  have c1 := mconv_lit w1 #[.int .u8 97, .int .u8 98] 2 w1.heap.size 2 rfl rfl
  simp only [Nat.reduceAdd] at c1
  clear hX1 hB1
  go_wp2_with fail
  have hb1 := mlit_bys w1 [97, 98] #[.int .u8 97, .int .u8 98] 2 w1.heap.size (2, 3) rfl rfl rfl
  have hB2 := recv4 w1 (Obj.cells #[.int .u8 97, .int .u8 98] 5 (2, 3))
  have hs2 : (w1.alloc (Obj.cells #[.int .u8 97, .int .u8 98] 5 (2, 3))).heap.size = w1.heap.size + 1 := by simp
  generalize w1.alloc (Obj.cells #[.int .u8 97, .int .u8 98] 5 (2, 3)) = w2 at *
  have ha := ex_answers w2 w1.heap.size hb1
  have hB3 := recv4 w2 (Obj.cells #[.slice (some ⟨w1.heap.size, 0, none⟩) 2 2, .int .i64 0] 187)
  have hs3 : (w2.alloc (Obj.cells #[.slice (some ⟨w1.heap.size, 0, none⟩) 2 2, .int .i64 0] 187)).heap.size = w1.heap.size + 1 + 1 := by simp [hs2]
  rw [hs2] at ha
  generalize w2.alloc (Obj.cells #[.slice (some ⟨w1.heap.size, 0, none⟩) 2 2, .int .i64 0] 187) = w3 at *
  have hi := ex_ints w3
  have hB4 := recv4 w3 (Obj.cells #[.int .i64 1, .int .i64 (-1)] 3)
  rw [hs3] at hi
  generalize w3.alloc (Obj.cells #[.int .i64 1, .int .i64 (-1)] 3) = w4 at *
  have hB14 : Below w1.heap.size w1 w4 := hB2.trans ((hB3.trans (hB4.mono (by omega))).mono (by omega))
  refine (newCustom_any _ _ [([97, 98], 0)] [1, -1] w4 (ha.below hB4) hi (by decide) (by decide)).mono ?_
  rintro e w5 (⟨⟨y, hy, hy2⟩, -⟩ | ⟨-, c, rfl, hC, hB5⟩)
  · simp at hy; subst hy; simp at hy2
  have hz1 := HB1.out.size
  have hz4 := hB14.size
  have HB5 := hide (HB1.out.trans ((hB14.trans (hB5.mono hB14.size)).mono HB1.out.size))
  have HP : Hid (MC x ⟨[], 3, 0⟩ c ⟨[([97, 98], 0)], [1, -1], []⟩ w5 (fun j => w.heap.size ≤ j)) :=
    hide (Both.make (mem_o _ _) (cus_o _ _) (HX1.out.trim.below hB14) (fun j e _ => e.1) (fun j e _ => by show w.heap.size ≤ j; omega) hB5 hC)
  clear HX1 HB1 hb1 hB2 hs2 ha hB3 hs3 hi hB4 hB14 hC hB5 c1 hz1 hz4
  have c1 := mconv_lit w5 #[.int .u8 97, .int .u8 98, .int .u8 99, .int .u8 100] 4 w5.heap.size 4 rfl rfl
  simp only [Nat.reduceAdd] at c1
  go_wp2_with (first | (go_at_call 23; refine (num_me _ _).mono ?_; rintro _ _ ⟨rfl, rfl⟩) | fail)
  refine (lit_write (S' := ⟨[97, 98, 99], 3, 3⟩) (N := 3) (E := 0) (l := [97, 98, 99, 100]) _ 4 _ w5 _ HP.out rfl rfl rfl).mono ?_
  rintro e w6 ⟨rfl, HP6, HT6⟩
  have c2 := mconv_lit w6 #[.int .u8 101] 1 w6.heap.size 1 rfl rfl
  simp only [Nat.reduceAdd] at c2
  clear HP c1
  go_wp2_with fail
  refine (lit_write (S' := ⟨[97, 98, 99], 3, 3⟩) (N := 0) (E := 31) (l := [101]) _ 1 _ w6 _ HP6.out rfl rfl rfl).mono ?_
  rintro e w7 ⟨rfl, HP7, HT7⟩
  clear HP6 c2
  go_wp2_with fail
  refine (lit_seek (S' := ⟨[97, 98, 99], 3, 1⟩) (N := 1) (E := 0) w7 _ HP7.out rfl).mono ?_
  rintro e w8 ⟨rfl, HP8, HT8⟩
  clear HP7
  go_wp2_with fail
  refine (lit_read (S' := ⟨[97, 98, 99], 3, 3⟩) (E := 0) (l := [98, 99]) w8 _ HP8.out rfl).mono ?_
  rintro e w9 ⟨ab, cb, rfl, HO9, HP9, HT9⟩
  clear HP8
  go_wp2_with fail
  refine (lit_cread (C' := ⟨[([98], 0)], [1, -1], []⟩) (E := 0) (l := [97]) w9 _ HP9.out rfl).mono ?_
  rintro e wa ⟨ad, cd, rfl, HOa, HPa, HTa⟩
  have c3 := mconv_lit wa #[.int .u8 120, .int .u8 121, .int .u8 122] 3 wa.heap.size 3 rfl rfl
  simp only [Nat.reduceAdd] at c3
  clear HP9
  go_wp2_with fail
  refine (lit_cwrite (C' := ⟨[([98], 0)], [-1], [120]⟩) (N := 1) (E := 0) (l := [120, 121, 122]) _ 3 _ wa _ HPa.out rfl rfl rfl (fun k r e => by cases e; decide) (by decide)).mono ?_
  rintro e wb ⟨rfl, HPb, HTb⟩
  have c4 := mconv_lit wb #[.int .u8 122] 1 wb.heap.size 1 rfl rfl
  simp only [Nat.reduceAdd] at c4
  clear HPa c3
  go_wp2_with fail
  refine (lit_cwrite (C' := ⟨[([98], 0)], [], [120]⟩) (N := 0) (E := 101) (l := [122]) _ 1 _ wb _ HPb.out rfl rfl rfl (fun k r e => by cases e; decide) (by decide)).mono ?_
  rintro e wc ⟨rfl, HPc, HTc⟩
  have hz5 := HB5.out.size
  have hz6 := HT6.out.size
  have hz7 := HT7.out.size
  have hz8 := HT8.out.size
  have hz9 := HT9.out.size
  have hza := HTa.out.size
  have hzb := HTb.out.size
  have hzc := HTc.out.size
  have o1 := owns_turned (owns_turned (owns_turned HO9.out HTa.out (fun k hk e => by have := HO9.out.lt k hk; omega)) HTb.out (fun k hk e => by have := HO9.out.lt k hk; omega)) HTc.out (fun k hk e => by have := HO9.out.lt k hk; omega)
  have o2 := owns_turned (owns_turned HOa.out HTb.out (fun k hk e => by have := HOa.out.lt k hk; omega)) HTc.out (fun k hk e => by have := HOa.out.lt k hk; omega)
  have s1 := owns_string o1
  have s2 := owns_string o2
  have hT : Turned (fun j => w.heap.size ≤ j) w5 wc := ((((((HT6.out.trans HT7.out (fun k _ e => by omega)).trans HT8.out (fun k _ e => by omega)).trans HT9.out (fun k _ e => by omega)).trans HTa.out (fun k _ e => by omega)).trans HTb.out (fun k _ e => by omega)).trans HTc.out (fun k _ e => by omega))
  have HBc := hide (HB5.out.trans (hT.below (fun k e => e) hz5))
  clear HPb c4 HPc HT6 HT7 HT8 HT9 HTa HTb HTc hT o1 o2 HO9 HOa hz5 hz6 hz7 hz8 hz9 hza hzb hzc
  simp only [List.length_cons, List.length_nil, Nat.reduceAdd] at s1 s2 ⊢
  go_wp2_with (first | (go_at_call 23; refine (num_me _ _).mono ?_; rintro _ _ ⟨rfl, rfl⟩) | fail)
  go_ret
  exact ⟨rfl, HBc.out⟩
end Go.Proofs.YtanbiinomagdbaaGreat

/- A Raw of either side, of any kind: what a law is told of the two. -/
namespace Go.Proofs.YtanbiinomagdbaaGreat
open Go.RowKit

structure RD (σ : Type) where
  read : σ → Int → List UInt8 × Int × σ
  write : σ → List UInt8 → Int × Int × σ
  seek : σ → Int → Int → Int × Int × σ
structure PlK {σ : Type} (D : RD σ) (T : TypeId) (v : Value) (g mb : Nat) (fr fw fs : FuncId) (A B : σ → World → (Nat → Prop) → Prop) (ok : Nat → σ → Prop) (Md : World → Prop) : Prop where
  mread : ∀ w, (method 480 T v "Read").run Tryz.prog w = .ok (fr, v) w
  mwrite : ∀ w, (method 480 T v "Write").run Tryz.prog w = .ok (fw, v) w
  mseek : ∀ w, (method 480 T v "Seek").run Tryz.prog w = .ok (fs, v) w
  cread : ∀ a w, (callFunc fr a).run Tryz.prog w = .ok (.enter fr a) w
  cwrite : ∀ a w, (callFunc fw a).run Tryz.prog w = .ok (.enter fw a) w
  cseek : ∀ a w, (callFunc fs a).run Tryz.prog w = .ok (.enter fs a) w
  oA : ∀ s, OAt (A s)
  oB : ∀ s, OAt (B s)
  less : ∀ n s, ok (n + 1) s → ok n s
  nr : ∀ n s k, ok (n + 1) s → ok n (D.read s k).2.2
  nw : ∀ n s x, ok (n + 1) s → x.length ≤ 1048576 → ok n (D.write s x).2.2
  ns : ∀ n s o wh, ok (n + 1) s → ok n (D.seek s o wh).2.2
  few : ∀ {w : World} {O : Nat → Prop} {s : σ} (n : Int), A s w O → (D.read s n).1.length ≤ 1048576
  pr : ∀ {w : World} {O : Nat → Prop} {s : σ} (n : Int), A s w O → ok 1 s → Calls Tryz.prog fr #[v, .int .i64 n] w fun e w' => ∃ u, e = .returned (.tuple #[u, .int .i64 (D.read s n).2.1]) ∧ w'.ownsRow w.heap.size 5 1 u (D.read s n).1.length ((D.read s n).1.map bv) ∧ A (D.read s n).2.2 w' O ∧ Turned O w w'
  qr : ∀ {w : World} {O : Nat → Prop} {s : σ} (n : Int), B s w O → ok 1 s → Calls Tryz.prog 21 #[.pointer (some ⟨g, 0, none⟩), .int .i64 n] w fun e w' => ∃ u, e = .returned (.tuple #[u, .int .i64 (D.read s n).2.1]) ∧ Bys w' u (D.read s n).1 ∧ OStep (B (D.read s n).2.2) w O w'
  pw : ∀ {w : World} {O : Nat → Prop} {s : σ} (x : List UInt8) (a : Option Addr) (c : Nat), A s w O → ok 1 s → Bys w (.slice a x.length c) x → x.length ≤ c → x.length ≤ 1048576 → (0 < x.length → ∀ k, (Value.slice a x.length c).ownBlock = some k → ¬ O k) →
    Calls Tryz.prog fw #[v, .slice a x.length c] w fun e w' => e = .returned (.tuple #[.int .i64 (D.write s x).1, .int .i64 (D.write s x).2.1]) ∧ OStep (A (D.write s x).2.2) w O w'
  qw : ∀ {w : World} {O : Nat → Prop} {s : σ} (x : List UInt8) (a : Option Addr) (c : Nat), B s w O → ok 1 s → Bys w (.slice a x.length c) x → x.length ≤ c → x.length ≤ 1048576 → (0 < x.length → ∀ k, (Value.slice a x.length c).ownBlock = some k → ¬ O k) →
    Calls Tryz.prog 26 #[.pointer (some ⟨g, 0, none⟩), .slice a x.length c] w fun e w' => e = .returned (.tuple #[.int .i64 (D.write s x).1, .int .i64 (D.write s x).2.1]) ∧ OStep (B (D.write s x).2.2) w O w'
  ps : ∀ {w : World} {O : Nat → Prop} {s : σ} (o wh : Int), A s w O → ok 1 s → I64 o → Calls Tryz.prog fs #[v, .int .i64 o, .int .i64 wh] w fun e w' => e = .returned (.tuple #[.int .i64 (D.seek s o wh).1, .int .i64 (D.seek s o wh).2.1]) ∧ OStep (A (D.seek s o wh).2.2) w O w'
  qs : ∀ {w : World} {O : Nat → Prop} {s : σ} (o wh : Int), B s w O → ok 1 s → I64 o → Calls Tryz.prog 27 #[.pointer (some ⟨g, 0, none⟩), .int .i64 o, .int .i64 wh] w fun e w' => e = .returned (.tuple #[.int .i64 (D.seek s o wh).1, .int .i64 (D.seek s o wh).2.1]) ∧ OStep (B (D.seek s o wh).2.2) w O w'
  same : ∀ {w : World} {s : σ}, Both (A s) (B s) w (fun j => mb < j) → Md w → ok 0 s → Calls Tryz.prog 28 #[.pointer (some ⟨mb, 0, none⟩)] w fun e w' => e = .returned (.bool true) ∧ Below w.heap.size w w'
abbrev PP {σ : Type} (A B : σ → World → (Nat → Prop) → Prop) (s : σ) (lo : Nat) (w : World) : Prop := Both (A s) (B s) w (fun j => lo ≤ j)
theorem PP.below {σ : Type} {A B : σ → World → (Nat → Prop) → Prop} {s : σ} {lo : Nat} {w w' : World} (h : PP A B s lo w) (hA : ∀ s, OAt (A s)) (hB : ∀ s, OAt (B s)) (hb : Below w.heap.size w w') : PP A B s lo w' := (Both.below h (hA s) (hB s) hb).mono fun _ e => e.1
theorem pk_read {σ : Type} {D : RD σ} {T : TypeId} {v : Value} {g mb : Nat} {fr fw fs : FuncId} {A B : σ → World → (Nat → Prop) → Prop} {ok : Nat → σ → Prop} {Md : World → Prop} (K : PlK D T v g mb fr fw fs A B ok Md) {s : σ} {lo : Nat} {w : World} (n : Int) (h : PP A B s lo w) (hlo : lo ≤ w.heap.size) (hok : ok 1 s) :
    ∀ wb, Below w.heap.size w wb → Calls Tryz.prog fr #[v, .int .i64 n] wb fun e w1 => ∃ a c, e = .returned (.tuple #[.slice a (D.read s n).1.length c, .int .i64 (D.read s n).2.1]) ∧ Turned (fun j => lo ≤ j) w w1 ∧
      ∀ w2, Below w1.heap.size w1 w2 → Calls Tryz.prog 21 #[.pointer (some ⟨g, 0, none⟩), .int .i64 n] w2 fun e w3 => ∃ a' c', e = .returned (.tuple #[.slice a' (D.read s n).1.length c', .int .i64 (D.read s n).2.1]) ∧ Bys w3 (.slice a' (D.read s n).1.length c') (D.read s n).1 ∧
        Hid (w3.ownsRow wb.heap.size 5 1 (.slice a (D.read s n).1.length c) (D.read s n).1.length ((D.read s n).1.map bv) ∧ Both (A (D.read s n).2.2) (B (D.read s n).2.2) w3 (fun j => lo ≤ j ∧ (Value.slice a (D.read s n).1.length c).ownBlock ≠ some j)) ∧ Turned (fun j => lo ≤ j) w w3 := by
  intro wb hb
  have hbb := Both.below h (K.oA _) (K.oB _) hb
  have hzb := hb.size
  obtain ⟨O, h1, h2, -, h3⟩ := hbb.one (K.oB _)
  refine (K.pr n h1 hok).mono ?_
  rintro e w1 ⟨u, rfl, ho, hM, hT⟩
  obtain ⟨a, c, rfl⟩ := owns_slice ho
  obtain ⟨q1, q2⟩ := h3 (A (D.read s n).2.2) w1 hM hT
  have hz1 := hT.size
  have hT1 : Turned (fun j => lo ≤ j) w w1 := (Turned.of_below (S := fun j => lo ≤ j) hb).trans (q2.mono fun _ e => e.1) (fun _ _ e => e)
  refine ⟨a, c, rfl, hT1, fun w2 hb2 => ?_⟩
  have hz2 := hb2.size
  have q3 := q1.below (K.oA _) (K.oB _) hb2
  obtain ⟨P, p1, p2, p3, -⟩ := q3.two (K.oA _)
  refine (K.qr n p1 hok).mono ?_
  rintro e w3 ⟨u', rfl, hy, hS⟩
  obtain ⟨a', c', rfl, -⟩ := bys_form hy
  have hTP : Turned P w2 w3 := by obtain ⟨_, _, _, t⟩ := hS; exact t
  obtain ⟨r1, r2⟩ := p3 (B (D.read s n).2.2) w2 w3 (Below.refl _ _) (K.oB _) hS
  have hou : ∀ k, (Value.slice a (D.read s n).1.length c).ownBlock = some k → wb.heap.size ≤ k ∧ k < w1.heap.size := fun k e => ho.lt k e
  refine ⟨a', c', rfl, hy, hide ⟨owns_turned (owns_below ho hb2) hTP (fun k hk e => ?_), r1.mono fun j e => ?_⟩, (hT1.trans (Turned.of_below (S := fun j => lo ≤ j) hb2) (fun _ _ e => e)).trans (r2.mono fun _ e => e.1.1.1) (fun _ _ e => e)⟩
  · have h5 := hou k hk
    have h6 := (p2 k e).1
    omega
  · rcases e with e | e
    · refine ⟨e.1.1.1, fun hk => ?_⟩
      have h5 := hou j hk
      omega
    · exact ⟨by omega, fun hk => by have h5 := hou j hk; omega⟩
theorem pk_num {σ : Type} {A B : σ → World → (Nat → Prop) → Prop} (oA : ∀ s, OAt (A s)) (oB : ∀ s, OAt (B s)) {s s' : σ} {lo : Nat} {w : World} {F G : FuncId} {X Y : Array Value} {N E : Int} (h : PP A B s lo w) (hlo : lo ≤ w.heap.size)
    (hF : ∀ O wb, A s wb O → (∀ j, O j → lo ≤ j ∧ (j < w.heap.size ∨ wb.heap.size ≤ j)) → Below w.heap.size w wb → Calls Tryz.prog F X wb fun e w' => e = .returned (.tuple #[.int .i64 N, .int .i64 E]) ∧ OStep (A s') wb O w')
    (hG : ∀ O wb, B s wb O → (∀ j, O j → lo ≤ j) → Turned (fun j => lo ≤ j) w wb → Calls Tryz.prog G Y wb fun e w' => e = .returned (.tuple #[.int .i64 N, .int .i64 E]) ∧ OStep (B s') wb O w') :
    ∀ wb, Below w.heap.size w wb → Calls Tryz.prog F X wb fun e w1 => e = .returned (.tuple #[.int .i64 N, .int .i64 E]) ∧ Turned (fun j => lo ≤ j ∧ (j < w.heap.size ∨ wb.heap.size ≤ j)) wb w1 ∧ Turned (fun j => lo ≤ j) w w1 ∧
      ∀ w2, Below w1.heap.size w1 w2 → Calls Tryz.prog G Y w2 fun e w3 => e = .returned (.tuple #[.int .i64 N, .int .i64 E]) ∧ Hid (PP A B s' lo w3) ∧ Turned (fun j => lo ≤ j ∧ (j < w.heap.size ∨ wb.heap.size ≤ j)) wb w3 ∧ Turned (fun j => lo ≤ j) w w3 := by
  intro wb hb
  have hbb := Both.below h (oA _) (oB _) hb
  have hzb := hb.size
  obtain ⟨O, h1, h2, h3, -⟩ := hbb.one (oB _)
  refine (hF O wb h1 (fun j e => (h2 j e).1) hb).mono ?_
  rintro e w1 ⟨rfl, hS⟩
  obtain ⟨q1, q2⟩ := h3 (A s') wb w1 (Below.refl _ _) (oA _) hS
  have hT1 : Turned (fun j => lo ≤ j) w w1 := (Turned.of_below (S := fun j => lo ≤ j) hb).trans (q2.mono fun _ e => e.1) (fun _ _ e => e)
  refine ⟨rfl, q2, hT1, fun w2 hb2 => ?_⟩
  have hz1 := q2.size
  have hz2 := hb2.size
  have q3 := q1.below (oA _) (oB _) hb2
  obtain ⟨P, p1, p2, p3, -⟩ := q3.two (oA _)
  have hT2 := hT1.trans (Turned.of_below (S := fun j => lo ≤ j) hb2) (fun _ _ e => e)
  refine (hG P w2 p1 (fun j e => by rcases (p2 j e).1.1 with e | e; exact e.1; exact Nat.le_trans (Nat.le_trans hlo hzb) e) hT2).mono ?_
  rintro e w3 ⟨rfl, hS3⟩
  obtain ⟨r1, r2⟩ := p3 (B s') w2 w3 (Below.refl _ _) (oB _) hS3
  have hin : ∀ j, ((fun j => ((lo ≤ j ∧ (j < w.heap.size ∨ wb.heap.size ≤ j)) ∨ wb.heap.size ≤ j) ∧ (j < w1.heap.size ∨ w2.heap.size ≤ j)) j) → lo ≤ j ∧ (j < w.heap.size ∨ wb.heap.size ≤ j) := fun j e => by
    rcases e.1 with e1 | e1
    · exact e1
    · exact ⟨by omega, .inr e1⟩
  refine ⟨rfl, hide (r1.mono fun j e => ?_), (q2.trans (Turned.of_below (S := fun j => lo ≤ j ∧ (j < w.heap.size ∨ wb.heap.size ≤ j)) hb2) (fun _ _ e => e)).trans (r2.mono hin) (fun _ _ e => e), hT2.trans (r2.mono fun j e => (hin j e).1) (fun _ _ e => e)⟩
  rcases e with e | e
  · exact (hin j e).1
  · show lo ≤ j; omega
end Go.Proofs.YtanbiinomagdbaaGreat

/- A kernel's description as a plant's kind, given its Same. -/
namespace Go.Proofs.YtanbiinomagdbaaGreat
open Go.RowKit Go.Maps

def kpD (d : Int) : RD KS := ⟨fun K n => K.read d n, fun K b => K.write d b, fun K o wh => K.seek d o wh⟩
theorem kat_o (kb : Nat) (K : KS) : OAt (fun w O => KAt w O kb K) := ⟨fun h hk hs => h.keep hk hs, fun h => h.trim⟩
theorem RwS.trim {g mb : Nat} {d : Int} {W : World} {O : Nat → Prop} {K : KS} (h : RwS g mb d W O K) : RwS g mb d W (fun k => O k ∧ k < W.heap.size) K := by
  obtain ⟨P, c, h1, h2, h3, h4, h5⟩ := h
  exact ⟨_, c, h1, h2.trim, fun k e => ⟨h3 k e.1, e.2⟩, ⟨h4, (Array.getElem?_eq_some_iff.1 h1).1⟩, fun e => h5 e.1⟩
theorem rws_o (g mb : Nat) (d : Int) (K : KS) : OAt (fun w O => RwS g mb d w O K) := ⟨fun h hk hs => h.keep hk hs, fun h => h.trim⟩
def kOk (n : Nat) (K : KS) : Prop := PInv K ∧ K.reads + n ≤ 4611686018427387904 ∧ K.writes + n ≤ 4611686018427387904
theorem seek_counts (K : KS) (d o wh : Int) : (K.seek d o wh).2.2.reads = K.reads ∧ (K.seek d o wh).2.2.writes = K.writes := by
  unfold KS.seek
  split
  · exact ⟨rfl, rfl⟩
  split
  · split
    · exact ⟨rfl, rfl⟩
    repeat' split
    all_goals exact ⟨rfl, rfl⟩
  · exact ⟨rfl, rfl⟩
theorem read_counts (K : KS) (d n : Int) : (K.read d n).2.2.reads ≤ K.reads + 1 ∧ (K.read d n).2.2.writes = K.writes := by
  unfold KS.read
  cases hx : K.find d with
  | none => exact ⟨Nat.le_succ _, rfl⟩
  | some y =>
    simp only
    split
    · exact ⟨Nat.le_succ _, rfl⟩
    split
    · exact ⟨Nat.le_succ _, rfl⟩
    split
    · exact ⟨Nat.le_succ _, rfl⟩
    split
    · exact ⟨Nat.le_succ _, rfl⟩
    split
    · cases ho : K.tho y <;> exact ⟨Nat.le_refl _, rfl⟩
    · exact ⟨Nat.le_refl _, rfl⟩
theorem write_counts (K : KS) (d : Int) (b : List UInt8) : (K.write d b).2.2.writes ≤ K.writes + 1 ∧ (K.write d b).2.2.reads = K.reads := by
  unfold KS.write
  cases hx : K.find d with
  | none => exact ⟨Nat.le_succ _, rfl⟩
  | some y =>
    simp only
    split
    · exact ⟨Nat.le_succ _, rfl⟩
    split
    · exact ⟨Nat.le_succ _, rfl⟩
    split
    · exact ⟨Nat.le_succ _, rfl⟩
    split
    · split
      · cases ho : K.tho y <;> exact ⟨Nat.le_refl _, rfl⟩
      · exact ⟨Nat.le_refl _, rfl⟩
    · exact ⟨Nat.le_succ _, rfl⟩
end Go.Proofs.YtanbiinomagdbaaGreat

/- A plant's kinds: memories and custom streams. -/
namespace Go.Proofs.YtanbiinomagdbaaGreat
open Go.RowKit

theorem rmem_o (g : Nat) (kind : Int) (S : MS) : OAt (fun w O => RMemAt w O g kind S) := ⟨fun h hk _ => h.keep hk, fun h => h.trim⟩
theorem RCusAt.trim {W : World} {O : Nat → Prop} {g : Nat} {C : CS} (h : RCusAt W O g C) : RCusAt W (fun k => O k ∧ k < W.heap.size) g C := by
  obtain ⟨rv, wv, tv, m, R, N, h⟩ := h
  obtain ⟨hA', hN'⟩ := cus_rows h.ans h.num
  exact ⟨rv, wv, tv, m, _, _, ⟨h.row, hA', hN', h.tak, fun k e => ⟨⟨(h.ot k e).1, (h.tak.lt k e).2⟩, fun x => (h.ot k e).2.1 x.1, fun x => (h.ot k e).2.2.1 x.1, (h.ot k e).2.2.2⟩, fun k e => ⟨⟨(h.oR k e.1).1, e.2⟩, (h.oR k e.1).2.1, fun x => (h.oR k e.1).2.2 x.1⟩, fun k e => ⟨⟨(h.oN k e.1).1, e.2⟩, (h.oN k e.1).2⟩, ⟨h.og, h.lt⟩, h.z1, h.z2, h.z3⟩⟩
theorem rcus_o (g : Nat) (C : CS) : OAt (fun w O => RCusAt w O g C) := ⟨fun h hk _ => h.keep hk, fun h => h.trim⟩
def msD : RD MS := ⟨MS.read, MS.write, MS.seek⟩
def rdD : RD MS := ⟨MS.read, fun S _ => (0, 65, S), MS.seek⟩
def csD : RD CS := ⟨CS.read, CS.write, fun C _ _ => (0, 66, C)⟩
def csOk (n : Nat) (C : CS) : Prop := C.taken.length + n * 1048576 ≤ 140737488351232 ∧ ∀ k ∈ C.writes, -1 ≤ k
theorem ms_few {w : World} {O : Nat → Prop} {g : Nat} {S : MS} (n : Int) (h : MemAt w O g S) : (S.read n).1.length ≤ 1048576 := by
  have h1 := h.ok
  unfold MS.read
  split
  · show (piece S.l S.pl n.toNat).length ≤ _; rw [piece_len]; omega
  · exact Nat.zero_le _
theorem cs_few {w : World} {O : Nat → Prop} {g : Nat} {C : CS} (n : Int) (h : CusAt w O g C) : (C.read n).1.length ≤ 1048576 := by
  obtain ⟨rv, wv, tv, R, N, -, -, -, -, -, -, -, -, -, -, -, l3⟩ := h
  unfold CS.read
  split
  · exact Nat.zero_le _
  split
  · exact Nat.zero_le _
  split
  · exact Nat.zero_le _
  · rename_i x r hr
    have := l3 x (by rw [hr]; exact List.mem_cons_self)
    split
    · exact Nat.zero_le _
    split
    · show (x.1.take _).length ≤ _; rw [List.length_take]; omega
    · exact this
def mdc (T : TypeId) (v : Value) (g : Nat) (f q c : Option Addr) : Array Value := #[.iface T v, .pointer (some ⟨g, 0, none⟩), .pointer f, .pointer q, .pointer c, .pointer none, .pointer none]
def MdAt (mb : Nat) (T : TypeId) (v : Value) (g : Nat) (f q c : Option Addr) (w : World) : Prop := w.heap[mb]? = some (.cells (mdc T v g f q c) 65)
set_option maxRecDepth 100000 in
set_option maxHeartbeats 2000000 in
theorem same_fixed (x g mb : Nat) (S : MS) (w : World) (h : Both (fun w O => MemAt w O x S) (fun w O => RMemAt w O g 1 S) w (fun j => mb < j)) (hm : MdAt mb 61 (.pointer (some ⟨x, 0, none⟩)) g (some ⟨x, 0, none⟩) none none w) :
    Calls Tryz.prog 28 #[.pointer (some ⟨mb, 0, none⟩)] w fun e w' => e = .returned (.bool true) ∧ Below w.heap.size w w' := by
  obtain ⟨O, P, hA, hB, -, -⟩ := h
  obtain ⟨ba, bc, g1, hby⟩ : ∃ ba bc, w.cell? ⟨g, 1, none⟩ = some (.slice ba S.l.length bc) ∧ Bys w (.slice ba S.l.length bc) S.l := by
    obtain ⟨ba, bc, m, hg, hr, -⟩ := hB
    exact ⟨ba, bc, cell_of_row w g 1 _ _ _ hg, Bys.of_owns hr⟩
  have q1 : w.cell? ⟨mb, 1, none⟩ = some (.pointer (some ⟨g, 0, none⟩)) := cell_of_row w mb 1 _ _ _ hm
  have q2 : w.cell? ⟨mb, 2, none⟩ = some (.pointer (some ⟨x, 0, none⟩)) := cell_of_row w mb 2 _ _ _ hm
  have hlen : S.l.length ≤ maxLen := by have := hA.ok; unfold maxLen; omega
  have HM := hide (fmbytes_any O x S w.drew (hA.below (Below.refl _ _).drew))
  have HY := hide hby
  have hgl : g < w.heap.size := World.block_lt_of_cell? w _ g1
  have hml : mb < w.heap.size := World.block_lt_of_cell? w _ q1
  clear hm hA hB hby
  go_enter Tryz.func28, Tryz.ntmps28
  go_wp2_with fail
  go_region_held3 (fun w' => w'.cell? ⟨mb, 1, none⟩ = some (.pointer (some ⟨g, 0, none⟩)) ∧ w'.cell? ⟨mb, 2, none⟩ = some (.pointer (some ⟨x, 0, none⟩)) ∧ w'.cell? ⟨g, 1, none⟩ = some (.slice ba S.l.length bc))
    (first | exact K3 | exact K2 | go_keep)
    (first
      | (go_at_call 106; refine HM.out.mono ?_; rintro _ w2 ⟨v, rfl, ho, hB2⟩; obtain ⟨va, vc, rfl⟩ := owns_slice ho; have K2 : w2.cell? ⟨mb, 1, none⟩ = some (.pointer (some ⟨g, 0, none⟩)) ∧ w2.cell? ⟨mb, 2, none⟩ = some (.pointer (some ⟨x, 0, none⟩)) ∧ w2.cell? ⟨g, 1, none⟩ = some (.slice ba S.l.length bc) := ⟨(hB2.cell (p := ⟨mb, 1, none⟩) hml).trans q1, (hB2.cell (p := ⟨mb, 2, none⟩) hml).trans q2, (hB2.cell (p := ⟨g, 1, none⟩) hgl).trans g1⟩)
      | (go_at_call 22; refine (same_any _ _ _ w2 (Bys.of_owns ho) (HY.out.below ((Below.refl _ w).drew.trans hB2)) hlen).mono ?_; rintro _ w3 ⟨rfl, hB3⟩; have K3 : w3.cell? ⟨mb, 1, none⟩ = some (.pointer (some ⟨g, 0, none⟩)) ∧ w3.cell? ⟨mb, 2, none⟩ = some (.pointer (some ⟨x, 0, none⟩)) ∧ w3.cell? ⟨g, 1, none⟩ = some (.slice ba S.l.length bc) := ⟨(hB3.cell (p := ⟨mb, 1, none⟩) (Nat.lt_of_lt_of_le hml hB2.size)).trans K2.1, (hB3.cell (p := ⟨mb, 2, none⟩) (Nat.lt_of_lt_of_le hml hB2.size)).trans K2.2.1, (hB3.cell (p := ⟨g, 1, none⟩) (Nat.lt_of_lt_of_le hgl hB2.size)).trans K2.2.2⟩)
      | fail)
  all_goals
    go_wp2
    go_ret
    exact ⟨rfl, (Below.refl _ w).drew.trans (hB2.trans (hB3.mono hB2.size))⟩
set_option maxRecDepth 100000 in
set_option maxHeartbeats 2000000 in
theorem same_growing (x g mb : Nat) (S : MS) (w : World) (h : Both (fun w O => MemAt w O x S) (fun w O => RMemAt w O g 2 S) w (fun j => mb < j)) (hm : MdAt mb 62 (.pointer (some ⟨x, 0, none⟩)) g none (some ⟨x, 0, none⟩) none w) :
    Calls Tryz.prog 28 #[.pointer (some ⟨mb, 0, none⟩)] w fun e w' => e = .returned (.bool true) ∧ Below w.heap.size w w' := by
  obtain ⟨O, P, hA, hB, -, -⟩ := h
  obtain ⟨ba, bc, g1, hby⟩ : ∃ ba bc, w.cell? ⟨g, 1, none⟩ = some (.slice ba S.l.length bc) ∧ Bys w (.slice ba S.l.length bc) S.l := by
    obtain ⟨ba, bc, m, hg, hr, -⟩ := hB
    exact ⟨ba, bc, cell_of_row w g 1 _ _ _ hg, Bys.of_owns hr⟩
  have q1 : w.cell? ⟨mb, 1, none⟩ = some (.pointer (some ⟨g, 0, none⟩)) := cell_of_row w mb 1 _ _ _ hm
  have q12 : w.cell? ⟨mb, 2, none⟩ = some (.pointer none) := cell_of_row w mb 2 _ _ _ hm
  have q2 : w.cell? ⟨mb, 3, none⟩ = some (.pointer (some ⟨x, 0, none⟩)) := cell_of_row w mb 3 _ _ _ hm
  have hlen : S.l.length ≤ maxLen := by have := hA.ok; unfold maxLen; omega
  have HM := hide (gmbytes_any O x S w.drew (hA.below (Below.refl _ _).drew))
  have HY := hide hby
  have hgl : g < w.heap.size := World.block_lt_of_cell? w _ g1
  have hml : mb < w.heap.size := World.block_lt_of_cell? w _ q1
  clear hm hA hB hby
  go_enter Tryz.func28, Tryz.ntmps28
  go_wp2_with fail
  go_region_held3 (fun w' => w'.cell? ⟨mb, 1, none⟩ = some (.pointer (some ⟨g, 0, none⟩)) ∧ w'.cell? ⟨mb, 3, none⟩ = some (.pointer (some ⟨x, 0, none⟩)) ∧ w'.cell? ⟨g, 1, none⟩ = some (.slice ba S.l.length bc))
    (first | exact K3 | exact K2 | go_keep)
    (first
      | (go_at_call 107; refine HM.out.mono ?_; rintro _ w2 ⟨v, rfl, ho, hB2⟩; obtain ⟨va, vc, rfl⟩ := owns_slice ho; have K2 : w2.cell? ⟨mb, 1, none⟩ = some (.pointer (some ⟨g, 0, none⟩)) ∧ w2.cell? ⟨mb, 3, none⟩ = some (.pointer (some ⟨x, 0, none⟩)) ∧ w2.cell? ⟨g, 1, none⟩ = some (.slice ba S.l.length bc) := ⟨(hB2.cell (p := ⟨mb, 1, none⟩) hml).trans q1, (hB2.cell (p := ⟨mb, 3, none⟩) hml).trans q2, (hB2.cell (p := ⟨g, 1, none⟩) hgl).trans g1⟩)
      | (go_at_call 22; refine (same_any _ _ _ w2 (Bys.of_owns ho) (HY.out.below ((Below.refl _ w).drew.trans hB2)) hlen).mono ?_; rintro _ w3 ⟨rfl, hB3⟩; have K3 : w3.cell? ⟨mb, 1, none⟩ = some (.pointer (some ⟨g, 0, none⟩)) ∧ w3.cell? ⟨mb, 3, none⟩ = some (.pointer (some ⟨x, 0, none⟩)) ∧ w3.cell? ⟨g, 1, none⟩ = some (.slice ba S.l.length bc) := ⟨(hB3.cell (p := ⟨mb, 1, none⟩) (Nat.lt_of_lt_of_le hml hB2.size)).trans K2.1, (hB3.cell (p := ⟨mb, 3, none⟩) (Nat.lt_of_lt_of_le hml hB2.size)).trans K2.2.1, (hB3.cell (p := ⟨g, 1, none⟩) (Nat.lt_of_lt_of_le hgl hB2.size)).trans K2.2.2⟩)
      | fail)
  all_goals
    go_wp2
    go_ret
    exact ⟨rfl, (Below.refl _ w).drew.trans (hB2.trans (hB3.mono hB2.size))⟩
set_option maxRecDepth 100000 in
set_option maxHeartbeats 2000000 in
theorem same_custom (x g mb : Nat) (S : CS) (w : World) (h : Both (fun w O => CusAt w O x S) (fun w O => RCusAt w O g S) w (fun j => mb < j)) (hm : MdAt mb 63 (.pointer (some ⟨x, 0, none⟩)) g none none (some ⟨x, 0, none⟩) w) (hl : S.taken.length ≤ 140737488351232) :
    Calls Tryz.prog 28 #[.pointer (some ⟨mb, 0, none⟩)] w fun e w' => e = .returned (.bool true) ∧ Below w.heap.size w w' := by
  obtain ⟨O, P, hA, hB, -, -⟩ := h
  obtain ⟨ba, bc, g1, hby⟩ : ∃ ba bc, w.cell? ⟨g, 1, none⟩ = some (.slice ba S.taken.length bc) ∧ Bys w (.slice ba S.taken.length bc) S.taken := by
    obtain ⟨rv, wv, tv, m, R, N, hB⟩ := hB
    have ht := hB.tak
    obtain ⟨ba, bc, rfl⟩ := owns_slice ht
    exact ⟨ba, bc, cell_of_row w g 1 _ _ _ hB.row, Bys.of_owns ht⟩
  have q1 : w.cell? ⟨mb, 1, none⟩ = some (.pointer (some ⟨g, 0, none⟩)) := cell_of_row w mb 1 _ _ _ hm
  have q12 : w.cell? ⟨mb, 2, none⟩ = some (.pointer none) := cell_of_row w mb 2 _ _ _ hm
  have q13 : w.cell? ⟨mb, 3, none⟩ = some (.pointer none) := cell_of_row w mb 3 _ _ _ hm
  have q2 : w.cell? ⟨mb, 4, none⟩ = some (.pointer (some ⟨x, 0, none⟩)) := cell_of_row w mb 4 _ _ _ hm
  have hlen : S.taken.length ≤ maxLen := by unfold maxLen; omega
  have HM := hide (ctaken_any O x S w.drew (hA.below (Below.refl _ _).drew) hl)
  have HY := hide hby
  have hgl : g < w.heap.size := World.block_lt_of_cell? w _ g1
  have hml : mb < w.heap.size := World.block_lt_of_cell? w _ q1
  clear hm hA hB hby
  go_enter Tryz.func28, Tryz.ntmps28
  go_wp2_with fail
  go_region_held3 (fun w' => w'.cell? ⟨mb, 1, none⟩ = some (.pointer (some ⟨g, 0, none⟩)) ∧ w'.cell? ⟨mb, 4, none⟩ = some (.pointer (some ⟨x, 0, none⟩)) ∧ w'.cell? ⟨g, 1, none⟩ = some (.slice ba S.taken.length bc))
    (first | exact K3 | exact K2 | go_keep)
    (first
      | (go_at_call 108; refine HM.out.mono ?_; rintro _ w2 ⟨v, rfl, ho, hB2⟩; obtain ⟨va, vc, rfl⟩ := owns_slice ho; have K2 : w2.cell? ⟨mb, 1, none⟩ = some (.pointer (some ⟨g, 0, none⟩)) ∧ w2.cell? ⟨mb, 4, none⟩ = some (.pointer (some ⟨x, 0, none⟩)) ∧ w2.cell? ⟨g, 1, none⟩ = some (.slice ba S.taken.length bc) := ⟨(hB2.cell (p := ⟨mb, 1, none⟩) hml).trans q1, (hB2.cell (p := ⟨mb, 4, none⟩) hml).trans q2, (hB2.cell (p := ⟨g, 1, none⟩) hgl).trans g1⟩)
      | (go_at_call 22; refine (same_any _ _ _ w2 (Bys.of_owns ho) (HY.out.below ((Below.refl _ w).drew.trans hB2)) hlen).mono ?_; rintro _ w3 ⟨rfl, hB3⟩; have K3 : w3.cell? ⟨mb, 1, none⟩ = some (.pointer (some ⟨g, 0, none⟩)) ∧ w3.cell? ⟨mb, 4, none⟩ = some (.pointer (some ⟨x, 0, none⟩)) ∧ w3.cell? ⟨g, 1, none⟩ = some (.slice ba S.taken.length bc) := ⟨(hB3.cell (p := ⟨mb, 1, none⟩) (Nat.lt_of_lt_of_le hml hB2.size)).trans K2.1, (hB3.cell (p := ⟨mb, 4, none⟩) (Nat.lt_of_lt_of_le hml hB2.size)).trans K2.2.1, (hB3.cell (p := ⟨g, 1, none⟩) (Nat.lt_of_lt_of_le hgl hB2.size)).trans K2.2.2⟩)
      | fail)
  all_goals
    go_wp2
    go_ret
    exact ⟨rfl, (Below.refl _ w).drew.trans (hB2.trans (hB3.mono hB2.size))⟩
set_option maxRecDepth 100000 in
set_option maxHeartbeats 2000000 in
theorem same_reader (x g mb : Nat) (w : World) (hm : MdAt mb 177 (.pointer (some ⟨x, 0, none⟩)) g none none none w) :
    Calls Tryz.prog 28 #[.pointer (some ⟨mb, 0, none⟩)] w fun e w' => e = .returned (.bool true) ∧ Below w.heap.size w w' := by
  have q2 : w.cell? ⟨mb, 2, none⟩ = some (.pointer none) := cell_of_row w mb 2 _ _ _ hm
  have q3 : w.cell? ⟨mb, 3, none⟩ = some (.pointer none) := cell_of_row w mb 3 _ _ _ hm
  have q4 : w.cell? ⟨mb, 4, none⟩ = some (.pointer none) := cell_of_row w mb 4 _ _ _ hm
  have q5 : w.cell? ⟨mb, 5, none⟩ = some (.pointer none) := cell_of_row w mb 5 _ _ _ hm
  clear hm
  go_enter Tryz.func28, Tryz.ntmps28
  go_wp2
  go_ret
  exact ⟨rfl, Below.refl _ _⟩
set_option maxRecDepth 100000 in
theorem pk_fixed (x g mb : Nat) : PlK msD 61 (.pointer (some ⟨x, 0, none⟩)) g mb 98 96 97 (fun S w O => MemAt w O x S) (fun S w O => RMemAt w O g 1 S) (fun _ _ => True) (MdAt mb 61 (.pointer (some ⟨x, 0, none⟩)) g (some ⟨x, 0, none⟩) none none) where
  mread w := by kernel_rfl
  mwrite w := by kernel_rfl
  mseek w := by kernel_rfl
  cread a w := by kernel_rfl
  cwrite a w := by kernel_rfl
  cseek a w := by kernel_rfl
  oA s := mem_o _ _
  oB s := rmem_o _ _ _
  less _ _ h := h
  nr _ _ _ h := h
  nw _ _ _ h _ := h
  ns _ _ _ _ h := h
  few n h := ms_few n h
  pr n h _ := fmread_any _ _ _ n _ h
  qr n h _ := (rrmread_any _ _ _ n _ _ h (.inl rfl)).mono fun e w' ⟨u, h1, h2, h3, h4⟩ => ⟨u, h1, h2, _, h3, fun _ e => .inl e, h4⟩
  pw y a c h _ hx hc _ hap := fmwrite_any _ _ _ y a c _ h hx hc hap
  qw y a c h _ hx hc _ hap := rrmwrite_any _ _ _ _ y a c _ h (.inl rfl) hx hc hap
  ps o wh h _ _ := fmseek_any _ _ _ o wh _ h
  qs o wh h _ _ := (rrmseek_any _ _ _ o wh _ _ h (.inl rfl)).mono fun e w' ⟨h1, h3, h4⟩ => ⟨h1, _, h3, fun _ e => .inl e, h4⟩
  same h hm _ := same_fixed x g mb _ _ h hm
set_option maxRecDepth 100000 in
theorem pk_growing (x g mb : Nat) : PlK msD 62 (.pointer (some ⟨x, 0, none⟩)) g mb 280 282 281 (fun S w O => MemAt w O x S) (fun S w O => RMemAt w O g 2 S) (fun _ _ => True) (MdAt mb 62 (.pointer (some ⟨x, 0, none⟩)) g none (some ⟨x, 0, none⟩) none) where
  mread w := by kernel_rfl
  mwrite w := by kernel_rfl
  mseek w := by kernel_rfl
  cread a w := by kernel_rfl
  cwrite a w := by kernel_rfl
  cseek a w := by kernel_rfl
  oA s := mem_o _ _
  oB s := rmem_o _ _ _
  less _ _ h := h
  nr _ _ _ h := h
  nw _ _ _ h _ := h
  ns _ _ _ _ h := h
  few n h := ms_few n h
  pr n h _ := gmread_any _ _ _ n _ h
  qr n h _ := (rrmread_any _ _ _ n _ _ h (.inr (.inl rfl))).mono fun e w' ⟨u, h1, h2, h3, h4⟩ => ⟨u, h1, h2, _, h3, fun _ e => .inl e, h4⟩
  pw y a c h _ hx hc _ hap := gmwrite_any _ _ _ y a c _ h hx hc hap
  qw y a c h _ hx hc _ hap := rrmwrite_any _ _ _ _ y a c _ h (.inr rfl) hx hc hap
  ps o wh h _ _ := gmseek_any _ _ _ o wh _ h
  qs o wh h _ _ := (rrmseek_any _ _ _ o wh _ _ h (.inr (.inl rfl))).mono fun e w' ⟨h1, h3, h4⟩ => ⟨h1, _, h3, fun _ e => .inl e, h4⟩
  same h hm _ := same_growing x g mb _ _ h hm
set_option maxRecDepth 100000 in
theorem pk_reader (x g mb : Nat) : PlK rdD 177 (.pointer (some ⟨x, 0, none⟩)) g mb 293 295 294 (fun S w O => MemAt w O x S) (fun S w O => RMemAt w O g 3 S) (fun _ _ => True) (MdAt mb 177 (.pointer (some ⟨x, 0, none⟩)) g none none none) where
  mread w := by kernel_rfl
  mwrite w := by kernel_rfl
  mseek w := by kernel_rfl
  cread a w := by kernel_rfl
  cwrite a w := by kernel_rfl
  cseek a w := by kernel_rfl
  oA s := mem_o _ _
  oB s := rmem_o _ _ _
  less _ _ h := h
  nr _ _ _ h := h
  nw _ _ _ h _ := h
  ns _ _ _ _ h := h
  few n h := ms_few n h
  pr n h _ := rmread_any _ _ _ n _ h
  qr n h _ := (rrmread_any _ _ _ n _ _ h (.inr (.inr rfl))).mono fun e w' ⟨u, h1, h2, h3, h4⟩ => ⟨u, h1, h2, _, h3, fun _ e => .inl e, h4⟩
  pw y a c h _ hx hc _ hap := (rmwrite_any _ _ _ _ _ h).mono fun e w' ⟨h1, h2⟩ => ⟨h1, _, h2 ▸ h, fun _ e => .inl e, h2 ▸ Turned.refl _ _⟩
  qw y a c h _ hx hc _ hap := (rrmwrite_reader _ _ _ _ _ _ _ h).mono fun e w' ⟨h1, h3, h4⟩ => ⟨h1, _, h3, fun _ e => .inl e, h4⟩
  ps o wh h _ _ := rmseek_any _ _ _ o wh _ h
  qs o wh h _ _ := (rrmseek_any _ _ _ o wh _ _ h (.inr (.inr rfl))).mono fun e w' ⟨h1, h3, h4⟩ => ⟨h1, _, h3, fun _ e => .inl e, h4⟩
  same h hm _ := same_reader x g mb _ hm
theorem csOk_more {n : Nat} {C : CS} (h : csOk (n + 1) C) : ∃ q, q = n * 1048576 ∧ C.taken.length + q + 1048576 ≤ 140737488351232 ∧ ∀ k ∈ C.writes, -1 ≤ k := by
  obtain ⟨h1, h2⟩ := h
  rw [Nat.succ_mul] at h1
  exact ⟨_, rfl, by rw [Nat.add_assoc]; exact h1, h2⟩
theorem csOk_mk {n q : Nat} {C : CS} (hq : q = n * 1048576) (h1 : C.taken.length + q ≤ 140737488351232) (h2 : ∀ k ∈ C.writes, -1 ≤ k) : csOk n C := ⟨by rw [← hq]; exact h1, h2⟩
theorem csOk_len {n : Nat} {C : CS} (h : csOk n C) : C.taken.length ≤ 140737488351232 := Nat.le_trans (Nat.le_add_right _ _) h.1
theorem csOk_one {C : CS} (h : csOk 1 C) (x : List UInt8) (hx : x.length ≤ 1048576) : C.taken.length + x.length ≤ 140737488351232 := by
  obtain ⟨q, _, h1, _⟩ := csOk_more h
  omega
theorem csOk_read (n : Nat) (C : CS) (k : Int) (h : csOk (n + 1) C) : csOk n (C.read k).2.2 := by
  obtain ⟨q, hq, h1, h2⟩ := csOk_more h
  have h3 : C.taken.length + q ≤ 140737488351232 := by omega
  unfold CS.read
  split
  · exact csOk_mk hq h3 h2
  split
  · exact csOk_mk hq h3 h2
  split
  · exact csOk_mk hq h3 h2
  split
  · exact csOk_mk hq h3 h2
  split <;> exact csOk_mk hq h3 h2
theorem csOk_write (n : Nat) (C : CS) (x : List UInt8) (h : csOk (n + 1) C) (hx : x.length ≤ 1048576) : csOk n (C.write x).2.2 := by
  obtain ⟨q, hq, h1, h2⟩ := csOk_more h
  have h3 : C.taken.length + q ≤ 140737488351232 := by omega
  unfold CS.write
  split
  · exact csOk_mk hq h3 h2
  split
  · exact csOk_mk hq h3 h2
  split
  · exact csOk_mk hq (by simp only [List.length_append]; omega) (by simp)
  · rename_i k r hw
    have h4 : ∀ k ∈ r, -1 ≤ k := fun k hk => h2 k (by rw [hw]; exact List.mem_cons_of_mem _ hk)
    split
    · exact csOk_mk hq h3 h4
    · exact csOk_mk hq (by simp only [List.length_append, List.length_take]; omega) h4
set_option maxRecDepth 100000 in
theorem pk_custom (x g mb : Nat) : PlK csD 63 (.pointer (some ⟨x, 0, none⟩)) g mb 99 100 283 (fun S w O => CusAt w O x S) (fun S w O => RCusAt w O g S) csOk (MdAt mb 63 (.pointer (some ⟨x, 0, none⟩)) g none none (some ⟨x, 0, none⟩)) where
  mread w := by kernel_rfl
  mwrite w := by kernel_rfl
  mseek w := by kernel_rfl
  cread a w := by kernel_rfl
  cwrite a w := by kernel_rfl
  cseek a w := by kernel_rfl
  oA s := cus_o _ _
  oB s := rcus_o _ _
  less n s h := by obtain ⟨q, hq, h1, h2⟩ := csOk_more h; exact csOk_mk hq (by omega) h2
  nr n s k h := csOk_read n s k h
  nw n s x h hx := csOk_write n s x h hx
  ns n s _ _ h := by obtain ⟨q, hq, h1, h2⟩ := csOk_more h; exact csOk_mk (C := s) hq (by omega) h2
  few n h := cs_few n h
  pr n h _ := cread_any _ _ _ n _ h
  qr n h _ := (rrcread_any _ _ n _ _ h).mono fun e w' ⟨u, h1, h2, h3, h4⟩ => ⟨u, h1, h2, _, h3, fun _ e => .inl e, h4⟩
  pw y a c h ho hx hc hl hap := cwrite_any _ _ _ y a c _ h hx hc hap (fun k r e => ho.2 k (by rw [e]; exact List.mem_cons_self)) (csOk_one ho y hl)
  qw y a c h ho hx hc hl hap := rrcwrite_any _ _ _ y a c _ h hx hc hap (fun k r e => ho.2 k (by rw [e]; exact List.mem_cons_self)) (csOk_one ho y hl)
  ps o wh h _ _ := (cseek_any _ _ _ o wh _ h).mono fun e w' ⟨h1, h2⟩ => ⟨h1, _, h2 ▸ h, fun _ e => .inl e, h2 ▸ Turned.refl _ _⟩
  qs o wh h _ _ := (rrcseek_any _ _ _ o wh _ h).mono fun e w' ⟨h1, h2⟩ => ⟨h1, _, h2 ▸ h, fun _ e => .inl e, h2 ▸ Turned.refl _ _⟩
  same h hm ho := same_custom x g mb _ _ h hm (csOk_len ho)
end Go.Proofs.YtanbiinomagdbaaGreat

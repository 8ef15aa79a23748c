/- FdtableNobody answers true for all setups, steps and calls, within the reach of a machine's memory: refused calls change nothing; tables that no call made, and such without a kernel, answer as nothing. -/
import Derived.Test.YtbhlnmekhgfgcaaGreatKM13
import Derived.BigRegionIn
import Derived.ProofKit
import Derived.OpenShut
import Derived.ShutString
import Derived.ChangeOld
import Derived.Below
import Derived.SizedLaws
/- A table's calls: Pipe. -/
namespace Go.Proofs.YtbhlnmekhgfgcaaGreat
open Go.RowKit Go.Shelf Go.Maps

attribute [local go_sem] Oper.semAt_some

def TS.pipe (S : TS) : Int × Int × Int × TS := match frees S.ds 64 with
  | x :: y :: _ => if S.K.pipe.2.2.1 = 0 then ((x : Int), (y : Int), 0, ⟨S.K.pipe.2.2.2, tset (tset S.ds x S.K.pipe.1) y S.K.pipe.2.1, tset (tset S.ms x false) y false⟩) else (0, 0, S.K.pipe.2.2.1, ⟨S.K.pipe.2.2.2, S.ds, S.ms⟩)
  | _ => (0, 0, 31, S)
/-- The two descriptors that were found so far. -/
def EndsAt (W : World) (E : Nat) (pre : List Nat) : Prop := ∃ x0 x1 : Int, W.heap[E]? = some (.cells #[.int .i64 x0, .int .i64 x1] 145 (0, 0)) ∧ (∀ a : Nat, pre[0]? = some a → x0 = (a : Int)) ∧ (∀ a : Nat, pre[1]? = some a → x1 = (a : Int))
theorem EndsAt.kept {W W' : World} {row : Option Nat} {E : Nat} {pre : List Nat} (h : EndsAt W E pre) (hg : W.grownBy W' row) (hr : ∀ r, row = some r → ∃ o : Obj, W.heap[r]? = some o ∧ o.isCells = false) : EndsAt W' E pre := by
  obtain ⟨x0, x1, h0, h1⟩ := h
  refine ⟨x0, x1, (hg.block E (Array.getElem?_eq_some_iff.1 h0).1 (fun e => ?_)).trans h0, h1⟩
  obtain ⟨o, ho, hc⟩ := hr E e.symm
  rw [h0] at ho
  cases ho
  cases hc
theorem far_two {W : World} {p q r : Addr} {u v : Value} (h1 : p.block ≠ r.block) (h2 : q.block ≠ r.block) : ((W.setCell p u).setCell q v).cell? r = W.cell? r :=
  (World.cell?_setCell_far _ _ _ _ h2).trans (World.cell?_setCell_far _ _ _ _ h1)
theorem box_far {W : World} {B B' j : Nat} {t : TypeId} {v u : Value} (h : Boxed W B t v) (hne : B ≠ B') : Boxed (W.setCell ⟨B', j, none⟩ u) B t v := by
  unfold Boxed at h ⊢
  rw [Below.heap_setCell _ _ _ _ hne]
  exact h
theorem pipe_i64 {K : KS} (h : K.next < 9223372036854775806) : I64 K.pipe.1 ∧ I64 K.pipe.2.1 := by
  unfold KS.pipe
  split
  · exact ⟨(⟨by decide, by decide⟩ : I64 0), (⟨by decide, by decide⟩ : I64 0)⟩
  · exact ⟨⟨by show (-9223372036854775808 : Int) ≤ (K.next : Int); omega, by show (K.next : Int) ≤ 9223372036854775807; omega⟩, ⟨by show (-9223372036854775808 : Int) ≤ ((K.next + 1 : Nat) : Int); omega, by show ((K.next + 1 : Nat) : Int) ≤ 9223372036854775807; omega⟩⟩
theorem TStep.mark {w W w5 : World} {O : Nat → Prop} {t kb D : Nat} {S' : TS} (hB : Below w.heap.size w W) (h : TStep W O t kb S' w5) (hD : D < W.heap.size) (hw : w.heap.size ≤ D) (hO : ¬ O D) (ht : t < w.heap.size) (o : Obj) : TStep w O t kb S' (w5.putObj D o) := by
  obtain ⟨O5, a1, a2, a3⟩ := h
  have T : Turned (fun k => k = D) w5 (w5.putObj D o) := (Turned.refl _ w5).grown (grownBy_putObj' w5 D o) (fun k e => .inl (by cases e; rfl))
  have hn : ¬ O5 D := fun e => by
    rcases a2 D e with e | e
    · exact hO e
    · omega
  exact ⟨O5, ⟨a1.k.keep (fun k hk hl => T.block k hl (fun e => hn (e ▸ hk))) T.size, a1.tb.turned T (by omega), a1.apart⟩, fun k e => (a2 k e).imp id (fun e => Nat.le_trans hB.size e), ((Turned.of_below hB).trans a3 (fun _ _ e => e)).trans T (fun k hk e => by subst e; omega)⟩
/-- A piece of code that goes on in one way: what is behind it is proved once. -/
theorem in_cut {F : Fence} {n : Nat} {P : Program} {c : Code} {Q : Exit → Act → World → Prop} {a : Act} {w : World} (A : Act) (W : World) (h : c.wpIn F n P (Exit.then (fun a' w' => a' = A ∧ w' = W) (fun _ _ _ => False)) a w) (hk : Q .normal A W) : c.wpIn F n P Q a w :=
  wpIn_mono h (fun e a' w' hq => by
    cases e with
    | normal => obtain ⟨rfl, rfl⟩ := hq; exact hk
    | _ => exact hq.elim)
theorem pipe_few {S : TS} (h : (frees S.ds 64).length ≤ 1) : S.pipe = (0, 0, 31, S) := by
  unfold TS.pipe
  split
  · rename_i e; rw [e] at h; simp at h
  · rfl
theorem pipe_two {S : TS} {x y : Nat} {r : List Nat} (h : frees S.ds 64 = x :: y :: r) : S.pipe = if S.K.pipe.2.2.1 = 0 then ((x : Int), (y : Int), 0, ⟨S.K.pipe.2.2.2, tset (tset S.ds x S.K.pipe.1) y S.K.pipe.2.1, tset (tset S.ms x false) y false⟩) else (0, 0, S.K.pipe.2.2.1, ⟨S.K.pipe.2.2.2, S.ds, S.ms⟩) := by
  unfold TS.pipe
  rw [h]
set_option maxRecDepth 100000 in
set_option maxHeartbeats 4000000 in
theorem tpipe_in (f : Nat) (hn : 3 ≤ f) (t kb : Nat) (O : Nat → Prop) (S : TS) (w : World) (h : TW w O t kb S) (hO : ∀ k, O k → k < w.heap.size) (hl : S.K.next + 1 < 9223372036854775807) :
    CallsIn Fence.wide f Tryz.prog 22 #[.pointer (some ⟨t, 0, none⟩)] w fun e w' => e = .returned (.tuple #[.int .i64 S.pipe.1, .int .i64 S.pipe.2.1, .int .i64 S.pipe.2.2.1]) ∧ TStep w O t kb S.pipe.2.2.2 w' := by
  have h1 : 1 ≤ f := by omega
  refine callsIn_of_wp_marks Tryz.func22 rfl trivial ?_ rfl
  simp only [Tryz.ntmps22, List.size_toArray, List.length_cons, List.length_nil, Nat.reduceAdd, Nat.reduceSub, Array.replicate_succ, Array.replicate_zero, List.push_toArray, List.append_toArray, List.nil_append, List.cons_append]
  have hmx : Tryz.prog.follows .mixedOrders = true := by kernel_rfl
  have hk := h.tb.ck
  gi_wp2_with (first | (refine ⟨trivial, ?_⟩; gi_at_call 41; refine (callsIn_wide.2 (tmade_any t kb _ hk)).mono ?_; rintro e w' ⟨rfl, rfl⟩) | (refine ⟨trivial, ?_⟩; gi_at_call 82; refine (free_in (f - 1) _ _).mono ?_; rintro e w' ⟨rfl, rfl⟩))
  have hB1 : Below w.heap.size w (((w.alloc (.cells #[.int .i64 0, .int .i64 0] 145)).alloc (.cells #[.int .i64 0] 3)).alloc (.cells #[.pointer (some ⟨t, 0, none⟩)] 39)) := (((Below.refl _ w).alloc (Nat.le_refl _) _).alloc (by simp) _).alloc (by simp; omega) _
  have hsz : (((w.alloc (.cells #[.int .i64 0, .int .i64 0] 145)).alloc (.cells #[.int .i64 0] 3)).alloc (.cells #[.pointer (some ⟨t, 0, none⟩)] 39)).heap.size = w.heap.size + 3 := by simp
  have bT := Boxed.new ((w.alloc (.cells #[.int .i64 0, .int .i64 0] 145)).alloc (.cells #[.int .i64 0] 3)) 39 (.pointer (some ⟨t, 0, none⟩))
  have bF := (Boxed.new (w.alloc (.cells #[.int .i64 0, .int .i64 0] 145)) 3 (.int .i64 0)).alloc (.cells #[.pointer (some ⟨t, 0, none⟩)] 39)
  simp only [World.size_alloc] at bT bF
  have hE0 : EndsAt (((w.alloc (.cells #[.int .i64 0, .int .i64 0] 145)).alloc (.cells #[.int .i64 0] 3)).alloc (.cells #[.pointer (some ⟨t, 0, none⟩)] 39)) w.heap.size [] := by
    refine ⟨0, 0, ?_, fun a e => absurd e (by simp), fun a e => absurd e (by simp)⟩
    rw [Below.heap_alloc _ _ _ (by simp; omega), Below.heap_alloc _ _ _ (by simp)]
    exact heap_alloc_new w _
  have hs' := h.tb.sl.below hB1
  have htl := h.tb.lt
  obtain ⟨W1, hW1⟩ : ∃ W1, W1 = (((w.alloc (.cells #[.int .i64 0, .int .i64 0] 145)).alloc (.cells #[.int .i64 0] 3)).alloc (.cells #[.pointer (some ⟨t, 0, none⟩)] 39)) := ⟨_, rfl⟩
  rw [← hW1] at hB1 hsz bT bF hE0 hs' ⊢
  clear hW1
  refine wpIn_rangeFunc_ownF rfl h1 (gf := 125) (lb := #[.pointer (some ⟨w.heap.size + 2, 0, none⟩)]) rfl trivial (enters_of Tryz.func125 (by kernel_rfl) rfl)
    (free_stops (f - 1) (by omega) (w.heap.size + 2) t S.ds _ (by rw [hsz]; omega) bT.cell hs') (fun h1 h2 => ⟨h2.1.trans h1.1, fun h => h2.2 (h1.2 h)⟩) (fun W l o o' hl _ _ _ => ⟨tcell_putObj (by rw [hsz] at hl; omega), fun h i hi => (tcell_putObj (by rw [hsz] at hl; omega)).trans (h i hi)⟩) (Below.refl _ _) (fun _ => rfl)
    (fun (pre : List Nat) W => (pre.length ≤ 1 ∧ EndsAt W w.heap.size pre ∧ Boxed W (w.heap.size + 1) 3 (.int .i64 pre.length)) ∧ Below w.heap.size w W)
    (fun c (pre : List Nat) W => (c = .exit 0 ∧ pre.length = 2 ∧ EndsAt W w.heap.size pre ∧ Boxed W (w.heap.size + 1) 3 (.int .i64 2)) ∧ Below w.heap.size w W)
    ?hI ?hIx ⟨⟨Nat.zero_le _, hE0, bF⟩, hB1⟩
    (fun x => { tmps := #[.pointer (some ⟨t, 0, none⟩), undef, .int .i64 0, .int .i64 0, .int .i64 0, .pointer (some ⟨w.heap.size, 0, none⟩), .pointer (some ⟨w.heap.size + 1, 0, none⟩), .int .i64 (x : Int), undef, undef, undef, .pointer (some ⟨t, 0, none⟩), .bool true, .bool false, .pointer (some ⟨t, 0, none⟩), .func (.func 125) #[] #[.pointer (some ⟨w.heap.size + 2, 0, none⟩)], .int .i64 (x : Int), undef, undef, undef, undef, undef, undef, undef, undef, undef, undef, undef, undef, undef, undef, undef, undef, undef, undef, undef, undef, undef, undef, undef, undef, undef, undef, undef, undef, undef, undef, undef, undef, undef, undef, undef, undef, undef, undef, undef, undef, undef], defers := [] }) ?assign ?body ?done ?stop
  case hI => exact fun s W W' row ⟨⟨e, b1, b2⟩, hB⟩ hg hr => ⟨⟨e, b1.kept hg (fun r e => (hr r e).2), Own.from (boxed_own _ _ (fun s : List Nat => .int .i64 s.length)) _ s W W' row b2 hg hr⟩, ownFrom_below (Nat.le_refl _) (by rw [hsz]; omega) s W W' row hB hg hr⟩
  case hIx => exact fun c s W W' row ⟨⟨e, e2, b1, b2⟩, hB⟩ hg hr => ⟨⟨e, e2, b1.kept hg (fun r e => (hr r e).2), Own.from (boxed_own _ _ (fun _ => .int .i64 2)) _ s W W' row b2 hg hr⟩, ownFrom_below (Nat.le_refl _) (by rw [hsz]; omega) s W W' row hB hg hr⟩
  case assign =>
    intro l x W K hK
    gi_wp2
    exact hK
  case body =>
    rintro l pre x W ⟨⟨hle, ⟨x0, x1, hE, e0, e1⟩, bF'⟩, hB⟩ _
    have q0 : W.cell? ⟨w.heap.size, 0, none⟩ = some (.int .i64 x0) := by rw [cell_of_row _ _ _ _ _ _ hE]; rfl
    have q1 : W.cell? ⟨w.heap.size, 1, none⟩ = some (.int .i64 x1) := by rw [cell_of_row _ _ _ _ _ _ hE]; rfl
    have g0 : W.frozen? ⟨w.heap.size, 0, none⟩ = false := frozen_of_row W _ 0 _ _ hE
    have g1 : W.frozen? ⟨w.heap.size, 1, none⟩ = false := frozen_of_row W _ 1 _ _ hE
    have hEl : w.heap.size < W.heap.size := (Array.getElem?_eq_some_iff.1 hE).1
    have HE := hide hE
    have HB := hide hB
    have He0 := hide e0
    clear hE hB e0 e1
    rcases pre with _ | ⟨a, _ | ⟨b, r⟩⟩
    · have bF'' : Boxed W (w.heap.size + 1) 3 (.int .i64 0) := bF'
      clear bF'
      have kF := bF''.cell
      have fF := bF''.frozen
      have HF := hide bF''
      clear bF''
      gi_wp2
      have hb : Boxed ((W.setCell ⟨w.heap.size, 0, none⟩ (.int .i64 (x : Int))).setCell ⟨w.heap.size + 1, 0, none⟩ (.int .i64 1)) (w.heap.size + 1) 3 (.int .i64 1) := Boxed.set (.int .i64 1) (box_far HF.out (by omega))
      have hEn : EndsAt ((W.setCell ⟨w.heap.size, 0, none⟩ (.int .i64 (x : Int))).setCell ⟨w.heap.size + 1, 0, none⟩ (.int .i64 1)) w.heap.size [x] := by
        refine ⟨(x : Int), x1, ?_, fun a e => by simp at e; rw [e], fun a e => absurd e (by simp)⟩
        rw [Below.heap_setCell _ _ _ _ (show w.heap.size ≠ w.heap.size + 1 by omega)]
        exact heap_setCell_same (cur := [.int .i64 x0, .int .i64 x1]) 0 (.int .i64 x) HE.out
      have hBl : Below w.heap.size w ((W.setCell ⟨w.heap.size, 0, none⟩ (.int .i64 (x : Int))).setCell ⟨w.heap.size + 1, 0, none⟩ (.int .i64 1)) := (HB.out.setCell (Nat.le_refl _) _).setCell (Nat.le_succ _) _
      have hFr : FreeKp (w.heap.size + 2) t S.ds W ((W.setCell ⟨w.heap.size, 0, none⟩ (.int .i64 (x : Int))).setCell ⟨w.heap.size + 1, 0, none⟩ (.int .i64 1)) := ⟨far_two (by show w.heap.size ≠ w.heap.size + 2; omega) (by show w.heap.size + 1 ≠ w.heap.size + 2; omega), fun hs i hi => (far_two (by show w.heap.size ≠ t; omega) (by show w.heap.size + 1 ≠ t; omega)).trans (hs i hi)⟩
      exact ⟨(KeepsOthers.setCell _ _ _).trans (KeepsOthers.setCell _ _ _), hFr, ⟨by simp, hEn, hb⟩, hBl⟩
    · have bF'' : Boxed W (w.heap.size + 1) 3 (.int .i64 1) := bF'
      clear bF'
      have kF := bF''.cell
      have fF := bF''.frozen
      have HF := hide bF''
      clear bF''
      gi_wp2
      have hb : Boxed ((W.setCell ⟨w.heap.size, 1, none⟩ (.int .i64 (x : Int))).setCell ⟨w.heap.size + 1, 0, none⟩ (.int .i64 2)) (w.heap.size + 1) 3 (.int .i64 2) := Boxed.set (.int .i64 2) (box_far HF.out (by omega))
      have hEn : EndsAt ((W.setCell ⟨w.heap.size, 1, none⟩ (.int .i64 (x : Int))).setCell ⟨w.heap.size + 1, 0, none⟩ (.int .i64 2)) w.heap.size [a, x] := by
        refine ⟨x0, (x : Int), ?_, fun b e => He0.out b (by simpa using e), fun b e => by simp at e; rw [e]⟩
        rw [Below.heap_setCell _ _ _ _ (show w.heap.size ≠ w.heap.size + 1 by omega)]
        exact heap_setCell_same (cur := [.int .i64 x0, .int .i64 x1]) 1 (.int .i64 x) HE.out
      have hBl : Below w.heap.size w ((W.setCell ⟨w.heap.size, 1, none⟩ (.int .i64 (x : Int))).setCell ⟨w.heap.size + 1, 0, none⟩ (.int .i64 2)) := (HB.out.setCell (Nat.le_refl _) _).setCell (Nat.le_succ _) _
      exact ⟨(KeepsOthers.setCell _ _ _).trans (KeepsOthers.setCell _ _ _), ⟨rfl, rfl, hEn, hb⟩, hBl⟩
    · simp at hle
  case done =>
    rintro D ys W hD rfl ⟨⟨hle, hE, bF'⟩, hB⟩ hK
    have HP := hide (pipe_few hle)
    have hT : TStep w O t kb S (W.putObj D (.deferred none)) := TStep.below h (hB.trans (belowK_b (w := w) (Nat.le_refl _) W D _ _ (by rw [hsz] at hD; omega) hK rfl rfl))
    have HT := hide hT
    clear hT hE h
    have kF := bF'.cell
    clear bF'
    rcases (show (frees S.ds 64).length = 0 ∨ (frees S.ds 64).length = 1 by omega) with hc | hc
    all_goals
      rw [hc] at kF
      clear hc hle
      gi_wp2
      refine ⟨by simp, .inl ⟨_, _, rfl, run_takeDeferred hK, ?_⟩⟩
      refine ⟨.tuple #[.int .i64 0, .int .i64 0, .int .i64 31], ?_, by rw [HP.out], by rw [HP.out]; exact HT.out⟩
      simp [results, Tryz.f22, go_sem]
  case stop =>
    rintro D c pre W hD hp ⟨⟨rfl, hl2, ⟨x0, x1, hE, e0, e1⟩, bF'⟩, hB⟩ hK
    obtain ⟨x, y, rfl⟩ : ∃ x y, pre = [x, y] := by
      match pre, hl2 with
      | [x, y], _ => exact ⟨x, y, rfl⟩
    obtain ⟨r, hr⟩ := hp
    have hP2 := pipe_two (S := S) (x := x) (y := y) (r := r) hr.symm
    obtain rfl := e0 x rfl
    obtain rfl := e1 y rfl
    have kF := bF'.cell
    have q0 : W.cell? ⟨w.heap.size, 0, none⟩ = some (.int .i64 x) := by rw [cell_of_row _ _ _ _ _ _ hE]; rfl
    have q1 : W.cell? ⟨w.heap.size, 1, none⟩ = some (.int .i64 y) := by rw [cell_of_row _ _ _ _ _ _ hE]; rfl
    have hW := h.below hB
    have hck := hW.tb.ck
    have HKp := hide ((callsIn_wide (n := f - 1)).2 (hW.k.pipe hl))
    have HW := hide hW
    have HB := hide hB
    have HE := hide hE
    clear hE e0 e1 hW hB
    have hx : x < 64 := by
      have : x ∈ frees S.ds 64 := by rw [← hr]; simp
      exact List.mem_range.1 (List.mem_filter.1 this).1
    have hy : y < 64 := by
      have : y ∈ frees S.ds 64 := by rw [← hr]; simp
      exact List.mem_range.1 (List.mem_filter.1 this).1
    have hI := pipe_i64 (K := S.K) (by omega)
    have HP2 := hide hP2
    have hDw : w.heap.size ≤ D := by rw [hsz] at hD; omega
    have HOD : Hid (¬ O D ∧ ¬ O w.heap.size) := hide ⟨fun e => by have := hO D e; omega, fun e => by have := hO _ e; omega⟩
    obtain ⟨v, hv⟩ : ∃ v, S.K.pipe = v := ⟨_, rfl⟩
    rw [hv] at HKp HP2 hI
    have HI := hide hI
    clear hr hP2 hs' hE0 bF bT hB1 hD hsz hO h hI hv bF' hl
    gi_wp2_with fail
    refine ⟨trivial, HKp.out.mono ?_⟩
    rintro e w5 ⟨rfl, hS⟩
    obtain ⟨O', s1, s2, hTk⟩ := id hS
    have hK5 : w5.heap[D]? = some (.deferred (some [])) := (hTk.block D (Array.getElem?_eq_some_iff.1 hK).1 HOD.out.1).trans hK
    have hE5 : w5.heap[w.heap.size]? = _ := (hTk.block w.heap.size (Array.getElem?_eq_some_iff.1 HE.out).1 HOD.out.2).trans HE.out
    have HT5 := hide (HW.out.kstep hS)
    have hDl := (Array.getElem?_eq_some_iff.1 hK).1
    clear s1 s2 hTk hS O'
    by_cases hE : v.2.2.1 = 0
    · obtain ⟨O5, a1, a2, a3⟩ := HT5.out
      have a1d := a1.below ((Below.refl _ w5).drew)
      have q0 : w5.cell? ⟨w.heap.size, 0, none⟩ = some (.int .i64 x) := by rw [cell_of_row _ _ _ _ _ _ hE5]; rfl
      have q0d : w5.drew.cell? ⟨w.heap.size, 0, none⟩ = some (.int .i64 x) := q0
      have c1 := a1.tb.sl x hx
      have c2 := a1.tb.mks x hx
      have f1 := a1.tb.soft (1 + x * 2)
      have f2 := a1.tb.soft (1 + x * 2 + 1)
      have c1d := a1d.tb.sl x hx
      have c2d := a1d.tb.mks x hx
      have f1d := a1d.tb.soft (1 + x * 2)
      have f2d := a1d.tb.soft (1 + x * 2 + 1)
      have HT6 : Hid (TStep W O t kb ⟨v.2.2.2, tset S.ds x v.1, tset S.ms x false⟩ ((w5.setCell ⟨t, 1 + x * 2, none⟩ (.int .i64 v.1)).setCell ⟨t, 1 + x * 2 + 1, none⟩ (.bool false)).drew) := hide (((a1d.put hx v.1 false HI.out.1).behind ((Below.refl _ w5).drew)).join a2 a3)
      have hK6 : ((w5.setCell ⟨t, 1 + x * 2, none⟩ (.int .i64 v.1)).setCell ⟨t, 1 + x * 2 + 1, none⟩ (.bool false)).drew.heap[D]? = some (.deferred (some [])) := by
        show ((w5.setCell _ _).setCell _ _).heap[D]? = _
        rw [Below.heap_setCell _ _ _ _ (show D ≠ t by omega), Below.heap_setCell _ _ _ _ (show D ≠ t by omega)]; exact hK5
      have hE6 : ((w5.setCell ⟨t, 1 + x * 2, none⟩ (.int .i64 v.1)).setCell ⟨t, 1 + x * 2 + 1, none⟩ (.bool false)).drew.heap[w.heap.size]? = some (.cells #[.int .i64 (x : Int), .int .i64 (y : Int)] 145 (0, 0)) := by
        show ((w5.setCell _ _).setCell _ _).heap[w.heap.size]? = _
        rw [Below.heap_setCell _ _ _ _ (show w.heap.size ≠ t by omega), Below.heap_setCell _ _ _ _ (show w.heap.size ≠ t by omega)]; exact hE5
      have HK6 := hide hK6
      have HE6 := hide hE6
      clear hK6 hE6
      have hx1 : (0 : Int) ≤ (x : Int) := by omega
      have hx2 : (x : Int) < 64 := by omega
      have HEq := hide hE
      have hE' : v.2.2.1 = 0 := hE
      simp only at c1 c2 c1d c2d
      generalize S.ds x = g1 at c1 c1d
      generalize S.ms x = g2 at c2 c2d
      have HK5 := hide hK5
      have HE5 := hide hE5
      have HKo := hide hK
      clear a1 a2 a3 a1d hE hK5 hE5 hK
      gi_wp2_with fail
      apply in_cut (W := ((w5.setCell ⟨t, 1 + x * 2, none⟩ (.int .i64 v.1)).setCell ⟨t, 1 + x * 2 + 1, none⟩ (.bool false)).drew)
      case h =>
        gi_region
        exact ⟨rfl, rfl⟩
      case hk =>
        generalize ((w5.setCell ⟨t, 1 + x * 2, none⟩ (.int .i64 v.1)).setCell ⟨t, 1 + x * 2 + 1, none⟩ (.bool false)).drew = w6 at *
        clear q0 q0d c1 c2 f1 f2 c1d c2d f1d f2d
        have hK6 := HK6.out
        have hE6 := HE6.out
        obtain ⟨O6, a1, a2, a3⟩ := HT6.out
        have a1d := a1.below ((Below.refl _ w6).drew)
        have q1 : w6.cell? ⟨w.heap.size, 1, none⟩ = some (.int .i64 y) := by rw [cell_of_row _ _ _ _ _ _ hE6]; rfl
        have q1d : w6.drew.cell? ⟨w.heap.size, 1, none⟩ = some (.int .i64 y) := q1
        have c1 := a1.tb.sl y hy
        have c2 := a1.tb.mks y hy
        have f1 := a1.tb.soft (1 + y * 2)
        have f2 := a1.tb.soft (1 + y * 2 + 1)
        have c1d := a1d.tb.sl y hy
        have c2d := a1d.tb.mks y hy
        have f1d := a1d.tb.soft (1 + y * 2)
        have f2d := a1d.tb.soft (1 + y * 2 + 1)
        have HT7 : Hid (TStep W O t kb ⟨v.2.2.2, tset (tset S.ds x v.1) y v.2.1, tset (tset S.ms x false) y false⟩ ((w6.setCell ⟨t, 1 + y * 2, none⟩ (.int .i64 v.2.1)).setCell ⟨t, 1 + y * 2 + 1, none⟩ (.bool false)).drew) := hide (((a1d.put hy v.2.1 false HI.out.2).behind ((Below.refl _ w6).drew)).join a2 a3)
        have hK7 : ((w6.setCell ⟨t, 1 + y * 2, none⟩ (.int .i64 v.2.1)).setCell ⟨t, 1 + y * 2 + 1, none⟩ (.bool false)).drew.heap[D]? = some (.deferred (some [])) := by
          show ((w6.setCell _ _).setCell _ _).heap[D]? = _
          rw [Below.heap_setCell _ _ _ _ (show D ≠ t by omega), Below.heap_setCell _ _ _ _ (show D ≠ t by omega)]; exact hK6
        have hE7 : ((w6.setCell ⟨t, 1 + y * 2, none⟩ (.int .i64 v.2.1)).setCell ⟨t, 1 + y * 2 + 1, none⟩ (.bool false)).drew.heap[w.heap.size]? = some (.cells #[.int .i64 (x : Int), .int .i64 (y : Int)] 145 (0, 0)) := by
          show ((w6.setCell _ _).setCell _ _).heap[w.heap.size]? = _
          rw [Below.heap_setCell _ _ _ _ (show w.heap.size ≠ t by omega), Below.heap_setCell _ _ _ _ (show w.heap.size ≠ t by omega)]; exact hE6
        have HK7 := hide hK7
        have HE7 := hide hE7
        clear hK6 hE6 hK7 hE7
        have hy1 : (0 : Int) ≤ (y : Int) := by omega
        have hy2 : (y : Int) < 64 := by omega
        simp only at c1 c2 c1d c2d
        generalize tset S.ds x v.1 y = g3 at c1 c1d
        generalize tset S.ms x false y = g4 at c2 c2d
        clear a1 a2 a3 a1d
        gi_wp2_with fail
        apply in_cut (W := ((w6.setCell ⟨t, 1 + y * 2, none⟩ (.int .i64 v.2.1)).setCell ⟨t, 1 + y * 2 + 1, none⟩ (.bool false)).drew)
        case h =>
          gi_region
          exact ⟨rfl, rfl⟩
        case hk =>
          generalize ((w6.setCell ⟨t, 1 + y * 2, none⟩ (.int .i64 v.2.1)).setCell ⟨t, 1 + y * 2 + 1, none⟩ (.bool false)).drew = w7 at *
          clear q1 q1d c1 c2 f1 f2 c1d c2d f1d f2d
          have hK7 := HK7.out
          have hE7 := HE7.out
          have r0 : w7.cell? ⟨w.heap.size, 0, none⟩ = some (.int .i64 x) := by rw [cell_of_row _ _ _ _ _ _ hE7]; rfl
          have r1 : w7.cell? ⟨w.heap.size, 1, none⟩ = some (.int .i64 y) := by rw [cell_of_row _ _ _ _ _ _ hE7]; rfl
          have r0d : w7.drew.cell? ⟨w.heap.size, 0, none⟩ = some (.int .i64 x) := r0
          have r1d : w7.drew.cell? ⟨w.heap.size, 1, none⟩ = some (.int .i64 y) := r1
          have hK8 : w7.drew.heap[D]? = some (.deferred (some [])) := hK7
          have HT : Hid (TStep w O t kb S.pipe.2.2.2 (w7.drew.putObj D (.deferred none)) ∧ S.pipe = ((x : Int), (y : Int), 0, ⟨v.2.2.2, tset (tset S.ds x v.1) y v.2.1, tset (tset S.ms x false) y false⟩)) := hide (by
            have e := HP2.out
            rw [if_pos HEq.out] at e
            refine ⟨?_, e⟩
            rw [e]
            obtain ⟨O7, b1, b2, b3⟩ := HT7.out
            exact TStep.mark HB.out ⟨O7, b1.below ((Below.refl _ w7).drew), b2, b3.trans (Turned.of_below (S := fun k => O k ∨ k = t) ((Below.refl _ w7).drew)) (fun _ _ e => e)⟩ hDl hDw HOD.out.1 htl _)
          gi_wp2_with fail
          apply in_cut (W := w7.drew)
          case h =>
            gi_region
            exact ⟨rfl, rfl⟩
          case hk =>
            gi_wp2_with fail
            refine ⟨by simp, .inl ⟨_, _, rfl, run_takeDeferred hK8, ?_⟩⟩
            refine ⟨.tuple #[.int .i64 x, .int .i64 y, .int .i64 0], ?_, by rw [HT.out.2], HT.out.1⟩
            simp [results, Tryz.f22, go_sem]
    · have HT : Hid (TStep w O t kb S.pipe.2.2.2 (w5.putObj D (.deferred none)) ∧ S.pipe = (0, 0, v.2.2.1, ⟨v.2.2.2, S.ds, S.ms⟩)) := hide (by
        have e := HP2.out
        rw [if_neg hE] at e
        refine ⟨?_, e⟩
        rw [e]
        exact TStep.mark HB.out HT5.out hDl hDw HOD.out.1 htl _)
      gi_wp2_with fail
      refine ⟨by simp, .inl ⟨_, _, rfl, run_takeDeferred hK5, ?_⟩⟩
      refine ⟨.tuple #[.int .i64 0, .int .i64 0, .int .i64 v.2.2.1], ?_, by rw [HT.out.2], HT.out.1⟩
      simp [results, Tryz.f22, go_sem]
theorem tpipe_any (t kb : Nat) (O : Nat → Prop) (S : TS) (w : World) (h : TW w O t kb S) (hO : ∀ k, O k → k < w.heap.size) (hl : S.K.next + 1 < 9223372036854775807) :
    Calls Tryz.prog 22 #[.pointer (some ⟨t, 0, none⟩)] w fun e w' => e = .returned (.tuple #[.int .i64 S.pipe.1, .int .i64 S.pipe.2.1, .int .i64 S.pipe.2.2.1]) ∧ TStep w O t kb S.pipe.2.2.2 w' := callsIn_wide.1 (tpipe_in 3 (Nat.le_refl _) t kb O S w h hO hl)
end Go.Proofs.YtbhlnmekhgfgcaaGreat

/- Tables that no call made, and such without a kernel. -/
namespace Go.Proofs.YtbhlnmekhgfgcaaGreat
open Go.RowKit Go.Shelf Go.Maps

attribute [local go_sem] Oper.semAt_some

def NoTab (p : Option Addr) (w : World) : Prop := p = none ∨ ∃ g, p = some ⟨g, 0, none⟩ ∧ w.cell? ⟨g, 0, none⟩ = some (.pointer none)
theorem NoTab.below {p : Option Addr} {w w' : World} (h : NoTab p w) (hB : Below w.heap.size w w') : NoTab p w' := by
  rcases h with h | ⟨g, h, hc⟩
  · exact .inl h
  · exact .inr ⟨g, h, (hB.cell (p := ⟨g, 0, none⟩) (World.block_lt_of_cell? w _ hc)).trans hc⟩
theorem tmade_no (p : Option Addr) (w : World) (h : NoTab p w) : Calls Tryz.prog 41 #[.pointer p] w fun e w' => e = .returned (.bool false) ∧ w = w' := by
  rcases h with rfl | ⟨g, rfl, hc⟩
  · go_enter Tryz.func41, Tryz.ntmps41
    go_wp2
    go_ret
    exact ⟨rfl, rfl⟩
  · go_enter Tryz.func41, Tryz.ntmps41
    go_wp2
    go_ret
    exact ⟨rfl, rfl⟩
set_option maxRecDepth 100000 in
theorem tused_none (p : Option Addr) (fd : Int) (w : World) (h : NoTab p w) : Calls Tryz.prog 84 #[.pointer p, .int .i64 fd] w fun e w' => e = .returned (.tuple #[.pointer none, .int .i64 2]) ∧ w = w' := by
  have HM := hide (tmade_no p w h)
  clear h
  go_enter Tryz.func84, Tryz.ntmps84
  go_wp2_with fail
  refine HM.out.mono ?_
  rintro e w1 ⟨rfl, rfl⟩
  go_wp2
  go_ret2
  exact ⟨rfl, rfl⟩
set_option maxRecDepth 100000 in
set_option maxHeartbeats 2000000 in
theorem tlow_none (f : Nat) (h1 : 1 ≤ f) (p : Option Addr) (w : World) (h : NoTab p w) : CallsIn Fence.wide f Tryz.prog 80 #[.pointer p] w fun e w' => e = .returned (.tuple #[.int .i64 0, .int .i64 2]) ∧ Below w.heap.size w w' := by
  refine callsIn_of_wp_marks Tryz.func80 rfl trivial ?_ rfl
  simp only [Tryz.ntmps80, List.size_toArray, List.length_cons, List.length_nil, Nat.reduceAdd, Nat.reduceSub, Array.replicate_succ, Array.replicate_zero, List.push_toArray, List.append_toArray, List.nil_append, List.cons_append]
  have bA := Boxed.new w 3 (.int .i64 0)
  have bE := Boxed.new (w.alloc (.cells #[.int .i64 0] 3)) 29 (.int .i64 0)
  simp only [World.size_alloc] at bE
  have hB0 : Below w.heap.size w ((w.alloc (.cells #[.int .i64 0] 3)).alloc (.cells #[.int .i64 0] 29)) := ((Below.refl _ w).alloc (Nat.le_refl _) _).alloc (by simp) _
  have hN := h.below hB0
  have bA' := bA.alloc (.cells #[.int .i64 0] 29)
  have k1 := bA'.cell
  have k2 := bE.cell
  have f1 := bA'.frozen
  have f2 := bE.frozen
  gi_wp2_with (first | (refine ⟨trivial, ?_⟩; gi_at_call 41; refine (callsIn_wide.2 (tmade_no p _ hN)).mono ?_; rintro e w' ⟨rfl, rfl⟩) | fail)
  have bA2 := (Boxed.new w 3 (.int .i64 0)).alloc (.cells #[.int .i64 2] 29)
  have bE2 := Boxed.new (w.alloc (.cells #[.int .i64 0] 3)) 29 (.int .i64 2)
  simp only [World.size_alloc] at bE2
  have e1 := bA2.cell
  have e2 := bE2.cell
  have hB2 : Below w.heap.size w ((w.alloc (.cells #[.int .i64 0] 3)).alloc (.cells #[.int .i64 2] 29)) := ((Below.refl _ w).alloc (Nat.le_refl _) _).alloc (by simp) _
  refine ⟨.tuple #[.int .i64 0, .int .i64 2], ?_, rfl, hB2⟩
  simp [results, Tryz.f80, go_sem, e1, e2]
set_option maxRecDepth 100000 in
set_option maxHeartbeats 2000000 in
theorem tpipe_none (f : Nat) (h1 : 1 ≤ f) (p : Option Addr) (w : World) (h : NoTab p w) : CallsIn Fence.wide f Tryz.prog 22 #[.pointer p] w fun e w' => e = .returned (.tuple #[.int .i64 0, .int .i64 0, .int .i64 2]) ∧ Below w.heap.size w w' := by
  refine callsIn_of_wp_marks Tryz.func22 rfl trivial ?_ rfl
  simp only [Tryz.ntmps22, List.size_toArray, List.length_cons, List.length_nil, Nat.reduceAdd, Nat.reduceSub, Array.replicate_succ, Array.replicate_zero, List.push_toArray, List.append_toArray, List.nil_append, List.cons_append]
  gi_wp2_with (first | (refine ⟨trivial, ?_⟩; gi_at_call 41; refine (callsIn_wide.2 (tmade_no p _ h)).mono ?_; rintro e w' ⟨rfl, rfl⟩) | fail)
  refine ⟨.tuple #[.int .i64 0, .int .i64 0, .int .i64 2], ?_, rfl, Below.refl _ _⟩
  simp [results, Tryz.f22, go_sem]
set_option maxRecDepth 100000 in
set_option maxHeartbeats 1000000 in
theorem topen_none (p : Option Addr) (s : ByteArray) (f : Int) (w : World) (h : NoTab p w) : Calls Tryz.prog 21 #[.pointer p, .string s, .int .i64 f] w fun e w' => e = .returned (.tuple #[.int .i64 0, .int .i64 2]) ∧ Below w.heap.size w w' := by
  have HL := hide (callsIn_wide.1 (tlow_none 3 (by decide) p w h))
  clear h
  go_enter Tryz.func21, Tryz.ntmps21
  go_wp2_with fail
  refine HL.out.mono ?_
  rintro e w1 ⟨rfl, hB⟩
  have HB := hide hB
  clear hB
  go_wp2
  go_ret2
  exact ⟨rfl, HB.out⟩
set_option maxRecDepth 100000 in
set_option maxHeartbeats 1000000 in
theorem tinstall_none (p : Option Addr) (d : Int) (w : World) (h : NoTab p w) : Calls Tryz.prog 25 #[.pointer p, .int .i64 d] w fun e w' => e = .returned (.tuple #[.int .i64 0, .int .i64 2]) ∧ Below w.heap.size w w' := by
  have HL := hide (callsIn_wide.1 (tlow_none 3 (by decide) p w h))
  clear h
  go_enter Tryz.func25, Tryz.ntmps25
  go_wp2_with fail
  refine HL.out.mono ?_
  rintro e w1 ⟨rfl, hB⟩
  have HB := hide hB
  clear hB
  go_wp2
  go_ret2
  exact ⟨rfl, HB.out⟩
set_option maxRecDepth 100000 in
set_option maxHeartbeats 1000000 in
theorem tclose_none (p : Option Addr) (fd : Int) (w : World) (h : NoTab p w) : Calls Tryz.prog 26 #[.pointer p, .int .i64 fd] w fun e w' => e = .returned (.int .i64 2) ∧ w = w' := by
  have HU := hide (tused_none p fd w h)
  clear h
  go_enter Tryz.func26, Tryz.ntmps26
  go_wp2_with fail
  refine HU.out.mono ?_
  rintro e w1 ⟨rfl, rfl⟩
  go_wp2
  go_ret
  exact ⟨rfl, rfl⟩
set_option maxRecDepth 100000 in
set_option maxHeartbeats 1000000 in
theorem tdup_none (p : Option Addr) (fd : Int) (w : World) (h : NoTab p w) : Calls Tryz.prog 23 #[.pointer p, .int .i64 fd] w fun e w' => e = .returned (.tuple #[.int .i64 0, .int .i64 2]) ∧ w = w' := by
  have HU := hide (tused_none p fd w h)
  clear h
  go_enter Tryz.func23, Tryz.ntmps23
  go_wp2_with fail
  refine HU.out.mono ?_
  rintro e w1 ⟨rfl, rfl⟩
  go_wp2
  go_ret2
  exact ⟨rfl, rfl⟩
set_option maxRecDepth 100000 in
set_option maxHeartbeats 1000000 in
theorem tdupTo_none (p : Option Addr) (fd to : Int) (w : World) (h : NoTab p w) : Calls Tryz.prog 27 #[.pointer p, .int .i64 fd, .int .i64 to] w fun e w' => e = .returned (.int .i64 2) ∧ w = w' := by
  have HU := hide (tused_none p fd w h)
  clear h
  go_enter Tryz.func27, Tryz.ntmps27
  go_wp2_with fail
  refine HU.out.mono ?_
  rintro e w1 ⟨rfl, rfl⟩
  go_wp2
  go_ret
  exact ⟨rfl, rfl⟩
set_option maxRecDepth 100000 in
set_option maxHeartbeats 1000000 in
theorem tmark_none (p : Option Addr) (fd : Int) (m : Bool) (w : World) (h : NoTab p w) : Calls Tryz.prog 40 #[.pointer p, .int .i64 fd, .bool m] w fun e w' => e = .returned (.int .i64 2) ∧ w = w' := by
  have HU := hide (tused_none p fd w h)
  clear h
  go_enter Tryz.func40, Tryz.ntmps40
  go_wp2_with fail
  refine HU.out.mono ?_
  rintro e w1 ⟨rfl, rfl⟩
  go_wp2
  go_ret
  exact ⟨rfl, rfl⟩
set_option maxRecDepth 100000 in
set_option maxHeartbeats 1000000 in
theorem tmarked_none (p : Option Addr) (fd : Int) (w : World) (h : NoTab p w) : Calls Tryz.prog 60 #[.pointer p, .int .i64 fd] w fun e w' => e = .returned (.tuple #[.bool false, .int .i64 2]) ∧ w = w' := by
  have HU := hide (tused_none p fd w h)
  clear h
  go_enter Tryz.func60, Tryz.ntmps60
  go_wp2_with fail
  refine HU.out.mono ?_
  rintro e w1 ⟨rfl, rfl⟩
  go_wp2
  go_ret2
  exact ⟨rfl, rfl⟩
set_option maxRecDepth 100000 in
set_option maxHeartbeats 1000000 in
theorem tdesc_none (p : Option Addr) (fd : Int) (w : World) (h : NoTab p w) : Calls Tryz.prog 62 #[.pointer p, .int .i64 fd] w fun e w' => e = .returned (.tuple #[.int .i64 0, .int .i64 2]) ∧ w = w' := by
  have HU := hide (tused_none p fd w h)
  clear h
  go_enter Tryz.func62, Tryz.ntmps62
  go_wp2_with fail
  refine HU.out.mono ?_
  rintro e w1 ⟨rfl, rfl⟩
  go_wp2
  go_ret2
  exact ⟨rfl, rfl⟩
set_option maxRecDepth 100000 in
set_option maxHeartbeats 1000000 in
theorem tread_none (p : Option Addr) (fd n : Int) (w : World) (h : NoTab p w) : Calls Tryz.prog 51 #[.pointer p, .int .i64 fd, .int .i64 n] w fun e w' => e = .returned (.tuple #[.slice none 0 0, .int .i64 2]) ∧ w = w' := by
  have HU := hide (tused_none p fd w h)
  clear h
  go_enter Tryz.func51, Tryz.ntmps51
  go_wp2_with fail
  refine HU.out.mono ?_
  rintro e w1 ⟨rfl, rfl⟩
  go_wp2
  go_ret2
  exact ⟨rfl, rfl⟩
set_option maxRecDepth 100000 in
set_option maxHeartbeats 1000000 in
theorem twrite_none (p : Option Addr) (fd : Int) (v : Value) (w : World) (h : NoTab p w) : Calls Tryz.prog 54 #[.pointer p, .int .i64 fd, v] w fun e w' => e = .returned (.tuple #[.int .i64 0, .int .i64 2]) ∧ w = w' := by
  have HU := hide (tused_none p fd w h)
  clear h
  go_enter Tryz.func54, Tryz.ntmps54
  go_wp2_with fail
  refine HU.out.mono ?_
  rintro e w1 ⟨rfl, rfl⟩
  go_wp2
  go_ret2
  exact ⟨rfl, rfl⟩
set_option maxRecDepth 100000 in
set_option maxHeartbeats 1000000 in
theorem tseek_none (p : Option Addr) (fd o h2 : Int) (w : World) (h : NoTab p w) : Calls Tryz.prog 56 #[.pointer p, .int .i64 fd, .int .i64 o, .int .i64 h2] w fun e w' => e = .returned (.tuple #[.int .i64 0, .int .i64 2]) ∧ w = w' := by
  have HU := hide (tused_none p fd w h)
  clear h
  go_enter Tryz.func56, Tryz.ntmps56
  go_wp2_with fail
  refine HU.out.mono ?_
  rintro e w1 ⟨rfl, rfl⟩
  go_wp2
  go_ret2
  exact ⟨rfl, rfl⟩
set_option maxRecDepth 100000 in
set_option maxHeartbeats 1000000 in
theorem tlist_none (p : Option Addr) (w : World) (h : NoTab p w) : Calls Tryz.prog 17 #[.pointer p] w fun e w' => e = .returned (.slice none 0 0) ∧ w = w' := by
  have HM := hide (tmade_no p w h)
  clear h
  go_enter Tryz.func17, Tryz.ntmps17
  go_wp2_with fail
  refine HM.out.mono ?_
  rintro e w1 ⟨rfl, rfl⟩
  go_wp2
  go_ret
  exact ⟨rfl, rfl⟩
set_option maxRecDepth 100000 in
set_option maxHeartbeats 1000000 in
theorem tcloseAll_none (p : Option Addr) (w : World) (h : NoTab p w) : Calls Tryz.prog 58 #[.pointer p] w fun e w' => (∃ v, e = .returned v) ∧ w = w' := by
  have HL := hide (tlist_none p w h)
  clear h
  go_enter Tryz.func58, Tryz.ntmps58
  go_wp2_with fail
  refine HL.out.mono ?_
  rintro e w1 ⟨rfl, rfl⟩
  go_wp2_with fail
  go_loopw [7] (fun i wr => i = .int .i64 0 ∧ wr = w) (fun _ _ => 0)
  case atStart => exact ⟨rfl, rfl⟩
  case round =>
    obtain ⟨rfl, rfl⟩ := hrel
    go_wp2
    go_end0
    exact ⟨⟨_, rfl⟩, rfl⟩
end Go.Proofs.YtbhlnmekhgfgcaaGreat

/- FdtableNobody: tables that no call made. -/
namespace Go.Proofs.YtbhlnmekhgfgcaaGreat
open Go.RowKit Go.Maps

set_option maxRecDepth 100000 in
set_option maxHeartbeats 4000000 in
theorem tnothing_any (p : Option Addr) (w : World) (h : NoTab p w) : Calls Tryz.prog 20 #[.pointer p] w fun e w' => e = .returned (.bool true) ∧ Below w.heap.size w w' := by
  have H1 := hide (topen_none p ⟨#[97]⟩ 1 w h)
  have HN := hide (fun W (hB : Below w.heap.size w W) => h.below hB)
  clear h
  go_enter Tryz.func20, Tryz.ntmps20
  go_wp2_with fail
  refine H1.out.mono ?_
  rintro e w1 ⟨rfl, hB⟩
  have HB1 := hide hB
  have H2 := hide (callsIn_wide.1 (tpipe_none 3 (by decide) p w1 (HN.out w1 hB)))
  clear hB
  go_wp2_with fail
  refine H2.out.mono ?_
  rintro e w2 ⟨rfl, hB⟩
  have HB2 := hide (HB1.out.trans (hB.mono HB1.out.size))
  have H3 := hide (tinstall_none p 1 w2 (HN.out w2 HB2.out))
  clear hB
  go_wp2_with fail
  refine H3.out.mono ?_
  rintro e w3 ⟨rfl, hB⟩
  have HB3 := hide (HB2.out.trans (hB.mono HB2.out.size))
  have HN3 := hide (HN.out w3 HB3.out)
  clear hB
  go_wp2_with (first
    | (go_at_call 8; refine (tnum_is _ _).mono ?_; rintro _ _ ⟨rfl, rfl⟩)
    | (go_at_call 23; refine (tdup_none p _ _ HN3.out).mono ?_; rintro _ _ ⟨rfl, rfl⟩)
    | (go_at_call 60; refine (tmarked_none p _ _ HN3.out).mono ?_; rintro _ _ ⟨rfl, rfl⟩)
    | (go_at_call 62; refine (tdesc_none p _ _ HN3.out).mono ?_; rintro _ _ ⟨rfl, rfl⟩)
    | (go_at_call 51; refine (tread_none p _ _ _ HN3.out).mono ?_; rintro _ _ ⟨rfl, rfl⟩)
    | (go_at_call 54; refine (twrite_none p _ _ _ HN3.out).mono ?_; rintro _ _ ⟨rfl, rfl⟩)
    | (go_at_call 56; refine (tseek_none p _ _ _ _ HN3.out).mono ?_; rintro _ _ ⟨rfl, rfl⟩)
    | (go_at_call 58; refine (tcloseAll_none p _ HN3.out).mono ?_; rintro _ _ ⟨⟨_, rfl⟩, rfl⟩)
    | (go_at_call 26; refine (tclose_none p _ _ HN3.out).mono ?_; rintro _ _ ⟨rfl, rfl⟩)
    | (go_at_call 27; refine (tdupTo_none p _ _ _ HN3.out).mono ?_; rintro _ _ ⟨rfl, rfl⟩)
    | (go_at_call 40; refine (tmark_none p _ _ _ HN3.out).mono ?_; rintro _ _ ⟨rfl, rfl⟩)
    | (go_at_call 17; refine (tlist_none p _ HN3.out).mono ?_; rintro _ _ ⟨rfl, rfl⟩)
    | fail)
  go_ret
  exact ⟨rfl, HB3.out⟩
end Go.Proofs.YtbhlnmekhgfgcaaGreat

/- The law's steps, as they come in. -/
namespace Go.Proofs.YtbhlnmekhgfgcaaGreat
open Go.ChangeShapes Go.WideShapes Go.ChangeAt Go.RowKit Go.Deep

/-- A step: what the law looks at, and the cells that it leaves alone. -/
structure FSt where
  what : Int
  name : ByteArray
  a : Int
  b : Int
  v4 : Value
  v5 : Value
  v6 : Value
theorem one_of {cs : List Value} (h : cs.length = 1) : ∃ v, cs = [v] := by
  match cs, h with
  | [v], _ => exact ⟨v, rfl⟩
theorem fstep_cells {H : Type} {enc : TypeId × Value → H} {P : Program} {W : World} {base : Nat} {fuel e : Nat} {f0 f1 f2 f3 f4 f5 f6 : Field} {cs : List Value} {d : DataW H} {p : List MemPlace}
    (he : P.underlying e = some (.struct #[f0, f1, f2, f3, f4, f5, f6])) (ce : P.cellsOf e = 7) (o0 : f0.offset = 0) (o1 : f1.offset = 1) (o2 : f2.offset = 2) (o3 : f3.offset = 3)
    (c0 : P.cellsOf f0.type = 1) (c1 : P.cellsOf f1.type = 1) (c2 : P.cellsOf f2.type = 1) (c3 : P.cellsOf f3.type = 1)
    (t0 : P.underlying f0.type = some (.int .i64)) (t1 : P.underlying f1.type = some .string) (t2 : P.underlying f2.type = some (.int .i64)) (t3 : P.underlying f3.type = some (.int .i64))
    (h : DataW.trod enc P W base (fun _ => true) true fuel e cs = some (d, p)) :
    ∃ x : FSt, cs = [.int .i64 x.what, .string x.name, .int .i64 x.a, .int .i64 x.b, x.v4, x.v5, x.v6] ∧ x.name.size ≤ maxLen ∧ I64 x.a ∧ I64 x.b := by
  obtain ⟨xs, k, hk, hxy, hcl, hxl, hf⟩ := DataW.trod_struct he h
  rw [ce] at hcl
  match xs, hxl, cs, hcl with
  | [y0, y1, y2, y3, y4, y5, y6], _, [v0, v1, v2, v3, v4, v5, v6], _ =>
    have g0 := hf 0 f0 rfl
    have g1 := hf 1 f1 rfl
    have g2 := hf 2 f2 rfl
    have g3 := hf 3 f3 rfl
    simp [o0, c0] at g0
    simp [o1, c1] at g1
    simp [o2, c2] at g2
    simp [o3, c3] at g3
    obtain ⟨a, ha, _⟩ := DataW.trod_int t0 g0
    obtain ⟨nm, hnm, _, hsz⟩ := DataW.trod_string t1 g1
    obtain ⟨b, hb, _, wb⟩ := DataW.trod_int t2 g2
    obtain ⟨c, hc, _, wc⟩ := DataW.trod_int t3 g3
    obtain rfl : v0 = .int .i64 a := by simpa using ha
    obtain rfl : v1 = .string nm := by simpa using hnm
    obtain rfl : v2 = .int .i64 b := by simpa using hb
    obtain rfl : v3 = .int .i64 c := by simpa using hc
    exact ⟨⟨a, nm, b, c, v4, v5, v6⟩, rfl, hsz, I64.of wb, I64.of wc⟩
/-- The slice value v holds the steps l. -/
def FSts (W : World) (v : Value) (l : List FSt) : Prop :=
  ∃ a c, v = .slice a l.length c ∧ (0 < l.length → ∃ b off, a = some ⟨b, off, none⟩ ∧ ∀ j (hj : j < l.length),
    W.cell? ⟨b, off + j * 7, none⟩ = some (.int .i64 l[j].what) ∧ W.cell? ⟨b, off + j * 7 + 1, none⟩ = some (.string l[j].name) ∧ W.cell? ⟨b, off + j * 7 + 2, none⟩ = some (.int .i64 l[j].a) ∧ l[j].name.size ≤ maxLen ∧ I64 l[j].a)
def FStD {H : Type} (d : DataW H) (l : List FSt) : Prop := (d = .nil ∧ l = []) ∨ ∃ elems spare : List (DataW H), d = .slice elems spare ∧ l.length = elems.length
theorem fsteps_small {H : Type} {P : Program} {t e : TypeId} {d : DataW H} {l : List FSt} (h : Small P t d) (hu : P.underlying t = some (.slice e)) (be : P.bytesOf e = 80) (hO : FStD d l) : l.length * 80 ≤ 140737488351232 := by
  rcases hO with ⟨_, rfl⟩ | ⟨es, sp, rfl, hl⟩
  · simp
  · obtain ⟨h1, h2⟩ := h.slice hu
    rw [be] at h1
    simp only [reachBytes] at h1
    omega
theorem fsts_arg {H : Type} {enc : TypeId × Value → H} {P : Program} {W : World} {base : Nat} {a : Option Addr} {len cap fuel t e : Nat} {f0 f1 f2 f3 f4 f5 f6 : Field} {d : DataW H} {p : List MemPlace}
    (ht : P.underlying t = some (.slice e)) (he : P.underlying e = some (.struct #[f0, f1, f2, f3, f4, f5, f6])) (ce : P.cellsOf e = 7) (o0 : f0.offset = 0) (o1 : f1.offset = 1) (o2 : f2.offset = 2) (o3 : f3.offset = 3)
    (c0 : P.cellsOf f0.type = 1) (c1 : P.cellsOf f1.type = 1) (c2 : P.cellsOf f2.type = 1) (c3 : P.cellsOf f3.type = 1)
    (t0 : P.underlying f0.type = some (.int .i64)) (t1 : P.underlying f1.type = some .string) (t2 : P.underlying f2.type = some (.int .i64)) (t3 : P.underlying f3.type = some (.int .i64))
    (hf : DataW.trod enc P W base (fun _ => true) true fuel t (Value.slice a len cap).cells.toList = some (d, p)) : ∃ l : List FSt, FSts W (.slice a len cap) l ∧ FStD d l := by
  rcases open_slice ht hf with ⟨hcs, hd⟩ | ⟨x, n, c, m, k, D, Pl, hcs, _, hl, hm, hmm, hx, hel⟩
  · simp [Value.cells] at hcs
    obtain ⟨rfl, rfl, rfl⟩ := hcs
    exact ⟨[], ⟨_, _, rfl, fun h => absurd h (by decide)⟩, .inl ⟨(Prod.mk.inj hd).1, rfl⟩⟩
  · simp [Value.cells] at hcs
    obtain ⟨rfl, rfl, rfl⟩ := hcs
    simp only [if_true] at hmm
    subst hmm
    have each : ∀ i, i < len → ∃ s : FSt, W.cell? ((x.add (i * 7)).add 0) = some (.int .i64 s.what) ∧ W.cell? ((x.add (i * 7)).add 1) = some (.string s.name) ∧ W.cell? ((x.add (i * 7)).add 2) = some (.int .i64 s.a) ∧ s.name.size ≤ maxLen ∧ I64 s.a := by
      intro i hi
      obtain ⟨cs', h1, h2⟩ := hel i (by omega)
      rw [ce] at h1
      obtain ⟨_, hlen, hcell⟩ := World.cells?_some h1
      obtain ⟨s, rfl, hb1, hb2, hb3⟩ := fstep_cells he ce o0 o1 o2 o3 c0 c1 c2 c3 t0 t1 t2 t3 h2
      exact ⟨s, by simpa using hcell 0 (by omega), by simpa using hcell 1 (by omega), by simpa using hcell 2 (by omega), hb1, hb2⟩
    obtain ⟨s, hs⟩ : ∃ s : Nat → FSt, ∀ i, i < len → W.cell? ((x.add (i * 7)).add 0) = some (.int .i64 (s i).what) ∧ W.cell? ((x.add (i * 7)).add 1) = some (.string (s i).name) ∧ W.cell? ((x.add (i * 7)).add 2) = some (.int .i64 (s i).a) ∧ (s i).name.size ≤ maxLen ∧ I64 (s i).a :=
      ⟨fun i => if h : i < len then (each i h).choose else ⟨0, ByteArray.empty, 0, 0, undef, undef, undef⟩, fun i hi => by simp only [dif_pos hi]; exact (each i hi).choose_spec⟩
    refine ⟨(List.range len).map s, ⟨some x, m, by simp, fun h0 => ?_⟩, .inr ⟨_, _, (Prod.mk.inj hx).1, by simp⟩⟩
    have h0' : 0 < len := by simpa using h0
    obtain ⟨b, off, spot⟩ := x
    obtain ⟨q0, _⟩ := hs 0 h0'
    have hspot : spot = none := by simpa [Addr.add] using World.cell?_spot q0
    subst hspot
    refine ⟨b, off, rfl, fun j hj => ?_⟩
    have hj' : j < len := by simpa using hj
    obtain ⟨q0, q1, q2, hb⟩ := hs j hj'
    have hadd : ∀ o k, (⟨b, o, none⟩ : Addr).add k = ⟨b, o + k, none⟩ := fun o k => by unfold Addr.add; split <;> simp_all
    rw [hadd, hadd] at q0 q1 q2
    simp only [List.getElem_map, List.getElem_range]
    exact ⟨by simpa using q0, q1, q2, hb⟩
/-- Step j of the steps l, in any later world. -/
theorem fsts_at {W W' : World} {a : Option Addr} {n c : Nat} {l : List FSt} (h : FSts W (.slice a n c) l) (hB : Below W.heap.size W W') (j : Nat) (hj : j < l.length) :
    ∃ b off, a = some ⟨b, off, none⟩ ∧ W'.cell? ⟨b, off + j * 7, none⟩ = some (.int .i64 l[j].what) ∧ W'.cell? ⟨b, off + j * 7 + 1, none⟩ = some (.string l[j].name) ∧ W'.cell? ⟨b, off + j * 7 + 2, none⟩ = some (.int .i64 l[j].a) ∧ l[j].name.size ≤ maxLen ∧ I64 l[j].a := by
  obtain ⟨a', c', he, hc⟩ := h
  cases he
  obtain ⟨b, off, rfl, hd⟩ := hc (by omega)
  obtain ⟨h0, h1, h2, h3⟩ := hd j hj
  have hb := World.block_lt_of_cell? W _ h0
  exact ⟨b, off, rfl, (hB.cell (p := ⟨b, off + j * 7, none⟩) hb).trans h0, (hB.cell (p := ⟨b, off + j * 7 + 1, none⟩) hb).trans h1, (hB.cell (p := ⟨b, off + j * 7 + 2, none⟩) hb).trans h2, h3⟩
end Go.Proofs.YtbhlnmekhgfgcaaGreat

/- FdtableDrops: the kernel's states, and the descriptors, as values. -/
namespace Go.Proofs.YtbhlnmekhgfgcaaGreat
open Go.RowKit Go.Maps

theorem TM.pipe {B : Nat} {P : Nat → Prop} {w : World} {kb : Nat} {K : KS} {L1 L2 : List Tab} {x : Tab} (h : TM B P w kb K (L1 ++ x :: L2)) (hl : K.next + 1 < 9223372036854775807) (r : Int × Int × Int × TS) (hr : (⟨K, x.ds, x.ms⟩ : TS).pipe = r) :
    Calls Tryz.prog 22 #[.pointer (some ⟨x.t, 0, none⟩)] w fun e w' => e = .returned (.tuple #[.int .i64 r.1, .int .i64 r.2.1, .int .i64 r.2.2.1]) ∧ TM B P w' kb r.2.2.2.K (L1 ++ ⟨x.t, r.2.2.2.ds, r.2.2.2.ms⟩ :: L2) ∧ Below B w w' ∧ Held P w w' := by
  obtain ⟨O, h1, h0, h2⟩ := h.step
  subst hr
  exact (tpipe_any x.t kb O _ w h1 h0 hl).mono fun e w' ⟨a, b⟩ => ⟨a, h2 _ _ b⟩
/-- A pipe; its reading end held by h1, its writing end by h2, or gone. -/
def KDr (h1 : Nat) : Nat → Nat → KS
  | 0, rd => ⟨[⟨ByteArray.empty, .pipe [] 1 0⟩], [], [⟨1, 0, 1, 0, h1⟩], 3, [], rd, 0⟩
  | h2 + 1, rd => ⟨[⟨ByteArray.empty, .pipe [] 1 1⟩], [], [⟨1, 0, 1, 0, h1⟩, ⟨2, 0, 2, 0, h2 + 1⟩], 3, [], rd, 0⟩
theorem dr_keep1 (h1 h2 rd : Nat) (h : h1 < 1024) : (KDr h1 h2 rd).keepE 1 = 0 ∧ (KDr h1 h2 rd).keepK 1 = KDr (h1 + 1) h2 rd := by
  cases h2 with
  | zero =>
    have hf : (KDr h1 0 rd).find 1 = some ⟨1, 0, 1, 0, h1⟩ := rfl
    unfold KS.keepE KS.keepK
    rw [hf]
    simp only
    rw [if_neg (by omega), if_neg (by omega)]
    exact ⟨rfl, rfl⟩
  | succ k =>
    have hf : (KDr h1 (k + 1) rd).find 1 = some ⟨1, 0, 1, 0, h1⟩ := rfl
    unfold KS.keepE KS.keepK
    rw [hf]
    simp only
    rw [if_neg (by omega), if_neg (by omega)]
    exact ⟨rfl, rfl⟩
theorem dr_keep2 (h1 h2 rd : Nat) (h0 : 0 < h2) (h : h2 < 1024) : (KDr h1 h2 rd).keepE 2 = 0 ∧ (KDr h1 h2 rd).keepK 2 = KDr h1 (h2 + 1) rd := by
  obtain ⟨k, rfl⟩ : ∃ k, h2 = k + 1 := ⟨h2 - 1, by omega⟩
  have hf : (KDr h1 (k + 1) rd).find 2 = some ⟨2, 0, 2, 0, k + 1⟩ := rfl
  unfold KS.keepE KS.keepK
  rw [hf]
  simp only
  rw [if_neg (by omega), if_neg (by omega)]
  exact ⟨rfl, rfl⟩
theorem dr_drop1 (h1 h2 rd : Nat) (h : 2 ≤ h1) : (KDr h1 h2 rd).dropK 1 = KDr (h1 - 1) h2 rd := by
  cases h2 with
  | zero =>
    have hf : (KDr h1 0 rd).find 1 = some ⟨1, 0, 1, 0, h1⟩ := rfl
    unfold KS.dropK
    rw [hf]
    simp only
    rw [if_pos (by omega)]
    rfl
  | succ k =>
    have hf : (KDr h1 (k + 1) rd).find 1 = some ⟨1, 0, 1, 0, h1⟩ := rfl
    unfold KS.dropK
    rw [hf]
    simp only
    rw [if_pos (by omega)]
    rfl
theorem dr_drop2 (h1 h2 rd : Nat) (h : 1 ≤ h2) : (KDr h1 h2 rd).dropK 2 = KDr h1 (h2 - 1) rd := by
  obtain ⟨k, rfl⟩ : ∃ k, h2 = k + 1 := ⟨h2 - 1, by omega⟩
  have hf : (KDr h1 (k + 1) rd).find 2 = some ⟨2, 0, 2, 0, k + 1⟩ := rfl
  cases k with
  | zero => rfl
  | succ j =>
    unfold KS.dropK
    rw [hf]
    simp only
    rw [if_pos (by omega)]
    rfl
theorem dr_read (h1 h2 rd : Nat) (h : 0 < h2) : (KDr h1 h2 rd).read 1 1 = ([], 52, KDr h1 h2 rd) := by
  obtain ⟨k, rfl⟩ : ∃ k, h2 = k + 1 := ⟨h2 - 1, by omega⟩
  kernel_rfl
theorem dr_end (h1 rd : Nat) : (KDr h1 0 rd).read 1 1 = ([], 0, KDr h1 0 (rd + 1)) := by kernel_rfl
theorem dr_kind (h1 h2 rd : Nat) (h : 0 < h2) : (KDr h1 h2 rd).kindOf 2 = 3 := by
  obtain ⟨k, rfl⟩ : ∃ k, h2 = k + 1 := ⟨h2 - 1, by omega⟩
  rfl
theorem dr_gone (h1 rd : Nat) : (KDr h1 0 rd).kindOf 2 = 0 := rfl
/-- How many of the first n descriptors are of that description. -/
def cnt (v : Int) (ds : Nat → Int) : Nat → Nat
  | 0 => 0
  | n + 1 => cnt v ds n + if ds n = v then 1 else 0
theorem cnt_succ (v : Int) (ds : Nat → Int) (n : Nat) : cnt v ds (n + 1) = cnt v ds n + if ds n = v then 1 else 0 := rfl
theorem cnt_le (v : Int) (ds : Nat → Int) : ∀ n, cnt v ds n ≤ n
  | 0 => Nat.le_refl _
  | n + 1 => by
    have := cnt_le v ds n
    unfold cnt
    split <;> omega
theorem cnt_same {v : Int} {ds ds' : Nat → Int} : ∀ {n : Nat}, (∀ i, i < n → ds i = ds' i) → cnt v ds n = cnt v ds' n
  | 0, _ => rfl
  | n + 1, h => by
    unfold cnt
    rw [cnt_same (fun i hi => h i (by omega)), h n (by omega)]
theorem cnt_set (v : Int) (ds : Nat → Int) (i : Nat) (d : Int) : ∀ n, i < n → cnt v (tset ds i d) n + (if ds i = v then 1 else 0) = cnt v ds n + if d = v then 1 else 0
  | 0, h => absurd h (Nat.not_lt_zero _)
  | n + 1, h => by
    unfold cnt
    by_cases e : i = n
    · subst e
      rw [tset_same, cnt_same (ds' := ds) (fun j hj => tset_other _ _ (by omega))]
      omega
    · have := cnt_set v ds i d n (by omega)
      rw [tset_other _ _ (fun e' => e e'.symm)]
      omega
theorem cnt_mem {v : Int} {ds : Nat → Int} : ∀ {n i : Nat}, i < n → ds i = v → 1 ≤ cnt v ds n
  | 0, _, h, _ => absurd h (Nat.not_lt_zero _)
  | n + 1, i, h, e => by
    unfold cnt
    by_cases e' : i = n
    · subst e'; rw [if_pos e]; omega
    · have := cnt_mem (n := n) (by omega) e
      omega
/-- A descriptor is free, or of one of the pipe's ends. -/
def D3 (ds : Nat → Int) : Prop := ∀ i, ds i = 0 ∨ ds i = 1 ∨ ds i = 2
theorem D3.set {ds : Nat → Int} (h : D3 ds) (i : Nat) (d : Int) (hd : d = 0 ∨ d = 1 ∨ d = 2) : D3 (tset ds i d) := fun j => by
  unfold tset
  split
  · exact hd
  · exact h j
/-- The first n descriptors alone. -/
def upTo (ds : Nat → Int) (n : Nat) : Nat → Int := fun i => if i < n then ds i else 0
theorem upTo_succ (ds : Nat → Int) (n : Nat) : upTo ds (n + 1) = tset (upTo ds n) n (ds n) := by
  funext i
  unfold upTo tset
  by_cases e : i = n
  · subst e; simp
  · rw [if_neg e]
    show (if i < n + 1 then ds i else 0) = if i < n then ds i else 0
    by_cases h : i < n
    · rw [if_pos h, if_pos (by omega)]
    · rw [if_neg h, if_neg (by omega)]
theorem dr_fork (h1 h2 rd : Nat) (ds : Nat → Int) (hd : D3 ds) (h20 : 0 < h2) : ∀ n, h1 + cnt 1 ds n ≤ 1024 → h2 + cnt 2 ds n ≤ 1024 → (⟨KDr h1 h2 rd, ds, fun _ => false⟩ : TS).fork n = (KDr (h1 + cnt 1 ds n) (h2 + cnt 2 ds n) rd, upTo ds n)
  | 0, _, _ => by
    show (KDr h1 h2 rd, fun _ => (0 : Int)) = _
    have : upTo ds 0 = fun _ => 0 := by funext i; simp [upTo]
    rw [this]
    rfl
  | n + 1, b1, b2 => by
    have ih := dr_fork h1 h2 rd ds hd h20 n (by rw [cnt_succ] at b1; omega) (by rw [cnt_succ] at b2; omega)
    rcases hd n with e | e | e
    · rw [fork_skip (.inl e), ih, upTo_succ, e]
      have e0 : tset (upTo ds n) n 0 = upTo ds n := by
        funext i
        unfold tset upTo
        split
        · rename_i e; subst e; simp
        · rfl
      rw [e0, cnt_succ, cnt_succ, e]
      simp
    · rw [fork_take (S := ⟨KDr h1 h2 rd, ds, fun _ => false⟩) (by show ds n ≠ 0; rw [e]; decide) rfl, ih]
      have b1' : h1 + cnt 1 ds n < 1024 := by rw [cnt_succ, e] at b1; simp at b1; omega
      have k := dr_keep1 (h1 + cnt 1 ds n) (h2 + cnt 2 ds n) rd b1'
      simp only [e]
      rw [k.1, k.2, if_pos rfl, upTo_succ, e, cnt_succ, cnt_succ, e]
      simp [Nat.add_assoc]
    · rw [fork_take (S := ⟨KDr h1 h2 rd, ds, fun _ => false⟩) (by show ds n ≠ 0; rw [e]; decide) rfl, ih]
      have b2' : h2 + cnt 2 ds n < 1024 := by rw [cnt_succ, e] at b2; simp at b2; omega
      have k := dr_keep2 (h1 + cnt 1 ds n) (h2 + cnt 2 ds n) rd (by omega) b2'
      simp only [e]
      rw [k.1, k.2, if_pos rfl, upTo_succ, e, cnt_succ, cnt_succ, e]
      simp [Nat.add_assoc]
theorem none_set (j : Nat) : tset (fun _ : Nat => false) j false = fun _ => false := by
  funext i
  unfold tset
  split <;> rfl
theorem dr_dupTo (h1 h2 rd : Nat) (ds : Nat → Int) (to : Int) (hd : D3 ds) (hout : ds 1 = 2) (b1 : 1 + cnt 1 ds 64 ≤ h1) (b2 : cnt 2 ds 64 ≤ h2) (b3 : h2 < 1024) :
    ∃ e h1' h2' ds', (⟨KDr h1 h2 rd, ds, fun _ => false⟩ : TS).dupTo 1 to = (e, ⟨KDr h1' h2' rd, ds', fun _ => false⟩) ∧ D3 ds' ∧ ds' 1 = 2 ∧ h1' + cnt 1 ds 64 = h1 + cnt 1 ds' 64 ∧ h2' + cnt 2 ds 64 = h2 + cnt 2 ds' 64 := by
  have h20 : 0 < h2 := Nat.lt_of_lt_of_le (cnt_mem (v := 2) (ds := ds) (n := 64) (i := 1) (by decide) hout) b2
  have hu : (⟨KDr h1 h2 rd, ds, fun _ => false⟩ : TS).uses 1 = true := uses_of (S := ⟨KDr h1 h2 rd, ds, fun _ => false⟩) (i := 1) (by decide) (by show ds 1 ≠ 0; rw [hout]; decide)
  unfold TS.dupTo
  rw [if_pos hu]
  by_cases hr : 0 ≤ to ∧ to < 64
  · rw [if_pos hr]
    by_cases h1t : to = 1
    · rw [if_pos h1t]
      exact ⟨0, h1, h2, ds, rfl, hd, hout, rfl, rfl⟩
    · rw [if_neg h1t]
      obtain ⟨j, rfl⟩ := Int.eq_ofNat_of_zero_le hr.1
      have hj : j < 64 := by omega
      have hj1 : j ≠ 1 := by omega
      have k := dr_keep2 h1 h2 rd h20 b3
      have e1 : (1 : Int).toNat = 1 := rfl
      simp only [e1, hout, Int.toNat_natCast]
      rw [k.1, k.2, if_pos rfl]
      have c1 := cnt_set 1 ds j 2 64 hj
      have c2 := cnt_set 2 ds j 2 64 hj
      have hD := hd.set j 2 (.inr (.inr rfl))
      have hO : tset ds j 2 1 = 2 := by rw [tset_other _ _ (fun e => hj1 e.symm)]; exact hout
      rw [none_set]
      unfold TS.release
      simp only
      rcases hd j with e | e | e
      · rw [e] at c1 c2 ⊢
        simp at c1 c2
        rw [if_pos rfl]
        exact ⟨0, h1, h2 + 1, tset ds j 2, rfl, hD, hO, by omega, by omega⟩
      · rw [e] at c1 c2 ⊢
        simp at c1 c2
        have := cnt_mem (v := 1) (ds := ds) hj e
        rw [if_neg (by decide), dr_drop1 h1 (h2 + 1) rd (by omega)]
        exact ⟨0, h1 - 1, h2 + 1, tset ds j 2, rfl, hD, hO, by omega, by omega⟩
      · rw [e] at c1 c2 ⊢
        simp at c1 c2
        rw [if_neg (by decide), dr_drop2 h1 (h2 + 1) rd (by omega)]
        exact ⟨0, h1, h2, tset ds j 2, rfl, hD, hO, by omega, by omega⟩
  · rw [if_neg hr]
    exact ⟨71, h1, h2, ds, rfl, hd, hout, rfl, rfl⟩
theorem cnt_mono (v : Int) (ds : Nat → Int) {n m : Nat} (h : n ≤ m) : cnt v ds n ≤ cnt v ds m := by
  induction m with
  | zero => rw [Nat.le_zero.1 h]; exact Nat.le_refl _
  | succ k ih =>
    by_cases e : n = k + 1
    · rw [e]; exact Nat.le_refl _
    · have := ih (by omega)
      rw [cnt_succ]
      omega
/-- Without the first n descriptors. -/
def from' (ds : Nat → Int) (n : Nat) : Nat → Int := fun i => if i < n then 0 else ds i
theorem from_succ (ds : Nat → Int) (n : Nat) : from' ds (n + 1) = tset (from' ds n) n 0 := by
  funext i
  unfold from' tset
  by_cases e : i = n
  · subst e; simp
  · rw [if_neg e]
    show (if i < n + 1 then 0 else ds i) = if i < n then 0 else ds i
    by_cases h : i < n
    · rw [if_pos h, if_pos (by omega)]
    · rw [if_neg h, if_neg (by omega)]
theorem dr_close (h1 h2 rd : Nat) (ds : Nat → Int) (ms : Nat → Bool) (hd : D3 ds) (b1 : 1 + cnt 1 ds 64 ≤ h1) (b2 : cnt 2 ds 64 ≤ h2) : ∀ n, n ≤ 64 → ∃ ms', (useds ds n).foldl TS.release ⟨KDr h1 h2 rd, ds, ms⟩ = ⟨KDr (h1 - cnt 1 ds n) (h2 - cnt 2 ds n) rd, from' ds n, ms'⟩
  | 0, _ => ⟨ms, by
    show (⟨KDr h1 h2 rd, ds, ms⟩ : TS) = _
    have : from' ds 0 = ds := by funext i; simp [from']
    rw [this]
    rfl⟩
  | n + 1, hn => by
    obtain ⟨ms', ih⟩ := dr_close h1 h2 rd ds ms hd b1 b2 n (by omega)
    have hm1 := cnt_mono 1 ds (show n + 1 ≤ 64 by omega)
    have hm2 := cnt_mono 2 ds (show n + 1 ≤ 64 by omega)
    rw [useds_succ, List.foldl_append, ih, from_succ]
    have hfn : from' ds n n = ds n := by simp [from']
    rcases hd n with e | e | e
    · refine ⟨ms', ?_⟩
      rw [if_pos e, cnt_succ, cnt_succ, e]
      have e0 : tset (from' ds n) n 0 = from' ds n := by
        funext i
        unfold tset
        split
        · rename_i e'; rw [e', hfn, e]
        · rfl
      rw [e0]
      simp
    · refine ⟨tset ms' n false, ?_⟩
      rw [cnt_succ, e] at hm1
      simp at hm1
      rw [if_neg (by rw [e]; decide), cnt_succ, cnt_succ, e]
      simp only [List.foldl_cons, List.foldl_nil, TS.release, hfn, e]
      rw [if_neg (by decide), dr_drop1 _ _ _ (by omega)]
      simp [Nat.sub_add_eq]
    · refine ⟨tset ms' n false, ?_⟩
      rw [cnt_succ, e] at hm2
      simp at hm2
      rw [if_neg (by rw [e]; decide), cnt_succ, cnt_succ, e]
      simp only [List.foldl_cons, List.foldl_nil, TS.release, hfn, e]
      rw [if_neg (by decide), dr_drop2 _ _ _ (by omega)]
      simp [Nat.sub_add_eq]
theorem dr_closed (ds : Nat → Int) : useds (from' ds 64) 64 = [] := by
  unfold useds
  rw [List.filter_eq_nil_iff]
  intro a ha
  have := List.mem_range.1 ha
  simp [from', this]
def drd : Nat → Int := tset (tset (fun _ => 0) 0 1) 1 2
theorem dr_new : KS.new [] [] [] = ⟨[], [], [], 1, [], 0, 0⟩ := rfl
theorem dr_pipe : (⟨KS.new [] [] [], fun _ => 0, fun _ => false⟩ : TS).pipe = (0, 1, 0, ⟨KDr 1 1 0, drd, tset (tset (fun _ => false) 0 false) 1 false⟩) := by kernel_rfl
theorem dr_install : (⟨KDr 1 1 0, fun _ => 0, fun _ => false⟩ : TS).install 1 = (0, 0, ⟨KDr 2 1 0, tset (fun _ => 0) 0 1, tset (fun _ => false) 0 false⟩) := by kernel_rfl
theorem drd_is : cnt 1 drd 64 = 1 ∧ cnt 2 drd 64 = 1 ∧ drd 0 = 1 ∧ drd 1 = 2 := by
  refine ⟨?_, ?_, ?_, ?_⟩ <;> kernel_rfl
theorem drd_d3 : D3 drd := ((show D3 (fun _ => 0) from fun _ => .inl rfl).set 0 1 (.inr (.inl rfl))).set 1 2 (.inr (.inr rfl))
theorem upTo_d3 {ds : Nat → Int} (h : D3 ds) (n : Nat) : D3 (upTo ds n) := fun i => by
  unfold upTo
  split
  · exact h i
  · exact .inl rfl
theorem cnt_upTo (v : Int) (ds : Nat → Int) : cnt v (upTo ds 64) 64 = cnt v ds 64 := cnt_same fun i hi => by simp [upTo, hi]
end Go.Proofs.YtbhlnmekhgfgcaaGreat

/- FdtableNobody: CopyInts; what calls leave, as values. -/
namespace Go.Proofs.YtbhlnmekhgfgcaaGreat
open Go.RowKit Go.Maps

theorem TM.make2 {B : Nat} {P : Nat → Prop} {w : World} {O : Nat → Prop} {kb : Nat} {K : KS} (h : KAt w O kb K) (hO : ∀ k, O k → B ≤ k ∧ ¬ P k) (hP : ∀ k, P k → k < w.heap.size) : TM B P w kb K [] :=
  ⟨fun k => O k ∧ k < w.heap.size, h.trim, fun k e => ⟨(hO k e.1).1, e.2, (hO k e.1).2⟩, fun _ hx => absurd hx (List.not_mem_nil), List.nodup_nil, hP⟩
theorem ivs_one (l : List Nat) : ∀ v ∈ ivs l, v.oneCell' = true := fun v hv => by
  obtain ⟨i, _, rfl⟩ := List.mem_map.1 hv
  rfl
theorem run_append_ints (w : World) (ty : TypeId) (B : Nat) (x : Value) (l : List Nat) (hx : w.ownsRow B 3 1 x l.length (ivs l)) (hn : l.length ≤ 64) :
    ∃ s' w', (Builtin.append_ #[50, 50] ty #[.slice none 0 0, x]).run Tryz.prog w = .ok s' w' ∧ Hid (w'.ownsRow w.heap.size 3 1 s' l.length (ivs l)) ∧ Below w.heap.size w w' := by
  obtain ⟨i0, hi, hz0, hz1, hz2⟩ := info_parts Tryz.infoI
  have h0 := World.ownsRow_nil w w.heap.size 3 1
  have hxx := hx
  rcases hx.2 with ⟨rfl, hl⟩ | ⟨g, cap, cur, rfl, _⟩
  · refine ⟨_, w, run_append_owned_none (P := Tryz.prog) w w.heap.size _ ty _ i0 1 Tryz.underlying50 hi (.slice none 0 0) _ _ h0, hide ?_, Below.refl _ _⟩
    obtain rfl := List.length_eq_zero_iff.1 hl
    exact h0
  · obtain ⟨v', w', h1, h2, h3, _, h5⟩ := run_append_own_at (P := Tryz.prog) w w.heap.size 50 ty 3 i0 (.int .i64 0) 1 8 Tryz.underlying50 hi hz0 hz1 hz2 rfl (by decide) (.slice none 0 0) _ _ h0 ⟨g, 0, none⟩ l.length cap (ivs l) (by simp [ivs]) (fun j v hj => by
      have hjl : j < l.length := by have := (List.getElem?_eq_some_iff.1 hj).1; simpa [ivs] using this
      rw [add_at, Nat.zero_add, hxx.cellAt j (by omega)]
      exact hj) (ivs_one l) (by unfold maxLen; omega) (by omega) (Nat.le_refl _)
    refine ⟨v', w', h1, hide (by simpa using h2), (Below.refl _ w).grown h3 (Nat.le_refl _) (fun k e => by cases e)⟩
set_option maxRecDepth 100000 in
set_option maxHeartbeats 2000000 in
theorem copyInts_any (va : Option Addr) (vc : Nat) (l : List Nat) (B : Nat) (w : World) (h : w.ownsRow B 3 1 (.slice va l.length vc) l.length (ivs l)) (hl : l.length ≤ 64) :
    Calls Tryz.prog 24 #[.slice va l.length vc] w fun e w' => ∃ v, e = .returned v ∧ w'.ownsRow w.heap.size 3 1 v l.length (ivs l) ∧ Below w.heap.size w w' := by
  obtain ⟨s', w', hrun, HO, hB⟩ := run_append_ints w 50 B _ l h hl
  have HRun := hide hrun
  have HB := hide hB
  clear h hrun hB
  go_enter Tryz.func24, Tryz.ntmps24
  go_wp2_with (first | (at_builtin; refine Lib.wpList_append_run _ rfl _ _ _ _ rfl _ _ rfl rfl _ _ HRun.out ?_) | fail)
  go_ret
  exact ⟨_, rfl, HO.out, HB.out⟩
theorem open_same {S : TS} {s : ByteArray} {f : Int} (h : (S.open s f).2.1 ≠ 0) : (S.open s f).2.2.ds = S.ds := by
  unfold TS.open at h ⊢
  split
  · rfl
  · rename_i x hx
    rw [hx] at h
    simp only at h
    split
    · rename_i e
      rw [if_pos e] at h
      exact absurd rfl h
    · rfl
theorem install_same {S : TS} {d : Int} (h : (S.install d).2.1 ≠ 0) : (S.install d).2.2.ds = S.ds := by
  unfold TS.install at h ⊢
  split
  · rfl
  · rename_i x hx
    rw [hx] at h
    simp only at h
    split
    · rename_i e
      rw [if_pos e] at h
      exact absurd rfl h
    · rfl
theorem close_same {S : TS} {fd : Int} (h : (S.close fd).1 ≠ 0) : (S.close fd).2.ds = S.ds := by
  unfold TS.close at h ⊢
  split
  · rename_i e
    rw [if_pos e] at h
    exact absurd rfl h
  · rfl
theorem dup_same {S : TS} {fd : Int} (h : (S.dup fd).2.1 ≠ 0) : (S.dup fd).2.2.ds = S.ds := by
  unfold TS.dup at h ⊢
  split
  · rename_i e
    rw [if_pos e] at h
    exact install_same h
  · rfl
theorem dupTo_same {S : TS} {fd to : Int} (h : (S.dupTo fd to).1 ≠ 0) : (S.dupTo fd to).2.ds = S.ds := by
  unfold TS.dupTo at h ⊢
  by_cases h1 : S.uses fd = true
  · rw [if_pos h1] at h ⊢
    by_cases h2 : 0 ≤ to ∧ to < 64
    · rw [if_pos h2] at h ⊢
      by_cases h3 : to = fd
      · rw [if_pos h3] at h ⊢
      · rw [if_neg h3] at h ⊢
        by_cases h4 : S.K.keepE (S.ds fd.toNat) = 0
        · rw [if_pos h4] at h
          exact absurd rfl h
        · rw [if_neg h4]
    · rw [if_neg h2]
  · rw [if_neg h1]
theorem open_next (S : TS) (s : ByteArray) (f : Int) : (S.open s f).2.2.K.next ≤ S.K.next + 2 := by
  have := (kle_open S.K s f).1
  unfold TS.open
  split
  · show S.K.next ≤ _; omega
  · split
    · exact this
    · exact this
theorem install_next (S : TS) (d : Int) : (S.install d).2.2.K.next ≤ S.K.next + 2 := by
  have := (kle_keep S.K d).1
  unfold TS.install
  split
  · show S.K.next ≤ _; omega
  · split
    · exact this
    · exact this
theorem dup_next (S : TS) (fd : Int) : (S.dup fd).2.2.K.next ≤ S.K.next + 2 := by
  unfold TS.dup
  split
  · exact install_next S _
  · show S.K.next ≤ _; omega
theorem pipe_next (S : TS) : S.pipe.2.2.2.K.next ≤ S.K.next + 2 := by
  have := (kle_pipe S.K).1
  unfold TS.pipe
  split
  · split
    · exact this
    · exact this
  · show S.K.next ≤ _; omega
theorem useds_lt {ds : Nat → Int} {x : Nat} (h : x ∈ useds ds 64) : x < 64 := List.mem_range.1 (List.mem_filter.1 h).1
end Go.Proofs.YtbhlnmekhgfgcaaGreat

/- FdtableNobody, walked. -/
namespace Go.Proofs.YtbhlnmekhgfgcaaGreat
open Go.RowKit Go.Maps

/-- A row of numbers that may be overwritten. -/
def Spo (W : World) (g n : Nat) : Prop := ∃ cur : List Value, W.heap[g]? = some (.cells cur.toArray 3 (0, 0)) ∧ n ≤ cur.length
theorem Spo.set {W : World} {g n : Nat} (h : Spo W g n) (k : Nat) (v : Value) : Spo (W.setCell ⟨g, k, none⟩ v) g n := by
  obtain ⟨cur, h1, h2⟩ := h
  exact ⟨cur.set k v, heap_setCell_same k v h1, by simpa using h2⟩
theorem Spo.cell {W : World} {g n k : Nat} (h : Spo W g n) (hk : k < n) : ∃ u, W.cell? ⟨g, k, none⟩ = some u := by
  obtain ⟨cur, h1, h2⟩ := h
  exact ⟨cur[k], by rw [cell_of_row _ _ _ _ _ _ h1, List.getElem?_toArray, List.getElem?_eq_getElem (by omega)]⟩
theorem Spo.soft {W : World} {g n : Nat} (h : Spo W g n) (k : Nat) : W.frozen? ⟨g, k, none⟩ = false := by
  obtain ⟨cur, h1, h2⟩ := h
  exact frozen_of_row W g k _ _ h1
theorem spo_of {W : World} {B g n c : Nat} {xs : List Value} (h : W.ownsRow B 3 1 (.slice (some ⟨g, 0, none⟩) n c) n xs) : Spo W g n := by
  rcases h.2 with ⟨e, _⟩ | ⟨g', cap, cur, e, _, h1, h2, _, h3, _⟩
  · cases e
  · cases e
    exact ⟨cur.toList, by simpa using h1, by simp; omega⟩
set_option maxRecDepth 100000 in
set_option maxHeartbeats 2000000 in
theorem tnew_nil2 (w : World) : Calls Tryz.prog 11 #[.pointer none] w fun e w' => ∃ g, e = .returned (.pointer (some ⟨g, 0, none⟩)) ∧ NoTab (some ⟨g, 0, none⟩) w' ∧ Below w.heap.size w w' := by
  have HB := hide (recv_below w (.cells (.pointer none :: zslots 64).toArray 59 (0, 0)))
  have HN : Hid (NoTab (some ⟨w.heap.size, 0, none⟩) (w.alloc (.cells (.pointer none :: zslots 64).toArray 59 (0, 0)))) := hide (.inr ⟨_, rfl, by rw [cell_of_row _ _ _ _ _ _ (heap_alloc_new w _), List.getElem?_toArray, List.getElem?_cons_zero]⟩)
  go_enter Tryz.func11, Tryz.ntmps11
  go_wp2_with fail
  go_ret
  exact ⟨_, rfl, HN.out, HB.out⟩
/-- What the loop over the steps keeps. -/
structure NbS (B X kb t : Nat) (ob : Obj) (K : KS) (ds : Nat → Int) (ms : Nat → Bool) (n : Nat) (W : World) : Prop where
  tm : TM B (fun j => j = X) W kb K [⟨t, ds, ms⟩]
  nx : K.next ≤ n
  xb : W.heap[X]? = some ob
theorem NbS.next {B X kb t : Nat} {ob : Obj} {K : KS} {ds : Nat → Int} {ms : Nat → Bool} {n : Nat} {W w' : World} (h : NbS B X kb t ob K ds ms n W) (S' : TS) (hM : TM B (fun j => j = X) w' kb S'.K [⟨t, S'.ds, S'.ms⟩]) (hH : Held (fun j => j = X) W w') (hn : S'.K.next ≤ K.next + 2) : NbS B X kb t ob S'.K S'.ds S'.ms (n + 2) w' :=
  ⟨hM, by have := h.nx; omega, (hH X rfl).trans h.xb⟩
set_option maxRecDepth 100000 in
set_option maxHeartbeats 16000000 in
theorem fdtableNobody_any (a1 a2 a3 a4 : Option Addr) (c1 c2 c3 c4 : Nat) (fs : List Nm) (ts : List Tp) (g : List Fault) (l : List FSt) (x : FSt) (w : World) (h1 : Nms w (.slice a1 fs.length c1) fs) (h2 : Tps w (.slice a2 ts.length c2) ts) (h3 : Flts w (.slice a3 g.length c3) g) (h4 : FSts w (.slice a4 l.length c4) l)
    (z1 : fs.length * 40 ≤ 140737488351232 ∧ ∀ j (hj : j < fs.length), fs[j].2.length ≤ 140737488351232) (z2 : ts.length * 40 ≤ 140737488351232 ∧ ∀ j (hj : j < ts.length), ts[j].2.length * 24 ≤ 140737488351232 ∧ ∀ i (hi : i < ts[j].2.length), ts[j].2[i].length ≤ 140737488351232) (z3 : g.length * 16 ≤ 140737488351232) (z4 : l.length * 80 ≤ 140737488351232) (hx : x.name.size ≤ maxLen ∧ I64 x.a ∧ I64 x.b) :
    Calls Tryz.prog 4 #[.agg #[.slice a1 fs.length c1, .slice a2 ts.length c2, .slice a3 g.length c3], .slice a4 l.length c4, .agg #[.int .i64 x.what, .string x.name, .int .i64 x.a, .int .i64 x.b, x.v4, x.v5, x.v6]] w fun e w' => e = .returned (.bool true) ∧ Below w.heap.size w w' := by
  have HX := hide hx
  have H4 := hide h4
  have Z4 := hide z4
  have hBs := recv_below w (Obj.cells #[.slice a1 fs.length c1, .slice a2 ts.length c2, .slice a3 g.length c3] 26)
  have hBx := recv_below (w.alloc (Obj.cells #[.slice a1 fs.length c1, .slice a2 ts.length c2, .slice a3 g.length c3] 26)) (Obj.cells #[.int .i64 x.what, .string x.name, .int .i64 x.a, .int .i64 x.b, x.v4, x.v5, x.v6] 45)
  have hsS : (w.alloc (Obj.cells #[.slice a1 fs.length c1, .slice a2 ts.length c2, .slice a3 g.length c3] 26)).heap.size = w.heap.size + 1 := by simp
  have hxb := heap_alloc_new (w.alloc (Obj.cells #[.slice a1 fs.length c1, .slice a2 ts.length c2, .slice a3 g.length c3] 26)) (Obj.cells #[.int .i64 x.what, .string x.name, .int .i64 x.a, .int .i64 x.b, x.v4, x.v5, x.v6] 45)
  rw [hsS] at hxb
  have hsx : ((w.alloc (Obj.cells #[.slice a1 fs.length c1, .slice a2 ts.length c2, .slice a3 g.length c3] 26)).alloc (Obj.cells #[.int .i64 x.what, .string x.name, .int .i64 x.a, .int .i64 x.b, x.v4, x.v5, x.v6] 45)).heap.size = w.heap.size + 2 := by simp
  have HQ := hide (trio_cells w (.slice a1 fs.length c1) (.slice a2 ts.length c2) (.slice a3 g.length c3) 26)
  have HBx := hide (hBs.trans (hBx.mono hBs.size))
  have hQ0 := (hBx.cell (p := ⟨w.heap.size, 0, none⟩) (by rw [hsS]; exact Nat.lt_succ_self _)).trans HQ.out.1
  have hQ1 := (hBx.cell (p := ⟨w.heap.size, 1, none⟩) (by rw [hsS]; exact Nat.lt_succ_self _)).trans HQ.out.2.1
  have hQ2 := (hBx.cell (p := ⟨w.heap.size, 2, none⟩) (by rw [hsS]; exact Nat.lt_succ_self _)).trans HQ.out.2.2
  have HQs := hide (And.intro hQ0 (And.intro hQ1 hQ2))
  have HXb := hide hxb
  have HSx := hide hsx
  have HAl := hide (talive_any ((w.alloc (Obj.cells #[.slice a1 fs.length c1, .slice a2 ts.length c2, .slice a3 g.length c3] 26)).alloc (Obj.cells #[.int .i64 x.what, .string x.name, .int .i64 x.a, .int .i64 x.b, x.v4, x.v5, x.v6] 45)))
  have HCf := hide fun w1 (hB1 : Below w.heap.size w w1) => config_any a1 a2 a3 c1 c2 c3 fs ts g w1 (h1.below hB1) (h2.below hB1) (h3.below hB1) z1 z2 z3
  have HZ := hide (And.intro z1.1 (And.intro z2.1 z3))
  clear h1 h2 h3 h4 z1 z2 z3 z4 hx hBs hBx hsS hxb hsx hQ0 hQ1 hQ2 HQ
  go_enter Tryz.func4, Tryz.ntmps4
  go_wp2_with fail
  generalize ((w.alloc (Obj.cells #[.slice a1 fs.length c1, .slice a2 ts.length c2, .slice a3 g.length c3] 26)).alloc (Obj.cells #[.int .i64 x.what, .string x.name, .int .i64 x.a, .int .i64 x.b, x.v4, x.v5, x.v6] 45)) = wx at *
  refine HAl.out.mono ?_
  rintro e w1 ⟨rfl, hB1⟩
  have HB1 := hide hB1
  have H1 := hide (tnothing_any none w1 (.inl rfl))
  clear hB1
  go_wp2_with fail
  refine H1.out.mono ?_
  rintro e w2 ⟨rfl, hB2⟩
  have HB2 := hide (HB1.out.trans (hB2.mono HB1.out.size))
  have hBt := recv_below w2 (.cells (.pointer none :: zslots 64).toArray 59 (0, 0))
  have HBt := hide (HB2.out.trans (hBt.mono HB2.out.size))
  have H2 := hide (tnothing_any (some ⟨w2.heap.size, 0, none⟩) (w2.alloc (.cells (.pointer none :: zslots 64).toArray 59 (0, 0))) (.inr ⟨_, rfl, by rw [cell_of_row _ _ _ _ _ _ (heap_alloc_new w2 _), List.getElem?_toArray, List.getElem?_cons_zero]⟩))
  clear hB2 hBt
  go_wp2_with fail
  refine H2.out.mono ?_
  rintro e w3 ⟨rfl, hB3⟩
  have HB3 := hide (HBt.out.trans (hB3.mono HBt.out.size))
  clear hB3
  go_wp2_with fail
  refine (tnew_nil2 w3).mono ?_
  rintro e w4 ⟨gt, rfl, hN4, hB4⟩
  have HB4 := hide (HB3.out.trans (hB4.mono HB3.out.size))
  have H3 := hide (tnothing_any (some ⟨gt, 0, none⟩) w4 hN4)
  clear hN4 hB4
  go_wp2_with fail
  refine H3.out.mono ?_
  rintro e w5 ⟨rfl, hB5⟩
  have hB5x := HB4.out.trans (hB5.mono HB4.out.size)
  have HB5x := hide hB5x
  have HB5 := hide (HBx.out.trans (hB5x.mono HBx.out.size))
  have hlt := World.block_lt_of_cell? _ _ HQs.out.1
  have q0 := (hB5x.cell hlt).trans HQs.out.1
  have q1 := (hB5x.cell (p := ⟨w.heap.size, 1, none⟩) hlt).trans HQs.out.2.1
  have q2 := (hB5x.cell (p := ⟨w.heap.size, 2, none⟩) hlt).trans HQs.out.2.2
  have HX5 : Hid (w5.heap[w.heap.size + 1]? = some (Obj.cells #[.int .i64 x.what, .string x.name, .int .i64 x.a, .int .i64 x.b, x.v4, x.v5, x.v6] 45)) := hide ((hB5x.block (w.heap.size + 1) (by rw [HSx.out]; omega)).trans HXb.out)
  clear hB5 hB5x hlt H1 H2 H3 HB1 HB2 HBt HB3 HB4 HAl HQs HXb
  go_wp2_with fail
  refine (HCf.out w5 HB5.out).mono ?_
  rintro e w6 ⟨b1, d1, b2, d2, b3, d3, rfl, hN, hT, hF, hB6⟩
  have HB6 := hide (HB5.out.trans (hB6.mono HB5.out.size))
  have HX6 := hide ((hB6.block (w.heap.size + 1) (by have := HB5x.out.size; rw [HSx.out] at this; omega)).trans HX5.out)
  have HS6 : Hid (w.heap.size + 2 ≤ w6.heap.size) := hide (by have := HB5x.out.size; have := hB6.size; rw [HSx.out] at *; omega)
  clear q0 q1 q2 HX5 HB5x HSx
  by_cases hE : checkE fs ts g = 0
  case neg =>
    have HN := hide (knew_bad b1 b2 b3 d1 d2 d3 fs ts g w6 hN hT hF HZ.out.2.2 (by have := HZ.out.1; omega) (by have := HZ.out.2.1; omega) hE)
    clear hN hT hF hB6 HCf
    generalize checkE fs ts g = E at *
    go_wp2_with fail
    refine HN.out.mono ?_
    rintro e w7 ⟨rfl, hB7⟩
    have HB7 := hide (HB6.out.trans (hB7.mono HB6.out.size))
    clear hB7 HN
    go_wp2_with (first | (go_at_call 8; refine (tnum_is _ _).mono ?_; rintro _ _ ⟨rfl, rfl⟩) | fail)
    go_ret
    exact ⟨rfl, HB7.out⟩
  have HN := hide (knew_good b1 b2 b3 d1 d2 d3 fs ts g w6 hN hT hF HZ.out.2.2 (by have := HZ.out.1; omega) (by have := HZ.out.2.1; omega) hE)
  clear hN hT hF hB6 HCf
  go_wp2_with fail
  refine HN.out.mono ?_
  rintro e w7 ⟨kb, rfl, hK, hB7⟩
  have HB7 := hide (HB6.out.trans (hB7.mono HB6.out.size))
  have HX7 := hide ((hB7.block (w.heap.size + 1) (by have := HS6.out; omega)).trans HX6.out)
  have HNn := hide (new_nums fs ts g)
  have HNt := hide ((TM.make2 (B := w.heap.size) (P := fun j => j = w.heap.size + 1) hK (fun k e => ⟨by have := HS6.out; omega, by have := HS6.out; omega⟩) (fun k e => by have := HS6.out; have := hB7.size; omega)).new)
  clear hB7 HN hK HX6
  generalize hK0 : KS.new fs ts g = K0 at *
  clear hK0 hE
  go_wp2_with (first | (go_at_call 8; refine (tnum_is _ _).mono ?_; rintro _ _ ⟨rfl, rfl⟩) | fail)
  refine HNt.out.mono ?_
  rintro e w8 ⟨t, rfl, hM, hB8, hH8⟩
  have HB8 := hide (HB7.out.trans hB8)
  have HS8 : Hid (NbS w.heap.size (w.heap.size + 1) kb t (Obj.cells #[.int .i64 x.what, .string x.name, .int .i64 x.a, .int .i64 x.b, x.v4, x.v5, x.v6] 45) K0 (fun _ => 0) (fun _ => false) 1 w8) := hide ⟨hM, by have := HNn.out; omega, (hH8 _ rfl).trans HX7.out⟩
  clear hM hB8 hH8 HNt HB7 HX7 HNn HB6
  go_wp2_with fail
  obtain ⟨ob, hob⟩ : ∃ ob, ob = Obj.cells #[.int .i64 x.what, .string x.name, .int .i64 x.a, .int .i64 x.b, x.v4, x.v5, x.v6] 45 := ⟨_, rfl⟩
  rw [← hob] at HS8
  have HOb := hide hob
  clear hob
  go_loopw [11] (fun i wr => ∃ (k : Nat) (K : KS) (ds : Nat → Int) (ms : Nat → Bool), k ≤ l.length ∧ i = .int .i64 k ∧ Hid (NbS w.heap.size (w.heap.size + 1) kb t ob K ds ms (1 + 2 * k) wr) ∧ Hid (Below w.heap.size w wr)) (fun i _ => l.length - (intOf i).toNat)
  case atStart => exact ⟨0, K0, _, _, Nat.zero_le _, rfl, HS8, HB8⟩
  case round =>
    obtain ⟨k, K, ds, ms, hk, rfl, HS, HB⟩ := hrel
    clear HS8 HB8
    have hz4 := Z4.out
    by_cases hlt : k < l.length
    · obtain ⟨b, off, rfl, q0, q1, q2, hsz, i1⟩ := fsts_at H4.out HB.out k hlt
      have hlw : b < w.heap.size := by
        obtain ⟨b', off', e, q0', -⟩ := fsts_at H4.out (Below.refl _ w) k hlt
        cases e
        exact World.block_lt_of_cell? w _ q0'
      have hk1 : (0 : Int) ≤ (k : Int) := by omega
      have hk2 : (k : Int) < (l.length : Int) := by omega
      have hnx : K.next + 1 < 9223372036854775807 := by have := HS.out.nx; omega
      generalize l[k].what = wh at *
      generalize l[k].name = nm at *
      generalize l[k].a = av at *
      have HLw := hide hlw
      clear hlw
      by_cases w0 : wh = 0
      · subst w0
        have hBd : Below wr.heap.size wr wr.drew := (Below.refl _ wr).drew
        have HO := hide (TM.open (L1 := []) (L2 := []) (HS.out.tm.below hBd) nm av hsz (show K.next < 9223372036854775807 by omega) _ rfl)
        have q1d : wr.drew.cell? ⟨b, off + k * 7 + 1, none⟩ = some (.string nm) := q1
        have q2d : wr.drew.cell? ⟨b, off + k * 7 + 2, none⟩ = some (.int .i64 av) := q2
        have HKp : Hid (∀ w5, Below w.heap.size wr.drew w5 → w5.cell? ⟨b, off + k * 7 + 1, none⟩ = some (.string nm) ∧ w5.cell? ⟨b, off + k * 7 + 2, none⟩ = some (.int .i64 av)) := hide (fun w5 h => ⟨(h.cell (p := ⟨b, off + k * 7 + 1, none⟩) HLw.out).trans q1d, (h.cell (p := ⟨b, off + k * 7 + 2, none⟩) HLw.out).trans q2d⟩)
        have HNx : Hid (∀ w5, TM w.heap.size (fun j => j = w.heap.size + 1) w5 kb ((⟨K, ds, ms⟩ : TS).open nm av).2.2.K [⟨t, ((⟨K, ds, ms⟩ : TS).open nm av).2.2.ds, ((⟨K, ds, ms⟩ : TS).open nm av).2.2.ms⟩] → Held (fun j => j = w.heap.size + 1) wr.drew w5 → Below w.heap.size wr.drew w5 → NbS w.heap.size (w.heap.size + 1) kb t ob ((⟨K, ds, ms⟩ : TS).open nm av).2.2.K ((⟨K, ds, ms⟩ : TS).open nm av).2.2.ds ((⟨K, ds, ms⟩ : TS).open nm av).2.2.ms (1 + 2 * (k + 1)) w5 ∧ Below w.heap.size w w5) := hide (fun w5 hM hH hB =>
          ⟨HS.out.next _ hM hH (open_next ⟨K, ds, ms⟩ nm av), (HB.out.trans ((Below.refl _ wr).drew.mono HB.out.size)).trans hB⟩)
        generalize (⟨K, ds, ms⟩ : TS).open nm av = r at *
        clear hBd
        go_wp2_with fail
        go_region_held3 (fun w' => w'.cell? ⟨b, off + k * 7 + 1, none⟩ = some (.string nm) ∧ w'.cell? ⟨b, off + k * 7 + 2, none⟩ = some (.int .i64 av))
          (first | exact K5 | go_keep)
          (first
            | (go_at_call 21; refine HO.out.mono ?_; rintro e w9 ⟨rfl, hM, hB9, hH⟩; have K5 := HKp.out w9 hB9)
            | fail)
        have HN9 := hide (HNx.out w9 hM hH hB9)
        clear hM hH hB9
        go_wp2_with fail
        go_roundw
        case rel => exact ⟨k + 1, _, _, _, by omega, by go_num, hide HN9.out.1, hide HN9.out.2⟩
        case measure => simp [intOf]; omega
      · by_cases w1' : wh = 1
        · subst w1'
          have HO := hide (TM.pipe (L1 := []) (L2 := []) HS.out.tm hnx _ rfl)
          have HNx := hide (pipe_next ⟨K, ds, ms⟩)
          generalize (⟨K, ds, ms⟩ : TS).pipe = r at *
          go_wp2_with fail
          refine HO.out.mono ?_
          rintro e w9 ⟨rfl, hM, hB9, hH⟩
          have HN9 := hide (HS.out.next _ hM hH HNx.out)
          have HB9 := hide (HB.out.trans hB9)
          clear hM hH hB9
          go_wp2_with fail
          go_roundw
          case rel => exact ⟨k + 1, _, _, _, by omega, by go_num, HN9, HB9⟩
          case measure => simp [intOf]; omega
        · by_cases w4' : wh = 4
          · subst w4'
            have HO := hide (TM.dup (L1 := []) (L2 := []) HS.out.tm av _ rfl)
            have HNx := hide (dup_next ⟨K, ds, ms⟩ av)
            generalize (⟨K, ds, ms⟩ : TS).dup av = r at *
            go_wp2_with fail
            refine HO.out.mono ?_
            rintro e w9 ⟨rfl, hM, hB9, hH⟩
            have HN9 := hide (HS.out.next _ hM hH HNx.out)
            have HB9 := hide (HB.out.trans hB9)
            clear hM hH hB9
            go_wp2_with fail
            go_roundw
            case rel => exact ⟨k + 1, _, _, _, by omega, by go_num, HN9, HB9⟩
            case measure => simp [intOf]; omega
          · have HN9 : Hid (NbS w.heap.size (w.heap.size + 1) kb t ob K ds ms (1 + 2 * (k + 1)) wr) := hide ⟨HS.out.tm, by have := HS.out.nx; omega, HS.out.xb⟩
            have e0 : (wh == 0) = false := by simpa using w0
            have e1 : (wh == 1) = false := by simpa using w1'
            have e4 : (wh == 4) = false := by simpa using w4'
            go_wp2_with fail
            go_roundw
            case rel => exact ⟨k + 1, _, _, _, by omega, by go_num, HN9, HB⟩
            case measure => simp [intOf]; omega
    · obtain rfl : k = l.length := by omega
      have HL := hide (HS.out.tm.list (x := ⟨t, ds, ms⟩) (by simp) _ rfl)
      have HUl := hide (useds_len ds 64)
      obtain ⟨L, hL⟩ : ∃ L, useds ds 64 = L := ⟨_, rfl⟩
      rw [hL] at HL HUl
      have HLq := hide hL
      clear hL hlt hk
      go_wp2_with fail
      refine HL.out.mono ?_
      rintro e w9 ⟨v9, rfl, hO9, hB9⟩
      obtain ⟨va9, vc9, rfl⟩ := owns_slice hO9
      have HC := hide (copyInts_any va9 vc9 L wr.heap.size w9 hO9 HUl.out)
      have HB9 := hide hB9
      clear hO9 hB9
      go_wp2_with fail
      refine HC.out.mono ?_
      rintro e w10 ⟨v10, rfl, hO10, hB10⟩
      obtain ⟨wa, wc, rfl⟩ := owns_slice hO10
      have hB10' := HB9.out.trans (hB10.mono HB9.out.size)
      have HM10 := hide (HS.out.tm.claim hB10' (fun j => j = w.heap.size + 1 ∨ (Value.slice wa L.length wc).ownBlock = some j) (fun j e => e.elim .inl (fun e => .inr ⟨Nat.le_trans HB9.out.size (hO10.lt j e).1, (hO10.lt j e).2⟩)))
      have hX10 := (HS.out.tm.held hB10' (w.heap.size + 1) rfl).trans HS.out.xb
      rw [HOb.out] at hX10
      have x0 : w10.cell? ⟨w.heap.size + 1, 0, none⟩ = some (.int .i64 x.what) := by rw [cell_of_row _ _ _ _ _ _ hX10]; rfl
      have x1 : w10.cell? ⟨w.heap.size + 1, 1, none⟩ = some (.string x.name) := by rw [cell_of_row _ _ _ _ _ _ hX10]; rfl
      have x2 : w10.cell? ⟨w.heap.size + 1, 2, none⟩ = some (.int .i64 x.a) := by rw [cell_of_row _ _ _ _ _ _ hX10]; rfl
      have x3 : w10.cell? ⟨w.heap.size + 1, 3, none⟩ = some (.int .i64 x.b) := by rw [cell_of_row _ _ _ _ _ _ hX10]; rfl
      have HW10 := hide hO10
      have HB10 := hide (HB.out.trans (hB10'.mono HB.out.size))
      have hnx : K.next < 9223372036854775807 := by have := HS.out.nx; omega
      have HX2 := HX
      clear hO10 hB10 hB10' hX10 HL HC HB9 HB HS HOb H4 Z4 hz4
      generalize x.what = xw at *
      generalize x.name = xn at *
      generalize x.a = xa at *
      generalize x.b = xb at *
      rcases (show xw = 0 ∨ xw = 2 ∨ xw = 3 ∨ xw = 4 ∨ xw = 5 ∨ (xw ≠ 0 ∧ xw ≠ 2 ∧ xw ≠ 3 ∧ xw ≠ 4 ∧ xw ≠ 5) by omega) with rfl | rfl | rfl | rfl | rfl | hne
      case' inl =>
        have HO := hide (TM.open (L1 := []) (L2 := []) HM10.out xn xa HX2.out.1 hnx _ rfl)
        have HE : Hid (((⟨K, ds, ms⟩ : TS).open xn xa).2.1 ≠ 0 → ((⟨K, ds, ms⟩ : TS).open xn xa).2.2.ds = ds) := hide (fun h => open_same h)
        generalize (⟨K, ds, ms⟩ : TS).open xn xa = r at *
        go_wp2_with fail
        refine HO.out.mono ?_
        rintro e w11 ⟨rfl, hM, hB11, hH⟩
        have HM11 := hide hM
        have HB11 := hide (HB10.out.trans hB11)
        have HW11 := hide (owns_keep HW10.out (fun j hj => hH j (.inr hj)))
        clear hM hB11 hH HO HM10 HW10 HB10 x0 x1 x2 x3 HX2
        generalize r.2.2.K = K' at *
        generalize r.2.2.ds = ds' at *
        generalize r.2.2.ms = ms' at *
        generalize r.2.1 = E at *
      case' inr.inl =>
        have HO := hide (TM.install (L1 := []) (L2 := []) HM10.out xa HX2.out.2.1 _ rfl)
        have HE : Hid (((⟨K, ds, ms⟩ : TS).install xa).2.1 ≠ 0 → ((⟨K, ds, ms⟩ : TS).install xa).2.2.ds = ds) := hide (fun h => install_same h)
        generalize (⟨K, ds, ms⟩ : TS).install xa = r at *
        go_wp2_with fail
        refine HO.out.mono ?_
        rintro e w11 ⟨rfl, hM, hB11, hH⟩
        have HM11 := hide hM
        have HB11 := hide (HB10.out.trans hB11)
        have HW11 := hide (owns_keep HW10.out (fun j hj => hH j (.inr hj)))
        clear hM hB11 hH HO HM10 HW10 HB10 x0 x1 x2 x3 HX2
        generalize r.2.2.K = K' at *
        generalize r.2.2.ds = ds' at *
        generalize r.2.2.ms = ms' at *
        generalize r.2.1 = E at *
      case' inr.inr.inl =>
        have HO := hide (TM.close (L1 := []) (L2 := []) HM10.out xa _ rfl)
        have HE : Hid (((⟨K, ds, ms⟩ : TS).close xa).1 ≠ 0 → ((⟨K, ds, ms⟩ : TS).close xa).2.ds = ds) := hide (fun h => close_same h)
        generalize (⟨K, ds, ms⟩ : TS).close xa = r at *
        go_wp2_with fail
        refine HO.out.mono ?_
        rintro e w11 ⟨rfl, hM, hB11, hH⟩
        have HM11 := hide hM
        have HB11 := hide (HB10.out.trans hB11)
        have HW11 := hide (owns_keep HW10.out (fun j hj => hH j (.inr hj)))
        clear hM hB11 hH HO HM10 HW10 HB10 x0 x1 x2 x3 HX2
        generalize r.2.K = K' at *
        generalize r.2.ds = ds' at *
        generalize r.2.ms = ms' at *
        generalize r.1 = E at *
      case' inr.inr.inr.inl =>
        have HO := hide (TM.dup (L1 := []) (L2 := []) HM10.out xa _ rfl)
        have HE : Hid (((⟨K, ds, ms⟩ : TS).dup xa).2.1 ≠ 0 → ((⟨K, ds, ms⟩ : TS).dup xa).2.2.ds = ds) := hide (fun h => dup_same h)
        generalize (⟨K, ds, ms⟩ : TS).dup xa = r at *
        go_wp2_with fail
        refine HO.out.mono ?_
        rintro e w11 ⟨rfl, hM, hB11, hH⟩
        have HM11 := hide hM
        have HB11 := hide (HB10.out.trans hB11)
        have HW11 := hide (owns_keep HW10.out (fun j hj => hH j (.inr hj)))
        clear hM hB11 hH HO HM10 HW10 HB10 x0 x1 x2 x3 HX2
        generalize r.2.2.K = K' at *
        generalize r.2.2.ds = ds' at *
        generalize r.2.2.ms = ms' at *
        generalize r.2.1 = E at *
      case' inr.inr.inr.inr.inl =>
        have HO := hide (TM.dupTo (L1 := []) (L2 := []) HM10.out xa xb _ rfl)
        have HE : Hid (((⟨K, ds, ms⟩ : TS).dupTo xa xb).1 ≠ 0 → ((⟨K, ds, ms⟩ : TS).dupTo xa xb).2.ds = ds) := hide (fun h => dupTo_same h)
        generalize (⟨K, ds, ms⟩ : TS).dupTo xa xb = r at *
        go_wp2_with fail
        refine HO.out.mono ?_
        rintro e w11 ⟨rfl, hM, hB11, hH⟩
        have HM11 := hide hM
        have HB11 := hide (HB10.out.trans hB11)
        have HW11 := hide (owns_keep HW10.out (fun j hj => hH j (.inr hj)))
        clear hM hB11 hH HO HM10 HW10 HB10 x0 x1 x2 x3 HX2
        generalize r.2.K = K' at *
        generalize r.2.ds = ds' at *
        generalize r.2.ms = ms' at *
        generalize r.1 = E at *
      case' inr.inr.inr.inr.inr =>
        have e0 : (xw == 0) = false := by simpa using hne.1
        have e2 : (xw == 2) = false := by simpa using hne.2.1
        have e3 : (xw == 3) = false := by simpa using hne.2.2.1
        have e4 : (xw == 4) = false := by simpa using hne.2.2.2.1
        have e5 : (xw == 5) = false := by simpa using hne.2.2.2.2
        obtain ⟨E, hE0⟩ : ∃ E : Int, E = 0 := ⟨_, rfl⟩
        obtain ⟨w11, hw11⟩ : ∃ w11, w11 = w10 := ⟨_, rfl⟩
        obtain ⟨K', hK'⟩ : ∃ K', K' = K := ⟨_, rfl⟩
        obtain ⟨ds', hds'⟩ : ∃ ds', ds' = ds := ⟨_, rfl⟩
        obtain ⟨ms', hms'⟩ : ∃ ms', ms' = ms := ⟨_, rfl⟩
        have HE : Hid (E ≠ 0 → ds' = ds) := hide (fun _ => hds')
        have HM11 := HM10
        have HB11 := HB10
        have HW11 := HW10
        rw [← hw11, ← hK', ← hds', ← hms'] at HM11
        rw [← hw11] at HB11 HW11
        have HE0 := hide hE0
        have HW0 := hide hw11
        clear hE0 hw11 hK' hds' hms' HM10 HW10 HB10 HX2 hne
        go_wp2_with fail
        rw [← HW0.out, ← HE0.out]
      all_goals
        obtain ⟨L', hL'⟩ : ∃ L', useds ds' 64 = L' := ⟨_, rfl⟩
        have HL1 := hide (HM11.out.list (x := ⟨t, ds', ms'⟩) (by simp) L' hL')
        have HUl' := hide (useds_len ds' 64)
        have HIn : Hid (∀ y ∈ L', y < 64) := hide (fun y hy => useds_lt (ds := ds') (by rw [hL']; exact hy))
        rw [hL'] at HUl'
        have HLq' := hide hL'
        clear hL'
        try go_wp2_with fail
        refine HL1.out.mono ?_
        rintro e w12 ⟨v12, rfl, hO12, hB12⟩
        obtain ⟨ya, yc, rfl⟩ := owns_slice hO12
        have HM12 := hide (HM11.out.claim hB12 (fun j => (j = w.heap.size + 1 ∨ (Value.slice wa L.length wc).ownBlock = some j) ∨ (Value.slice ya L'.length yc).ownBlock = some j) (fun j e => e.elim .inl (fun e => .inr ⟨(hO12.lt j e).1, (hO12.lt j e).2⟩)))
        have HW12 := hide (owns_keep HW11.out (fun j hj => HM11.out.held hB12 j (.inr hj)))
        have HB12 := hide (HB11.out.trans (hB12.mono HB11.out.size))
        have HSp : Hid (∀ g, ya = some ⟨g, 0, none⟩ → Spo w12 g L'.length) := hide (fun g e => by subst e; exact spo_of hO12)
        have HAd : Hid (0 < L'.length → ∃ g, ya = some ⟨g, 0, none⟩ ∧ w11.heap.size ≤ g) := hide (fun h0 => by
          obtain ⟨g, e, _⟩ := ints_cell hO12 h0 (ivs_at L' 0 h0)
          subst e
          exact ⟨g, rfl, (hO12.lt g rfl).1⟩)
        have HWl : Hid (∀ j, (Value.slice wa L.length wc).ownBlock = some j → j < w11.heap.size) := hide (fun j e => (HW11.out.lt j e).2)
        have hul := HUl'.out
        have HB11s := hide HB11.out.size
        clear hO12 hB12 HL1 HM11 HW11 HB11
        go_wp2_with fail
        go_loopw [15] (fun i wr => ∃ k : Nat, k ≤ L'.length ∧ i = .int .i64 k ∧ Hid (TM w.heap.size (fun j => (j = w.heap.size + 1 ∨ (Value.slice wa L.length wc).ownBlock = some j) ∨ (Value.slice ya L'.length yc).ownBlock = some j) wr kb K' [⟨t, ds', ms'⟩]) ∧ Hid (wr.ownsRow w9.heap.size 3 1 (.slice wa L.length wc) L.length (ivs L)) ∧ Hid (∀ g, ya = some ⟨g, 0, none⟩ → Spo wr g L'.length) ∧ Hid (Below w.heap.size w wr)) (fun i _ => L'.length - (intOf i).toNat)
        case atStart => exact ⟨0, Nat.zero_le _, rfl, HM12, HW12, HSp, HB12⟩
        case round =>
          obtain ⟨k, hk, rfl, HMk, HWk, HSk, HBk⟩ := hrel
          clear HM12 HW12 HSp HB12
          by_cases hlt : k < L'.length
          · obtain ⟨g9, rfl, hg9⟩ := HAd.out (by omega)
            have hsp := HSk.out g9 rfl
            obtain ⟨u9, hc9⟩ := hsp.cell hlt
            have hf9 := hsp.soft k
            have hk1 : (0 : Int) ≤ (k : Int) := by omega
            have hk2 : (k : Int) < (L'.length : Int) := by omega
            have hT9 : Turned (fun j => j = g9) wr (wr.setCell ⟨g9, k, none⟩ (.int .i64 77)) := (Turned.refl (fun j => j = g9) wr).set (.inl rfl)
            have HM9 := hide (HMk.out.turned hT9 (fun j e => .inl (.inr (by rw [e]; rfl))))
            have HW9 := hide (owns_turned HWk.out hT9 (fun j e e' => by have := HWl.out j e; omega))
            have HS9 : Hid (∀ g, some (⟨g9, 0, none⟩ : Addr) = some ⟨g, 0, none⟩ → Spo (wr.setCell ⟨g9, k, none⟩ (.int .i64 77)) g L'.length) := hide (fun g e => by cases e; exact hsp.set k _)
            have HB9 : Hid (Below w.heap.size w (wr.setCell ⟨g9, k, none⟩ (.int .i64 77))) := hide (HBk.out.setCell (by show w.heap.size ≤ g9; have := HB11s.out; omega) _)
            clear hsp hT9 hg9
            go_wp2_with fail
            go_roundw
            case rel => exact ⟨k + 1, by omega, by go_num, HM9, HW9, HS9, HB9⟩
            case measure => simp [intOf]; omega
          · have HL3 := hide (HMk.out.list (x := ⟨t, ds', ms'⟩) (by simp) L' HLq'.out)
            go_wp2_with fail
            refine HL3.out.mono ?_
            rintro e w13 ⟨v13, rfl, hO13, hB13⟩
            obtain ⟨za, zc, rfl⟩ := owns_slice hO13
            have HB13 := hide (HBk.out.trans (hB13.mono HBk.out.size))
            have hW13 := owns_keep HWk.out (fun j hj => HMk.out.held hB13 j (.inl (.inr hj)))
            by_cases hE : E = 0
            · rcases L' with _ | ⟨y0, L'⟩
              · clear hB13 hW13 hO13
                go_wp2_with (first | (go_at_call 8; refine (tnum_is _ _).mono ?_; rintro _ _ ⟨rfl, rfl⟩) | fail)
                go_ret
                exact ⟨rfl, HB13.out⟩
              · obtain ⟨zg, rfl, hzc⟩ := ints_cell hO13 (Nat.succ_pos _) (ivs_at (y0 :: L') 0 (Nat.succ_pos _))
                simp only [List.getElem_cons_zero] at hzc
                have hy0 : (y0 : Int) < 64 := by have := HIn.out y0 (by simp); omega
                have hzl : (((y0 :: L').length : Int) == 0) = false := by rw [beq_eq_false_iff_ne]; simp; omega
                clear hB13 hW13 hO13
                go_wp2_with (first | (go_at_call 8; refine (tnum_is _ _).mono ?_; rintro _ _ ⟨rfl, rfl⟩) | fail)
                go_ret
                exact ⟨rfl, HB13.out⟩
            · have hEq : L' = L := by rw [← HLq'.out, HE.out hE]; exact HLq.out
              have hE' : (E != 0) = true := by simpa using hE
              have hN2 := Nums.of_owns hW13
              have hN1 : Nums w13 (.slice za L'.length zc) (L.map fun i : Nat => (i : Int)) := by have := Nums.of_owns hO13; rw [hEq] at this ⊢; exact this
              have HSm := hide (sameInts_any _ _ _ w13 hN1 hN2 (by rw [List.length_map]; have := HUl.out; omega))
              clear hB13 hW13 hO13 hN1 hN2 hEq
              go_wp2_with (first | (go_at_call 8; refine (tnum_is _ _).mono ?_; rintro _ _ ⟨rfl, rfl⟩) | (go_at_call 16; refine HSm.out.mono ?_; rintro _ w14 ⟨rfl, hB14⟩) | fail)
              go_ret
              exact ⟨rfl, HB13.out.trans (hB14.mono HB13.out.size)⟩
end Go.Proofs.YtbhlnmekhgfgcaaGreat

/- FdtableNobody answers true for all setups, steps and calls, within the reach of a machine's memory: refused calls change nothing; tables that no call made, and such without a kernel, answer as nothing. -/
namespace Go.Proofs.YtbhlnmekhgfgcaaGreat.fdtableNobody
open Go.ChangeShapes Go.WideShapes Go.ChangeAt Go.RowKit
open Go.ChangeMaps (open_string shut_string)
set_option linter.unusedVariables false

theorem own : ownKnob Tryz.prog.godebug = none := by kernel_rfl
theorem laidOut : laidOutB Tryz.prog = true := by kernel_rfl

set_option maxRecDepth 100000 in
theorem lifted (os : Os) (started : os.Started) (H : Type) (enc : TypeId × Value → H) :
    ReturnsInHanded {} Tryz.checked os 4 .any (Rows.fdtableNobodySpec.pre6 enc Tryz.prog Tryz.f4 Rows.fdtableNobodyRow.domain false) (Rows.fdtableNobodySpec.post enc Tryz.prog Tryz.f4 false true false false) := by
  refine returnsInHanded_of_change_sized (C := Tryz.checked) own started (by kernel_rfl) Tryz.func4
    (ChangeSpec.witness6 (enc := enc) (C := Tryz.checked) false ⟨#[], #[.agg #[.slice none 0 0, .slice none 0 0, .slice none 0 0], .slice none 0 0, .agg #[.int .i64 0, .string ByteArray.empty, .int .i64 0, .int .i64 0, .int .i64 0, .bool false, .slice none 0 0]], []⟩ 8 (by kernel_rfl) (by kernel_rfl) (by kernel_rfl) (by kernel_rfl)) ?_
  intro W base args ds gs before hval0 hW hcnd0 hsz0 _
  have hsz : (DataW.weightsEach Tryz.prog (Tryz.f4.params.toList ++ Rows.fdtableNobodySpec.plain.varTypes Tryz.prog) (ds ++ gs)).all (· ≤ reachBytes) = true := hsz0
  clear hsz0
  have hval : ∀ (j : Nat) t v, Tryz.f4.params[j]? = some t → args[j]? = some v → Value.okWide Tryz.prog W .any base t v := hval0
  have hW' := hW
  obtain ⟨p, q, hA0, hV, rfl, hfz, hnd⟩ := hW
  have hA : DataW.TrodAll enc Tryz.prog W 0 (fun _ => true) true Tryz.f4.params.toList args.toList ds p := hA0
  rw [Tryz.params4] at hA hval hsz
  obtain ⟨v0, vs0, d0, ds0, p0, q0, hargs, rfl, rfl, h0, r0⟩ := trodAll_cons hA
  obtain ⟨v1, vs1, d1, ds1, p1, q1, rfl, rfl, rfl, h1, r1⟩ := trodAll_cons r0
  obtain ⟨v2, vs2, d2, ds2, p2, q2, rfl, rfl, rfl, h2, r2⟩ := trodAll_cons r1
  obtain ⟨rfl, rfl, rfl⟩ := trodAll_nil r2
  obtain rfl : args = #[v0, v1, v2] := by cases args; simp_all
  obtain ⟨rfl, rfl⟩ := trodVars_none hV
  obtain ⟨c0, rfl, hc0⟩ := okWide_struct Tryz.underlying26 (hval 0 26 v0 rfl rfl)
  have k0 := h0
  have lt0 : ∀ x ∈ p0, x.block < W.heap.size := by obtain ⟨m, hm⟩ := k0; exact DataW.trod_lt m _ _ _ hm
  obtain ⟨fuel0, hf0⟩ := h0
  obtain ⟨fa0, fl0, fc0, ta0, tl0, tc0, ga0, gl0, gc0, dn0, dt0, dg0, sf0, qn0, qt0, qg0, hcl0, rfl, hfn0, hft0, hfg0⟩ := setup_cells Tryz.underlying26 (by kernel_rfl) rfl rfl rfl (by kernel_rfl) (by kernel_rfl) (by kernel_rfl) Tryz.underlying22 Tryz.underlying23 Tryz.underlying24 hf0
  obtain rfl : c0 = #[.slice fa0 fl0 fc0, .slice ta0 tl0 tc0, .slice ga0 gl0 gc0] := by cases c0; simpa [Value.cells] using hcl0
  obtain ⟨fs0, yf0, ef0⟩ := nms_arg Tryz.underlying22 Tryz.underlying77 (by kernel_rfl) rfl rfl (by kernel_rfl) (by kernel_rfl) Tryz.underlying9 Tryz.underlying43 Tryz.underlying5 (by kernel_rfl) hfn0
  obtain ⟨ts0, yt0, et0⟩ := tps_arg Tryz.underlying23 Tryz.underlying82 (by kernel_rfl) rfl rfl (by kernel_rfl) (by kernel_rfl) Tryz.underlying9 Tryz.underlying80 Tryz.underlying43 (by kernel_rfl) Tryz.underlying5 (by kernel_rfl) hft0
  obtain ⟨gg0, yg0, eg0⟩ := faults_arg Tryz.underlying24 Tryz.underlying164 (by kernel_rfl) rfl rfl (by kernel_rfl) (by kernel_rfl) Tryz.underlying3 Tryz.underlying3 hfg0
  obtain rfl : fl0 = fs0.length := by obtain ⟨_, _, e, _⟩ := yf0; cases e; rfl
  obtain rfl : tl0 = ts0.length := by obtain ⟨_, _, e, _⟩ := yt0; cases e; rfl
  obtain rfl : gl0 = gg0.length := by obtain ⟨_, _, e, _⟩ := flts_form yg0; cases e; rfl
  have sm0 : Small Tryz.prog 26 (.agg [dn0, dt0, dg0]) := small_arg hsz (j := 0) rfl rfl
  have zf0 := named_small (sm0.fields Tryz.underlying26 0 _ _ rfl rfl) Tryz.underlying22 (by kernel_rfl) Tryz.underlying77 Tryz.underlying43 (by kernel_rfl) ef0
  have zt0 := typed_small (sm0.fields Tryz.underlying26 1 _ _ rfl rfl) Tryz.underlying23 (by kernel_rfl) Tryz.underlying82 Tryz.underlying80 Tryz.underlying43 (by kernel_rfl) (by kernel_rfl) et0
  have zg0 := faults_small (sm0.fields Tryz.underlying26 2 _ _ rfl rfl) Tryz.underlying24 (by kernel_rfl) eg0
  obtain ⟨c1, len1, cap1, rfl⟩ := okWide_slice Tryz.underlying27 (hval 1 27 v1 rfl rfl)
  have k1 := h1
  have lt1 : ∀ x ∈ p1, x.block < W.heap.size := by obtain ⟨m, hm⟩ := k1; exact DataW.trod_lt m _ _ _ hm
  obtain ⟨fuel1, hf1⟩ := h1
  obtain ⟨l1, y1, e1⟩ := fsts_arg Tryz.underlying27 Tryz.underlying45 (by kernel_rfl) rfl rfl rfl rfl (by kernel_rfl) (by kernel_rfl) (by kernel_rfl) (by kernel_rfl) Tryz.underlying3 Tryz.underlying9 Tryz.underlying3 Tryz.underlying3 hf1
  obtain rfl : len1 = l1.length := by obtain ⟨_, _, e, _⟩ := y1; cases e; rfl
  have z1 := fsteps_small (small_arg hsz (j := 1) (t := 27) rfl rfl) Tryz.underlying27 (by kernel_rfl) e1
  obtain ⟨c2, rfl, hc2⟩ := okWide_struct Tryz.underlying45 (hval 2 45 v2 rfl rfl)
  have k2 := h2
  have lt2 : ∀ x ∈ p2, x.block < W.heap.size := by obtain ⟨m, hm⟩ := k2; exact DataW.trod_lt m _ _ _ hm
  obtain ⟨fuel2, hf2⟩ := h2
  obtain ⟨x2, hcl2, y2⟩ := fstep_cells Tryz.underlying45 (by kernel_rfl) rfl rfl rfl rfl (by kernel_rfl) (by kernel_rfl) (by kernel_rfl) (by kernel_rfl) Tryz.underlying3 Tryz.underlying9 Tryz.underlying3 Tryz.underlying3 hf2
  obtain rfl : c2 = #[.int .i64 x2.what, .string x2.name, .int .i64 x2.a, .int .i64 x2.b, x2.v4, x2.v5, x2.v6] := by cases c2; simpa [Value.cells] using hcl2
  clear hA0
  refine (fdtableNobody_any _ _ _ _ _ _ _ _ fs0 ts0 gg0 l1 x2 W yf0 yt0 yg0 y1 zf0 zt0 zg0 z1 y2).mono fun e W' ⟨he, bel⟩ => ?_
  subst he
  exact ⟨_, rfl, _, _, _, [], _, [], hW', trodAll_mk1 (shut_bool Tryz.underlying4 _), (trodAll_cons_mk (Below.trod laidOut (by kernel_rfl) (of_decide_eq_true (by kernel_rfl)) k0 bel lt0) (trodAll_cons_mk (Below.trod laidOut (by kernel_rfl) (of_decide_eq_true (by kernel_rfl)) k1 bel lt1) (trodAll_cons_mk (Below.trod laidOut (by kernel_rfl) (of_decide_eq_true (by kernel_rfl)) k2 bel lt2) trodAll_mk0))), rfl, bel.frame _, fun h => by cases h⟩

theorem over : Rows.fdtableNobodyRow.holds Tryz.pinned (OpenSpec.ofChange Rows.fdtableNobodySpec) :=
  OpenClaim.holds_of_wide 4 Tryz.f4 rfl rfl rfl rfl rfl rfl rfl ⟨rfl, rfl, rfl, rfl, rfl⟩ rfl rfl rfl rfl rfl (by kernel_rfl) Tryz.func4 (by kernel_rfl)
    (of_decide_eq_true (by kernel_rfl)) (by unfold Func.isWrapper; first | (rw [if_pos (by decide +kernel)]; kernel_rfl) | (rw [if_neg (by decide +kernel)]; exact ⟨rfl, rfl⟩))
    (fun os started H enc _ => lifted os started H enc)
end Go.Proofs.YtbhlnmekhgfgcaaGreat.fdtableNobody
namespace Go.Proofs.YtbhlnmekhgfgcaaGreat
theorem fdtableNobody_holds : Rows.FdtableNobodySaid := fdtableNobody.over
#print axioms fdtableNobody_holds
end Go.Proofs.YtbhlnmekhgfgcaaGreat

/- FdtableDrops answers true for all numbers, within the reach of a machine's memory: when all tables have closed all, no description is left: a pipe's other end finds its end. -/
import Derived.Test.YtbhlnmekhgfgcaaKM10
import Derived.BigRegionIn
import Derived.ProofKit
import Derived.OpenShut
import Derived.ShutString
import Derived.ChangeOld
import Derived.Below
import Derived.SizedLaws
/- A table's calls: Pipe. -/
namespace Go.Proofs.Ytbhlnmekhgfgcaa
open Go.RowKit Go.Shelf Go.Maps

attribute [local go_sem] Oper.semAt_some

def TS.pipe (S : TS) : Int × Int × Int × TS := match frees S.ds 64 with
  | x :: y :: _ => if S.K.pipe.2.2.1 = 0 then ((x : Int), (y : Int), 0, ⟨S.K.pipe.2.2.2, tset (tset S.ds x S.K.pipe.1) y S.K.pipe.2.1, tset (tset S.ms x false) y false⟩) else (0, 0, S.K.pipe.2.2.1, ⟨S.K.pipe.2.2.2, S.ds, S.ms⟩)
  | _ => (0, 0, 31, S)
/-- The two descriptors that were found so far. -/
def EndsAt (W : World) (E : Nat) (pre : List Nat) : Prop := ∃ x0 x1 : Int, W.heap[E]? = some (.cells #[.int .i64 x0, .int .i64 x1] 90 (0, 0)) ∧ (∀ a : Nat, pre[0]? = some a → x0 = (a : Int)) ∧ (∀ a : Nat, pre[1]? = some a → x1 = (a : Int))
theorem EndsAt.kept {W W' : World} {row : Option Nat} {E : Nat} {pre : List Nat} (h : EndsAt W E pre) (hg : W.grownBy W' row) (hr : ∀ r, row = some r → ∃ o : Obj, W.heap[r]? = some o ∧ o.isCells = false) : EndsAt W' E pre := by
  obtain ⟨x0, x1, h0, h1⟩ := h
  refine ⟨x0, x1, (hg.block E (Array.getElem?_eq_some_iff.1 h0).1 (fun e => ?_)).trans h0, h1⟩
  obtain ⟨o, ho, hc⟩ := hr E e.symm
  rw [h0] at ho
  cases ho
  cases hc
theorem far_two {W : World} {p q r : Addr} {u v : Value} (h1 : p.block ≠ r.block) (h2 : q.block ≠ r.block) : ((W.setCell p u).setCell q v).cell? r = W.cell? r :=
  (World.cell?_setCell_far _ _ _ _ h2).trans (World.cell?_setCell_far _ _ _ _ h1)
theorem box_far {W : World} {B B' j : Nat} {t : TypeId} {v u : Value} (h : Boxed W B t v) (hne : B ≠ B') : Boxed (W.setCell ⟨B', j, none⟩ u) B t v := by
  unfold Boxed at h ⊢
  rw [Below.heap_setCell _ _ _ _ hne]
  exact h
theorem pipe_i64 {K : KS} (h : K.next < 9223372036854775806) : I64 K.pipe.1 ∧ I64 K.pipe.2.1 := by
  unfold KS.pipe
  split
  · exact ⟨(⟨by decide, by decide⟩ : I64 0), (⟨by decide, by decide⟩ : I64 0)⟩
  · exact ⟨⟨by show (-9223372036854775808 : Int) ≤ (K.next : Int); omega, by show (K.next : Int) ≤ 9223372036854775807; omega⟩, ⟨by show (-9223372036854775808 : Int) ≤ ((K.next + 1 : Nat) : Int); omega, by show ((K.next + 1 : Nat) : Int) ≤ 9223372036854775807; omega⟩⟩
theorem TStep.mark {w W w5 : World} {O : Nat → Prop} {t kb D : Nat} {S' : TS} (hB : Below w.heap.size w W) (h : TStep W O t kb S' w5) (hD : D < W.heap.size) (hw : w.heap.size ≤ D) (hO : ¬ O D) (ht : t < w.heap.size) (o : Obj) : TStep w O t kb S' (w5.putObj D o) := by
  obtain ⟨O5, a1, a2, a3⟩ := h
  have T : Turned (fun k => k = D) w5 (w5.putObj D o) := (Turned.refl _ w5).grown (grownBy_putObj' w5 D o) (fun k e => .inl (by cases e; rfl))
  have hn : ¬ O5 D := fun e => by
    rcases a2 D e with e | e
    · exact hO e
    · omega
  exact ⟨O5, ⟨a1.k.keep (fun k hk hl => T.block k hl (fun e => hn (e ▸ hk))) T.size, a1.tb.turned T (by omega), a1.apart⟩, fun k e => (a2 k e).imp id (fun e => Nat.le_trans hB.size e), ((Turned.of_below hB).trans a3 (fun _ _ e => e)).trans T (fun k hk e => by subst e; omega)⟩
/-- A piece of code that goes on in one way: what is behind it is proved once. -/
theorem in_cut {F : Fence} {n : Nat} {P : Program} {c : Code} {Q : Exit → Act → World → Prop} {a : Act} {w : World} (A : Act) (W : World) (h : c.wpIn F n P (Exit.then (fun a' w' => a' = A ∧ w' = W) (fun _ _ _ => False)) a w) (hk : Q .normal A W) : c.wpIn F n P Q a w :=
  wpIn_mono h (fun e a' w' hq => by
    cases e with
    | normal => obtain ⟨rfl, rfl⟩ := hq; exact hk
    | _ => exact hq.elim)
theorem pipe_few {S : TS} (h : (frees S.ds 64).length ≤ 1) : S.pipe = (0, 0, 31, S) := by
  unfold TS.pipe
  split
  · rename_i e; rw [e] at h; simp at h
  · rfl
theorem pipe_two {S : TS} {x y : Nat} {r : List Nat} (h : frees S.ds 64 = x :: y :: r) : S.pipe = if S.K.pipe.2.2.1 = 0 then ((x : Int), (y : Int), 0, ⟨S.K.pipe.2.2.2, tset (tset S.ds x S.K.pipe.1) y S.K.pipe.2.1, tset (tset S.ms x false) y false⟩) else (0, 0, S.K.pipe.2.2.1, ⟨S.K.pipe.2.2.2, S.ds, S.ms⟩) := by
  unfold TS.pipe
  rw [h]
set_option maxRecDepth 100000 in
set_option maxHeartbeats 4000000 in
theorem tpipe_in (f : Nat) (hn : 3 ≤ f) (t kb : Nat) (O : Nat → Prop) (S : TS) (w : World) (h : TW w O t kb S) (hO : ∀ k, O k → k < w.heap.size) (hl : S.K.next + 1 < 9223372036854775807) :
    CallsIn Fence.wide f Try.prog 17 #[.pointer (some ⟨t, 0, none⟩)] w fun e w' => e = .returned (.tuple #[.int .i64 S.pipe.1, .int .i64 S.pipe.2.1, .int .i64 S.pipe.2.2.1]) ∧ TStep w O t kb S.pipe.2.2.2 w' := by
  have h1 : 1 ≤ f := by omega
  refine callsIn_of_wp_marks Try.func17 rfl trivial ?_ rfl
  simp only [Try.ntmps17, List.size_toArray, List.length_cons, List.length_nil, Nat.reduceAdd, Nat.reduceSub, Array.replicate_succ, Array.replicate_zero, List.push_toArray, List.append_toArray, List.nil_append, List.cons_append]
  have hmx : Try.prog.follows .mixedOrders = true := by kernel_rfl
  have hk := h.tb.ck
  gi_wp2_with (first | (refine ⟨trivial, ?_⟩; gi_at_call 35; refine (callsIn_wide.2 (tmade_any t kb _ hk)).mono ?_; rintro e w' ⟨rfl, rfl⟩) | (refine ⟨trivial, ?_⟩; gi_at_call 37; refine (free_in (f - 1) _ _).mono ?_; rintro e w' ⟨rfl, rfl⟩))
  have hB1 : Below w.heap.size w (((w.alloc (.cells #[.int .i64 0, .int .i64 0] 90)).alloc (.cells #[.int .i64 0] 3)).alloc (.cells #[.pointer (some ⟨t, 0, none⟩)] 36)) := (((Below.refl _ w).alloc (Nat.le_refl _) _).alloc (by simp) _).alloc (by simp; omega) _
  have hsz : (((w.alloc (.cells #[.int .i64 0, .int .i64 0] 90)).alloc (.cells #[.int .i64 0] 3)).alloc (.cells #[.pointer (some ⟨t, 0, none⟩)] 36)).heap.size = w.heap.size + 3 := by simp
  have bT := Boxed.new ((w.alloc (.cells #[.int .i64 0, .int .i64 0] 90)).alloc (.cells #[.int .i64 0] 3)) 36 (.pointer (some ⟨t, 0, none⟩))
  have bF := (Boxed.new (w.alloc (.cells #[.int .i64 0, .int .i64 0] 90)) 3 (.int .i64 0)).alloc (.cells #[.pointer (some ⟨t, 0, none⟩)] 36)
  simp only [World.size_alloc] at bT bF
  have hE0 : EndsAt (((w.alloc (.cells #[.int .i64 0, .int .i64 0] 90)).alloc (.cells #[.int .i64 0] 3)).alloc (.cells #[.pointer (some ⟨t, 0, none⟩)] 36)) w.heap.size [] := by
    refine ⟨0, 0, ?_, fun a e => absurd e (by simp), fun a e => absurd e (by simp)⟩
    rw [Below.heap_alloc _ _ _ (by simp; omega), Below.heap_alloc _ _ _ (by simp)]
    exact heap_alloc_new w _
  have hs' := h.tb.sl.below hB1
  have htl := h.tb.lt
  obtain ⟨W1, hW1⟩ : ∃ W1, W1 = (((w.alloc (.cells #[.int .i64 0, .int .i64 0] 90)).alloc (.cells #[.int .i64 0] 3)).alloc (.cells #[.pointer (some ⟨t, 0, none⟩)] 36)) := ⟨_, rfl⟩
  rw [← hW1] at hB1 hsz bT bF hE0 hs' ⊢
  clear hW1
  refine wpIn_rangeFunc_ownF rfl h1 (gf := 52) (lb := #[.pointer (some ⟨w.heap.size + 2, 0, none⟩)]) rfl trivial (enters_of Try.func52 (by kernel_rfl) rfl)
    (free_stops (f - 1) (by omega) (w.heap.size + 2) t S.ds _ (by rw [hsz]; omega) bT.cell hs') (fun h1 h2 => ⟨h2.1.trans h1.1, fun h => h2.2 (h1.2 h)⟩) (fun W l o o' hl _ _ _ => ⟨tcell_putObj (by rw [hsz] at hl; omega), fun h i hi => (tcell_putObj (by rw [hsz] at hl; omega)).trans (h i hi)⟩) (Below.refl _ _) (fun _ => rfl)
    (fun (pre : List Nat) W => (pre.length ≤ 1 ∧ EndsAt W w.heap.size pre ∧ Boxed W (w.heap.size + 1) 3 (.int .i64 pre.length)) ∧ Below w.heap.size w W)
    (fun c (pre : List Nat) W => (c = .exit 0 ∧ pre.length = 2 ∧ EndsAt W w.heap.size pre ∧ Boxed W (w.heap.size + 1) 3 (.int .i64 2)) ∧ Below w.heap.size w W)
    ?hI ?hIx ⟨⟨Nat.zero_le _, hE0, bF⟩, hB1⟩
    (fun x => { tmps := #[.pointer (some ⟨t, 0, none⟩), undef, .int .i64 0, .int .i64 0, .int .i64 0, .pointer (some ⟨w.heap.size, 0, none⟩), .pointer (some ⟨w.heap.size + 1, 0, none⟩), .int .i64 (x : Int), undef, undef, undef, .pointer (some ⟨t, 0, none⟩), .bool true, .bool false, .pointer (some ⟨t, 0, none⟩), .func (.func 52) #[] #[.pointer (some ⟨w.heap.size + 2, 0, none⟩)], .int .i64 (x : Int), undef, undef, undef, undef, undef, undef, undef, undef, undef, undef, undef, undef, undef, undef, undef, undef, undef, undef, undef, undef, undef, undef, undef, undef, undef, undef, undef, undef, undef, undef, undef, undef, undef, undef, undef, undef, undef, undef, undef, undef, undef], defers := [] }) ?assign ?body ?done ?stop
  case hI => exact fun s W W' row ⟨⟨e, b1, b2⟩, hB⟩ hg hr => ⟨⟨e, b1.kept hg (fun r e => (hr r e).2), Own.from (boxed_own _ _ (fun s : List Nat => .int .i64 s.length)) _ s W W' row b2 hg hr⟩, ownFrom_below (Nat.le_refl _) (by rw [hsz]; omega) s W W' row hB hg hr⟩
  case hIx => exact fun c s W W' row ⟨⟨e, e2, b1, b2⟩, hB⟩ hg hr => ⟨⟨e, e2, b1.kept hg (fun r e => (hr r e).2), Own.from (boxed_own _ _ (fun _ => .int .i64 2)) _ s W W' row b2 hg hr⟩, ownFrom_below (Nat.le_refl _) (by rw [hsz]; omega) s W W' row hB hg hr⟩
  case assign =>
    intro l x W K hK
    gi_wp2
    exact hK
  case body =>
    rintro l pre x W ⟨⟨hle, ⟨x0, x1, hE, e0, e1⟩, bF'⟩, hB⟩ _
    have q0 : W.cell? ⟨w.heap.size, 0, none⟩ = some (.int .i64 x0) := by rw [cell_of_row _ _ _ _ _ _ hE]; rfl
    have q1 : W.cell? ⟨w.heap.size, 1, none⟩ = some (.int .i64 x1) := by rw [cell_of_row _ _ _ _ _ _ hE]; rfl
    have g0 : W.frozen? ⟨w.heap.size, 0, none⟩ = false := frozen_of_row W _ 0 _ _ hE
    have g1 : W.frozen? ⟨w.heap.size, 1, none⟩ = false := frozen_of_row W _ 1 _ _ hE
    have hEl : w.heap.size < W.heap.size := (Array.getElem?_eq_some_iff.1 hE).1
    have HE := hide hE
    have HB := hide hB
    have He0 := hide e0
    clear hE hB e0 e1
    rcases pre with _ | ⟨a, _ | ⟨b, r⟩⟩
    · have bF'' : Boxed W (w.heap.size + 1) 3 (.int .i64 0) := bF'
      clear bF'
      have kF := bF''.cell
      have fF := bF''.frozen
      have HF := hide bF''
      clear bF''
      gi_wp2
      have hb : Boxed ((W.setCell ⟨w.heap.size, 0, none⟩ (.int .i64 (x : Int))).setCell ⟨w.heap.size + 1, 0, none⟩ (.int .i64 1)) (w.heap.size + 1) 3 (.int .i64 1) := Boxed.set (.int .i64 1) (box_far HF.out (by omega))
      have hEn : EndsAt ((W.setCell ⟨w.heap.size, 0, none⟩ (.int .i64 (x : Int))).setCell ⟨w.heap.size + 1, 0, none⟩ (.int .i64 1)) w.heap.size [x] := by
        refine ⟨(x : Int), x1, ?_, fun a e => by simp at e; rw [e], fun a e => absurd e (by simp)⟩
        rw [Below.heap_setCell _ _ _ _ (show w.heap.size ≠ w.heap.size + 1 by omega)]
        exact heap_setCell_same (cur := [.int .i64 x0, .int .i64 x1]) 0 (.int .i64 x) HE.out
      have hBl : Below w.heap.size w ((W.setCell ⟨w.heap.size, 0, none⟩ (.int .i64 (x : Int))).setCell ⟨w.heap.size + 1, 0, none⟩ (.int .i64 1)) := (HB.out.setCell (Nat.le_refl _) _).setCell (Nat.le_succ _) _
      have hFr : FreeKp (w.heap.size + 2) t S.ds W ((W.setCell ⟨w.heap.size, 0, none⟩ (.int .i64 (x : Int))).setCell ⟨w.heap.size + 1, 0, none⟩ (.int .i64 1)) := ⟨far_two (by show w.heap.size ≠ w.heap.size + 2; omega) (by show w.heap.size + 1 ≠ w.heap.size + 2; omega), fun hs i hi => (far_two (by show w.heap.size ≠ t; omega) (by show w.heap.size + 1 ≠ t; omega)).trans (hs i hi)⟩
      exact ⟨(KeepsOthers.setCell _ _ _).trans (KeepsOthers.setCell _ _ _), hFr, ⟨by simp, hEn, hb⟩, hBl⟩
    · have bF'' : Boxed W (w.heap.size + 1) 3 (.int .i64 1) := bF'
      clear bF'
      have kF := bF''.cell
      have fF := bF''.frozen
      have HF := hide bF''
      clear bF''
      gi_wp2
      have hb : Boxed ((W.setCell ⟨w.heap.size, 1, none⟩ (.int .i64 (x : Int))).setCell ⟨w.heap.size + 1, 0, none⟩ (.int .i64 2)) (w.heap.size + 1) 3 (.int .i64 2) := Boxed.set (.int .i64 2) (box_far HF.out (by omega))
      have hEn : EndsAt ((W.setCell ⟨w.heap.size, 1, none⟩ (.int .i64 (x : Int))).setCell ⟨w.heap.size + 1, 0, none⟩ (.int .i64 2)) w.heap.size [a, x] := by
        refine ⟨x0, (x : Int), ?_, fun b e => He0.out b (by simpa using e), fun b e => by simp at e; rw [e]⟩
        rw [Below.heap_setCell _ _ _ _ (show w.heap.size ≠ w.heap.size + 1 by omega)]
        exact heap_setCell_same (cur := [.int .i64 x0, .int .i64 x1]) 1 (.int .i64 x) HE.out
      have hBl : Below w.heap.size w ((W.setCell ⟨w.heap.size, 1, none⟩ (.int .i64 (x : Int))).setCell ⟨w.heap.size + 1, 0, none⟩ (.int .i64 2)) := (HB.out.setCell (Nat.le_refl _) _).setCell (Nat.le_succ _) _
      exact ⟨(KeepsOthers.setCell _ _ _).trans (KeepsOthers.setCell _ _ _), ⟨rfl, rfl, hEn, hb⟩, hBl⟩
    · simp at hle
  case done =>
    rintro D ys W hD rfl ⟨⟨hle, hE, bF'⟩, hB⟩ hK
    have HP := hide (pipe_few hle)
    have hT : TStep w O t kb S (W.putObj D (.deferred none)) := TStep.below h (hB.trans (belowK_b (w := w) (Nat.le_refl _) W D _ _ (by rw [hsz] at hD; omega) hK rfl rfl))
    have HT := hide hT
    clear hT hE h
    have kF := bF'.cell
    clear bF'
    rcases (show (frees S.ds 64).length = 0 ∨ (frees S.ds 64).length = 1 by omega) with hc | hc
    all_goals
      rw [hc] at kF
      clear hc hle
      gi_wp2
      refine ⟨by simp, .inl ⟨_, _, rfl, run_takeDeferred hK, ?_⟩⟩
      refine ⟨.tuple #[.int .i64 0, .int .i64 0, .int .i64 31], ?_, by rw [HP.out], by rw [HP.out]; exact HT.out⟩
      simp [results, Try.f17, go_sem]
  case stop =>
    rintro D c pre W hD hp ⟨⟨rfl, hl2, ⟨x0, x1, hE, e0, e1⟩, bF'⟩, hB⟩ hK
    obtain ⟨x, y, rfl⟩ : ∃ x y, pre = [x, y] := by
      match pre, hl2 with
      | [x, y], _ => exact ⟨x, y, rfl⟩
    obtain ⟨r, hr⟩ := hp
    have hP2 := pipe_two (S := S) (x := x) (y := y) (r := r) hr.symm
    obtain rfl := e0 x rfl
    obtain rfl := e1 y rfl
    have kF := bF'.cell
    have q0 : W.cell? ⟨w.heap.size, 0, none⟩ = some (.int .i64 x) := by rw [cell_of_row _ _ _ _ _ _ hE]; rfl
    have q1 : W.cell? ⟨w.heap.size, 1, none⟩ = some (.int .i64 y) := by rw [cell_of_row _ _ _ _ _ _ hE]; rfl
    have hW := h.below hB
    have hck := hW.tb.ck
    have HKp := hide ((callsIn_wide (n := f - 1)).2 (hW.k.pipe hl))
    have HW := hide hW
    have HB := hide hB
    have HE := hide hE
    clear hE e0 e1 hW hB
    have hx : x < 64 := by
      have : x ∈ frees S.ds 64 := by rw [← hr]; simp
      exact List.mem_range.1 (List.mem_filter.1 this).1
    have hy : y < 64 := by
      have : y ∈ frees S.ds 64 := by rw [← hr]; simp
      exact List.mem_range.1 (List.mem_filter.1 this).1
    have hI := pipe_i64 (K := S.K) (by omega)
    have HP2 := hide hP2
    have hDw : w.heap.size ≤ D := by rw [hsz] at hD; omega
    have HOD : Hid (¬ O D ∧ ¬ O w.heap.size) := hide ⟨fun e => by have := hO D e; omega, fun e => by have := hO _ e; omega⟩
    obtain ⟨v, hv⟩ : ∃ v, S.K.pipe = v := ⟨_, rfl⟩
    rw [hv] at HKp HP2 hI
    have HI := hide hI
    clear hr hP2 hs' hE0 bF bT hB1 hD hsz hO h hI hv bF' hl
    gi_wp2_with fail
    refine ⟨trivial, HKp.out.mono ?_⟩
    rintro e w5 ⟨rfl, hS⟩
    obtain ⟨O', s1, s2, hTk⟩ := id hS
    have hK5 : w5.heap[D]? = some (.deferred (some [])) := (hTk.block D (Array.getElem?_eq_some_iff.1 hK).1 HOD.out.1).trans hK
    have hE5 : w5.heap[w.heap.size]? = _ := (hTk.block w.heap.size (Array.getElem?_eq_some_iff.1 HE.out).1 HOD.out.2).trans HE.out
    have HT5 := hide (HW.out.kstep hS)
    have hDl := (Array.getElem?_eq_some_iff.1 hK).1
    clear s1 s2 hTk hS O'
    by_cases hE : v.2.2.1 = 0
    · obtain ⟨O5, a1, a2, a3⟩ := HT5.out
      have a1d := a1.below ((Below.refl _ w5).drew)
      have q0 : w5.cell? ⟨w.heap.size, 0, none⟩ = some (.int .i64 x) := by rw [cell_of_row _ _ _ _ _ _ hE5]; rfl
      have q0d : w5.drew.cell? ⟨w.heap.size, 0, none⟩ = some (.int .i64 x) := q0
      have c1 := a1.tb.sl x hx
      have c2 := a1.tb.mks x hx
      have f1 := a1.tb.soft (1 + x * 2)
      have f2 := a1.tb.soft (1 + x * 2 + 1)
      have c1d := a1d.tb.sl x hx
      have c2d := a1d.tb.mks x hx
      have f1d := a1d.tb.soft (1 + x * 2)
      have f2d := a1d.tb.soft (1 + x * 2 + 1)
      have HT6 : Hid (TStep W O t kb ⟨v.2.2.2, tset S.ds x v.1, tset S.ms x false⟩ ((w5.setCell ⟨t, 1 + x * 2, none⟩ (.int .i64 v.1)).setCell ⟨t, 1 + x * 2 + 1, none⟩ (.bool false)).drew) := hide (((a1d.put hx v.1 false HI.out.1).behind ((Below.refl _ w5).drew)).join a2 a3)
      have hK6 : ((w5.setCell ⟨t, 1 + x * 2, none⟩ (.int .i64 v.1)).setCell ⟨t, 1 + x * 2 + 1, none⟩ (.bool false)).drew.heap[D]? = some (.deferred (some [])) := by
        show ((w5.setCell _ _).setCell _ _).heap[D]? = _
        rw [Below.heap_setCell _ _ _ _ (show D ≠ t by omega), Below.heap_setCell _ _ _ _ (show D ≠ t by omega)]; exact hK5
      have hE6 : ((w5.setCell ⟨t, 1 + x * 2, none⟩ (.int .i64 v.1)).setCell ⟨t, 1 + x * 2 + 1, none⟩ (.bool false)).drew.heap[w.heap.size]? = some (.cells #[.int .i64 (x : Int), .int .i64 (y : Int)] 90 (0, 0)) := by
        show ((w5.setCell _ _).setCell _ _).heap[w.heap.size]? = _
        rw [Below.heap_setCell _ _ _ _ (show w.heap.size ≠ t by omega), Below.heap_setCell _ _ _ _ (show w.heap.size ≠ t by omega)]; exact hE5
      have HK6 := hide hK6
      have HE6 := hide hE6
      clear hK6 hE6
      have hx1 : (0 : Int) ≤ (x : Int) := by omega
      have hx2 : (x : Int) < 64 := by omega
      have HEq := hide hE
      have hE' : v.2.2.1 = 0 := hE
      simp only at c1 c2 c1d c2d
      generalize S.ds x = g1 at c1 c1d
      generalize S.ms x = g2 at c2 c2d
      have HK5 := hide hK5
      have HE5 := hide hE5
      have HKo := hide hK
      clear a1 a2 a3 a1d hE hK5 hE5 hK
      gi_wp2_with fail
      apply in_cut (W := ((w5.setCell ⟨t, 1 + x * 2, none⟩ (.int .i64 v.1)).setCell ⟨t, 1 + x * 2 + 1, none⟩ (.bool false)).drew)
      case h =>
        gi_region
        exact ⟨rfl, rfl⟩
      case hk =>
        generalize ((w5.setCell ⟨t, 1 + x * 2, none⟩ (.int .i64 v.1)).setCell ⟨t, 1 + x * 2 + 1, none⟩ (.bool false)).drew = w6 at *
        clear q0 q0d c1 c2 f1 f2 c1d c2d f1d f2d
        have hK6 := HK6.out
        have hE6 := HE6.out
        obtain ⟨O6, a1, a2, a3⟩ := HT6.out
        have a1d := a1.below ((Below.refl _ w6).drew)
        have q1 : w6.cell? ⟨w.heap.size, 1, none⟩ = some (.int .i64 y) := by rw [cell_of_row _ _ _ _ _ _ hE6]; rfl
        have q1d : w6.drew.cell? ⟨w.heap.size, 1, none⟩ = some (.int .i64 y) := q1
        have c1 := a1.tb.sl y hy
        have c2 := a1.tb.mks y hy
        have f1 := a1.tb.soft (1 + y * 2)
        have f2 := a1.tb.soft (1 + y * 2 + 1)
        have c1d := a1d.tb.sl y hy
        have c2d := a1d.tb.mks y hy
        have f1d := a1d.tb.soft (1 + y * 2)
        have f2d := a1d.tb.soft (1 + y * 2 + 1)
        have HT7 : Hid (TStep W O t kb ⟨v.2.2.2, tset (tset S.ds x v.1) y v.2.1, tset (tset S.ms x false) y false⟩ ((w6.setCell ⟨t, 1 + y * 2, none⟩ (.int .i64 v.2.1)).setCell ⟨t, 1 + y * 2 + 1, none⟩ (.bool false)).drew) := hide (((a1d.put hy v.2.1 false HI.out.2).behind ((Below.refl _ w6).drew)).join a2 a3)
        have hK7 : ((w6.setCell ⟨t, 1 + y * 2, none⟩ (.int .i64 v.2.1)).setCell ⟨t, 1 + y * 2 + 1, none⟩ (.bool false)).drew.heap[D]? = some (.deferred (some [])) := by
          show ((w6.setCell _ _).setCell _ _).heap[D]? = _
          rw [Below.heap_setCell _ _ _ _ (show D ≠ t by omega), Below.heap_setCell _ _ _ _ (show D ≠ t by omega)]; exact hK6
        have hE7 : ((w6.setCell ⟨t, 1 + y * 2, none⟩ (.int .i64 v.2.1)).setCell ⟨t, 1 + y * 2 + 1, none⟩ (.bool false)).drew.heap[w.heap.size]? = some (.cells #[.int .i64 (x : Int), .int .i64 (y : Int)] 90 (0, 0)) := by
          show ((w6.setCell _ _).setCell _ _).heap[w.heap.size]? = _
          rw [Below.heap_setCell _ _ _ _ (show w.heap.size ≠ t by omega), Below.heap_setCell _ _ _ _ (show w.heap.size ≠ t by omega)]; exact hE6
        have HK7 := hide hK7
        have HE7 := hide hE7
        clear hK6 hE6 hK7 hE7
        have hy1 : (0 : Int) ≤ (y : Int) := by omega
        have hy2 : (y : Int) < 64 := by omega
        simp only at c1 c2 c1d c2d
        generalize tset S.ds x v.1 y = g3 at c1 c1d
        generalize tset S.ms x false y = g4 at c2 c2d
        clear a1 a2 a3 a1d
        gi_wp2_with fail
        apply in_cut (W := ((w6.setCell ⟨t, 1 + y * 2, none⟩ (.int .i64 v.2.1)).setCell ⟨t, 1 + y * 2 + 1, none⟩ (.bool false)).drew)
        case h =>
          gi_region
          exact ⟨rfl, rfl⟩
        case hk =>
          generalize ((w6.setCell ⟨t, 1 + y * 2, none⟩ (.int .i64 v.2.1)).setCell ⟨t, 1 + y * 2 + 1, none⟩ (.bool false)).drew = w7 at *
          clear q1 q1d c1 c2 f1 f2 c1d c2d f1d f2d
          have hK7 := HK7.out
          have hE7 := HE7.out
          have r0 : w7.cell? ⟨w.heap.size, 0, none⟩ = some (.int .i64 x) := by rw [cell_of_row _ _ _ _ _ _ hE7]; rfl
          have r1 : w7.cell? ⟨w.heap.size, 1, none⟩ = some (.int .i64 y) := by rw [cell_of_row _ _ _ _ _ _ hE7]; rfl
          have r0d : w7.drew.cell? ⟨w.heap.size, 0, none⟩ = some (.int .i64 x) := r0
          have r1d : w7.drew.cell? ⟨w.heap.size, 1, none⟩ = some (.int .i64 y) := r1
          have hK8 : w7.drew.heap[D]? = some (.deferred (some [])) := hK7
          have HT : Hid (TStep w O t kb S.pipe.2.2.2 (w7.drew.putObj D (.deferred none)) ∧ S.pipe = ((x : Int), (y : Int), 0, ⟨v.2.2.2, tset (tset S.ds x v.1) y v.2.1, tset (tset S.ms x false) y false⟩)) := hide (by
            have e := HP2.out
            rw [if_pos HEq.out] at e
            refine ⟨?_, e⟩
            rw [e]
            obtain ⟨O7, b1, b2, b3⟩ := HT7.out
            exact TStep.mark HB.out ⟨O7, b1.below ((Below.refl _ w7).drew), b2, b3.trans (Turned.of_below (S := fun k => O k ∨ k = t) ((Below.refl _ w7).drew)) (fun _ _ e => e)⟩ hDl hDw HOD.out.1 htl _)
          gi_wp2_with fail
          apply in_cut (W := w7.drew)
          case h =>
            gi_region
            exact ⟨rfl, rfl⟩
          case hk =>
            gi_wp2_with fail
            refine ⟨by simp, .inl ⟨_, _, rfl, run_takeDeferred hK8, ?_⟩⟩
            refine ⟨.tuple #[.int .i64 x, .int .i64 y, .int .i64 0], ?_, by rw [HT.out.2], HT.out.1⟩
            simp [results, Try.f17, go_sem]
    · have HT : Hid (TStep w O t kb S.pipe.2.2.2 (w5.putObj D (.deferred none)) ∧ S.pipe = (0, 0, v.2.2.1, ⟨v.2.2.2, S.ds, S.ms⟩)) := hide (by
        have e := HP2.out
        rw [if_neg hE] at e
        refine ⟨?_, e⟩
        rw [e]
        exact TStep.mark HB.out HT5.out hDl hDw HOD.out.1 htl _)
      gi_wp2_with fail
      refine ⟨by simp, .inl ⟨_, _, rfl, run_takeDeferred hK5, ?_⟩⟩
      refine ⟨.tuple #[.int .i64 0, .int .i64 0, .int .i64 v.2.2.1], ?_, by rw [HT.out.2], HT.out.1⟩
      simp [results, Try.f17, go_sem]
theorem tpipe_any (t kb : Nat) (O : Nat → Prop) (S : TS) (w : World) (h : TW w O t kb S) (hO : ∀ k, O k → k < w.heap.size) (hl : S.K.next + 1 < 9223372036854775807) :
    Calls Try.prog 17 #[.pointer (some ⟨t, 0, none⟩)] w fun e w' => e = .returned (.tuple #[.int .i64 S.pipe.1, .int .i64 S.pipe.2.1, .int .i64 S.pipe.2.2.1]) ∧ TStep w O t kb S.pipe.2.2.2 w' := callsIn_wide.1 (tpipe_in 3 (Nat.le_refl _) t kb O S w h hO hl)
end Go.Proofs.Ytbhlnmekhgfgcaa

/- FdtableDrops: the kernel's states, and the descriptors, as values. -/
namespace Go.Proofs.Ytbhlnmekhgfgcaa
open Go.RowKit Go.Maps

theorem TM.pipe {B : Nat} {P : Nat → Prop} {w : World} {kb : Nat} {K : KS} {L1 L2 : List Tab} {x : Tab} (h : TM B P w kb K (L1 ++ x :: L2)) (hl : K.next + 1 < 9223372036854775807) (r : Int × Int × Int × TS) (hr : (⟨K, x.ds, x.ms⟩ : TS).pipe = r) :
    Calls Try.prog 17 #[.pointer (some ⟨x.t, 0, none⟩)] w fun e w' => e = .returned (.tuple #[.int .i64 r.1, .int .i64 r.2.1, .int .i64 r.2.2.1]) ∧ TM B P w' kb r.2.2.2.K (L1 ++ ⟨x.t, r.2.2.2.ds, r.2.2.2.ms⟩ :: L2) ∧ Below B w w' ∧ Held P w w' := by
  obtain ⟨O, h1, h0, h2⟩ := h.step
  subst hr
  exact (tpipe_any x.t kb O _ w h1 h0 hl).mono fun e w' ⟨a, b⟩ => ⟨a, h2 _ _ b⟩
/-- A pipe; its reading end held by h1, its writing end by h2, or gone. -/
def KDr (h1 : Nat) : Nat → Nat → KS
  | 0, rd => ⟨[⟨ByteArray.empty, .pipe [] 1 0⟩], [], [⟨1, 0, 1, 0, h1⟩], 3, [], rd, 0⟩
  | h2 + 1, rd => ⟨[⟨ByteArray.empty, .pipe [] 1 1⟩], [], [⟨1, 0, 1, 0, h1⟩, ⟨2, 0, 2, 0, h2 + 1⟩], 3, [], rd, 0⟩
theorem dr_keep1 (h1 h2 rd : Nat) (h : h1 < 1024) : (KDr h1 h2 rd).keepE 1 = 0 ∧ (KDr h1 h2 rd).keepK 1 = KDr (h1 + 1) h2 rd := by
  cases h2 with
  | zero =>
    have hf : (KDr h1 0 rd).find 1 = some ⟨1, 0, 1, 0, h1⟩ := rfl
    unfold KS.keepE KS.keepK
    rw [hf]
    simp only
    rw [if_neg (by omega), if_neg (by omega)]
    exact ⟨rfl, rfl⟩
  | succ k =>
    have hf : (KDr h1 (k + 1) rd).find 1 = some ⟨1, 0, 1, 0, h1⟩ := rfl
    unfold KS.keepE KS.keepK
    rw [hf]
    simp only
    rw [if_neg (by omega), if_neg (by omega)]
    exact ⟨rfl, rfl⟩
theorem dr_keep2 (h1 h2 rd : Nat) (h0 : 0 < h2) (h : h2 < 1024) : (KDr h1 h2 rd).keepE 2 = 0 ∧ (KDr h1 h2 rd).keepK 2 = KDr h1 (h2 + 1) rd := by
  obtain ⟨k, rfl⟩ : ∃ k, h2 = k + 1 := ⟨h2 - 1, by omega⟩
  have hf : (KDr h1 (k + 1) rd).find 2 = some ⟨2, 0, 2, 0, k + 1⟩ := rfl
  unfold KS.keepE KS.keepK
  rw [hf]
  simp only
  rw [if_neg (by omega), if_neg (by omega)]
  exact ⟨rfl, rfl⟩
theorem dr_drop1 (h1 h2 rd : Nat) (h : 2 ≤ h1) : (KDr h1 h2 rd).dropK 1 = KDr (h1 - 1) h2 rd := by
  cases h2 with
  | zero =>
    have hf : (KDr h1 0 rd).find 1 = some ⟨1, 0, 1, 0, h1⟩ := rfl
    unfold KS.dropK
    rw [hf]
    simp only
    rw [if_pos (by omega)]
    rfl
  | succ k =>
    have hf : (KDr h1 (k + 1) rd).find 1 = some ⟨1, 0, 1, 0, h1⟩ := rfl
    unfold KS.dropK
    rw [hf]
    simp only
    rw [if_pos (by omega)]
    rfl
theorem dr_drop2 (h1 h2 rd : Nat) (h : 1 ≤ h2) : (KDr h1 h2 rd).dropK 2 = KDr h1 (h2 - 1) rd := by
  obtain ⟨k, rfl⟩ : ∃ k, h2 = k + 1 := ⟨h2 - 1, by omega⟩
  have hf : (KDr h1 (k + 1) rd).find 2 = some ⟨2, 0, 2, 0, k + 1⟩ := rfl
  cases k with
  | zero => rfl
  | succ j =>
    unfold KS.dropK
    rw [hf]
    simp only
    rw [if_pos (by omega)]
    rfl
theorem dr_read (h1 h2 rd : Nat) (h : 0 < h2) : (KDr h1 h2 rd).read 1 1 = ([], 52, KDr h1 h2 rd) := by
  obtain ⟨k, rfl⟩ : ∃ k, h2 = k + 1 := ⟨h2 - 1, by omega⟩
  kernel_rfl
theorem dr_end (h1 rd : Nat) : (KDr h1 0 rd).read 1 1 = ([], 0, KDr h1 0 (rd + 1)) := by kernel_rfl
theorem dr_kind (h1 h2 rd : Nat) (h : 0 < h2) : (KDr h1 h2 rd).kindOf 2 = 3 := by
  obtain ⟨k, rfl⟩ : ∃ k, h2 = k + 1 := ⟨h2 - 1, by omega⟩
  rfl
theorem dr_gone (h1 rd : Nat) : (KDr h1 0 rd).kindOf 2 = 0 := rfl
/-- How many of the first n descriptors are of that description. -/
def cnt (v : Int) (ds : Nat → Int) : Nat → Nat
  | 0 => 0
  | n + 1 => cnt v ds n + if ds n = v then 1 else 0
theorem cnt_succ (v : Int) (ds : Nat → Int) (n : Nat) : cnt v ds (n + 1) = cnt v ds n + if ds n = v then 1 else 0 := rfl
theorem cnt_le (v : Int) (ds : Nat → Int) : ∀ n, cnt v ds n ≤ n
  | 0 => Nat.le_refl _
  | n + 1 => by
    have := cnt_le v ds n
    unfold cnt
    split <;> omega
theorem cnt_same {v : Int} {ds ds' : Nat → Int} : ∀ {n : Nat}, (∀ i, i < n → ds i = ds' i) → cnt v ds n = cnt v ds' n
  | 0, _ => rfl
  | n + 1, h => by
    unfold cnt
    rw [cnt_same (fun i hi => h i (by omega)), h n (by omega)]
theorem cnt_set (v : Int) (ds : Nat → Int) (i : Nat) (d : Int) : ∀ n, i < n → cnt v (tset ds i d) n + (if ds i = v then 1 else 0) = cnt v ds n + if d = v then 1 else 0
  | 0, h => absurd h (Nat.not_lt_zero _)
  | n + 1, h => by
    unfold cnt
    by_cases e : i = n
    · subst e
      rw [tset_same, cnt_same (ds' := ds) (fun j hj => tset_other _ _ (by omega))]
      omega
    · have := cnt_set v ds i d n (by omega)
      rw [tset_other _ _ (fun e' => e e'.symm)]
      omega
theorem cnt_mem {v : Int} {ds : Nat → Int} : ∀ {n i : Nat}, i < n → ds i = v → 1 ≤ cnt v ds n
  | 0, _, h, _ => absurd h (Nat.not_lt_zero _)
  | n + 1, i, h, e => by
    unfold cnt
    by_cases e' : i = n
    · subst e'; rw [if_pos e]; omega
    · have := cnt_mem (n := n) (by omega) e
      omega
/-- A descriptor is free, or of one of the pipe's ends. -/
def D3 (ds : Nat → Int) : Prop := ∀ i, ds i = 0 ∨ ds i = 1 ∨ ds i = 2
theorem D3.set {ds : Nat → Int} (h : D3 ds) (i : Nat) (d : Int) (hd : d = 0 ∨ d = 1 ∨ d = 2) : D3 (tset ds i d) := fun j => by
  unfold tset
  split
  · exact hd
  · exact h j
/-- The first n descriptors alone. -/
def upTo (ds : Nat → Int) (n : Nat) : Nat → Int := fun i => if i < n then ds i else 0
theorem upTo_succ (ds : Nat → Int) (n : Nat) : upTo ds (n + 1) = tset (upTo ds n) n (ds n) := by
  funext i
  unfold upTo tset
  by_cases e : i = n
  · subst e; simp
  · rw [if_neg e]
    show (if i < n + 1 then ds i else 0) = if i < n then ds i else 0
    by_cases h : i < n
    · rw [if_pos h, if_pos (by omega)]
    · rw [if_neg h, if_neg (by omega)]
theorem dr_fork (h1 h2 rd : Nat) (ds : Nat → Int) (hd : D3 ds) (h20 : 0 < h2) : ∀ n, h1 + cnt 1 ds n ≤ 1024 → h2 + cnt 2 ds n ≤ 1024 → (⟨KDr h1 h2 rd, ds, fun _ => false⟩ : TS).fork n = (KDr (h1 + cnt 1 ds n) (h2 + cnt 2 ds n) rd, upTo ds n)
  | 0, _, _ => by
    show (KDr h1 h2 rd, fun _ => (0 : Int)) = _
    have : upTo ds 0 = fun _ => 0 := by funext i; simp [upTo]
    rw [this]
    rfl
  | n + 1, b1, b2 => by
    have ih := dr_fork h1 h2 rd ds hd h20 n (by rw [cnt_succ] at b1; omega) (by rw [cnt_succ] at b2; omega)
    rcases hd n with e | e | e
    · rw [fork_skip (.inl e), ih, upTo_succ, e]
      have e0 : tset (upTo ds n) n 0 = upTo ds n := by
        funext i
        unfold tset upTo
        split
        · rename_i e; subst e; simp
        · rfl
      rw [e0, cnt_succ, cnt_succ, e]
      simp
    · rw [fork_take (S := ⟨KDr h1 h2 rd, ds, fun _ => false⟩) (by show ds n ≠ 0; rw [e]; decide) rfl, ih]
      have b1' : h1 + cnt 1 ds n < 1024 := by rw [cnt_succ, e] at b1; simp at b1; omega
      have k := dr_keep1 (h1 + cnt 1 ds n) (h2 + cnt 2 ds n) rd b1'
      simp only [e]
      rw [k.1, k.2, if_pos rfl, upTo_succ, e, cnt_succ, cnt_succ, e]
      simp [Nat.add_assoc]
    · rw [fork_take (S := ⟨KDr h1 h2 rd, ds, fun _ => false⟩) (by show ds n ≠ 0; rw [e]; decide) rfl, ih]
      have b2' : h2 + cnt 2 ds n < 1024 := by rw [cnt_succ, e] at b2; simp at b2; omega
      have k := dr_keep2 (h1 + cnt 1 ds n) (h2 + cnt 2 ds n) rd (by omega) b2'
      simp only [e]
      rw [k.1, k.2, if_pos rfl, upTo_succ, e, cnt_succ, cnt_succ, e]
      simp [Nat.add_assoc]
theorem none_set (j : Nat) : tset (fun _ : Nat => false) j false = fun _ => false := by
  funext i
  unfold tset
  split <;> rfl
theorem dr_dupTo (h1 h2 rd : Nat) (ds : Nat → Int) (to : Int) (hd : D3 ds) (hout : ds 1 = 2) (b1 : 1 + cnt 1 ds 64 ≤ h1) (b2 : cnt 2 ds 64 ≤ h2) (b3 : h2 < 1024) :
    ∃ e h1' h2' ds', (⟨KDr h1 h2 rd, ds, fun _ => false⟩ : TS).dupTo 1 to = (e, ⟨KDr h1' h2' rd, ds', fun _ => false⟩) ∧ D3 ds' ∧ ds' 1 = 2 ∧ h1' + cnt 1 ds 64 = h1 + cnt 1 ds' 64 ∧ h2' + cnt 2 ds 64 = h2 + cnt 2 ds' 64 := by
  have h20 : 0 < h2 := Nat.lt_of_lt_of_le (cnt_mem (v := 2) (ds := ds) (n := 64) (i := 1) (by decide) hout) b2
  have hu : (⟨KDr h1 h2 rd, ds, fun _ => false⟩ : TS).uses 1 = true := uses_of (S := ⟨KDr h1 h2 rd, ds, fun _ => false⟩) (i := 1) (by decide) (by show ds 1 ≠ 0; rw [hout]; decide)
  unfold TS.dupTo
  rw [if_pos hu]
  by_cases hr : 0 ≤ to ∧ to < 64
  · rw [if_pos hr]
    by_cases h1t : to = 1
    · rw [if_pos h1t]
      exact ⟨0, h1, h2, ds, rfl, hd, hout, rfl, rfl⟩
    · rw [if_neg h1t]
      obtain ⟨j, rfl⟩ := Int.eq_ofNat_of_zero_le hr.1
      have hj : j < 64 := by omega
      have hj1 : j ≠ 1 := by omega
      have k := dr_keep2 h1 h2 rd h20 b3
      have e1 : (1 : Int).toNat = 1 := rfl
      simp only [e1, hout, Int.toNat_natCast]
      rw [k.1, k.2, if_pos rfl]
      have c1 := cnt_set 1 ds j 2 64 hj
      have c2 := cnt_set 2 ds j 2 64 hj
      have hD := hd.set j 2 (.inr (.inr rfl))
      have hO : tset ds j 2 1 = 2 := by rw [tset_other _ _ (fun e => hj1 e.symm)]; exact hout
      rw [none_set]
      unfold TS.release
      simp only
      rcases hd j with e | e | e
      · rw [e] at c1 c2 ⊢
        simp at c1 c2
        rw [if_pos rfl]
        exact ⟨0, h1, h2 + 1, tset ds j 2, rfl, hD, hO, by omega, by omega⟩
      · rw [e] at c1 c2 ⊢
        simp at c1 c2
        have := cnt_mem (v := 1) (ds := ds) hj e
        rw [if_neg (by decide), dr_drop1 h1 (h2 + 1) rd (by omega)]
        exact ⟨0, h1 - 1, h2 + 1, tset ds j 2, rfl, hD, hO, by omega, by omega⟩
      · rw [e] at c1 c2 ⊢
        simp at c1 c2
        rw [if_neg (by decide), dr_drop2 h1 (h2 + 1) rd (by omega)]
        exact ⟨0, h1, h2, tset ds j 2, rfl, hD, hO, by omega, by omega⟩
  · rw [if_neg hr]
    exact ⟨71, h1, h2, ds, rfl, hd, hout, rfl, rfl⟩
theorem cnt_mono (v : Int) (ds : Nat → Int) {n m : Nat} (h : n ≤ m) : cnt v ds n ≤ cnt v ds m := by
  induction m with
  | zero => rw [Nat.le_zero.1 h]; exact Nat.le_refl _
  | succ k ih =>
    by_cases e : n = k + 1
    · rw [e]; exact Nat.le_refl _
    · have := ih (by omega)
      rw [cnt_succ]
      omega
/-- Without the first n descriptors. -/
def from' (ds : Nat → Int) (n : Nat) : Nat → Int := fun i => if i < n then 0 else ds i
theorem from_succ (ds : Nat → Int) (n : Nat) : from' ds (n + 1) = tset (from' ds n) n 0 := by
  funext i
  unfold from' tset
  by_cases e : i = n
  · subst e; simp
  · rw [if_neg e]
    show (if i < n + 1 then 0 else ds i) = if i < n then 0 else ds i
    by_cases h : i < n
    · rw [if_pos h, if_pos (by omega)]
    · rw [if_neg h, if_neg (by omega)]
theorem dr_close (h1 h2 rd : Nat) (ds : Nat → Int) (ms : Nat → Bool) (hd : D3 ds) (b1 : 1 + cnt 1 ds 64 ≤ h1) (b2 : cnt 2 ds 64 ≤ h2) : ∀ n, n ≤ 64 → ∃ ms', (useds ds n).foldl TS.release ⟨KDr h1 h2 rd, ds, ms⟩ = ⟨KDr (h1 - cnt 1 ds n) (h2 - cnt 2 ds n) rd, from' ds n, ms'⟩
  | 0, _ => ⟨ms, by
    show (⟨KDr h1 h2 rd, ds, ms⟩ : TS) = _
    have : from' ds 0 = ds := by funext i; simp [from']
    rw [this]
    rfl⟩
  | n + 1, hn => by
    obtain ⟨ms', ih⟩ := dr_close h1 h2 rd ds ms hd b1 b2 n (by omega)
    have hm1 := cnt_mono 1 ds (show n + 1 ≤ 64 by omega)
    have hm2 := cnt_mono 2 ds (show n + 1 ≤ 64 by omega)
    rw [useds_succ, List.foldl_append, ih, from_succ]
    have hfn : from' ds n n = ds n := by simp [from']
    rcases hd n with e | e | e
    · refine ⟨ms', ?_⟩
      rw [if_pos e, cnt_succ, cnt_succ, e]
      have e0 : tset (from' ds n) n 0 = from' ds n := by
        funext i
        unfold tset
        split
        · rename_i e'; rw [e', hfn, e]
        · rfl
      rw [e0]
      simp
    · refine ⟨tset ms' n false, ?_⟩
      rw [cnt_succ, e] at hm1
      simp at hm1
      rw [if_neg (by rw [e]; decide), cnt_succ, cnt_succ, e]
      simp only [List.foldl_cons, List.foldl_nil, TS.release, hfn, e]
      rw [if_neg (by decide), dr_drop1 _ _ _ (by omega)]
      simp [Nat.sub_add_eq]
    · refine ⟨tset ms' n false, ?_⟩
      rw [cnt_succ, e] at hm2
      simp at hm2
      rw [if_neg (by rw [e]; decide), cnt_succ, cnt_succ, e]
      simp only [List.foldl_cons, List.foldl_nil, TS.release, hfn, e]
      rw [if_neg (by decide), dr_drop2 _ _ _ (by omega)]
      simp [Nat.sub_add_eq]
theorem dr_closed (ds : Nat → Int) : useds (from' ds 64) 64 = [] := by
  unfold useds
  rw [List.filter_eq_nil_iff]
  intro a ha
  have := List.mem_range.1 ha
  simp [from', this]
def drd : Nat → Int := tset (tset (fun _ => 0) 0 1) 1 2
theorem dr_new : KS.new [] [] [] = ⟨[], [], [], 1, [], 0, 0⟩ := rfl
theorem dr_pipe : (⟨KS.new [] [] [], fun _ => 0, fun _ => false⟩ : TS).pipe = (0, 1, 0, ⟨KDr 1 1 0, drd, tset (tset (fun _ => false) 0 false) 1 false⟩) := by kernel_rfl
theorem dr_install : (⟨KDr 1 1 0, fun _ => 0, fun _ => false⟩ : TS).install 1 = (0, 0, ⟨KDr 2 1 0, tset (fun _ => 0) 0 1, tset (fun _ => false) 0 false⟩) := by kernel_rfl
theorem drd_is : cnt 1 drd 64 = 1 ∧ cnt 2 drd 64 = 1 ∧ drd 0 = 1 ∧ drd 1 = 2 := by
  refine ⟨?_, ?_, ?_, ?_⟩ <;> kernel_rfl
theorem drd_d3 : D3 drd := ((show D3 (fun _ => 0) from fun _ => .inl rfl).set 0 1 (.inr (.inl rfl))).set 1 2 (.inr (.inr rfl))
theorem upTo_d3 {ds : Nat → Int} (h : D3 ds) (n : Nat) : D3 (upTo ds n) := fun i => by
  unfold upTo
  split
  · exact h i
  · exact .inl rfl
theorem cnt_upTo (v : Int) (ds : Nat → Int) : cnt v (upTo ds 64) 64 = cnt v ds 64 := cnt_same fun i hi => by simp [upTo, hi]
end Go.Proofs.Ytbhlnmekhgfgcaa

/- FdtableDrops, walked. -/
namespace Go.Proofs.Ytbhlnmekhgfgcaa
open Go.RowKit Go.Maps

theorem TM.perm {B : Nat} {P : Nat → Prop} {w : World} {kb : Nat} {K : KS} {L L' : List Tab} (h : TM B P w kb K L) (hp : L.Perm L') : TM B P w kb K L' := by
  obtain ⟨O, h1, h2, h3, h4, h5⟩ := h
  exact ⟨O, h1, h2, fun x hx => h3 x (hp.mem_iff.2 hx), (hp.map Tab.t).nodup_iff.1 h4, h5⟩
/-- Pointers to tables, as cells. -/
def ptrs (T : List Tab) : List Value := T.map fun x => Value.pointer (some ⟨x.t, 0, none⟩)
theorem ptrs_at (T : List Tab) (k : Nat) (h : k < T.length) : (ptrs T)[k]? = some (.pointer (some ⟨T[k].t, 0, none⟩)) := by simp [ptrs, h]
theorem ptr_cell {W : World} {B : Nat} {va : Option Addr} {vc N k : Nat} {xs : List Value} {u : Value} (h : W.ownsRow B 36 1 (.slice va N vc) N xs) (hk : k < N) (hs : xs[k]? = some u) : ∃ vb, va = some ⟨vb, 0, none⟩ ∧ W.cell? ⟨vb, k, none⟩ = some u := by
  have hx := h
  rcases h.2 with ⟨e, _⟩ | ⟨g, cap, cur, e, _⟩
  · simp only [Value.slice.injEq] at e; omega
  · simp only [Value.slice.injEq] at e
    obtain ⟨rfl, _, rfl⟩ := e
    refine ⟨g, rfl, ?_⟩
    rw [hx.cellAt k (by omega), hs]
theorem Try.infoTb : (Try.prog.info? 36).map (fun i => (i.zero, i.size, i.bytes)) = some (some (.pointer none), 1, 8) := by kernel_rfl
theorem run_append_ptr (w : World) (ty : TypeId) (base : Nat) (s : Value) (n : Nat) (xs : List Value) (g c : Nat) (u : Value) (hs : w.ownsRow base 36 1 s n xs) (hx : w.cell? ⟨g, 0, none⟩ = some u) (hu : u.oneCell' = true) (hn : n < 1000000) (hb : base ≤ w.heap.size) :
    ∃ s' w', (Builtin.append_ #[53, 53] ty #[s, .slice (some ⟨g, 0, none⟩) 1 c]).run Try.prog w = .ok s' w' ∧ Hid (w'.ownsRow base 36 1 s' (n + 1) (xs ++ [u])) ∧ w.grownBy w' s.ownBlock ∧ (s'.ownBlock = s.ownBlock ∨ s'.ownBlock = some w.heap.size) := by
  refine (?_ : ∃ s' w', (Builtin.append_ #[53, 53] ty #[s, .slice (some ⟨g, 0, none⟩) 1 c]).run Try.prog w = .ok s' w' ∧ w'.ownsRow base 36 1 s' (n + 1) (xs ++ [u]) ∧ w.grownBy w' s.ownBlock ∧ (s'.ownBlock = s.ownBlock ∨ s'.ownBlock = some w.heap.size))
  obtain ⟨i0, hi, hz0, hz1, hz2⟩ := info_parts Try.infoTb
  obtain ⟨v', w', h1, h2, h3, _, h5⟩ := run_append_own_at (P := Try.prog) w base 53 ty 36 i0 (.pointer none) 1 8 Try.underlying53 hi hz0 hz1 hz2 rfl (by decide) s _ _ hs ⟨g, 0, none⟩ 1 c [u] rfl (fun j v hj => by
    match j, hj with
    | 0, hj => 
      obtain rfl : u = v := by simpa using hj
      have hadd : (⟨g, 0, none⟩ : Addr).add 0 = ⟨g, 0, none⟩ := by unfold Addr.add; split <;> simp_all
      rw [hadd]; exact hx) (by simpa using hu) (by unfold maxLen; omega) (by omega) hb
  exact ⟨v', w', h1, h2, h3, h5⟩
theorem nms_none (W : World) : Nms W (.slice none 0 0) [] := ⟨_, _, rfl, Nat.le_refl _, fun h => absurd h (Nat.lt_irrefl _)⟩
/-- What is held, all in all. -/
def sums (v : Int) (T : List Tab) : Nat := (T.map fun x => cnt v x.ds 64).sum
theorem sums_cons (v : Int) (x : Tab) (T : List Tab) : sums v (x :: T) = cnt v x.ds 64 + sums v T := by simp [sums]
theorem sums_append (v : Int) (T U : List Tab) : sums v (T ++ U) = sums v T + sums v U := by simp [sums]
theorem sums_le (v : Int) : ∀ T : List Tab, sums v T ≤ 64 * T.length
  | [] => Nat.le_refl _
  | x :: T => by
    have := sums_le v T
    have := cnt_le v x.ds 64
    rw [sums_cons]
    simp only [List.length_cons]
    omega
/-- Tables of a pipe's ends. -/
def DrT (T : List Tab) : Prop := ∀ x ∈ T, D3 x.ds ∧ x.ds 1 = 2 ∧ x.ms = fun _ => false
def drR (r : Nat) : Tab := ⟨r, tset (fun _ => 0) 0 1, fun _ => false⟩
/-- What the loops keep: the tables T, the reader's beside; the row v of pointers to U. -/
structure DrS (B kb r : Nat) (v : Value) (U T To : List Tab) (W : World) : Prop where
  tm : TM B (fun j => v.ownBlock = some j) W kb (KDr (1 + sums 1 To) (sums 2 To) 0) (drR r :: T)
  row : W.ownsRow B 36 1 v U.length (ptrs U)
  dr : DrT To
theorem owns_held {W W' : World} {B N : Nat} {v : Value} {xs : List Value} (h : W.ownsRow B 36 1 v N xs) (hH : Held (fun j => v.ownBlock = some j) W W') : W'.ownsRow B 36 1 v N xs := owns_keep h (fun j hj => hH j hj)
theorem DrT.app {T U : List Tab} (h : DrT T) (h' : DrT U) : DrT (T ++ U) := fun x hx => (List.mem_append.1 hx).elim (h x) (h' x)
theorem DrT.one {x : Tab} (h1 : D3 x.ds) (h2 : x.ds 1 = 2) (h3 : x.ms = fun _ => false) : DrT [x] := fun y hy => by
  simp only [List.mem_singleton] at hy
  subst hy
  exact ⟨h1, h2, h3⟩
theorem cnt_out {x : Tab} (h : x.ds 1 = 2) : 1 ≤ cnt 2 x.ds 64 := cnt_mem (n := 64) (i := 1) (by decide) h
theorem DrS.fork {B kb r : Nat} {v : Value} {T0 : List Tab} {x : Tab} {W : World} (h : DrS B kb r v (T0 ++ [x]) (T0 ++ [x]) (T0 ++ [x]) W) (hl : T0.length ≤ 3) :
    Calls Try.prog 14 #[.pointer (some ⟨x.t, 0, none⟩)] W fun e w' => ∃ c, e = .returned (.pointer (some ⟨c.t, 0, none⟩)) ∧ DrS B kb r v (T0 ++ [x]) ((T0 ++ [x]) ++ [c]) ((T0 ++ [x]) ++ [c]) w' ∧ Below B W w' := by
  have hx := h.dr x (by simp)
  have s1 := sums_le 1 (T0 ++ [x])
  have s2 := sums_le 2 (T0 ++ [x])
  have c1 := cnt_le 1 x.ds 64
  have c2 := cnt_le 2 x.ds 64
  have c3 := cnt_out hx.2.1
  have e2 := sums_append 2 T0 [x]
  have e3 : sums 2 [x] = cnt 2 x.ds 64 := by simp [sums]
  simp only [List.length_append, List.length_cons, List.length_nil] at s1 s2
  have hf := dr_fork (1 + sums 1 (T0 ++ [x])) (sums 2 (T0 ++ [x])) 0 x.ds hx.1 (by omega) 64 (by omega) (by omega)
  have hms : x = ⟨x.t, x.ds, fun _ => false⟩ := by
    cases x
    simp only at hx
    rw [hx.2.2]
  have hf' : (⟨KDr (1 + sums 1 (T0 ++ [x])) (sums 2 (T0 ++ [x])) 0, x.ds, x.ms⟩ : TS).fork 64 = (KDr (1 + sums 1 (T0 ++ [x]) + cnt 1 x.ds 64) (sums 2 (T0 ++ [x]) + cnt 2 x.ds 64) 0, upTo x.ds 64) := by
    rw [hx.2.2]; exact hf
  refine (TM.fork (L1 := drR r :: T0) (L2 := []) (x := x) h.tm _ hf').mono ?_
  rintro e w' ⟨c, rfl, hM, hB, hH⟩
  refine ⟨⟨c, upTo x.ds 64, fun _ => false⟩, rfl, ⟨?_, owns_held h.row hH, h.dr.app (DrT.one (upTo_d3 hx.1 64) ?_ rfl)⟩, hB⟩
  · have g1 : 1 + sums 1 ((T0 ++ [x]) ++ [⟨c, upTo x.ds 64, fun _ => false⟩]) = 1 + sums 1 (T0 ++ [x]) + cnt 1 x.ds 64 := by
      rw [sums_append 1 (T0 ++ [x])]
      have : sums 1 [(⟨c, upTo x.ds 64, fun _ => false⟩ : Tab)] = cnt 1 x.ds 64 := by rw [← cnt_upTo]; simp [sums]
      omega
    have g2 : sums 2 ((T0 ++ [x]) ++ [⟨c, upTo x.ds 64, fun _ => false⟩]) = sums 2 (T0 ++ [x]) + cnt 2 x.ds 64 := by
      rw [sums_append 2 (T0 ++ [x])]
      have : sums 2 [(⟨c, upTo x.ds 64, fun _ => false⟩ : Tab)] = cnt 2 x.ds 64 := by rw [← cnt_upTo]; simp [sums]
      omega
    rw [g1, g2]
    simpa using hM
  · show upTo x.ds 64 1 = 2
    simp [upTo, hx.2.1]
theorem DrS.dupTo {B kb r : Nat} {v : Value} {T : List Tab} {x : Tab} {W : World} (h : DrS B kb r v T (T ++ [x]) (T ++ [x]) W) (hl : T.length ≤ 4) (to : Int) :
    Calls Try.prog 13 #[.pointer (some ⟨x.t, 0, none⟩), .int .i64 1, .int .i64 to] W fun e w' => ∃ E ds', e = .returned (.int .i64 E) ∧ DrS B kb r v T (T ++ [⟨x.t, ds', fun _ => false⟩]) (T ++ [⟨x.t, ds', fun _ => false⟩]) w' ∧ Below B W w' := by
  have hx := h.dr x (by simp)
  have s2 := sums_le 2 (T ++ [x])
  have e1 := sums_append 1 T [x]
  have e2 := sums_append 2 T [x]
  have e3 : sums 1 [x] = cnt 1 x.ds 64 := by simp [sums]
  have e4 : sums 2 [x] = cnt 2 x.ds 64 := by simp [sums]
  simp only [List.length_append, List.length_cons, List.length_nil] at s2
  obtain ⟨E, h1', h2', ds', hd, hD, hO, q1, q2⟩ := dr_dupTo (1 + sums 1 (T ++ [x])) (sums 2 (T ++ [x])) 0 x.ds to hx.1 hx.2.1 (by omega) (by omega) (by omega)
  refine (TM.dupTo (L1 := drR r :: T) (L2 := []) (x := x) h.tm 1 to (E, ⟨KDr h1' h2' 0, ds', fun _ => false⟩) (by rw [hx.2.2]; exact hd)).mono ?_
  rintro e w' ⟨rfl, hM, hB, hH⟩
  refine ⟨E, ds', rfl, ⟨?_, owns_held h.row hH, ?_⟩, hB⟩
  · have g1 : 1 + sums 1 (T ++ [⟨x.t, ds', fun _ => false⟩]) = h1' := by
      rw [sums_append 1 T]
      have : sums 1 [(⟨x.t, ds', fun _ => false⟩ : Tab)] = cnt 1 ds' 64 := by simp [sums]
      omega
    have g2 : sums 2 (T ++ [⟨x.t, ds', fun _ => false⟩]) = h2' := by
      rw [sums_append 2 T]
      have : sums 2 [(⟨x.t, ds', fun _ => false⟩ : Tab)] = cnt 2 ds' 64 := by simp [sums]
      omega
    rw [g1, g2]
    exact hM
  · exact DrT.app (fun y hy => h.dr y (by simp [hy])) (DrT.one hD hO rfl)
theorem DrS.close {B kb r : Nat} {v : Value} {U Tc To : List Tab} {x : Tab} {W : World} (h : DrS B kb r v U (Tc ++ x :: To) (x :: To) W) :
    Calls Try.prog 21 #[.pointer (some ⟨x.t, 0, none⟩)] W fun e w' => (∃ u, e = .returned u) ∧ ∃ x', x'.t = x.t ∧ useds x'.ds 64 = [] ∧ DrS B kb r v U ((Tc ++ [x']) ++ To) To w' ∧ Below B W w' := by
  have hx := h.dr x (by simp)
  have e1 := sums_cons 1 x To
  have e2 := sums_cons 2 x To
  obtain ⟨ms', hc⟩ := dr_close (1 + sums 1 (x :: To)) (sums 2 (x :: To)) 0 x.ds x.ms hx.1 (by omega) (by omega) 64 (Nat.le_refl _)
  refine (TM.closeAll (L1 := drR r :: Tc) (L2 := To) (x := x) h.tm _ hc).mono ?_
  rintro e w' ⟨hu, hM, hB, hH⟩
  refine ⟨hu, ⟨x.t, from' x.ds 64, ms'⟩, rfl, dr_closed x.ds, ⟨?_, owns_held h.row hH, fun y hy => h.dr y (by simp [hy])⟩, hB⟩
  have g1 : 1 + sums 1 To = 1 + sums 1 (x :: To) - cnt 1 x.ds 64 := by omega
  have g2 : sums 2 To = sums 2 (x :: To) - cnt 2 x.ds 64 := by omega
  rw [g1, g2]
  simpa using hM
theorem DrS.kind {B kb r : Nat} {v : Value} {U T To : List Tab} {x : Tab} {W : World} (h : DrS B kb r v U T (x :: To) W) :
    Calls Try.prog 20 #[.pointer (some ⟨kb, 0, none⟩), .int .i64 2] W fun e w' => e = .returned (.int .i64 3) ∧ DrS B kb r v U T (x :: To) w' ∧ Below B W w' := by
  have e2 := sums_cons 2 x To
  have c3 := cnt_out (h.dr x (by simp)).2.1
  refine (h.tm.kind 2 ⟨by decide, by decide⟩ 3 (dr_kind _ _ _ (by omega))).mono ?_
  rintro e w' ⟨rfl, hM, hB, hH⟩
  exact ⟨rfl, ⟨hM, owns_held h.row hH, h.dr⟩, hB⟩
theorem DrS.read {B kb r : Nat} {v : Value} {U T To : List Tab} {x : Tab} {W : World} (h : DrS B kb r v U T (x :: To) W) :
    Calls Try.prog 15 #[.pointer (some ⟨r, 0, none⟩), .int .i64 0, .int .i64 1] W fun e w' => ∃ u, e = .returned (.tuple #[u, .int .i64 52]) ∧ DrS B kb r v U T (x :: To) w' ∧ Below B W w' := by
  have e2 := sums_cons 2 x To
  have c3 := cnt_out (h.dr x (by simp)).2.1
  refine (TM.read (L1 := []) (L2 := T) (x := drR r) h.tm 0 1 (by decide) (by show tset (fun _ => (0 : Int)) 0 1 0 ≠ 0; decide) (by show (KDr (1 + sums 1 (x :: To)) (sums 2 (x :: To)) 0).reads < _; obtain ⟨k, hk⟩ : ∃ k, sums 2 (x :: To) = k + 1 := ⟨sums 2 (x :: To) - 1, by omega⟩; rw [hk]; show 0 < 9223372036854775807; decide) _ (dr_read _ _ 0 (by omega))).mono ?_
  rintro e w' ⟨u, rfl, -, hM, hB, hH⟩
  exact ⟨u, rfl, ⟨hM, owns_held h.row hH, h.dr⟩, hB⟩
theorem DrS.last {B kb r : Nat} {v : Value} {U T : List Tab} {W : World} (h : DrS B kb r v U T [] W) :
    Calls Try.prog 15 #[.pointer (some ⟨r, 0, none⟩), .int .i64 0, .int .i64 1] W fun e w' => ∃ ua uc, e = .returned (.tuple #[.slice ua 0 uc, .int .i64 0]) ∧ (Calls Try.prog 20 #[.pointer (some ⟨kb, 0, none⟩), .int .i64 2] w' fun e w2 => e = .returned (.int .i64 0) ∧ Below B w' w2) ∧ Below B W w' := by
  refine (TM.read (L1 := []) (L2 := T) (x := drR r) h.tm 0 1 (by decide) (by show tset (fun _ => (0 : Int)) 0 1 0 ≠ 0; decide) (by show (0 : Nat) < 9223372036854775807; decide) _ (dr_end _ 0)).mono ?_
  rintro e w' ⟨u, rfl, hO, hM, hB, hH⟩
  obtain ⟨ua, uc, rfl⟩ := owns_slice hO
  refine ⟨ua, uc, rfl, ?_, hB⟩
  exact (hM.kind 2 ⟨by decide, by decide⟩ 0 rfl).mono fun e w2 ⟨a, _, b, _⟩ => ⟨a, b⟩
set_option maxRecDepth 100000 in
set_option maxHeartbeats 8000000 in
theorem fdtableDrops_any (forks : Int) (a1 : Option Addr) (n1 c1 : Nat) (dups : List Int) (w : World) (h1 : Fa_Ints w (.slice a1 n1 c1) dups) (z1 : dups.length ≤ 140737488351232) :
    Calls Try.prog 5 #[.int .i64 forks, .slice a1 n1 c1] w fun e w' => e = .returned (.bool true) ∧ Below w.heap.size w w' := by
  obtain ⟨a1', c1', he1, hdu⟩ := h1
  obtain ⟨rfl, rfl, rfl⟩ : a1 = a1' ∧ n1 = dups.length ∧ c1 = c1' := by simpa using he1
  have HDu := hide hdu
  have HAl := hide (talive_any w)
  clear he1 hdu
  obtain ⟨F, hF, hF5⟩ := krem_twice forks 5 (by decide) (by decide)
  go_enter Try.func5, Try.ntmps5
  go_wp2_with fail
  refine HAl.out.mono ?_
  rintro e w1 ⟨rfl, hB1⟩
  have HB1 := hide hB1
  have HN := hide (knew_good none none none 0 0 0 [] [] [] w1 (nms_none w1) (no_typed _) (.inl ⟨rfl, rfl⟩) (by decide) (by decide) (by decide) rfl)
  clear hB1
  go_wp2_with fail
  refine HN.out.mono ?_
  rintro e w2 ⟨kb, rfl, hK, hB2⟩
  have HB2 := hide (HB1.out.trans (hB2.mono HB1.out.size))
  have HNt := hide ((TM.make (B := w.heap.size) hK (fun k e => Nat.le_trans HB1.out.size e)).new)
  clear hK hB2
  go_wp2_with fail
  refine HNt.out.mono ?_
  rintro e w3 ⟨t, rfl, hM, hB3, -⟩
  have HB3 := hide (HB2.out.trans hB3)
  have HNr := hide hM.new
  clear hM hB3
  go_wp2_with fail
  refine HNr.out.mono ?_
  rintro e w4 ⟨r, rfl, hM, hB4, -⟩
  have HB4 := hide (HB3.out.trans hB4)
  have HPi := hide (TM.pipe (L1 := []) (L2 := [⟨r, fun _ => 0, fun _ => false⟩]) (x := ⟨t, fun _ => 0, fun _ => false⟩) hM (by show (1 : Nat) + 1 < 9223372036854775807; decide) _ dr_pipe)
  clear hM hB4
  go_wp2_with (first | (go_at_call 9; refine (tnum_is _ _).mono ?_; rintro _ _ ⟨rfl, rfl⟩) | fail)
  refine HPi.out.mono ?_
  rintro e w5 ⟨rfl, hM, hB5, -⟩
  have HB5 := hide (HB4.out.trans hB5)
  have HDe := hide (TM.desc hM (x := ⟨t, drd, tset (tset (fun _ => false) 0 false) 1 false⟩) (by simp) 0 (by decide) (by show drd 0 ≠ 0; rw [drd_is.2.2.1]; decide) 1 drd_is.2.2.1)
  have HIn := hide (TM.install (L1 := [⟨t, drd, tset (tset (fun _ => false) 0 false) 1 false⟩]) (L2 := []) (x := ⟨r, fun _ => 0, fun _ => false⟩) hM 1 ⟨by decide, by decide⟩ _ dr_install)
  clear hM hB5
  go_wp2_with fail
  refine HDe.out.mono ?_
  rintro e w5' ⟨rfl, rfl⟩
  go_wp2_with fail
  refine HIn.out.mono ?_
  rintro e w6 ⟨rfl, hM, hB6, -⟩
  have HB6 := hide (HB5.out.trans hB6)
  have HDw6 := hide (TM.desc hM (x := ⟨t, drd, tset (tset (fun _ => false) 0 false) 1 false⟩) (by simp) 1 (by decide) (by show drd 1 ≠ 0; rw [drd_is.2.2.2]; decide) 2 drd_is.2.2.2)
  have HM6 := hide hM
  clear hM hB6
  go_wp2_with fail
  refine HDw6.out.mono ?_
  rintro e w6' ⟨rfl, rfl⟩
  have hBl := recv_below w6 (Obj.cells #[.pointer (some ⟨t, 0, none⟩)] 36)
  have HS0 : Hid (DrS w.heap.size kb r (.slice (some ⟨w6.heap.size, 0, none⟩) 1 1) ([] ++ [⟨t, drd, fun _ => false⟩]) ([] ++ [⟨t, drd, fun _ => false⟩]) ([] ++ [⟨t, drd, fun _ => false⟩]) (w6.alloc (Obj.cells #[.pointer (some ⟨t, 0, none⟩)] 36))) := hide (by
    have hm := HM6.out
    simp only [none_set] at hm
    refine ⟨?_, World.ownsRow_lit w6 #[.pointer (some ⟨t, 0, none⟩)] 1 HB6.out.size (by decide) rfl, DrT.one drd_d3 drd_is.2.2.2 rfl⟩
    have g1 : 1 + sums 1 [(⟨t, drd, fun _ => false⟩ : Tab)] = 2 := by have := drd_is.1; simp [sums]; omega
    have g2 : sums 2 [(⟨t, drd, fun _ => false⟩ : Tab)] = 1 := by have := drd_is.2.1; simp [sums]; omega
    simp only [List.nil_append]
    rw [g1, g2]
    exact (hm.perm (List.Perm.swap _ _ _)).claim hBl _ (fun k e => by cases e; exact .inr ⟨Nat.le_refl _, by simp⟩))
  have HB7 := hide (HB6.out.trans (hBl.mono HB6.out.size))
  clear hBl
  go_wp2_with (first | (go_at_call 9; refine (tnum_is _ _).mono ?_; rintro _ _ ⟨rfl, rfl⟩) | fail)
  generalize w6.alloc (Obj.cells #[.pointer (some ⟨t, 0, none⟩)] 36) = w7 at *
  clear HM6 HDw6 HIn HDe HPi HNr HNt HN HAl HB1 HB2 HB3 HB4 HB5 HB6
  go_loopw [18, 19] (fun lv i wr => ∃ (T0 : List Tab) (x : Tab), T0.length ≤ F ∧ i = .int .i64 T0.length ∧ Hid (DrS w.heap.size kb r lv (T0 ++ [x]) (T0 ++ [x]) (T0 ++ [x]) wr) ∧ Below w.heap.size w wr) (fun _ i _ => F - (intOf i).toNat)
  case atStart => exact ⟨[], _, Nat.zero_le _, rfl, HS0, HB7.out⟩
  case round =>
    obtain ⟨T0, x, hT, rfl, HS, hB⟩ := hrel
    clear HS0 HB7
    have hrow := HS.out.row
    rw [show (T0 ++ [x]).length = T0.length + 1 by simp] at hrow
    obtain ⟨va, vc, rfl⟩ := owns_slice hrow
    obtain ⟨vb, rfl, hcell⟩ := ptr_cell hrow (Nat.lt_succ_self _) (by rw [ptrs_at _ T0.length (by simp), List.getElem_append_right (Nat.le_refl _)])
    simp only [Nat.sub_self, List.getElem_cons_zero] at hcell
    have HB := hide hB
    by_cases hlt : T0.length < F
    · have HFk := hide (HS.out.fork (by omega))
      have hj1 : (T0.length : Int) < (F : Int) := by omega
      have hj2 : ((T0.length + 1 : Nat) : Int) - 1 = (T0.length : Int) := by omega
      have hj3 : (0 : Int) ≤ (T0.length : Int) := by omega
      have hj4 : (T0.length : Int) < ((T0.length + 1 : Nat) : Int) := by omega
      have HT := hide hT
      have HLt := hide hlt
      clear hrow hB hT hlt
      go_wp2_with fail
      refine HFk.out.mono ?_
      rintro e w8 ⟨c, rfl, hS8, hB8⟩
      have HS8 := hide hS8
      have HB8 := hide (HB.out.trans hB8)
      clear hS8 hB8
      obtain ⟨ct, hct⟩ : ∃ ct, ct = c.t := ⟨_, rfl⟩
      rw [← hct]
      have HCt := hide hct
      clear hct
      go_wp2_with fail
      go_loopw [21] (fun i wr => ∃ (k : Nat) (y : Tab), k ≤ dups.length ∧ i = .int .i64 k ∧ Hid (y.t = ct) ∧ Hid (DrS w.heap.size kb r (.slice (some ⟨vb, 0, none⟩) (T0.length + 1) vc) (T0 ++ [x]) ((T0 ++ [x]) ++ [y]) ((T0 ++ [x]) ++ [y]) wr) ∧ Below w.heap.size w wr) (fun i _ => dups.length - (intOf i).toNat)
      case atStart => exact ⟨0, c, Nat.zero_le _, rfl, hide HCt.out.symm, HS8, HB8.out⟩
      case round =>
        obtain ⟨k, y, hk, rfl, HY, HSy, hBy⟩ := hrel
        clear HS8 HB8
        by_cases hlt2 : k < dups.length
        · obtain ⟨cb, off, rfl, hce⟩ := HDu.out (by omega)
          have hc0 := hce k hlt2
          have hcl := World.block_lt_of_cell? w _ hc0
          have hc1 := (hBy.cell (p := ⟨cb, off + k, none⟩) hcl).trans hc0
          have hk1 : (0 : Int) ≤ (k : Int) := by omega
          have hk2 : (k : Int) < (dups.length : Int) := by omega
          generalize dups.getD k 0 = z at *
          have HDp := hide (HSy.out.dupTo (by have := HLt.out; simp; omega) z)
          rw [HY.out] at HDp
          have HBy := hide hBy
          clear hce hc0 hcl hBy
          go_wp2_with fail
          refine HDp.out.mono ?_
          rintro e w9 ⟨E, ds', rfl, hS9, hB9⟩
          have HS9 := hide hS9
          have HB9 := hide (HBy.out.trans hB9)
          clear hS9 hB9
          go_wp2_with fail
          go_roundw
          case rel => exact ⟨k + 1, ⟨ct, ds', fun _ => false⟩, by omega, by go_num, hide rfl, HS9, HB9.out⟩
          case measure => simp [intOf]; omega
        · have hBt := recv_below wr (Obj.cells #[.pointer (some ⟨ct, 0, none⟩)] 36)
          have hcl := recv_cell wr (.pointer (some ⟨ct, 0, none⟩)) 36
          have hrow := HSy.out.row
          rw [show (T0 ++ [x]).length = T0.length + 1 by simp] at hrow
          have hBw := hBy.trans (hBt.mono hBy.size)
          obtain ⟨s', w9, hrun, HO9, hg9, hb9⟩ := run_append_ptr (wr.alloc (Obj.cells #[.pointer (some ⟨ct, 0, none⟩)] 36)) 53 w.heap.size _ _ _ wr.heap.size 1 (.pointer (some ⟨ct, 0, none⟩)) (hrow.alloc _) hcl rfl (by have := HLt.out; omega) hBw.size
          have HRun := hide hrun
          have HB9 : Hid (Below w.heap.size w w9) := hide (hBw.grown hg9 hBw.size (fun j e => (hrow.lt j e).1))
          have HS9 : Hid (DrS w.heap.size kb r s' ((T0 ++ [x]) ++ [y]) ((T0 ++ [x]) ++ [y]) ((T0 ++ [x]) ++ [y]) w9) := hide (by
            have hm := HSy.out.tm.below hBt
            have hT9 : Turned (fun j => (Value.slice (some ⟨vb, 0, none⟩) (T0.length + 1) vc).ownBlock = some j) (wr.alloc (Obj.cells #[.pointer (some ⟨ct, 0, none⟩)] 36)) w9 := (Turned.refl _ _).grown hg9 (fun j e => .inl e)
            refine ⟨hm.take hT9 (fun k e => .inl e) _ (fun j e => ?_), ?_, HSy.out.dr⟩
            · rcases hb9 with h | h
              · exact .inl (h ▸ e)
              · have := (HO9.out.lt j e).2
                rw [h] at e
                cases e
                exact .inr ⟨Nat.le_refl _, this⟩
            · have := HO9.out
              rw [← HY.out] at this
              simpa [ptrs] using this)
          have HLen : Hid (((T0 ++ [x]).length : Int) = (T0.length : Int) + 1) := hide (by simp)
          clear hBt hcl hrow hBw hrun HO9 hg9 hb9 hBy
          go_wp2_with (first | (at_builtin; refine Lib.wpList_append_run _ rfl _ _ _ _ rfl _ _ rfl rfl _ _ HRun.out ?_) | fail)
          go_roundw
          case rel => exact ⟨T0 ++ [x], y, by have := HLt.out; simp; omega, by rw [HLen.out], HS9, HB9.out⟩
          case measure => have := HLt.out; simp [intOf]; omega
    · obtain ⟨U, hU⟩ : ∃ U, U = T0 ++ [x] := ⟨_, rfl⟩
      have HUl : Hid (U.length = T0.length + 1) := hide (by rw [hU]; simp)
      have HUb : Hid (U.length ≤ 100) := hide (by rw [HUl.out]; omega)
      rw [← hU] at HS
      have HS1 : Hid (DrS w.heap.size kb r (.slice (some ⟨vb, 0, none⟩) U.length vc) U ([] ++ U) U wr) := hide (by rw [HUl.out]; exact HS.out)
      rw [← HUl.out]
      have hj5 : ¬ (T0.length : Int) < (F : Int) := by omega
      clear hrow hB hT hlt HS hU hcell
      go_wp2_with fail
      go_loopw [22] (fun i wr => ∃ (Tc To : List Tab), i = .int .i64 Tc.length ∧ Hid ((Tc ++ To).map Tab.t = U.map Tab.t) ∧ Hid (DrS w.heap.size kb r (.slice (some ⟨vb, 0, none⟩) U.length vc) U (Tc ++ To) To wr) ∧ Below w.heap.size w wr) (fun i _ => U.length - (intOf i).toNat)
      case atStart => exact ⟨[], U, rfl, hide rfl, HS1, HB.out⟩
      case round =>
        obtain ⟨Tc, To, rfl, HMp, HSc, hBc⟩ := hrel
        clear HS1 HB
        have hlen : Tc.length + To.length = U.length := by
          have := congrArg List.length HMp.out
          simpa using this
        have HBc := hide hBc
        clear hBc
        cases To with
        | cons x To =>
          have hlt : Tc.length < U.length := by rw [← hlen]; simp
          have hpt : U[Tc.length].t = x.t := by
            have e : (U.map Tab.t)[Tc.length]? = ((Tc ++ x :: To).map Tab.t)[Tc.length]? := by rw [HMp.out]
            simp [hlt] at e
            exact e
          obtain ⟨vb', e', hcell⟩ := ptr_cell HSc.out.row hlt (ptrs_at U Tc.length hlt)
          cases e'
          rw [hpt] at hcell
          have hk1 : (0 : Int) ≤ (Tc.length : Int) := by omega
          have hk2 : (Tc.length : Int) < (U.length : Int) := by omega
          have hk5 : (Tc.length : Int) ≤ 100 := by have := HUb.out; omega
          have HKd := hide HSc.out.kind
          have HLn := hide hlen
          clear hlt hpt hlen
          go_wp2_with fail
          refine HKd.out.mono ?_
          rintro e w8 ⟨rfl, hS8, hB8⟩
          have HB8 := hide (HBc.out.trans hB8)
          have HRd := hide hS8.read
          clear hS8 hB8
          go_wp2_with fail
          refine HRd.out.mono ?_
          rintro e w9 ⟨u, rfl, hS9, hB9⟩
          have HB9 := hide (HB8.out.trans hB9)
          have HCl := hide hS9.close
          obtain ⟨vb', e', hcell9⟩ := ptr_cell hS9.row (by have := HLn.out; simp at this; omega) (ptrs_at U Tc.length (by have := HLn.out; simp at this; omega))
          cases e'
          have hpt : (U[Tc.length]'(by have := HLn.out; simp at this; omega)).t = x.t := by
            have e : (U.map Tab.t)[Tc.length]? = ((Tc ++ x :: To).map Tab.t)[Tc.length]? := by rw [HMp.out]
            have hlt : Tc.length < U.length := by have := HLn.out; simp at this; omega
            simp [hlt] at e
            exact e
          rw [hpt] at hcell9
          clear hpt hS9 hB9 hcell
          go_wp2_with (first | (go_at_call 9; refine (tnum_is _ _).mono ?_; rintro _ _ ⟨rfl, rfl⟩) | fail)
          refine HCl.out.mono ?_
          rintro e w10 ⟨⟨u2, rfl⟩, x', hxt, hxu, hS10, hB10⟩
          have HB10 := hide (HB9.out.trans hB10)
          have HLi := hide (hS10.tm.list (x := x') (by simp) [] hxu)
          rw [hxt] at HLi
          obtain ⟨vb', e', hcell10⟩ := ptr_cell hS10.row (by have := HLn.out; simp at this; omega) (ptrs_at U Tc.length (by have := HLn.out; simp at this; omega))
          cases e'
          have hpt : (U[Tc.length]'(by have := HLn.out; simp at this; omega)).t = x.t := by
            have e : (U.map Tab.t)[Tc.length]? = ((Tc ++ x :: To).map Tab.t)[Tc.length]? := by rw [HMp.out]
            have hlt : Tc.length < U.length := by have := HLn.out; simp at this; omega
            simp [hlt] at e
            exact e
          rw [hpt] at hcell10
          have HS10 := hide hS10
          have HXt := hide hxt
          clear hpt hS10 hB10 hcell9 hxt hxu
          go_wp2_with fail
          refine HLi.out.mono ?_
          rintro e w11 ⟨lv, rfl, hO11, hB11⟩
          obtain ⟨la, lc, rfl⟩ := owns_slice hO11
          have HB11 := hide (HB10.out.trans (hB11.mono HB10.out.size))
          have HS11 : Hid (DrS w.heap.size kb r (.slice (some ⟨vb, 0, none⟩) U.length vc) U ((Tc ++ [x']) ++ To) To w11) := hide ⟨HS10.out.tm.below hB11, owns_held HS10.out.row (HS10.out.tm.held hB11), HS10.out.dr⟩
          clear hO11 hB11
          simp only [List.length_nil]
          have HLen : Hid (((Tc ++ [x']).length : Int) = (Tc.length : Int) + 1) := hide (by simp)
          go_wp2_with fail
          go_roundw
          case rel => exact ⟨Tc ++ [x'], To, by rw [HLen.out], hide (by rw [← HMp.out]; simp [HXt.out]), HS11, HB11.out⟩
          case measure => have := HLn.out; simp at this; simp [intOf]; omega
        | nil =>
          have HLa := hide HSc.out.last
          have hk3 : (Tc.length : Int) = (U.length : Int) := by simp at hlen; omega
          have hk4 : ¬ (Tc.length : Int) < (U.length : Int) := by omega
          clear hlen hk3
          go_wp2_with fail
          refine HLa.out.mono ?_
          rintro e w8 ⟨ua, uc, rfl, hKd, hB8⟩
          have HKd := hide hKd
          have HB8 := hide (HBc.out.trans hB8)
          clear hKd hB8
          go_wp2_with (first | (go_at_call 9; refine (tnum_is _ _).mono ?_; rintro _ _ ⟨rfl, rfl⟩) | (go_at_call 20; refine HKd.out.mono ?_; rintro _ w9 ⟨rfl, hB9⟩) | fail)
          go_ret
          exact ⟨rfl, HB8.out.trans hB9⟩
end Go.Proofs.Ytbhlnmekhgfgcaa

/- FdtableDrops answers true for all numbers, within the reach of a machine's memory: when all tables have closed all, no description is left: a pipe's other end finds its end. -/
namespace Go.Proofs.Ytbhlnmekhgfgcaa.fdtableDrops
open Go.ChangeShapes Go.WideShapes Go.ChangeAt Go.RowKit
open Go.ChangeMaps (open_string shut_string)
set_option linter.unusedVariables false

theorem own : ownKnob Try.prog.godebug = none := by kernel_rfl
theorem laidOut : laidOutB Try.prog = true := by kernel_rfl

set_option maxRecDepth 100000 in
theorem lifted (os : Os) (started : os.Started) (H : Type) (enc : TypeId × Value → H) :
    ReturnsInHanded {} Try.checked os 5 .any (Rows.fdtableDropsSpec.pre6 enc Try.prog Try.f5 Rows.fdtableDropsRow.domain false) (Rows.fdtableDropsSpec.post enc Try.prog Try.f5 false true false false) := by
  refine returnsInHanded_of_change_sized (C := Try.checked) own started (by kernel_rfl) Try.func5
    (ChangeSpec.witness6 (enc := enc) (C := Try.checked) false ⟨#[], #[.int .i64 0, .slice none 0 0], []⟩ 8 (by kernel_rfl) (by kernel_rfl) (by kernel_rfl) (by kernel_rfl)) ?_
  intro W base args ds gs before hval0 hW hcnd0 hsz0 _
  have hsz : (DataW.weightsEach Try.prog (Try.f5.params.toList ++ Rows.fdtableDropsSpec.plain.varTypes Try.prog) (ds ++ gs)).all (· ≤ reachBytes) = true := hsz0
  clear hsz0
  have hval : ∀ (j : Nat) t v, Try.f5.params[j]? = some t → args[j]? = some v → Value.okWide Try.prog W .any base t v := hval0
  have hW' := hW
  obtain ⟨p, q, hA0, hV, rfl, hfz, hnd⟩ := hW
  have hA : DataW.TrodAll enc Try.prog W 0 (fun _ => true) true Try.f5.params.toList args.toList ds p := hA0
  rw [Try.params5] at hA hval hsz
  obtain ⟨v0, vs0, d0, ds0, p0, q0, hargs, rfl, rfl, h0, r0⟩ := trodAll_cons hA
  obtain ⟨v1, vs1, d1, ds1, p1, q1, rfl, rfl, rfl, h1, r1⟩ := trodAll_cons r0
  obtain ⟨rfl, rfl, rfl⟩ := trodAll_nil r1
  obtain rfl : args = #[v0, v1] := by cases args; simp_all
  obtain ⟨rfl, rfl⟩ := trodVars_none hV
  obtain ⟨a0, rfl, rfl, rfl, w0⟩ := open_int Try.underlying3 (hval 0 3 v0 rfl rfl) h0
  have b0 := bounds_i64 w0
  obtain ⟨c1, len1, cap1, rfl⟩ := okWide_slice Try.underlying22 (hval 1 22 v1 rfl rfl)
  have k1 := h1
  have lt1 : ∀ x ∈ p1, x.block < W.heap.size := by obtain ⟨m, hm⟩ := k1; exact DataW.trod_lt m _ _ _ hm
  obtain ⟨fuel1, hf1⟩ := h1
  obtain ⟨l1, y1, e1⟩ := ints_arg Try.underlying22 Try.underlying3 (by kernel_rfl) hf1
  have z1 : l1.length * 8 ≤ 140737488351232 := by
    rcases e1 with ⟨_, rfl⟩ | ⟨elems, spare, rfl, hll⟩
    · simp
    · have := sized_slice hsz (j := 1) (t := 22) (e := 3) rfl rfl Try.underlying22
      rw [show Try.prog.bytesOf 3 = 8 by kernel_rfl] at this; simp only [reachBytes] at this; omega
  clear hA0
  refine (fdtableDrops_any a0 _ _ _ l1 W y1 (by omega)).mono fun e W' ⟨he, bel⟩ => ?_
  subst he
  exact ⟨_, rfl, _, _, _, [], _, [], hW', trodAll_mk1 (shut_bool Try.underlying4 _), (trodAll_cons_mk (shut_int Try.underlying3 w0) (trodAll_cons_mk (Below.trod laidOut (by kernel_rfl) (of_decide_eq_true (by kernel_rfl)) k1 bel lt1) trodAll_mk0)), rfl, bel.frame _, fun h => by cases h⟩

theorem over : Rows.fdtableDropsRow.holds Try.pinned (OpenSpec.ofChange Rows.fdtableDropsSpec) :=
  OpenClaim.holds_of_wide 5 Try.f5 rfl rfl rfl rfl rfl rfl rfl ⟨rfl, rfl, rfl, rfl, rfl⟩ rfl rfl rfl rfl rfl (by kernel_rfl) Try.func5 (by kernel_rfl)
    (of_decide_eq_true (by kernel_rfl)) (by unfold Func.isWrapper; first | (rw [if_pos (by decide +kernel)]; kernel_rfl) | (rw [if_neg (by decide +kernel)]; exact ⟨rfl, rfl⟩))
    (fun os started H enc _ => lifted os started H enc)
end Go.Proofs.Ytbhlnmekhgfgcaa.fdtableDrops
namespace Go.Proofs.Ytbhlnmekhgfgcaa
theorem fdtableDrops_holds : Rows.FdtableDropsSaid := fdtableDrops.over
#print axioms fdtableDrops_holds
end Go.Proofs.Ytbhlnmekhgfgcaa

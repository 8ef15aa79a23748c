/- What the proof stands on, part 11: the contracts of the program's calls that it reaches. -/
import Derived.Test.YtpffhemmjigfaaaKM10
/- What bufmode.Writes answers, for every mode, size and text: how long the writes are, in memory of its own. -/
namespace Go.Proofs.Ytpffhemmjigfaaa
open Go.RowKit Go.Shelf

attribute [local go_sem] Oper.semAt_some

/-- Numbers as cells. -/
def nvs (l : List Nat) : List Value := l.map fun i : Nat => Value.int .i64 (i : Int)
theorem bcell_putObj {W : World} {l : Nat} {o' : Obj} {b off : Nat} (h : b ≠ l) : (W.putObj l o').cell? ⟨b, off, none⟩ = W.cell? ⟨b, off, none⟩ := by
  simp only [World.cell?]
  rw [World.putObj_heap_other h]
theorem bys_put {W : World} {l : Nat} {o' : Obj} {v : Value} {t : List UInt8} {n0 : Nat} (h : Bys W v t) (hv : ∀ k, v.ownBlock = some k → 0 < t.length → k < n0) (hl : n0 ≤ l) : Bys (W.putObj l o') v t := by
  rcases h with h | h | ⟨b, off, cap, rfl, h0, hc⟩
  · exact .inl h
  · exact .inr (.inl h)
  · have := hv b rfl h0
    exact .inr (.inr ⟨b, off, cap, rfl, h0, fun j hj => (bcell_putObj (by omega)).trans (hc j hj)⟩)

set_option maxRecDepth 100000 in
set_option maxHeartbeats 4000000 in
theorem bwrites_in (f : Nat) (hf : 3 ≤ f) (mode size : Int) (ta : Option Addr) (tc : Nat) (t : List UInt8) (hok : bref mode size = 0) (htl : t.length ≤ 1048576) (htc : t.length ≤ tc) (w : World) (hb : Bys w (.slice ta t.length tc) t) :
    CallsIn Fence.wide f Try.prog 41 #[.int .i64 mode, .int .i64 size, .slice ta t.length tc] w fun e w' => ∃ v, e = .returned (.tuple #[v, .int .i64 0]) ∧ w'.ownsRow w.heap.size 3 1 v (rwr (decide (mode = 2)) (brm mode size).toNat 0 t).length (nvs (rwr (decide (mode = 2)) (brm mode size).toNat 0 t)) ∧ Below w.heap.size w w' := by
  have h1 : 1 ≤ f := by omega
  obtain ⟨i0, hi, hz0, hz1, hz2⟩ := info_parts Try.infoI
  have hmx : Try.prog.follows .mixedOrders = true := by kernel_rfl
  obtain ⟨q1, q2, q3, q4⟩ := bref_ok hok
  have hbm : 1 ≤ brm mode size ∧ brm mode size ≤ 65536 := by unfold brm; split <;> omega
  obtain ⟨m, hm⟩ : ∃ m : Nat, brm mode size = (m : Int) := ⟨(brm mode size).toNat, by omega⟩
  have hm1 : 1 ≤ m := by omega
  have hm2 : m ≤ 65536 := by omega
  have HLi := fun W => lengths_in (f - 1) (by omega) mode size ta t.length tc W
  rw [hm] at HLi
  have hmt : (brm mode size).toNat = m := by omega
  rw [hmt]
  have HLi := hide HLi
  have hle : ¬ (1048576 : Int) < (t.length : Int) := by omega
  have HBr := hide (fun W => bref_any mode size W)
  rw [hok] at HBr
  clear hm hmt hbm hok
  refine callsIn_of_wp_marks Try.func41 rfl trivial ?_ rfl
  simp only [Try.ntmps41, List.size_toArray, List.length_cons, List.length_nil, Nat.reduceAdd, Nat.reduceSub, Array.replicate_succ, Array.replicate_zero, List.push_toArray, List.append_toArray, List.nil_append, List.cons_append]
  gi_wp2
  refine ⟨trivial, (callsIn_wide.2 (HBr.out _)).mono ?_⟩
  rintro _ _ ⟨rfl, rfl⟩
  gi_wp2
  refine ⟨trivial, (HLi.out _).mono ?_⟩
  rintro _ W1 ⟨rfl, bk, bt, bm, hz, hB1⟩
  rw [World.size_alloc] at bk bt bm hz
  have bO := Boxed.new w 82 (.slice none 0 0)
  have bO1 : Boxed W1 w.heap.size 82 (.slice none 0 0) := (hB1.block _ bO.lt).trans bO
  have hB0 : Below w.heap.size w W1 := ((Below.refl _ w).alloc (Nat.le_refl _) _).trans (hB1.mono (by simp))
  have hob : ∀ k, (Value.slice ta t.length tc).ownBlock = some k → 0 < t.length → k < w.heap.size := fun k e h0 => by
    obtain ⟨-, qb, qo, rfl, hl, -⟩ := bys_block hb h0
    cases e
    exact hl
  have hRl := rwr_len_le (decide (mode = 2)) m t 0 (by omega)
  have hsz : (w.alloc (.cells #[.slice none 0 0] 82)).heap.size = w.heap.size + 1 := World.size_alloc _ _
  simp only [hsz]
  gi_wp2
  refine wpIn_rangeFunc_ownG rfl h1 (gf := 78) (lb := #[.pointer (some ⟨w.heap.size + 1 + 1, 0, none⟩), .pointer (some ⟨w.heap.size + 1 + 2, 0, none⟩), .pointer (some ⟨w.heap.size + 1, 0, none⟩)]) rfl trivial (enters_of Try.func78 (by kernel_rfl) rfl)
    (lengths_stops (f - 1) (by omega) (w.heap.size + 1 + 1) (w.heap.size + 1 + 2) (w.heap.size + 1) mode m ta tc t hm1 hm2 htc htl W1 (by omega) (by omega) (by omega) bt.cell bm.cell bk.cell (hb.below hB0)) (fun h1 h2 => ⟨h2.1.trans h1.1, h2.2.1.trans h1.2.1, h2.2.2.1.trans h1.2.2.1, fun h => h2.2.2.2 (h1.2.2.2 h)⟩)
    (fun W l o o' hl _ _ _ => ⟨bcell_putObj (by omega), bcell_putObj (by omega), bcell_putObj (by omega), fun h => bys_put h hob (by omega)⟩) (Below.refl _ _) (fun _ => rfl)
    (fun (pre : List Nat) W => ((((∃ v, Boxed W w.heap.size 82 v ∧ W.ownsRow (w.heap.size + 4) 3 1 v pre.length (nvs pre) ∧ True) ∧ Boxed W (w.heap.size + 1 + 1) 22 (.slice ta t.length tc)) ∧ Boxed W (w.heap.size + 1 + 2) 3 (.int .i64 m)) ∧ Boxed W (w.heap.size + 1) 3 (.int .i64 mode)) ∧ Below w.heap.size w W)
    (fun _ _ _ => False)
    (OwnFrom.and (OwnFrom.and (OwnFrom.and (OwnFrom.and (Own.from (holdsRow_own (w.heap.size + 4) w.heap.size 82 3 1 (fun pre : List Nat => pre.length) (fun pre => nvs pre) (fun _ _ => True)) _) (Own.from (boxed_own _ _ _) _)) (Own.from (boxed_own _ _ _) _)) (Own.from (boxed_own _ _ _) _)) (ownFrom_below (Nat.le_refl _) (by omega)))
    (fun _ _ _ _ _ hs _ _ => hs)
    ⟨⟨⟨⟨⟨_, bO1, World.ownsRow_nil _ _ _ _, trivial⟩, bt⟩, bm⟩, bk⟩, hB0⟩
    (fun x => { tmps := #[.int .i64 mode, .int .i64 size, .slice ta t.length tc, undef, undef, undef, .slice none 0 0, .int .i64 0, .int .i64 0, .pointer (some ⟨w.heap.size, 0, none⟩), .int .i64 (x : Int), .int .i64 mode, .int .i64 size, .int .i64 0, .int .i64 0, .bool false, undef, .slice ta t.length tc, .int .i64 t.length, .bool (decide ((1048576 : Int) < (t.length : Int))), .int .i64 mode, .int .i64 size, .slice ta t.length tc, .func (.func 78) #[] #[.pointer (some ⟨w.heap.size + 1 + 1, 0, none⟩), .pointer (some ⟨w.heap.size + 1 + 2, 0, none⟩), .pointer (some ⟨w.heap.size + 1, 0, none⟩)], .int .i64 (x : Int), undef, undef, undef, undef, undef], defers := [] }) ?assign ?body ?done ?stop
  case assign =>
    intro l x W K hK
    gi_wp2
    exact hK
  case body =>
    rintro l pre x W ⟨⟨⟨⟨⟨v, hv, hrow, -⟩, hbt⟩, hbm⟩, hbk⟩, hB⟩ hlt'
    have hc := hv.cell
    have hcA := fun o => (hv.alloc o).cell
    have hpl : (nvs pre).length = pre.length := List.length_map _
    have hpre : pre.length ≤ 1048577 := by omega
    have hrow0 := owns_mono hrow (show w.heap.size ≤ w.heap.size + 4 by omega)
    have hzW : w.heap.size + 4 ≤ W.heap.size := by have := hbm.lt; omega
    gi_wp2_with (gi_at_builtin; refine wpListIn_append_own _ rfl _ _ 82 rfl (w.heap.size + 4) 3 i0 (.int .i64 0) 1 8 Try.underlying82 hi hz0 hz1 hz2 rfl (by decide) _ _ _ rfl (hrow.alloc _) ⟨W.heap.size, 0, none⟩ 1 1 [.int .i64 (x : Int)] rfl rfl (cell_one_new _ _ _) (by simp [Value.oneCell']) (by unfold maxLen; omega) (by omega) (by simp; omega) ?_; intro v' w1 hown' hgrow _; obtain ⟨g', cap', rfl⟩ := ownsRow_succ hown'; have hgrow' : (W.alloc (.cells #[.int .i64 (x : Int)] 3)).grownBy w1 v.ownBlock := hgrow; obtain ⟨hv1, hv2, hr2, hk2, hb2⟩ := hv.appended (by decide) hrow0 hB.size (Nat.le_refl _) (owns_mono hown' (show w.heap.size ≤ w.heap.size + 4 by omega)) hgrow'; have hc1 := hv1.cell; have hf1 := hv1.frozen)
    have hr3 := hown'.kept (grownBy_setCell' w1 w.heap.size (.slice (some ⟨g', 0, none⟩) (pre.length + 1) cap')) (.inr (hv1.not_row (by decide) hown').symm)
    have hbt1 := ((hbt.alloc (.cells #[.int .i64 (x : Int)] 3)).kept hgrow' (hbt.not_row (by decide) hrow)).other (B' := w.heap.size) (by omega) (.slice (some ⟨g', 0, none⟩) (pre.length + 1) cap')
    have hbm1 := ((hbm.alloc (.cells #[.int .i64 (x : Int)] 3)).kept hgrow' (fun e => by have := (hrow.lt _ e.symm).1; omega)).other (B' := w.heap.size) (by omega) (.slice (some ⟨g', 0, none⟩) (pre.length + 1) cap')
    have hbk1 := ((hbk.alloc (.cells #[.int .i64 (x : Int)] 3)).kept hgrow' (fun e => by have := (hrow.lt _ e.symm).1; omega)).other (B' := w.heap.size) (by omega) (.slice (some ⟨g', 0, none⟩) (pre.length + 1) cap')
    exact ⟨hk2.from _, ⟨hbt1.cell.trans hbt.cell.symm, hbm1.cell.trans hbm.cell.symm, hbk1.cell.trans hbk.cell.symm, fun h => (hb.below (hB.trans hb2))⟩, ⟨⟨⟨⟨_, hv2, by simpa [nvs] using hr3, trivial⟩, hbt1⟩, hbm1⟩, hbk1⟩, hB.trans hb2⟩
  case done =>
    rintro D ys W hD rfl ⟨⟨⟨⟨⟨v, hv, hrow, -⟩, hbt⟩, hbm⟩, hbk⟩, hB⟩ hK
    have hc := hv.cell
    gi_wp2
    refine ⟨by simp, .inl ⟨_, _, rfl, run_takeDeferred hK, ?_⟩⟩
    refine ⟨.tuple #[v, .int .i64 0], ?_, v, rfl, owns_mono (ownsRow_putObj hrow _ hK rfl) (show w.heap.size ≤ w.heap.size + 4 by omega), hB.trans (belowK_b (w := w) (Nat.le_refl _) W D _ _ (by omega) hK rfl rfl)⟩
    simp [results, Try.f41, go_sem]
  case stop =>
    rintro D c pre W _ _ h _
    exact h.elim
end Go.Proofs.Ytpffhemmjigfaaa

/- What pushback.fromBehind hands out, for every loop body: the bytes, the last one first. -/
namespace Go.Proofs.Ytpffhemmjigfaaa
open Go.RowKit Go.Shelf

attribute [local go_sem] Oper.semAt_some

/-- An append whose run is known, in the body of a range over a function. -/
theorem wpListIn_append_run {F : Fence} {n : Nat} {P : Program} (w : World) {ops : Array Oper} {rest : List Oper} {o : Oper} {a : Act} {Q : Exit → Act → World → Prop}
    (hg : o.guard = none) (s x : Operand) (t tn : TypeId) (hop : o.op = Op.call { callee := Callee.builtin Builtin.append, args := #[s, x], argTypes := #[t, tn] }) (vs vx : Value) (hs : a.eval s = vs) (hx : a.eval x = vx)
    (v' : Value) (w' : World) (hr : (Builtin.append_ #[t, tn] o.type #[vs, vx]).run P w = .ok v' w') (h : wpListIn F n P ops Q rest (a.put o.dst v') w') : wpListIn F n P ops Q (o :: rest) a w := by
  refine wpListIn_plain hg fun K hK' => ?_
  unfold Oper.wpIn
  refine ⟨?_, ?_⟩
  · simp [Oper.about, hop, resolve, Target.leads, Sem.run_pure]
  · rw [Oper.semAt_plain F _ _ (by rw [hop]; intro c hc'; cases hc')]
    simp [execOp, hop, resolve, invoke, builtin, hs, hx, hr, Result.andThen]
    exact hK' _ _ h
/-- A slice of one byte that was laid. -/
theorem pone_bys (w : World) (c : UInt8) : Bys (w.alloc (Obj.cells #[.int .u8 (c.toNat : Int)] 5)) (.slice (some ⟨w.heap.size, 0, none⟩) 1 1) [c] := by
  refine .inr (.inr ⟨w.heap.size, 0, 1, rfl, by simp, fun j hj => ?_⟩)
  obtain rfl : j = 0 := by simp at hj; omega
  exact cell_of_row _ _ 0 _ _ _ (heap_alloc_new w _)
/-- What a body leaves alone: the box, and the bytes. -/
def BehKp (Bt : Nat) (tv : Value) (t : List UInt8) (W W' : World) : Prop := W'.cell? ⟨Bt, 0, none⟩ = W.cell? ⟨Bt, 0, none⟩ ∧ (Bys W tv t → Bys W' tv t)
theorem beh_step (t : List UInt8) (j : Nat) (hj : j < t.length) : (t.drop j).reverse = (t.drop (j + 1)).reverse ++ [t.getD j 0] := by
  rw [List.drop_eq_getElem_cons hj, List.reverse_cons]
  simp [List.getD_eq_getElem?_getD, hj]
theorem beh_prefix (t : List UInt8) (j : Nat) : (t.drop j).reverse <+: t.reverse := by
  conv => rhs; rw [← List.take_append_drop j t, List.reverse_append]
  exact List.prefix_append _ _

set_option maxRecDepth 100000 in
set_option maxHeartbeats 2000000 in
theorem beh1_in (f : Nat) (hn : 1 ≤ f) (l Bt : Nat) (ta : Option Addr) (tc : Nat) (t : List UInt8) (htl : t.length ≤ 140737488351232) (J Jx : List UInt8 → World → Prop)
    (hY : ∀ (pre : List UInt8) (x : UInt8) (W : World), J pre W → pre.length < t.length + 1 → YieldAt Fence.wide (f - 1) Try.prog l #[.int .u8 (x.toNat : Int)] W fun e W' =>
      (e = .returned (.bool true) ∧ J (pre ++ [x]) W' ∧ BehKp Bt (.slice ta t.length tc) t W W') ∨ (e = .returned (.bool false) ∧ Jx (pre ++ [x]) W'))
    (W : World) (hct : W.cell? ⟨Bt, 0, none⟩ = some (.slice ta t.length tc)) (hb : Bys W (.slice ta t.length tc) t) (h0 : J [] W) :
    CallsIn Fence.wide f Try.prog 53 #[.func (.yield l) #[] #[], .pointer (some ⟨Bt, 0, none⟩)] W fun e W' => (∃ v, e = .returned v) ∧
      (J t.reverse W' ∨ (∃ pre, pre <+: t.reverse ∧ Jx pre W')) := by
  have HB0 := hide hb
  clear hb
  refine callsIn_of_wp Try.func53 rfl trivial ?_ rfl
  simp only [Try.ntmps53, List.size_toArray, List.length_cons, List.length_nil, Nat.reduceAdd, Nat.reduceSub, Array.replicate_succ, Array.replicate_zero, List.push_toArray, List.append_toArray, List.nil_append, List.cons_append]
  gi_wp2
  gi_loopw [3] (fun i wr => ∃ k : Nat, k ≤ t.length ∧ i = .int .i64 ((k : Int) - 1) ∧ J (t.drop k).reverse wr ∧ wr.cell? ⟨Bt, 0, none⟩ = some (.slice ta t.length tc) ∧ Hid (Bys wr (.slice ta t.length tc) t)) (fun i _ => (intOf i + 1).toNat)
  case atStart => exact ⟨t.length, Nat.le_refl _, rfl, by rw [List.drop_length]; exact h0, hct, HB0⟩
  case round =>
    clear hct h0 HB0
    obtain ⟨k, hk, rfl, hJ, hct, HB⟩ := hrel
    rcases k with _ | j
    · gi_wp2
      go_end0
      exact ⟨⟨_, rfl⟩, .inl hJ⟩
    have e1 : ((j + 1 : Nat) : Int) - 1 = (j : Int) := by omega
    rw [e1]
    obtain ⟨-, b, off, rfl, -, hc⟩ := bys_block HB.out (by omega)
    have hcj := hc j (by omega)
    have HS := hide (beh_step t j (by omega))
    have HPx := hide (beh_prefix t j)
    have hj0 : (0 : Int) ≤ (j : Int) := by omega
    have hj1 : (j : Int) < (t.length : Int) := by omega
    have hlen : (t.drop (j + 1)).reverse.length < t.length + 1 := by rw [List.length_reverse, List.length_drop]; omega
    obtain ⟨fn, tmps, assign, body, hy, hR⟩ := hY (t.drop (j + 1)).reverse (t.getD j 0) wr hJ hlen
    clear hY hc hlen
    generalize hx : t.getD j 0 = x at *
    clear hx
    gi_wp2
    refine hR.mono ?_
    rintro e W3 (⟨rfl, hJ3, hk3, hs3⟩ | ⟨rfl, hJx3⟩)
    · have hct3 := hk3.trans hct
      gi_wp2
      go_roundw
      case rel => exact ⟨j, by omega, by go_num, by rw [HS.out]; exact hJ3, hct3, hide (hs3 HB.out)⟩
      case measure => simp [intOf]
    · gi_wp2
      refine bodyPost_ret (results_none rfl _ _ _) rfl ?_
      exact ⟨⟨_, rfl⟩, .inr ⟨_, by rw [← HS.out]; exact HPx.out, hJx3⟩⟩
set_option maxHeartbeats 1000000 in
/-- fromBehind: its argument is boxed; the function value captures the box. -/
theorem beh_in (f : Nat) (t : Value) (ta : Option Addr) (tn tc : Nat) (ht : t = .slice ta tn tc) (w : World) :
    CallsIn Fence.wide f Try.prog 31 #[t] w fun e w' => e = .returned (.func (.func 53) #[] #[.pointer (some ⟨w.heap.size, 0, none⟩)]) ∧ w' = w.alloc (.cells #[t] 22) := by
  subst ht
  refine callsIn_of_wp Try.func31 rfl trivial ?_ rfl
  simp only [Try.ntmps31, List.size_toArray, List.length_cons, List.length_nil, Nat.reduceAdd, Nat.reduceSub, Array.replicate_succ, Array.replicate_zero, List.push_toArray, List.append_toArray, List.nil_append, List.cons_append]
  gi_wp2
  go_ret
  exact ⟨rfl, rfl⟩
theorem beh_stops (f : Nat) (hn : 1 ≤ f) (Bt : Nat) (ta : Option Addr) (tc : Nat) (t : List UInt8) (htl : t.length ≤ 140737488351232) (w : World) (hBt : Bt < w.heap.size)
    (hct : w.cell? ⟨Bt, 0, none⟩ = some (.slice ta t.length tc)) (hb : Bys w (.slice ta t.length tc) t) :
    SeqStopsK Fence.wide f Try.prog 53 #[.pointer (some ⟨Bt, 0, none⟩)] (fun x : UInt8 => #[Value.int .u8 (x.toNat : Int)]) (BehKp Bt (.slice ta t.length tc) t) (fun ys => ys = t.reverse) (fun pre => pre <+: t.reverse) (t.length + 1) w := fun l J Jx W hW _ _ hY h0 =>
  (beh1_in f hn l Bt ta tc t htl J Jx hY W ((hW.cell (p := ⟨Bt, 0, none⟩) hBt).trans hct) (hb.below hW) h0).mono fun _ _ ⟨h1, h2⟩ => ⟨h1, h2.imp (fun h => ⟨_, rfl, h⟩) id⟩
end Go.Proofs.Ytpffhemmjigfaaa

/- Bytes pushed back: UngetAll. -/
namespace Go.Proofs.Ytpffhemmjigfaaa
open Go.RowKit Go.Shelf

attribute [local go_sem] Oper.semAt_some

/-- Three lists of a state, each in memory of its own at B and above, sharing nothing. -/
def Own3 (B : Nat) (W : World) (x : SS) (o i b : Value) : Prop := W.ownsRow B 5 1 o x.out.length (x.out.map bv) ∧ W.ownsRow B 5 1 i x.inn.length (x.inn.map bv) ∧ W.ownsRow B 5 1 b x.back.length (x.back.map bv) ∧ Ap3 o i b
theorem Own3.lt {B : Nat} {W : World} {x : SS} {o i b : Value} (h : Own3 B W x o i b) : (∀ k, o.ownBlock = some k → B ≤ k ∧ k < W.heap.size) ∧ (∀ k, i.ownBlock = some k → B ≤ k ∧ k < W.heap.size) ∧ ∀ k, b.ownBlock = some k → B ≤ k ∧ k < W.heap.size := ⟨h.1.lt, h.2.1.lt, h.2.2.1.lt⟩
theorem Own3.mono {B B' : Nat} {W : World} {x : SS} {o i b : Value} (h : Own3 B W x o i b) (hB : B' ≤ B) : Own3 B' W x o i b := ⟨owns_mono h.1 hB, owns_mono h.2.1 hB, owns_mono h.2.2.1 hB, h.2.2.2⟩
theorem Own3.turned {B : Nat} {P : Nat → Prop} {W W' : World} {x : SS} {o i b : Value} (h : Own3 B W x o i b) (hT : Turned P W W') (hS : ∀ k, B ≤ k → k < W.heap.size → ¬ P k) : Own3 B W' x o i b :=
  ⟨owns_turned h.1 hT fun k e => hS k (h.1.lt k e).1 (h.1.lt k e).2, owns_turned h.2.1 hT fun k e => hS k (h.2.1.lt k e).1 (h.2.1.lt k e).2, owns_turned h.2.2.1 hT fun k e => hS k (h.2.2.1.lt k e).1 (h.2.2.1.lt k e).2, h.2.2.2⟩
theorem Own3.below {B : Nat} {W W' : World} {x : SS} {o i b : Value} (h : Own3 B W x o i b) (hB : Below W.heap.size W W') : Own3 B W' x o i b := ⟨owns_below h.1 hB, owns_below h.2.1 hB, owns_below h.2.2.1 hB, h.2.2.2⟩
theorem Own3.sin {B : Nat} {W : World} {x : SS} {o i b : Value} (h : Own3 B W x o i b) : SIn W (fun k => B ≤ k ∧ k < W.heap.size) x o i b :=
  ⟨Sl.own h.1, Sl.own h.2.1, Sl.own h.2.2.1, fun k e => h.1.lt k e, fun k e => h.2.1.lt k e, fun k e => h.2.2.1.lt k e⟩
/-- The bytes that were got again are turned: Dir, End. -/
theorem st_turn (w : World) (g : Nat) (x : SS) (o i b : Value) (h : StAt w g x o i b) : StAt ((w.setCell ⟨g, 7, none⟩ (.int .i64 1)).setCell ⟨g, 8, none⟩ (.bool false)) g { x with dir := 1, fin := false } o i b ∧ Turned (fun k => k = g) w ((w.setCell ⟨g, 7, none⟩ (.int .i64 1)).setCell ⟨g, 8, none⟩ (.bool false)) := by
  have e0 := Go.heap_setCell_same _ g 7 _ _ (.int .i64 1) h
  simp only [List.setIfInBounds_toArray, List.set_cons_zero, List.set_cons_succ] at e0
  have e1 := Go.heap_setCell_same _ g 8 _ _ (.bool false) e0
  simp only [List.setIfInBounds_toArray, List.set_cons_zero, List.set_cons_succ] at e1
  exact ⟨e1, ((Turned.refl (fun k => k = g) w).set (.inl rfl)).set (.inl rfl)⟩
theorem st_back (w : World) (g : Nat) (x y : SS) (o i b b' : Value) (h : StAt w g x o i b) (e : y = { x with back := y.back }) : StAt (w.setCell ⟨g, 6, none⟩ b') g y o i b' := by
  have e0 := Go.heap_setCell_same _ g 6 _ _ b' h
  simp only [List.setIfInBounds_toArray, List.set_cons_zero, List.set_cons_succ] at e0
  rw [e]
  exact e0
/-- A row of bytes does not lie in a state's block. -/
theorem StAt.not_row {W : World} {g : Nat} {x : SS} {o i b : Value} (h : StAt W g x o i b) {base k : Nat} {v : Value} {xs : List Value} (hr : W.ownsRow base 5 1 v k xs) : v.ownBlock ≠ some g := by
  intro e
  rcases hr.2 with ⟨rfl, _⟩ | ⟨g', cap, cur, rfl, _, hgb, _⟩
  · simp [Value.ownBlock] at e
  · obtain rfl : g' = g := by simpa [Value.ownBlock] using e
    have := (show W.heap[g']? = _ from h).symm.trans hgb
    simp at this
/-- Where the loop stands: what was pushed back so far. -/
def PbJ (g B : Nat) (x : SS) (o i b0 : Value) (w0 : World) (Bt : Nat) (tv : Value) (pre : List UInt8) (W : World) : Prop :=
  ∃ v, StAt W g { x with back := x.back ++ pre } o i v ∧ W.ownsRow B 5 1 v (x.back ++ pre).length ((x.back ++ pre).map bv) ∧ (∀ k, v.ownBlock = some k → b0.ownBlock = some k ∨ w0.heap.size ≤ k) ∧ Boxed W Bt 22 tv ∧ Turned (fun k => k = g ∨ b0.ownBlock = some k) w0 W
theorem pbJ_own (g B : Nat) (x : SS) (o i b0 : Value) (w0 : World) (Bt : Nat) (tv : Value) : OwnFrom w0.heap.size (PbJ g B x o i b0 w0 Bt tv) := by
  rintro s X Y row ⟨v, h1, h2, h3, h4, h5⟩ hg hr
  refine ⟨v, (hg.block g h1.lt fun e' => ?_).trans h1, h2.kept hg ?_, h3, h4.kept hg fun e' => ?_, h5.grown hg fun k e => .inr (hr k e).1⟩
  · obtain ⟨-, o, ho, hc⟩ := hr g e'.symm
    rw [show X.heap[g]? = _ from h1] at ho; cases ho; cases hc
  · rcases h2.2 with ⟨rfl, _⟩ | ⟨g', cap, cur, rfl, _, hgb, _⟩
    · exact .inl rfl
    · refine .inr fun e' => ?_
      obtain ⟨-, o, ho, hc⟩ := hr g' (by simpa [Value.ownBlock] using e'.symm)
      rw [hgb] at ho; cases ho; cases hc
  · obtain ⟨-, o, ho, hc⟩ := hr Bt e'.symm
    rw [show X.heap[Bt]? = _ from h4] at ho; cases ho; cases hc
/-- One byte more. -/
theorem PbJ.next {g B : Nat} {x : SS} {o i b0 : Value} {w0 : World} {Bt : Nat} {tv : Value} {pre : List UInt8} {W w1 : World} {c : UInt8} {v v' : Value} {tmp : Obj}
    (h1 : StAt W g { x with back := x.back ++ pre } o i v) (h2 : W.ownsRow B 5 1 v (x.back ++ pre).length ((x.back ++ pre).map bv)) (h3 : ∀ k, v.ownBlock = some k → b0.ownBlock = some k ∨ w0.heap.size ≤ k) (h4 : Boxed W Bt 22 tv) (h5 : Turned (fun k => k = g ∨ b0.ownBlock = some k) w0 W)
    (hBt : Bt ≠ g) (hown : w1.ownsRow B 5 1 v' ((x.back ++ pre).length + 1) ((x.back ++ pre).map bv ++ [bv c])) (hgrow : (W.alloc tmp).grownBy w1 v.ownBlock) (hv' : v'.ownBlock = v.ownBlock ∨ v'.ownBlock = some (W.alloc tmp).heap.size) :
    StAt w1 g { x with back := x.back ++ pre } o i v ∧ PbJ g B x o i b0 w0 Bt tv (pre ++ [c]) (w1.setCell ⟨g, 6, none⟩ v') ∧ KeepsOthers W (w1.setCell ⟨g, 6, none⟩ v') := by
  have hz0 := h5.size
  have hs0 : (W.alloc tmp).heap.size = W.heap.size + 1 := World.size_alloc _ _
  have g1 : StAt (W.alloc tmp) g { x with back := x.back ++ pre } o i v := h1.below ((Below.refl _ W).alloc (Nat.le_refl _) tmp)
  have g2 : StAt w1 g { x with back := x.back ++ pre } o i v := (hgrow.block g g1.lt fun e => h1.not_row h2 e.symm).trans g1
  refine ⟨g2, ⟨v', st_back w1 g _ _ o i v v' g2 rfl, ?_, ?_, ?_, ?_⟩, ?_⟩
  · have := owns_turned hown ((Turned.refl (fun k => k = g) w1).set (j := 6) (u := v') (.inl rfl)) (fun k e e' => g2.not_row hown (e' ▸ e))
    rw [← List.append_assoc]
    simpa [Nat.add_assoc] using this
  · intro k e
    rcases hv' with h | h
    · exact h3 k (h ▸ e)
    · rw [h] at e
      cases e
      right; omega
  · have hb := ((h4.alloc tmp).kept hgrow fun e => h4.not_row (by decide) h2 e)
    exact hb.kept ⟨rfl, rfl, rfl, by simp [World.setCell], fun k _ hk => Below.heap_setCell _ _ _ k (fun e => hk (by rw [e]))⟩ (fun e => hBt (by cases e; rfl))
  · refine Turned.set ?_ (.inl (.inl rfl))
    refine Turned.grown (wr := W.alloc tmp) ?_ hgrow fun k e => ?_
    · exact h5.grown (World.grownBy_alloc W tmp none) (fun k e => by cases e)
    · rcases h3 k e with h | h
      · exact .inl (.inr h)
      · exact .inr h
  · refine ((KeepsOthers.alloc W tmp).trans (KeepsOthers.of_grownBy hgrow fun j ob ej hj => ?_)).trans (KeepsOthers.setCell _ _ _)
    rcases (h2.alloc tmp).2 with ⟨rfl, _⟩ | ⟨g', cap, cur, rfl, _, hgb, _⟩
    · simp [Value.ownBlock] at ej
    · obtain rfl : g' = j := by simpa [Value.ownBlock] using ej
      rw [hgb] at hj; cases hj; rfl
set_option maxRecDepth 100000 in
set_option maxHeartbeats 8000000 in
theorem pungetAll_in (f : Nat) (hf : 3 ≤ f) (x : SS) (o i b : Value) (P : Nat → Prop) (ta : Option Addr) (tc : Nat) (t : List UInt8) (w : World) (h : SIn w P x o i b) (ho : x.out.length ≤ 140737488351232) (hi : x.inn.length ≤ 140737488351232) (hb : x.back.length ≤ 140737488351232) (hby : Bys w (.slice ta t.length tc) t) (htl : t.length ≤ 140737488351232) :
    CallsIn Fence.wide f Try.prog 11 #[.agg #[.bool x.rd, .bool x.wt, .int .i64 x.mode, .int .i64 x.size, o, i, b, .int .i64 x.dir, .bool x.fin, .bool x.bad, .bool x.closed], .slice ta t.length tc] w fun e w' => ∃ o' i' b', e = .returned (.tuple #[.agg #[.bool (x.unget t).1.rd, .bool (x.unget t).1.wt, .int .i64 (x.unget t).1.mode, .int .i64 (x.unget t).1.size, o', i', b', .int .i64 (x.unget t).1.dir, .bool (x.unget t).1.fin, .bool (x.unget t).1.bad, .bool (x.unget t).1.closed], .int .i64 (x.unget t).2]) ∧ Own3 w.heap.size w' (x.unget t).1 o' i' b' ∧ Below w.heap.size w w' := by
  have h1 : 1 ≤ f := by omega
  obtain ⟨i0, hi0, hz0, hz1, hz2⟩ := info_parts Try.infoB
  have HCp := hide (fun W (hW : Below w.heap.size w W) => pcopied_any x o i b P W (h.below hW) ho hi hb)
  obtain ⟨oa, oc, rfl, -⟩ := h.so
  obtain ⟨ia, ic, rfl, -⟩ := h.si
  obtain ⟨ba, bc, rfl, -⟩ := h.sb
  clear h
  have HPu := hide (fun (pa qa ra : Option Addr) (pc qc rc : Nat) W => ppush_any x t.length pa qa ra pc qc rc W hi hb)
  generalize hq : x.unget t = q
  obtain ⟨qx, qe⟩ := q
  unfold SS.unget at hq
  have HBy := hide hby
  clear hby
  refine callsIn_of_wp_marks Try.func11 rfl trivial ?_ rfl
  simp only [Try.ntmps11, List.size_toArray, List.length_cons, List.length_nil, Nat.reduceAdd, Nat.reduceSub, Array.replicate_succ, Array.replicate_zero, List.push_toArray, List.append_toArray, List.nil_append, List.cons_append]
  gi_wp2
  have HB0 := hide ((recv_below w (Obj.cells #[.bool x.rd, .bool x.wt, .int .i64 x.mode, .int .i64 x.size, .slice oa x.out.length oc, .slice ia x.inn.length ic, .slice ba x.back.length bc, .int .i64 x.dir, .bool x.fin, .bool x.bad, .bool x.closed] 25)).trans ((recv_below (w.alloc (Obj.cells #[.bool x.rd, .bool x.wt, .int .i64 x.mode, .int .i64 x.size, .slice oa x.out.length oc, .slice ia x.inn.length ic, .slice ba x.back.length bc, .int .i64 x.dir, .bool x.fin, .bool x.bad, .bool x.closed] 25)) (Obj.cells #[.bool false, .bool false, .int .i64 0, .int .i64 0, .slice none 0 0, .slice none 0 0, .slice none 0 0, .int .i64 0, .bool false, .bool false, .bool false] 25)).mono (recv_below w (Obj.cells #[.bool x.rd, .bool x.wt, .int .i64 x.mode, .int .i64 x.size, .slice oa x.out.length oc, .slice ia x.inn.length ic, .slice ba x.back.length bc, .int .i64 x.dir, .bool x.fin, .bool x.bad, .bool x.closed] 25)).size))
  have HS0 := hide ((StAt.new w x (.slice oa x.out.length oc) (.slice ia x.inn.length ic) (.slice ba x.back.length bc)).below (recv_below _ (Obj.cells #[.bool false, .bool false, .int .i64 0, .int .i64 0, .slice none 0 0, .slice none 0 0, .slice none 0 0, .int .i64 0, .bool false, .bool false, .bool false] 25)))
  have HZ0 : Hid (((w.alloc (Obj.cells #[.bool x.rd, .bool x.wt, .int .i64 x.mode, .int .i64 x.size, .slice oa x.out.length oc, .slice ia x.inn.length ic, .slice ba x.back.length bc, .int .i64 x.dir, .bool x.fin, .bool x.bad, .bool x.closed] 25)).alloc (Obj.cells #[.bool false, .bool false, .int .i64 0, .int .i64 0, .slice none 0 0, .slice none 0 0, .slice none 0 0, .int .i64 0, .bool false, .bool false, .bool false] 25)).heap[w.heap.size + 1]? = some (Obj.cells #[.bool false, .bool false, .int .i64 0, .int .i64 0, .slice none 0 0, .slice none 0 0, .slice none 0 0, .int .i64 0, .bool false, .bool false, .bool false] 25)) := hide (by have := heap_alloc_new (w.alloc (Obj.cells #[.bool x.rd, .bool x.wt, .int .i64 x.mode, .int .i64 x.size, .slice oa x.out.length oc, .slice ia x.inn.length ic, .slice ba x.back.length bc, .int .i64 x.dir, .bool x.fin, .bool x.bad, .bool x.closed] 25)) (Obj.cells #[.bool false, .bool false, .int .i64 0, .int .i64 0, .slice none 0 0, .slice none 0 0, .slice none 0 0, .int .i64 0, .bool false, .bool false, .bool false] 25); rw [show (w.alloc (Obj.cells #[.bool x.rd, .bool x.wt, .int .i64 x.mode, .int .i64 x.size, .slice oa x.out.length oc, .slice ia x.inn.length ic, .slice ba x.back.length bc, .int .i64 x.dir, .bool x.fin, .bool x.bad, .bool x.closed] 25)).heap.size = w.heap.size + 1 from Array.size_push ..] at this; exact this)
  generalize (w.alloc (Obj.cells #[.bool x.rd, .bool x.wt, .int .i64 x.mode, .int .i64 x.size, .slice oa x.out.length oc, .slice ia x.inn.length ic, .slice ba x.back.length bc, .int .i64 x.dir, .bool x.fin, .bool x.bad, .bool x.closed] 25)).alloc (Obj.cells #[.bool false, .bool false, .int .i64 0, .int .i64 0, .slice none 0 0, .slice none 0 0, .slice none 0 0, .int .i64 0, .bool false, .bool false, .bool false] 25) = w0 at *
  have hz0' : w.heap.size + 1 < w0.heap.size := (Array.getElem?_eq_some_iff.1 HZ0.out).1
  refine ⟨trivial, (callsIn_wide.2 (HCp.out _ HB0.out)).mono ?_⟩
  rintro _ w1 ⟨o1, i1, b1, rfl, y1, y2, y3, hB1, hAp⟩
  obtain ⟨a1, k1, rfl⟩ := owns_slice y1
  obtain ⟨a2, k2, rfl⟩ := owns_slice y2
  obtain ⟨a3, k3, rfl⟩ := owns_slice y3
  have hz1' := hB1.size
  have hst := HS0.out.below hB1
  have HZ1 := hide ((hB1.block (w.heap.size + 1) hz0').trans HZ0.out)
  have HB1 := hide (HB0.out.trans (hB1.mono HB0.out.size))
  have HY1 : Hid (Own3 w0.heap.size w1 x (.slice a1 x.out.length k1) (.slice a2 x.inn.length k2) (.slice a3 x.back.length k3)) := hide ⟨y1, y2, y3, hAp⟩
  obtain ⟨e1, e2⟩ := st_fill2 w1 w.heap.size x x _ _ _ (.slice a1 x.out.length k1) (.slice a2 x.inn.length k2) (.slice a3 x.back.length k3) hst
  have HS2 := hide e1
  have HT2 := hide e2
  obtain ⟨c0, c1, c2, c3, c4, c5, c6, c7, c8, c9, c10⟩ := hst.cs
  have f0 := hst.soft 0
  have f1 := hst.soft 1
  have f2 := hst.soft 2
  have f3 := hst.soft 3
  have f4 := hst.soft 4
  have f5 := hst.soft 5
  have f6 := hst.soft 6
  have f7 := hst.soft 7
  have f8 := hst.soft 8
  have f9 := hst.soft 9
  have f10 := hst.soft 10
  unfold filled at HS2 HT2
  clear y1 y2 y3 hAp hB1 HS0 HZ0 HB0 e1 e2 hst HCp
  gi_wp2
  generalize (((((((((((w1.setCell ⟨w.heap.size, 0, none⟩ (.bool x.rd)).setCell ⟨w.heap.size, 1, none⟩ (.bool x.wt)).setCell ⟨w.heap.size, 2, none⟩ (.int .i64 x.mode)).setCell ⟨w.heap.size, 3, none⟩ (.int .i64 x.size)).setCell ⟨w.heap.size, 4, none⟩ (.slice a1 x.out.length k1)).setCell ⟨w.heap.size, 5, none⟩ (.slice a2 x.inn.length k2)).setCell ⟨w.heap.size, 6, none⟩ (.slice a3 x.back.length k3)).setCell ⟨w.heap.size, 7, none⟩ (.int .i64 x.dir)).setCell ⟨w.heap.size, 8, none⟩ (.bool x.fin)).setCell ⟨w.heap.size, 9, none⟩ (.bool x.bad)).setCell ⟨w.heap.size, 10, none⟩ (.bool x.closed)) = w2 at *
  clear c0 c1 c2 c3 c4 c5 c6 c7 c8 c9 c10 f0 f1 f2 f3 f4 f5 f6 f7 f8 f9 f10
  have hz2' := HT2.out.size
  have HY2 := hide (HY1.out.turned HT2.out (fun k e1 e2 e => by have e' : k = w.heap.size := e; omega))
  have HZ2 := hide ((HT2.out.block (w.heap.size + 1) (by omega) (by omega)).trans HZ1.out)
  have HB2 := hide (HB1.out.trans (HT2.out.below (B := w.heap.size) (fun k e => by have e' : k = w.heap.size := e; omega) HB1.out.size))
  clear HY1 HZ1 HB1 HT2
  refine ⟨trivial, (callsIn_wide.2 (HPu.out _ _ _ _ _ _ _)).mono ?_⟩
  rintro _ w3 ⟨rfl, hB3⟩
  have hz3 := hB3.size
  have HS3 := hide (HS2.out.below hB3)
  have HY3 := hide (HY2.out.below hB3)
  have HZ3 := hide ((hB3.block (w.heap.size + 1) (by omega)).trans HZ2.out)
  have HB3 := hide (HB2.out.trans (hB3.mono HB2.out.size))
  have HBy3 := hide (HBy.out.below HB3.out)
  clear HY2 HZ2 HB2 HS2 hB3 HPu
  obtain ⟨nw, hnw⟩ : ∃ nw, nw = x.noPush t.length := ⟨_, rfl⟩
  rw [← hnw] at hq ⊢
  have HNw := hide hnw
  clear hnw
  by_cases hr : nw ≠ 0 ∨ t = []
  case pos =>
    rw [if_pos hr] at hq
    obtain ⟨rfl, rfl⟩ : x = qx ∧ nw = qe := by simpa using hq
    have hst := HS3.out
    have HZe := hide (st_fill w3 (w.heap.size + 1) x (.slice a1 x.out.length k1) (.slice a2 x.inn.length k2) (.slice a3 x.back.length k3) HZ3.out)
    obtain ⟨c0, c1, c2, c3, c4, c5, c6, c7, c8, c9, c10⟩ := hst.cs
    have f0 := frozen_of_row w3 (w.heap.size + 1) 0 _ _ HZ3.out
    have f1 := frozen_of_row w3 (w.heap.size + 1) 1 _ _ HZ3.out
    have f2 := frozen_of_row w3 (w.heap.size + 1) 2 _ _ HZ3.out
    have f3 := frozen_of_row w3 (w.heap.size + 1) 3 _ _ HZ3.out
    have f4 := frozen_of_row w3 (w.heap.size + 1) 4 _ _ HZ3.out
    have f5 := frozen_of_row w3 (w.heap.size + 1) 5 _ _ HZ3.out
    have f6 := frozen_of_row w3 (w.heap.size + 1) 6 _ _ HZ3.out
    have f7 := frozen_of_row w3 (w.heap.size + 1) 7 _ _ HZ3.out
    have f8 := frozen_of_row w3 (w.heap.size + 1) 8 _ _ HZ3.out
    have f9 := frozen_of_row w3 (w.heap.size + 1) 9 _ _ HZ3.out
    have f10 := frozen_of_row w3 (w.heap.size + 1) 10 _ _ HZ3.out
    have d0 := cell_of_row w3 (w.heap.size + 1) 0 _ _ _ HZ3.out
    have d1 := cell_of_row w3 (w.heap.size + 1) 1 _ _ _ HZ3.out
    have d2 := cell_of_row w3 (w.heap.size + 1) 2 _ _ _ HZ3.out
    have d3 := cell_of_row w3 (w.heap.size + 1) 3 _ _ _ HZ3.out
    have d4 := cell_of_row w3 (w.heap.size + 1) 4 _ _ _ HZ3.out
    have d5 := cell_of_row w3 (w.heap.size + 1) 5 _ _ _ HZ3.out
    have d6 := cell_of_row w3 (w.heap.size + 1) 6 _ _ _ HZ3.out
    have d7 := cell_of_row w3 (w.heap.size + 1) 7 _ _ _ HZ3.out
    have d8 := cell_of_row w3 (w.heap.size + 1) 8 _ _ _ HZ3.out
    have d9 := cell_of_row w3 (w.heap.size + 1) 9 _ _ _ HZ3.out
    have d10 := cell_of_row w3 (w.heap.size + 1) 10 _ _ _ HZ3.out
    simp at d0 d1 d2 d3 d4 d5 d6 d7 d8 d9 d10
    clear hq hst
    have fin : ∀ W, StAt W (w.heap.size + 1) x (.slice a1 x.out.length k1) (.slice a2 x.inn.length k2) (.slice a3 x.back.length k3) ∧ Turned (fun k => k = w.heap.size + 1) w3 W → Own3 w.heap.size W x (.slice a1 x.out.length k1) (.slice a2 x.inn.length k2) (.slice a3 x.back.length k3) ∧ Below w.heap.size w W := fun W hW =>
      ⟨((HY3.out.turned hW.2 (fun k e1 e2 e => by have e' : k = w.heap.size + 1 := e; omega))).mono (by omega), HB3.out.trans (hW.2.below (fun k e => by have e' : k = w.heap.size + 1 := e; omega) HB3.out.size)⟩
    have HFin := hide fin
    clear fin
    by_cases h0 : nw = 0
    · subst h0
      have ht0 : t = [] := hr.resolve_left (by simp)
      subst ht0
      clear hr
      gi_wp2
      refine ⟨_, res_two rfl _ (w.heap.size + 1) rfl x _ _ _ HZe.out.1, _, _, _, rfl, HFin.out _ HZe.out⟩
    · have h0b : (nw == 0) = false := by simp [h0]
      have h0c : (nw != 0) = true := by simp [h0]
      clear hr
      gi_wp2
      refine ⟨_, res_two rfl _ (w.heap.size + 1) rfl x _ _ _ HZe.out.1, _, _, _, rfl, HFin.out _ HZe.out⟩
  rw [if_neg hr] at hq
  obtain ⟨rfl, rfl⟩ : ({ x with back := x.back ++ t.reverse, dir := 1, fin := false } : SS) = qx ∧ (0 : Int) = qe := by simpa using hq
  have hn0 : nw = 0 := by omega
  subst hn0
  have ht0 : t ≠ [] := fun e => hr (.inr e)
  clear hr hq
  have hm := noPush_may HNw.out.symm
  have hbl : x.back.length + t.length ≤ 8 := by have := hm.2.2.2; omega
  have htp : 0 < t.length := List.length_pos_iff.2 ht0
  have htb : ((t.length : Int) == 0) = false := by simp; omega
  have ht1 : ¬ (t.length : Int) = 0 := by omega
  clear hm ht0 HNw
  gi_wp2
  refine ⟨trivial, (beh_in _ _ ta t.length tc rfl _).mono ?_⟩
  rintro _ w4 ⟨rfl, hw4⟩
  have hB4 : Below w3.heap.size w3 w4 := by rw [hw4]; exact (Below.refl _ w3).alloc (Nat.le_refl _) _
  have bt : Boxed w4 w3.heap.size 22 (.slice ta t.length tc) := by rw [hw4]; exact Boxed.new _ _ _
  have hz4 : w4.heap.size = w3.heap.size + 1 := by rw [hw4]; exact World.size_alloc _ _
  have HS4 := hide (HS3.out.below hB4)
  have HY4 := hide (HY3.out.below hB4)
  have HZ4 := hide ((hB4.block (w.heap.size + 1) (by omega)).trans HZ3.out)
  have HB4 := hide (HB3.out.trans (hB4.mono HB3.out.size))
  have HBy4 := hide (HBy3.out.below hB4)
  clear hw4 hB4 HS3 HY3 HZ3 HB3 HBy3
  have hob : ∀ k, (Value.slice ta t.length tc).ownBlock = some k → 0 < t.length → k < w.heap.size := fun k e h0 => by
    obtain ⟨-, qb, qo, rfl, hl, -⟩ := bys_block HBy.out h0
    cases e
    exact hl
  gi_wp2
  refine wpIn_rangeFunc_ownG rfl h1 (gf := 53) (lb := #[.pointer (some ⟨w3.heap.size, 0, none⟩)]) rfl trivial (enters_of Try.func53 (by kernel_rfl) rfl)
    (beh_stops (f - 1) (by omega) w3.heap.size ta tc t htl w4 (by omega) bt.cell HBy4.out) (fun h1 h2 => ⟨h2.1.trans h1.1, fun h => h2.2 (h1.2 h)⟩)
    (fun W l o o' hl _ _ _ => ⟨bcell_putObj (by omega), fun h => bys_put h hob (by omega)⟩) (Below.refl _ _) (fun _ => rfl)
    (PbJ w.heap.size w.heap.size x (.slice a1 x.out.length k1) (.slice a2 x.inn.length k2) (.slice a3 x.back.length k3) w4 w3.heap.size (.slice ta t.length tc))
    (fun _ _ _ => False)
    (pbJ_own _ _ _ _ _ _ _ _ _)
    (fun _ _ _ _ _ hs _ _ => hs)
    ⟨_, by simpa using HS4.out, by simpa using owns_mono HY4.out.2.2.1 (show w.heap.size ≤ w0.heap.size by omega), fun k e => .inl e, bt, Turned.refl _ _⟩
    ?a1 ?assign ?body ?done ?stop
  case assign =>
    intro l x W K hK
    have HK := hide hK
    clear hK
    gi_wp2
    exact HK.out
  case body =>
    rintro l pre c W ⟨v, g1, g2, g3, g4, g5⟩ hlt'
    have hzW := g5.size
    have hlen : (x.back ++ pre).length ≤ 8 + t.length := by rw [List.length_append]; omega
    obtain ⟨v', w5, hrun, HO, hgrow, hloc⟩ := run_append_bytes (W.alloc (Obj.cells #[.int .u8 (c.toNat : Int)] 5)) 22 w.heap.size v (.slice (some ⟨W.heap.size, 0, none⟩) 1 1) (x.back ++ pre) [c] (g2.alloc _) (pone_bys W c) (by simp only [List.length_cons, List.length_nil]; omega) (by rw [World.size_alloc]; omega)
    have HO' : w5.ownsRow w.heap.size 5 1 v' ((x.back ++ pre).length + 1) ((x.back ++ pre).map bv ++ [bv c]) := by
      have := HO.out
      rw [List.length_append, List.map_append] at this
      exact this
    obtain ⟨n1, n2, n3⟩ := PbJ.next g1 g2 g3 g4 g5 (by omega) HO' hgrow hloc
    obtain ⟨u, m1, m2, m3, m4, m5⟩ := n2
    have HN2 := hide (show PbJ _ _ _ _ _ _ _ _ _ (pre ++ [c]) _ from ⟨u, m1, m2, m3, m4, m5⟩)
    have HKp : Hid (BehKp w3.heap.size (.slice ta t.length tc) t W (w5.setCell ⟨w.heap.size, 6, none⟩ v')) := hide ⟨m4.cell.trans g4.cell.symm, fun _ => HBy.out.below (HB4.out.trans (m5.below (B := w.heap.size) (fun k e => by
      rcases e with e | e
      · omega
      · have := HY4.out.lt.2.2 k e; omega) HB4.out.size))⟩
    have HN3 := hide n3
    have HRun := hide hrun
    have c6 := g1.cs.2.2.2.2.2.2.1
    have p6 := n1.cs.2.2.2.2.2.2.1
    have s6 := n1.soft 6
    obtain ⟨va, vc, rfl⟩ := owns_slice g2
    obtain ⟨ua, uc, rfl⟩ := owns_slice HO'
    clear n1 n3 m1 m2 m3 m4 m5 hrun hgrow hloc g1 g2 g3 g4 g5 HO HO'
    generalize (x.back ++ pre).length = L at *
    gi_wp2_with (gi_at_builtin; refine wpListIn_append_run _ rfl _ _ _ _ rfl _ _ rfl rfl _ _ HRun.out ?_)
    exact ⟨HN3.out.from _, HKp.out, HN2.out⟩
  case done =>
    rintro D ys W hD rfl ⟨v, g1, g2, g3, g4, g5⟩ hK
    have hzW := g5.size
    obtain ⟨va, vc, rfl⟩ := owns_slice g2
    obtain ⟨e1, e2⟩ := st_turn W w.heap.size _ _ _ _ g1
    have hZW : W.heap[w.heap.size + 1]? = some (Obj.cells #[.bool false, .bool false, .int .i64 0, .int .i64 0, .slice none 0 0, .slice none 0 0, .slice none 0 0, .int .i64 0, .bool false, .bool false, .bool false] 25) := (g5.block (w.heap.size + 1) (by omega) (fun e => by
      rcases e with e | e
      · omega
      · have := HY4.out.lt.2.2 _ e; omega)).trans HZ4.out
    have hZ5 := (e2.block (w.heap.size + 1) (by omega) (by omega)).trans hZW
    obtain ⟨q1, q2⟩ := st_fill _ (w.heap.size + 1) { x with back := x.back ++ t.reverse, dir := 1, fin := false } (.slice a1 x.out.length k1) (.slice a2 x.inn.length k2) (.slice va (x.back ++ t.reverse).length vc) hZ5
    have hT6 := ((e2.mono fun k e => (.inl e : k = w.heap.size ∨ k = w.heap.size + 1 ∨ k = D)).trans (q2.mono fun k e => (.inr (.inl e) : k = w.heap.size ∨ k = w.heap.size + 1 ∨ k = D)) (fun _ _ e => e))
    have hDl : D < W.heap.size := (Array.getElem?_eq_some_iff.1 hK).1
    have hK5 := (e2.block D hDl (by omega)).trans hK
    have hK6 := (q2.block D (Nat.lt_of_lt_of_le hDl e2.size) (by omega)).trans hK5
    have HT7 := hide (hT6.grown (grownBy_putObj' _ D (.deferred none)) (fun k e => .inl (.inr (.inr (by cases e; rfl)))))
    have HS7 := hide ((World.putObj_heap_other (o := .deferred none) (show w.heap.size + 1 ≠ D by omega)).trans q1)
    have HK6 := hide hK6
    have hy := HY4.out
    have ho5 := owns_turned hy.1 g5 (fun k e e' => by
      rcases e' with e' | e'
      · have := hy.lt.1 k e; omega
      · exact (hy.2.2.2.1 k e).2 e')
    have hi5 := owns_turned hy.2.1 g5 (fun k e e' => by
      rcases e' with e' | e'
      · have := hy.lt.2.1 k e; omega
      · exact hy.2.2.2.2 k e e')
    have far : ∀ k, w0.heap.size ≤ k → k < w4.heap.size → ¬ (k = w.heap.size ∨ k = w.heap.size + 1 ∨ k = D) := fun k h1 h2 e => by omega
    have HO7 : Hid (Own3 w.heap.size _ { x with back := x.back ++ t.reverse, dir := 1, fin := false } (.slice a1 x.out.length k1) (.slice a2 x.inn.length k2) (.slice va (x.back ++ t.reverse).length vc)) := hide
      ⟨owns_mono (owns_turned ho5 HT7.out (fun k e => far k (hy.lt.1 k e).1 (hy.lt.1 k e).2)) (by omega), owns_mono (owns_turned hi5 HT7.out (fun k e => far k (hy.lt.2.1 k e).1 (hy.lt.2.1 k e).2)) (by omega), owns_turned g2 HT7.out (fun k e e' => by
        have hn := g1.not_row g2
        rcases e' with e' | e' | e'
        · exact hn (e' ▸ e)
        · rcases g3 k e with h | h
          · have := hy.lt.2.2 k h; omega
          · omega
        · rcases g2.2 with ⟨h, _⟩ | ⟨g', cap, cur, h, _, hgb, _⟩
          · rw [h] at e; simp [Value.ownBlock] at e
          · rw [h] at e
            obtain rfl : g' = k := by simpa [Value.ownBlock] using e
            subst e'
            rw [hgb] at hK
            cases hK), fun k e => ⟨(hy.2.2.2.1 k e).1, fun e' => by
          rcases g3 k e' with h | h
          · exact (hy.2.2.2.1 k e).2 h
          · have := hy.lt.1 k e; omega⟩, fun k e e' => by
          rcases g3 k e' with h | h
          · exact hy.2.2.2.2 k e h
          · have := hy.lt.2.1 k e; omega⟩
    have HB7 := hide (HB4.out.trans ((g5.below (B := w.heap.size) (fun k e => by
      rcases e with e | e
      · omega
      · have := hy.lt.2.2 k e; omega) HB4.out.size).trans (HT7.out.below (B := w.heap.size) (fun k e => by rcases e with e | e | e <;> omega) (by omega))))
    obtain ⟨c0, c1, c2, c3, c4, c5, c6, c7, c8, c9, c10⟩ := g1.cs
    have s7 := g1.soft 7
    have s8 := g1.soft 8
    have f0 := frozen_of_row W (w.heap.size + 1) 0 _ _ hZW
    have f1 := frozen_of_row W (w.heap.size + 1) 1 _ _ hZW
    have f2 := frozen_of_row W (w.heap.size + 1) 2 _ _ hZW
    have f3 := frozen_of_row W (w.heap.size + 1) 3 _ _ hZW
    have f4 := frozen_of_row W (w.heap.size + 1) 4 _ _ hZW
    have f5 := frozen_of_row W (w.heap.size + 1) 5 _ _ hZW
    have f6 := frozen_of_row W (w.heap.size + 1) 6 _ _ hZW
    have f7 := frozen_of_row W (w.heap.size + 1) 7 _ _ hZW
    have f8 := frozen_of_row W (w.heap.size + 1) 8 _ _ hZW
    have f9 := frozen_of_row W (w.heap.size + 1) 9 _ _ hZW
    have f10 := frozen_of_row W (w.heap.size + 1) 10 _ _ hZW
    have d0 := cell_of_row W (w.heap.size + 1) 0 _ _ _ hZW
    have d1 := cell_of_row W (w.heap.size + 1) 1 _ _ _ hZW
    have d2 := cell_of_row W (w.heap.size + 1) 2 _ _ _ hZW
    have d3 := cell_of_row W (w.heap.size + 1) 3 _ _ _ hZW
    have d4 := cell_of_row W (w.heap.size + 1) 4 _ _ _ hZW
    have d5 := cell_of_row W (w.heap.size + 1) 5 _ _ _ hZW
    have d6 := cell_of_row W (w.heap.size + 1) 6 _ _ _ hZW
    have d7 := cell_of_row W (w.heap.size + 1) 7 _ _ _ hZW
    have d8 := cell_of_row W (w.heap.size + 1) 8 _ _ _ hZW
    have d9 := cell_of_row W (w.heap.size + 1) 9 _ _ _ hZW
    have d10 := cell_of_row W (w.heap.size + 1) 10 _ _ _ hZW
    simp only at d0 d1 d2 d3 d4 d5 d6 d7 d8 d9 d10 c0 c1 c2 c3 c4 c5 c6 c7 c8 c9 c10
    simp at d0 d1 d2 d3 d4 d5 d6 d7 d8 d9 d10
    clear g1 g2 g3 g4 g5 e1 e2 hZW hZ5 q1 q2 hT6 hK5 hK6 hy ho5 hi5 far hob HBy HBy4 HY4 HZ4 HS4
    generalize (x.back ++ t.reverse).length = L at *
    gi_wp2
    refine ⟨by simp, .inl ⟨_, _, rfl, run_takeDeferred HK6.out, ?_⟩⟩
    exact ⟨_, res_two rfl _ (w.heap.size + 1) rfl ({ x with back := x.back ++ t.reverse, dir := 1, fin := false } : SS) (.slice a1 x.out.length k1) (.slice a2 x.inn.length k2) (.slice va L vc) HS7.out, _, _, _, rfl, HO7.out, HB7.out⟩
  case stop =>
    rintro D c pre W _ _ h _
    exact h.elim
end Go.Proofs.Ytpffhemmjigfaaa

/- Bytes pushed back: Held, Unget. -/
namespace Go.Proofs.Ytpffhemmjigfaaa
open Go.RowKit Go.Shelf

attribute [local go_sem] Oper.semAt_some

set_option maxRecDepth 100000 in
set_option maxHeartbeats 8000000 in
theorem pheld_in (f : Nat) (hf : 3 ≤ f) (x : SS) (o i b : Value) (P : Nat → Prop) (w : World) (h : SIn w P x o i b) (hi : x.inn.length ≤ 140737488351232) (hb : x.back.length ≤ 140737488351232) :
    CallsIn Fence.wide f Try.prog 13 #[.agg #[.bool x.rd, .bool x.wt, .int .i64 x.mode, .int .i64 x.size, o, i, b, .int .i64 x.dir, .bool x.fin, .bool x.bad, .bool x.closed]] w fun e w' => ∃ v, e = .returned (.tuple #[v, .int .i64 (x.refuse true)]) ∧ w'.ownsRow w.heap.size 5 1 v x.heldL.length (x.heldL.map bv) ∧ Below w.heap.size w w' := by
  have h1 : 1 ≤ f := by omega
  obtain ⟨i0, hi0, hz0, hz1, hz2⟩ := info_parts Try.infoB
  have HI := hide (fun W (hW : Below w.heap.size w W) => h.below hW)
  obtain ⟨oa, oc, rfl, -⟩ := h.so
  obtain ⟨ia, ic, rfl, -⟩ := h.si
  obtain ⟨ba, bc, rfl, hbb, -⟩ := h.sb
  have HRf := hide (prefusal_any x oa ia ba oc ic bc · hi hb)
  have HBb := hide hbb
  have HBi := hide (show Bys w (.slice ia x.inn.length ic) x.inn from by obtain ⟨_, _, e, h2, -⟩ := h.si; cases e; exact h2)
  clear h hbb
  have hLq : x.heldL = if x.refuse true ≠ 0 then [] else x.back.reverse ++ x.inn := rfl
  generalize x.heldL = L at *
  obtain ⟨q, hqq⟩ : ∃ q, q = x.refuse true := ⟨_, rfl⟩
  rw [← hqq] at hLq HRf ⊢
  have HQ := hide hqq
  clear hqq
  refine callsIn_of_wp_marks Try.func13 rfl trivial ?_ rfl
  simp only [Try.ntmps13, List.size_toArray, List.length_cons, List.length_nil, Nat.reduceAdd, Nat.reduceSub, Array.replicate_succ, Array.replicate_zero, List.push_toArray, List.append_toArray, List.nil_append, List.cons_append]
  gi_wp2
  have HB0 := hide (recv_below w (Obj.cells #[.bool x.rd, .bool x.wt, .int .i64 x.mode, .int .i64 x.size, .slice oa x.out.length oc, .slice ia x.inn.length ic, .slice ba x.back.length bc, .int .i64 x.dir, .bool x.fin, .bool x.bad, .bool x.closed] 25))
  have HS0 := hide (StAt.new w x (.slice oa x.out.length oc) (.slice ia x.inn.length ic) (.slice ba x.back.length bc))
  generalize w.alloc (Obj.cells #[.bool x.rd, .bool x.wt, .int .i64 x.mode, .int .i64 x.size, .slice oa x.out.length oc, .slice ia x.inn.length ic, .slice ba x.back.length bc, .int .i64 x.dir, .bool x.fin, .bool x.bad, .bool x.closed] 25) = w0 at *
  refine ⟨trivial, (callsIn_wide.2 (HRf.out _)).mono ?_⟩
  rintro _ w1 ⟨rfl, hB1⟩
  have HS1 := hide (HS0.out.below hB1)
  have HB1 := hide (HB0.out.trans (hB1.mono HB0.out.size))
  have hz1' := hB1.size
  have hg1 : w.heap.size < w1.heap.size := HS1.out.lt
  clear hB1 HS0 HB0 HRf
  by_cases hq : q = 0
  case neg =>
    rw [if_pos hq] at hLq
    subst hLq
    have hq2 : (q == 0) = false := by simp [hq]
    have hq3 : (q != 0) = true := by simp [hq]
    gi_wp2
    exact ⟨_, by simp [results, Try.f13, go_sem], _, rfl, World.ownsRow_nil _ _ _ _, HB1.out⟩
  subst hq
  have hmay := may_buf (refuse_may HQ.out.symm).1
  rw [if_neg (by simp)] at hLq
  have HL := hide hLq
  clear hLq
  have hbl : x.back.length ≤ 8 := hmay.2.2.2.2.2.2.2
  have hil : x.inn.length ≤ 65536 := hmay.2.2.2.2.2.2.1
  clear hmay hi hb
  have c6 := HS1.out.cs.2.2.2.2.2.2.1
  have c5 := HS1.out.cs.2.2.2.2.2.1
  gi_wp2_with (gi_at_make; refine wpListIn_make_own _ rfl _ _ 22 rfl w1.heap.size 5 i0 (.int .u8 0) 1 Try.underlying22 hi0 hz0 hz1 _ _ _ (x.back.length + x.inn.length) rfl rfl (by omega) (by rw [hz2]; omega) (by unfold maxLen; omega) (Nat.le_refl _) ?_; intro w2 hown2 hgrow2; have hB2 : Below w1.heap.size w1 w2 := (Below.refl _ _).grown hgrow2 (Nat.le_refl _) (fun j e => by cases e); have HS3 := hide ((HS1.out.below hB2).below (recv_below w2 (Obj.cells #[.slice (some ⟨w1.heap.size, 0, none⟩) 0 (x.back.length + x.inn.length)] 22))); have c6' := HS3.out.cs.2.2.2.2.2.2.1; have c5' := HS3.out.cs.2.2.2.2.2.1)
  have bO := Boxed.new w2 22 (.slice (some ⟨w1.heap.size, 0, none⟩) 0 (x.back.length + x.inn.length))
  have HO3 := hide (hown2.alloc (Obj.cells #[.slice (some ⟨w1.heap.size, 0, none⟩) 0 (x.back.length + x.inn.length)] 22))
  have hB3 := hB2.trans ((recv_below w2 (Obj.cells #[.slice (some ⟨w1.heap.size, 0, none⟩) 0 (x.back.length + x.inn.length)] 22)).mono hB2.size)
  have hz2' := hB2.size
  have hz3 : (w2.alloc (Obj.cells #[.slice (some ⟨w1.heap.size, 0, none⟩) 0 (x.back.length + x.inn.length)] 22)).heap.size ≤ w2.heap.size + 1 ∧ w2.heap.size + 1 ≤ (w2.alloc (Obj.cells #[.slice (some ⟨w1.heap.size, 0, none⟩) 0 (x.back.length + x.inn.length)] 22)).heap.size := by rw [World.size_alloc]; omega
  have HBO := hide bO
  have HB3 := hide hB3
  clear hown2 hgrow2 hB2 bO hB3
  generalize w2.alloc (Obj.cells #[.slice (some ⟨w1.heap.size, 0, none⟩) 0 (x.back.length + x.inn.length)] 22) = w3 at *
  refine ⟨trivial, (beh_in _ _ ba x.back.length bc rfl _).mono ?_⟩
  rintro _ w4 ⟨rfl, hw4⟩
  have hB4 : Below w3.heap.size w3 w4 := by rw [hw4]; exact (Below.refl _ w3).alloc (Nat.le_refl _) _
  have bt : Boxed w4 w3.heap.size 22 (.slice ba x.back.length bc) := by rw [hw4]; exact Boxed.new _ _ _
  have hz4 : w4.heap.size = w3.heap.size + 1 := by rw [hw4]; exact World.size_alloc _ _
  have bO4 : Boxed w4 w2.heap.size 22 (.slice (some ⟨w1.heap.size, 0, none⟩) 0 (x.back.length + x.inn.length)) := (hB4.block _ (by omega)).trans HBO.out
  have hO4 := owns_below HO3.out hB4
  have HB4 := hide (HB3.out.trans (hB4.mono HB3.out.size))
  have hBb4 : Bys w4 (.slice ba x.back.length bc) x.back := HBb.out.below (HB1.out.trans (HB4.out.mono HB1.out.size))
  have hob : ∀ k, (Value.slice ba x.back.length bc).ownBlock = some k → 0 < x.back.length → k < w.heap.size := fun k e h0 => by
    obtain ⟨-, qb, qo, rfl, hl, -⟩ := bys_block HBb.out h0
    cases e
    exact hl
  clear hw4 hB4 c6 c5 c6' c5' HBO HO3 HB3
  gi_wp2
  refine wpIn_rangeFunc_ownG rfl h1 (gf := 53) (lb := #[.pointer (some ⟨w3.heap.size, 0, none⟩)]) rfl trivial (enters_of Try.func53 (by kernel_rfl) rfl)
    (beh_stops (f - 1) (by omega) w3.heap.size ba bc x.back (by omega) w4 (by omega) bt.cell hBb4) (fun h1 h2 => ⟨h2.1.trans h1.1, fun h => h2.2 (h1.2 h)⟩)
    (fun W l o o' hl _ _ _ => ⟨bcell_putObj (by omega), fun h => bys_put h hob (by omega)⟩) (Below.refl _ _) (fun _ => rfl)
    (fun (pre : List UInt8) W => ((∃ v, Boxed W w2.heap.size 22 v ∧ W.ownsRow w1.heap.size 5 1 v pre.length (pre.map bv) ∧ True) ∧ Boxed W w3.heap.size 22 (.slice ba x.back.length bc)) ∧ Below w1.heap.size w1 W)
    (fun _ _ _ => False)
    (OwnFrom.and (OwnFrom.and (Own.from (holdsRow_own w1.heap.size w2.heap.size 22 5 1 (fun pre : List UInt8 => pre.length) (fun pre => pre.map bv) (fun _ _ => True)) _) (Own.from (boxed_own _ _ _) _)) (ownFrom_below (Nat.le_refl _) (by omega)))
    (fun _ _ _ _ _ hs _ _ => hs)
    ⟨⟨⟨_, bO4, hO4, trivial⟩, bt⟩, HB4.out⟩
    ?a1 ?assign ?body ?done ?stop
  case assign =>
    intro l x W K hK
    have HK := hide hK
    clear hK
    gi_wp2
    exact HK.out
  case body =>
    rintro l pre c W ⟨⟨⟨v, hv, hrow, -⟩, hbt⟩, hB⟩ hlt'
    have hc := hv.cell
    have hpl : (pre.map bv).length = pre.length := List.length_map _
    have hzW := hB.size
    have hbz := hv.lt
    have hbw := hbt.lt
    clear bt bO4 hO4 hBb4
    gi_wp2_with (gi_at_builtin; refine wpListIn_append_own _ rfl _ _ 22 rfl w1.heap.size 5 i0 (.int .u8 0) 1 1 Try.underlying22 hi0 hz0 hz1 hz2 rfl (by decide) _ _ _ rfl (hrow.alloc _) ⟨W.heap.size, 0, none⟩ 1 1 [.int .u8 (c.toNat : Int)] rfl rfl (cell_one_new _ _ _) (by simp [Value.oneCell']) (by unfold maxLen; omega) (by omega) (by simp; omega) ?_; intro v' w5 hown' hgrow _; obtain ⟨g', cap', rfl⟩ := ownsRow_succ hown'; have hgrow' : (W.alloc (.cells #[.int .u8 (c.toNat : Int)] 5)).grownBy w5 v.ownBlock := hgrow; obtain ⟨hv1, hv2, hr2, hk2, hb2⟩ := hv.appended (by decide) hrow hzW (by omega) hown' hgrow'; have hc1 := hv1.cell; have hf1 := hv1.frozen)
    have hbt1 := ((hbt.alloc (.cells #[.int .u8 (c.toNat : Int)] 5)).kept hgrow' (hbt.not_row (by decide) hrow)).other (B' := w2.heap.size) (by omega) (.slice (some ⟨g', 0, none⟩) (pre.length + 1) cap')
    exact ⟨hk2.from _, ⟨hbt1.cell.trans hbt.cell.symm, fun _ => HBb.out.below (HB1.out.trans ((hB.trans hb2).mono HB1.out.size))⟩, ⟨⟨_, hv2, by simpa [bv] using hr2, trivial⟩, hbt1⟩, hB.trans hb2⟩
  case done =>
    rintro D ys W hD rfl ⟨⟨⟨v, hv, hrow, -⟩, hbt⟩, hB⟩ hK
    have hzW := hB.size
    have hSW := HS1.out.below hB
    have c5 := hSW.cs.2.2.2.2.2.1
    obtain ⟨m, hm, hml⟩ : ∃ m, m = x.back.reverse ∧ m.length = x.back.length := ⟨_, rfl, List.length_reverse⟩
    rw [← hm] at hrow
    rw [← hm] at HL
    obtain ⟨v', w6, hrun, HO, hgrow, hloc⟩ := run_append_bytes W 22 w1.heap.size v (.slice ia x.inn.length ic) m x.inn hrow (HBi.out.below (HB1.out.trans (hB.mono HB1.out.size))) (by omega) hzW
    have hc := hv.cell
    have hB6 : Below w1.heap.size w1 w6 := hB.grown hgrow hzW (fun k e => (hrow.lt k e).1)
    have hK6 : w6.heap[D]? = some (.deferred (some [])) := (hgrow.block D (Array.getElem?_eq_some_iff.1 hK).1 (fun e => by
      rcases hrow.2 with ⟨h, _⟩ | ⟨g', cap, cur, h, _, hgb, _⟩
      · rw [h] at e; simp [Value.ownBlock] at e
      · rw [h] at e
        obtain rfl : D = g' := by simpa [Value.ownBlock] using e
        rw [hgb] at hK
        cases hK)).trans hK
    have HK6 := hide hK6
    have HRun := hide hrun
    have HB6 := hide hB6
    have hO6 := HO.out
    rw [← HL.out] at hO6
    obtain ⟨va, vc, rfl⟩ := owns_slice hrow
    obtain ⟨ua, uc, rfl⟩ := owns_slice hO6
    have HO6 := hide hO6
    clear hm hml HL
    clear hv hrow hbt hB hSW hrun hgrow hloc HO hO6 hB6 hK6 hK bt bO4 hO4 hBb4
    generalize hLL : L.length = LL at *
    have HLL := hide hLL
    clear hLL
    generalize m.length = M at *
    gi_wp2_with (gi_at_builtin; refine wpListIn_append_run _ rfl _ _ _ _ rfl _ _ rfl rfl _ _ HRun.out ?_)
    refine ⟨by simp, .inl ⟨_, _, rfl, run_takeDeferred HK6.out, ?_⟩⟩
    refine ⟨_, by simp [results, Try.f13, go_sem]; rfl, _, rfl, by rw [HLL.out]; exact owns_mono (ownsRow_putObj HO6.out _ HK6.out rfl) HB1.out.size, ?_⟩
    exact HB1.out.trans ((HB6.out.trans (belowK_b (w := w1) (Nat.le_refl _) w6 D _ _ (by omega) HK6.out rfl rfl)).mono HB1.out.size)
  case stop =>
    rintro D c pre W _ _ h _
    exact h.elim
set_option maxRecDepth 100000 in
set_option maxHeartbeats 2000000 in
theorem punget_any (c : UInt8) (x : SS) (o i b : Value) (P : Nat → Prop) (w : World) (h : SIn w P x o i b) (ho : x.out.length ≤ 140737488351232) (hi : x.inn.length ≤ 140737488351232) (hb : x.back.length ≤ 140737488351232) :
    Calls Try.prog 9 #[.agg #[.bool x.rd, .bool x.wt, .int .i64 x.mode, .int .i64 x.size, o, i, b, .int .i64 x.dir, .bool x.fin, .bool x.bad, .bool x.closed], .int .u8 (c.toNat : Int)] w fun e w' => ∃ o' i' b', e = .returned (.tuple #[.agg #[.bool (x.unget [c]).1.rd, .bool (x.unget [c]).1.wt, .int .i64 (x.unget [c]).1.mode, .int .i64 (x.unget [c]).1.size, o', i', b', .int .i64 (x.unget [c]).1.dir, .bool (x.unget [c]).1.fin, .bool (x.unget [c]).1.bad, .bool (x.unget [c]).1.closed], .int .i64 (x.unget [c]).2]) ∧ Own3 w.heap.size w' (x.unget [c]).1 o' i' b' ∧ Below w.heap.size w w' := by
  have HU := hide (fun W (hW : Below w.heap.size w W) (a : Option Addr) (hc : Bys W (.slice a 1 1) [c]) => callsIn_wide.1 (pungetAll_in 3 (Nat.le_refl _) x o i b P a 1 [c] W (h.below hW) ho hi hb hc (by simp)))
  obtain ⟨oa, oc, rfl, -⟩ := h.so
  obtain ⟨ia, ic, rfl, -⟩ := h.si
  obtain ⟨ba, bc, rfl, -⟩ := h.sb
  clear h
  generalize x.unget [c] = q at *
  obtain ⟨y, e⟩ := q
  simp only [List.length_cons, List.length_nil, Nat.reduceAdd] at HU ⊢
  go_enter Try.func9, Try.ntmps9
  go_wp2_with fail
  have HB0 := hide ((recv_below w (Obj.cells #[.bool x.rd, .bool x.wt, .int .i64 x.mode, .int .i64 x.size, .slice oa x.out.length oc, .slice ia x.inn.length ic, .slice ba x.back.length bc, .int .i64 x.dir, .bool x.fin, .bool x.bad, .bool x.closed] 25)).trans ((recv_below (w.alloc (Obj.cells #[.bool x.rd, .bool x.wt, .int .i64 x.mode, .int .i64 x.size, .slice oa x.out.length oc, .slice ia x.inn.length ic, .slice ba x.back.length bc, .int .i64 x.dir, .bool x.fin, .bool x.bad, .bool x.closed] 25)) (Obj.cells #[.bool false, .bool false, .int .i64 0, .int .i64 0, .slice none 0 0, .slice none 0 0, .slice none 0 0, .int .i64 0, .bool false, .bool false, .bool false] 25)).mono (recv_below w (Obj.cells #[.bool x.rd, .bool x.wt, .int .i64 x.mode, .int .i64 x.size, .slice oa x.out.length oc, .slice ia x.inn.length ic, .slice ba x.back.length bc, .int .i64 x.dir, .bool x.fin, .bool x.bad, .bool x.closed] 25)).size))
  have HZ0 : Hid (((w.alloc (Obj.cells #[.bool x.rd, .bool x.wt, .int .i64 x.mode, .int .i64 x.size, .slice oa x.out.length oc, .slice ia x.inn.length ic, .slice ba x.back.length bc, .int .i64 x.dir, .bool x.fin, .bool x.bad, .bool x.closed] 25)).alloc (Obj.cells #[.bool false, .bool false, .int .i64 0, .int .i64 0, .slice none 0 0, .slice none 0 0, .slice none 0 0, .int .i64 0, .bool false, .bool false, .bool false] 25)).heap[w.heap.size + 1]? = some (Obj.cells #[.bool false, .bool false, .int .i64 0, .int .i64 0, .slice none 0 0, .slice none 0 0, .slice none 0 0, .int .i64 0, .bool false, .bool false, .bool false] 25)) := hide (by have := heap_alloc_new (w.alloc (Obj.cells #[.bool x.rd, .bool x.wt, .int .i64 x.mode, .int .i64 x.size, .slice oa x.out.length oc, .slice ia x.inn.length ic, .slice ba x.back.length bc, .int .i64 x.dir, .bool x.fin, .bool x.bad, .bool x.closed] 25)) (Obj.cells #[.bool false, .bool false, .int .i64 0, .int .i64 0, .slice none 0 0, .slice none 0 0, .slice none 0 0, .int .i64 0, .bool false, .bool false, .bool false] 25); rw [show (w.alloc (Obj.cells #[.bool x.rd, .bool x.wt, .int .i64 x.mode, .int .i64 x.size, .slice oa x.out.length oc, .slice ia x.inn.length ic, .slice ba x.back.length bc, .int .i64 x.dir, .bool x.fin, .bool x.bad, .bool x.closed] 25)).heap.size = w.heap.size + 1 from Array.size_push ..] at this; exact this)
  have hzz : ((w.alloc (Obj.cells #[.bool x.rd, .bool x.wt, .int .i64 x.mode, .int .i64 x.size, .slice oa x.out.length oc, .slice ia x.inn.length ic, .slice ba x.back.length bc, .int .i64 x.dir, .bool x.fin, .bool x.bad, .bool x.closed] 25)).alloc (Obj.cells #[.bool false, .bool false, .int .i64 0, .int .i64 0, .slice none 0 0, .slice none 0 0, .slice none 0 0, .int .i64 0, .bool false, .bool false, .bool false] 25)).heap.size = w.heap.size + 2 := by rw [World.size_alloc, World.size_alloc]
  rw [← hzz]
  generalize (w.alloc (Obj.cells #[.bool x.rd, .bool x.wt, .int .i64 x.mode, .int .i64 x.size, .slice oa x.out.length oc, .slice ia x.inn.length ic, .slice ba x.back.length bc, .int .i64 x.dir, .bool x.fin, .bool x.bad, .bool x.closed] 25)).alloc (Obj.cells #[.bool false, .bool false, .int .i64 0, .int .i64 0, .slice none 0 0, .slice none 0 0, .slice none 0 0, .int .i64 0, .bool false, .bool false, .bool false] 25) = w0 at *
  have HBc := hide (recv_below w0 (Obj.cells #[.int .u8 (c.toNat : Int)] 5))
  have HB1 := hide (HB0.out.trans (HBc.out.mono HB0.out.size))
  have HZ1 := hide ((HBc.out.block (w.heap.size + 1) (by omega)).trans HZ0.out)
  have HC := hide (pone_bys w0 c)
  have hzc := HBc.out.size
  generalize w0.alloc (Obj.cells #[.int .u8 (c.toNat : Int)] 5) = w1 at *
  refine (HU.out w1 HB1.out _ HC.out).mono ?_
  rintro _ w2 ⟨o2, i2, b2, rfl, hO, hB2⟩
  obtain ⟨a1, k1, rfl⟩ := owns_slice hO.1
  obtain ⟨a2, k2, rfl⟩ := owns_slice hO.2.1
  obtain ⟨a3, k3, rfl⟩ := owns_slice hO.2.2.1
  have hz2 := hB2.size
  have HZ2 := hide ((hB2.block (w.heap.size + 1) (by omega)).trans HZ1.out)
  obtain ⟨e1, e2⟩ := st_fill w2 (w.heap.size + 1) y (.slice a1 y.out.length k1) (.slice a2 y.inn.length k2) (.slice a3 y.back.length k3) HZ2.out
  have HE := hide e1
  have HF := hide (And.intro ((hO.turned e2 (fun k h1 h2 e => by have e' : k = w.heap.size + 1 := e; omega)).mono (show w.heap.size ≤ w1.heap.size by omega)) ((HB1.out.trans (hB2.mono HB1.out.size)).trans (e2.below (B := w.heap.size) (fun k e => by have e' : k = w.heap.size + 1 := e; omega) (by omega))))
  clear hO hB2 HU HB0 HZ0 HB1 HZ1 HC HBc e1 e2
  have f0 := frozen_of_row w2 (w.heap.size + 1) 0 _ _ HZ2.out
  have f1 := frozen_of_row w2 (w.heap.size + 1) 1 _ _ HZ2.out
  have f2 := frozen_of_row w2 (w.heap.size + 1) 2 _ _ HZ2.out
  have f3 := frozen_of_row w2 (w.heap.size + 1) 3 _ _ HZ2.out
  have f4 := frozen_of_row w2 (w.heap.size + 1) 4 _ _ HZ2.out
  have f5 := frozen_of_row w2 (w.heap.size + 1) 5 _ _ HZ2.out
  have f6 := frozen_of_row w2 (w.heap.size + 1) 6 _ _ HZ2.out
  have f7 := frozen_of_row w2 (w.heap.size + 1) 7 _ _ HZ2.out
  have f8 := frozen_of_row w2 (w.heap.size + 1) 8 _ _ HZ2.out
  have f9 := frozen_of_row w2 (w.heap.size + 1) 9 _ _ HZ2.out
  have f10 := frozen_of_row w2 (w.heap.size + 1) 10 _ _ HZ2.out
  have d0 := cell_of_row w2 (w.heap.size + 1) 0 _ _ _ HZ2.out
  have d1 := cell_of_row w2 (w.heap.size + 1) 1 _ _ _ HZ2.out
  have d2 := cell_of_row w2 (w.heap.size + 1) 2 _ _ _ HZ2.out
  have d3 := cell_of_row w2 (w.heap.size + 1) 3 _ _ _ HZ2.out
  have d4 := cell_of_row w2 (w.heap.size + 1) 4 _ _ _ HZ2.out
  have d5 := cell_of_row w2 (w.heap.size + 1) 5 _ _ _ HZ2.out
  have d6 := cell_of_row w2 (w.heap.size + 1) 6 _ _ _ HZ2.out
  have d7 := cell_of_row w2 (w.heap.size + 1) 7 _ _ _ HZ2.out
  have d8 := cell_of_row w2 (w.heap.size + 1) 8 _ _ _ HZ2.out
  have d9 := cell_of_row w2 (w.heap.size + 1) 9 _ _ _ HZ2.out
  have d10 := cell_of_row w2 (w.heap.size + 1) 10 _ _ _ HZ2.out
  simp at d0 d1 d2 d3 d4 d5 d6 d7 d8 d9 d10
  go_wp2
  refine bodyPost_ret (res_two rfl _ (w.heap.size + 1) rfl y _ _ _ HE.out) rfl ?_
  exact ⟨_, _, _, rfl, HF.out.1, HF.out.2⟩
end Go.Proofs.Ytpffhemmjigfaaa

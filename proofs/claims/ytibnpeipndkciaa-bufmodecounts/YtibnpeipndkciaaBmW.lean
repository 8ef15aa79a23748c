/- What bufmode.Writes answers, for every mode, size and text: how long the writes are, in memory of its own. -/
import Derived.Test.YtibnpeipndkciaaBmI
namespace Go.Proofs.Ytibnpeipndkciaa
open Go.RowKit Go.Shelf

attribute [local go_sem] Oper.semAt_some

/-- Numbers as cells. -/
def nvs (l : List Nat) : List Value := l.map fun i : Nat => Value.int .i64 (i : Int)
theorem bcell_putObj {W : World} {l : Nat} {o' : Obj} {b off : Nat} (h : b ≠ l) : (W.putObj l o').cell? ⟨b, off, none⟩ = W.cell? ⟨b, off, none⟩ := by
  simp only [World.cell?]
  rw [World.putObj_heap_other h]
theorem Try.infoI : (Try.prog.info? 3).map (fun i => (i.zero, i.size, i.bytes)) = some (some (.int .i64 0), 1, 8) := by kernel_rfl
theorem bys_put {W : World} {l : Nat} {o' : Obj} {v : Value} {t : List UInt8} {n0 : Nat} (h : Bys W v t) (hv : ∀ k, v.ownBlock = some k → 0 < t.length → k < n0) (hl : n0 ≤ l) : Bys (W.putObj l o') v t := by
  rcases h with h | h | ⟨b, off, cap, rfl, h0, hc⟩
  · exact .inl h
  · exact .inr (.inl h)
  · have := hv b rfl h0
    exact .inr (.inr ⟨b, off, cap, rfl, h0, fun j hj => (bcell_putObj (by omega)).trans (hc j hj)⟩)

set_option maxRecDepth 100000 in
set_option maxHeartbeats 4000000 in
theorem bwrites_in (f : Nat) (hf : 3 ≤ f) (mode size : Int) (ta : Option Addr) (tc : Nat) (t : List UInt8) (hok : bref mode size = 0) (htl : t.length ≤ 1048576) (htc : t.length ≤ tc) (w : World) (hb : Bys w (.slice ta t.length tc) t) :
    CallsIn Fence.wide f Try.prog 8 #[.int .i64 mode, .int .i64 size, .slice ta t.length tc] w fun e w' => ∃ v, e = .returned (.tuple #[v, .int .i64 0]) ∧ w'.ownsRow w.heap.size 3 1 v (rwr (decide (mode = 2)) (brm mode size).toNat 0 t).length (nvs (rwr (decide (mode = 2)) (brm mode size).toNat 0 t)) ∧ Below w.heap.size w w' := by
  have h1 : 1 ≤ f := by omega
  obtain ⟨i0, hi, hz0, hz1, hz2⟩ := info_parts Try.infoI
  have hmx : Try.prog.follows .mixedOrders = true := by kernel_rfl
  obtain ⟨q1, q2, q3, q4⟩ := bref_ok hok
  have hbm : 1 ≤ brm mode size ∧ brm mode size ≤ 65536 := by unfold brm; split <;> omega
  obtain ⟨m, hm⟩ : ∃ m : Nat, brm mode size = (m : Int) := ⟨(brm mode size).toNat, by omega⟩
  have hm1 : 1 ≤ m := by omega
  have hm2 : m ≤ 65536 := by omega
  have HLi := fun W => lengths_in (f - 1) (by omega) mode size ta t.length tc W
  rw [hm] at HLi
  have hmt : (brm mode size).toNat = m := by omega
  rw [hmt]
  have HLi := hide HLi
  have hle : ¬ (1048576 : Int) < (t.length : Int) := by omega
  have HBr := hide (fun W => bref_any mode size W)
  rw [hok] at HBr
  clear hm hmt hbm hok
  refine callsIn_of_wp_marks Try.func8 rfl trivial ?_ rfl
  simp only [Try.ntmps8, List.size_toArray, List.length_cons, List.length_nil, Nat.reduceAdd, Nat.reduceSub, Array.replicate_succ, Array.replicate_zero, List.push_toArray, List.append_toArray, List.nil_append, List.cons_append]
  gi_wp2
  refine ⟨trivial, (callsIn_wide.2 (HBr.out _)).mono ?_⟩
  rintro _ _ ⟨rfl, rfl⟩
  gi_wp2
  refine ⟨trivial, (HLi.out _).mono ?_⟩
  rintro _ W1 ⟨rfl, bk, bt, bm, hz, hB1⟩
  rw [World.size_alloc] at bk bt bm hz
  have bO := Boxed.new w 23 (.slice none 0 0)
  have bO1 : Boxed W1 w.heap.size 23 (.slice none 0 0) := (hB1.block _ bO.lt).trans bO
  have hB0 : Below w.heap.size w W1 := ((Below.refl _ w).alloc (Nat.le_refl _) _).trans (hB1.mono (by simp))
  have hob : ∀ k, (Value.slice ta t.length tc).ownBlock = some k → 0 < t.length → k < w.heap.size := fun k e h0 => by
    obtain ⟨-, qb, qo, rfl, hl, -⟩ := bys_block hb h0
    cases e
    exact hl
  have hRl := rwr_len_le (decide (mode = 2)) m t 0 (by omega)
  have hsz : (w.alloc (.cells #[.slice none 0 0] 23)).heap.size = w.heap.size + 1 := World.size_alloc _ _
  simp only [hsz]
  gi_wp2
  refine wpIn_rangeFunc_ownG rfl h1 (gf := 45) (lb := #[.pointer (some ⟨w.heap.size + 1 + 1, 0, none⟩), .pointer (some ⟨w.heap.size + 1 + 2, 0, none⟩), .pointer (some ⟨w.heap.size + 1, 0, none⟩)]) rfl trivial (enters_of Try.func45 (by kernel_rfl) rfl)
    (lengths_stops (f - 1) (by omega) (w.heap.size + 1 + 1) (w.heap.size + 1 + 2) (w.heap.size + 1) mode m ta tc t hm1 hm2 htc htl W1 (by omega) (by omega) (by omega) bt.cell bm.cell bk.cell (hb.below hB0)) (fun h1 h2 => ⟨h2.1.trans h1.1, h2.2.1.trans h1.2.1, h2.2.2.1.trans h1.2.2.1, fun h => h2.2.2.2 (h1.2.2.2 h)⟩)
    (fun W l o o' hl _ _ _ => ⟨bcell_putObj (by omega), bcell_putObj (by omega), bcell_putObj (by omega), fun h => bys_put h hob (by omega)⟩) (Below.refl _ _) (fun _ => rfl)
    (fun (pre : List Nat) W => ((((∃ v, Boxed W w.heap.size 23 v ∧ W.ownsRow (w.heap.size + 4) 3 1 v pre.length (nvs pre) ∧ True) ∧ Boxed W (w.heap.size + 1 + 1) 22 (.slice ta t.length tc)) ∧ Boxed W (w.heap.size + 1 + 2) 3 (.int .i64 m)) ∧ Boxed W (w.heap.size + 1) 3 (.int .i64 mode)) ∧ Below w.heap.size w W)
    (fun _ _ _ => False)
    (OwnFrom.and (OwnFrom.and (OwnFrom.and (OwnFrom.and (Own.from (holdsRow_own (w.heap.size + 4) w.heap.size 23 3 1 (fun pre : List Nat => pre.length) (fun pre => nvs pre) (fun _ _ => True)) _) (Own.from (boxed_own _ _ _) _)) (Own.from (boxed_own _ _ _) _)) (Own.from (boxed_own _ _ _) _)) (ownFrom_below (Nat.le_refl _) (by omega)))
    (fun _ _ _ _ _ hs _ _ => hs)
    ⟨⟨⟨⟨⟨_, bO1, World.ownsRow_nil _ _ _ _, trivial⟩, bt⟩, bm⟩, bk⟩, hB0⟩
    (fun x => { tmps := #[.int .i64 mode, .int .i64 size, .slice ta t.length tc, undef, undef, undef, .slice none 0 0, .int .i64 0, .int .i64 0, .pointer (some ⟨w.heap.size, 0, none⟩), .int .i64 (x : Int), .int .i64 mode, .int .i64 size, .int .i64 0, .int .i64 0, .bool false, undef, .slice ta t.length tc, .int .i64 t.length, .bool (decide ((1048576 : Int) < (t.length : Int))), .int .i64 mode, .int .i64 size, .slice ta t.length tc, .func (.func 45) #[] #[.pointer (some ⟨w.heap.size + 1 + 1, 0, none⟩), .pointer (some ⟨w.heap.size + 1 + 2, 0, none⟩), .pointer (some ⟨w.heap.size + 1, 0, none⟩)], .int .i64 (x : Int), undef, undef, undef, undef, undef], defers := [] }) ?assign ?body ?done ?stop
  case assign =>
    intro l x W K hK
    gi_wp2
    exact hK
  case body =>
    rintro l pre x W ⟨⟨⟨⟨⟨v, hv, hrow, -⟩, hbt⟩, hbm⟩, hbk⟩, hB⟩ hlt'
    have hc := hv.cell
    have hcA := fun o => (hv.alloc o).cell
    have hpl : (nvs pre).length = pre.length := List.length_map _
    have hpre : pre.length ≤ 1048577 := by omega
    have hrow0 := owns_mono hrow (show w.heap.size ≤ w.heap.size + 4 by omega)
    have hzW : w.heap.size + 4 ≤ W.heap.size := by have := hbm.lt; omega
    gi_wp2_with (gi_at_builtin; refine wpListIn_append_own _ rfl _ _ 23 rfl (w.heap.size + 4) 3 i0 (.int .i64 0) 1 8 Try.underlying23 hi hz0 hz1 hz2 rfl (by decide) _ _ _ rfl (hrow.alloc _) ⟨W.heap.size, 0, none⟩ 1 1 [.int .i64 (x : Int)] rfl rfl (cell_one_new _ _ _) (by simp [Value.oneCell']) (by unfold maxLen; omega) (by omega) (by simp; omega) ?_; intro v' w1 hown' hgrow _; obtain ⟨g', cap', rfl⟩ := ownsRow_succ hown'; have hgrow' : (W.alloc (.cells #[.int .i64 (x : Int)] 3)).grownBy w1 v.ownBlock := hgrow; obtain ⟨hv1, hv2, hr2, hk2, hb2⟩ := hv.appended (by decide) hrow0 hB.size (Nat.le_refl _) (owns_mono hown' (show w.heap.size ≤ w.heap.size + 4 by omega)) hgrow'; have hc1 := hv1.cell; have hf1 := hv1.frozen)
    have hr3 := hown'.kept (grownBy_setCell' w1 w.heap.size (.slice (some ⟨g', 0, none⟩) (pre.length + 1) cap')) (.inr (hv1.not_row (by decide) hown').symm)
    have hbt1 := ((hbt.alloc (.cells #[.int .i64 (x : Int)] 3)).kept hgrow' (hbt.not_row (by decide) hrow)).other (B' := w.heap.size) (by omega) (.slice (some ⟨g', 0, none⟩) (pre.length + 1) cap')
    have hbm1 := ((hbm.alloc (.cells #[.int .i64 (x : Int)] 3)).kept hgrow' (fun e => by have := (hrow.lt _ e.symm).1; omega)).other (B' := w.heap.size) (by omega) (.slice (some ⟨g', 0, none⟩) (pre.length + 1) cap')
    have hbk1 := ((hbk.alloc (.cells #[.int .i64 (x : Int)] 3)).kept hgrow' (fun e => by have := (hrow.lt _ e.symm).1; omega)).other (B' := w.heap.size) (by omega) (.slice (some ⟨g', 0, none⟩) (pre.length + 1) cap')
    exact ⟨hk2.from _, ⟨hbt1.cell.trans hbt.cell.symm, hbm1.cell.trans hbm.cell.symm, hbk1.cell.trans hbk.cell.symm, fun h => (hb.below (hB.trans hb2))⟩, ⟨⟨⟨⟨_, hv2, by simpa [nvs] using hr3, trivial⟩, hbt1⟩, hbm1⟩, hbk1⟩, hB.trans hb2⟩
  case done =>
    rintro D ys W hD rfl ⟨⟨⟨⟨⟨v, hv, hrow, -⟩, hbt⟩, hbm⟩, hbk⟩, hB⟩ hK
    have hc := hv.cell
    gi_wp2
    refine ⟨by simp, .inl ⟨_, _, rfl, run_takeDeferred hK, ?_⟩⟩
    refine ⟨.tuple #[v, .int .i64 0], ?_, v, rfl, owns_mono (ownsRow_putObj hrow _ hK rfl) (show w.heap.size ≤ w.heap.size + 4 by omega), hB.trans (belowK_b (w := w) (Nat.le_refl _) W D _ _ (by omega) hK rfl rfl)⟩
    simp [results, Try.f8, go_sem]
  case stop =>
    rintro D c pre W _ _ h _
    exact h.elim
end Go.Proofs.Ytibnpeipndkciaa

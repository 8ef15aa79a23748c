/- Parse, for any text. -/
import Derived.Test.YtnabnnckhdileaaFParse
namespace Go.Proofs.Ytnabnnckhdileaa
open Go.RowKit

/-- What Parse answers. -/
noncomputable def prs (s : ByteArray) : List Fault × Int × Int :=
  if 65536 < s.size then ([], 5, 0) else if 4096 < (sts s.data.toList s.size).length then ([], 3, 0)
  else if wb s (sts s.data.toList s.size) < (sts s.data.toList s.size).length then ([], 21, ((sts s.data.toList s.size).getD (wb s (sts s.data.toList s.size)) 0 : Nat))
  else ((sts s.data.toList s.size).map (fun a => (fat s a).1), 0, (s.size : Int))

theorem fls_end (s : ByteArray) (st : List Nat) : fls s st st.length = st.map fun a => (fat s a).1 := by simp [fls]
theorem fls_start (s : ByteArray) (st : List Nat) : fcs (fls s st 0) = (madeCells (Value.agg #[.int .i64 0, .int .i64 0]).cells (st.length * 2)).toList := by
  have h1 : fls s st 0 = List.replicate st.length (0, 0) := by simp [fls]
  rw [h1]
  have hz : (Value.agg #[.int .i64 0, .int .i64 0]).cells = #[Value.int .i64 0, Value.int .i64 0] := rfl
  rw [hz]
  apply List.ext_getElem?
  intro j
  by_cases hj : j < st.length * 2
  · have hk : j / 2 < (List.replicate st.length ((0, 0) : Fault)).length := by rw [List.length_replicate]; omega
    have hg : (List.replicate st.length ((0, 0) : Fault)).getD (j / 2) (0, 0) = (0, 0) := by
      rw [List.getD_eq_getElem?_getD, List.getElem?_eq_getElem hk, List.getElem_replicate]
      rfl
    have hl : (fcs (List.replicate st.length (0, 0)))[j]? = some (.int .i64 0) := by
      rcases Nat.mod_two_eq_zero_or_one j with hm | hm
      · rw [show j = j / 2 * 2 by omega, fcs_even _ _ hk, hg]
      · rw [show j = j / 2 * 2 + 1 by omega, fcs_odd _ _ hk, hg]
    rw [hl]
    rcases Nat.mod_two_eq_zero_or_one j with hm | hm <;> simp [madeCells, hj, hm]
  · rw [List.getElem?_eq_none (by rw [fcs_length, List.length_replicate]; omega), List.getElem?_eq_none (by rw [Array.length_toList, size_madeCells]; omega)]

set_option maxRecDepth 100000 in
set_option maxHeartbeats 1000000 in
theorem first_zero (f : Value) (w : World) : Calls Try.prog 24 #[.int .i64 0, f] w fun e w' => e = .returned (.int .i64 0) ∧ w' = w := by
  go_enter Try.func24, Try.ntmps24
  go_wp2
  go_loopw [5, 7] (fun _ i wr => i = .int .i64 0 ∧ wr = w) (fun _ _ _ => 0)
  case atStart => exact ⟨rfl, rfl⟩
  case round =>
    obtain ⟨rfl, rfl⟩ := hrel
    go_wp2
    go_ret
    exact ⟨rfl, rfl⟩

theorem ints_cells {W : World} {base g cap k : Nat} {l : List Nat} (h : W.ownsRow base 3 1 (.slice (some ⟨g, 0, none⟩) k cap) k (l.map iv)) :
    ∀ j, j < l.length → W.cell? ⟨g, j, none⟩ = some (iv (l.getD j 0)) := by
  intro j hj
  have hk : l.length = k := by simpa using h.1
  rw [h.cellAt j (by omega), List.getElem?_map, List.getElem?_eq_getElem hj, List.getD_eq_getElem?_getD, List.getElem?_eq_getElem hj]
  rfl

set_option maxRecDepth 100000 in
set_option maxHeartbeats 1000000 in
theorem parse_long (s : ByteArray) (hs : 65536 < s.size) (w : World) :
    Calls Try.prog 13 #[.string s] w fun e w' => e = .returned (.tuple #[.slice none 0 0, .int .i64 5, .int .i64 0]) ∧ Below w.heap.size w w' := by
  have hs' : (65536 : Int) < (s.size : Int) := by omega
  clear hs
  go_enter Try.func13, Try.ntmps13
  go_wp2
  go_ret3
  exact ⟨rfl, (Below.refl _ _).alloc (Nat.le_refl _) _⟩

set_option maxRecDepth 100000 in
set_option maxHeartbeats 1000000 in
theorem parse_many (s : ByteArray) (hs : s.size ≤ 65536) (hm : 4096 < (sts s.data.toList s.size).length) (w : World) :
    Calls Try.prog 13 #[.string s] w fun e w' => e = .returned (.tuple #[.slice none 0 0, .int .i64 3, .int .i64 0]) ∧ Below w.heap.size w w' := by
  have hs' : (s.size : Int) ≤ 65536 := by omega
  have HS := hide fun w => wordStarts_any s hs w
  generalize sts s.data.toList s.size = st at *
  have hm' : (4096 : Int) < (st.length : Int) := by omega
  clear hs hm
  go_enter Try.func13, Try.ntmps13
  go_wp2_with fail
  refine (HS.out _).mono ?_
  rintro e w2 ⟨v2, rfl, hown, hB⟩
  obtain ⟨a2, c2, rfl⟩ := owns_slice hown
  have hB0 := ((Below.refl w.heap.size w).alloc (Nat.le_refl _) (Obj.cells #[Value.string s] 9)).trans (hB.mono (Nat.le_of_lt (size_new _ _)))
  clear hown
  go_wp2
  go_ret3
  exact ⟨rfl, hB0.alloc hB0.size _⟩

theorem parse_below {w2 w4 : World} {o : Obj} (h : (w2.alloc o).grownBy w4 none) : Below (w2.heap.size + 1) (w2.alloc o) w4 := by
  have hs : (w2.alloc o).heap.size = w2.heap.size + 1 := by simp
  exact ⟨h.os, h.tape, h.output, h.size, fun k hk => h.block k (by omega) (by simp)⟩
theorem parse_cell2 {w2 w4 : World} {v : Value} {t : TypeId} {o : Obj} (h : Below (w2.heap.size + 1) (w2.alloc (Obj.cells #[v] t)) w4) : (w4.alloc o).cell? ⟨w2.heap.size, 0, none⟩ = some v := by
  have h1 := (h.cell (p := ⟨w2.heap.size, 0, none⟩) (Nat.lt_succ_self _)).trans (cell_new w2 v t)
  exact (World.cell?_of_block (w := w4) (Below.heap_alloc w4 o w2.heap.size (World.block_lt_of_cell? w4 _ h1))).trans h1
theorem parse_own {W : World} {base : Nat} {v : Value} {st : List Nat} (s : ByteArray) (h : W.ownsRow base 60 2 v st.length (madeCells (Value.agg #[.int .i64 0, .int .i64 0]).cells (st.length * 2)).toList) :
    W.ownsRow base 60 2 v st.length (fcs (fls s st 0)) := by rw [fls_start]; exact h

set_option maxRecDepth 100000 in
set_option maxHeartbeats 4000000 in
theorem parse_few (s : ByteArray) (hs : s.size ≤ 65536) (hm : (sts s.data.toList s.size).length ≤ 4096) (hp : 0 < (sts s.data.toList s.size).length) (w : World) :
    Calls Try.prog 13 #[.string s] w fun e w' => ∃ v, e = .returned (.tuple #[v, .int .i64 (prs s).2.1, .int .i64 (prs s).2.2]) ∧ Flts w' v (prs s).1 ∧ Below w.heap.size w w' := by
  have hs' : (s.size : Int) ≤ 65536 := by omega
  have HS := hide fun w => wordStarts_any s hs w
  have hpr : prs s = if wb s (sts s.data.toList s.size) < (sts s.data.toList s.size).length then (([], 21, (((sts s.data.toList s.size).getD (wb s (sts s.data.toList s.size)) 0 : Nat) : Int)) : List Fault × Int × Int) else ((sts s.data.toList s.size).map (fun a => (fat s a).1), 0, (s.size : Int)) := by
    unfold prs
    rw [if_neg (by omega), if_neg (by omega)]
  have HT : Hid (∀ a ∈ sts s.data.toList s.size, a ≤ s.size) := fun a ha => Nat.le_of_lt (sts_lt ha).1
  generalize sts s.data.toList s.size = st at *
  have hm' : (st.length : Int) ≤ 4096 := by omega
  obtain ⟨i0, hi, hz0, hz1, hz2⟩ := info_parts Try.infoF
  generalize prs s = R at *
  have HPR := hide hpr
  clear hpr
  go_enter Try.func13, Try.ntmps13
  go_wp2_with fail
  refine (HS.out _).mono ?_
  rintro e w2 ⟨v2, rfl, hown, hB⟩
  clear HS
  rcases hown.2 with ⟨hq, h0⟩ | ⟨b, cap2, cur2, rfl, hb2, hbk, -⟩
  · omega
  have hbl : b < w2.heap.size := (Array.getElem?_eq_some_iff.1 hbk).1
  have HC := hide (ints_cells hown)
  have hB0 := ((Below.refl w.heap.size w).alloc (Nat.le_refl _) (Obj.cells #[Value.string s] 9)).trans (hB.mono (Nat.le_of_lt (size_new _ _)))
  have h1 : w2.cell? ⟨w.heap.size, 0, none⟩ = some (.string s) := (hB.cell (p := ⟨w.heap.size, 0, none⟩) (size_new _ _)).trans (cell_new _ _ _)
  have H1 := hide h1
  clear hown hbk h1
  have hlt0 : w.heap.size < w2.heap.size := World.block_lt_of_cell? w2 _ H1.out
  go_wp2_with (at_make; refine wpList_make_full _ rfl _ _ 22 rfl (w2.heap.size + 1) 60 i0 (.agg #[.int .i64 0, .int .i64 0]) 2 Try.underlying22 hi hz0 hz1 _ _ _ _ st.length rfl rfl rfl rfl (by rw [hz2]; omega) (by unfold maxLen; omega) (by simp) ?_; intro w4 hown4 hgrow4; have hB4 := parse_below hgrow4; have hx2 := fun o => parse_cell2 (o := o) hB4; have hsz4 := hown4.lt _ rfl)
  have hs3 : (w2.alloc (Obj.cells #[Value.slice (some ⟨b, 0, none⟩) st.length cap2] 41)).heap.size = w2.heap.size + 1 := by simp
  rw [hs3] at hown4 hsz4
  have hz4 : w2.heap.size + 1 < w4.heap.size := hsz4.2
  have hx2' := hx2 (Obj.cells #[Value.slice (some ⟨w2.heap.size + 1, 0, none⟩) st.length st.length] 22)
  have h15 : (w4.alloc (Obj.cells #[Value.slice (some ⟨w2.heap.size + 1, 0, none⟩) st.length st.length] 22)).cell? ⟨w.heap.size, 0, none⟩ = some (.string s) :=
    (World.cell?_of_block (w := w4) (Below.heap_alloc w4 _ w.heap.size (by omega))).trans ((hB4.cell (p := ⟨w.heap.size, 0, none⟩) (by show w.heap.size < w2.heap.size + 1; omega)).trans ((World.cell?_of_block (w := w2) (Below.heap_alloc w2 _ w.heap.size hlt0)).trans H1.out))
  have hc5 : ∀ j, j < st.length → (w4.alloc (Obj.cells #[Value.slice (some ⟨w2.heap.size + 1, 0, none⟩) st.length st.length] 22)).cell? ⟨b, j, none⟩ = some (iv (st.getD j 0)) := fun j hj =>
    (World.cell?_of_block (w := w4) (Below.heap_alloc w4 _ b (by omega))).trans ((hB4.cell (p := ⟨b, j, none⟩) (by show b < w2.heap.size + 1; omega)).trans ((World.cell?_of_block (w := w2) (Below.heap_alloc w2 _ b hbl)).trans (HC.out j hj)))
  have hB04 : Below w.heap.size w (w4.alloc (Obj.cells #[Value.slice (some ⟨w2.heap.size + 1, 0, none⟩) st.length st.length] 22)) :=
    ((hB0.alloc hB0.size _).trans (hB4.mono (by omega))).alloc (by omega) _
  have h35 : (w4.alloc (Obj.cells #[Value.slice (some ⟨w2.heap.size + 1, 0, none⟩) st.length st.length] 22)).cell? ⟨w4.heap.size, 0, none⟩ = some (.slice (some ⟨w2.heap.size + 1, 0, none⟩) st.length st.length) := cell_new _ _ _
  have hF := first_parse s hs st HT.out w.heap.size w2.heap.size w4.heap.size b cap2 (w2.heap.size + 1) (w2.heap.size + 1) _ hm h15 hx2' h35 hc5 ((parse_own s hown4).alloc _) (by omega) (by omega) (by omega) (by omega)
  have HF := hide hF
  have H15 := hide h15
  have HX2 := hide hx2'
  have HC5 := hide hc5
  have H35 := hide h35
  clear hF h15 hx2' hc5 h35 hown4 hgrow4 hx2 HC H1 hB4
  generalize w4.alloc (Obj.cells #[Value.slice (some ⟨w2.heap.size + 1, 0, none⟩) st.length st.length] 22) = w5 at *
  refine HF.out.mono ?_
  rintro e w6 ⟨rfl, hown6, hG⟩
  have HO6 := hide hown6
  have e1 := hG.cell H15.out (by intro e; have := Option.some.inj e; simp only at this; omega)
  have e2 := hG.cell HX2.out (by intro e; have := Option.some.inj e; simp only at this; omega)
  have e3 := hG.cell H35.out (by intro e; have := Option.some.inj e; simp only at this; omega)
  have hB06 := hB04.grown hG hB04.size (fun k e => by cases e; omega)
  have hle := wb_le s st
  by_cases hw : wb s st < st.length
  · have e4 := hG.cell (HC5.out (wb s st) hw) (by intro e; have := Option.some.inj e; simp only at this; omega)
    simp only [iv] at e4
    have hw1 : (0 : Int) ≤ (wb s st : Int) := by omega
    have hw2 : (wb s st : Int) < (st.length : Int) := by omega
    have hR := HPR.out
    rw [if_pos hw] at hR
    generalize st.getD (wb s st) 0 = val at hR e4
    have HR := hide hR
    generalize wb s st = k at *
    clear hR HF hown6 HO6 H15 HX2 H35 HC5 hG HPR
    go_wp2
    go_quiet (fail)
    go_wp2
    go_ret3
    rw [HR.out]
    exact ⟨_, rfl, .inl ⟨rfl, rfl⟩, below_drewN hB06 _⟩
  · have hw' : wb s st = st.length := by omega
    have hO := HO6.out hw'
    rw [fls_end] at hO
    have HO := hide hO
    have hR := HPR.out
    rw [if_neg hw] at hR
    have HR := hide hR
    rw [hw']
    clear hR HF hown6 HO6 H15 HX2 H35 HC5 hG HPR hO
    go_wp2
    go_quiet (fail)
    go_wp2
    go_ret3
    rw [HR.out]
    refine ⟨_, rfl, ?_, below_drewN hB06 _⟩
    have hl : (st.map fun a => (fat s a).1).length = st.length := List.length_map _
    have hfl := Flts.of_owns (W := w6) (base := w2.heap.size + 1) (v := .slice (some ⟨w2.heap.size + 1, 0, none⟩) st.length st.length) (l := st.map fun a => (fat s a).1) (by rw [hl]; exact HO.out)
    exact hfl.below (below_drewN (Below.refl _ _) _)

set_option maxRecDepth 100000 in
set_option maxHeartbeats 4000000 in
theorem parse_none (s : ByteArray) (hs : s.size ≤ 65536) (hp : (sts s.data.toList s.size) = []) (w : World) :
    Calls Try.prog 13 #[.string s] w fun e w' => ∃ v, e = .returned (.tuple #[v, .int .i64 (prs s).2.1, .int .i64 (prs s).2.2]) ∧ Flts w' v (prs s).1 ∧ Below w.heap.size w w' := by
  have hs' : (s.size : Int) ≤ 65536 := by omega
  have HS := hide fun w => wordStarts_any s hs w
  have hpr : prs s = ([], 0, (s.size : Int)) := by
    unfold prs
    rw [hp, if_neg (by omega)]
    simp
  rw [hp] at HS
  rw [hpr]
  obtain ⟨i0, hi, hz0, hz1, hz2⟩ := info_parts Try.infoF
  clear hpr hp
  go_enter Try.func13, Try.ntmps13
  go_wp2_with fail
  refine (HS.out _).mono ?_
  rintro e w2 ⟨v2, rfl, hown, hB⟩
  clear HS
  obtain ⟨a2, cap2, rfl⟩ := owns_slice hown
  simp only [List.length_nil]
  have hB0 := ((Below.refl w.heap.size w).alloc (Nat.le_refl _) (Obj.cells #[Value.string s] 9)).trans (hB.mono (Nat.le_of_lt (size_new _ _)))
  have h1 : w2.cell? ⟨w.heap.size, 0, none⟩ = some (.string s) := (hB.cell (p := ⟨w.heap.size, 0, none⟩) (size_new _ _)).trans (cell_new _ _ _)
  have H1 := hide h1
  clear hown h1
  have hlt0 : w.heap.size < w2.heap.size := World.block_lt_of_cell? w2 _ H1.out
  go_wp2_with (at_make; refine wpList_make_full _ rfl _ _ 22 rfl (w2.heap.size + 1) 60 i0 (.agg #[.int .i64 0, .int .i64 0]) 2 Try.underlying22 hi hz0 hz1 _ _ _ _ 0 rfl rfl rfl rfl (by rw [hz2]; omega) (by unfold maxLen; omega) (by simp) ?_; intro w4 hown4 hgrow4; have hB4 := parse_below hgrow4; have hx2 := fun o => parse_cell2 (o := o) hB4; have hsz4 := hown4.lt _ rfl)
  have hs3 : (w2.alloc (Obj.cells #[Value.slice a2 0 cap2] 41)).heap.size = w2.heap.size + 1 := by simp
  rw [hs3] at hown4 hsz4
  have hz4 : w2.heap.size + 1 < w4.heap.size := hsz4.2
  have e2 := hx2 (Obj.cells #[Value.slice (some ⟨w2.heap.size + 1, 0, none⟩) 0 0] 22)
  have e1 : (w4.alloc (Obj.cells #[Value.slice (some ⟨w2.heap.size + 1, 0, none⟩) 0 0] 22)).cell? ⟨w.heap.size, 0, none⟩ = some (.string s) :=
    (World.cell?_of_block (w := w4) (Below.heap_alloc w4 _ w.heap.size (by omega))).trans ((hB4.cell (p := ⟨w.heap.size, 0, none⟩) (by show w.heap.size < w2.heap.size + 1; omega)).trans ((World.cell?_of_block (w := w2) (Below.heap_alloc w2 _ w.heap.size hlt0)).trans H1.out))
  have hB04 : Below w.heap.size w (w4.alloc (Obj.cells #[Value.slice (some ⟨w2.heap.size + 1, 0, none⟩) 0 0] 22)) :=
    ((hB0.alloc hB0.size _).trans (hB4.mono (by omega))).alloc (by omega) _
  have e3 : (w4.alloc (Obj.cells #[Value.slice (some ⟨w2.heap.size + 1, 0, none⟩) 0 0] 22)).cell? ⟨w4.heap.size, 0, none⟩ = some (.slice (some ⟨w2.heap.size + 1, 0, none⟩) 0 0) := cell_new _ _ _
  clear hown4 hgrow4 hx2 H1 hB4
  generalize w4.alloc (Obj.cells #[Value.slice (some ⟨w2.heap.size + 1, 0, none⟩) 0 0] 22) = w5 at *
  refine (first_zero _ _).mono ?_
  rintro e w6 ⟨rfl, rfl⟩
  go_wp2
  go_quiet (fail)
  go_wp2
  go_ret3
  exact ⟨_, rfl, .inr (.inl ⟨_, _, rfl, rfl⟩), below_drewN hB04 _⟩

theorem parse_any (s : ByteArray) (w : World) :
    Calls Try.prog 13 #[.string s] w fun e w' => ∃ v, e = .returned (.tuple #[v, .int .i64 (prs s).2.1, .int .i64 (prs s).2.2]) ∧ Flts w' v (prs s).1 ∧ Below w.heap.size w w' := by
  by_cases h1 : 65536 < s.size
  · rw [show prs s = ([], 5, 0) by unfold prs; rw [if_pos h1]]
    refine (parse_long s h1 w).mono ?_
    rintro e w' ⟨rfl, hB⟩
    exact ⟨_, rfl, .inl ⟨rfl, rfl⟩, hB⟩
  · by_cases h2 : 4096 < (sts s.data.toList s.size).length
    · rw [show prs s = ([], 3, 0) by unfold prs; rw [if_neg h1, if_pos h2]]
      refine (parse_many s (by omega) h2 w).mono ?_
      rintro e w' ⟨rfl, hB⟩
      exact ⟨_, rfl, .inl ⟨rfl, rfl⟩, hB⟩
    · by_cases h3 : (sts s.data.toList s.size).length = 0
      · exact parse_none s (by omega) (List.length_eq_zero_iff.1 h3) w
      · exact parse_few s (by omega) (by omega) (by omega) w
end Go.Proofs.Ytnabnnckhdileaa

/- What the proof stands on, part 3: the contracts of the program's calls that it reaches. -/
import Derived.Test.YtkkicbhmcjbmbaaGreatKM2
/- Check and the reference's Check, for any faults. -/
namespace Go.Proofs.YtkkicbhmcjbmbaaGreat
open Go.RowKit

/-- The number of the first fault that may not be. -/
def fb (l : List Fault) : Nat := l.findIdx fun x => !may x
theorem fb_le (l : List Fault) : fb l ≤ l.length := List.findIdx_le_length
theorem fb_at {l : List Fault} {k : Nat} (hk : k < l.length) (ha : ∀ j, j < k → may (l.getD j (0, 0)) = true) (hb : may (l.getD k (0, 0)) = false) : fb l = k := by
  unfold fb
  refine (List.findIdx_eq hk).2 ⟨?_, fun j hj => ?_⟩
  · rw [List.getD_eq_getElem?_getD, List.getElem?_eq_getElem hk] at hb
    simpa using hb
  · have := ha j hj
    rw [List.getD_eq_getElem?_getD, List.getElem?_eq_getElem (by omega)] at this
    simpa using this
theorem fb_all {l : List Fault} (ha : ∀ j, j < l.length → may (l.getD j (0, 0)) = true) : fb l = l.length := by
  unfold fb
  refine List.findIdx_eq_length.2 fun x hx => ?_
  obtain ⟨j, hj, rfl⟩ := List.getElem_of_mem hx
  have := ha j hj
  rw [List.getD_eq_getElem?_getD, List.getElem?_eq_getElem hj] at this
  simpa using this
theorem fb_good {l : List Fault} (h : fb l = l.length) : ∀ j, j < l.length → may (l.getD j (0, 0)) = true := by
  intro j hj
  have := List.findIdx_eq_length.1 h l[j] (List.getElem_mem hj)
  rw [List.getD_eq_getElem?_getD, List.getElem?_eq_getElem hj]
  simpa using this
/-- What Check answers. -/
def chk (l : List Fault) : Int × Int := if 4096 < l.length then (3, 0) else if fb l < l.length then (21, (fb l : Int)) else (0, (l.length : Int))
theorem chk_long {l : List Fault} (h : 4096 < l.length) : chk l = (3, 0) := by simp [chk, h]
theorem chk_bad {l : List Fault} (h : ¬ 4096 < l.length) (hb : fb l < l.length) : chk l = (21, (fb l : Int)) := by simp [chk, h, hb]
theorem chk_good {l : List Fault} (h : ¬ 4096 < l.length) (hb : fb l = l.length) : chk l = (0, (l.length : Int)) := by simp [chk, h, hb]

set_option maxRecDepth 100000 in
set_option maxHeartbeats 1000000 in
theorem rcheck_any (v : Value) (l : List Fault) (w : World) (h : Flts w v l) (hs : l.length ≤ maxLen) :
    Calls Tryz.prog 48 #[v] w fun e w' => e = .returned (.tuple #[.int .i64 (chk l).1, .int .i64 (chk l).2]) ∧ Below w.heap.size w w' := by
  unfold maxLen at hs
  obtain ⟨a1, c1, rfl, hc⟩ := flts_form h
  have HC := hide hc
  clear hc h
  by_cases hlong : 4096 < l.length
  · rw [chk_long hlong]
    go_enter Tryz.func48, Tryz.ntmps48
    go_wp2
    go_ret2
    exact ⟨rfl, Below.refl _ _⟩
  · generalize hR : chk l = R
    have HR := hide hR
    clear hR
    go_enter Tryz.func48, Tryz.ntmps48
    go_wp2
    go_loopw [4] (fun i wr => ∃ (k : Nat), k ≤ l.length ∧ i = .int .i64 k ∧ (∀ j, j < k → may (l.getD j (0, 0)) = true) ∧ Below w.heap.size w wr) (fun i _ => l.length - (intOf i).toNat)
    case atStart => exact ⟨0, Nat.zero_le _, rfl, fun j hj => absurd hj (by omega), Below.refl _ _⟩
    case round =>
      obtain ⟨k, hk, rfl, ha, hB⟩ := hrel
      have HA := hide ha
      clear ha
      by_cases hlt : k < l.length
      · obtain ⟨b1, o1, rfl, hc1⟩ := HC.out (by omega)
        obtain ⟨g1, g2⟩ := hc1 k hlt
        have hb1 := World.block_lt_of_cell? w _ g1
        have e1 := (hB.cell (p := ⟨b1, o1 + k * 2, none⟩) hb1).trans g1
        have e2 := (hB.cell (p := ⟨b1, o1 + k * 2 + 1, none⟩) hb1).trans g2
        clear hc1 HC g1 g2
        have hk1 : (0 : Int) ≤ (k : Int) := by omega
        have hk2 : (k : Int) < (l.length : Int) := by omega
        have hmay : ∃ x y, l.getD k (0, 0) = (x, y) := ⟨_, _, rfl⟩
        obtain ⟨x, y, hxy⟩ := hmay
        rw [hxy] at e1 e2
        simp only at e1 e2
        have HX := hide hxy
        clear hxy
        go_wp2_with fail
        refine (may_any x y _).mono ?_
        rintro e w1 ⟨rfl, hB1⟩
        have hB2 := hB.trans (hB1.mono hB.size)
        by_cases hm : may (x, y) = true
        · rw [hm]
          go_wp2
          go_roundw
          case rel =>
            refine ⟨k + 1, by omega, by go_num, fun j hj => ?_, hB2⟩
            by_cases hjk : j < k
            · exact HA.out j hjk
            · rw [show j = k by omega, HX.out]; exact hm
          case measure => simp [intOf]; omega
        · have hm' : may (x, y) = false := by simpa using hm
          rw [hm']
          clear hm
          go_wp2
          go_ret2
          have hfb : fb l = k := fb_at hlt HA.out (by rw [HX.out]; exact hm')
          rw [← HR.out, chk_bad hlong (by omega), hfb]
          exact ⟨rfl, hB2⟩
      · go_wp2
        go_ret2
        have hfb : fb l = l.length := fb_all fun j hj => HA.out j (by omega)
        rw [← HR.out, chk_good hlong hfb]
        exact ⟨rfl, hB⟩
end Go.Proofs.YtkkicbhmcjbmbaaGreat

/- Check of faults: the closure, first, Check. -/
namespace Go.Proofs.YtkkicbhmcjbmbaaGreat
open Go.RowKit

theorem cell_new (w : World) (x : Value) (t : TypeId) : (w.alloc (Obj.cells #[x] t)).cell? ⟨w.heap.size, 0, none⟩ = some x := by
  simp only [World.cell?, heap_alloc_new]
  rfl
set_option maxRecDepth 100000 in
set_option maxHeartbeats 1000000 in
theorem check1_any (c b off cap len k : Nat) (x y : Int) (w : World) (h1 : w.cell? ⟨c, 0, none⟩ = some (.slice (some ⟨b, off, none⟩) len cap)) (hk : k < len)
    (h2 : w.cell? ⟨b, off + k * 2, none⟩ = some (.int .i64 x)) (h3 : w.cell? ⟨b, off + k * 2 + 1, none⟩ = some (.int .i64 y)) :
    Calls Tryz.prog 132 #[.int .i64 k, .pointer (some ⟨c, 0, none⟩)] w fun e w' => e = .returned (.bool (!may (x, y))) ∧ Below w.heap.size w w' := by
  have hk1 : (0 : Int) ≤ (k : Int) := by omega
  have hk2 : (k : Int) < (len : Int) := by omega
  go_enter Tryz.func132, Tryz.ntmps132
  go_wp2_with fail
  refine (mayBe_any x y _).mono ?_
  rintro e w1 ⟨rfl, hB1⟩
  go_wp2
  go_ret
  exact ⟨rfl, hB1⟩

set_option maxRecDepth 100000 in
set_option maxHeartbeats 1000000 in
theorem first_check (c : Nat) (a1 : Option Addr) (c1 : Nat) (l : List Fault) (w : World) (hs : l.length ≤ 9223372036854775807) (h1 : w.cell? ⟨c, 0, none⟩ = some (.slice a1 l.length c1))
    (HC : Hid (0 < l.length → ∃ b off, a1 = some ⟨b, off, none⟩ ∧ ∀ j, j < l.length → w.cell? ⟨b, off + j * 2, none⟩ = some (.int .i64 (l.getD j (0, 0)).1) ∧ w.cell? ⟨b, off + j * 2 + 1, none⟩ = some (.int .i64 (l.getD j (0, 0)).2))) :
    Calls Tryz.prog 131 #[.int .i64 l.length, .func (.func 132) #[] #[.pointer (some ⟨c, 0, none⟩)]] w fun e w' => e = .returned (.int .i64 (fb l)) ∧ Below w.heap.size w w' := by
  have hcw := World.block_lt_of_cell? w _ h1
  generalize hR : fb l = R
  have HR := hide hR
  clear hR
  go_enter Tryz.func131, Tryz.ntmps131
  go_wp2
  go_loopw [5, 7] (fun u5 i wr => ∃ (k : Nat), k ≤ l.length ∧ i = .int .i64 k ∧ (∀ j, j < k → may (l.getD j (0, 0)) = true) ∧ Below w.heap.size w wr) (fun _ i _ => l.length - (intOf i).toNat)
  case atStart => exact ⟨0, Nat.zero_le _, rfl, fun j hj => absurd hj (by omega), Below.refl _ _⟩
  case round =>
    obtain ⟨k, hk, rfl, ha, hB⟩ := hrel
    have HA := hide ha
    clear ha
    by_cases hlt : k < l.length
    · obtain ⟨b1, o1, rfl, hc1⟩ := HC.out (by omega)
      obtain ⟨g1, g2⟩ := hc1 k hlt
      have hb1 := World.block_lt_of_cell? w _ g1
      have e1 := (hB.cell (p := ⟨b1, o1 + k * 2, none⟩) hb1).trans g1
      have e2 := (hB.cell (p := ⟨b1, o1 + k * 2 + 1, none⟩) hb1).trans g2
      have e0 := (hB.cell (p := ⟨c, 0, none⟩) hcw).trans h1
      clear hc1 HC g1 g2 h1
      obtain ⟨x, y, hxy⟩ : ∃ x y, l.getD k (0, 0) = (x, y) := ⟨_, _, rfl⟩
      rw [hxy] at e1 e2
      simp only at e1 e2
      have HX := hide hxy
      clear hxy
      have hcl := check1_any c b1 o1 c1 l.length k x y _ e0 hlt e1 e2
      have HL := hide hcl
      clear hcl e0 e1 e2
      go_wp2_with fail
      refine HL.out.mono ?_
      rintro e w1 ⟨rfl, hB1⟩
      have hB2 := hB.trans (hB1.mono hB.size)
      by_cases hm : may (x, y) = true
      · rw [hm]
        go_wp2
        go_roundw
        case rel =>
          refine ⟨k + 1, by omega, by go_num, fun j hj => ?_, hB2⟩
          by_cases hjk : j < k
          · exact HA.out j hjk
          · rw [show j = k by omega, HX.out]; exact hm
        case measure => simp [intOf]; omega
      · have hm' : may (x, y) = false := by simpa using hm
        rw [hm']
        clear hm
        go_wp2
        go_ret
        have hfb : fb l = k := fb_at hlt HA.out (by rw [HX.out]; exact hm')
        rw [← HR.out, hfb]
        exact ⟨rfl, hB2⟩
    · go_wp2
      go_ret
      have hfb : fb l = l.length := fb_all fun j hj => HA.out j (by omega)
      rw [← HR.out, hfb]
      exact ⟨rfl, hB⟩

set_option maxRecDepth 100000 in
set_option maxHeartbeats 1000000 in
theorem Fa_check_any (v : Value) (l : List Fault) (w : World) (h : Flts w v l) (hs : l.length ≤ maxLen) :
    Calls Tryz.prog 51 #[v] w fun e w' => e = .returned (.tuple #[.int .i64 (chk l).1, .int .i64 (chk l).2]) ∧ Below w.heap.size w w' := by
  unfold maxLen at hs
  by_cases hlong : 4096 < l.length
  · obtain ⟨a1, c1, rfl, hc⟩ := flts_form h
    rw [chk_long hlong]
    clear hc h
    go_enter Tryz.func51, Tryz.ntmps51
    go_wp2
    go_ret2
    exact ⟨rfl, (Below.refl _ _).alloc (Nat.le_refl _) _⟩
  · obtain ⟨a1, c1, rfl, -⟩ := flts_form h
    have hc2 : ∀ o, Flts (w.alloc o) (.slice a1 l.length c1) l := fun o => h.below ((Below.refl _ _).alloc (Nat.le_refl _) _)
    have HC := hide hc2
    clear hc2 h
    have hle := fb_le l
    generalize hR : chk l = R
    have HR := hide hR
    clear hR
    go_enter Tryz.func51, Tryz.ntmps51
    go_wp2_with fail
    obtain ⟨a2, c2, heq, hf⟩ := flts_form (HC.out (Obj.cells #[Value.slice a1 l.length c1] 24))
    cases heq
    refine (first_check w.heap.size _ _ l _ (by omega) (cell_new _ _ _) (hide hf)).mono ?_
    clear hf HC
    rintro e w1 ⟨rfl, hB1⟩
    have hB2 := ((Below.refl w.heap.size w).alloc (Nat.le_refl _) (Obj.cells #[Value.slice a1 l.length c1] 24)).trans (hB1.mono (Nat.le_of_lt (size_new _ _)))
    have e0 : w1.cell? ⟨w.heap.size, 0, none⟩ = some (.slice a1 l.length c1) := (hB1.cell (p := ⟨w.heap.size, 0, none⟩) (size_new _ _)).trans (cell_new _ _ _)
    by_cases hb : fb l < l.length
    · go_wp2
      go_ret2
      rw [← HR.out, chk_bad hlong hb]
      exact ⟨rfl, hB2⟩
    · have hb' : fb l = l.length := by omega
      rw [hb']
      go_wp2
      go_quiet (fail)
      go_wp2
      go_ret2
      rw [← HR.out, chk_good hlong hb']
      exact ⟨rfl, below_drewN hB2 _⟩
end Go.Proofs.YtkkicbhmcjbmbaaGreat

/- Plans: isMade, New, Next, Rest, Copy, the reference's Next. -/
namespace Go.Proofs.YtkkicbhmcjbmbaaGreat
open Go.RowKit

/-- Block g is a plan of the faults l, whose slice is v. -/
structure PlanAt (W : World) (g : Nat) (v : Value) (l : List Fault) : Prop where
  made : W.cell? ⟨g, 0, none⟩ = some (.bool true)
  left : W.cell? ⟨g, 1, none⟩ = some v
  soft : W.frozen? ⟨g, 1, none⟩ = false
  list : Flts W v l
  apart : v.ownBlock ≠ some g
/-- Block g is a plan of the reference. -/
structure RPlanAt (W : World) (g : Nat) (v : Value) (l : List Fault) : Prop where
  left : W.cell? ⟨g, 0, none⟩ = some v
  soft : W.frozen? ⟨g, 0, none⟩ = false
  list : Flts W v l
  apart : v.ownBlock ≠ some g

/-- What Next answers. -/
def nxt (l : List Fault) (want : Int) : Int × Int :=
  if want < 1 ∨ 1048576 < want then (0, 4) else match l with
  | [] => (want, 0)
  | f :: _ => if f.1 = 1 then (min want f.2, 0) else if f.1 = 2 then (0, 22) else if f.1 = 3 then (0, 23) else (want, 0)
/-- What is left behind Next. -/
def lft (l : List Fault) (want : Int) : List Fault := if want < 1 ∨ 1048576 < want then l else l.tail

set_option maxHeartbeats 1000000 in
theorem Fa_isMade_yes (g : Nat) (w : World) (h : w.cell? ⟨g, 0, none⟩ = some (.bool true)) :
    Calls Tryz.prog 174 #[.pointer (some ⟨g, 0, none⟩)] w fun e w' => e = .returned (.bool true) ∧ w' = w := by
  go_enter Tryz.func174, Tryz.ntmps174
  go_wp2
  go_ret
  exact ⟨rfl, rfl⟩
set_option maxHeartbeats 1000000 in
theorem Fa_isMade_no (g : Nat) (w : World) (h : w.cell? ⟨g, 0, none⟩ = some (.bool false)) :
    Calls Tryz.prog 174 #[.pointer (some ⟨g, 0, none⟩)] w fun e w' => e = .returned (.bool false) ∧ w' = w := by
  go_enter Tryz.func174, Tryz.ntmps174
  go_wp2
  go_ret
  exact ⟨rfl, rfl⟩
set_option maxHeartbeats 1000000 in
theorem Fa_isMade_nil (w : World) :
    Calls Tryz.prog 174 #[.pointer none] w fun e w' => e = .returned (.bool false) ∧ w' = w := by
  go_enter Tryz.func174, Tryz.ntmps174
  go_wp2
  go_ret
  exact ⟨rfl, rfl⟩

set_option maxRecDepth 100000 in
set_option maxHeartbeats 1000000 in
theorem Fa_new_bad (v : Value) (l : List Fault) (w : World) (h : Flts w v l) (hs : l.length ≤ maxLen) (hc : (chk l).1 ≠ 0) :
    Calls Tryz.prog 44 #[v] w fun e w' => e = .returned (.tuple #[.pointer none, .int .i64 (chk l).1]) ∧ Below w.heap.size w w' := by
  have hk := Fa_check_any v l w h hs
  have HK := hide hk
  have hc' : ((chk l).1 == 0) = false := by simpa using hc
  generalize (chk l).1 = x at *
  generalize (chk l).2 = y at *
  clear hk h hs hc
  go_enter Tryz.func44, Tryz.ntmps44
  go_wp2_with fail
  refine HK.out.mono ?_
  rintro e w1 ⟨rfl, hB⟩
  go_wp2
  go_ret2
  exact ⟨rfl, hB⟩

set_option maxRecDepth 100000 in
set_option maxHeartbeats 1000000 in
theorem Fa_new_good (v : Value) (l : List Fault) (w : World) (h : Flts w v l) (hs : l.length * 16 ≤ 140737488351232) (hc : (chk l).1 = 0) :
    Calls Tryz.prog 44 #[v] w fun e w' => ∃ g v', e = .returned (.tuple #[.pointer (some ⟨g, 0, none⟩), .int .i64 0]) ∧ PlanAt w' g v' l ∧ w.heap.size ≤ g ∧ g < w'.heap.size ∧ (∀ k, v'.ownBlock = some k → w.heap.size ≤ k ∧ k < w'.heap.size) ∧ Below w.heap.size w w' := by
  have hk := Fa_check_any v l w h (by unfold maxLen; omega)
  rw [hc] at hk
  have HK := hide hk
  generalize (chk l).2 = y at *
  clear hk
  go_enter Tryz.func44, Tryz.ntmps44
  go_wp2_with fail
  refine HK.out.mono ?_
  rintro e w1 ⟨rfl, hB⟩
  have HF := hide (h.below hB)
  clear h HK
  go_wp2_with fail
  refine (clone_any v l w1 HF.out hs).mono ?_
  rintro e w2 ⟨v', rfl, hown, hB2⟩
  obtain ⟨a2, c2, rfl⟩ := owns_slice hown
  have HO := hide hown
  clear hown
  go_wp2
  go_ret2
  have hB3 := hB.trans (hB2.mono hB.size)
  have hl := HO.out.lt
  have hz := hB.size
  refine ⟨_, .slice a2 l.length c2, rfl, ⟨?_, ?_, ?_, ?_, ?_⟩, hB3.size, ?_, ?_, hB3.alloc hB3.size _⟩
  · simp only [World.cell?, heap_alloc_new]; rfl
  · simp only [World.cell?, heap_alloc_new]; rfl
  · simp only [World.frozen?, heap_alloc_new]; rfl
  · exact (Flts.of_owns HO.out).below ((Below.refl _ _).alloc (Nat.le_refl _) _)
  · intro he
    have := (hl _ he).2
    omega
  · exact size_new _ _
  · intro k hk
    have := hl k hk
    have := size_new w2 (Obj.cells #[Value.bool true, Value.slice a2 l.length c2] 207)
    omega

theorem PlanAt.form {W : World} {g : Nat} {v : Value} {l : List Fault} (h : PlanAt W g v l) : ∃ a c, v = .slice a l.length c := by
  obtain ⟨a, c, rfl, _⟩ := flts_form h.list
  exact ⟨a, c, rfl⟩
theorem PlanAt.keep {W W' : World} {g : Nat} {v : Value} {l : List Fault} (h : PlanAt W g v l) (hB : ∀ k, k < W.heap.size → k = g ∨ v.ownBlock = some k → W'.heap[k]? = W.heap[k]?) : PlanAt W' g v l := by
  have hg := World.block_lt_of_cell? W _ h.made
  have e := hB g hg (.inl rfl)
  exact ⟨(World.cell?_of_block (w := W) e).trans h.made, (World.cell?_of_block (w := W) e).trans h.left, (World.frozen?_of_block (w := W) e).trans h.soft, h.list.lift fun k hk hl => hB k hl (.inr hk), h.apart⟩
theorem PlanAt.below {W W' : World} {g : Nat} {v : Value} {l : List Fault} (h : PlanAt W g v l) (hB : Below W.heap.size W W') : PlanAt W' g v l :=
  h.keep fun k hk _ => hB.block k hk
theorem RPlanAt.keep {W W' : World} {g : Nat} {v : Value} {l : List Fault} (h : RPlanAt W g v l) (hB : ∀ k, k < W.heap.size → k = g ∨ v.ownBlock = some k → W'.heap[k]? = W.heap[k]?) : RPlanAt W' g v l := by
  have hg := World.block_lt_of_cell? W _ h.left
  have e := hB g hg (.inl rfl)
  exact ⟨(World.cell?_of_block (w := W) e).trans h.left, (World.frozen?_of_block (w := W) e).trans h.soft, h.list.lift fun k hk hl => hB k hl (.inr hk), h.apart⟩
theorem RPlanAt.below {W W' : World} {g : Nat} {v : Value} {l : List Fault} (h : RPlanAt W g v l) (hB : Below W.heap.size W W') : RPlanAt W' g v l :=
  h.keep fun k hk _ => hB.block k hk

set_option maxRecDepth 100000 in
set_option maxHeartbeats 1000000 in
theorem rest_any (g : Nat) (v : Value) (l : List Fault) (w : World) (h : PlanAt w g v l) (hs : l.length * 16 ≤ 140737488351232) :
    Calls Tryz.prog 156 #[.pointer (some ⟨g, 0, none⟩)] w fun e w' => ∃ v', e = .returned v' ∧ w'.ownsRow w.heap.size 167 2 v' l.length (fcs l) ∧ Below w.heap.size w w' := by
  obtain ⟨a, c, rfl⟩ := h.form
  have h1 := h.made
  have h2 := h.left
  have h3 := hide h.list
  clear h
  go_enter Tryz.func156, Tryz.ntmps156
  go_wp2_with fail
  refine (Fa_isMade_yes g w h1).mono ?_
  rintro e w1 ⟨rfl, rfl⟩
  go_wp2_with fail
  refine (clone_any _ l w1 h3.out hs).mono ?_
  rintro e w2 ⟨v', rfl, hown, hB2⟩
  have HO := hide hown
  clear hown
  go_wp2
  go_ret
  exact ⟨_, rfl, HO.out, hB2⟩

set_option maxRecDepth 100000 in
set_option maxHeartbeats 1000000 in
theorem next_range (g : Nat) (v : Value) (l : List Fault) (want : Int) (w : World) (h : PlanAt w g v l) (hw : want < 1 ∨ 1048576 < want) :
    Calls Tryz.prog 135 #[.pointer (some ⟨g, 0, none⟩), .int .i64 want] w fun e w' => e = .returned (.tuple #[.int .i64 0, .int .i64 4]) ∧ w' = w := by
  have h1 := h.made
  clear h
  by_cases hw1 : want < 1
  · go_enter Tryz.func135, Tryz.ntmps135
    go_wp2_with fail
    refine (Fa_isMade_yes g w h1).mono ?_
    rintro e w1 ⟨rfl, rfl⟩
    go_wp2
    go_ret2
    exact ⟨rfl, rfl⟩
  · have hw2 : 1048576 < want := by omega
    clear hw
    go_enter Tryz.func135, Tryz.ntmps135
    go_wp2_with fail
    refine (Fa_isMade_yes g w h1).mono ?_
    rintro e w1 ⟨rfl, rfl⟩
    go_wp2
    go_ret2
    exact ⟨rfl, rfl⟩
set_option maxRecDepth 100000 in
set_option maxHeartbeats 1000000 in
theorem next_end (g : Nat) (v : Value) (want : Int) (w : World) (h : PlanAt w g v []) (hw1 : 1 ≤ want) (hw2 : want ≤ 1048576) :
    Calls Tryz.prog 135 #[.pointer (some ⟨g, 0, none⟩), .int .i64 want] w fun e w' => e = .returned (.tuple #[.int .i64 want, .int .i64 0]) ∧ w' = w := by
  obtain ⟨a, c, rfl⟩ := h.form
  have h1 := h.made
  have h2 := h.left
  simp only [List.length_nil] at h2
  clear h
  go_enter Tryz.func135, Tryz.ntmps135
  go_wp2_with fail
  refine (Fa_isMade_yes g w h1).mono ?_
  rintro e w1 ⟨rfl, rfl⟩
  go_wp2
  go_ret2
  exact ⟨rfl, rfl⟩
theorem nxt_in {x y want : Int} {r : List Fault} (h1 : 1 ≤ want) (h2 : want ≤ 1048576) : nxt ((x, y) :: r) want = if x = 1 then (min want y, 0) else if x = 2 then (0, 22) else if x = 3 then (0, 23) else (want, 0) := by
  simp only [nxt]
  rw [if_neg (by omega)]

theorem plan_world {w : World} {g b off cap n : Nat} {f : Fault} {r : List Fault} {o : Obj} {v' : Value} (h : PlanAt w g (.slice (some ⟨b, off, none⟩) n cap) (f :: r)) (hn : n = r.length + 1) (hcap : n ≤ cap)
    (hv : v' = .slice (some ⟨b, off + 2, none⟩) r.length (cap - 1) ∨ v' = .slice (some ⟨b, off, none⟩) r.length 0 ∧ cap = 1) :
    PlanAt ((w.setCell ⟨g, 1, none⟩ v').alloc o) g v' r ∧ v'.ownBlock = some b ∧ w.grownBy ((w.setCell ⟨g, 1, none⟩ v').alloc o) (some g) := by
  have hne : g ≠ b := fun e => h.apart (by rw [e]; rfl)
  have hgl : g < w.heap.size := World.block_lt_of_cell? w _ h.made
  have hsz : (w.setCell ⟨g, 1, none⟩ v').heap.size = w.heap.size := by simp [World.setCell]
  have hal : ∀ k, k < w.heap.size → ((w.setCell ⟨g, 1, none⟩ v').alloc o).heap[k]? = (w.setCell ⟨g, 1, none⟩ v').heap[k]? := fun k hk => Below.heap_alloc _ _ _ (by rw [hsz]; exact hk)
  have hoth : ∀ k, k < w.heap.size → k ≠ g → ((w.setCell ⟨g, 1, none⟩ v').alloc o).heap[k]? = w.heap[k]? := fun k hk hkg => (hal k hk).trans (Below.heap_setCell _ _ _ _ hkg)
  have hob : v'.ownBlock = some b := by rcases hv with rfl | ⟨rfl, _⟩ <;> rfl
  refine ⟨⟨?_, ?_, ?_, ?_, by rw [hob]; intro e; exact hne (Option.some.inj e).symm⟩, hob, ⟨rfl, rfl, rfl, ?_, ?_⟩⟩
  · exact (World.cell?_of_block (hal g hgl)).trans ((World.cell?_setCell_other _ _ _ _ (by simp)).trans h.made)
  · exact (World.cell?_of_block (hal g hgl)).trans (World.cell?_setCell_same _ _ _ h.left)
  · exact (World.frozen?_of_block (hal g hgl)).trans ((World.frozen?_setCell _ _ _ _).trans h.soft)
  · rcases h.list with ⟨h0, _⟩ | ⟨a, c, h0, h1⟩ | ⟨b', off', cap', heq, h0, hc', hc⟩
    · cases h0
    · cases h1
    · cases heq
      rcases hv with rfl | ⟨rfl, h1⟩
      · by_cases hr : r.length = 0
        · exact .inr (.inl ⟨_, _, by rw [hr], List.length_eq_zero_iff.1 hr⟩)
        · refine .inr (.inr ⟨b, off + 2, cap - 1, rfl, by omega, by omega, fun j hj => ?_⟩)
          have hj' : j + 1 < (f :: r).length := by simp only [List.length_cons]; omega
          have hbl : b < w.heap.size := World.block_lt_of_cell? w _ (hc (j + 1) hj').1
          have e := hoth b hbl (Ne.symm hne)
          have e1 := (hc (j + 1) hj').1
          have e2 := (hc (j + 1) hj').2
          rw [List.getD_cons_succ] at e1 e2
          rw [show off + (j + 1) * 2 = off + 2 + j * 2 by omega] at e1 e2
          exact ⟨(World.cell?_of_block (w := w) e).trans e1, (World.cell?_of_block (w := w) e).trans e2⟩
      · have hr : r.length = 0 := by omega
        exact .inr (.inl ⟨_, _, by rw [hr], List.length_eq_zero_iff.1 hr⟩)
  · have := size_new (w.setCell ⟨g, 1, none⟩ v') o
    omega
  · intro k hk hkg
    exact hoth k hk fun e => hkg (by rw [e])

set_option maxRecDepth 100000 in
set_option maxHeartbeats 1000000 in
theorem next_some (g : Nat) (v : Value) (f : Fault) (r : List Fault) (want : Int) (w : World) (h : PlanAt w g v (f :: r)) (hw1 : 1 ≤ want) (hw2 : want ≤ 1048576) (hs : r.length < maxLen) :
    Calls Tryz.prog 135 #[.pointer (some ⟨g, 0, none⟩), .int .i64 want] w fun e w' => e = .returned (.tuple #[.int .i64 (nxt (f :: r) want).1, .int .i64 (nxt (f :: r) want).2]) ∧ ∃ v', PlanAt w' g v' r ∧ v'.ownBlock = v.ownBlock ∧ w.grownBy w' (some g) := by
  unfold maxLen at hs
  have h1 := h.made
  have h2 := h.left
  have h3 := h.soft
  rcases h.list with ⟨rfl, h0⟩ | ⟨a, cap, rfl, h0⟩ | ⟨b, off, cap, rfl, h0, hcap, hc⟩
  · cases h0
  · cases h0
  · have e1 := (hc 0 h0).1
    have e2 := (hc 0 h0).2
    simp only [Nat.zero_mul, Nat.add_zero, List.getD_cons_zero] at e1 e2
    obtain ⟨x, y⟩ := f
    simp only at e1 e2
    have hne : g ≠ b := fun e => h.apart (by rw [e]; rfl)
    simp only [List.length_cons] at h2 hcap
    have HC := hide hc
    have HP := hide h
    have hgl := World.block_lt_of_cell? w _ h1
    have h2' : ∀ o, (w.alloc o).cell? ⟨g, 1, none⟩ = some (.slice (some ⟨b, off, none⟩) (r.length + 1) cap) := fun o => (World.cell?_of_block (w := w) (Below.heap_alloc w o g hgl)).trans h2
    have h3' : ∀ o, (w.alloc o).frozen? ⟨g, 1, none⟩ = false := fun o => (World.frozen?_of_block (w := w) (Below.heap_alloc w o g hgl)).trans h3
    have hgn : w.heap.size ≠ g := by simp only at hgl; omega
    clear hc h h0 h3
    go_enter Tryz.func135, Tryz.ntmps135
    go_wp2_with fail
    refine (Fa_isMade_yes g w h1).mono ?_
    rintro e w1 ⟨rfl, rfl⟩
    go_wp2
    all_goals go_ret2
    all_goals refine ⟨ret2 (congrArg (Value.int .i64) ?_) (congrArg (Value.int .i64) ?_), _, plan_world HP.out (by simp) (by simp only [List.length_cons]; omega) (by first | exact .inl rfl | exact .inr ⟨rfl, by first | rfl | omega⟩)⟩
    all_goals clear HC HP
    all_goals rw [nxt_in hw1 hw2]
    all_goals simp_all
    all_goals omega
end Go.Proofs.YtkkicbhmcjbmbaaGreat

/- The small functions of file: isMade, inRange, copied. -/
namespace Go.Proofs.YtkkicbhmcjbmbaaGreat
open Go.RowKit

/-- The slice value v holds the ints l. -/
def Fi_Ints (W : World) (v : Value) (l : List Int) : Prop :=
  ∃ a c, v = .slice a l.length c ∧ (0 < l.length → ∃ b off, a = some ⟨b, off, none⟩ ∧ ∀ j, j < l.length → W.cell? ⟨b, off + j, none⟩ = some (.int .i64 (l.getD j 0)))

/-- A number may be a place. -/
def inR (n : Int) : Bool := decide (0 ≤ n ∧ n ≤ 1048576)
theorem inR_yes {n : Int} (h1 : 0 ≤ n) (h2 : n ≤ 1048576) : inR n = true := by simp [inR, h1, h2]
theorem inR_no {n : Int} (h : ¬ (0 ≤ n ∧ n ≤ 1048576)) : inR n = false := by simp only [inR, decide_eq_false_iff_not]; exact h

set_option maxHeartbeats 1000000 in
theorem Fi_isMade_yes (g : Nat) (w : World) (h : w.cell? ⟨g, 0, none⟩ = some (.bool true)) :
    Calls Tryz.prog 176 #[.pointer (some ⟨g, 0, none⟩)] w fun e w' => e = .returned (.bool true) ∧ w' = w := by
  go_enter Tryz.func176, Tryz.ntmps176
  go_wp2
  go_ret
  exact ⟨rfl, rfl⟩
set_option maxHeartbeats 1000000 in
theorem Fi_isMade_no (g : Nat) (w : World) (h : w.cell? ⟨g, 0, none⟩ = some (.bool false)) :
    Calls Tryz.prog 176 #[.pointer (some ⟨g, 0, none⟩)] w fun e w' => e = .returned (.bool false) ∧ w' = w := by
  go_enter Tryz.func176, Tryz.ntmps176
  go_wp2
  go_ret
  exact ⟨rfl, rfl⟩
set_option maxHeartbeats 1000000 in
theorem Fi_isMade_nil (w : World) :
    Calls Tryz.prog 176 #[.pointer none] w fun e w' => e = .returned (.bool false) ∧ w' = w := by
  go_enter Tryz.func176, Tryz.ntmps176
  go_wp2
  go_ret
  exact ⟨rfl, rfl⟩

set_option maxRecDepth 100000 in
set_option maxHeartbeats 1000000 in
theorem inRange_any (v : Value) (is : List Int) (w : World) (h : Fi_Ints w v is) (hs : is.length ≤ 1000) :
    Calls Tryz.prog 185 #[v] w fun e w' => e = .returned (.bool (is.all inR)) ∧ w' = w := by
  obtain ⟨a, c, rfl, hc⟩ := h
  have HC := hide hc
  clear hc
  go_enter Tryz.func185, Tryz.ntmps185
  go_wp2
  go_loopw [4, 7] (fun _ i wr => ∃ k : Nat, k ≤ is.length ∧ i = .int .i64 k ∧ wr = w ∧ (is.take k).all inR = true) (fun _ i _ => is.length - (intOf i).toNat)
  case atStart => exact ⟨0, Nat.zero_le _, rfl, rfl, by simp⟩
  case round =>
    obtain ⟨k, hk, rfl, rfl, hall⟩ := hrel
    have HA := hide hall
    clear hall
    by_cases hlt : k < is.length
    · obtain ⟨b, off, rfl, hc⟩ := HC.out (by omega)
      have g1 := hc k hlt
      have hk1 : (0 : Int) ≤ (k : Int) := by omega
      have hk2 : (k : Int) < (is.length : Int) := by omega
      have hx : is.getD k 0 = is[k] := by rw [List.getD_eq_getElem?_getD, List.getElem?_eq_getElem hlt]; rfl
      rw [hx] at g1
      have HE : Hid (∀ y, inR is[k] = y → is.all inR = (y && (is.drop (k + 1)).all inR)) := hide fun y hy => by
        conv => lhs; rw [← List.take_append_drop k is, List.all_append, HA.out, List.drop_eq_getElem_cons hlt, List.all_cons, hy]
        simp
      have HT : Hid (inR is[k] = true → (is.take (k + 1)).all inR = true) := hide fun hy => by
        rw [List.take_succ_eq_append_getElem hlt, List.all_append, HA.out]; simp [hy]
      generalize is[k] = x at *
      clear hc HC HA hx
      rcases (show x < 0 ∨ 1048576 < x ∨ (0 ≤ x ∧ x ≤ 1048576) by omega) with hx | hx | ⟨hx1, hx2⟩
      · go_wp2
        go_ret
        exact ⟨ret_bool (by rw [HE.out false (inR_no (by omega))]; rfl), rfl⟩
      · have hd : decide (x < 0) = false := by simp; omega
        go_wp2
        go_ret
        exact ⟨ret_bool (by rw [HE.out false (inR_no (by omega))]; rfl), rfl⟩
      · have hd : decide (x < 0) = false := by simp; omega
        have hd2 : decide (1048576 < x) = false := by simp; omega
        go_wp2
        go_roundw
        case rel => exact ⟨k + 1, by omega, by go_num, by trivial, HT.out (inR_yes hx1 hx2)⟩
        case measure => simp [intOf]; omega
    · have hkl : k = is.length := by omega
      go_wp2
      go_ret
      refine ⟨ret_bool ?_, rfl⟩
      have := HA.out
      rw [hkl, List.take_length] at this
      exact this.symm

theorem Fi_made_row {w w1 : World} {n : Nat} {xs : List Value} (h : w1.ownsRow w.heap.size 5 1 (.slice (some ⟨w.heap.size, 0, none⟩) n n) n xs) (hg : w.grownBy w1 none) :
    ∃ cur : List Value, cur.length = n ∧ Hid (w1.heap[w.heap.size]? = some (.cells cur.toArray 5 (0, 0))) ∧ Below w.heap.size w w1 := by
  refine (?_ : ∃ cur : List Value, cur.length = n ∧ w1.heap[w.heap.size]? = some (.cells cur.toArray 5 (0, 0)) ∧ Below w.heap.size w w1)
  rcases h.2 with ⟨h0, _⟩ | ⟨g, c, cur, h1, h2, h3, h4, h5, h6, h7⟩
  · cases h0
  · cases h1
    exact ⟨cur.toList, by rw [Array.length_toList]; omega, by rw [Array.toArray_toList]; exact h3, (Below.refl _ w).grown hg (Nat.le_refl _) (fun k e => by cases e)⟩
/-- The bytes of a slice, as cells to be copied. -/
theorem Fi_bys_src {w : World} {a1 : Option Addr} {n c1 : Nat} {l : List UInt8} {X : List Value} (h : Bys w (.slice a1 n c1) l) (hX : X = l.map bv) :
    0 < X.length → ∃ ad, a1 = some ad ∧ ∀ j v, X[j]? = some v → w.cell? (ad.add j) = some v := by
  intro h0
  obtain ⟨a, c, he, hc⟩ := bys_form h
  cases he
  obtain ⟨b, off, rfl, hd⟩ := hc (by rw [hX] at h0; simpa using h0)
  exact ⟨_, rfl, fun j v hj => bys_news hd j v (by rw [← hX]; exact hj)⟩

set_option maxRecDepth 100000 in
set_option maxHeartbeats 1000000 in
theorem Fi_copied_any (v : Value) (l : List UInt8) (w : World) (h : Bys w v l) (hs : l.length ≤ 140737488351232) :
    Calls Tryz.prog 172 #[v] w fun e w' => e = .returned (.slice (some ⟨w.heap.size, 0, none⟩) l.length l.length) ∧ w'.ownsRow w.heap.size 5 1 (.slice (some ⟨w.heap.size, 0, none⟩) l.length l.length) l.length (l.map bv) ∧ Below w.heap.size w w' := by
  obtain ⟨i0, hi, hz0, hz1, hz2⟩ := info_parts Tryz.infoB
  obtain ⟨a1, c1, rfl, -⟩ := bys_form h
  have HC1 := hide h
  clear h
  have hsz : (Tryz.prog.info? 5).map (·.size) = some 1 := by rw [hi]; simp [hz1]
  obtain ⟨X, hX⟩ : ∃ X, X = l.map bv := ⟨_, rfl⟩
  have HX := hide hX
  have hXl : X.length = l.length := by rw [hX]; simp
  have H1 : Hid (∀ v ∈ X, v.oneCell' = true) := hide (by rw [hX]; exact bys_one l)
  clear hX
  go_enter Tryz.func172, Tryz.ntmps172
  go_wp2_with (at_make; refine wpList_make_full _ rfl _ _ 40 rfl w.heap.size 5 i0 (.int .u8 0) 1 Tryz.underlying40 hi hz0 hz1 _ _ _ _ l.length rfl rfl rfl rfl (by rw [hz2]; omega) (by unfold maxLen; omega) (Nat.le_refl _) ?_; intro w1 hown1 hgrow1; obtain ⟨cur, hcl, HR, hB1⟩ := Fi_made_row hown1 hgrow1; clear hown1 hgrow1; obtain ⟨w2, hrun, HG2, hgr2⟩ := run_copy w1 3 (some ⟨w.heap.size, 0, none⟩) a1 l.length l.length l.length c1 w.heap.size 0 cur HR.out X (by rw [hXl]; simp) (fun h0 => ⟨rfl, Fi_bys_src (HC1.out.below hB1) HX.out h0⟩) (by omega) H1.out)
  go_ret
  refine ⟨rfl, ⟨by simp, .inr ⟨w.heap.size, l.length, _, rfl, Nat.le_refl _, HG2.out, Nat.le_refl _, by unfold maxLen; omega, ?_, ?_⟩⟩, hB1.grown hgr2 hB1.size (fun k e => by cases e; exact Nat.le_refl _)⟩
  · have := length_splice cur 0 X (by omega)
    simp [this, hcl]
  · simp [splice, ← hcl, HX.out]
    rw [hcl, List.take_of_length_le (by simp)]
end Go.Proofs.YtkkicbhmcjbmbaaGreat

/- A file in memory; New, ReadAt, Size, Bytes, Copy. -/
namespace Go.Proofs.YtkkicbhmcjbmbaaGreat
open Go.RowKit

/-- Block g is a file of the bytes l, whose bytes lie in block b. -/
structure FileAt (W : World) (g b cap : Nat) (l : List UInt8) : Prop where
  made : W.cell? ⟨g, 0, none⟩ = some (.bool true)
  data : W.cell? ⟨g, 1, none⟩ = some (.slice (some ⟨b, 0, none⟩) l.length cap)
  soft : W.frozen? ⟨g, 1, none⟩ = false
  row : RowAt W b cap l
  apart : b ≠ g
theorem FileAt.keep {W W' : World} {g b cap : Nat} {l : List UInt8} (h : FileAt W g b cap l) (hg : W'.heap[g]? = W.heap[g]?) (hb : W'.heap[b]? = W.heap[b]?) : FileAt W' g b cap l :=
  ⟨(World.cell?_of_block (w := W) hg).trans h.made, (World.cell?_of_block (w := W) hg).trans h.data, (World.frozen?_of_block (w := W) hg).trans h.soft, h.row.keep hb, h.apart⟩
theorem FileAt.lt {W : World} {g b cap : Nat} {l : List UInt8} (h : FileAt W g b cap l) : g < W.heap.size := World.block_lt_of_cell? W _ h.made
theorem FileAt.below {W W' : World} {g b cap : Nat} {l : List UInt8} (h : FileAt W g b cap l) (hB : Below W.heap.size W W') : FileAt W' g b cap l :=
  h.keep (hB.block _ h.lt) (hB.block _ h.row.lt)

set_option maxRecDepth 100000 in
set_option maxHeartbeats 1000000 in
theorem Fi_new_bad (v : Value) (l : List UInt8) (w : World) (h : Bys w v l) (hl : 1048576 < l.length) :
    Calls Tryz.prog 126 #[v] w fun e w' => e = .returned (.tuple #[.pointer none, .int .i64 5]) ∧ w' = w := by
  obtain ⟨a1, c1, rfl, -⟩ := bys_form h
  clear h
  have hd : decide ((1048576 : Int) < (l.length : Int)) = true := by simp; omega
  go_enter Tryz.func126, Tryz.ntmps126
  go_wp2
  all_goals first
    | (exfalso; omega)
    | (go_ret2; exact ⟨rfl, rfl⟩)

/-- What stands behind '&File{made: true, data: copied(b)}'. -/
theorem file_new {w w2 : World} {l : List UInt8} (hown : w2.ownsRow w.heap.size 5 1 (.slice (some ⟨w.heap.size, 0, none⟩) l.length l.length) l.length (l.map bv)) (hB : Below w.heap.size w w2) :
    FileAt (w2.alloc (Obj.cells #[Value.bool true, Value.slice (some ⟨w.heap.size, 0, none⟩) l.length l.length] 265)) w2.heap.size w.heap.size l.length l ∧ w.heap.size < w2.heap.size ∧ Below w.heap.size w (w2.alloc (Obj.cells #[Value.bool true, Value.slice (some ⟨w.heap.size, 0, none⟩) l.length l.length] 265)) := by
  have hr := RowAt.of_owns hown
  have hlt := hr.lt
  refine ⟨⟨?_, ?_, ?_, hr.keep (Below.heap_alloc _ _ _ hlt), by omega⟩, hlt, hB.alloc hB.size _⟩
  · simp only [World.cell?, heap_alloc_new]; rfl
  · simp only [World.cell?, heap_alloc_new]; rfl
  · simp only [World.frozen?, heap_alloc_new]; rfl

set_option maxRecDepth 100000 in
set_option maxHeartbeats 1000000 in
theorem Fi_new_good (v : Value) (l : List UInt8) (w : World) (h : Bys w v l) (hl : l.length ≤ 1048576) :
    Calls Tryz.prog 126 #[v] w fun e w' => ∃ g, e = .returned (.tuple #[.pointer (some ⟨g, 0, none⟩), .int .i64 0]) ∧ FileAt w' g w.heap.size l.length l ∧ w.heap.size < g ∧ Below w.heap.size w w' := by
  obtain ⟨a1, c1, rfl, -⟩ := bys_form h
  have HF := hide h
  clear h
  have hd : decide ((1048576 : Int) < (l.length : Int)) = false := by simp; omega
  go_enter Tryz.func126, Tryz.ntmps126
  go_wp2_with fail
  refine (Fi_copied_any _ l _ HF.out (by omega)).mono ?_
  rintro e w2 ⟨rfl, hown, hB⟩
  have HO := hide hown
  clear hown
  go_wp2
  go_ret2
  obtain ⟨h1, h2, h3⟩ := file_new HO.out hB
  exact ⟨_, rfl, h1, h2, h3⟩

set_option maxRecDepth 100000 in
set_option maxHeartbeats 1000000 in
theorem size_any (g b cap : Nat) (l : List UInt8) (w : World) (h : FileAt w g b cap l) :
    Calls Tryz.prog 148 #[.pointer (some ⟨g, 0, none⟩)] w fun e w' => e = .returned (.int .i64 l.length) ∧ w' = w := by
  have h1 := h.made
  have h2 := h.data
  clear h
  go_enter Tryz.func148, Tryz.ntmps148
  go_wp2_with fail
  refine (Fi_isMade_yes g w h1).mono ?_
  rintro e w1 ⟨rfl, rfl⟩
  go_wp2
  go_ret
  exact ⟨rfl, rfl⟩

set_option maxRecDepth 100000 in
set_option maxHeartbeats 1000000 in
theorem bytes_any (g b cap : Nat) (l : List UInt8) (w : World) (h : FileAt w g b cap l) (hl : l.length ≤ 1048576) :
    Calls Tryz.prog 155 #[.pointer (some ⟨g, 0, none⟩)] w fun e w' => e = .returned (.slice (some ⟨w.heap.size, 0, none⟩) l.length l.length) ∧ w'.ownsRow w.heap.size 5 1 (.slice (some ⟨w.heap.size, 0, none⟩) l.length l.length) l.length (l.map bv) ∧ Below w.heap.size w w' := by
  have h1 := h.made
  have h2 := h.data
  have h3 := hide h.row
  clear h
  go_enter Tryz.func155, Tryz.ntmps155
  go_wp2_with fail
  refine (Fi_isMade_yes g w h1).mono ?_
  rintro e w1 ⟨rfl, rfl⟩
  go_wp2_with fail
  refine (Fi_copied_any _ l _ h3.out.bys (by omega)).mono ?_
  rintro e w2 ⟨rfl, hown, hB⟩
  have HO := hide hown
  clear hown
  go_wp2
  go_ret
  exact ⟨rfl, HO.out, hB⟩

/-- Two numbers, built into a row for a variadic call. -/
theorem ints_two (w : World) (x y : Int) : Fi_Ints (w.alloc (Obj.cells #[.int .i64 x, .int .i64 y] 3)) (.slice (some ⟨w.heap.size, 0, none⟩) 2 2) [x, y] := by
  refine ⟨_, 2, rfl, fun _ => ⟨_, _, rfl, fun j hj => ?_⟩⟩
  simp only [World.cell?, heap_alloc_new]
  have : j = 0 ∨ j = 1 := by simp only [List.length_cons, List.length_nil] at hj; omega
  rcases this with rfl | rfl <;> rfl
theorem ints_one (w : World) (x : Int) : Fi_Ints (w.alloc (Obj.cells #[.int .i64 x] 3)) (.slice (some ⟨w.heap.size, 0, none⟩) 1 1) [x] := by
  refine ⟨_, 1, rfl, fun _ => ⟨_, _, rfl, fun j hj => ?_⟩⟩
  simp only [World.cell?, heap_alloc_new]
  have : j = 0 := by simp only [List.length_cons, List.length_nil] at hj; omega
  subst this
  rfl

set_option maxRecDepth 100000 in
set_option maxHeartbeats 1000000 in
theorem readAt_bad (g b cap : Nat) (l : List UInt8) (off n : Int) (w : World) (h : FileAt w g b cap l) (hr : (inR off && inR n) = false) :
    Calls Tryz.prog 242 #[.pointer (some ⟨g, 0, none⟩), .int .i64 off, .int .i64 n] w fun e w' => e = .returned (.tuple #[.slice none 0 0, .int .i64 4]) ∧ Below w.heap.size w w' := by
  have h1 := h.made
  clear h
  have HR : Hid (([off, n] : List Int).all inR = false) := hide (by simpa using hr)
  clear hr
  go_enter Tryz.func242, Tryz.ntmps242
  go_wp2_with fail
  refine (Fi_isMade_yes g w h1).mono ?_
  rintro e w1 ⟨rfl, rfl⟩
  go_wp2_with fail
  refine (inRange_any _ [off, n] _ (ints_two _ _ _) (by simp)).mono ?_
  rintro e w2 ⟨rfl, rfl⟩
  rw [HR.out]
  go_wp2
  go_ret2
  exact ⟨rfl, (Below.refl _ _).alloc (Nat.le_refl _) _⟩

/-- n bytes from off on. -/
def piece (l : List UInt8) (off n : Nat) : List UInt8 := (l.drop off).take n
theorem piece_len (l : List UInt8) (off n : Nat) : (piece l off n).length = min n (l.length - off) := by simp [piece]

theorem piece_bys {W : World} {b cap : Nat} {l : List UInt8} (h : RowAt W b cap l) (off n x m c : Nat) (hm : m = min n (l.length - off)) (hx : m = 0 ∨ x = off) : Bys W (.slice (some ⟨b, x, none⟩) m c) (piece l off n) := by
  by_cases h0 : m = 0
  · refine .inr (.inl ⟨_, _, by rw [h0], List.length_eq_zero_iff.1 (by rw [piece_len]; omega)⟩)
  · obtain rfl : x = off := by omega
    have := h.cut x m c (by omega)
    rwa [show (l.drop x).take m = piece l x n by rw [hm, piece, ← List.length_drop, List.take_eq_take_iff]; omega] at this
set_option maxRecDepth 100000 in
set_option maxHeartbeats 1000000 in
theorem readAt_good (g b cap : Nat) (l : List UInt8) (off n : Nat) (w : World) (h : FileAt w g b cap l) (hl : l.length ≤ 1048576) (ho : off ≤ 1048576) (hn : n ≤ 1048576) :
    Calls Tryz.prog 242 #[.pointer (some ⟨g, 0, none⟩), .int .i64 off, .int .i64 n] w fun e w' => ∃ q, e = .returned (.tuple #[.slice (some ⟨q, 0, none⟩) (piece l off n).length (piece l off n).length, .int .i64 0]) ∧ w'.ownsRow w.heap.size 5 1 (.slice (some ⟨q, 0, none⟩) (piece l off n).length (piece l off n).length) (piece l off n).length ((piece l off n).map bv) ∧ Below w.heap.size w w' := by
  have h1 := h.made
  have HF := hide h
  clear h
  have HR : Hid (([(off : Int), (n : Int)] : List Int).all inR = true) := hide (by simp [inR]; omega)
  go_enter Tryz.func242, Tryz.ntmps242
  go_wp2_with fail
  refine (Fi_isMade_yes g w h1).mono ?_
  rintro e w1 ⟨rfl, rfl⟩
  go_wp2_with fail
  refine (inRange_any _ [(off : Int), (n : Int)] _ (ints_two _ _ _) (by simp)).mono ?_
  rintro e w2 ⟨rfl, rfl⟩
  rw [HR.out]
  have hBa : Below w1.heap.size w1 (w1.alloc (Obj.cells #[.int .i64 (off : Int), .int .i64 (n : Int)] 3)) := (Below.refl _ _).alloc (Nat.le_refl _) _
  have HF2 := hide (HF.out.below hBa)
  generalize w1.alloc (Obj.cells #[.int .i64 (off : Int), .int .i64 (n : Int)] 3) = w2 at *
  have h2 := HF2.out.data
  have h3 := HF2.out.row.len
  clear HF HR h1
  go_wp2
  go_quiet (fail)
  go_wp2_with fail
  all_goals
    have hd : Below w2.heap.size w2 (w2.drewN nq) := below_drewN (Below.refl _ _) _
    refine (Fi_copied_any _ (piece l off n) _ (piece_bys (HF2.out.below hd).row off n _ _ _ (by omega) (by omega)) (by rw [piece_len]; omega)).mono ?_
    rintro e w3 ⟨rfl, hown, hB⟩
    have HO := hide hown
    clear hown
    go_wp2
    go_ret2
    have hB3 : Below w1.heap.size w1 w3 := (hBa.trans (hd.mono hBa.size)).trans (hB.mono (Nat.le_trans hBa.size hd.size))
    exact ⟨_, rfl, owns_mono HO.out (Nat.le_trans hBa.size hd.size), hB3⟩
end Go.Proofs.YtkkicbhmcjbmbaaGreat

/- growTo, Truncate, WriteAt. -/
namespace Go.Proofs.YtkkicbhmcjbmbaaGreat
open Go.RowKit

/-- Bytes, grown to n by zeros. -/
def grow (l : List UInt8) (n : Nat) : List UInt8 := l ++ List.replicate (n - l.length) 0
theorem grow_len (l : List UInt8) (n : Nat) : (grow l n).length = max l.length n := by simp [grow]; omega
theorem grow_no {l : List UInt8} {n : Nat} (h : n ≤ l.length) : grow l n = l := by simp [grow, Nat.sub_eq_zero_of_le h]

set_option maxRecDepth 100000 in
set_option maxHeartbeats 1000000 in
theorem growTo_no (g b cap : Nat) (l : List UInt8) (n : Nat) (w : World) (h : FileAt w g b cap l) (hn : n ≤ l.length) :
    Calls Tryz.prog 186 #[.pointer (some ⟨g, 0, none⟩), .int .i64 n] w fun e w' => e = .returned (.tuple #[]) ∧ w' = w := by
  have h2 := h.data
  clear h
  have hd : decide ((l.length : Int) < (n : Int)) = false := by simp; omega
  go_enter Tryz.func186, Tryz.ntmps186
  go_wp2
  go_end0
  exact ⟨rfl, rfl⟩

/-- What stands behind 'f.data = append(..)'. -/
theorem grown_file {w w' : World} {g b cap b' cap' : Nat} {l l' : List UInt8} {v : Value} (h : FileAt w g b cap l) (hr : RowAt w' b' cap' l') (hg : w.drew.grownBy w' (some b)) (hb : b' = b ∨ b' = w.drew.heap.size) (hv : v = .slice (some ⟨b', 0, none⟩) l'.length cap') :
    FileAt (w'.setCell ⟨g, 1, none⟩ v) g b' cap' l' ∧ (b' = b ∨ w.heap.size ≤ b') ∧ Turned (fun k => k = g ∨ k = b) w (w'.setCell ⟨g, 1, none⟩ v) := by
  have e1 : w.drew.heap = w.heap := rfl
  have e2 : w.drew.os = w.os := rfl
  have e3 : w.drew.tape = w.tape := rfl
  have e4 : w.drew.output = w.output := rfl
  have hgl := h.lt
  have hbl := h.row.lt
  have hap := h.apart
  have hgg : w'.heap[g]? = w.heap[g]? := (hg.block g (by rw [e1]; exact hgl) (by intro e; cases e; exact hap rfl)).trans (by rw [e1])
  have hne : b' ≠ g := by
    rcases hb with rfl | rfl
    · exact hap
    · rw [e1]; omega
  have hsz : w.heap.size ≤ w'.heap.size := by have := hg.size; rw [e1] at this; exact this
  refine ⟨⟨?_, ?_, ?_, ?_, hne⟩, ?_, ⟨hg.os.trans e2, hg.tape.trans e3, hg.output.trans e4, ?_, ?_⟩⟩
  · rw [World.cell?_setCell_other _ _ _ _ (by simp)]
    exact (World.cell?_of_block (w := w) hgg).trans h.made
  · rw [← hv]
    exact World.cell?_setCell_same _ _ _ ((World.cell?_of_block (w := w) hgg).trans h.data)
  · rw [World.frozen?_setCell]
    exact (World.frozen?_of_block (w := w) hgg).trans h.soft
  · exact hr.keep (Below.heap_setCell _ _ _ _ hne)
  · rcases hb with rfl | rfl
    · exact .inl rfl
    · right; rw [e1]; exact Nat.le_refl _
  · simpa [World.setCell] using hsz
  · intro k hk hn
    rw [Below.heap_setCell _ _ _ _ (fun e => hn (.inl e))]
    exact (hg.block k (by rw [e1]; exact hk) (by intro e; cases e; exact hn (.inr rfl))).trans (by rw [e1])

set_option maxRecDepth 100000 in
set_option maxHeartbeats 1000000 in
theorem growTo_yes (g b cap : Nat) (l : List UInt8) (n : Nat) (w : World) (h : FileAt w g b cap l) (hn : l.length < n) (hm : n ≤ 1048576) :
    Calls Tryz.prog 186 #[.pointer (some ⟨g, 0, none⟩), .int .i64 n] w fun e w' => e = .returned (.tuple #[]) ∧ ∃ b' cap', FileAt w' g b' cap' (grow l n) ∧ (b' = b ∨ w.heap.size ≤ b') ∧ Turned (fun k => k = g ∨ k = b) w w' := by
  have h2 := h.data
  have h3 := h.soft
  have hap := h.apart
  have hgl := h.lt
  have HF := hide h
  clear h
  have hd : decide ((l.length : Int) < (n : Int)) = true := by simp; omega
  go_enter Tryz.func186, Tryz.ntmps186
  go_wp2_with fail
  go_region_law (refine step_append_zeros _ (by rfl) _ _ (by rfl) b cap l (n - l.length) (HF.out.row.keep (by rfl)) (by omega) (by omega) (by rfl) _ (by rfl) (by first | omega | (rw [IntKind.wrap_i64]; omega)) ?_; intro b' cap' w' HR' hgr' hb'; have q1 := (hgr'.cell_far ⟨g, 1, none⟩ (by exact hgl) (by intro e; cases e; exact hap rfl)).trans h2; have q2 := (hgr'.frozen_far ⟨g, 1, none⟩ (by exact hgl) (by intro e; cases e; exact hap rfl)).trans h3)
  all_goals
    go_end0
    have hl' : (l ++ List.replicate (n - l.length) (0 : UInt8)).length = l.length + (n - l.length) := by simp
    exact ⟨rfl, b', cap', grown_file HF.out HR'.out hgr' hb' (by rw [show (grow l n).length = l.length + (n - l.length) from hl'])⟩

theorem growTo_any (g b cap : Nat) (l : List UInt8) (n : Nat) (w : World) (h : FileAt w g b cap l) (hm : n ≤ 1048576) :
    Calls Tryz.prog 186 #[.pointer (some ⟨g, 0, none⟩), .int .i64 n] w fun e w' => e = .returned (.tuple #[]) ∧ ∃ b' cap', FileAt w' g b' cap' (grow l n) ∧ (b' = b ∨ w.heap.size ≤ b') ∧ Turned (fun k => k = g ∨ k = b) w w' := by
  by_cases hn : n ≤ l.length
  · refine (growTo_no g b cap l n w h hn).mono ?_
    rintro e w' ⟨rfl, rfl⟩
    rw [grow_no hn]
    exact ⟨rfl, b, cap, h, .inl rfl, Turned.refl _ _⟩
  · exact growTo_yes g b cap l n w h (by omega) hm

theorem cut_file {w : World} {g b cap n : Nat} {l : List UInt8} (h : FileAt w g b cap l) (hn : n ≤ l.length) :
    FileAt (w.setCell ⟨g, 1, none⟩ (.slice (some ⟨b, 0, none⟩) n n)) g b n (l.take n) ∧ Turned (fun k => k = g ∨ k = b) w (w.setCell ⟨g, 1, none⟩ (.slice (some ⟨b, 0, none⟩) n n)) := by
  refine ⟨⟨?_, ?_, ?_, (h.row.shorter n hn).keep (Below.heap_setCell _ _ _ _ h.apart), h.apart⟩, ⟨rfl, rfl, rfl, by simp [World.setCell], fun k hk hn => Below.heap_setCell _ _ _ _ (fun e => hn (.inl e))⟩⟩
  · rw [World.cell?_setCell_other _ _ _ _ (by simp)]; exact h.made
  · rw [World.cell?_setCell_same _ _ _ h.data]; simp [Nat.min_eq_left hn]
  · rw [World.frozen?_setCell]; exact h.soft

/-- A file cut, or grown, to n bytes. -/
def trunc (l : List UInt8) (n : Nat) : List UInt8 := grow (l.take n) n
theorem trunc_len (l : List UInt8) (n : Nat) : (trunc l n).length = n := by rw [trunc, grow_len]; simp; omega

set_option maxRecDepth 100000 in
set_option maxHeartbeats 1000000 in
theorem truncate_bad (g b cap : Nat) (l : List UInt8) (n : Int) (w : World) (h : FileAt w g b cap l) (hr : inR n = false) :
    Calls Tryz.prog 168 #[.pointer (some ⟨g, 0, none⟩), .int .i64 n] w fun e w' => e = .returned (.int .i64 4) ∧ Below w.heap.size w w' := by
  have h1 := h.made
  clear h
  have HR : Hid (([n] : List Int).all inR = false) := hide (by simpa using hr)
  clear hr
  go_enter Tryz.func168, Tryz.ntmps168
  go_wp2_with fail
  refine (Fi_isMade_yes g w h1).mono ?_
  rintro e w1 ⟨rfl, rfl⟩
  go_wp2_with fail
  refine (inRange_any _ [n] _ (ints_one _ _) (by simp)).mono ?_
  rintro e w2 ⟨rfl, rfl⟩
  rw [HR.out]
  go_wp2
  go_ret
  exact ⟨rfl, (Below.refl _ _).alloc (Nat.le_refl _) _⟩

set_option maxRecDepth 100000 in
set_option maxHeartbeats 1000000 in
theorem truncate_good (g b cap : Nat) (l : List UInt8) (n : Nat) (w : World) (h : FileAt w g b cap l) (hn : n ≤ 1048576) :
    Calls Tryz.prog 168 #[.pointer (some ⟨g, 0, none⟩), .int .i64 n] w fun e w' => e = .returned (.int .i64 0) ∧ ∃ b' cap', FileAt w' g b' cap' (trunc l n) ∧ (b' = b ∨ w.heap.size ≤ b') ∧ Turned (fun k => k = g ∨ k = b) w w' := by
  have h1 := h.made
  have HF := hide h
  clear h
  have HR : Hid (([(n : Int)] : List Int).all inR = true) := hide (by simp [inR]; omega)
  go_enter Tryz.func168, Tryz.ntmps168
  go_wp2_with fail
  refine (Fi_isMade_yes g w h1).mono ?_
  rintro e w1 ⟨rfl, rfl⟩
  go_wp2_with fail
  refine (inRange_any _ [(n : Int)] _ (ints_one _ _) (by simp)).mono ?_
  rintro e w2 ⟨rfl, rfl⟩
  rw [HR.out]
  have hBa : Below w1.heap.size w1 (w1.alloc (Obj.cells #[.int .i64 (n : Int)] 3)) := (Below.refl _ _).alloc (Nat.le_refl _) _
  have HF2 := hide (HF.out.below hBa)
  generalize w1.alloc (Obj.cells #[.int .i64 (n : Int)] 3) = w2 at *
  have h2 := HF2.out.data
  have h3 := HF2.out.row.len
  have h4 := HF2.out.soft
  clear HF HR h1
  by_cases hc : n < l.length
  · have hd : decide ((n : Int) < (l.length : Int)) = true := by simp; omega
    go_wp2_with fail
    obtain ⟨hF3, hT3⟩ := cut_file HF2.out (n := n) (by omega)
    have HF3 := hide hF3
    clear hF3
    generalize w2.setCell ⟨g, 1, none⟩ (.slice (some ⟨b, 0, none⟩) n n) = w3 at *
    refine (growTo_any g b n (l.take n) n _ HF3.out hn).mono ?_
    rintro e w4 ⟨rfl, b', cap', hF4, hb4, hT4⟩
    have HF4 := hide hF4
    clear hF4
    go_wp2
    go_ret
    have hs := hT3.size
    have hs2 := hBa.size
    refine ⟨rfl, b', cap', HF4.out, by omega, ((Turned.of_below hBa).trans hT3 (fun k hk => ?_)).trans hT4 (fun k hk => ?_)⟩
    · exact id
    · exact id
  · have hd : decide ((n : Int) < (l.length : Int)) = false := by simp; omega
    go_wp2_with fail
    refine (growTo_any g b cap l n _ HF2.out hn).mono ?_
    rintro e w4 ⟨rfl, b', cap', hF4, hb4, hT4⟩
    have HF4 := hide hF4
    clear hF4
    go_wp2
    go_ret
    have hs2 := hBa.size
    refine ⟨rfl, b', cap', ?_, by omega, (Turned.of_below hBa).trans hT4 (fun k hk => id)⟩
    rw [trunc, List.take_of_length_le (by omega)]
    exact HF4.out
end Go.Proofs.YtkkicbhmcjbmbaaGreat

/- WriteAt. -/
namespace Go.Proofs.YtkkicbhmcjbmbaaGreat
open Go.RowKit

/-- Bytes laid at a place. -/
def lay (l : List UInt8) (off : Nat) (x : List UInt8) : List UInt8 :=
  if x = [] then l else (grow l (off + x.length)).take off ++ (x ++ (grow l (off + x.length)).drop (off + x.length))
theorem lay_len (l : List UInt8) (off : Nat) (x : List UInt8) : (lay l off x).length = if x = [] then l.length else max l.length (off + x.length) := by
  unfold lay
  split
  · rfl
  · have := grow_len l (off + x.length)
    simp only [List.length_append, List.length_take, List.length_drop]
    omega

set_option maxRecDepth 100000 in
set_option maxHeartbeats 1000000 in
theorem writeAt_range (g b cap : Nat) (l : List UInt8) (off : Int) (vx : Value) (w : World) (h : FileAt w g b cap l) (hr : inR off = false) :
    Calls Tryz.prog 244 #[.pointer (some ⟨g, 0, none⟩), .int .i64 off, vx] w fun e w' => e = .returned (.int .i64 4) ∧ Below w.heap.size w w' := by
  have h1 := h.made
  clear h
  have HR : Hid (([off] : List Int).all inR = false) := hide (by simpa using hr)
  clear hr
  go_enter Tryz.func244, Tryz.ntmps244
  go_wp2_with fail
  refine (Fi_isMade_yes g w h1).mono ?_
  rintro e w1 ⟨rfl, rfl⟩
  go_wp2_with fail
  refine (inRange_any _ [off] _ (ints_one _ _) (by simp)).mono ?_
  rintro e w2 ⟨rfl, rfl⟩
  rw [HR.out]
  go_wp2
  go_ret
  exact ⟨rfl, (Below.refl _ _).alloc (Nat.le_refl _) _⟩

set_option maxRecDepth 100000 in
set_option maxHeartbeats 1000000 in
theorem writeAt_full (g b cap : Nat) (l : List UInt8) (off : Nat) (vx : Value) (x : List UInt8) (w : World) (h : FileAt w g b cap l) (hx : Bys w vx x) (ho : off ≤ 1048576) (hl : 1048576 < off + x.length) :
    Calls Tryz.prog 244 #[.pointer (some ⟨g, 0, none⟩), .int .i64 off, vx] w fun e w' => e = .returned (.int .i64 31) ∧ Below w.heap.size w w' := by
  have h1 := h.made
  obtain ⟨a1, c1, rfl, -⟩ := bys_form hx
  clear h hx
  have HR : Hid (([(off : Int)] : List Int).all inR = true) := hide (by simp [inR]; omega)
  have hd : decide ((1048576 - (off : Int)) < (x.length : Int)) = true := by simp; omega
  go_enter Tryz.func244, Tryz.ntmps244
  go_wp2_with fail
  refine (Fi_isMade_yes g w h1).mono ?_
  rintro e w1 ⟨rfl, rfl⟩
  go_wp2_with fail
  refine (inRange_any _ [(off : Int)] _ (ints_one _ _) (by simp)).mono ?_
  rintro e w2 ⟨rfl, rfl⟩
  rw [HR.out]
  go_wp2
  all_goals first
    | (exfalso; omega)
    | (go_ret; exact ⟨rfl, (Below.refl _ _).alloc (Nat.le_refl _) _⟩)

set_option maxRecDepth 100000 in
set_option maxHeartbeats 1000000 in
theorem writeAt_none (g b cap : Nat) (l : List UInt8) (off : Nat) (vx : Value) (w : World) (h : FileAt w g b cap l) (hx : Bys w vx []) (ho : off ≤ 1048576) :
    Calls Tryz.prog 244 #[.pointer (some ⟨g, 0, none⟩), .int .i64 off, vx] w fun e w' => e = .returned (.int .i64 0) ∧ Below w.heap.size w w' := by
  have h1 := h.made
  obtain ⟨a1, c1, rfl, -⟩ := bys_form hx
  clear h hx
  simp only [List.length_nil]
  have HR : Hid (([(off : Int)] : List Int).all inR = true) := hide (by simp [inR]; omega)
  have hd : decide ((1048576 - (off : Int)) < 0) = false := by simp; omega
  go_enter Tryz.func244, Tryz.ntmps244
  go_wp2_with fail
  refine (Fi_isMade_yes g w h1).mono ?_
  rintro e w1 ⟨rfl, rfl⟩
  go_wp2_with fail
  refine (inRange_any _ [(off : Int)] _ (ints_one _ _) (by simp)).mono ?_
  rintro e w2 ⟨rfl, rfl⟩
  rw [HR.out]
  go_wp2
  all_goals first
    | (exfalso; omega)
    | (go_ret; exact ⟨rfl, (Below.refl _ _).alloc (Nat.le_refl _) _⟩)

set_option maxRecDepth 100000 in
set_option maxHeartbeats 2000000 in
theorem writeAt_some (g b cap : Nat) (l : List UInt8) (off : Nat) (vx : Value) (x : List UInt8) (w : World) (h : FileAt w g b cap l) (hx : Bys w vx x) (hxb : ∀ k, vx.ownBlock = some k → k ≠ g ∧ k ≠ b) (hl : off + x.length ≤ 1048576) (hx0 : 0 < x.length) :
    Calls Tryz.prog 244 #[.pointer (some ⟨g, 0, none⟩), .int .i64 off, vx] w fun e w' => e = .returned (.int .i64 0) ∧ ∃ b' cap', FileAt w' g b' cap' (lay l off x) ∧ (b' = b ∨ w.heap.size ≤ b') ∧ Turned (fun k => k = g ∨ k = b) w w' := by
  have h1 := h.made
  have HF := hide h
  have HX := hide hx
  have HB := hide hxb
  obtain ⟨a1, c1, rfl, -⟩ := bys_form hx
  clear h hx hxb
  have HR : Hid (([(off : Int)] : List Int).all inR = true) := hide (by simp [inR]; omega)
  have hd : decide ((1048576 - (off : Int)) < (x.length : Int)) = false := by simp; omega
  have hd2 : ((x.length : Int) == 0) = false := by simp; intro e; rw [e] at hx0; simp at hx0
  go_enter Tryz.func244, Tryz.ntmps244
  go_wp2_with fail
  refine (Fi_isMade_yes g w h1).mono ?_
  rintro e w1 ⟨rfl, rfl⟩
  go_wp2_with fail
  refine (inRange_any _ [(off : Int)] _ (ints_one _ _) (by simp)).mono ?_
  rintro e w2 ⟨rfl, rfl⟩
  rw [HR.out]
  have hBa : Below w1.heap.size w1 (w1.alloc (Obj.cells #[.int .i64 (off : Int)] 3)) := (Below.refl _ _).alloc (Nat.le_refl _) _
  have HF2 := hide (HF.out.below hBa)
  have HX2 := hide (HX.out.below hBa)
  generalize w1.alloc (Obj.cells #[.int .i64 (off : Int)] 3) = w2 at *
  clear HF HR h1 HX
  go_wp2_with fail
  rw [show (off : Int) + (x.length : Int) = ((off + x.length : Nat) : Int) by omega]
  refine (growTo_any g b cap l (off + x.length) _ HF2.out hl).mono ?_
  rintro e w3 ⟨rfl, b', cap', hF3, hb3, hT3⟩
  have HX3 := hide (HX2.out.keep (W' := w3) fun k hk hlt => hT3.block k hlt (fun e => by have := HB.out k hk; omega))
  have hml := grow_len l (off + x.length)
  obtain ⟨m, hm⟩ : ∃ m, m = grow l (off + x.length) := ⟨_, rfl⟩
  rw [← hm] at hF3 hml
  have HM := hide hm
  have hml2 : off + x.length ≤ m.length := by omega
  clear hml
  have HF3 := hide hF3
  have h2 := hF3.data
  have h3 := hF3.row.len
  have h5 := hF3.row.lim
  obtain ⟨cur, hcur, hcl, hct⟩ := hF3.row.row
  have HCur := hide hcur
  have HCt := hide hct
  have hap := hF3.apart
  obtain ⟨X, hX⟩ : ∃ X, X = x.map bv := ⟨_, rfl⟩
  have HXe := hide hX
  have hXl : X.length = x.length := by rw [hX]; simp
  have H1 : Hid (∀ v ∈ X, v.oneCell' = true) := hide (by rw [hX]; exact bys_one x)
  obtain ⟨w4, hrun, HG4, hgr4⟩ := run_copy w3 3 (some ⟨b', off, none⟩) a1 (m.length - off) (cap' - off) x.length c1 b' off cur HCur.out X (by rw [hXl]; exact (Nat.min_eq_left (by omega)).symm) (fun h0 => ⟨rfl, Fi_bys_src HX3.out HXe.out h0⟩) (by omega) H1.out
  clear hm hF3 hcur hct hX HF2 HX2
  have k1 : (off : Int) < (cap' : Int) := by omega
  have k2 : (off : Int) ≤ (m.length : Int) := by omega
  have k3 : ¬ cap' = off := by omega
  go_wp2
  go_ret
  refine ⟨rfl, b', cap', ?_, ?_, ?_⟩
  · have hlay : lay l off x = m.take off ++ (x ++ m.drop (off + x.length)) := by rw [lay, if_neg (by intro e; rw [e] at hx0; simp at hx0), HM.out]
    have hrow := RowAt.laid (W' := w4) (b := b') (cap := cap') (l := m) (x := x) (off := off) hcl HCt.out h3 h5 hml2 (by rw [← HXe.out]; exact HG4.out)
    rw [← hlay] at hrow
    have hll : (lay l off x).length = m.length := by rw [hlay]; simp; omega
    have hgg := hgr4.block g HF3.out.lt (by intro e; cases e; exact hap rfl)
    refine ⟨(World.cell?_of_block (w := w3) hgg).trans HF3.out.made, ?_, (World.frozen?_of_block (w := w3) hgg).trans HF3.out.soft, hrow, hap⟩
    rw [hll]
    exact (World.cell?_of_block (w := w3) hgg).trans HF3.out.data
  · have := hBa.size; omega
  · have h1 : Turned (fun k => k = g ∨ k = b) w1 w3 := (Turned.of_below hBa).trans hT3 (fun k hk => id)
    have h2 : Turned (fun k => k = b') w3 w4 := ⟨hgr4.os, hgr4.tape, hgr4.output, hgr4.size, fun k hk hn => hgr4.block k hk (by intro e; cases e; exact hn rfl)⟩
    have := hBa.size
    exact h1.trans h2 (fun k hk e => by omega)

/-- What WriteAt answers. -/
def Fi_wrE (off : Int) (n : Nat) : Int := if inR off = false then 4 else if 1048576 < off + n then 31 else 0
/-- What the file has behind WriteAt. -/
def wrL (l : List UInt8) (off : Int) (x : List UInt8) : List UInt8 := if Fi_wrE off x.length = 0 then lay l off.toNat x else l
theorem wrL_len {l : List UInt8} {off : Int} {x : List UInt8} (h : l.length ≤ 1048576) : (wrL l off x).length ≤ 1048576 := by
  unfold wrL Fi_wrE
  by_cases h1 : inR off = false
  · rw [if_pos h1, if_neg (by decide)]; exact h
  · rw [if_neg h1]
    by_cases h2 : (1048576 : Int) < off + (x.length : Nat)
    · rw [if_pos h2, if_neg (by decide)]; exact h
    · rw [if_neg h2, if_pos rfl, lay_len]
      have : inR off = true := by simpa using h1
      simp only [inR, decide_eq_true_eq] at this
      split <;> omega

theorem writeAt_any (g b cap : Nat) (l : List UInt8) (off : Int) (vx : Value) (x : List UInt8) (w : World) (h : FileAt w g b cap l) (hx : Bys w vx x) (hxb : 0 < x.length → ∀ k, vx.ownBlock = some k → k ≠ g ∧ k ≠ b) :
    Calls Tryz.prog 244 #[.pointer (some ⟨g, 0, none⟩), .int .i64 off, vx] w fun e w' => e = .returned (.int .i64 (Fi_wrE off x.length)) ∧ ∃ b' cap', FileAt w' g b' cap' (wrL l off x) ∧ (b' = b ∨ w.heap.size ≤ b') ∧ Turned (fun k => k = g ∨ k = b) w w' := by
  by_cases h1 : inR off = false
  · have e1 : Fi_wrE off x.length = 4 := by unfold Fi_wrE; rw [if_pos h1]
    rw [wrL, e1, if_neg (by decide)]
    refine (writeAt_range g b cap l off vx w h h1).mono ?_
    rintro e w' ⟨rfl, hB⟩
    exact ⟨rfl, b, cap, h.below hB, .inl rfl, Turned.of_below hB⟩
  · have h1' : inR off = true := by simpa using h1
    simp only [inR, decide_eq_true_eq] at h1'
    obtain ⟨o, rfl⟩ : ∃ o : Nat, off = o := ⟨off.toNat, by omega⟩
    by_cases h2 : (1048576 : Int) < (o : Int) + (x.length : Nat)
    · have e1 : Fi_wrE o x.length = 31 := by unfold Fi_wrE; rw [if_neg h1, if_pos h2]
      rw [wrL, e1, if_neg (by decide)]
      refine (writeAt_full g b cap l o vx x w h hx (by omega) (by omega)).mono ?_
      rintro e w' ⟨rfl, hB⟩
      exact ⟨rfl, b, cap, h.below hB, .inl rfl, Turned.of_below hB⟩
    · have e1 : Fi_wrE o x.length = 0 := by unfold Fi_wrE; rw [if_neg h1, if_neg h2]
      rw [wrL, e1, if_pos rfl, Int.toNat_natCast]
      by_cases h3 : x = []
      · subst h3
        refine (writeAt_none g b cap l o vx w h hx (by omega)).mono ?_
        rintro e w' ⟨rfl, hB⟩
        exact ⟨rfl, b, cap, h.below hB, .inl rfl, Turned.of_below hB⟩
      · have h4 := List.length_pos_iff.2 h3
        exact writeAt_some g b cap l o vx x w h hx (hxb h4) (by omega) h4

/-- What Truncate answers, and what the file has behind it. -/
def trE (n : Int) : Int := if inR n = false then 4 else 0
def trL (l : List UInt8) (n : Int) : List UInt8 := if inR n = false then l else trunc l n.toNat
theorem trL_len {l : List UInt8} {n : Int} (h : l.length ≤ 1048576) : (trL l n).length ≤ 1048576 := by
  unfold trL
  split
  · exact h
  · rename_i h1
    have h1' : inR n = true := by simpa using h1
    simp only [inR, decide_eq_true_eq] at h1'
    rw [trunc_len]; omega
theorem truncate_any (g b cap : Nat) (l : List UInt8) (n : Int) (w : World) (h : FileAt w g b cap l) :
    Calls Tryz.prog 168 #[.pointer (some ⟨g, 0, none⟩), .int .i64 n] w fun e w' => e = .returned (.int .i64 (trE n)) ∧ ∃ b' cap', FileAt w' g b' cap' (trL l n) ∧ (b' = b ∨ w.heap.size ≤ b') ∧ Turned (fun k => k = g ∨ k = b) w w' := by
  by_cases h1 : inR n = false
  · rw [trE, trL, if_pos h1, if_pos h1]
    refine (truncate_bad g b cap l n w h h1).mono ?_
    rintro e w' ⟨rfl, hB⟩
    exact ⟨rfl, b, cap, h.below hB, .inl rfl, Turned.of_below hB⟩
  · have h1' : inR n = true := by simpa using h1
    simp only [inR, decide_eq_true_eq] at h1'
    obtain ⟨o, rfl⟩ : ∃ o : Nat, n = o := ⟨n.toNat, by omega⟩
    rw [trE, trL, if_neg h1, if_neg h1, Int.toNat_natCast]
    exact truncate_good g b cap l o w h (by omega)

/-- What ReadAt answers. -/
def Fi_rdE (off n : Int) : Int := if (inR off && inR n) = false then 4 else 0
def rdL (l : List UInt8) (off n : Int) : List UInt8 := if (inR off && inR n) = false then [] else piece l off.toNat n.toNat
theorem rdL_len (l : List UInt8) (off n : Int) : (rdL l off n).length ≤ l.length := by
  unfold rdL
  split
  · simp
  · rw [piece_len]; omega
theorem readAt_any (g b cap : Nat) (l : List UInt8) (off n : Int) (w : World) (h : FileAt w g b cap l) (hl : l.length ≤ 1048576) :
    Calls Tryz.prog 242 #[.pointer (some ⟨g, 0, none⟩), .int .i64 off, .int .i64 n] w fun e w' => ∃ v, e = .returned (.tuple #[v, .int .i64 (Fi_rdE off n)]) ∧ w'.ownsRow w.heap.size 5 1 v (rdL l off n).length ((rdL l off n).map bv) ∧ Below w.heap.size w w' := by
  by_cases h1 : (inR off && inR n) = false
  · rw [Fi_rdE, rdL, if_pos h1, if_pos h1]
    refine (readAt_bad g b cap l off n w h h1).mono ?_
    rintro e w' ⟨rfl, hB⟩
    exact ⟨_, rfl, World.ownsRow_nil _ _ _ _, hB⟩
  · have h1' : (inR off && inR n) = true := by simpa using h1
    simp only [Bool.and_eq_true, inR, decide_eq_true_eq] at h1'
    obtain ⟨o, rfl⟩ : ∃ o : Nat, off = o := ⟨off.toNat, by omega⟩
    obtain ⟨m, rfl⟩ : ∃ m : Nat, n = m := ⟨n.toNat, by omega⟩
    rw [Fi_rdE, rdL, if_neg h1, if_neg h1, Int.toNat_natCast, Int.toNat_natCast]
    refine (readAt_good g b cap l o m w h hl (by omega) (by omega)).mono ?_
    rintro e w' ⟨q, rfl, hown, hB⟩
    exact ⟨_, rfl, hown, hB⟩
end Go.Proofs.YtkkicbhmcjbmbaaGreat

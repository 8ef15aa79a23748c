/- What a word is: faultOf. -/
import Derived.Test.YtnabnnckhdileaaFStarts
import Derived.Test.YtnabnnckhdileaaRefInt
import Derived.Deep.RegionHeld3
import Derived.Laws.ResultCell
namespace Go.Proofs.Ytnabnnckhdileaa
open Go.RowKit

open Classical in
/-- What ParseInt answers. -/
noncomputable def piv (l : List UInt8) : Int × Int := if h : ∃ n : Int, -9223372036854775808 ≤ n ∧ n ≤ 9223372036854775807 ∧ dec n = l then (h.choose, 0) else (0, 11)
theorem piv_PI (l : List UInt8) : PI l (piv l).1 (piv l).2 := by
  unfold piv
  split
  · rename_i h
    exact .inl ⟨h.choose, h.choose_spec.1, h.choose_spec.2.1, h.choose_spec.2.2, rfl, rfl⟩
  · rename_i h
    exact .inr ⟨fun n h0 h1 hd => h ⟨n, h0, h1, hd⟩, rfl, rfl⟩
theorem PI.eq {l : List UInt8} {v x : Int} (h : PI l v x) : v = (piv l).1 ∧ x = (piv l).2 := pi_one h (piv_PI l)
theorem piv_code (l : List UInt8) : (piv l).2 = 0 ∨ (piv l).1 = 0 ∧ (piv l).2 = 11 := by
  rcases piv_PI l with ⟨n, _, _, _, _, h⟩ | ⟨_, h⟩
  · exact .inl h
  · exact .inr h

/-- What a word is. -/
noncomputable def fo (w : List UInt8) : Fault × Bool :=
  if w = [102] then ((0, 0), true) else if w = [105] then ((2, 0), true) else if w = [97] then ((3, 0), true)
  else if w.head? = some 115 then ((1, (piv w.tail).1), decide ((piv w.tail).2 = 0) && may (1, (piv w.tail).1)) else ((0, 0), false)

theorem pre_yes {l : List UInt8} (h : l.head? = some 115) : Lib.hasPrefix l [115] = true ∧ Lib.trimPrefix l [115] = l.tail := by
  cases l with
  | nil => simp at h
  | cons x r =>
    simp at h
    subst h
    simp [Lib.trimPrefix, Lib.hasPrefix, List.isPrefixOf]
theorem pre_no {l : List UInt8} (h : l.head? ≠ some 115) : Lib.hasPrefix l [115] = false := by
  cases l with
  | nil => rfl
  | cons x r =>
    simp at h
    have : ¬ (115 = x) := fun e => h e.symm
    simp [Lib.hasPrefix, List.isPrefixOf, this]

theorem new_zero {W w' : World} {x y : Value} {t : TypeId} (h : Below (W.alloc (Obj.cells #[x, y] t)).heap.size (W.alloc (Obj.cells #[x, y] t)) w') :
    w'.cell? ⟨W.heap.size, 0, none⟩ = some x ∧ w'.cell? ⟨W.heap.size, 1, none⟩ = some y ∧ w'.frozen? ⟨W.heap.size, 0, none⟩ = false ∧ w'.frozen? ⟨W.heap.size, 1, none⟩ = false :=
  ⟨(h.cell (p := ⟨W.heap.size, 0, none⟩) (size_new _ _)).trans (by simp only [World.cell?, heap_alloc_new]; rfl), (h.cell (p := ⟨W.heap.size, 1, none⟩) (size_new _ _)).trans (by simp only [World.cell?, heap_alloc_new]; rfl), (h.frozen (p := ⟨W.heap.size, 0, none⟩) (size_new _ _)).trans (by simp only [World.frozen?, heap_alloc_new]; rfl), (h.frozen (p := ⟨W.heap.size, 1, none⟩) (size_new _ _)).trans (by simp only [World.frozen?, heap_alloc_new]; rfl)⟩
theorem carry_zero {W w' : World} {b : Nat} {x y : Value} (h : Below W.heap.size W w') (z : W.cell? ⟨b, 0, none⟩ = some x ∧ W.cell? ⟨b, 1, none⟩ = some y ∧ W.frozen? ⟨b, 0, none⟩ = false ∧ W.frozen? ⟨b, 1, none⟩ = false) :
    w'.cell? ⟨b, 0, none⟩ = some x ∧ w'.cell? ⟨b, 1, none⟩ = some y ∧ w'.frozen? ⟨b, 0, none⟩ = false ∧ w'.frozen? ⟨b, 1, none⟩ = false := by
  have hl : b < W.heap.size := World.block_lt_of_cell? W _ z.1
  exact ⟨(h.cell (p := ⟨b, 0, none⟩) hl).trans z.1, (h.cell (p := ⟨b, 1, none⟩) hl).trans z.2.1, (h.frozen (p := ⟨b, 0, none⟩) hl).trans z.2.2.1, (h.frozen (p := ⟨b, 1, none⟩) hl).trans z.2.2.2⟩

theorem res_fault {fn : Func} {p u : Tmp} {w : World} (h : fn.results = #[.cell p 60, .tmp u]) (tmps : Array Value) (b : Nat) (hp : tmps.getD p undef = .pointer (some ⟨b, 0, none⟩)) (x y : Int) (h1 : w.cell? ⟨b, 0, none⟩ = some (.int .i64 x)) (h2 : w.cell? ⟨b, 1, none⟩ = some (.int .i64 y)) :
    (results fn tmps).run Try.prog w = .ok (.tuple #[.agg #[.int .i64 x, .int .i64 y], tmps.getD u undef]) w := by
  have a60 := Try.isAgg60
  have z60 := Try.sizeOf60
  have u3 := Try.underlying3
  have a3 := Try.isAgg3
  have z3 := Try.sizeOf3
  rw [results_cell_tmp h, hp]
  simp only [loadVar]
  go_simp

theorem fo_f : fo [102] = ((0, 0), true) := by simp [fo]
theorem fo_i : fo [105] = ((2, 0), true) := by simp [fo]
theorem fo_a : fo [97] = ((3, 0), true) := by simp [fo]
theorem fo_else {w : List UInt8} (h1 : w ≠ [102]) (h2 : w ≠ [105]) (h3 : w ≠ [97]) (h4 : w.head? ≠ some 115) : fo w = ((0, 0), false) := by simp [fo, h1, h2, h3, h4]
theorem fo_s {w : List UInt8} (h4 : w.head? = some 115) : fo w = ((1, (piv w.tail).1), decide ((piv w.tail).2 = 0) && may (1, (piv w.tail).1)) := by
  have h1 : w ≠ [102] := fun e => by rw [e] at h4; exact absurd h4 (by decide)
  have h2 : w ≠ [105] := fun e => by rw [e] at h4; exact absurd h4 (by decide)
  have h3 : w ≠ [97] := fun e => by rw [e] at h4; exact absurd h4 (by decide)
  simp [fo, h1, h2, h3, h4]
theorem str_ne {s : ByteArray} {l : List UInt8} (h : s.data.toList ≠ l) : (s.toList == l) = false := by
  rw [ByteArray.toList_eq]
  simpa using h
theorem str_eq {s : ByteArray} {l : List UInt8} (h : s.data.toList = l) : (s.toList == l) = true := by
  rw [ByteArray.toList_eq, h]
  simp

set_option maxRecDepth 100000 in
set_option maxHeartbeats 2000000 in
theorem faultOf_any (s : ByteArray) (hs : s.size ≤ 65536) (w : World) :
    Calls Try.prog 33 #[.string s] w fun e w' => e = .returned (.tuple #[fv (fo s.data.toList).1, .bool (fo s.data.toList).2]) ∧ Below w.heap.size w w' := by
  by_cases h1 : s.data.toList = [102]
  · have e1 := str_eq h1
    rw [h1, fo_f]
    clear h1
    go_enter Try.func33, Try.ntmps33
    go_wp2
    refine bodyPost_ret (res_fault rfl _ w.heap.size rfl 0 0 (by simp only [World.cell?, heap_alloc_new]; rfl) (by simp only [World.cell?, heap_alloc_new]; rfl)) rfl ?_
    exact ⟨rfl, (Below.refl _ _).alloc (Nat.le_refl _) _⟩
  · have e1 := str_ne h1
    by_cases h2 : s.data.toList = [105]
    · have e2 := str_eq h2
      rw [h2, fo_i]
      clear h1 h2
      go_enter Try.func33, Try.ntmps33
      go_wp2
      refine bodyPost_ret (res_fault rfl _ w.heap.size rfl 2 0 (by simp only [World.cell?, heap_alloc_new]; rfl) (by simp only [World.cell?, heap_alloc_new]; rfl)) rfl ?_
      exact ⟨rfl, (Below.refl _ _).alloc (Nat.le_refl _) _⟩
    · have e2 := str_ne h2
      by_cases h3 : s.data.toList = [97]
      · have e3 := str_eq h3
        rw [h3, fo_a]
        clear h1 h2 h3
        go_enter Try.func33, Try.ntmps33
        go_wp2
        refine bodyPost_ret (res_fault rfl _ w.heap.size rfl 3 0 (by simp only [World.cell?, heap_alloc_new]; rfl) (by simp only [World.cell?, heap_alloc_new]; rfl)) rfl ?_
        exact ⟨rfl, (Below.refl _ _).alloc (Nat.le_refl _) _⟩
      · have e3 := str_ne h3
        have HC := hide fun w => Try.strings_CutPrefix s ⟨#[115]⟩ w
        by_cases h4 : s.data.toList.head? = some 115
        · rw [fo_s h4]
          have hp := pre_yes h4
          rw [show (⟨#[115]⟩ : ByteArray).data.toList = [115] from rfl, hp.1, hp.2] at HC
          have HI := hide fun w => parseInt_any ⟨s.data.toList.tail.toArray⟩ w (by unfold maxLen; simp only [ByteArray.size, List.size_toArray, List.length_tail, Array.length_toList] at hs ⊢; omega)
          have hcode := piv_code s.data.toList.tail
          have HE := hide fun v x (h : PI s.data.toList.tail v x) => h.eq
          generalize s.data.toList.tail = D at *
          clear hp h4 h1 h2 h3
          generalize (piv D).1 = v at *
          generalize (piv D).2 = x at *
          go_enter Try.func33, Try.ntmps33
          go_wp2_with fail
          refine (HC.out _).mono ?_
          rintro e w1 ⟨rfl, rfl⟩
          have hB0 := (Below.refl w.heap.size w).alloc (Nat.le_refl _) (Obj.cells #[Value.int IntKind.i64 0, Value.int IntKind.i64 0] 60)
          go_wp2_with fail
          refine (HI.out _).mono ?_
          rintro e w2 ⟨⟨v', x', hP, rfl⟩, hB2⟩
          obtain ⟨rfl, rfl⟩ := HE.out v' x' hP
          clear hP HE HC HI
          have hz2 := hB2.size
          have hlt0 : w.heap.size < w2.heap.size := Nat.lt_of_lt_of_le (size_new _ _) hz2
          have r0 : w2.cell? ⟨w.heap.size, 0, none⟩ = some (.int .i64 0) := (hB2.cell (p := ⟨w.heap.size, 0, none⟩) (size_new _ _)).trans (by simp only [World.cell?, heap_alloc_new]; rfl)
          have r1 : w2.cell? ⟨w.heap.size, 1, none⟩ = some (.int .i64 0) := (hB2.cell (p := ⟨w.heap.size, 1, none⟩) (size_new _ _)).trans (by simp only [World.cell?, heap_alloc_new]; rfl)
          have q0 : w2.frozen? ⟨w.heap.size, 0, none⟩ = false := (hB2.frozen (p := ⟨w.heap.size, 0, none⟩) (size_new _ _)).trans (by simp only [World.frozen?, heap_alloc_new]; rfl)
          have q1 : w2.frozen? ⟨w.heap.size, 1, none⟩ = false := (hB2.frozen (p := ⟨w.heap.size, 1, none⟩) (size_new _ _)).trans (by simp only [World.frozen?, heap_alloc_new]; rfl)
          have hneq : w.heap.size ≠ w2.heap.size := by omega
          have hall : ∀ w', Below (w2.heap.size + 1) (w2.alloc (Obj.cells #[Value.int IntKind.i64 1, Value.int IntKind.i64 v'] 60)) w' → w'.cell? ⟨w2.heap.size, 0, none⟩ = some (.int .i64 1) ∧ w'.cell? ⟨w2.heap.size, 1, none⟩ = some (.int .i64 v') ∧ w'.cell? ⟨w.heap.size, 0, none⟩ = some (.int .i64 0) ∧ w'.cell? ⟨w.heap.size, 1, none⟩ = some (.int .i64 0) ∧ w'.frozen? ⟨w.heap.size, 0, none⟩ = false ∧ w'.frozen? ⟨w.heap.size, 1, none⟩ = false := fun w' hb => by
            have hw : w.heap.size < w2.heap.size + 1 := by omega
            have hx := Below.heap_alloc w2 (Obj.cells #[Value.int IntKind.i64 1, Value.int IntKind.i64 v'] 60) w.heap.size hlt0
            refine ⟨(hb.cell (p := ⟨w2.heap.size, 0, none⟩) (Nat.lt_succ_self _)).trans (by simp only [World.cell?, heap_alloc_new]; rfl), (hb.cell (p := ⟨w2.heap.size, 1, none⟩) (Nat.lt_succ_self _)).trans (by simp only [World.cell?, heap_alloc_new]; rfl), (hb.cell (p := ⟨w.heap.size, 0, none⟩) hw).trans ((World.cell?_of_block (w := w2) hx).trans r0), (hb.cell (p := ⟨w.heap.size, 1, none⟩) hw).trans ((World.cell?_of_block (w := w2) hx).trans r1), (hb.frozen (p := ⟨w.heap.size, 0, none⟩) hw).trans ((World.frozen?_of_block (w := w2) hx).trans q0), (hb.frozen (p := ⟨w.heap.size, 1, none⟩) hw).trans ((World.frozen?_of_block (w := w2) hx).trans q1)⟩
          have HA := hide hall
          clear hall r0 r1 q0 q1
          rcases hcode with rfl | ⟨rfl, rfl⟩
          · go_wp2_with fail
            go_region_held3 (fun w' => w'.cell? ⟨w2.heap.size, 0, none⟩ = some (.int .i64 1) ∧ w'.cell? ⟨w2.heap.size, 1, none⟩ = some (.int .i64 v'))
              (first | exact ⟨(HA.out _ (Below.refl _ _).drew).1, (HA.out _ (Below.refl _ _).drew).2.1⟩ | exact ⟨(HA.out _ ((Below.refl _ _).drew.trans (hB3.mono (by simp)))).1, (HA.out _ ((Below.refl _ _).drew.trans (hB3.mono (by simp)))).2.1⟩ | (constructor <;> (rw [World.cell?_setCell_far _ _ _ _ hneq, World.cell?_setCell_far _ _ _ _ hneq]; assumption)) | go_keep)
              (first | (go_at_call 26; refine (mayBe_any 1 v' _).mono ?_; rintro e w3 ⟨rfl, hB3⟩; obtain ⟨-, -, r0, r1, q0, q1⟩ := HA.out _ ((Below.refl _ _).drew.trans (hB3.mono (by simp)))))
            go_wp2
            have hBA : Below w.heap.size w w3 := ((hB0.trans (hB2.mono (Nat.le_of_lt (size_new _ _)))).alloc (Nat.le_of_lt hlt0) (Obj.cells #[Value.int IntKind.i64 1, Value.int IntKind.i64 v'] 60)).drew.trans (hB3.mono (Nat.le_trans (Nat.le_of_lt hlt0) (Nat.le_of_lt (size_new _ _))))
            refine bodyPost_ret (res_fault rfl _ w.heap.size rfl 1 v' (by rw [World.cell?_setCell_other _ _ _ _ (by simp)]; exact World.cell?_setCell_same _ _ _ r0) (World.cell?_setCell_same _ _ _ ((World.cell?_setCell_other _ _ _ _ (by simp)).trans r1))) rfl ?_
            refine ⟨ret2 rfl (congrArg Value.bool ?_), (hBA.setCell (p := ⟨w.heap.size, 0, none⟩) (Nat.le_refl _) _).setCell (p := ⟨w.heap.size, 1, none⟩) (Nat.le_refl _) _⟩
            simp
          · obtain ⟨z0, z1, r0, r1, q0, q1⟩ := HA.out _ (Below.refl _ _)
            have hBA : Below w.heap.size w (w2.alloc (Obj.cells #[Value.int IntKind.i64 1, Value.int IntKind.i64 0] 60)) := (hB0.trans (hB2.mono (Nat.le_of_lt (size_new _ _)))).alloc (Nat.le_of_lt hlt0) _
            clear HA
            go_wp2_with fail
            generalize w2.alloc (Obj.cells #[Value.int IntKind.i64 1, Value.int IntKind.i64 0] 60) = wA at *
            go_region
            go_wp2
            refine bodyPost_ret (res_fault rfl _ w.heap.size rfl 1 0 (by show ((wA.setCell ⟨w.heap.size, 0, none⟩ (.int .i64 1)).setCell ⟨w.heap.size, 1, none⟩ (.int .i64 0)).cell? _ = _; rw [World.cell?_setCell_other _ _ _ _ (by simp)]; exact World.cell?_setCell_same _ _ _ r0) (by show ((wA.setCell ⟨w.heap.size, 0, none⟩ (.int .i64 1)).setCell ⟨w.heap.size, 1, none⟩ (.int .i64 0)).cell? _ = _; exact World.cell?_setCell_same _ _ _ ((World.cell?_setCell_other _ _ _ _ (by simp)).trans r1))) rfl ?_
            refine ⟨ret2 rfl (congrArg Value.bool ?_), ((hBA.setCell (p := ⟨w.heap.size, 0, none⟩) (Nat.le_refl _) _).setCell (p := ⟨w.heap.size, 1, none⟩) (Nat.le_refl _) _).drew⟩
            simp
        · rw [fo_else h1 h2 h3 h4]
          rw [show (⟨#[115]⟩ : ByteArray).data.toList = [115] from rfl, pre_no h4] at HC
          generalize (⟨(Lib.trimPrefix s.data.toList [115]).toArray⟩ : ByteArray) = T at *
          clear h1 h2 h3 h4
          go_enter Try.func33, Try.ntmps33
          go_wp2_with fail
          refine (HC.out _).mono ?_
          rintro e w1 ⟨rfl, rfl⟩
          go_wp2
          refine bodyPost_ret (res_fault rfl _ w.heap.size rfl 0 0 (by simp only [World.cell?, heap_alloc_new]; rfl) (by simp only [World.cell?, heap_alloc_new]; rfl)) rfl ?_
          exact ⟨rfl, (Below.refl _ _).alloc (Nat.le_refl _) _⟩
end Go.Proofs.Ytnabnnckhdileaa

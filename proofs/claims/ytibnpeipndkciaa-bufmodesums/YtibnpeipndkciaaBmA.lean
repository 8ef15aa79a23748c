/- Buffers' modes: what the small functions answer. -/
import Derived.Test.YtibnpeipndkciaaBmV
import Derived.Test.YtibnpeipndkciaaTeRow
import Derived.Lib.BytesEntry
import Derived.Lib.MinMax
namespace Go.Proofs.Ytibnpeipndkciaa
open Go.RowKit

set_option maxHeartbeats 1000000 in
theorem bref_any (mode size : Int) (w : World) : Calls Try.prog 25 #[.int .i64 mode, .int .i64 size] w fun e w' => e = .returned (.int .i64 (bref mode size)) ∧ w = w' := by
  rcases (show mode < 1 ∨ 3 < mode ∨ (1 ≤ mode ∧ mode ≤ 3 ∧ size < 1) ∨ (1 ≤ mode ∧ mode ≤ 3 ∧ 65536 < size) ∨ (1 ≤ mode ∧ mode ≤ 3 ∧ 1 ≤ size ∧ size ≤ 65536) by omega) with h | h | ⟨h1, h2, h3⟩ | ⟨h1, h2, h3⟩ | ⟨h1, h2, h3, h4⟩
  all_goals
    go_enter Try.func25, Try.ntmps25
    go_wp2
    go_ret
    refine ⟨ret_int ?_, rfl⟩
    unfold bref
    first
    | rw [if_pos (by omega)]
    | rw [if_neg (by omega), if_pos (by omega)]
    | rw [if_neg (by omega), if_neg (by omega)]
set_option maxHeartbeats 1000000 in
theorem rbref_any (mode size : Int) (w : World) : Calls Try.prog 27 #[.int .i64 mode, .int .i64 size] w fun e w' => e = .returned (.int .i64 (bref mode size)) ∧ w = w' := by
  rcases (show mode < 1 ∨ 3 < mode ∨ (1 ≤ mode ∧ mode ≤ 3 ∧ size < 1) ∨ (1 ≤ mode ∧ mode ≤ 3 ∧ 65536 < size) ∨ (1 ≤ mode ∧ mode ≤ 3 ∧ 1 ≤ size ∧ size ≤ 65536) by omega) with h | h | ⟨h1, h2, h3⟩ | ⟨h1, h2, h3⟩ | ⟨h1, h2, h3, h4⟩
  all_goals
    go_enter Try.func27, Try.ntmps27
    go_wp2
    go_ret
    refine ⟨ret_int ?_, rfl⟩
    unfold bref
    first
    | rw [if_pos (by omega)]
    | rw [if_neg (by omega), if_pos (by omega)]
    | rw [if_neg (by omega), if_neg (by omega)]
theorem bref_ok {mode size : Int} (h : bref mode size = 0) : 1 ≤ mode ∧ mode ≤ 3 ∧ 1 ≤ size ∧ size ≤ 65536 := by
  unfold bref at h
  split at h
  · omega
  split at h
  · omega
  omega
theorem bref_zero {mode size : Int} (h : 1 ≤ mode ∧ mode ≤ 3 ∧ 1 ≤ size ∧ size ≤ 65536) : bref mode size = 0 := by
  unfold bref
  rw [if_neg (by omega), if_neg (by omega)]
set_option maxHeartbeats 1000000 in
theorem broom_any (mode size : Int) (w : World) : Calls Try.prog 29 #[.int .i64 mode, .int .i64 size] w fun e w' => e = .returned (.int .i64 (brm mode size)) ∧ w = w' := by
  by_cases h : mode = 1
  · subst h
    go_enter Try.func29, Try.ntmps29
    go_wp2
    go_ret
    exact ⟨ret_int (by unfold brm; rw [if_pos rfl]), rfl⟩
  · have h2 : (mode == 1) = false := by simpa using h
    go_enter Try.func29, Try.ntmps29
    go_wp2
    go_ret
    exact ⟨ret_int (by unfold brm; rw [if_neg h]), rfl⟩
set_option maxHeartbeats 1000000 in
theorem bpieces_any (n m : Nat) (w : World) (hn : n ≤ 1048576) (h1 : 1 ≤ m) (h2 : m ≤ 65536) : Calls Try.prog 30 #[.int .i64 n, .int .i64 m] w fun e w' => e = .returned (.int .i64 (pcs n m)) ∧ w = w' := by
  have h0 : ¬ m = 0 := by omega
  have h3 : ¬ (m : Int) = 0 := by omega
  have h4 : ((m : Int) == 0) = false := by simpa using h3
  have h5 : (m == 0) = false := by simpa using h0
  have hb : ((n : Int) + (m : Int) - 1) / (m : Int) = (pcs n m : Int) := by
    unfold pcs
    rw [Int.natCast_ediv]
    congr 1
    omega
  have hp := pcs_le (n := n) h1
  have hw : wrap64 (((n : Int) + (m : Int) - 1) / (m : Int)) = (pcs n m : Int) := by rw [hb]; unfold wrap64; omega
  have hw2 : IntKind.i64.wrap (((n : Int) + (m : Int) - 1) / (m : Int)) = (pcs n m : Int) := by rw [hb, IntKind.wrap_i64]; omega
  have HW := hide hw
  have HW2 := hide hw2
  have HW3 := hide hb
  clear hw hw2 hb hp
  go_enter Try.func30, Try.ntmps30
  go_wp2
  go_ret
  exact ⟨ret_int (by first | exact HW.out | exact HW2.out | exact HW3.out), rfl⟩
def cntB (n : Int) : Bool := decide (0 ≤ n ∧ n ≤ 1048576)
set_option maxHeartbeats 1000000 in
theorem bcount_any (n : Int) (w : World) : Calls Try.prog 28 #[.int .i64 n] w fun e w' => e = .returned (.bool (cntB n)) ∧ w = w' := by
  rcases (show n < 0 ∨ 1048576 < n ∨ (0 ≤ n ∧ n ≤ 1048576) by omega) with h | h | ⟨h, h2⟩
  all_goals
    go_enter Try.func28, Try.ntmps28
    go_wp2
    go_ret
    refine ⟨ret_bool ?_, rfl⟩
    unfold cntB
    first
    | exact (decide_eq_true (by omega)).symm
    | exact (decide_eq_false (by omega)).symm
    | (rw [decide_eq_false (p := 0 ≤ n ∧ n ≤ 1048576) (by omega)]; exact decide_eq_false (by omega))
theorem idx_lnw (l : List UInt8) : (if 0 ≤ Lib.indexByte l 10 then Lib.indexByte l 10 + 1 else (l.length : Int)) = (lnw l : Int) := by
  induction l with
  | nil => rfl
  | cons c l ih =>
    have hg := Lib.indexByte_ge l 10
    unfold Lib.indexByte lnw
    by_cases h : c = 10
    · subst h
      simp
    · have h2 : (c == 10) = false := by simpa using h
      rw [h2, if_neg h]
      simp only [Bool.false_eq_true, if_false]
      by_cases h3 : Lib.indexByte l 10 = -1
      · rw [h3] at ih ⊢
        simp at ih ⊢
        omega
      · have h4 : (Lib.indexByte l 10 == -1) = false := by simpa using h3
        rw [h4]
        simp only [Bool.false_eq_true, if_false]
        rw [if_pos (by omega)] at ih
        rw [if_pos (by omega)]
        omega
theorem bytesOf_map (l : List UInt8) : Lib.bytesOf (l.map fun c => (c.toNat : Int)) = l := by
  unfold Lib.bytesOf
  rw [List.map_map]
  conv => rhs; rw [← List.map_id l]
  apply List.map_congr_left
  intro c _
  simp
set_option maxHeartbeats 1000000 in
set_option maxRecDepth 100000 in
theorem bindex_any (b o c : Nat) (l : List UInt8) (w : World) (h : ∀ j, j < l.length → w.cell? ⟨b, o + j, none⟩ = some (.int .u8 ((l.getD j 0).toNat : Int))) :
    Calls Try.prog 62 #[.slice (some ⟨b, o, none⟩) l.length c, .int .u8 10] w fun e w' => e = .returned (.int .i64 (Lib.indexByte l 10)) ∧ w' = w := by
  have HR := hide (Lib.run_indexByteSlice (P := Try.prog) w b o l.length c (l.map fun c => (c.toNat : Int)) (by simp) (fun i hi => by
    rw [h i hi]
    congr 2
    simp [List.getD_eq_getElem?_getD, List.getElem?_eq_getElem hi]) 10)
  rw [bytesOf_map, show ((10 : Int).toNat.toUInt8) = (10 : UInt8) from rfl] at HR
  clear h
  go_enter Try.func62, Try.ntmps62
  go_wp2
  rw [run_callFunc_extern Try.func69 (by kernel_rfl) (by kernel_rfl) (by kernel_rfl) (e := Extern.BytealgIndexByte.indexByte) (by kernel_rfl), HR.out]
  simp only [Result.andThen]
  rw [Oper.upon_value]
  go_wp2
  go_ret
  exact ⟨rfl, rfl⟩
set_option maxHeartbeats 1000000 in
theorem bline_any (b o c : Nat) (l : List UInt8) (w : World) (h : ∀ j, j < l.length → w.cell? ⟨b, o + j, none⟩ = some (.int .u8 ((l.getD j 0).toNat : Int))) (hl : l.length ≤ 1048576) :
    Calls Try.prog 46 #[.slice (some ⟨b, o, none⟩) l.length c] w fun e w' => e = .returned (.int .i64 (lnw l)) ∧ w' = w := by
  have HC := hide (bindex_any b o c l w h)
  have hv := idx_lnw l
  have hle := lnw_le l
  clear h
  generalize Lib.indexByte l 10 = q at *
  by_cases hq : 0 ≤ q
  · rw [if_pos hq] at hv
    have hq2 : q ≤ 1048576 := by omega
    have HV := hide hv
    clear hv
    go_enter Try.func46, Try.ntmps46
    go_wp2_with (go_at_call 62; refine HC.out.mono ?_; rintro _ _ ⟨rfl, rfl⟩)
    go_ret
    exact ⟨ret_int HV.out, rfl⟩
  · rw [if_neg hq] at hv
    have HV := hide hv
    clear hv
    go_enter Try.func46, Try.ntmps46
    go_wp2_with (go_at_call 62; refine HC.out.mono ?_; rintro _ _ ⟨rfl, rfl⟩)
    go_ret
    exact ⟨ret_int HV.out, rfl⟩
end Go.Proofs.Ytibnpeipndkciaa

/- What bufmode's Writes and Reads and the reference's answer, for every input. -/
import Derived.Test.YtibnpeipndkciaaBmW
import Derived.Laws.AppendOwnNone
namespace Go.Proofs.Ytibnpeipndkciaa
open Go.RowKit

def bwE (mode size : Int) (t : List UInt8) : Int := if bref mode size ≠ 0 then bref mode size else if 1048576 < t.length then 5 else 0
def bwL (mode size : Int) (t : List UInt8) : List Nat := if bwE mode size t = 0 then rwr (decide (mode = 2)) (brm mode size).toNat 0 t else []
theorem bwE_ok {mode size : Int} {t : List UInt8} (h : bwE mode size t = 0) : bref mode size = 0 ∧ t.length ≤ 1048576 := by
  unfold bwE at h
  split at h
  · contradiction
  split at h
  · omega
  rename_i h1 h2
  exact ⟨by simpa using h1, by omega⟩
theorem brm_nat {mode size : Int} (h : bref mode size = 0) : ∃ m : Nat, brm mode size = (m : Int) ∧ (brm mode size).toNat = m ∧ 1 ≤ m ∧ m ≤ 65536 := by
  obtain ⟨q1, q2, q3, q4⟩ := bref_ok h
  have hbm : 1 ≤ brm mode size ∧ brm mode size ≤ 65536 := by unfold brm; split <;> omega
  exact ⟨(brm mode size).toNat, by omega, rfl, by omega, by omega⟩
theorem bwL_len {mode size : Int} {t : List UInt8} : (bwL mode size t).length ≤ 1048576 := by
  unfold bwL
  split
  · rename_i h
    obtain ⟨h1, h2⟩ := bwE_ok h
    obtain ⟨m, -, h3, h4, -⟩ := brm_nat h1
    rw [h3]
    have := rwr_len_le (decide (mode = 2)) m t 0 (by omega)
    omega
  · simp
set_option maxRecDepth 100000 in
set_option maxHeartbeats 1000000 in
theorem bwrites_any (mode size : Int) (ta : Option Addr) (tc : Nat) (t : List UInt8) (htc : t.length ≤ tc) (w : World) (hb : Bys w (.slice ta t.length tc) t) :
    Calls Try.prog 8 #[.int .i64 mode, .int .i64 size, .slice ta t.length tc] w fun e w' => ∃ v, e = .returned (.tuple #[v, .int .i64 (bwE mode size t)]) ∧ w'.ownsRow w.heap.size 3 1 v (bwL mode size t).length (nvs (bwL mode size t)) ∧ Below w.heap.size w w' := by
  by_cases h1 : bref mode size = 0
  · by_cases h2 : 1048576 < t.length
    · have h3 : bwE mode size t = 5 := by unfold bwE; rw [if_neg (by simpa using h1), if_pos h2]
      have h4 : bwL mode size t = [] := by unfold bwL; rw [h3, if_neg (by decide)]
      rw [h3, h4]
      have h5 : (1048576 : Int) < (t.length : Int) := by omega
      have HB := hide (fun W => bref_any mode size W)
      rw [h1] at HB
      clear h1 h2 h3 h4 hb
      go_enter Try.func8, Try.ntmps8
      go_wp2_with (go_at_call 25; refine (HB.out _).mono ?_; rintro _ _ ⟨rfl, rfl⟩)
      go_ret2
      exact ⟨_, rfl, World.ownsRow_nil _ _ _ _, Below.refl _ _⟩
    · have h3 : bwE mode size t = 0 := by unfold bwE; rw [if_neg (by simpa using h1), if_neg h2]
      have h4 : bwL mode size t = rwr (decide (mode = 2)) (brm mode size).toNat 0 t := by unfold bwL; rw [h3, if_pos rfl]
      rw [h3, h4]
      exact callsIn_wide.1 (bwrites_in 3 (Nat.le_refl _) mode size ta tc t h1 (by omega) htc w hb)
  · have h3 : bwE mode size t = bref mode size := by unfold bwE; rw [if_pos h1]
    have h4 : bwL mode size t = [] := by unfold bwL; rw [h3, if_neg h1]
    rw [h3, h4]
    have HB := hide (fun W => bref_any mode size W)
    generalize bref mode size = q at *
    have h5 : (q == 0) = false := by simpa using h1
    have h6 : (q != 0) = true := by simpa using h1
    clear h3 h4 hb
    go_enter Try.func8, Try.ntmps8
    go_wp2_with (go_at_call 25; refine (HB.out _).mono ?_; rintro _ _ ⟨rfl, rfl⟩)
    go_ret2
    exact ⟨_, rfl, World.ownsRow_nil _ _ _ _, Below.refl _ _⟩
set_option maxRecDepth 100000 in
set_option maxHeartbeats 4000000 in
theorem rbwrites_any (mode size : Int) (ta : Option Addr) (tc : Nat) (t : List UInt8) (w : World) (hb : Bys w (.slice ta t.length tc) t) (htt : t.length ≤ 140737488351232) :
    Calls Try.prog 9 #[.int .i64 mode, .int .i64 size, .slice ta t.length tc] w fun e w' => ∃ v, e = .returned (.tuple #[v, .int .i64 (bwE mode size t)]) ∧ w'.ownsRow w.heap.size 3 1 v (bwL mode size t).length (nvs (bwL mode size t)) ∧ Below w.heap.size w w' := by
  obtain ⟨i0, hi, hz0, hz1, hz2⟩ := info_parts Try.infoI
  by_cases h1 : bref mode size = 0
  · by_cases h2 : 1048576 < t.length
    · have h3 : bwE mode size t = 5 := by unfold bwE; rw [if_neg (by simpa using h1), if_pos h2]
      have h4 : bwL mode size t = [] := by unfold bwL; rw [h3, if_neg (by decide)]
      rw [h3, h4]
      have h5 : (1048576 : Int) < (t.length : Int) := by omega
      have HB := hide (fun W => rbref_any mode size W)
      rw [h1] at HB
      clear h1 h2 h3 h4 hb
      go_enter Try.func9, Try.ntmps9
      go_wp2_with (go_at_call 27; refine (HB.out _).mono ?_; rintro _ _ ⟨rfl, rfl⟩)
      go_ret2
      exact ⟨_, rfl, World.ownsRow_nil _ _ _ _, Below.refl _ _⟩
    · have h3 : bwE mode size t = 0 := by unfold bwE; rw [if_neg (by simpa using h1), if_neg h2]
      have h4 : bwL mode size t = rwr (decide (mode = 2)) (brm mode size).toNat 0 t := by unfold bwL; rw [h3, if_pos rfl]
      rw [h3, h4]
      obtain ⟨m, hm, hmt, hm1, hm2⟩ := brm_nat h1
      rw [hmt]
      have HB := hide (fun W => rbref_any mode size W)
      rw [h1] at HB
      obtain ⟨q1, q2, q3, q4⟩ := bref_ok h1
      obtain ⟨R, hR⟩ : ∃ R, R = rwr (decide (mode = 2)) m 0 t := ⟨_, rfl⟩
      have hRl : R.length ≤ 1048576 := by rw [hR]; have := rwr_len_le (decide (mode = 2)) m t 0 (by omega); omega
      rw [← hR]
      have HR := hide hR
      have HBy := hide hb
      have HM := hide hm
      have hle : ¬ (1048576 : Int) < (t.length : Int) := by omega
      clear hR hb h1 h2 h3 h4 hm hmt
      go_enter Try.func9, Try.ntmps9
      go_wp2_with (go_at_call 27; refine (HB.out _).mono ?_; rintro _ _ ⟨rfl, rfl⟩)
      go_loopw [9, 10, 11] (fun o n i wr => ∃ (k j : Nat) (p : List Nat), k ≤ t.length ∧ i = .int .i64 k ∧ n = .int .i64 j ∧ j < m ∧ Hid (p ++ rwr (decide (mode = 2)) m j (t.drop k) = R) ∧ Hid (wr.ownsRow w.heap.size 3 1 o p.length (nvs p)) ∧ p.length ≤ k ∧ Hid (Below w.heap.size w wr)) (fun _ _ i _ => t.length - (intOf i).toNat)
      case atStart => exact ⟨0, 0, [], Nat.zero_le _, rfl, rfl, by omega, hide (by rw [HR.out]; rfl), hide (World.ownsRow_nil _ _ _ _), Nat.le_refl _, hide (Below.refl _ _)⟩
      case round =>
        obtain ⟨k, j, p, hk, rfl, rfl, hj, HP, HO, hpk, HBr⟩ := hrel
        have hzr := HBr.out.size
        by_cases hlt : k < t.length
        case neg =>
          obtain rfl : k = t.length := by omega
          have hp := HP.out
          rw [List.drop_length] at hp
          obtain ⟨oa, oc, rfl⟩ := owns_slice HO.out
          unfold rwr at hp
          by_cases hj0 : 0 < j
          · rw [if_pos hj0] at hp
            have hj2 : (0 : Int) < (j : Int) := by omega
            have HPp := hide hp
            clear hp HP
            go_wp2_with (at_builtin; refine wpList_append_own _ rfl _ _ 23 rfl w.heap.size 3 i0 (.int .i64 0) 1 8 Try.underlying23 hi hz0 hz1 hz2 rfl (by decide) _ _ _ rfl (HO.out.alloc _) ⟨wr.heap.size, 0, none⟩ 1 1 [.int .i64 (j : Int)] rfl rfl (cell_one_new _ _ _) (by simp [Value.oneCell']) (by unfold maxLen; omega) (by omega) (by simp; omega) ?_; intro v' w1 hown hgrow hnil; obtain ⟨va, vc, rfl⟩ := owns_slice hown)
            go_ret2
            refine ⟨_, rfl, by rw [← HPp.out]; simpa [nvs] using hown, (HBr.out.alloc (by omega) _).grown hgrow (by simp; omega) (fun j e => (HO.out.lt j e).1)⟩
          · rw [if_neg hj0, List.append_nil] at hp
            subst hp
            have hj2 : ¬ (0 : Int) < (j : Int) := by omega
            clear HP
            go_wp2
            go_ret2
            exact ⟨_, rfl, HO.out, HBr.out⟩
        have hp := HP.out
        rw [List.drop_eq_getElem_cons hlt] at hp
        have hcell : ∃ b off, ta = some ⟨b, off, none⟩ ∧ wr.cell? ⟨b, off + k, none⟩ = some (.int .u8 (((t[k]).toNat : Nat) : Int)) := by
          obtain ⟨-, qb, qo, e, -, hc⟩ := bys_block (HBy.out.below HBr.out) (by omega)
          refine ⟨qb, qo, e, ?_⟩
          rw [hc k hlt, List.getD_eq_getElem?_getD, List.getElem?_eq_getElem hlt]
          rfl
        generalize t[k] = c at *
        obtain ⟨b, off, rfl, hcell⟩ := hcell
        rw [show rwr (decide (mode = 2)) m j (c :: t.drop (k + 1)) = if j + 1 = m ∨ (decide (mode = 2) = true ∧ c = 10) then (j + 1) :: rwr (decide (mode = 2)) m 0 (t.drop (k + 1)) else rwr (decide (mode = 2)) m (j + 1) (t.drop (k + 1)) from rfl] at hp
        have hk1 : (0 : Int) ≤ (k : Int) := by omega
        have hk2 : (k : Int) < (t.length : Int) := by omega
        obtain ⟨oa, oc, rfl⟩ := owns_slice HO.out
        have hM := HM.out
        unfold brm at hM
        rcases (show (mode = 1 ∧ j + 1 = m) ∨ (¬ mode = 1 ∧ (m : Int) = size ∧ ((j + 1 = m) ∨ (¬ j + 1 = m ∧ mode = 2 ∧ c = 10) ∨ (¬ j + 1 = m ∧ mode = 2 ∧ ¬ c = 10) ∨ (¬ j + 1 = m ∧ ¬ mode = 2))) by
          by_cases e1 : mode = 1
          · rw [if_pos e1] at hM; exact .inl ⟨e1, by omega⟩
          · rw [if_neg e1] at hM
            refine .inr ⟨e1, hM.symm, ?_⟩
            by_cases e2 : j + 1 = m
            · exact .inl e2
            · by_cases e3 : mode = 2
              · by_cases e4 : c = 10
                · exact .inr (.inl ⟨e2, e3, e4⟩)
                · exact .inr (.inr (.inl ⟨e2, e3, e4⟩))
              · exact .inr (.inr (.inr ⟨e2, e3⟩))) with ⟨e1, e2⟩ | ⟨e1, es, e2 | ⟨e2, e3, e4⟩ | ⟨e2, e3, e4⟩ | ⟨e2, e3⟩⟩
        · skip
          rw [if_pos (.inl e2)] at hp
          have HPp := hide hp
          have hjm : (j : Int) + 1 ≤ 65536 := by omega
          have b1 : (mode == 1) = true := by simpa using e1
          clear hp HP hM e1
          go_wp2_with (first | (at_builtin; refine wpList_append_own _ rfl _ _ 23 rfl w.heap.size 3 i0 (.int .i64 0) 1 8 Try.underlying23 hi hz0 hz1 hz2 rfl (by decide) _ _ _ rfl (HO.out.alloc _) ⟨wr.heap.size, 0, none⟩ 1 1 [.int .i64 ((j : Int) + 1)] rfl rfl (cell_one_new _ _ _) (by simp [Value.oneCell']) (by unfold maxLen; omega) (by omega) (by simp; omega) ?_; intro v' w1 hown hgrow hnil; obtain ⟨va, vc, rfl⟩ := owns_slice hown) | fail)
          go_roundw
          case rel => exact ⟨k + 1, 0, p ++ [j + 1], by omega, by go_num, rfl, by omega, hide (by rw [List.append_assoc]; exact HPp.out), hide (by rw [List.length_append]; simpa [nvs] using hown), by rw [List.length_append, List.length_singleton]; omega, hide ((HBr.out.alloc (by omega) _).grown hgrow (by simp; omega) (fun j e => (HO.out.lt j e).1))⟩
          case measure => simp [intOf]; omega
        · skip
          rw [if_pos (.inl e2)] at hp
          have HPp := hide hp
          have hjm : (j : Int) + 1 ≤ 65536 := by omega
          have b1 : (mode == 1) = false := by simpa using e1
          have b2 : ((j : Int) + 1 == size) = true := by simp only [beq_iff_eq]; omega
          clear hp HP hM e1 es
          go_wp2_with (first | (at_builtin; refine wpList_append_own _ rfl _ _ 23 rfl w.heap.size 3 i0 (.int .i64 0) 1 8 Try.underlying23 hi hz0 hz1 hz2 rfl (by decide) _ _ _ rfl (HO.out.alloc _) ⟨wr.heap.size, 0, none⟩ 1 1 [.int .i64 ((j : Int) + 1)] rfl rfl (cell_one_new _ _ _) (by simp [Value.oneCell']) (by unfold maxLen; omega) (by omega) (by simp; omega) ?_; intro v' w1 hown hgrow hnil; obtain ⟨va, vc, rfl⟩ := owns_slice hown) | fail)
          go_roundw
          case rel => exact ⟨k + 1, 0, p ++ [j + 1], by omega, by go_num, rfl, by omega, hide (by rw [List.append_assoc]; exact HPp.out), hide (by rw [List.length_append]; simpa [nvs] using hown), by rw [List.length_append, List.length_singleton]; omega, hide ((HBr.out.alloc (by omega) _).grown hgrow (by simp; omega) (fun j e => (HO.out.lt j e).1))⟩
          case measure => simp [intOf]; omega
        · skip
          rw [if_pos (.inr ⟨by simpa using e3, e4⟩)] at hp
          have HPp := hide hp
          have hjm : (j : Int) + 1 ≤ 65536 := by omega
          have b1 : (mode == 1) = false := by simpa using e1
          have b2 : ((j : Int) + 1 == size) = false := by simp only [beq_eq_false_iff_ne]; omega
          have b4 : ¬ (j : Int) + 1 = size := by omega
          have b3 : (mode == 2) = true := by simpa using e3
          have b5 : ((c.toNat : Int) == 10) = true := by rw [e4]; rfl
          have b6 : (c.toNat : Int) = 10 := by rw [e4]; rfl
          clear hp HP hM e1 es e3 e4
          go_wp2_with (first | (at_builtin; refine wpList_append_own _ rfl _ _ 23 rfl w.heap.size 3 i0 (.int .i64 0) 1 8 Try.underlying23 hi hz0 hz1 hz2 rfl (by decide) _ _ _ rfl (HO.out.alloc _) ⟨wr.heap.size, 0, none⟩ 1 1 [.int .i64 ((j : Int) + 1)] rfl rfl (cell_one_new _ _ _) (by simp [Value.oneCell']) (by unfold maxLen; omega) (by omega) (by simp; omega) ?_; intro v' w1 hown hgrow hnil; obtain ⟨va, vc, rfl⟩ := owns_slice hown) | fail)
          go_roundw
          case rel => exact ⟨k + 1, 0, p ++ [j + 1], by omega, by go_num, rfl, by omega, hide (by rw [List.append_assoc]; exact HPp.out), hide (by rw [List.length_append]; simpa [nvs] using hown), by rw [List.length_append, List.length_singleton]; omega, hide ((HBr.out.alloc (by omega) _).grown hgrow (by simp; omega) (fun j e => (HO.out.lt j e).1))⟩
          case measure => simp [intOf]; omega
        · skip
          rw [if_neg (fun e => by rcases e with e | e; exact e2 e; exact e4 e.2)] at hp
          have HPp := hide hp
          have hjm : (j : Int) + 1 ≤ 65536 := by omega
          have b1 : (mode == 1) = false := by simpa using e1
          have b2 : ((j : Int) + 1 == size) = false := by simp only [beq_eq_false_iff_ne]; omega
          have b4 : ¬ (j : Int) + 1 = size := by omega
          have b3 : (mode == 2) = true := by simpa using e3
          have b6 : ¬ (c.toNat : Int) = 10 := fun e => e4 (UInt8.toNat_inj.1 (by rw [show (10 : UInt8).toNat = 10 from rfl]; omega))
          have b5 : ((c.toNat : Int) == 10) = false := by simpa using b6
          clear hp HP hM e1 es e3 e4
          go_wp2
          go_roundw
          case rel => exact ⟨k + 1, j + 1, p, by omega, by go_num, by go_num, by omega, HPp, HO, by omega, HBr⟩
          case measure => simp [intOf]; omega
        · skip
          rw [if_neg (fun e => by rcases e with e | e; exact e2 e; exact e3 (by simpa using e.1))] at hp
          have HPp := hide hp
          have hjm : (j : Int) + 1 ≤ 65536 := by omega
          have b1 : (mode == 1) = false := by simpa using e1
          have b2 : ((j : Int) + 1 == size) = false := by simp only [beq_eq_false_iff_ne]; omega
          have b4 : ¬ (j : Int) + 1 = size := by omega
          have b3 : (mode == 2) = false := by simpa using e3
          clear hp HP hM e1 es e3
          go_wp2
          go_roundw
          case rel => exact ⟨k + 1, j + 1, p, by omega, by go_num, by go_num, by omega, HPp, HO, by omega, HBr⟩
          case measure => simp [intOf]; omega
  · have h3 : bwE mode size t = bref mode size := by unfold bwE; rw [if_pos h1]
    have h4 : bwL mode size t = [] := by unfold bwL; rw [h3, if_neg h1]
    rw [h3, h4]
    have HB := hide (fun W => rbref_any mode size W)
    generalize bref mode size = q at *
    have h5 : (q == 0) = false := by simpa using h1
    have h6 : (q != 0) = true := by simpa using h1
    clear h3 h4 hb
    go_enter Try.func9, Try.ntmps9
    go_wp2_with (go_at_call 27; refine (HB.out _).mono ?_; rintro _ _ ⟨rfl, rfl⟩)
    go_ret2
    exact ⟨_, rfl, World.ownsRow_nil _ _ _ _, Below.refl _ _⟩
end Go.Proofs.Ytibnpeipndkciaa

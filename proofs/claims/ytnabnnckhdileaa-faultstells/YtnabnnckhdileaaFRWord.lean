/- The reference's word, for any text that is not empty. -/
import Derived.Test.YtnabnnckhdileaaFFault
namespace Go.Proofs.Ytnabnnckhdileaa
open Go.RowKit

theorem dec_short {n : Int} (h0 : 1 ≤ n) (h1 : n ≤ 1048576) : 1 ≤ (dec n).length ∧ (dec n).length ≤ 7 := by
  rw [dec, if_neg (by omega), digs_length]
  obtain ⟨_, t2⟩ := top_spec 10 n.natAbs (by omega) (by omega)
  have ht : top 10 n.natAbs < 7 := by
    rcases t2 with t2 | t2
    · omega
    · have : (10 : Nat) ^ top 10 n.natAbs < 10 ^ 7 := by
        have e : (10 : Nat) ^ 7 = 10000000 := by decide
        omega
      exact (Nat.pow_lt_pow_iff_right (by omega)).1 this
  omega
theorem fo_s_len {b : List UInt8} (h : b.head? = some 115) (hl : b.length < 2 ∨ 8 < b.length) : (fo b).2 = false := by
  rw [fo_s h]
  by_cases hx : (piv b.tail).2 = 0
  · rcases piv_PI b.tail with ⟨n, n0, n1, hd, hv, _⟩ | ⟨_, _, h11⟩
    · by_cases hm : may (1, (piv b.tail).1) = true
      · rw [may_one] at hm
        have h2 := of_decide_eq_true hm
        rw [hv] at h2
        have h3 := dec_short h2.1 h2.2
        rw [hd, List.length_tail] at h3
        omega
      · simp at hm
        simp [hm]
    · rw [hx] at h11
      exact absurd h11 (by decide)
  · simp [hx]
theorem head_at (s : ByteArray) (h : 0 < s.size) : s.data.toList.head? = some s[0] := by
  have h' : 0 < s.data.toList.length := by rw [Array.length_toList]; exact h
  rw [List.head?_eq_getElem?, List.getElem?_eq_getElem h']
  rfl

set_option maxRecDepth 100000 in
set_option maxHeartbeats 4000000 in
theorem rword_any (s : ByteArray) (hp : 0 < s.size) (hs : s.size ≤ 65536) (w : World) :
    Calls Try.prog 36 #[.string s] w fun e w' => ∃ f : Fault, e = .returned (.tuple #[fv f, .bool (fo s.data.toList).2]) ∧ ((fo s.data.toList).2 = true → f = (fo s.data.toList).1) ∧ Below w.heap.size w w' := by
  by_cases h1 : s.data.toList = [102]
  · have e1 := str_eq h1
    rw [h1, fo_f]
    clear h1
    go_enter Try.func36, Try.ntmps36
    go_wp2
    refine bodyPost_ret (res_fault rfl _ w.heap.size rfl 0 0 (by simp only [World.cell?, heap_alloc_new]; rfl) (by simp only [World.cell?, heap_alloc_new]; rfl)) rfl ?_
    exact ⟨(0, 0), rfl, fun _ => rfl, (Below.refl _ _).alloc (Nat.le_refl _) _⟩
  · have e1 := str_ne h1
    by_cases h2 : s.data.toList = [105]
    · have e2 := str_eq h2
      rw [h2, fo_i]
      clear h1 h2
      go_enter Try.func36, Try.ntmps36
      go_wp2
      refine bodyPost_ret (res_fault rfl _ w.heap.size rfl 2 0 (by simp only [World.cell?, heap_alloc_new]; rfl) (by simp only [World.cell?, heap_alloc_new]; rfl)) rfl ?_
      exact ⟨(2, 0), rfl, fun _ => rfl, (Below.refl _ _).alloc (Nat.le_refl _) _⟩
    · have e2 := str_ne h2
      by_cases h3 : s.data.toList = [97]
      · have e3 := str_eq h3
        rw [h3, fo_a]
        clear h1 h2 h3
        go_enter Try.func36, Try.ntmps36
        go_wp2
        refine bodyPost_ret (res_fault rfl _ w.heap.size rfl 3 0 (by simp only [World.cell?, heap_alloc_new]; rfl) (by simp only [World.cell?, heap_alloc_new]; rfl)) rfl ?_
        exact ⟨(3, 0), rfl, fun _ => rfl, (Below.refl _ _).alloc (Nat.le_refl _) _⟩
      · have e3 := str_ne h3
        have hh := head_at s hp
        have hp' : (0 : Int) < (s.size : Int) := by omega
        by_cases h4 : ((s[0].toNat : Int)) = 115
        · have h4' : s[0] = 115 := UInt8.toNat_inj.1 (by simpa using (by omega : s[0].toNat = 115))
          rw [h4'] at hh
          have hlen : s.data.toList.length = s.size := Array.length_toList
          by_cases h5 : s.size < 2 ∨ 8 < s.size
          · have hf := fo_s_len hh (by rw [hlen]; exact h5)
            generalize fo s.data.toList = FO at *
            rw [hf]
            clear hf hh h1 h2 h3 h4' hlen
            rcases h5 with h5 | h5
            · have h5' : (s.size : Int) < 2 := by omega
              go_enter Try.func36, Try.ntmps36
              go_wp2
              refine bodyPost_ret (res_fault rfl _ w.heap.size rfl 0 0 (by simp only [World.cell?, heap_alloc_new]; rfl) (by simp only [World.cell?, heap_alloc_new]; rfl)) rfl ?_
              exact ⟨(0, 0), rfl, fun e => (by cases e), (Below.refl _ _).alloc (Nat.le_refl _) _⟩
            · have h5' : (8 : Int) < (s.size : Int) := by omega
              go_enter Try.func36, Try.ntmps36
              go_wp2
              refine bodyPost_ret (res_fault rfl _ w.heap.size rfl 0 0 (by simp only [World.cell?, heap_alloc_new]; rfl) (by simp only [World.cell?, heap_alloc_new]; rfl)) rfl ?_
              exact ⟨(0, 0), rfl, fun e => (by cases e), (Below.refl _ _).alloc (Nat.le_refl _) _⟩
          · have h5a : (2 : Int) ≤ (s.size : Int) := by omega
            have h5b : (s.size : Int) ≤ 8 := by omega
            have hfo := fo_s hh
            have ht : (s.extract 1 s.size).data.toList = s.data.toList.tail := by
              rw [ByteArray.data_extract, Array.toList_extract]
              simp only [List.extract]
              rw [List.take_of_length_le (by rw [List.length_drop, Array.length_toList]; exact Nat.le_refl _), List.drop_one]
            have HI := hide fun w => rparseInt_any (s.extract 1 s.size) w (by unfold maxLen; simp; omega)
            rw [ht] at HI
            have hcode := piv_code s.data.toList.tail
            have HE := hide fun v x (h : PI s.data.toList.tail v x) => h.eq
            generalize fo s.data.toList = FO at *
            generalize s.data.toList.tail = D at *
            rw [may_one] at hfo
            generalize (piv D).1 = v at *
            generalize (piv D).2 = x at *
            have HFO := hide hfo
            clear hfo hh h1 h2 h3 h4' hlen ht h5
            have hB0 := (Below.refl w.heap.size w).alloc (Nat.le_refl _) (Obj.cells #[Value.int IntKind.i64 0, Value.int IntKind.i64 0] 60)
            have hc5 : (1 : Int) ≤ (s.size : Int) := by omega
            go_enter Try.func36, Try.ntmps36
            go_wp2_with fail
            refine (HI.out _).mono ?_
            rintro e w2 ⟨⟨v', x', hP, rfl⟩, hB2⟩
            obtain ⟨rfl, rfl⟩ := HE.out v' x' hP
            clear hP HE HI
            obtain ⟨r0, r1, q0, q1⟩ := new_zero hB2
            have hBA : Below w.heap.size w w2 := hB0.trans (hB2.mono (Nat.le_of_lt (size_new _ _)))
            rcases hcode with rfl | ⟨rfl, rfl⟩
            · by_cases v1 : 1 ≤ v'
              · by_cases v2 : v' ≤ 1048576
                all_goals
                  go_wp2
                  refine bodyPost_ret (res_fault rfl _ w.heap.size rfl 1 v' (by rw [World.cell?_setCell_other _ _ _ _ (by simp)]; exact World.cell?_setCell_same _ _ _ r0) (World.cell?_setCell_same _ _ _ ((World.cell?_setCell_other _ _ _ _ (by simp)).trans r1))) rfl ?_
                  refine ⟨(1, v'), ret2 rfl (congrArg Value.bool ?_), fun _ => by rw [HFO.out], (hBA.setCell (p := ⟨w.heap.size, 0, none⟩) (Nat.le_refl _) _).setCell (p := ⟨w.heap.size, 1, none⟩) (Nat.le_refl _) _⟩
                  rw [HFO.out]
                  simp
                  omega
              · have v1' : v' < 1 := by omega
                clear v1
                go_wp2
                refine bodyPost_ret (res_fault rfl _ w.heap.size rfl 1 v' (by rw [World.cell?_setCell_other _ _ _ _ (by simp)]; exact World.cell?_setCell_same _ _ _ r0) (World.cell?_setCell_same _ _ _ ((World.cell?_setCell_other _ _ _ _ (by simp)).trans r1))) rfl ?_
                refine ⟨1, v', ret2 rfl (congrArg Value.bool ?_), fun _ => by rw [HFO.out], (hBA.setCell (p := ⟨w.heap.size, 0, none⟩) (Nat.le_refl _) _).setCell (p := ⟨w.heap.size, 1, none⟩) (Nat.le_refl _) _⟩
                rw [HFO.out]
                simp
                omega
            · go_wp2
              refine bodyPost_ret (res_fault rfl _ w.heap.size rfl 1 0 (by rw [World.cell?_setCell_other _ _ _ _ (by simp)]; exact World.cell?_setCell_same _ _ _ r0) (World.cell?_setCell_same _ _ _ ((World.cell?_setCell_other _ _ _ _ (by simp)).trans r1))) rfl ?_
              exact ⟨(1, 0), ret2 rfl (congrArg Value.bool (by rw [HFO.out]; rfl)), fun _ => by rw [HFO.out], (hBA.setCell (p := ⟨w.heap.size, 0, none⟩) (Nat.le_refl _) _).setCell (p := ⟨w.heap.size, 1, none⟩) (Nat.le_refl _) _⟩
        · have hne : ((s[0].toNat : Int) != 115) = true := by simpa [bne] using h4
          have hfo := fo_else h1 h2 h3 (by rw [hh]; intro e; have e' := Option.some.inj e; exact h4 (by rw [e']; rfl))
          rw [hfo]
          clear hfo hh h1 h2 h3
          go_enter Try.func36, Try.ntmps36
          go_wp2
          refine bodyPost_ret (res_fault rfl _ w.heap.size rfl 0 0 (by simp only [World.cell?, heap_alloc_new]; rfl) (by simp only [World.cell?, heap_alloc_new]; rfl)) rfl ?_
          exact ⟨(0, 0), rfl, fun e => (by cases e), (Below.refl _ _).alloc (Nat.le_refl _) _⟩
end Go.Proofs.Ytnabnnckhdileaa

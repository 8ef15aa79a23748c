/- The law KpipeWhole: the walk. -/
import Derived.Test.YtfkkojahkfijdaaKpAlive
namespace Go.Proofs.Ytfkkojahkfijdaa
open Go.RowKit

theorem tmod_bound (x k : Int) (hk : 0 < k) : -k < x.tmod k ∧ x.tmod k < k := by
  have h2 : ∀ y : Int, 0 ≤ y → 0 ≤ y.tmod k ∧ y.tmod k < k := fun y h => by
    rw [Int.tmod_eq_emod_of_nonneg h]
    exact ⟨Int.emod_nonneg _ (by omega), Int.emod_lt_of_pos _ hk⟩
  rcases Int.le_total 0 x with h | h
  · have := h2 x h; omega
  · have h3 := h2 (-x) (by omega)
    rw [Int.neg_tmod] at h3
    omega
theorem rem_twice (full k : Int) (hk : 0 < k) (hk2 : k ≤ 1048576) : ∃ m : Nat, (wrap64 (full.tmod k + k)).tmod k = (m : Int) ∧ (m : Int) < k := by
  have h1 := tmod_bound full k hk
  have h2 : wrap64 (full.tmod k + k) = full.tmod k + k := by unfold wrap64; omega
  rw [h2, Int.tmod_eq_emod_of_nonneg (by omega)]
  have h3 := Int.emod_nonneg (full.tmod k + k) (b := k) (by omega)
  have h4 := Int.emod_lt_of_pos (full.tmod k + k) hk
  exact ⟨((full.tmod k + k) % k).toNat, by omega, by omega⟩
theorem whole_first {m : Nat} (h0 : 0 < m) (h : m ≤ 4096) : wrN m 1048576 0 1 1 = m ∧ wrE m 1048576 0 1 1 = 0 := by
  have h1 : refE m 1048576 1 1 = 0 := by unfold refE; rw [if_neg (by omega), if_neg (by decide), if_neg (by decide), if_neg (by decide)]
  have h2 : fitN m 1048576 0 = m := by unfold fitN; split <;> (try split) <;> omega
  unfold wrN wrE
  rw [if_pos h1, if_pos h1, show (1048576 : Int).toNat = 1048576 by decide, h2, if_neg (by omega), if_neg (by omega)]
  exact ⟨rfl, rfl⟩
theorem whole_second {n c : Nat} {most : Int} (h : n ≤ 512) (hm : inN most = true) : (4096 - c < n → wrN n most c 1 1 = 0 ∧ wrE n most c 1 1 = 52) ∧ (¬ 4096 - c < n → wrN n most c 1 1 = n ∧ wrE n most c 1 1 = 0) := by
  have h1 : refE n most 1 1 = 0 := by unfold refE; rw [if_neg (by omega), if_neg (by rw [hm]; decide), if_neg (by decide), if_neg (by decide)]
  unfold wrN wrE
  rw [if_pos h1, if_pos h1]
  unfold fitN
  rw [if_neg (by omega)]
  constructor
  · intro h2
    rw [if_pos h2, if_neg (by omega), if_pos rfl]
    exact ⟨rfl, rfl⟩
  · intro h2
    rw [if_neg h2]
    refine ⟨rfl, ?_⟩
    split <;> rfl

set_option maxRecDepth 100000 in
set_option maxHeartbeats 2000000 in
theorem whole_walk (full : Int) (a0 : Option Addr) (n0 c0 : Nat) (most : Int) (l : List UInt8) (w : World) (h : Bys w (.slice a0 n0 c0) l) (hc : l.length ≤ c0) (hs : l.length ≤ 140737488351232) :
    Calls Try.prog 5 #[.int .i64 full, .slice a0 n0 c0, .int .i64 most] w fun e w' => e = .returned (.bool true) ∧ Below w.heap.size w w' := by
  obtain ⟨i0, hi, hz0, hz1, hz2⟩ := info_parts Try.infoB
  obtain ⟨a1, c1, he1, -⟩ := bys_form h
  obtain ⟨rfl, rfl, rfl⟩ : a0 = a1 ∧ n0 = l.length ∧ c0 = c1 := by simpa using he1
  have HL := hide h
  clear h he1
  obtain ⟨m, hm, hm4⟩ := rem_twice full 4097 (by decide) (by decide)
  have hm4 : m ≤ 4096 := by omega
  go_enter Try.func5, Try.ntmps5
  go_wp2_with fail
  refine (alive_any w).mono ?_
  rintro e w1 ⟨rfl, hB1⟩
  go_wp2_with fail
  refine (both_any w1).mono ?_
  rintro e w4 ⟨rfl, hP, hB4⟩
  have hsa := hB1.size
  generalize hg : w1.heap.size = g at *
  have HP := hide hP
  have hB4 := hB1.trans (hB4.mono (by omega))
  clear hP
  have hg4 : g < w4.heap.size := HP.out.lt
  have hcase : m = 0 ∨ 0 < m := by omega
  rcases hcase with rfl | hm0
  case' inr =>
    have k1 : (0 : Int) < (m : Int) := by omega
    go_wp2_with (at_make; refine wpList_make_full _ rfl _ _ 26 rfl w4.heap.size 5 i0 (.int .u8 0) 1 Try.underlying26 hi hz0 hz1 _ _ _ _ m rfl rfl rfl rfl (by rw [hz2]; omega) (by unfold maxLen; omega) (Nat.le_refl _) ?_; intro w5 hown5 hgrow5; obtain ⟨Z, hZ, HZ, hB5⟩ := made_zeros hown5 hgrow5; clear hown5 hgrow5)
    refine (write_any 1048576 g [] Z _ _ _ 1 1 _ (HP.out.below hB5) HZ.out (by omega) (by omega) (fun _ => by simp [Value.ownBlock]; omega)).mono ?_
    rintro e w6 ⟨rfl, hP, hT6⟩
    rw [hZ, List.length_nil, (whole_first hm0 hm4).1] at hP
    rw [hZ, List.length_nil, (whole_first hm0 hm4).1, (whole_first hm0 hm4).2]
    obtain ⟨q, hqe⟩ : ∃ q : List UInt8, q = [] ++ Z.take m := ⟨_, rfl⟩
    have hq : q.length = m := by rw [hqe]; simp [hZ]
    rw [← hqe] at hP
    have hs5 := hB5.size
    have hs6 := hT6.size
    have hs4 := hB4.size
    have hB6 := hT6.up (hB4.trans (hB5.mono (by omega))) (by omega) (by omega)
    have HP := hide hP
    clear hP hT6 hqe hB5 HZ hB1 hB4
    go_wp2_with fail
    refine (num_any _ _).mono ?_
    rintro e w7 ⟨rfl, rfl⟩
    have hgz : g < w7.heap.size := by omega
    have hsz : w.heap.size ≤ w7.heap.size := by omega
  case' inl =>
    obtain ⟨q, hqe⟩ : ∃ q : List UInt8, q = [] := ⟨_, rfl⟩
    have hq : q.length = 0 := by rw [hqe]; simp
    rw [← hqe] at HP
    have hB6 := hB4
    have hgz := hg4
    have hsz := hB4.size
    clear hqe hB1 hB4
  all_goals
    by_cases h1 : 512 < l.length
    · have d1 : (512 : Int) < (l.length : Int) := by omega
      go_wp2
      go_ret
      exact ⟨rfl, hB6⟩
    · have d1 : ¬ (512 : Int) < (l.length : Int) := by omega
      by_cases h2 : inN most = false
      · have h3 : most < 1 ∨ 1048576 < most := by
          simp only [inN, Bool.and_eq_false_iff, decide_eq_false_iff_not] at h2
          omega
        clear h2
        rcases h3 with h3 | h3
        · go_wp2
          go_ret
          exact ⟨rfl, hB6⟩
        · have h4 : ¬ most < 1 := by omega
          go_wp2
          go_ret
          exact ⟨rfl, hB6⟩
      · have h2' : inN most = true := by simpa using h2
        have HI := hide h2'
        obtain ⟨h3, h4⟩ := inN_true h2'
        have h3' : ¬ most < 1 := by omega
        have h4' : ¬ 1048576 < most := by omega
        clear h2 h2'
        have HS := hide (whole_second (n := l.length) (c := q.length) (most := most) (by omega) HI.out)
        go_wp2_with fail
        refine (write_any most g q l a0 l.length c0 1 1 _ HP.out (HL.out.below hB6) hc hs (bys_off HL.out (by omega))).mono ?_
        rintro e w8 ⟨rfl, hP8, hT8⟩
        have hs8 := hT8.size
        have hB8 := hT8.up hB6 (by omega) (by omega)
        by_cases h5 : 4096 - q.length < l.length
        · first | (exfalso; omega) | skip
          all_goals
            obtain ⟨e1, e2⟩ := HS.out.1 h5
            rw [e1, e2]
            rw [e1, List.take_zero, List.append_nil] at hP8
            have HP8 := hide hP8
            clear hP8 HS e1 e2 hT8
            have d2 : (4096 : Int) < (q.length : Int) + (l.length : Int) := by omega
            rw [hq] at d2
            go_wp2_with fail
            refine (num_any _ _).mono ?_
            rintro e w9 ⟨rfl, rfl⟩
            go_wp2_with fail
            refine (held_any g q 1 1 _ HP8.out).mono ?_
            rintro e w10 ⟨rfl, -, hB10⟩
            rw [hq]
            go_wp2
            go_ret
            exact ⟨rfl, hB8.trans (hB10.mono (by omega))⟩
        · obtain ⟨e1, e2⟩ := HS.out.2 h5
          rw [e1, e2]
          rw [e1] at hP8
          obtain ⟨q2, hq2⟩ : ∃ q2, q2 = q ++ l.take l.length := ⟨_, rfl⟩
          have hq2l : q2.length = q.length + l.length := by rw [hq2]; simp
          rw [← hq2] at hP8
          rw [hq] at hq2l
          have HP8 := hide hP8
          clear hP8 HS e1 e2 hT8 hq2
          go_wp2_with fail
          refine (num_any _ _).mono ?_
          rintro e w9 ⟨rfl, rfl⟩
          go_wp2_with fail
          refine (num_any _ _).mono ?_
          rintro e w9 ⟨rfl, rfl⟩
          go_wp2_with fail
          refine (held_any g q2 1 1 _ HP8.out).mono ?_
          rintro e w10 ⟨rfl, -, hB10⟩
          rw [hq2l]
          go_wp2
          go_ret
          exact ⟨rfl, hB8.trans (hB10.mono (by omega))⟩
end Go.Proofs.Ytfkkojahkfijdaa

/- FilePieces: the walk. -/
import Derived.Test.YtdhdbakkhmmpjaaFiAlive
import Derived.IntWalk
namespace Go.Proofs.Ytdhdbakkhmmpjaa
open Go.RowKit

/-- The size of a piece. -/
theorem step_size (n : Int) : ∃ N : Nat, 1 ≤ N ∧ N ≤ 5000 ∧ wrap64 (1 + (wrap64 (n.tmod 5000 + 5000)).tmod 5000) = (N : Int) := by
  have h1 : -5000 < n.tmod 5000 ∧ n.tmod 5000 < 5000 := by
    have := Int.tmod_lt_of_pos n (b := 5000) (by decide)
    have := Int.lt_tmod_of_pos n (b := 5000) (by decide)
    omega
  generalize n.tmod 5000 = a at h1
  have h2 : wrap64 (a + 5000) = a + 5000 := IntWalk.wrap64_in _ (by omega)
  rw [h2, Int.tmod_eq_emod_of_nonneg (by omega)]
  have h3 : 0 ≤ (a + 5000) % 5000 ∧ (a + 5000) % 5000 < 5000 := by omega
  rw [IntWalk.wrap64_in _ (by omega)]
  exact ⟨(1 + (a + 5000) % 5000).toNat, by omega, by omega, by omega⟩
theorem take_piece (l : List UInt8) (at_ n : Nat) : l.take at_ ++ piece l at_ n = l.take (at_ + n) := by rw [piece, ← List.take_add]

set_option maxRecDepth 100000 in
set_option maxHeartbeats 4000000 in
theorem pieces_walk (v : Value) (l : List UInt8) (n : Int) (w : World) (h : Bys w v l) (hs : l.length ≤ 140737488351232) :
    Calls Try.prog 6 #[v, .int .i64 n] w fun e w' => e = .returned (.bool true) ∧ Below w.heap.size w w' := by
  obtain ⟨i0, hi, hz0, hz1, hz2⟩ := info_parts Try.infoB
  have H0 := hide h
  obtain ⟨a1, c1, rfl, -⟩ := bys_form h
  clear h
  by_cases hl : l.length ≤ 1048576
  · go_enter Try.func6, Try.ntmps6
    go_wp2_with fail
    refine (alive_any _).mono ?_
    rintro e w1 ⟨rfl, hB1⟩
    go_wp2_with fail
    refine (new_good _ l _ (H0.out.below hB1) hl).mono ?_
    rintro e w2 ⟨g, rfl, hF, hg, hB2⟩
    have hB02 := hB1.trans (hB2.mono hB1.size)
    have HF := hide hF
    clear hF
    go_wp2_with fail
    refine (num_any _ _).mono ?_
    rintro e w3 ⟨rfl, rfl⟩
    go_wp2
    obtain ⟨N, hN1, hN2, hN⟩ := step_size n
    rw [hN]
    clear hN
    generalize w1.heap.size = b1 at *
    go_loopw [7, 8, 9, 10] (fun got i _ _ wr => ∃ k : Nat, k ≤ 1048576 + 5000 ∧ i = .int .i64 k ∧ wr.ownsRow w3.heap.size 5 1 got (l.take k).length ((l.take k).map bv) ∧ Below w3.heap.size w3 wr) (fun _ i _ _ _ => l.length + 1 - (intOf i).toNat)
    case atStart => exact ⟨0, by omega, rfl, by simpa using World.ownsRow_nil _ _ _ _, Below.refl _ _⟩
    case round =>
      obtain ⟨k, hk, rfl, hown, hB⟩ := hrel
      obtain ⟨T, hT⟩ : ∃ T, T = l.take k := ⟨_, rfl⟩
      rw [← hT] at hown
      have HT := hide hT
      clear hT
      obtain ⟨ga, gc, rfl⟩ := owns_slice hown
      have HO := hide hown
      clear hown
      by_cases hlt : k ≤ l.length
      · have HF4 := hide (HF.out.below hB)
        have hsz := hB.size
        have hd : decide ((k : Int) ≤ (l.length : Int)) = true := by simp; omega
        go_wp2_with fail
        refine (readAt_good g b1 _ l k N _ HF4.out hl (by omega) (by omega)).mono ?_
        rintro e w5 ⟨q, rfl, hown5, hB5⟩
        have HPL := hide (piece_len l k N)
        have HTP := hide (take_piece l k N)
        obtain ⟨P, hP⟩ : ∃ P, P = piece l k N := ⟨_, rfl⟩
        rw [← hP] at hown5 HPL HTP
        simp only [← hP]
        clear hP
        have HN5 := hide (hown5.cells (g := q) rfl)
        have HO4 := hide (owns_below HO.out hB5)
        have hB05 := hB.trans (hB5.mono hB.size)
        have hs5 := hB05.size
        have HTL : Hid (T.length = k) := hide (by rw [HT.out]; simp; omega)
        clear hown5 HO
        have HE : Hid (∀ (v' : Value) (w7 : World), w7.ownsRow w3.heap.size 5 1 v' (T.length + P.length) (T.map bv ++ P.map bv) → w7.ownsRow w3.heap.size 5 1 v' (l.take (k + N)).length ((l.take (k + N)).map bv)) := hide fun v' w7 h => by
          rw [← HTP.out, ← HT.out, List.length_append, List.map_append]
          exact h
        have HQ : Hid (N < l.length - k ∧ N = P.length ∨ ¬ N < l.length - k ∧ (P.length : Int) = (l.length : Int) - (k : Int)) := hide (by have := HPL.out; omega)
        have hPb : P.length ≤ 1048576 := by have := HPL.out; omega
        clear HPL HTP HF4
        go_wp2_with fail
        refine (num_any _ _).mono ?_
        rintro e w6 ⟨rfl, rfl⟩
        rcases HQ.out with ⟨hm, rfl⟩ | ⟨hm, hq⟩
        · have hm1 : ¬ ((l.length : Int) - (k : Int) < (P.length : Int)) := by omega
          clear HQ
          go_wp2_with (at_builtin; refine wpList_append_own _ rfl _ _ 22 rfl w3.heap.size 5 i0 (.int .u8 0) 1 1 Try.underlying22 hi hz0 hz1 hz2 rfl (by decide) _ _ _ rfl HO4.out ⟨q, 0, none⟩ _ _ (P.map bv) rfl (by simp) HN5.out (bys_one P) (by unfold maxLen; have := HTL.out; omega) (by have := HTL.out; omega) hs5 ?_; intro v' w7 hown7 hgrow7 hnil7)
          go_roundw
          case rel => exact ⟨k + P.length, by omega, by go_num, HE.out v' w7 hown7, hB05.grown hgrow7 hs5 (fun j e => (HO4.out.lt j e).1)⟩
          case measure => simp [intOf]; omega
        · have hm1 : (l.length : Int) - (k : Int) ≤ (N : Int) := by omega
          clear HQ
          go_wp2_with (at_builtin; refine wpList_append_own _ rfl _ _ 22 rfl w3.heap.size 5 i0 (.int .u8 0) 1 1 Try.underlying22 hi hz0 hz1 hz2 rfl (by decide) _ _ _ rfl HO4.out ⟨q, 0, none⟩ _ _ (P.map bv) rfl (by simp) HN5.out (bys_one P) (by unfold maxLen; have := HTL.out; omega) (by have := HTL.out; omega) hs5 ?_; intro v' w7 hown7 hgrow7 hnil7)
          go_roundw
          case rel => exact ⟨k + N, by omega, by go_num, HE.out v' w7 hown7, hB05.grown hgrow7 hs5 (fun j e => (HO4.out.lt j e).1)⟩
          case measure => simp [intOf]; omega
      · have HTl : Hid (T = l) := hide (by rw [HT.out, List.take_of_length_le (by omega)])
        rw [HTl.out] at HO
        have hd : decide ((k : Int) ≤ (l.length : Int)) = false := by simp; omega
        have hB03 := hB02.trans (hB.mono hB02.size)
        have HF4 := hide (HF.out.below hB)
        clear HT
        go_wp2_with fail
        rw [HTl.out]
        refine (same_any _ _ l _ (Bys.of_owns HO.out) (H0.out.below hB03) (by unfold maxLen; omega)).mono ?_
        rintro e w5 ⟨rfl, hB5⟩
        have HF5 := hide (HF4.out.below hB5)
        go_wp2_with fail
        refine (size_any g b1 _ l _ HF5.out).mono ?_
        rintro e w6 ⟨rfl, rfl⟩
        go_wp2
        go_ret
        exact ⟨rfl, hB03.trans (hB5.mono hB03.size)⟩
  · go_enter Try.func6, Try.ntmps6
    go_wp2_with fail
    refine (alive_any _).mono ?_
    rintro e w1 ⟨rfl, hB1⟩
    go_wp2_with fail
    refine (new_bad _ l _ (H0.out.below hB1) (by omega)).mono ?_
    rintro e w2 ⟨rfl, rfl⟩
    go_wp2_with fail
    refine (num_any _ _).mono ?_
    rintro e w3 ⟨rfl, rfl⟩
    have hd : decide ((1048576 : Int) < (l.length : Int)) = true := by simp; omega
    go_wp2
    all_goals first
      | (exfalso; omega)
      | (go_ret; exact ⟨ret_bool (by first | rfl | (simp; omega)), hB1⟩)
end Go.Proofs.Ytdhdbakkhmmpjaa

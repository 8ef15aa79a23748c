/- What the reference's Places, Base and Decimal answer, for every number: the same digits. -/
import Derived.Test.YtnabnnckhdileaaOne
namespace Go.Proofs.Ytnabnnckhdileaa
open Go.RowKit

/-- The lowest j digits of n. -/
def lowl (b n : Nat) : Nat → List UInt8
  | 0 => []
  | j + 1 => sgn (dg b n j) :: lowl b n j
theorem lowl_dl (b n : Nat) : ∀ k, (dl b n k).map sgn = lowl b n (k + 1)
  | 0 => rfl
  | k + 1 => by rw [dl, List.map_cons, lowl_dl b n k]; rfl
theorem lowl_length (b n : Nat) : ∀ j, (lowl b n j).length = j
  | 0 => rfl
  | j + 1 => by rw [lowl, List.length_cons, lowl_length b n j]
def lows (b n j : Nat) : ByteArray := ⟨(lowl b n j).toArray⟩
theorem lows_size (b n j : Nat) : (lows b n j).size = j := by
  show ((lowl b n j).toArray).size = j
  rw [List.size_toArray, lowl_length]
theorem sgn_nums (x : Fin 16) : strOfNums [((⟨#[48, 49, 50, 51, 52, 53, 54, 55, 56, 57, 97, 98, 99, 100, 101, 102]⟩ : ByteArray)[x.val].toNat : Int)] = ⟨[sgn x].toArray⟩ := by
  revert x; decide +kernel
theorem lows_succ (b n j : Nat) (x : Fin 16) (h : dg b n j = x) : strOfNums [((⟨#[48, 49, 50, 51, 52, 53, 54, 55, 56, 57, 97, 98, 99, 100, 101, 102]⟩ : ByteArray)[x.val].toNat : Int)] ++ lows b n j = lows b n (j + 1) := by
  rw [sgn_nums, lows, bytes_append, lows, lowl, h]
  rfl

set_option maxRecDepth 100000 in
set_option maxHeartbeats 2000000 in
theorem places_nat (n b : Nat) (hb : 2 ≤ b) (hb2 : b ≤ 16) (hlt : n < 18446744073709551616) (w : World) :
    Calls Try.prog 43 #[.int .u64 (n : Int), .int .i64 (b : Int)] w fun e w' => e = .returned (.string ⟨(digs b n).toArray⟩) ∧ Below w.heap.size w w' := by
  have hcv := one_str
  go_enter Try.func43, Try.ntmps43
  go_wp2
  go_loopw [0, 5] (fun nv sv wr => ∃ j : Nat, nv = .int .u64 ((n / b ^ j : Nat) : Int) ∧ (j = 0 ∨ b ^ j ≤ n) ∧ sv = .string (lows b n j) ∧ Below w.heap.size w wr) (fun nv _ _ => (intOf nv).toNat)
  case atStart => exact ⟨0, by simp, .inl rfl, rfl, Below.refl _ _⟩
  case round =>
    obtain ⟨j, rfl, hj, rfl, hB⟩ := hrel
    have hj64 : j < 64 := by
      rcases hj with h | h
      · omega
      · have h2 := pow64 b hb
        exact (Nat.pow_lt_pow_iff_right (show 1 < b by omega)).1 (by omega)
    have hsz := lows_size b n j
    have hN : n / b ^ j ≤ n := Nat.div_le_self _ _
    have hq0 : n / b ^ j % b = (dg b n j).val := (dg_val b n j hb hb2).symm
    have hd0 : n / b ^ j / b = n / b ^ (j + 1) := by rw [Nat.div_div_eq_div_mul, Nat.pow_succ]
    generalize hX : dg b n j = X at *
    generalize hNN : n / b ^ j = N at *
    have hq : (N : Int) % (b : Int) = ((X : Fin 16).val : Int) := by omega
    have hXb : ((X.val : Nat) : Int) < 16 := by have := X.isLt; omega
    have HL := hide (lows_succ b n j X hX)
    have HD := hide hd0
    have HX := hide hX
    have HN := hide hNN
    have hs1 := strOfNums_size [((⟨#[48, 49, 50, 51, 52, 53, 54, 55, 56, 57, 97, 98, 99, 100, 101, 102]⟩ : ByteArray)[X.val].toNat : Int)]
    have hb0 : ¬ b = 0 := by omega
    clear hd0 hX hNN hq0
    have HW : Hid (IntKind.u64.wrap ((N : Int) / (b : Int)) = ((N / b : Nat) : Int)) := by
      show _ = _
      rw [← Int.natCast_ediv]
      have := Nat.div_le_self N b
      exact IntWalk.u64_in _ ⟨Int.natCast_nonneg _, by omega⟩
    have hpos : 0 < b ^ (j + 1) := Nat.pow_pos (by omega)
    go_wp2
    · have hz : (IntKind.u64.wrap ((N : Int) / (b : Int)) == 0) = true := by assumption
      rw [HW.out] at hz
      have hz2 : n / b ^ (j + 1) = 0 := by rw [← HD.out]; have h3 := eq_of_beq hz; omega
      have hlt2 : n < b ^ (j + 1) := by
        rcases Nat.lt_or_ge n (b ^ (j + 1)) with h | h
        · exact h
        · have := Nat.div_pos h hpos; omega
      have ht := top_unique b n j hb hlt hlt2 hj
      go_ret
      refine ⟨?_, hB.alloc hB.size _⟩
      rw [digs, ht, lowl_dl]
      exact congrArg (fun x => Ending.returned (Value.string x)) HL.out
    · have hz : (IntKind.u64.wrap ((N : Int) / (b : Int)) == 0) = false := by assumption
      rw [HW.out] at hz
      have hz2 : ¬ n / b ^ (j + 1) = 0 := by rw [← HD.out]; have h3 := beq_eq_false_iff_ne.1 hz; omega
      have hge : b ^ (j + 1) ≤ n := by
        rcases Nat.lt_or_ge n (b ^ (j + 1)) with h | h
        · exact absurd (Nat.div_eq_of_lt h) hz2
        · exact h
      go_roundw
      case rel => exact ⟨j + 1, by rw [HW.out, HD.out], .inr hge, congrArg Value.string HL.out, hB.alloc hB.size _⟩
      case measure =>
        rw [HW.out]
        simp only [intOf, Int.toNat_natCast]
        have : 0 < N := by
          rcases Nat.eq_zero_or_pos N with h | h
          · rw [← HD.out, h] at hz2; simp at hz2
          · exact h
        exact Nat.div_lt_self this (by omega)

theorem places_any (n b : Int) (hb : 2 ≤ b) (hb2 : b ≤ 16) (h0 : 0 ≤ n) (hlt : n ≤ 18446744073709551615) (w : World) :
    Calls Try.prog 43 #[.int .u64 n, .int .i64 b] w fun e w' => e = .returned (.string ⟨(digs b.toNat n.toNat).toArray⟩) ∧ Below w.heap.size w w' := by
  obtain ⟨n', rfl⟩ := Int.eq_ofNat_of_zero_le h0
  obtain ⟨b', rfl⟩ := Int.eq_ofNat_of_zero_le (show 0 ≤ b by omega)
  exact places_nat n' b' (by omega) (by omega) (by omega) w

set_option maxHeartbeats 400000 in
theorem rdecimal_any (n : Int) (h0 : -9223372036854775808 ≤ n) (h1 : n ≤ 9223372036854775807) (w : World) :
    Calls Try.prog 30 #[.int .i64 n] w fun e w' => e = .returned (.string ⟨(dec n).toArray⟩) ∧ Below w.heap.size w w' := by
  by_cases hn : n < 0
  · have HD : Hid (dec n = 45 :: digs 10 n.natAbs) := if_pos hn
    have hA : (-n).toNat = n.natAbs := by omega
    have hl := digs_len 10 n.natAbs (by omega) (by omega)
    go_enter Try.func30, Try.ntmps30
    go_wp2_with fail
    rw [show -(n + 1) + 1 = -n by omega]
    refine (places_any (-n) 10 (by omega) (by omega) (by omega) (by omega) _).mono ?_
    rintro e w1 ⟨rfl, hB⟩
    rw [hA]
    generalize hg : digs 10 n.natAbs = l at *
    have hg2 : digs (Int.toNat 10) n.natAbs = l := hg
    rw [hg2]
    clear hg hg2
    go_wp2
    go_ret
    refine ⟨?_, hB⟩
    rw [HD.out]
    exact congrArg (fun x => Ending.returned (Value.string x)) (bytes_append [45] l)
  · have HD : Hid (dec n = digs 10 n.natAbs) := if_neg hn
    have hA : n.toNat = n.natAbs := by omega
    go_enter Try.func30, Try.ntmps30
    go_wp2_with fail
    refine (places_any n 10 (by omega) (by omega) (by omega) (by omega) _).mono ?_
    rintro e w1 ⟨rfl, hB⟩
    go_wp2
    go_ret
    refine ⟨?_, hB⟩
    rw [HD.out, ← hA]
    rfl
end Go.Proofs.Ytnabnnckhdileaa

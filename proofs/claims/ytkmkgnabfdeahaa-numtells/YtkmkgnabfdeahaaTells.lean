/- Numbers as digits, and texts read as numbers, are as the page says: what the statement NumTells asks. -/
import Derived.Test.YtkmkgnabfdeahaaRefInt
namespace Go.Proofs.Ytkmkgnabfdeahaa
open Go.RowKit

theorem bases_any (m b : Int) (h0 : 0 ≤ m) (h1 : m ≤ 18446744073709551615) : ∃ (S : ByteArray) (x : Int),
    (∀ w : World, Calls Try.prog 10 #[.int .u64 m, .int .i64 b] w fun e w' => e = .returned (.tuple #[.string S, .int .i64 x]) ∧ Below w.heap.size w w') ∧
    (∀ w : World, Calls Try.prog 11 #[.int .u64 m, .int .i64 b] w fun e w' => e = .returned (.tuple #[.string S, .int .i64 x]) ∧ Below w.heap.size w w') := by
  by_cases hb : 2 ≤ b ∧ b ≤ 16
  · exact ⟨_, _, fun w => base_yes m b h0 h1 hb.1 hb.2 w, fun w => rbase_yes m b h0 h1 hb.1 hb.2 w⟩
  · refine ⟨⟨#[]⟩, 4, fun w => (base_no m b (by omega) w).mono ?_, fun w => (rbase_no m b (by omega) w).mono ?_⟩
    · rintro e w' ⟨rfl, rfl⟩; exact ⟨rfl, Below.refl _ _⟩
    · rintro e w' ⟨rfl, rfl⟩; exact ⟨rfl, Below.refl _ _⟩

set_option maxRecDepth 100000 in
set_option maxHeartbeats 1000000 in
theorem tells_walk (n : Int) (s : ByteArray) (m b : Int) (t : ByteArray) (hn0 : -9223372036854775808 ≤ n) (hn1 : n ≤ 9223372036854775807) (hs : s.size ≤ maxLen) (h0 : 0 ≤ m) (h1 : m ≤ 18446744073709551615) (ht : t.size ≤ maxLen) (w : World) :
    Calls Try.prog 3 #[.int .i64 n, .string s, .int .u64 m, .int .i64 b, .string t] w fun e w' => e = .returned (.bool true) ∧ Below w.heap.size w w' := by
  obtain ⟨S, x, hS1, hS2⟩ := bases_any m b h0 h1
  have HS1 := hide hS1
  have HS2 := hide hS2
  clear hS1 hS2
  go_enter Try.func3, Try.ntmps3
  go_wp2_with fail
  refine (parseInt_any s _ hs).mono ?_
  rintro e w1 ⟨⟨v1, x1, hP1, rfl⟩, hB1⟩
  go_wp2_with fail
  refine (rparseInt_any s _ hs).mono ?_
  rintro e w2 ⟨⟨v2, x2, hP2, rfl⟩, hB2⟩
  obtain ⟨rfl, rfl⟩ := pi_one hP1 hP2
  clear hP1 hP2
  go_wp2_with fail
  refine (HS1.out _).mono ?_
  rintro e w3 ⟨rfl, hB3⟩
  go_wp2_with fail
  refine (HS2.out _).mono ?_
  rintro e w4 ⟨rfl, hB4⟩
  go_wp2_with fail
  refine (parseBase_any t b _ ht).mono ?_
  rintro e w5 ⟨rfl, rfl⟩
  go_wp2_with fail
  refine (rparseBase_any t b _ ht).mono ?_
  rintro e w6 ⟨rfl, rfl⟩
  generalize parseB b t.data.toList = r
  obtain ⟨r1, r2, r3⟩ := r
  go_wp2_with fail
  refine (decimal_any n hn0 hn1 _).mono ?_
  rintro e w7 ⟨rfl, hB7⟩
  go_wp2_with fail
  refine (rdecimal_any n hn0 hn1 _).mono ?_
  rintro e w8 ⟨rfl, hB8⟩
  generalize dec n = D
  go_wp2_with fail
  refine (alive_any _).mono ?_
  rintro e w9 ⟨rfl, hB9⟩
  go_wp2
  go_ret
  have q2 := hB1.trans (hB2.mono hB1.size)
  have q3 := q2.trans (hB3.mono q2.size)
  have q4 := q3.trans (hB4.mono q3.size)
  have q7 := q4.trans (hB7.mono q4.size)
  have q8 := q7.trans (hB8.mono q7.size)
  exact ⟨rfl, q8.trans (hB9.mono q8.size)⟩
end Go.Proofs.Ytkmkgnabfdeahaa

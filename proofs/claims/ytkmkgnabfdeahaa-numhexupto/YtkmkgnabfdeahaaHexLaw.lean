/- Octets as digits, and texts read as octets, are as the page says: what the statement NumHex asks. -/
import Derived.Test.YtkmkgnabfdeahaaAlive
import Derived.Test.YtkmkgnabfdeahaaRefHex
namespace Go.Proofs.Ytkmkgnabfdeahaa
open Go.RowKit

theorem uh_le (l : List UInt8) : (uh l).1.length ≤ l.length := by
  unfold uh
  split
  · simp
  · split
    · simp
    · rw [prs_length]; omega

set_option maxRecDepth 100000 in
set_option maxHeartbeats 1000000 in
theorem hex_walk (v : Value) (l : List UInt8) (s : ByteArray) (w : World) (hy : Bys w v l) (hl : l.length ≤ 70368744177664) (hs : s.size ≤ 140737488351232) :
    Calls Try.prog 4 #[v, .string s] w fun e w' => e = .returned (.bool true) ∧ Below w.heap.size w w' := by
  have hul : (uh s.data.toList).1.length ≤ 140737488351232 := Nat.le_trans (uh_le _) (by simpa using hs)
  have HY := hide hy
  clear hy
  go_enter Try.func4, Try.ntmps4
  go_wp2_with fail
  refine (copy_any v l _ HY.out (by omega)).mono ?_
  rintro e w1 ⟨own, rfl, hown1, hB1⟩
  have hO1 := Bys.of_owns hown1
  have hV1 := HY.out.below hB1
  clear HY hown1
  go_wp2_with fail
  refine (unhex_any s _ (by omega)).mono ?_
  rintro e w2 ⟨x, rfl, hown2, hB2⟩
  have hX2 := Bys.of_owns hown2
  have hO2 := hO1.below hB2
  have hV2 := hV1.below hB2
  clear hO1 hV1 hown2
  go_wp2_with fail
  refine (runhex_any s _ hs).mono ?_
  rintro e w3 ⟨y, rfl, hown3, hB3⟩
  have hY3 := Bys.of_owns hown3
  have hX3 := hX2.below hB3
  have hO3 := hO2.below hB3
  have hV3 := hV2.below hB3
  clear hX2 hO2 hV2 hown3
  generalize uh s.data.toList = r at *
  obtain ⟨u, er, at'⟩ := r
  go_wp2_with fail
  refine (hex_any own l _ hO3 (by omega)).mono ?_
  rintro e w4 ⟨rfl, hB4⟩
  have hY4 := hY3.below hB4
  have hX4 := hX3.below hB4
  have hO4 := hO3.below hB4
  have hV4 := hV3.below hB4
  clear hX3 hO3 hV3 hY3
  go_wp2_with fail
  refine (rhex_any v l _ hV4 hl).mono ?_
  rintro e w5 ⟨rfl, hB5⟩
  have hY5 := hY4.below hB5
  have hX5 := hX4.below hB5
  have hO5 := hO4.below hB5
  have hV5 := hV4.below hB5
  clear hX4 hO4 hV4 hY4
  generalize hexF l = D
  go_wp2_with fail
  refine (same_any own v l _ hO5 hV5 (by unfold maxLen; omega)).mono ?_
  rintro e w6 ⟨rfl, hB6⟩
  have hY6 := hY5.below hB6
  have hX6 := hX5.below hB6
  clear hX5 hO5 hV5 hY5
  go_wp2_with fail
  refine (same_any x y u _ hX6 hY6 (by have h2 : u.length ≤ 140737488351232 := hul; unfold maxLen; omega)).mono ?_
  rintro e w7 ⟨rfl, hB7⟩
  clear hX6 hY6
  have q2 := hB1.trans (hB2.mono hB1.size)
  have q3 := q2.trans (hB3.mono q2.size)
  have q4 := q3.trans (hB4.mono q3.size)
  have q5 := q4.trans (hB5.mono q4.size)
  have q6 := q5.trans (hB6.mono q5.size)
  have q7 := q6.trans (hB7.mono q6.size)
  clear q2 q3 q4 q5 q6 hB1 hB2 hB3 hB4 hB5 hB6 hB7
  go_wp2_with fail
  refine (alive_any _).mono ?_
  rintro e w8 ⟨rfl, hB8⟩
  go_wp2
  go_ret
  exact ⟨rfl, q7.trans (hB8.mono q7.size)⟩
end Go.Proofs.Ytkmkgnabfdeahaa

/- A pipe that no call made; and the law KpipeOwn. -/
import Derived.Test.YtfkkojahkfijdaaKpAlive
import Derived.Test.YtfkkojahkfijdaaKpTurn
namespace Go.Proofs.Ytfkkojahkfijdaa
open Go.RowKit

/-- The pointer p leads to no pipe that New made. -/
def Unmade (w : World) (p : Value) : Prop := p = .pointer none ∨ ∃ g, p = .pointer (some ⟨g, 0, none⟩) ∧ w.cell? ⟨g, 0, none⟩ = some (.bool false)
theorem isMade_un (p : Value) (w : World) (h : Unmade w p) :
    Calls Try.prog 30 #[p] w fun e w' => e = .returned (.bool false) ∧ w' = w := by
  rcases h with rfl | ⟨g, rfl, h⟩
  · exact isMade_nil w
  · exact isMade_is g false w h
theorem read_un (n : Int) (p : Value) (w : World) (h : Unmade w p) :
    Calls Try.prog 9 #[p, .int .i64 n] w fun e w' => e = .returned (.tuple #[.slice none 0 0, .int .i64 2]) ∧ w' = w := by
  go_enter Try.func9, Try.ntmps9
  go_wp2_with fail
  refine (isMade_un p w h).mono ?_
  rintro e w1 ⟨rfl, rfl⟩
  go_wp2
  go_ret2
  exact ⟨rfl, rfl⟩
theorem refuses_un (v : Value) (n : Int) (p : Value) (w : World) (h : Unmade w p) :
    Calls Try.prog 34 #[p, v, .int .i64 n] w fun e w' => e = .returned (.int .i64 2) ∧ w' = w := by
  go_enter Try.func34, Try.ntmps34
  go_wp2_with fail
  refine (isMade_un p w h).mono ?_
  rintro e w1 ⟨rfl, rfl⟩
  go_wp2
  go_ret
  exact ⟨rfl, rfl⟩
theorem write_un (v : Value) (n : Int) (p : Value) (w : World) (h : Unmade w p) :
    Calls Try.prog 14 #[p, v, .int .i64 n] w fun e w' => e = .returned (.tuple #[.int .i64 0, .int .i64 2]) ∧ w' = w := by
  go_enter Try.func14, Try.ntmps14
  go_wp2_with fail
  refine (refuses_un v n p w h).mono ?_
  rintro e w1 ⟨rfl, rfl⟩
  go_wp2
  go_ret2
  exact ⟨rfl, rfl⟩
theorem join_un (x : Bool) (p : Value) (w : World) (h : Unmade w p) :
    Calls Try.prog 17 #[p, .bool x] w fun e w' => e = .returned (.int .i64 2) ∧ w' = w := by
  go_enter Try.func17, Try.ntmps17
  go_wp2_with fail
  refine (isMade_un p w h).mono ?_
  rintro e w1 ⟨rfl, rfl⟩
  go_wp2
  go_ret
  exact ⟨rfl, rfl⟩
theorem leave_un (x : Bool) (p : Value) (w : World) (h : Unmade w p) :
    Calls Try.prog 19 #[p, .bool x] w fun e w' => e = .returned (.int .i64 2) ∧ w' = w := by
  go_enter Try.func19, Try.ntmps19
  go_wp2_with fail
  refine (isMade_un p w h).mono ?_
  rintro e w1 ⟨rfl, rfl⟩
  go_wp2
  go_ret
  exact ⟨rfl, rfl⟩
theorem held_un (p : Value) (w : World) (h : Unmade w p) :
    Calls Try.prog 22 #[p] w fun e w' => e = .returned (.slice none 0 0) ∧ w' = w := by
  go_enter Try.func22, Try.ntmps22
  go_wp2_with fail
  refine (isMade_un p w h).mono ?_
  rintro e w1 ⟨rfl, rfl⟩
  go_wp2
  go_ret
  exact ⟨rfl, rfl⟩
theorem ends_un (p : Value) (w : World) (h : Unmade w p) :
    Calls Try.prog 21 #[p] w fun e w' => e = .returned (.tuple #[.int .i64 0, .int .i64 0]) ∧ w' = w := by
  go_enter Try.func21, Try.ntmps21
  go_wp2_with fail
  refine (isMade_un p w h).mono ?_
  rintro e w1 ⟨rfl, rfl⟩
  go_wp2
  go_ret2
  exact ⟨rfl, rfl⟩
theorem canRead_un (p : Value) (w : World) (h : Unmade w p) :
    Calls Try.prog 23 #[p] w fun e w' => e = .returned (.bool false) ∧ w' = w := by
  go_enter Try.func23, Try.ntmps23
  go_wp2_with fail
  refine (isMade_un p w h).mono ?_
  rintro e w1 ⟨rfl, rfl⟩
  go_wp2
  go_ret
  exact ⟨rfl, rfl⟩
theorem canWrite_un (n : Int) (p : Value) (w : World) (h : Unmade w p) :
    Calls Try.prog 25 #[p, .int .i64 n] w fun e w' => e = .returned (.bool false) ∧ w' = w := by
  go_enter Try.func25, Try.ntmps25
  go_wp2_with fail
  refine (isMade_un p w h).mono ?_
  rintro e w1 ⟨rfl, rfl⟩
  go_wp2
  go_ret
  exact ⟨rfl, rfl⟩

set_option maxRecDepth 100000 in
set_option maxHeartbeats 1000000 in
theorem nothing_un (p : Value) (w : World) (h : Unmade w p) :
    Calls Try.prog 29 #[p] w fun e w' => e = .returned (.bool true) ∧ w' = w := by
  have HU := hide h
  clear h
  go_enter Try.func29, Try.ntmps29
  go_wp2_with fail
  refine (read_un 1 p w HU.out).mono ?_
  rintro e w1 ⟨rfl, rfl⟩
  go_wp2_with fail
  refine (write_un _ 1 p _ HU.out).mono ?_
  rintro e w1 ⟨rfl, rfl⟩
  go_wp2_with fail
  refine (ends_un p _ HU.out).mono ?_
  rintro e w1 ⟨rfl, rfl⟩
  go_wp2_with fail
  refine (num_any _ _).mono ?_
  rintro e w1 ⟨rfl, rfl⟩
  go_wp2_with fail
  refine (num_any _ _).mono ?_
  rintro e w1 ⟨rfl, rfl⟩
  go_wp2_with fail
  refine (join_un true p _ HU.out).mono ?_
  rintro e w1 ⟨rfl, rfl⟩
  go_wp2_with fail
  refine (num_any _ _).mono ?_
  rintro e w1 ⟨rfl, rfl⟩
  go_wp2_with fail
  refine (leave_un true p _ HU.out).mono ?_
  rintro e w1 ⟨rfl, rfl⟩
  go_wp2_with fail
  refine (num_any _ _).mono ?_
  rintro e w1 ⟨rfl, rfl⟩
  go_wp2_with fail
  refine (held_un p _ HU.out).mono ?_
  rintro e w1 ⟨rfl, rfl⟩
  go_wp2_with fail
  refine (canRead_un p _ HU.out).mono ?_
  rintro e w1 ⟨rfl, rfl⟩
  go_wp2_with fail
  refine (canWrite_un 1 p _ HU.out).mono ?_
  rintro e w1 ⟨rfl, rfl⟩
  go_wp2
  go_ret
  exact ⟨rfl, rfl⟩

set_option maxRecDepth 100000 in
set_option maxHeartbeats 2000000 in
theorem own_walk (a0 : Option Addr) (n0 c0 : Nat) (l : List UInt8) (w : World) (h : Bys w (.slice a0 n0 c0) l) (hc : l.length ≤ c0) (hs : l.length ≤ 140737488351232) :
    Calls Try.prog 7 #[.slice a0 n0 c0] w fun e w' => e = .returned (.bool true) ∧ Below w.heap.size w w' := by
  obtain ⟨a1, c1, he1, -⟩ := bys_form h
  obtain ⟨rfl, rfl, rfl⟩ : a0 = a1 ∧ n0 = l.length ∧ c0 = c1 := by simpa using he1
  have HL := hide h
  clear h he1
  obtain ⟨T, hT⟩ : ∃ T, T = newTail := ⟨_, rfl⟩
  have hz : ∀ w, (zeroValue 58).run Try.prog w = .ok (.agg (.bool false :: T).toArray) w := fun w => by rw [hT]; exact zero_pipe w
  clear hT
  go_enter Try.func7, Try.ntmps7
  go_wp2_with fail
  refine (alive_any w).mono ?_
  rintro e w1 ⟨rfl, hB1⟩
  go_wp2_with fail
  refine (nothing_un _ _ (.inl rfl)).mono ?_
  rintro e w2 ⟨rfl, rfl⟩
  go_wp2_with fail
  have hBa : Below w.heap.size w (w2.alloc (.cells (.bool false :: T).toArray 58)) := hB1.alloc hB1.size _
  have hun : (w2.alloc (.cells (.bool false :: T).toArray 58)).cell? ⟨w2.heap.size, 0, none⟩ = some (.bool false) := by
    rw [World.cell?_alloc_new]; simp
  refine (nothing_un _ _ (.inr ⟨_, rfl, hun⟩)).mono ?_
  rintro e w3 ⟨rfl, rfl⟩
  generalize w2.alloc (.cells (.bool false :: T).toArray 58) = w3 at *
  clear hun hz
  go_wp2_with fail
  refine (both_any w3).mono ?_
  rintro e w4 ⟨rfl, hP, hB4⟩
  have hsa := hBa.size
  generalize hg : w3.heap.size = g at *
  have HP := hide hP
  have hB4 := hBa.trans (hB4.mono (by omega))
  clear hP
  go_wp2_with fail
  refine (write_any 1048576 g [] l a0 l.length c0 1 1 _ HP.out (HL.out.below hB4) hc hs (bys_off HL.out (by omega))).mono ?_
  rintro e w5 ⟨rfl, hP, hT5⟩
  have hml := wrN_le l.length 1048576 ([] : List UInt8).length 1 1
  obtain ⟨m, hm⟩ : ∃ m, m = wrN l.length 1048576 ([] : List UInt8).length 1 1 := ⟨_, rfl⟩
  rw [← hm] at hP hml ⊢
  obtain ⟨q, hqe⟩ : ∃ q : List UInt8, q = [] ++ l.take m := ⟨_, rfl⟩
  have hq : q.length = m := by rw [hqe]; simp; omega
  rw [← hqe] at hP
  have hm4 : m ≤ 4096 := by have := hml.2 (by simp); simpa using this
  have hs4 := hB4.size
  have hg4 : g < w4.heap.size := HP.out.lt
  have HP := hide hP
  have hs5 := hT5.size
  have hB5 := hT5.up hB4 (by omega) (by omega)
  clear hP hT5 hqe hm hml
  generalize wrE l.length 1048576 ([] : List UInt8).length 1 1 = e5
  go_wp2_with fail
  refine (held_any g q 1 1 _ HP.out).mono ?_
  rintro e w6 ⟨rfl, hO, hB6⟩
  rw [hq] at hO ⊢
  have HO := hide hO
  have hnew : w5.heap.size < w6.heap.size := (hO.lt _ rfl).2
  have HP := hide (HP.out.below hB6)
  have hs6 := hB6.size
  have hB6 := hB5.trans (hB6.mono (by omega))
  clear hO
  go_wp2_with fail
  refine (copy_any _ q _ (Bys.of_owns (base := w5.heap.size) (by rw [hq]; exact HO.out)) (by omega)).mono ?_
  rintro e w7 ⟨vk, rfl, hK, hB7⟩
  rw [hq] at hK
  obtain ⟨ak, ck, rfl⟩ := owns_slice hK
  have HK := hide hK
  have HP := hide (HP.out.below hB7)
  have HO := hide (owns_below HO.out hB7)
  have hs7 := hB7.size
  have hB7 := hB6.trans (hB7.mono (by omega))
  clear hK
  go_wp2_with fail
  refine (spoil_turn _ _ _ _ _ HO.out (bv_ints _) (by unfold maxLen; omega)).mono ?_
  rintro e w8 ⟨rfl, hT8⟩
  have hg5 : g < w5.heap.size := by omega
  have HP := hide (HP.out.keep (W' := w8) (hT8.block g (by omega) (by simp [Value.ownBlock]; omega)))
  have HK := hide (owns_turned HK.out hT8 (fun k hk hk2 => by
    have h1 := (HK.out.lt k hk).1
    have h2 : w5.heap.size = k := by simpa [Value.ownBlock] using hk2
    omega))
  have hs8 := hT8.size
  have hB8 : Below w.heap.size w w8 := hB7.trans (hT8.below (fun k hk => by
    have h2 : w5.heap.size = k := by simpa [Value.ownBlock] using hk
    omega) (by omega))
  clear hT8 HO
  go_wp2_with fail
  refine (read_any 0 g q 1 1 _ HP.out).mono ?_
  rintro e w9 ⟨v9, rfl, -, hP, hT9⟩
  rw [show rdE 0 q.length 1 1 = 4 by rfl]
  rw [show rdQ 0 q 1 1 = q by rfl] at hP
  have HP := hide hP
  have HK := hide (owns_turned HK.out hT9 (fun k hk hk2 => by
    have h1 := (HK.out.lt k hk).1
    omega))
  have hs9 := hT9.size
  have hB9 := hT9.up hB8 (by omega) (by omega)
  clear hP hT9
  go_wp2_with fail
  have hBa : Below w9.heap.size w9 (w9.alloc (.cells #[.int .u8 1] 5)) := (Below.refl _ _).alloc (Nat.le_refl _) _
  have hby : Bys (w9.alloc (.cells #[.int .u8 1] 5)) (.slice (some ⟨w9.heap.size, 0, none⟩) 1 1) [1] := .inr (.inr ⟨w9.heap.size, 0, 1, rfl, by simp, fun j hj => by
    obtain rfl : j = 0 := by simpa using hj
    rw [World.cell?_alloc_new]; rfl⟩)
  have HP := hide (HP.out.below hBa)
  have HK := hide (owns_below HK.out hBa)
  have HBy := hide hby
  have hsa := hBa.size
  have hB10 := hB9.trans (hBa.mono (by omega))
  clear hby hBa
  generalize w9.alloc (.cells #[.int .u8 1] 5) = w10 at *
  refine (write_any 0 g q [1] _ _ _ 1 1 _ HP.out HBy.out (by simp) (by simp) (fun _ => by simp [Value.ownBlock]; omega)).mono ?_
  rintro e w11 ⟨rfl, hP, hT11⟩
  rw [show wrE ([1] : List UInt8).length 0 q.length 1 1 = 4 by simp [wrE, refE, inN], show wrN ([1] : List UInt8).length 0 q.length 1 1 = 0 by simp [wrN, refE, inN]]
  rw [show wrN ([1] : List UInt8).length 0 q.length 1 1 = 0 by simp [wrN, refE, inN], List.take_zero, List.append_nil] at hP
  have HP := hide hP
  have HK := hide (owns_turned HK.out hT11 (fun k hk hk2 => by
    have h1 := (HK.out.lt k hk).1
    omega))
  have hs11 := hT11.size
  have hB11 := hT11.up hB10 (by omega) (by omega)
  clear hP hT11 HBy
  go_wp2_with fail
  refine (num_any _ _).mono ?_
  rintro e w12 ⟨rfl, rfl⟩
  go_wp2_with fail
  refine (num_any _ _).mono ?_
  rintro e w12 ⟨rfl, rfl⟩
  go_wp2_with fail
  refine (held_any g q 1 1 _ HP.out).mono ?_
  rintro e w13 ⟨rfl, hO, hB13⟩
  have HO := hide hO
  have HK := hide (owns_below HK.out hB13)
  have hB14 := hB11.trans (hB13.mono (by omega))
  clear hO
  have hb1 := Bys.of_owns HO.out
  have hb2 : Bys w13 (.slice ak m ck) q := by
    refine Bys.of_owns (base := w6.heap.size) ?_
    rw [hq]; exact HK.out
  have HB1 := hide hb1
  have HB2 := hide hb2
  clear hb1 hb2
  rw [hq] at HB1 ⊢
  go_wp2_with fail
  refine (same_any _ _ q _ HB1.out HB2.out (by unfold maxLen; omega)).mono ?_
  rintro e w15 ⟨rfl, hB15⟩
  go_wp2
  go_ret
  exact ⟨rfl, hB14.trans (hB15.mono (by have := hB13.size; omega))⟩
end Go.Proofs.Ytfkkojahkfijdaa

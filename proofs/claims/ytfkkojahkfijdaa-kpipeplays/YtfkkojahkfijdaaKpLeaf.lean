/- What the small functions of a pipe answer: isMade, mayBeAsked, room, place, side, readWaits, refuses, fitting. -/
import Derived.Test.YtfkkojahkfijdaaKpPipe
namespace Go.Proofs.Ytfkkojahkfijdaa
open Go.RowKit

/-- May a call ask for n bytes? -/
def inN (n : Int) : Bool := decide (1 ≤ n) && decide (n ≤ 1048576)
theorem inN_true {n : Int} (h : inN n = true) : 1 ≤ n ∧ n ≤ 1048576 := by simpa [inN] using h
theorem inN_nat {n : Int} (h : inN n = true) : ∃ m : Nat, n = (m : Int) ∧ 1 ≤ m ∧ m ≤ 1048576 := by
  have := inN_true h
  exact ⟨n.toNat, by omega, by omega, by omega⟩

theorem num_any (x : Int) (w : World) :
    Calls Try.prog 12 #[.int .i64 x] w fun e w' => e = .returned (.int .i64 x) ∧ w' = w := by
  go_enter Try.func12, Try.ntmps12
  go_wp2
  go_ret
  exact ⟨rfl, rfl⟩

theorem isMade_nil (w : World) :
    Calls Try.prog 30 #[.pointer none] w fun e w' => e = .returned (.bool false) ∧ w' = w := by
  go_enter Try.func30, Try.ntmps30
  go_wp2
  go_ret
  exact ⟨rfl, rfl⟩
theorem isMade_is (g : Nat) (x : Bool) (w : World) (h : w.cell? ⟨g, 0, none⟩ = some (.bool x)) :
    Calls Try.prog 30 #[.pointer (some ⟨g, 0, none⟩)] w fun e w' => e = .returned (.bool x) ∧ w' = w := by
  go_enter Try.func30, Try.ntmps30
  go_wp2
  go_ret
  exact ⟨rfl, rfl⟩
theorem mayBeAsked_any (n : Int) (w : World) :
    Calls Try.prog 31 #[.int .i64 n] w fun e w' => e = .returned (.bool (inN n)) ∧ w' = w := by
  unfold inN
  rcases (show n < 1 ∨ (1 ≤ n ∧ n ≤ 1048576) ∨ 1048576 < n by omega) with h | ⟨h, h1⟩ | h
  · rw [show decide (1 ≤ n) = false by simp; omega]
    go_enter Try.func31, Try.ntmps31
    go_wp2
    go_ret
    exact ⟨rfl, rfl⟩
  · rw [show decide (1 ≤ n) = true by simp; omega, show decide (n ≤ 1048576) = true by simp; omega]
    go_enter Try.func31, Try.ntmps31
    go_wp2
    go_ret
    exact ⟨rfl, rfl⟩
  · rw [show decide (1 ≤ n) = true by simp; omega, show decide (n ≤ 1048576) = false by simp; omega]
    have h1 : 1 ≤ n := by omega
    go_enter Try.func31, Try.ntmps31
    go_wp2
    go_ret
    exact ⟨ret_bool (by simp; omega), rfl⟩
theorem room_is (g c : Nat) (w : World) (h : w.cell? ⟨g, 4098, none⟩ = some (.int .i64 c)) (hc : c ≤ 4096) :
    Calls Try.prog 39 #[.pointer (some ⟨g, 1, none⟩)] w fun e w' => e = .returned (.int .i64 ((4096 - c : Nat) : Int)) ∧ w' = w := by
  go_enter Try.func39, Try.ntmps39
  go_wp2
  go_ret
  exact ⟨ret_int (by omega), rfl⟩
theorem place_is (g f n : Nat) (w : World) (h : w.cell? ⟨g, 4097, none⟩ = some (.int .i64 f)) (hf : f < 4096) (hn : n ≤ 4096) :
    Calls Try.prog 40 #[.pointer (some ⟨g, 1, none⟩), .int .i64 n] w fun e w' => e = .returned (.int .i64 (((f + n) % 4096 : Nat) : Int)) ∧ w' = w := by
  go_enter Try.func40, Try.ntmps40
  go_wp2
  go_ret
  exact ⟨ret_int (by omega), rfl⟩
theorem side_is (g : Nat) (x : Bool) (w : World) :
    Calls Try.prog 37 #[.pointer (some ⟨g, 0, none⟩), .bool x] w fun e w' => e = .returned (.pointer (some ⟨g, if x then 4100 else 4099, none⟩)) ∧ w' = w := by
  cases x
  · go_enter Try.func37, Try.ntmps37
    go_wp2
    go_ret
    exact ⟨rfl, rfl⟩
  · go_enter Try.func37, Try.ntmps37
    go_wp2
    go_ret
    exact ⟨rfl, rfl⟩
theorem readWaits_is (g : Nat) (R : List Value) (f c rd wr : Nat) (w : World) (h : Pp w g R f c rd wr) :
    Calls Try.prog 32 #[.pointer (some ⟨g, 0, none⟩)] w fun e w' => e = .returned (.bool (decide (c = 0 ∧ 0 < wr))) ∧ w' = w := by
  have h1 := h.cc
  have h2 := h.cw
  have h3 := h.lc
  clear h
  rcases (show 0 < c ∨ (c = 0 ∧ 0 < wr) ∨ (c = 0 ∧ wr = 0) by omega) with hc | ⟨rfl, hw⟩ | ⟨rfl, rfl⟩
  · rw [show decide (c = 0 ∧ 0 < wr) = false by simp; omega]
    have k1 : ¬ ((4096 - c : Nat) : Int) = 4096 := by omega
    have k2 : (((4096 - c : Nat) : Int) == 4096) = false := by simp; omega
    go_enter Try.func32, Try.ntmps32
    go_wp2_with fail
    refine (room_is g c w h1 h3).mono ?_
    rintro e w1 ⟨rfl, rfl⟩
    generalize ((4096 - c : Nat) : Int) = y at *
    go_wp2
    go_ret
    exact ⟨rfl, rfl⟩
  · rw [show decide (0 = 0 ∧ 0 < wr) = true by simp; omega]
    have k2 : (0 : Int) < (wr : Int) := by omega
    go_enter Try.func32, Try.ntmps32
    go_wp2_with fail
    refine (room_is g 0 w h1 h3).mono ?_
    rintro e w1 ⟨rfl, rfl⟩
    go_wp2
    go_ret
    exact ⟨rfl, rfl⟩
  · go_enter Try.func32, Try.ntmps32
    go_wp2_with fail
    refine (room_is g 0 w h1 h3).mono ?_
    rintro e w1 ⟨rfl, rfl⟩
    go_wp2
    go_ret
    exact ⟨rfl, rfl⟩

/-- How many of n bytes a write takes. -/
def fitN (n most c : Nat) : Nat := if 512 < n then min n (min most (4096 - c)) else if 4096 - c < n then 0 else n
theorem fitN_le (n most c : Nat) : fitN n most c ≤ n ∧ (c ≤ 4096 → c + fitN n most c ≤ 4096) := by unfold fitN; split <;> (try split) <;> omega

set_option maxHeartbeats 1000000 in
theorem fitting_is (g : Nat) (R : List Value) (f c rd wr n most : Nat) (w : World) (h : Pp w g R f c rd wr) (hn : n ≤ 1048576) :
    Calls Try.prog 35 #[.pointer (some ⟨g, 0, none⟩), .int .i64 n, .int .i64 most] w fun e w' => e = .returned (.int .i64 (fitN n most c : Nat)) ∧ w' = w := by
  have h1 := h.cc
  have h3 := h.lc
  clear h
  unfold fitN
  by_cases hb : 512 < n
  · rw [if_pos hb]
    go_enter Try.func35, Try.ntmps35
    go_wp2_with fail
    refine (room_is g c w h1 h3).mono ?_
    rintro e w1 ⟨rfl, rfl⟩
    generalize hy : 4096 - c = y at *
    go_wp2
    all_goals
      go_ret
      exact ⟨ret_int (by omega), rfl⟩
  · rw [if_neg hb]
    by_cases hr : 4096 - c < n
    · rw [if_pos hr]
      have k1 : ((4096 - c : Nat) : Int) < (n : Int) := by omega
      go_enter Try.func35, Try.ntmps35
      go_wp2_with fail
      refine (room_is g c w h1 h3).mono ?_
      rintro e w1 ⟨rfl, rfl⟩
      generalize hy : 4096 - c = y at *
      go_wp2
      go_ret
      exact ⟨rfl, rfl⟩
    · rw [if_neg hr]
      have k1 : ¬ ((4096 - c : Nat) : Int) < (n : Int) := by omega
      go_enter Try.func35, Try.ntmps35
      go_wp2_with fail
      refine (room_is g c w h1 h3).mono ?_
      rintro e w1 ⟨rfl, rfl⟩
      generalize hy : 4096 - c = y at *
      go_wp2
      go_ret
      exact ⟨rfl, rfl⟩

/-- Why a write of n bytes may not be. -/
def refE (n : Nat) (most : Int) (rd wr : Nat) : Int := if 1048576 < n then 5 else if inN most = false then 4 else if wr = 0 then 51 else if rd = 0 then 53 else 0

set_option maxHeartbeats 1000000 in
theorem refuses_is (g : Nat) (R : List Value) (f c rd wr : Nat) (a : Option Addr) (n k : Nat) (most : Int) (w : World) (h : Pp w g R f c rd wr) (hn : n ≤ 140737488351232) :
    Calls Try.prog 34 #[.pointer (some ⟨g, 0, none⟩), .slice a n k, .int .i64 most] w fun e w' => e = .returned (.int .i64 (refE n most rd wr)) ∧ w' = w := by
  have h1 := h.c0
  have h2 := h.cr
  have h3 := h.cw
  clear h
  unfold refE
  by_cases hb : 1048576 < n
  · rw [if_pos hb]
    have k1 : (1048576 : Int) < (n : Int) := by omega
    go_enter Try.func34, Try.ntmps34
    go_wp2_with fail
    refine (isMade_is g true w h1).mono ?_
    rintro e w1 ⟨rfl, rfl⟩
    go_wp2
    go_ret
    exact ⟨rfl, rfl⟩
  · rw [if_neg hb]
    have k1 : ¬ (1048576 : Int) < (n : Int) := by omega
    by_cases hi : inN most = false
    · rw [if_pos hi]
      have HI := hide hi
      clear hi
      go_enter Try.func34, Try.ntmps34
      go_wp2_with fail
      refine (isMade_is g true w h1).mono ?_
      rintro e w1 ⟨rfl, rfl⟩
      go_wp2_with fail
      refine (mayBeAsked_any most _).mono ?_
      rintro e w1 ⟨rfl, rfl⟩
      rw [HI.out]
      go_wp2
      go_ret
      exact ⟨rfl, rfl⟩
    · rw [if_neg hi]
      have HI : Hid (inN most = true) := hide (by simpa using hi)
      clear hi
      rcases (show wr = 0 ∨ (0 < wr ∧ rd = 0) ∨ (0 < wr ∧ 0 < rd) by omega) with rfl | ⟨hw, rfl⟩ | ⟨hw, hr⟩
      · rw [if_pos rfl]
        go_enter Try.func34, Try.ntmps34
        go_wp2_with fail
        refine (isMade_is g true w h1).mono ?_
        rintro e w1 ⟨rfl, rfl⟩
        go_wp2_with fail
        refine (mayBeAsked_any most _).mono ?_
        rintro e w1 ⟨rfl, rfl⟩
        rw [HI.out]
        go_wp2
        go_ret
        exact ⟨rfl, rfl⟩
      · rw [if_neg (by omega), if_pos rfl]
        have k2 : ¬ (wr : Int) = 0 := by omega
        have k3 : ((wr : Int) == 0) = false := by simp; omega
        go_enter Try.func34, Try.ntmps34
        go_wp2_with fail
        refine (isMade_is g true w h1).mono ?_
        rintro e w1 ⟨rfl, rfl⟩
        go_wp2_with fail
        refine (mayBeAsked_any most _).mono ?_
        rintro e w1 ⟨rfl, rfl⟩
        rw [HI.out]
        go_wp2
        go_ret
        exact ⟨rfl, rfl⟩
      · rw [if_neg (by omega), if_neg (by omega)]
        have k2 : ¬ (wr : Int) = 0 := by omega
        have k3 : ((wr : Int) == 0) = false := by simp; omega
        have k4 : ¬ (rd : Int) = 0 := by omega
        have k5 : ((rd : Int) == 0) = false := by simp; omega
        go_enter Try.func34, Try.ntmps34
        go_wp2_with fail
        refine (isMade_is g true w h1).mono ?_
        rintro e w1 ⟨rfl, rfl⟩
        go_wp2_with fail
        refine (mayBeAsked_any most _).mono ?_
        rintro e w1 ⟨rfl, rfl⟩
        rw [HI.out]
        go_wp2
        go_ret
        exact ⟨rfl, rfl⟩
end Go.Proofs.Ytfkkojahkfijdaa

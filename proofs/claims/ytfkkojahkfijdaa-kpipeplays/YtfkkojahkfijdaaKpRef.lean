/- The reference's pipe: Join, Leave, Read, CanRead, CanWrite. -/
import Derived.Test.YtfkkojahkfijdaaKpRW
import Derived.Deep.RegionLaw
namespace Go.Proofs.Ytfkkojahkfijdaa
open Go.RowKit

/-- The block t is the reference's pipe, whose bytes lie in a block from B on. -/
structure RP (W : World) (B t : Nat) (a : Option Addr) (c : Nat) (q : List UInt8) (rd wr : Nat) : Prop where
  blk : W.heap[t]? = some (.cells ([.slice a q.length c, .int .i64 rd, .int .i64 wr] : List Value).toArray 28 (0, 0))
  bys : Bys W (.slice a q.length c) q
  cap : q.length ≤ c
  lq : q.length ≤ 4096
  lr : rd ≤ 1024
  lw : wr ≤ 1024
  ad : (a = none ∧ c = 0 ∧ q = []) ∨ ∃ b off, a = some ⟨b, off, none⟩ ∧ b ≠ t ∧ B ≤ b ∧ b < W.heap.size
theorem RP.lt {W : World} {B t : Nat} {a : Option Addr} {c : Nat} {q : List UInt8} {rd wr : Nat} (h : RP W B t a c q rd wr) : t < W.heap.size := (Array.getElem?_eq_some_iff.1 h.blk).1
theorem RP.soft {W : World} {B t : Nat} {a : Option Addr} {c : Nat} {q : List UInt8} {rd wr : Nat} (h : RP W B t a c q rd wr) (j : Nat) : W.frozen? ⟨t, j, none⟩ = false := frozen_of_row W t j _ _ h.blk
theorem RP.c0 {W : World} {B t : Nat} {a : Option Addr} {c : Nat} {q : List UInt8} {rd wr : Nat} (h : RP W B t a c q rd wr) : W.cell? ⟨t, 0, none⟩ = some (.slice a q.length c) := by rw [cell_of_row W t 0 _ _ _ h.blk]; rfl
theorem RP.c1 {W : World} {B t : Nat} {a : Option Addr} {c : Nat} {q : List UInt8} {rd wr : Nat} (h : RP W B t a c q rd wr) : W.cell? ⟨t, 1, none⟩ = some (.int .i64 rd) := by rw [cell_of_row W t 1 _ _ _ h.blk]; rfl
theorem RP.c2 {W : World} {B t : Nat} {a : Option Addr} {c : Nat} {q : List UInt8} {rd wr : Nat} (h : RP W B t a c q rd wr) : W.cell? ⟨t, 2, none⟩ = some (.int .i64 wr) := by rw [cell_of_row W t 2 _ _ _ h.blk]; rfl
theorem RP.keep {S : Nat → Prop} {W W' : World} {B t : Nat} {a : Option Addr} {c : Nat} {q : List UInt8} {rd wr : Nat} (h : RP W B t a c q rd wr) (hT : Turned S W W') (ht : ¬ S t) (hb : ∀ b, B ≤ b → b ≠ t → b < W.heap.size → (Value.slice a q.length c).ownBlock = some b → ¬ S b) : RP W' B t a c q rd wr := by
  refine ⟨(hT.block t h.lt ht).trans h.blk, h.bys.turned hT fun k hk hlt => ?_, h.cap, h.lq, h.lr, h.lw, ?_⟩
  · rcases h.ad with ⟨rfl, _⟩ | ⟨b, off, rfl, h1, h2, h3⟩
    · cases hk
    · obtain rfl : b = k := by simpa [Value.ownBlock] using hk
      exact hb b h2 h1 h3 rfl
  · rcases h.ad with h | ⟨b, off, h0, h1, h2, h3⟩
    · exact .inl h
    · exact .inr ⟨b, off, h0, h1, h2, Nat.lt_of_lt_of_le h3 hT.size⟩
theorem RP.below {W W' : World} {B t : Nat} {a : Option Addr} {c : Nat} {q : List UInt8} {rd wr : Nat} (h : RP W B t a c q rd wr) (hB : Below W.heap.size W W') : RP W' B t a c q rd wr :=
  h.keep (Turned.of_below (S := fun _ => False) hB) id (fun _ _ _ _ _ => id)
/-- A cell of the block turns. -/
theorem RP.set {W : World} {B t : Nat} {a : Option Addr} {c : Nat} {q : List UInt8} {rd wr : Nat} (h : RP W B t a c q rd wr) (j : Nat) (v : Value) {a' : Option Addr} {c' : Nat} {q' : List UInt8} {rd' wr' : Nat}
    (hl : ([.slice a q.length c, .int .i64 rd, .int .i64 wr] : List Value).set j v = [.slice a' q'.length c', .int .i64 rd', .int .i64 wr']) (hb : Bys W (.slice a' q'.length c') q') (hc : q'.length ≤ c') (hq : q'.length ≤ 4096) (hr : rd' ≤ 1024) (hw : wr' ≤ 1024)
    (ha : (a' = none ∧ c' = 0 ∧ q' = []) ∨ ∃ b off, a' = some ⟨b, off, none⟩ ∧ b ≠ t ∧ B ≤ b ∧ b < W.heap.size) : RP (W.setCell ⟨t, j, none⟩ v) B t a' c' q' rd' wr' := by
  have hs : (W.setCell ⟨t, j, none⟩ v).heap.size = W.heap.size := by simp [World.setCell]
  refine ⟨by rw [heap_setCell_same j v h.blk, hl], hb.keep fun k hk _ => Below.heap_setCell _ _ _ _ ?_, hc, hq, hr, hw, ?_⟩
  · rcases ha with ⟨rfl, _⟩ | ⟨b, off, rfl, h1, _⟩
    · cases hk
    · obtain rfl : b = k := by simpa [Value.ownBlock] using hk
      exact h1
  · rw [hs]; exact ha

set_option maxRecDepth 100000 in
set_option maxHeartbeats 1000000 in
theorem rjoin_any (x : Bool) (B t : Nat) (a : Option Addr) (c : Nat) (q : List UInt8) (rd wr : Nat) (w : World) (h : RP w B t a c q rd wr) :
    Calls Try.prog 18 #[.pointer (some ⟨t, 0, none⟩), .bool x] w fun e w' => e = .returned (.int .i64 (joinE x rd wr)) ∧ RP w' B t a c q (joinR x rd wr) (joinW x rd wr) ∧ Turned (fun k => k = t) w w' := by
  have HP := hide h
  have h2 := h.c1
  have h3 := h.c2
  have h4 := h.soft 1
  have h5 := h.soft 2
  have h6 := h.lr
  have h7 := h.lw
  clear h
  cases x
  · by_cases hf : rd = 1024
    · subst hf
      go_enter Try.func18, Try.ntmps18
      go_wp2
      go_ret
      exact ⟨rfl, HP.out, Turned.refl _ _⟩
    · have k1 : ¬ (1024 : Int) ≤ (rd : Int) := by omega
      have HP2 := hide (HP.out.set 1 (.int .i64 ((rd + 1 : Nat) : Int)) (a' := a) (c' := c) (q' := q) (rd' := rd + 1) (wr' := wr) rfl HP.out.bys HP.out.cap HP.out.lq (by omega) HP.out.lw HP.out.ad)
      go_enter Try.func18, Try.ntmps18
      go_wp2
      go_ret
      refine ⟨ret_int (by simp [joinE, hf]), ?_, (Turned.refl _ _).set (.inl rfl)⟩
      simpa [joinR, joinW, hf] using HP2.out
  · by_cases hf : wr = 1024
    · subst hf
      go_enter Try.func18, Try.ntmps18
      go_wp2
      go_ret
      exact ⟨rfl, HP.out, Turned.refl _ _⟩
    · have k1 : ¬ (1024 : Int) ≤ (wr : Int) := by omega
      have HP2 := hide (HP.out.set 2 (.int .i64 ((wr + 1 : Nat) : Int)) (a' := a) (c' := c) (q' := q) (rd' := rd) (wr' := wr + 1) rfl HP.out.bys HP.out.cap HP.out.lq HP.out.lr (by omega) HP.out.ad)
      go_enter Try.func18, Try.ntmps18
      go_wp2
      go_ret
      refine ⟨ret_int (by simp [joinE, hf]), ?_, (Turned.refl _ _).set (.inl rfl)⟩
      simpa [joinR, joinW, hf] using HP2.out

set_option maxRecDepth 100000 in
set_option maxHeartbeats 1000000 in
theorem rleave_any (x : Bool) (B t : Nat) (a : Option Addr) (c : Nat) (q : List UInt8) (rd wr : Nat) (w : World) (h : RP w B t a c q rd wr) :
    Calls Try.prog 20 #[.pointer (some ⟨t, 0, none⟩), .bool x] w fun e w' => e = .returned (.int .i64 (leaveE x rd wr)) ∧ RP w' B t a c q (leaveR x rd wr) (leaveW x rd wr) ∧ Turned (fun k => k = t) w w' := by
  have HP := hide h
  have h2 := h.c1
  have h3 := h.c2
  have h4 := h.soft 1
  have h5 := h.soft 2
  have h6 := h.lr
  have h7 := h.lw
  clear h
  cases x
  · by_cases hf : rd = 0
    · subst hf
      go_enter Try.func20, Try.ntmps20
      go_wp2
      go_ret
      exact ⟨rfl, HP.out, Turned.refl _ _⟩
    · have k1 : ¬ (rd : Int) = 0 := by omega
      have k2 : ((rd : Int) == 0) = false := by simp; omega
      have HP2 := hide (HP.out.set 1 (.int .i64 ((rd - 1 : Nat) : Int)) (a' := a) (c' := c) (q' := q) (rd' := rd - 1) (wr' := wr) rfl HP.out.bys HP.out.cap HP.out.lq (by omega) HP.out.lw HP.out.ad)
      go_enter Try.func20, Try.ntmps20
      go_wp2
      go_ret
      refine ⟨ret_int (by simp [leaveE, hf]), ?_, (Turned.refl _ _).set (.inl rfl)⟩
      rw [show (rd : Int) - 1 = ((rd - 1 : Nat) : Int) by omega]
      exact HP2.out
  · by_cases hf : wr = 0
    · subst hf
      go_enter Try.func20, Try.ntmps20
      go_wp2
      go_ret
      exact ⟨rfl, HP.out, Turned.refl _ _⟩
    · have k1 : ¬ (wr : Int) = 0 := by omega
      have k2 : ((wr : Int) == 0) = false := by simp; omega
      have HP2 := hide (HP.out.set 2 (.int .i64 ((wr - 1 : Nat) : Int)) (a' := a) (c' := c) (q' := q) (rd' := rd) (wr' := wr - 1) rfl HP.out.bys HP.out.cap HP.out.lq HP.out.lr (by omega) HP.out.ad)
      go_enter Try.func20, Try.ntmps20
      go_wp2
      go_ret
      refine ⟨ret_int (by simp [leaveE, hf]), ?_, (Turned.refl _ _).set (.inl rfl)⟩
      rw [show (wr : Int) - 1 = ((wr - 1 : Nat) : Int) by omega]
      exact HP2.out

set_option maxHeartbeats 1000000 in
theorem rcanRead_any (B t : Nat) (a : Option Addr) (c : Nat) (q : List UInt8) (rd wr : Nat) (w : World) (h : RP w B t a c q rd wr) :
    Calls Try.prog 24 #[.pointer (some ⟨t, 0, none⟩)] w fun e w' => e = .returned (.bool (canR q.length rd wr)) ∧ w' = w := by
  have h1 := h.c0
  have h2 := h.c1
  have h3 := h.c2
  clear h
  unfold canR
  generalize q.length = n at *
  rcases (show rd = 0 ∨ (0 < rd ∧ 0 < n) ∨ (0 < rd ∧ n = 0 ∧ 0 < wr) ∨ (0 < rd ∧ n = 0 ∧ wr = 0) by omega) with rfl | ⟨hr, hn⟩ | ⟨hr, rfl, hw⟩ | ⟨hr, rfl, rfl⟩
  · go_enter Try.func24, Try.ntmps24
    go_wp2
    go_ret
    exact ⟨rfl, rfl⟩
  · rw [show decide (0 < rd) = true by simp; omega, show decide (n = 0 ∧ 0 < wr) = false by rw [decide_eq_false_iff_not]; omega]
    have k1 : (0 : Int) < (rd : Int) := by omega
    have k2 : (0 : Int) < (n : Int) := by omega
    go_enter Try.func24, Try.ntmps24
    go_wp2
    go_ret
    exact ⟨rfl, rfl⟩
  · rw [show decide (0 < rd) = true by simp; omega, show decide (0 = 0 ∧ 0 < wr) = true by rw [decide_eq_true_iff]; omega]
    have k1 : (0 : Int) < (rd : Int) := by omega
    have k2 : ((wr : Int) == 0) = false := by simp; omega
    go_enter Try.func24, Try.ntmps24
    go_wp2
    go_ret
    exact ⟨rfl, rfl⟩
  · rw [show decide (0 < rd) = true by simp; omega]
    have k1 : (0 : Int) < (rd : Int) := by omega
    go_enter Try.func24, Try.ntmps24
    go_wp2
    go_ret
    exact ⟨rfl, rfl⟩

set_option maxHeartbeats 2000000 in
theorem rcanWrite_any (n : Int) (B t : Nat) (a : Option Addr) (c : Nat) (q : List UInt8) (rd wr : Nat) (w : World) (h : RP w B t a c q rd wr) :
    Calls Try.prog 26 #[.pointer (some ⟨t, 0, none⟩), .int .i64 n] w fun e w' => e = .returned (.bool (canW n q.length rd wr)) ∧ w' = w := by
  have h1 := h.c0
  have h2 := h.c1
  have h3 := h.c2
  have h4 := h.lq
  clear h
  unfold canW
  generalize q.length = z at *
  by_cases hi : inN n = false
  · rw [hi]
    have h5 : n < 1 ∨ 1048576 < n := by
      simp only [inN, Bool.and_eq_false_iff, decide_eq_false_iff_not] at hi
      omega
    clear hi
    rcases (show wr = 0 ∨ (0 < wr ∧ n < 1) ∨ (0 < wr ∧ 1048576 < n) by omega) with rfl | ⟨hw, hn⟩ | ⟨hw, hn⟩
    · go_enter Try.func26, Try.ntmps26
      go_wp2
      go_ret
      exact ⟨rfl, rfl⟩
    · have k1 : (0 : Int) < (wr : Int) := by omega
      have k2 : ¬ 1 ≤ n := by omega
      go_enter Try.func26, Try.ntmps26
      go_wp2
      go_ret
      exact ⟨rfl, rfl⟩
    · have k1 : (0 : Int) < (wr : Int) := by omega
      have k2 : 1 ≤ n := by omega
      have k3 : ¬ n ≤ 1048576 := by omega
      go_enter Try.func26, Try.ntmps26
      go_wp2
      go_ret
      exact ⟨rfl, rfl⟩
  · have hi' : inN n = true := by simpa using hi
    obtain ⟨m, rfl, hm1, hm2⟩ := inN_nat hi'
    rw [hi']
    clear hi hi'
    simp only [Int.toNat_natCast]
    have k2 : (1 : Int) ≤ (m : Int) := by omega
    have k3 : (m : Int) ≤ 1048576 := by omega
    rcases (show wr = 0 ∨ (0 < wr ∧ rd = 0) ∨ (0 < wr ∧ 0 < rd ∧ m ≤ 512 ∧ m ≤ 4096 - z) ∨ (0 < wr ∧ 0 < rd ∧ m ≤ 512 ∧ ¬ m ≤ 4096 - z) ∨ (0 < wr ∧ 0 < rd ∧ 512 < m ∧ 0 < 4096 - z) ∨ (0 < wr ∧ 0 < rd ∧ 512 < m ∧ z = 4096) by omega) with rfl | ⟨hw, rfl⟩ | ⟨hw, hr, hm, hz⟩ | ⟨hw, hr, hm, hz⟩ | ⟨hw, hr, hm, hz⟩ | ⟨hw, hr, hm, rfl⟩
    · go_enter Try.func26, Try.ntmps26
      go_wp2
      go_ret
      exact ⟨rfl, rfl⟩
    · rw [show decide (0 < wr) = true by simp; omega]
      have k1 : (0 : Int) < (wr : Int) := by omega
      go_enter Try.func26, Try.ntmps26
      go_wp2
      go_ret
      exact ⟨rfl, rfl⟩
    · have hy : fitN m m z = m := by unfold fitN; rw [if_neg (by omega), if_neg (by omega)]
      rw [show decide (0 < wr) = true by simp; omega, show decide (rd = 0) = false by simp; omega, show decide (0 < fitN m m z) = true by rw [hy]; simp; omega]
      have k1 : (0 : Int) < (wr : Int) := by omega
      have k4 : ((rd : Int) == 0) = false := by simp; omega
      have k5 : (m : Int) ≤ 512 := by omega
      have k6 : (m : Int) ≤ 4096 - (z : Int) := by omega
      clear hy
      go_enter Try.func26, Try.ntmps26
      go_wp2
      go_ret
      exact ⟨rfl, rfl⟩
    · have hy : fitN m m z = 0 := by unfold fitN; rw [if_neg (by omega), if_pos (by omega)]
      rw [show decide (0 < wr) = true by simp; omega, show decide (rd = 0) = false by simp; omega, show decide (0 < fitN m m z) = false by rw [hy]; rfl]
      have k1 : (0 : Int) < (wr : Int) := by omega
      have k4 : ((rd : Int) == 0) = false := by simp; omega
      have k5 : (m : Int) ≤ 512 := by omega
      have k6 : ¬ (m : Int) ≤ 4096 - (z : Int) := by omega
      have k7 : ¬ (512 : Int) < (m : Int) := by omega
      clear hy
      go_enter Try.func26, Try.ntmps26
      go_wp2
      go_ret
      exact ⟨rfl, rfl⟩
    · have hy : 0 < fitN m m z := by unfold fitN; rw [if_pos (by omega)]; omega
      rw [show decide (0 < wr) = true by simp; omega, show decide (rd = 0) = false by simp; omega, show decide (0 < fitN m m z) = true by simp; omega]
      have k1 : (0 : Int) < (wr : Int) := by omega
      have k4 : ((rd : Int) == 0) = false := by simp; omega
      have k5 : ¬ (m : Int) ≤ 512 := by omega
      have k7 : (512 : Int) < (m : Int) := by omega
      have k6 : (0 : Int) < 4096 - (z : Int) := by omega
      clear hy
      go_enter Try.func26, Try.ntmps26
      go_wp2
      go_ret
      exact ⟨ret_bool (by simp; omega), rfl⟩
    · have hy : fitN m m 4096 = 0 := by unfold fitN; rw [if_pos (by omega)]; omega
      rw [show decide (0 < wr) = true by simp; omega, show decide (rd = 0) = false by simp; omega, show decide (0 < fitN m m 4096) = false by rw [hy]; rfl]
      have k1 : (0 : Int) < (wr : Int) := by omega
      have k4 : ((rd : Int) == 0) = false := by simp; omega
      have k5 : ¬ (m : Int) ≤ 512 := by omega
      have k7 : (512 : Int) < (m : Int) := by omega
      clear hy
      go_enter Try.func26, Try.ntmps26
      go_wp2
      go_ret
      exact ⟨rfl, rfl⟩
end Go.Proofs.Ytfkkojahkfijdaa

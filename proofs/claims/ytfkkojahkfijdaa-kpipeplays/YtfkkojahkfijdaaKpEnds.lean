/- What the calls of a pipe answer, and what they leave: Join, Leave, Held, Ends, CanRead, CanWrite. -/
import Derived.Test.YtfkkojahkfijdaaKpCall
namespace Go.Proofs.Ytfkkojahkfijdaa
open Go.RowKit

def joinE : Bool → Nat → Nat → Int
  | true, _, wr => if wr = 1024 then 3 else 0
  | false, rd, _ => if rd = 1024 then 3 else 0
def joinR : Bool → Nat → Nat → Nat
  | true, rd, _ => rd
  | false, rd, _ => if rd = 1024 then rd else rd + 1
def joinW : Bool → Nat → Nat → Nat
  | true, _, wr => if wr = 1024 then wr else wr + 1
  | false, _, wr => wr
def leaveE : Bool → Nat → Nat → Int
  | true, _, wr => if wr = 0 then 51 else 0
  | false, rd, _ => if rd = 0 then 51 else 0
def leaveR : Bool → Nat → Nat → Nat
  | true, rd, _ => rd
  | false, rd, _ => rd - 1
def leaveW : Bool → Nat → Nat → Nat
  | true, _, wr => wr - 1
  | false, _, wr => wr

set_option maxRecDepth 100000 in
set_option maxHeartbeats 1000000 in
theorem join_any (x : Bool) (g : Nat) (q : List UInt8) (rd wr : Nat) (w : World) (h : PipeAt w g q rd wr) :
    Calls Try.prog 17 #[.pointer (some ⟨g, 0, none⟩), .bool x] w fun e w' => e = .returned (.int .i64 (joinE x rd wr)) ∧ PipeAt w' g q (joinR x rd wr) (joinW x rd wr) ∧ Turned (fun k => k = g) w w' := by
  obtain ⟨R, f, hP, hq⟩ := h
  have HP := hide hP
  have HQ := hide hq
  have h1 := hP.c0
  have h2 := hP.cr
  have h3 := hP.cw
  have h4 := hP.soft 4099
  have h5 := hP.soft 4100
  have h6 := hP.lr
  have h7 := hP.lw
  clear hP hq
  have fin : ∀ w', Pp w' g R f q.length (joinR x rd wr) (joinW x rd wr) → Turned (fun k => k = g) w w' → PipeAt w' g q (joinR x rd wr) (joinW x rd wr) ∧ Turned (fun k => k = g) w w' := fun w' h h' => ⟨⟨R, f, h, HQ.out⟩, h'⟩
  have HF := hide fin
  clear fin
  cases x
  · by_cases hf : rd = 1024
    · subst hf
      go_enter Try.func17, Try.ntmps17
      go_wp2_with fail
      refine (isMade_is g true w h1).mono ?_
      rintro e w1 ⟨rfl, rfl⟩
      go_wp2_with fail
      refine (side_is g false _).mono ?_
      rintro e w2 ⟨rfl, rfl⟩
      go_wp2
      go_ret
      exact ⟨rfl, HF.out _ HP.out (Turned.refl _ _)⟩
    · have k1 : ¬ (rd : Int) = 1024 := by omega
      have k2 : ((rd : Int) == 1024) = false := by simp; omega
      have HP2 := hide (HP.out.setr (rd + 1) (by omega))
      go_enter Try.func17, Try.ntmps17
      go_wp2_with fail
      refine (isMade_is g true w h1).mono ?_
      rintro e w1 ⟨rfl, rfl⟩
      go_wp2_with fail
      refine (side_is g false _).mono ?_
      rintro e w2 ⟨rfl, rfl⟩
      go_wp2
      go_ret
      refine ⟨ret_int (by simp [joinE, hf]), HF.out _ ?_ ((Turned.refl _ _).set (.inl rfl))⟩
      simpa [joinR, joinW, hf] using HP2.out
  · by_cases hf : wr = 1024
    · subst hf
      go_enter Try.func17, Try.ntmps17
      go_wp2_with fail
      refine (isMade_is g true w h1).mono ?_
      rintro e w1 ⟨rfl, rfl⟩
      go_wp2_with fail
      refine (side_is g true _).mono ?_
      rintro e w2 ⟨rfl, rfl⟩
      go_wp2
      go_ret
      exact ⟨rfl, HF.out _ HP.out (Turned.refl _ _)⟩
    · have k1 : ¬ (wr : Int) = 1024 := by omega
      have k2 : ((wr : Int) == 1024) = false := by simp; omega
      have HP2 := hide (HP.out.setw (wr + 1) (by omega))
      go_enter Try.func17, Try.ntmps17
      go_wp2_with fail
      refine (isMade_is g true w h1).mono ?_
      rintro e w1 ⟨rfl, rfl⟩
      go_wp2_with fail
      refine (side_is g true _).mono ?_
      rintro e w2 ⟨rfl, rfl⟩
      go_wp2
      go_ret
      refine ⟨ret_int (by simp [joinE, hf]), HF.out _ ?_ ((Turned.refl _ _).set (.inl rfl))⟩
      simpa [joinR, joinW, hf] using HP2.out

set_option maxRecDepth 100000 in
set_option maxHeartbeats 1000000 in
theorem leave_any (x : Bool) (g : Nat) (q : List UInt8) (rd wr : Nat) (w : World) (h : PipeAt w g q rd wr) :
    Calls Try.prog 19 #[.pointer (some ⟨g, 0, none⟩), .bool x] w fun e w' => e = .returned (.int .i64 (leaveE x rd wr)) ∧ PipeAt w' g q (leaveR x rd wr) (leaveW x rd wr) ∧ Turned (fun k => k = g) w w' := by
  obtain ⟨R, f, hP, hq⟩ := h
  have HP := hide hP
  have HQ := hide hq
  have h1 := hP.c0
  have h2 := hP.cr
  have h3 := hP.cw
  have h4 := hP.soft 4099
  have h5 := hP.soft 4100
  have h6 := hP.lr
  have h7 := hP.lw
  clear hP hq
  have fin : ∀ w', Pp w' g R f q.length (leaveR x rd wr) (leaveW x rd wr) → Turned (fun k => k = g) w w' → PipeAt w' g q (leaveR x rd wr) (leaveW x rd wr) ∧ Turned (fun k => k = g) w w' := fun w' h h' => ⟨⟨R, f, h, HQ.out⟩, h'⟩
  have HF := hide fin
  clear fin
  cases x
  · by_cases hf : rd = 0
    · subst hf
      go_enter Try.func19, Try.ntmps19
      go_wp2_with fail
      refine (isMade_is g true w h1).mono ?_
      rintro e w1 ⟨rfl, rfl⟩
      go_wp2_with fail
      refine (side_is g false _).mono ?_
      rintro e w2 ⟨rfl, rfl⟩
      go_wp2
      go_ret
      exact ⟨rfl, HF.out _ HP.out (Turned.refl _ _)⟩
    · have k1 : ¬ (rd : Int) = 0 := by omega
      have k2 : ((rd : Int) == 0) = false := by simp; omega
      have HP2 := hide (HP.out.setr (rd - 1) (by omega))
      go_enter Try.func19, Try.ntmps19
      go_wp2_with fail
      refine (isMade_is g true w h1).mono ?_
      rintro e w1 ⟨rfl, rfl⟩
      go_wp2_with fail
      refine (side_is g false _).mono ?_
      rintro e w2 ⟨rfl, rfl⟩
      go_wp2
      go_ret
      refine ⟨ret_int (by simp [leaveE, hf]), HF.out _ ?_ ((Turned.refl _ _).set (.inl rfl))⟩
      rw [show (rd : Int) - 1 = ((rd - 1 : Nat) : Int) by omega]
      exact HP2.out
  · by_cases hf : wr = 0
    · subst hf
      go_enter Try.func19, Try.ntmps19
      go_wp2_with fail
      refine (isMade_is g true w h1).mono ?_
      rintro e w1 ⟨rfl, rfl⟩
      go_wp2_with fail
      refine (side_is g true _).mono ?_
      rintro e w2 ⟨rfl, rfl⟩
      go_wp2
      go_ret
      exact ⟨rfl, HF.out _ HP.out (Turned.refl _ _)⟩
    · have k1 : ¬ (wr : Int) = 0 := by omega
      have k2 : ((wr : Int) == 0) = false := by simp; omega
      have HP2 := hide (HP.out.setw (wr - 1) (by omega))
      go_enter Try.func19, Try.ntmps19
      go_wp2_with fail
      refine (isMade_is g true w h1).mono ?_
      rintro e w1 ⟨rfl, rfl⟩
      go_wp2_with fail
      refine (side_is g true _).mono ?_
      rintro e w2 ⟨rfl, rfl⟩
      go_wp2
      go_ret
      refine ⟨ret_int (by simp [leaveE, hf]), HF.out _ ?_ ((Turned.refl _ _).set (.inl rfl))⟩
      rw [show (wr : Int) - 1 = ((wr - 1 : Nat) : Int) by omega]
      exact HP2.out

set_option maxRecDepth 100000 in
set_option maxHeartbeats 1000000 in
theorem held_any (g : Nat) (q : List UInt8) (rd wr : Nat) (w : World) (h : PipeAt w g q rd wr) :
    Calls Try.prog 22 #[.pointer (some ⟨g, 0, none⟩)] w fun e w' => e = .returned (.slice (some ⟨w.heap.size, 0, none⟩) q.length q.length) ∧ w'.ownsRow w.heap.size 5 1 (.slice (some ⟨w.heap.size, 0, none⟩) q.length q.length) q.length (q.map bv) ∧ Below w.heap.size w w' := by
  obtain ⟨R, f, hP, hq⟩ := h
  have HP := hide hP
  have HQ := hide hq
  have h1 := hP.c0
  have HT := hide (List.take_of_length_le hP.lc)
  clear hP hq
  go_enter Try.func22, Try.ntmps22
  go_wp2_with fail
  refine (isMade_is g true w h1).mono ?_
  rintro e w1 ⟨rfl, rfl⟩
  go_wp2_with fail
  refine (front_any g R f rd wr q 4096 _ HP.out HQ.out (by omega)).mono ?_
  rintro e w2 ⟨rfl, hown, hB⟩
  rw [HT.out] at hown ⊢
  have HO := hide hown
  clear hown
  go_wp2
  go_ret
  exact ⟨rfl, HO.out, hB⟩

set_option maxHeartbeats 1000000 in
theorem ends_any (g : Nat) (q : List UInt8) (rd wr : Nat) (w : World) (h : PipeAt w g q rd wr) :
    Calls Try.prog 21 #[.pointer (some ⟨g, 0, none⟩)] w fun e w' => e = .returned (.tuple #[.int .i64 rd, .int .i64 wr]) ∧ Below w.heap.size w w' := by
  obtain ⟨R, f, hP, hq⟩ := h
  have h1 := hP.c0
  have h2 := hP.cr
  have h3 := hP.cw
  clear hP hq
  go_enter Try.func21, Try.ntmps21
  go_wp2_with fail
  refine (isMade_is g true w h1).mono ?_
  rintro e w1 ⟨rfl, rfl⟩
  go_wp2
  go_quiet (fail)
  go_wp2
  go_ret2
  exact ⟨rfl, below_drewN (Below.refl _ _) _⟩

/-- Would Read(1) not wait, of a pipe with a reading end? -/
def canR (n rd wr : Nat) : Bool := decide (0 < rd) && !decide (n = 0 ∧ 0 < wr)
set_option maxHeartbeats 1000000 in
theorem canRead_any (g : Nat) (q : List UInt8) (rd wr : Nat) (w : World) (h : PipeAt w g q rd wr) :
    Calls Try.prog 23 #[.pointer (some ⟨g, 0, none⟩)] w fun e w' => e = .returned (.bool (canR q.length rd wr)) ∧ w' = w := by
  obtain ⟨R, f, hP, hq⟩ := h
  have HP := hide hP
  have h1 := hP.c0
  have h2 := hP.cr
  clear hP hq
  unfold canR
  by_cases hr : 0 < rd
  · rw [show decide (0 < rd) = true by simp; omega]
    have k1 : (0 : Int) < (rd : Int) := by omega
    generalize hy : decide (q.length = 0 ∧ 0 < wr) = y
    have HY := hide hy
    clear hy
    go_enter Try.func23, Try.ntmps23
    go_wp2_with fail
    refine (isMade_is g true w h1).mono ?_
    rintro e w1 ⟨rfl, rfl⟩
    go_wp2_with fail
    refine (readWaits_is g R f q.length rd wr _ HP.out).mono ?_
    rintro e w2 ⟨rfl, rfl⟩
    rw [HY.out]
    go_wp2
    go_ret
    exact ⟨ret_bool (by simp), rfl⟩
  · obtain rfl : rd = 0 := by omega
    go_enter Try.func23, Try.ntmps23
    go_wp2_with fail
    refine (isMade_is g true w h1).mono ?_
    rintro e w1 ⟨rfl, rfl⟩
    go_wp2
    go_ret
    exact ⟨rfl, rfl⟩

/-- Would Write of n bytes not wait, of a pipe with a writing end? -/
def canW (n : Int) (c rd wr : Nat) : Bool := inN n && (decide (0 < wr) && (decide (rd = 0) || decide (0 < fitN n.toNat n.toNat c)))
set_option maxHeartbeats 1000000 in
theorem canWrite_any (n : Int) (g : Nat) (q : List UInt8) (rd wr : Nat) (w : World) (h : PipeAt w g q rd wr) :
    Calls Try.prog 25 #[.pointer (some ⟨g, 0, none⟩), .int .i64 n] w fun e w' => e = .returned (.bool (canW n q.length rd wr)) ∧ w' = w := by
  obtain ⟨R, f, hP, hq⟩ := h
  have HP := hide hP
  have h1 := hP.c0
  have h2 := hP.cr
  have h3 := hP.cw
  clear hP hq
  unfold canW
  by_cases hi : inN n = false
  · rw [hi]
    have HI := hide hi
    clear hi
    go_enter Try.func25, Try.ntmps25
    go_wp2_with fail
    refine (isMade_is g true w h1).mono ?_
    rintro e w1 ⟨rfl, rfl⟩
    go_wp2_with fail
    refine (mayBeAsked_any n _).mono ?_
    rintro e w1 ⟨rfl, rfl⟩
    rw [HI.out]
    go_wp2
    go_ret
    exact ⟨rfl, rfl⟩
  · have hi' : inN n = true := by simpa using hi
    obtain ⟨m, rfl, hm1, hm2⟩ := inN_nat hi'
    rw [hi']
    have HI := hide hi'
    clear hi hi'
    simp only [Int.toNat_natCast]
    rcases (show wr = 0 ∨ (0 < wr ∧ rd = 0) ∨ (0 < wr ∧ 0 < rd) by omega) with rfl | ⟨hw, rfl⟩ | ⟨hw, hr⟩
    · go_enter Try.func25, Try.ntmps25
      go_wp2_with fail
      refine (isMade_is g true w h1).mono ?_
      rintro e w1 ⟨rfl, rfl⟩
      go_wp2_with fail
      refine (mayBeAsked_any m _).mono ?_
      rintro e w1 ⟨rfl, rfl⟩
      rw [HI.out]
      go_wp2
      go_ret
      exact ⟨rfl, rfl⟩
    · rw [show decide (0 < wr) = true by simp; omega]
      have k1 : ¬ (wr : Int) = 0 := by omega
      have k2 : ((wr : Int) == 0) = false := by simp; omega
      go_enter Try.func25, Try.ntmps25
      go_wp2_with fail
      refine (isMade_is g true w h1).mono ?_
      rintro e w1 ⟨rfl, rfl⟩
      go_wp2_with fail
      refine (mayBeAsked_any m _).mono ?_
      rintro e w1 ⟨rfl, rfl⟩
      rw [HI.out]
      go_wp2
      go_ret
      exact ⟨rfl, rfl⟩
    · rw [show decide (0 < wr) = true by simp; omega, show decide (rd = 0) = false by simp; omega]
      have k1 : ¬ (wr : Int) = 0 := by omega
      have k2 : ((wr : Int) == 0) = false := by simp; omega
      have k3 : ¬ (rd : Int) = 0 := by omega
      have k4 : ((rd : Int) == 0) = false := by simp; omega
      go_enter Try.func25, Try.ntmps25
      go_wp2_with fail
      refine (isMade_is g true w h1).mono ?_
      rintro e w1 ⟨rfl, rfl⟩
      go_wp2_with fail
      refine (mayBeAsked_any m _).mono ?_
      rintro e w1 ⟨rfl, rfl⟩
      rw [HI.out]
      go_wp2_with fail
      refine (fitting_is g R f q.length rd wr m m _ HP.out hm2).mono ?_
      rintro e w1 ⟨rfl, rfl⟩
      go_wp2
      go_ret
      exact ⟨ret_bool (by simp), rfl⟩
end Go.Proofs.Ytfkkojahkfijdaa

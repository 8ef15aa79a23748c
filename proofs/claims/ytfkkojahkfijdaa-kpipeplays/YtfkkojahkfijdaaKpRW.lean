/- What Read and Write of a pipe answer, and what they leave. -/
import Derived.Test.YtfkkojahkfijdaaKpEnds
namespace Go.Proofs.Ytfkkojahkfijdaa
open Go.RowKit

/-- What Read answers. -/
def rdE (n : Int) (c rd wr : Nat) : Int := if inN n = false then 4 else if rd = 0 then 51 else if decide (c = 0 ∧ 0 < wr) = true then 52 else 0
def rdB (n : Int) (q : List UInt8) (rd wr : Nat) : List UInt8 := if rdE n q.length rd wr = 0 then q.take n.toNat else []
def rdQ (n : Int) (q : List UInt8) (rd wr : Nat) : List UInt8 := if rdE n q.length rd wr = 0 then q.drop n.toNat else q
/-- What Write answers. -/
def wrE (n : Nat) (most : Int) (c rd wr : Nat) : Int := if refE n most rd wr = 0 then (if n = 0 then 0 else if fitN n most.toNat c = 0 then 52 else 0) else refE n most rd wr
def wrN (n : Nat) (most : Int) (c rd wr : Nat) : Nat := if refE n most rd wr = 0 then fitN n most.toNat c else 0
theorem wrN_le (n : Nat) (most : Int) (c rd wr : Nat) : wrN n most c rd wr ≤ n ∧ (c ≤ 4096 → c + wrN n most c rd wr ≤ 4096) := by
  unfold wrN
  split
  · exact fitN_le _ _ _
  · exact ⟨Nat.zero_le _, fun h => by omega⟩
theorem refE_zero {n : Nat} {most : Int} {rd wr : Nat} (h : refE n most rd wr = 0) : n ≤ 1048576 ∧ inN most = true ∧ 0 < wr ∧ 0 < rd := by
  unfold refE at h
  split at h
  · simp at h
  · split at h
    · simp at h
    · split at h
      · simp at h
      · split at h
        · simp at h
        · rename_i h1 h2 h3 h4
          exact ⟨by omega, by simpa using h2, by omega, by omega⟩

set_option maxRecDepth 100000 in
set_option maxHeartbeats 1000000 in
theorem read_any (n : Int) (g : Nat) (q : List UInt8) (rd wr : Nat) (w : World) (h : PipeAt w g q rd wr) :
    Calls Try.prog 9 #[.pointer (some ⟨g, 0, none⟩), .int .i64 n] w fun e w' => ∃ v, e = .returned (.tuple #[v, .int .i64 (rdE n q.length rd wr)]) ∧ w'.ownsRow w.heap.size 5 1 v (rdB n q rd wr).length ((rdB n q rd wr).map bv) ∧ PipeAt w' g (rdQ n q rd wr) rd wr ∧ Turned (fun k => k = g) w w' := by
  have HA := hide h
  obtain ⟨R, f, hP, hq⟩ := h
  have HP := hide hP
  have h1 := hP.c0
  have h2 := hP.cr
  clear hP hq
  unfold rdB rdQ
  by_cases hi : inN n = false
  · have he : rdE n q.length rd wr = 4 := by rw [rdE, if_pos hi]
    rw [he, if_neg (by decide), if_neg (by decide)]
    have HI := hide hi
    clear hi he
    go_enter Try.func9, Try.ntmps9
    go_wp2_with fail
    refine (isMade_is g true w h1).mono ?_
    rintro e w1 ⟨rfl, rfl⟩
    go_wp2_with fail
    refine (mayBeAsked_any n _).mono ?_
    rintro e w1 ⟨rfl, rfl⟩
    rw [HI.out]
    go_wp2
    go_ret2
    exact ⟨_, rfl, World.ownsRow_nil _ _ _ _, HA.out, Turned.refl _ _⟩
  · have hi' : inN n = true := by simpa using hi
    obtain ⟨m, rfl, hm1, hm2⟩ := inN_nat hi'
    have HI := hide hi'
    clear hi'
    simp only [Int.toNat_natCast]
    by_cases hr : rd = 0
    · subst hr
      have he : rdE m q.length 0 wr = 51 := by rw [rdE, if_neg hi, if_pos rfl]
      rw [he, if_neg (by decide), if_neg (by decide)]
      clear hi he
      go_enter Try.func9, Try.ntmps9
      go_wp2_with fail
      refine (isMade_is g true w h1).mono ?_
      rintro e w1 ⟨rfl, rfl⟩
      go_wp2_with fail
      refine (mayBeAsked_any m _).mono ?_
      rintro e w1 ⟨rfl, rfl⟩
      rw [HI.out]
      go_wp2
      go_ret2
      exact ⟨_, rfl, World.ownsRow_nil _ _ _ _, HA.out, Turned.refl _ _⟩
    · have k1 : ¬ (rd : Int) = 0 := by omega
      have k2 : ((rd : Int) == 0) = false := by simp; omega
      by_cases hb : decide (q.length = 0 ∧ 0 < wr) = true
      · have he : rdE m q.length rd wr = 52 := by rw [rdE, if_neg hi, if_neg hr, if_pos hb]
        rw [he, if_neg (by decide), if_neg (by decide)]
        have HB := hide hb
        clear hi he hb
        go_enter Try.func9, Try.ntmps9
        go_wp2_with fail
        refine (isMade_is g true w h1).mono ?_
        rintro e w1 ⟨rfl, rfl⟩
        go_wp2_with fail
        refine (mayBeAsked_any m _).mono ?_
        rintro e w1 ⟨rfl, rfl⟩
        rw [HI.out]
        go_wp2_with fail
        refine (readWaits_is g R f q.length rd wr _ HP.out).mono ?_
        rintro e w1 ⟨rfl, rfl⟩
        rw [HB.out]
        go_wp2
        go_ret2
        exact ⟨_, rfl, World.ownsRow_nil _ _ _ _, HA.out, Turned.refl _ _⟩
      · have he : rdE m q.length rd wr = 0 := by rw [rdE, if_neg hi, if_neg hr, if_neg hb]
        rw [he, if_pos rfl, if_pos rfl]
        have HB : Hid (decide (q.length = 0 ∧ 0 < wr) = false) := hide (by simpa using hb)
        obtain ⟨L, hL⟩ : ∃ L, L = (q.take m).length := ⟨_, rfl⟩
        have HL := hide hL
        rw [← hL]
        clear hi he hb hL
        go_enter Try.func9, Try.ntmps9
        go_wp2_with fail
        refine (isMade_is g true w h1).mono ?_
        rintro e w1 ⟨rfl, rfl⟩
        go_wp2_with fail
        refine (mayBeAsked_any m _).mono ?_
        rintro e w1 ⟨rfl, rfl⟩
        rw [HI.out]
        go_wp2_with fail
        refine (readWaits_is g R f q.length rd wr _ HP.out).mono ?_
        rintro e w1 ⟨rfl, rfl⟩
        rw [HB.out]
        go_wp2_with fail
        refine (take_any g rd wr q m _ HA.out hm2).mono ?_
        rintro e w2 ⟨rfl, hown, hP2, hT⟩
        rw [← HL.out] at hown ⊢
        have HO := hide hown
        have HP2 := hide hP2
        clear hown hP2
        go_wp2
        go_ret2
        exact ⟨_, rfl, HO.out, HP2.out, hT⟩

/-- What came in lies in no block that is new. -/
theorem bys_off {W : World} {a : Option Addr} {n c g : Nat} {x : List UInt8} (h : Bys W (.slice a n c) x) (hg : W.heap.size ≤ g) : 0 < x.length → (Value.slice a n c).ownBlock ≠ some g := fun h0 e => by
  obtain ⟨_, b, off, rfl, hb, _⟩ := bys_block h h0
  have : b = g := by simpa [Value.ownBlock] using e
  omega

set_option maxRecDepth 100000 in
set_option maxHeartbeats 1000000 in
theorem write_any (most : Int) (g : Nat) (q x : List UInt8) (a : Option Addr) (n cx : Nat) (rd wr : Nat) (w : World) (h : PipeAt w g q rd wr) (hx : Bys w (.slice a n cx) x) (hcx : x.length ≤ cx) (hxs : x.length ≤ 140737488351232) (hxg : 0 < x.length → (Value.slice a n cx).ownBlock ≠ some g) :
    Calls Try.prog 14 #[.pointer (some ⟨g, 0, none⟩), .slice a n cx, .int .i64 most] w fun e w' => e = .returned (.tuple #[.int .i64 (wrN x.length most q.length rd wr : Nat), .int .i64 (wrE x.length most q.length rd wr)]) ∧ PipeAt w' g (q ++ x.take (wrN x.length most q.length rd wr)) rd wr ∧ Turned (fun k => k = g) w w' := by
  have HA := hide h
  have hql := h.len
  obtain ⟨R, f, hP, hq⟩ := h
  have HP := hide hP
  clear hP hq
  obtain ⟨a1, c1, he1, -⟩ := bys_form hx
  obtain ⟨rfl, rfl, rfl⟩ : a = a1 ∧ n = x.length ∧ cx = c1 := by simpa using he1
  have HX := hide hx
  have HG := hide hxg
  clear hx he1 hxg
  unfold wrN wrE
  by_cases hr : refE x.length most rd wr = 0
  · obtain ⟨hl, hi, hw0, hr0⟩ := refE_zero hr
    obtain ⟨m, rfl, hm1, hm2⟩ := inN_nat hi
    rw [if_pos hr, if_pos hr]
    simp only [Int.toNat_natCast]
    have HR := hide hr
    clear hr hi
    by_cases hx0 : x.length = 0
    · obtain rfl : x = [] := List.length_eq_zero_iff.1 hx0
      rw [if_pos hx0]
      simp only [List.length_nil] at *
      go_enter Try.func14, Try.ntmps14
      go_wp2_with fail
      refine (refuses_is g R f q.length rd wr _ 0 _ m _ HP.out (by omega)).mono ?_
      rintro e w1 ⟨rfl, rfl⟩
      rw [HR.out]
      go_wp2
      go_ret2
      exact ⟨rfl, by simpa using HA.out, Turned.refl _ _⟩
    · rw [if_neg hx0]
      have k1 : ¬ (x.length : Int) = 0 := by omega
      have k2 : ((x.length : Int) == 0) = false := by rw [beq_eq_false_iff_ne]; omega
      obtain ⟨y, hy⟩ : ∃ y, y = fitN x.length m q.length := ⟨_, rfl⟩
      have hyl := fitN_le x.length m q.length
      by_cases hy0 : fitN x.length m q.length = 0
      · rw [if_pos hy0]
        rw [← hy] at hyl hy0 ⊢
        subst hy0
        have HY := hide hy
        clear hy hyl
        go_enter Try.func14, Try.ntmps14
        go_wp2_with fail
        refine (refuses_is g R f q.length rd wr _ x.length _ m _ HP.out hxs).mono ?_
        rintro e w1 ⟨rfl, rfl⟩
        rw [HR.out]
        go_wp2_with fail
        refine (fitting_is g R f q.length rd wr x.length m _ HP.out hl).mono ?_
        rintro e w1 ⟨rfl, rfl⟩
        rw [← HY.out]
        go_wp2
        go_ret2
        exact ⟨rfl, by simpa using HA.out, Turned.refl _ _⟩
      · rw [if_neg hy0]
        rw [← hy] at hyl hy0 ⊢
        have k3 : ¬ (y : Int) = 0 := by omega
        have k4 : ((y : Int) == 0) = false := by simp; omega
        have k5 : (y : Int) ≤ (cx : Int) := by omega
        obtain ⟨-, b, off, rfl, hbl, -⟩ := bys_block HX.out (by omega)
        have HXc : Hid (Bys w (.slice (some ⟨b, off, none⟩) y cx) (x.take y)) := hide (by simpa using bys_cut HX.out 0 y cx (by omega))
        have htl : (x.take y).length = y := by simp; omega
        have HTL := hide htl
        have hyf : q.length + y ≤ 4096 := by have := hyl.2 hql; omega
        have HY := hide hy
        clear hy hyl htl
        have HPut := hide (put_any g rd wr q (x.take y) (some ⟨b, off, none⟩) y cx w.drew (HA.out.keep (W' := w.drew) rfl) (HXc.out.below (Below.refl _ w).drew) (by rw [HTL.out]; omega) (by rw [HTL.out]; omega) (HG.out (by omega)) (by rw [HTL.out]; omega))
        go_enter Try.func14, Try.ntmps14
        go_wp2_with fail
        refine (refuses_is g R f q.length rd wr _ x.length _ m _ HP.out hxs).mono ?_
        rintro e w1 ⟨rfl, rfl⟩
        rw [HR.out]
        go_wp2_with fail
        refine (fitting_is g R f q.length rd wr x.length m _ HP.out hl).mono ?_
        rintro e w1 ⟨rfl, rfl⟩
        rw [← HY.out]
        go_wp2_with fail
        go_region_with (go_at_call 36; refine HPut.out.mono ?_; rintro e w' ⟨rfl, hP2, hT⟩; have HP2 := hide hP2; have HT := hide hT; clear hP2 hT)
        go_wp2
        go_ret2
        exact ⟨rfl, HP2.out, (Turned.of_below (S := fun k => k = g) (Below.refl _ _).drew).trans HT.out (fun _ _ e => e)⟩
  · rw [if_neg hr, if_neg hr]
    have HR := hide hr
    obtain ⟨y, hy⟩ : ∃ y, y = refE x.length most rd wr := ⟨_, rfl⟩
    rw [← hy] at hr ⊢
    have k1 : (y == 0) = false := by simpa using hr
    have HY := hide hy
    clear hy HR
    go_enter Try.func14, Try.ntmps14
    go_wp2_with fail
    refine (refuses_is g R f q.length rd wr _ x.length _ most _ HP.out hxs).mono ?_
    rintro e w1 ⟨rfl, rfl⟩
    rw [← HY.out]
    go_wp2
    go_ret2
    exact ⟨rfl, by simpa using HA.out, Turned.refl _ _⟩
end Go.Proofs.Ytfkkojahkfijdaa

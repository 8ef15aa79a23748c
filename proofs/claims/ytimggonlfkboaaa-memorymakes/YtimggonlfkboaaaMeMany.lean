/- A custom stream: howMany. -/
import Derived.Test.YtimggonlfkboaaaMeUse2
namespace Go.Proofs.Ytimggonlfkboaaa
open Go.RowKit

set_option maxRecDepth 100000 in
set_option maxHeartbeats 2000000 in
theorem howMany_all (O : Nat → Prop) (g n : Nat) (C : CS) (w : World) (h : CusAt w O g C) (hr : C.writes = []) :
    Calls Try.prog 50 #[.pointer (some ⟨g, 0, none⟩), .int .i64 (n : Int)] w fun e w' => e = .returned (.tuple #[.int .i64 (n : Int), .int .i64 0]) ∧ w = w' := by
  obtain ⟨rv, wv, tv, R, N, ⟨h0, h1, h2, h3⟩, ⟨f1, f2, f3⟩, hA, hN, hT, ht, hR, hN2, og, l1, l2, l3⟩ := h
  rw [hr] at hN
  obtain ⟨a, cap, rfl, -, -⟩ := hN
  simp only [List.length_nil] at h2
  clear hA hT ht hR hN2 l1 l2 l3 h0 h1 h3 hr
  go_enter_defers Try.func50, Try.ntmps50
  go_wp2
  exact ⟨_, results_tmp2 rfl _ _ _, rfl, rfl⟩
set_option maxRecDepth 100000 in
set_option maxHeartbeats 2000000 in
theorem howMany_fails (O : Nat → Prop) (g n : Nat) (C : CS) (r : List Int) (w : World) (h : CusAt w O g C) (hr : C.writes = -1 :: r) :
    Calls Try.prog 50 #[.pointer (some ⟨g, 0, none⟩), .int .i64 (n : Int)] w fun e w' => e = .returned (.tuple #[.int .i64 0, .int .i64 101]) ∧ CusAt w' O g ⟨C.reads, r, C.taken⟩ ∧ Turned O w w' := by
  obtain ⟨b, off, cap, h1, h2, h3, h4, og, -, -⟩ := h.less hr
  have HU := hide fun (W : World) (hW : CusAt W O g C) => useNumber_any O g C (-1) r .returning W hW hr
  have HM := hide h
  have h13 : (0 : Int) < (r.length : Int) + 1 := by omega
  have h14 : ((r.length : Int) + 1 == 0) = false := by simp; omega
  have h15 : ¬ (r.length : Int) + 1 = 0 := by omega
  clear h hr
  go_enter_defers Try.func50, Try.ntmps50
  go_wp2
  refine leaves_cons (f := 56) (args := #[.pointer (some ⟨g, 0, none⟩)]) (by simp) (by simp [go_sem]) ?_
  refine (HU.out _ HM.out).mono ?_
  rintro e u' w' ⟨rfl, rfl, k1, k2⟩
  exact ⟨_, results_tmp2 rfl _ _ _, rfl, k1, k2⟩
set_option maxRecDepth 100000 in
set_option maxHeartbeats 2000000 in
theorem howMany_some (O : Nat → Prop) (g n k : Nat) (C : CS) (r : List Int) (w : World) (h : CusAt w O g C) (hr : C.writes = (k : Int) :: r) :
    Calls Try.prog 50 #[.pointer (some ⟨g, 0, none⟩), .int .i64 (n : Int)] w fun e w' => e = .returned (.tuple #[.int .i64 ((min k n : Nat) : Int), .int .i64 0]) ∧ CusAt w' O g ⟨C.reads, r, C.taken⟩ ∧ Turned O w w' := by
  obtain ⟨b, off, cap, h1, h2, h3, h4, og, -, -⟩ := h.less hr
  have HU := hide fun (W : World) (hW : CusAt W O g C) => useNumber_any O g C (k : Int) r .returning W hW hr
  have HM := hide h
  have h13 : (0 : Int) < (r.length : Int) + 1 := by omega
  have h14 : ((r.length : Int) + 1 == 0) = false := by simp; omega
  have h15 : ¬ (r.length : Int) + 1 = 0 := by omega
  have h16 : ¬ (k : Int) < -1 := by omega
  have h17 : ¬ (k : Int) = -1 := by omega
  have h18 : ((k : Int) == -1) = false := by simp <;> omega
  obtain ⟨m, hm⟩ : ∃ m, m = min k n := ⟨_, rfl⟩
  have hmi : min (k : Int) (n : Int) = (m : Int) := by omega
  rw [← hm]
  clear h hr hm
  go_enter_defers Try.func50, Try.ntmps50
  go_wp2
  refine leaves_cons (f := 56) (args := #[.pointer (some ⟨g, 0, none⟩)]) (by simp) (by simp [go_sem]) ?_
  refine (HU.out _ HM.out).mono ?_
  rintro e u' w' ⟨rfl, rfl, k1, k2⟩
  exact ⟨_, results_tmp2 rfl _ _ _, rfl, k1, k2⟩
end Go.Proofs.Ytimggonlfkboaaa

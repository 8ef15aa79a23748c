/- The reference's pipe: Write. -/
import Derived.Test.YtfkkojahkfijdaaKpRef2
namespace Go.Proofs.Ytfkkojahkfijdaa
open Go.RowKit

/-- What a write to the reference's pipe answers, and leaves. -/
def RWrite (w : World) (B t : Nat) (va : Value) (rd wr : Nat) (N : Nat) (E : Int) (q' : List UInt8) (e : Ending) (w' : World) : Prop :=
  ∃ a' c', e = .returned (.tuple #[.int .i64 (N : Int), .int .i64 E]) ∧ RP w' B t a' c' q' rd wr ∧ Turned (fun k => k = t) w w' ∧ ∀ b, (Value.slice a' q'.length c').ownBlock = some b → va.ownBlock = some b ∨ w.heap.size ≤ b

theorem rwrite_facts {w : World} {B t : Nat} {a : Option Addr} {c : Nat} {q : List UInt8} {rd wr : Nat} (h : RP w B t a c q rd wr) (hB : B ≤ w.heap.size) {a1 : Option Addr} {N cx : Nat} {X : List UInt8} (hx : Bys w (.slice a1 N cx) X) (hXl : X.length = N) (hN : 1 ≤ N) (hfit : q.length + N ≤ 4096) :
    ∃ s1 w2 sa sc w3, Hid ((Builtin.append_ #[26, 26] 26 #[.slice none 0 0, .slice a q.length c]).run Try.prog w.drew = .ok s1 w2) ∧ Hid ((Builtin.append_ #[26, 26] 26 #[s1, .slice a1 N cx]).run Try.prog w2 = .ok (.slice sa (q.length + N) sc) w3) ∧
      w3.cell? ⟨t, 0, none⟩ = some (.slice a q.length c) ∧ w3.frozen? ⟨t, 0, none⟩ = false ∧ Hid (∀ w' e E, w' = w3.setCell ⟨t, 0, none⟩ (.slice sa (q.length + N) sc) → e = .returned (.tuple #[.int .i64 (N : Int), .int .i64 E]) → RWrite w B t (.slice a q.length c) rd wr N E (q ++ X) e w') := by
  obtain ⟨s1, w2, hr1, HO1, hg1, hb1⟩ := run_append_bytes w.drew 26 w.heap.size (.slice none 0 0) (.slice a q.length c) [] q (World.ownsRow_nil _ _ _ _) (h.bys.below (Below.refl _ w).drew) (by have := h.lq; simp; omega) (Nat.le_refl _)
  rw [List.nil_append] at HO1
  have hB2 : Below w.heap.size w w2 := (Below.refl _ w).drew.grown hg1 (Nat.le_refl _) (fun j e => by cases e)
  have hz2 := hB2.size
  obtain ⟨s2, w3, hr2, HO2, hg2, hb2⟩ := run_append_bytes w2 26 w.heap.size s1 (.slice a1 N cx) q X HO1.out (hx.below hB2) (by have := h.lq; omega) hz2
  have hB3 : Below w.heap.size w w3 := hB2.grown hg2 hz2 (fun j e => (HO1.out.lt j e).1)
  have hql : (q ++ X).length = q.length + N := by rw [List.length_append, hXl]
  obtain ⟨sa, sc, rfl⟩ := owns_slice HO2.out
  have hcap := owns_cap HO2.out
  have hO2 := HO2.out
  have hP3 := h.below hB3
  have htl := h.lt
  refine ⟨s1, w2, sa, sc, w3, hr1, by rw [← hql]; exact hr2, hP3.c0, hP3.soft 0, fun w' e E hw he => ?_⟩
  subst hw
  have hblk : ∀ b, (Value.slice sa (q ++ X).length sc).ownBlock = some b → w.heap.size ≤ b ∧ b < w3.heap.size := fun b e => hO2.lt b e
  refine ⟨sa, sc, he, hP3.set 0 _ (by rw [hql]; rfl) (Bys.of_owns hO2) hcap (by omega) h.lr h.lw ?_, (Turned.of_below (S := fun k => k = t) hB3).set (.inl rfl), fun b e => .inr (hblk b e).1⟩
  right
  rcases hO2.2 with ⟨h0, h1⟩ | ⟨g, c, cur, h1, h2, h3, _⟩
  · omega
  · cases h1
    have := hblk g rfl
    exact ⟨g, 0, rfl, by omega, by omega, by omega⟩

set_option maxRecDepth 100000 in
set_option maxHeartbeats 4000000 in
theorem rwrite_any (most : Int) (B t : Nat) (a : Option Addr) (c : Nat) (q x : List UInt8) (a1 : Option Addr) (n cx : Nat) (rd wr : Nat) (w : World) (h : RP w B t a c q rd wr) (hB : B ≤ w.heap.size) (hx : Bys w (.slice a1 n cx) x) (hcx : x.length ≤ cx) (hxs : x.length ≤ 140737488351232) :
    Calls Try.prog 15 #[.pointer (some ⟨t, 0, none⟩), .slice a1 n cx, .int .i64 most] w (RWrite w B t (.slice a q.length c) rd wr (wrN x.length most q.length rd wr) (wrE x.length most q.length rd wr) (q ++ x.take (wrN x.length most q.length rd wr))) := by
  obtain ⟨a2, c2, he1, -⟩ := bys_form hx
  obtain ⟨rfl, rfl, rfl⟩ : a1 = a2 ∧ n = x.length ∧ cx = c2 := by simpa using he1
  clear he1
  have HP := hide h
  have HX := hide hx
  have h1 := h.c0
  have h2 := h.c1
  have h3 := h.c2
  have hlq := h.lq
  have HF : Hid (∀ E, RWrite w B t (.slice a q.length c) rd wr 0 E q (.returned (.tuple #[.int .i64 ((0 : Nat) : Int), .int .i64 E])) w) := hide fun E => ⟨a, c, rfl, h, Turned.refl _ _, fun b e => .inl e⟩
  clear h hx
  unfold wrN wrE
  by_cases hr : refE x.length most rd wr = 0
  · obtain ⟨hl, hi, hw0, hr0⟩ := refE_zero hr
    obtain ⟨m, rfl, hm1, hm2⟩ := inN_nat hi
    rw [if_pos hr, if_pos hr]
    simp only [Int.toNat_natCast]
    clear hr hi
    have d0 : ¬ (1048576 : Int) < (x.length : Int) := by omega
    have d1 : ¬ (m : Int) < 1 := by omega
    have d2 : ¬ (1048576 : Int) < (m : Int) := by omega
    have d3 : ((wr : Int) == 0) = false := by simp; omega
    have d4 : ((rd : Int) == 0) = false := by simp; omega
    obtain ⟨room, hroom⟩ : ∃ room, room = 4096 - q.length := ⟨_, rfl⟩
    have hrv : (4096 : Int) - (q.length : Int) = (room : Int) := by omega
    by_cases hx0 : x.length = 0
    · obtain rfl : x = [] := List.length_eq_zero_iff.1 hx0
      rw [if_pos hx0]
      have hf : fitN ([] : List UInt8).length m q.length = 0 := by simp [fitN]
      rw [hf, List.take_zero, List.append_nil]
      simp only [List.length_nil] at *
      go_enter Try.func15, Try.ntmps15
      go_wp2
      go_ret2
      exact HF.out 0
    · rw [if_neg hx0]
      have d5 : ((x.length : Int) == 0) = false := by rw [beq_eq_false_iff_ne]; omega
      rcases (show (x.length ≤ 512 ∧ room < x.length) ∨ (512 < x.length ∧ room = 0) ∨ (0 < room ∧ x.length ≤ 512 ∧ x.length ≤ room) ∨ (0 < room ∧ 512 < x.length) by omega) with ⟨hs, hb⟩ | ⟨hs, hb⟩ | ⟨hr1, hs, hb⟩ | ⟨hr1, hs⟩
      · have hf : fitN x.length m q.length = 0 := by unfold fitN; rw [if_neg (by omega), if_pos (by omega)]
        rw [if_pos hf, hf, List.take_zero, List.append_nil]
        have d6 : (x.length : Int) ≤ 512 := by omega
        have d7 : (room : Int) < (x.length : Int) := by omega
        clear hf hroom
        go_enter Try.func15, Try.ntmps15
        go_wp2
        go_ret2
        exact HF.out 52
      · have hf : fitN x.length m q.length = 0 := by unfold fitN; rw [if_pos (by omega)]; omega
        rw [if_pos hf, hf, List.take_zero, List.append_nil]
        subst hb
        have d6 : ¬ (x.length : Int) ≤ 512 := by omega
        clear hf hroom
        go_enter Try.func15, Try.ntmps15
        go_wp2
        go_ret2
        exact HF.out 52
      · have hf : fitN x.length m q.length = x.length := by unfold fitN; rw [if_neg (by omega), if_neg (by omega)]
        rw [if_neg (by omega), hf, List.take_length]
        have d6 : (x.length : Int) ≤ 512 := by omega
        have d7 : ¬ (room : Int) < (x.length : Int) := by omega
        have d8 : ((room : Int) == 0) = false := by rw [beq_eq_false_iff_ne]; omega
        obtain ⟨-, b1, off1, rfl, -, -⟩ := bys_block HX.out (by omega)
        obtain ⟨s1, w2, sa, sc, w3, HR1, HR2, c3, f3, HFin⟩ := rwrite_facts HP.out hB HX.out rfl (by omega) (by omega)
        have d9 : (x.length : Int) ≤ (cx : Int) := by omega
        clear hf hroom HF
        all_goals
          go_enter Try.func15, Try.ntmps15
          go_wp2_with fail
          go_region_law (first | (refine step_append_run _ (by rfl) _ _ _ _ (by rfl) _ _ (by rfl) (by rfl) _ _ HR1.out ?_) | (refine step_append_run _ (by rfl) _ _ _ _ (by rfl) _ _ (by rfl) (by rfl) _ _ HR2.out ?_))
          all_goals
            go_wp2
            go_ret2
            exact HFin.out _ _ 0 rfl rfl
      · have hfe : fitN x.length m q.length = min x.length (min m room) := by unfold fitN; rw [if_pos (by omega), hroom]
        rw [if_neg (by omega), hfe]
        have d6 : ¬ (x.length : Int) ≤ 512 := by omega
        have d8 : ((room : Int) == 0) = false := by rw [beq_eq_false_iff_ne]; omega
        obtain ⟨-, b1, off1, rfl, -, -⟩ := bys_block HX.out (by omega)
        obtain ⟨N, hN⟩ : ∃ N, N = min x.length (min m room) := ⟨_, rfl⟩
        rw [← hN]
        have HXc : Hid (Bys w (.slice (some ⟨b1, off1, none⟩) N cx) (x.take N)) := hide (by simpa using bys_cut HX.out 0 N cx (by omega))
        obtain ⟨s1, w2, sa, sc, w3, HR1, HR2, c3, f3, HFin⟩ := rwrite_facts HP.out hB HXc.out (by simp; omega) (by omega) (by omega)
        have d9 : (N : Int) ≤ (cx : Int) := by omega
        clear hfe hroom HF HXc
        have hcs : (N = x.length ∧ x.length ≤ room ∧ x.length ≤ m) ∨ (N = room ∧ room < x.length ∧ room ≤ m) ∨ (N = m ∧ room < x.length ∧ m < room) ∨ (N = m ∧ x.length ≤ room ∧ m < x.length) := by omega
        clear hN
        rcases hcs with ⟨hNe, e1, e2⟩ | ⟨hNe, e1, e2⟩ | ⟨hNe, e1, e2⟩ | ⟨hNe, e1, e2⟩
        all_goals
          first
            | (have g1 : ¬ (room : Int) < (x.length : Int) := by omega
               have g2 : ¬ (m : Int) < (x.length : Int) := by omega
               subst hNe)
            | (have g1 : (room : Int) < (x.length : Int) := by omega
               have g2 : ¬ (m : Int) < (room : Int) := by omega
               subst hNe)
            | (have g1 : (room : Int) < (x.length : Int) := by omega
               have g2 : (m : Int) < (room : Int) := by omega
               subst hNe)
            | (have g1 : ¬ (room : Int) < (x.length : Int) := by omega
               have g2 : (m : Int) < (x.length : Int) := by omega
               subst hNe)
          go_enter Try.func15, Try.ntmps15
          go_wp2_with fail
          go_region_law (first | (refine step_append_run _ (by rfl) _ _ _ _ (by rfl) _ _ (by rfl) (by rfl) _ _ HR1.out ?_) | (refine step_append_run _ (by rfl) _ _ _ _ (by rfl) _ _ (by rfl) (by rfl) _ _ HR2.out ?_))
          all_goals
            go_wp2
            go_ret2
            exact HFin.out _ _ 0 rfl rfl
  · rw [if_neg hr, if_neg hr, List.take_zero, List.append_nil]
    unfold refE
    by_cases hl : 1048576 < x.length
    · rw [if_pos hl]
      have d0 : (1048576 : Int) < (x.length : Int) := by omega
      clear hr
      go_enter Try.func15, Try.ntmps15
      go_wp2
      go_ret2
      exact HF.out 5
    · rw [if_neg hl]
      have d0 : ¬ (1048576 : Int) < (x.length : Int) := by omega
      by_cases hi : inN most = false
      · rw [if_pos hi]
        have hn := inN_no hi
        clear hr hi
        rcases hn with hn | ⟨hn, hn2⟩
        · go_enter Try.func15, Try.ntmps15
          go_wp2
          go_ret2
          exact HF.out 4
        · have d1 : ¬ most < 1 := by omega
          go_enter Try.func15, Try.ntmps15
          go_wp2
          go_ret2
          exact HF.out 4
      · rw [if_neg hi]
        have hi' := inN_true (by simpa using hi : inN most = true)
        have d1 : ¬ most < 1 := by omega
        have d2 : ¬ 1048576 < most := by omega
        by_cases hw : wr = 0
        · subst hw
          rw [if_pos rfl]
          clear hr hi
          go_enter Try.func15, Try.ntmps15
          go_wp2
          go_ret2
          exact HF.out 51
        · rw [if_neg hw]
          have d3 : ((wr : Int) == 0) = false := by simp; omega
          by_cases hr0 : rd = 0
          · subst hr0
            rw [if_pos rfl]
            clear hr hi
            go_enter Try.func15, Try.ntmps15
            go_wp2
            go_ret2
            exact HF.out 53
          · exfalso
            apply hr
            unfold refE
            rw [if_neg hl, if_neg hi, if_neg hw, if_neg hr0]
end Go.Proofs.Ytfkkojahkfijdaa

/- The reference's pipe: Read. -/
import Derived.Test.YtfkkojahkfijdaaKpRef
namespace Go.Proofs.Ytfkkojahkfijdaa
open Go.RowKit

theorem inN_no {n : Int} (h : inN n = false) : n < 1 ∨ (1 ≤ n ∧ 1048576 < n) := by
  simp only [inN, Bool.and_eq_false_iff, decide_eq_false_iff_not] at h
  omega

/-- What a read of the reference's pipe answers, and leaves. -/
def RRead (w : World) (B t : Nat) (va : Value) (rd wr : Nat) (E : Int) (Y q' : List UInt8) (e : Ending) (w' : World) : Prop :=
  ∃ v a' c', e = .returned (.tuple #[v, .int .i64 E]) ∧ Bys w' v Y ∧ RP w' B t a' c' q' rd wr ∧ Turned (fun k => k = t) w w' ∧ ∀ b, (Value.slice a' q'.length c').ownBlock = some b → va.ownBlock = some b

set_option maxRecDepth 100000 in
set_option maxHeartbeats 1000000 in
theorem rread_ok (n : Nat) (B t : Nat) (a : Option Addr) (c : Nat) (q : List UInt8) (rd wr : Nat) (w : World) (h : RP w B t a c q rd wr) (hn1 : 1 ≤ n) (hn : n ≤ 1048576) (hr : 0 < rd) (hb : ¬ (q.length = 0 ∧ 0 < wr)) :
    Calls Try.prog 10 #[.pointer (some ⟨t, 0, none⟩), .int .i64 n] w (RRead w B t (.slice a q.length c) rd wr 0 (q.take n) (q.drop n)) := by
  have HP := hide h
  have h1 := h.c0
  have h2 := h.c1
  have h3 := h.c2
  have h4 := h.soft 0
  have hcap := h.cap
  have hlq := h.lq
  have had := h.ad
  clear h
  have d1 : ¬ (n : Int) < 1 := by omega
  have d2 : ¬ (1048576 : Int) < (n : Int) := by omega
  have d3 : ((rd : Int) == 0) = false := by simp; omega
  rcases had with ⟨rfl, rfl, rfl⟩ | ⟨b, off, rfl, hbt, hBb, hbl⟩
  · obtain rfl : wr = 0 := by simp at hb; omega
    have HP2 := hide (HP.out.set 0 (.slice none 0 0) (a' := none) (c' := 0) (q' := []) (rd' := rd) (wr' := 0) rfl HP.out.bys HP.out.cap HP.out.lq HP.out.lr HP.out.lw (.inl ⟨rfl, rfl, rfl⟩))
    simp only [List.length_nil] at h1
    have d4 : (0 : Int) < (n : Int) := by omega
    rw [List.take_nil, List.drop_nil, List.length_nil]
    have HF : Hid (∀ w' e, e = .returned (.tuple #[.slice none 0 0, .int .i64 0]) → w' = w.setCell ⟨t, 0, none⟩ (.slice none 0 0) → RRead w B t (.slice none 0 0) rd 0 0 [] [] e w') := hide fun w' e h5 h6 => by
      subst h6
      exact ⟨_, none, 0, h5, .inl ⟨rfl, rfl⟩, HP2.out, (Turned.refl _ _).set (.inl rfl), fun b e => e⟩
    go_enter Try.func10, Try.ntmps10
    go_wp2
    go_ret2
    exact HF.out _ _ rfl rfl
  · rcases (show (q.length = 0 ∧ wr = 0) ∨ 0 < q.length by omega) with ⟨hq0, rfl⟩ | hq0
    · obtain rfl : q = [] := List.length_eq_zero_iff.1 hq0
      rcases (show c = 0 ∨ 0 < c by omega) with rfl | hc0
      case' inl => have d6 : (0 : Int) ≤ 0 := by omega
      case' inr => have d6 : ¬ c = 0 := by omega
      all_goals
        simp only [List.length_nil] at h1
        have d4 : (0 : Int) < (n : Int) := by omega
        rw [List.take_nil, List.drop_nil, List.length_nil]
        go_enter Try.func10, Try.ntmps10
        go_wp2
        go_ret2
        refine ⟨_, some ⟨b, off, none⟩, _, rfl, .inr (.inl ⟨_, _, rfl, rfl⟩), ?_, (Turned.refl _ _).set (.inl rfl), fun b e => e⟩
        exact HP.out.set 0 _ rfl (.inr (.inl ⟨_, _, rfl, rfl⟩)) (by simp) (by simp) HP.out.lr HP.out.lw (.inr ⟨b, off, rfl, hbt, hBb, hbl⟩)
    · have d5 : ((q.length : Int) == 0) = false := by rw [beq_eq_false_iff_ne]; omega
      by_cases hnq : n < q.length
      · have d4 : ¬ (q.length : Int) < (n : Int) := by omega
        have d6 : (n : Int) ≤ (c : Int) := by omega
        have d7 : (n : Int) ≤ (q.length : Int) := by omega
        have d8 : ¬ c = n := by omega
        have htl : (q.take n).length = n := by simp; omega
        have hdl : (q.drop n).length = q.length - n := by simp
        have HB1 : Hid (Bys w (.slice (some ⟨b, off, none⟩) n c) (q.take n)) := hide (by simpa using bys_cut HP.out.bys 0 n c (by omega))
        have HB2 : Hid (Bys w (.slice (some ⟨b, off + n, none⟩) (q.drop n).length (c - n)) (q.drop n)) := hide (by
          have := bys_cut HP.out.bys n (q.length - n) (c - n) (by omega)
          rw [List.take_of_length_le (by simp)] at this
          rw [hdl]; exact this)
        have HP2 := hide (HP.out.set 0 (.slice (some ⟨b, off + n, none⟩) (q.length - n) (c - n)) (a' := some ⟨b, off + n, none⟩) (c' := c - n) (q' := q.drop n) (rd' := rd) (wr' := wr) (by rw [hdl]; rfl) HB2.out (by omega) (by omega) HP.out.lr HP.out.lw (.inr ⟨b, off + n, rfl, hbt, hBb, hbl⟩))
        have HF : Hid (∀ w' e, e = .returned (.tuple #[.slice (some ⟨b, off, none⟩) n c, .int .i64 0]) → w' = w.setCell ⟨t, 0, none⟩ (.slice (some ⟨b, off + n, none⟩) (q.length - n) (c - n)) → RRead w B t (.slice (some ⟨b, off, none⟩) q.length c) rd wr 0 (q.take n) (q.drop n) e w') := hide fun w' e h5 h6 => by
          subst h6
          refine ⟨_, _, _, h5, HB1.out.keep fun k hk _ => Below.heap_setCell _ _ _ _ ?_, HP2.out, (Turned.refl _ _).set (.inl rfl), fun b e => e⟩
          obtain rfl : b = k := by simpa [Value.ownBlock] using hk
          exact hbt
        clear HB1 HB2 HP2 htl hdl
        go_enter Try.func10, Try.ntmps10
        go_wp2
        go_ret2
        exact HF.out _ _ rfl rfl
      · rw [List.take_of_length_le (by omega), List.drop_eq_nil_of_le (by omega)]
        have d9 : (q.length : Int) ≤ (c : Int) := by omega
        have HF : Hid (∀ a' c' w' e, a' = some ⟨b, off, none⟩ ∨ a' = some ⟨b, off + q.length, none⟩ → e = .returned (.tuple #[.slice (some ⟨b, off, none⟩) q.length c, .int .i64 0]) → w' = w.setCell ⟨t, 0, none⟩ (.slice a' 0 c') → RRead w B t (.slice (some ⟨b, off, none⟩) q.length c) rd wr 0 q [] e w') := hide fun a' c' w' e h5 h6 h7 => by
          subst h7
          have h8 : ∃ o', a' = some ⟨b, o', none⟩ := by rcases h5 with h5 | h5 <;> exact ⟨_, h5⟩
          obtain ⟨o', rfl⟩ := h8
          refine ⟨_, _, c', h6, HP.out.bys.keep fun k hk _ => Below.heap_setCell _ _ _ _ ?_, HP.out.set 0 _ rfl (.inr (.inl ⟨_, _, rfl, rfl⟩)) (by simp) (by simp) HP.out.lr HP.out.lw (.inr ⟨b, o', rfl, hbt, hBb, hbl⟩), (Turned.refl _ _).set (.inl rfl), fun b e => e⟩
          obtain rfl : b = k := by simpa [Value.ownBlock] using hk
          exact hbt
        rcases (show q.length < n ∨ n = q.length by omega) with hlt | rfl
        case' inl => have d4 : (q.length : Int) < (n : Int) := by omega
        case' inr => have d4 : ¬ (q.length : Int) < (q.length : Int) := by omega
        all_goals
          rcases (show c = q.length ∨ q.length < c by omega) with rfl | hc
          · go_enter Try.func10, Try.ntmps10
            go_wp2
            go_ret2
            exact HF.out _ _ _ _ (.inl rfl) rfl rfl
          · have d8 : ¬ c = q.length := by omega
            go_enter Try.func10, Try.ntmps10
            go_wp2
            go_ret2
            exact HF.out _ _ _ _ (.inr rfl) rfl rfl

set_option maxRecDepth 100000 in
set_option maxHeartbeats 1000000 in
theorem rread_any (n : Int) (B t : Nat) (a : Option Addr) (c : Nat) (q : List UInt8) (rd wr : Nat) (w : World) (h : RP w B t a c q rd wr) :
    Calls Try.prog 10 #[.pointer (some ⟨t, 0, none⟩), .int .i64 n] w (RRead w B t (.slice a q.length c) rd wr (rdE n q.length rd wr) (rdB n q rd wr) (rdQ n q rd wr)) := by
  have HP := hide h
  have h1 := h.c0
  have h2 := h.c1
  have h3 := h.c2
  unfold rdB rdQ
  by_cases hi : inN n = false
  · have he : rdE n q.length rd wr = 4 := by rw [rdE, if_pos hi]
    rw [he, if_neg (by decide), if_neg (by decide)]
    have hn := inN_no hi
    have HF : Hid (RRead w B t (.slice a q.length c) rd wr 4 [] q (.returned (.tuple #[.slice none 0 0, .int .i64 4])) w) := hide ⟨_, a, c, rfl, .inl ⟨rfl, rfl⟩, h, Turned.refl _ _, fun b e => e⟩
    clear h he hi
    rcases hn with hn | ⟨hn, hn2⟩
    · go_enter Try.func10, Try.ntmps10
      go_wp2
      go_ret2
      exact HF.out
    · have d1 : ¬ n < 1 := by omega
      go_enter Try.func10, Try.ntmps10
      go_wp2
      go_ret2
      exact HF.out
  · have hi' : inN n = true := by simpa using hi
    obtain ⟨m, rfl, hm1, hm2⟩ := inN_nat hi'
    simp only [Int.toNat_natCast]
    have d1 : ¬ (m : Int) < 1 := by omega
    have d2 : ¬ (1048576 : Int) < (m : Int) := by omega
    by_cases hr : rd = 0
    · subst hr
      have he : rdE m q.length 0 wr = 51 := by rw [rdE, if_neg hi, if_pos rfl]
      rw [he, if_neg (by decide), if_neg (by decide)]
      have HF : Hid (RRead w B t (.slice a q.length c) 0 wr 51 [] q (.returned (.tuple #[.slice none 0 0, .int .i64 51])) w) := hide ⟨_, a, c, rfl, .inl ⟨rfl, rfl⟩, h, Turned.refl _ _, fun b e => e⟩
      clear h he hi hi'
      go_enter Try.func10, Try.ntmps10
      go_wp2
      go_ret2
      exact HF.out
    · by_cases hb : q.length = 0 ∧ 0 < wr
      · have he : rdE m q.length rd wr = 52 := by rw [rdE, if_neg hi, if_neg hr, if_pos (decide_eq_true hb)]
        rw [he, if_neg (by decide), if_neg (by decide)]
        have HF : Hid (RRead w B t (.slice a q.length c) rd wr 52 [] q (.returned (.tuple #[.slice none 0 0, .int .i64 52])) w) := hide ⟨_, a, c, rfl, .inl ⟨rfl, rfl⟩, h, Turned.refl _ _, fun b e => e⟩
        have d3 : ((rd : Int) == 0) = false := by simp; omega
        obtain ⟨hq0, hw⟩ := hb
        have d4 : (0 : Int) < (wr : Int) := by omega
        have HQ := hide hq0
        rw [hq0] at h1
        clear h he hi hi' hq0
        go_enter Try.func10, Try.ntmps10
        go_wp2
        go_ret2
        exact HF.out
      · have he : rdE m q.length rd wr = 0 := by rw [rdE, if_neg hi, if_neg hr, if_neg (by simpa using hb)]
        rw [he, if_pos rfl, if_pos rfl]
        exact rread_ok m B t a c q rd wr w h hm1 hm2 (by omega) hb
end Go.Proofs.Ytfkkojahkfijdaa

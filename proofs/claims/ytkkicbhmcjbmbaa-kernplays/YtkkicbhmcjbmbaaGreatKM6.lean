/- What the proof stands on, part 6: the contracts of the program's calls that it reaches. -/
import Derived.Test.YtkkicbhmcjbmbaaGreatKM5
import Derived.Deep.RegionLaw
/- The reference's pipe: Join, Leave, Read, CanRead, CanWrite. -/
namespace Go.Proofs.YtkkicbhmcjbmbaaGreat
open Go.RowKit

/-- The block t is the reference's pipe, whose bytes lie in a block from B on. -/
structure RP (W : World) (B t : Nat) (a : Option Addr) (c : Nat) (q : List UInt8) (rd wr : Nat) : Prop where
  blk : W.heap[t]? = some (.cells ([.slice a q.length c, .int .i64 rd, .int .i64 wr] : List Value).toArray 176 (0, 0))
  bys : Bys W (.slice a q.length c) q
  cap : q.length ≤ c
  lq : q.length ≤ 4096
  lr : rd ≤ 1024
  lw : wr ≤ 1024
  ad : (a = none ∧ c = 0 ∧ q = []) ∨ ∃ b off, a = some ⟨b, off, none⟩ ∧ b ≠ t ∧ B ≤ b ∧ b < W.heap.size
theorem RP.lt {W : World} {B t : Nat} {a : Option Addr} {c : Nat} {q : List UInt8} {rd wr : Nat} (h : RP W B t a c q rd wr) : t < W.heap.size := (Array.getElem?_eq_some_iff.1 h.blk).1
theorem RP.soft {W : World} {B t : Nat} {a : Option Addr} {c : Nat} {q : List UInt8} {rd wr : Nat} (h : RP W B t a c q rd wr) (j : Nat) : W.frozen? ⟨t, j, none⟩ = false := frozen_of_row W t j _ _ h.blk
theorem RP.c0 {W : World} {B t : Nat} {a : Option Addr} {c : Nat} {q : List UInt8} {rd wr : Nat} (h : RP W B t a c q rd wr) : W.cell? ⟨t, 0, none⟩ = some (.slice a q.length c) := by rw [cell_of_row W t 0 _ _ _ h.blk]; rfl
theorem RP.c1 {W : World} {B t : Nat} {a : Option Addr} {c : Nat} {q : List UInt8} {rd wr : Nat} (h : RP W B t a c q rd wr) : W.cell? ⟨t, 1, none⟩ = some (.int .i64 rd) := by rw [cell_of_row W t 1 _ _ _ h.blk]; rfl
theorem RP.c2 {W : World} {B t : Nat} {a : Option Addr} {c : Nat} {q : List UInt8} {rd wr : Nat} (h : RP W B t a c q rd wr) : W.cell? ⟨t, 2, none⟩ = some (.int .i64 wr) := by rw [cell_of_row W t 2 _ _ _ h.blk]; rfl
theorem RP.keep {S : Nat → Prop} {W W' : World} {B t : Nat} {a : Option Addr} {c : Nat} {q : List UInt8} {rd wr : Nat} (h : RP W B t a c q rd wr) (hT : Turned S W W') (ht : ¬ S t) (hb : ∀ b, B ≤ b → b ≠ t → b < W.heap.size → (Value.slice a q.length c).ownBlock = some b → ¬ S b) : RP W' B t a c q rd wr := by
  refine ⟨(hT.block t h.lt ht).trans h.blk, h.bys.turned hT fun k hk hlt => ?_, h.cap, h.lq, h.lr, h.lw, ?_⟩
  · rcases h.ad with ⟨rfl, _⟩ | ⟨b, off, rfl, h1, h2, h3⟩
    · cases hk
    · obtain rfl : b = k := by simpa [Value.ownBlock] using hk
      exact hb b h2 h1 h3 rfl
  · rcases h.ad with h | ⟨b, off, h0, h1, h2, h3⟩
    · exact .inl h
    · exact .inr ⟨b, off, h0, h1, h2, Nat.lt_of_lt_of_le h3 hT.size⟩
theorem RP.below {W W' : World} {B t : Nat} {a : Option Addr} {c : Nat} {q : List UInt8} {rd wr : Nat} (h : RP W B t a c q rd wr) (hB : Below W.heap.size W W') : RP W' B t a c q rd wr :=
  h.keep (Turned.of_below (S := fun _ => False) hB) id (fun _ _ _ _ _ => id)
/-- A cell of the block turns. -/
theorem RP.set {W : World} {B t : Nat} {a : Option Addr} {c : Nat} {q : List UInt8} {rd wr : Nat} (h : RP W B t a c q rd wr) (j : Nat) (v : Value) {a' : Option Addr} {c' : Nat} {q' : List UInt8} {rd' wr' : Nat}
    (hl : ([.slice a q.length c, .int .i64 rd, .int .i64 wr] : List Value).set j v = [.slice a' q'.length c', .int .i64 rd', .int .i64 wr']) (hb : Bys W (.slice a' q'.length c') q') (hc : q'.length ≤ c') (hq : q'.length ≤ 4096) (hr : rd' ≤ 1024) (hw : wr' ≤ 1024)
    (ha : (a' = none ∧ c' = 0 ∧ q' = []) ∨ ∃ b off, a' = some ⟨b, off, none⟩ ∧ b ≠ t ∧ B ≤ b ∧ b < W.heap.size) : RP (W.setCell ⟨t, j, none⟩ v) B t a' c' q' rd' wr' := by
  have hs : (W.setCell ⟨t, j, none⟩ v).heap.size = W.heap.size := by simp [World.setCell]
  refine ⟨by rw [heap_setCell_same j v h.blk, hl], hb.keep fun k hk _ => Below.heap_setCell _ _ _ _ ?_, hc, hq, hr, hw, ?_⟩
  · rcases ha with ⟨rfl, _⟩ | ⟨b, off, rfl, h1, _⟩
    · cases hk
    · obtain rfl : b = k := by simpa [Value.ownBlock] using hk
      exact h1
  · rw [hs]; exact ha

set_option maxRecDepth 100000 in
set_option maxHeartbeats 1000000 in
theorem rleave_any (x : Bool) (B t : Nat) (a : Option Addr) (c : Nat) (q : List UInt8) (rd wr : Nat) (w : World) (h : RP w B t a c q rd wr) :
    Calls Tryz.prog 152 #[.pointer (some ⟨t, 0, none⟩), .bool x] w fun e w' => e = .returned (.int .i64 (leaveE x rd wr)) ∧ RP w' B t a c q (leaveR x rd wr) (leaveW x rd wr) ∧ Turned (fun k => k = t) w w' := by
  have HP := hide h
  have h2 := h.c1
  have h3 := h.c2
  have h4 := h.soft 1
  have h5 := h.soft 2
  have h6 := h.lr
  have h7 := h.lw
  clear h
  cases x
  · by_cases hf : rd = 0
    · subst hf
      go_enter Tryz.func152, Tryz.ntmps152
      go_wp2
      go_ret
      exact ⟨rfl, HP.out, Turned.refl _ _⟩
    · have k1 : ¬ (rd : Int) = 0 := by omega
      have k2 : ((rd : Int) == 0) = false := by simp; omega
      have HP2 := hide (HP.out.set 1 (.int .i64 ((rd - 1 : Nat) : Int)) (a' := a) (c' := c) (q' := q) (rd' := rd - 1) (wr' := wr) rfl HP.out.bys HP.out.cap HP.out.lq (by omega) HP.out.lw HP.out.ad)
      go_enter Tryz.func152, Tryz.ntmps152
      go_wp2
      go_ret
      refine ⟨ret_int (by simp [leaveE, hf]), ?_, (Turned.refl _ _).set (.inl rfl)⟩
      rw [show (rd : Int) - 1 = ((rd - 1 : Nat) : Int) by omega]
      exact HP2.out
  · by_cases hf : wr = 0
    · subst hf
      go_enter Tryz.func152, Tryz.ntmps152
      go_wp2
      go_ret
      exact ⟨rfl, HP.out, Turned.refl _ _⟩
    · have k1 : ¬ (wr : Int) = 0 := by omega
      have k2 : ((wr : Int) == 0) = false := by simp; omega
      have HP2 := hide (HP.out.set 2 (.int .i64 ((wr - 1 : Nat) : Int)) (a' := a) (c' := c) (q' := q) (rd' := rd) (wr' := wr - 1) rfl HP.out.bys HP.out.cap HP.out.lq HP.out.lr (by omega) HP.out.ad)
      go_enter Tryz.func152, Tryz.ntmps152
      go_wp2
      go_ret
      refine ⟨ret_int (by simp [leaveE, hf]), ?_, (Turned.refl _ _).set (.inl rfl)⟩
      rw [show (wr : Int) - 1 = ((wr - 1 : Nat) : Int) by omega]
      exact HP2.out

set_option maxHeartbeats 1000000 in
theorem rcanRead_any (B t : Nat) (a : Option Addr) (c : Nat) (q : List UInt8) (rd wr : Nat) (w : World) (h : RP w B t a c q rd wr) :
    Calls Tryz.prog 137 #[.pointer (some ⟨t, 0, none⟩)] w fun e w' => e = .returned (.bool (canR q.length rd wr)) ∧ w' = w := by
  have h1 := h.c0
  have h2 := h.c1
  have h3 := h.c2
  clear h
  unfold canR
  generalize q.length = n at *
  rcases (show rd = 0 ∨ (0 < rd ∧ 0 < n) ∨ (0 < rd ∧ n = 0 ∧ 0 < wr) ∨ (0 < rd ∧ n = 0 ∧ wr = 0) by omega) with rfl | ⟨hr, hn⟩ | ⟨hr, rfl, hw⟩ | ⟨hr, rfl, rfl⟩
  · go_enter Tryz.func137, Tryz.ntmps137
    go_wp2
    go_ret
    exact ⟨rfl, rfl⟩
  · rw [show decide (0 < rd) = true by simp; omega, show decide (n = 0 ∧ 0 < wr) = false by rw [decide_eq_false_iff_not]; omega]
    have k1 : (0 : Int) < (rd : Int) := by omega
    have k2 : (0 : Int) < (n : Int) := by omega
    go_enter Tryz.func137, Tryz.ntmps137
    go_wp2
    go_ret
    exact ⟨rfl, rfl⟩
  · rw [show decide (0 < rd) = true by simp; omega, show decide (0 = 0 ∧ 0 < wr) = true by rw [decide_eq_true_iff]; omega]
    have k1 : (0 : Int) < (rd : Int) := by omega
    have k2 : ((wr : Int) == 0) = false := by simp; omega
    go_enter Tryz.func137, Tryz.ntmps137
    go_wp2
    go_ret
    exact ⟨rfl, rfl⟩
  · rw [show decide (0 < rd) = true by simp; omega]
    have k1 : (0 : Int) < (rd : Int) := by omega
    go_enter Tryz.func137, Tryz.ntmps137
    go_wp2
    go_ret
    exact ⟨rfl, rfl⟩

set_option maxHeartbeats 2000000 in
theorem rcanWrite_any (n : Int) (B t : Nat) (a : Option Addr) (c : Nat) (q : List UInt8) (rd wr : Nat) (w : World) (h : RP w B t a c q rd wr) :
    Calls Tryz.prog 142 #[.pointer (some ⟨t, 0, none⟩), .int .i64 n] w fun e w' => e = .returned (.bool (canW n q.length rd wr)) ∧ w' = w := by
  have h1 := h.c0
  have h2 := h.c1
  have h3 := h.c2
  have h4 := h.lq
  clear h
  unfold canW
  generalize q.length = z at *
  by_cases hi : inN n = false
  · rw [hi]
    have h5 : n < 1 ∨ 1048576 < n := by
      simp only [inN, Bool.and_eq_false_iff, decide_eq_false_iff_not] at hi
      omega
    clear hi
    rcases (show wr = 0 ∨ (0 < wr ∧ n < 1) ∨ (0 < wr ∧ 1048576 < n) by omega) with rfl | ⟨hw, hn⟩ | ⟨hw, hn⟩
    · go_enter Tryz.func142, Tryz.ntmps142
      go_wp2
      go_ret
      exact ⟨rfl, rfl⟩
    · have k1 : (0 : Int) < (wr : Int) := by omega
      have k2 : ¬ 1 ≤ n := by omega
      go_enter Tryz.func142, Tryz.ntmps142
      go_wp2
      go_ret
      exact ⟨rfl, rfl⟩
    · have k1 : (0 : Int) < (wr : Int) := by omega
      have k2 : 1 ≤ n := by omega
      have k3 : ¬ n ≤ 1048576 := by omega
      go_enter Tryz.func142, Tryz.ntmps142
      go_wp2
      go_ret
      exact ⟨rfl, rfl⟩
  · have hi' : inN n = true := by simpa using hi
    obtain ⟨m, rfl, hm1, hm2⟩ := inN_nat hi'
    rw [hi']
    clear hi hi'
    simp only [Int.toNat_natCast]
    have k2 : (1 : Int) ≤ (m : Int) := by omega
    have k3 : (m : Int) ≤ 1048576 := by omega
    rcases (show wr = 0 ∨ (0 < wr ∧ rd = 0) ∨ (0 < wr ∧ 0 < rd ∧ m ≤ 512 ∧ m ≤ 4096 - z) ∨ (0 < wr ∧ 0 < rd ∧ m ≤ 512 ∧ ¬ m ≤ 4096 - z) ∨ (0 < wr ∧ 0 < rd ∧ 512 < m ∧ 0 < 4096 - z) ∨ (0 < wr ∧ 0 < rd ∧ 512 < m ∧ z = 4096) by omega) with rfl | ⟨hw, rfl⟩ | ⟨hw, hr, hm, hz⟩ | ⟨hw, hr, hm, hz⟩ | ⟨hw, hr, hm, hz⟩ | ⟨hw, hr, hm, rfl⟩
    · go_enter Tryz.func142, Tryz.ntmps142
      go_wp2
      go_ret
      exact ⟨rfl, rfl⟩
    · rw [show decide (0 < wr) = true by simp; omega]
      have k1 : (0 : Int) < (wr : Int) := by omega
      go_enter Tryz.func142, Tryz.ntmps142
      go_wp2
      go_ret
      exact ⟨rfl, rfl⟩
    · have hy : fitN m m z = m := by unfold fitN; rw [if_neg (by omega), if_neg (by omega)]
      rw [show decide (0 < wr) = true by simp; omega, show decide (rd = 0) = false by simp; omega, show decide (0 < fitN m m z) = true by rw [hy]; simp; omega]
      have k1 : (0 : Int) < (wr : Int) := by omega
      have k4 : ((rd : Int) == 0) = false := by simp; omega
      have k5 : (m : Int) ≤ 512 := by omega
      have k6 : (m : Int) ≤ 4096 - (z : Int) := by omega
      clear hy
      go_enter Tryz.func142, Tryz.ntmps142
      go_wp2
      go_ret
      exact ⟨rfl, rfl⟩
    · have hy : fitN m m z = 0 := by unfold fitN; rw [if_neg (by omega), if_pos (by omega)]
      rw [show decide (0 < wr) = true by simp; omega, show decide (rd = 0) = false by simp; omega, show decide (0 < fitN m m z) = false by rw [hy]; rfl]
      have k1 : (0 : Int) < (wr : Int) := by omega
      have k4 : ((rd : Int) == 0) = false := by simp; omega
      have k5 : (m : Int) ≤ 512 := by omega
      have k6 : ¬ (m : Int) ≤ 4096 - (z : Int) := by omega
      have k7 : ¬ (512 : Int) < (m : Int) := by omega
      clear hy
      go_enter Tryz.func142, Tryz.ntmps142
      go_wp2
      go_ret
      exact ⟨rfl, rfl⟩
    · have hy : 0 < fitN m m z := by unfold fitN; rw [if_pos (by omega)]; omega
      rw [show decide (0 < wr) = true by simp; omega, show decide (rd = 0) = false by simp; omega, show decide (0 < fitN m m z) = true by simp; omega]
      have k1 : (0 : Int) < (wr : Int) := by omega
      have k4 : ((rd : Int) == 0) = false := by simp; omega
      have k5 : ¬ (m : Int) ≤ 512 := by omega
      have k7 : (512 : Int) < (m : Int) := by omega
      have k6 : (0 : Int) < 4096 - (z : Int) := by omega
      clear hy
      go_enter Tryz.func142, Tryz.ntmps142
      go_wp2
      go_ret
      exact ⟨ret_bool (by simp; omega), rfl⟩
    · have hy : fitN m m 4096 = 0 := by unfold fitN; rw [if_pos (by omega)]; omega
      rw [show decide (0 < wr) = true by simp; omega, show decide (rd = 0) = false by simp; omega, show decide (0 < fitN m m 4096) = false by rw [hy]; rfl]
      have k1 : (0 : Int) < (wr : Int) := by omega
      have k4 : ((rd : Int) == 0) = false := by simp; omega
      have k5 : ¬ (m : Int) ≤ 512 := by omega
      have k7 : (512 : Int) < (m : Int) := by omega
      clear hy
      go_enter Tryz.func142, Tryz.ntmps142
      go_wp2
      go_ret
      exact ⟨rfl, rfl⟩
end Go.Proofs.YtkkicbhmcjbmbaaGreat

/- The reference's pipe: Read. -/
namespace Go.Proofs.YtkkicbhmcjbmbaaGreat
open Go.RowKit

theorem inN_no {n : Int} (h : inN n = false) : n < 1 ∨ (1 ≤ n ∧ 1048576 < n) := by
  simp only [inN, Bool.and_eq_false_iff, decide_eq_false_iff_not] at h
  omega

/-- What a read of the reference's pipe answers, and leaves. -/
def RRead (w : World) (B t : Nat) (va : Value) (rd wr : Nat) (E : Int) (Y q' : List UInt8) (e : Ending) (w' : World) : Prop :=
  ∃ v a' c', e = .returned (.tuple #[v, .int .i64 E]) ∧ Bys w' v Y ∧ RP w' B t a' c' q' rd wr ∧ Turned (fun k => k = t) w w' ∧ ∀ b, (Value.slice a' q'.length c').ownBlock = some b → va.ownBlock = some b

set_option maxRecDepth 100000 in
set_option maxHeartbeats 1000000 in
theorem rread_ok (n : Nat) (B t : Nat) (a : Option Addr) (c : Nat) (q : List UInt8) (rd wr : Nat) (w : World) (h : RP w B t a c q rd wr) (hn1 : 1 ≤ n) (hn : n ≤ 1048576) (hr : 0 < rd) (hb : ¬ (q.length = 0 ∧ 0 < wr)) :
    Calls Tryz.prog 140 #[.pointer (some ⟨t, 0, none⟩), .int .i64 n] w (RRead w B t (.slice a q.length c) rd wr 0 (q.take n) (q.drop n)) := by
  have HP := hide h
  have h1 := h.c0
  have h2 := h.c1
  have h3 := h.c2
  have h4 := h.soft 0
  have hcap := h.cap
  have hlq := h.lq
  have had := h.ad
  clear h
  have d1 : ¬ (n : Int) < 1 := by omega
  have d2 : ¬ (1048576 : Int) < (n : Int) := by omega
  have d3 : ((rd : Int) == 0) = false := by simp; omega
  rcases had with ⟨rfl, rfl, rfl⟩ | ⟨b, off, rfl, hbt, hBb, hbl⟩
  · obtain rfl : wr = 0 := by simp at hb; omega
    have HP2 := hide (HP.out.set 0 (.slice none 0 0) (a' := none) (c' := 0) (q' := []) (rd' := rd) (wr' := 0) rfl HP.out.bys HP.out.cap HP.out.lq HP.out.lr HP.out.lw (.inl ⟨rfl, rfl, rfl⟩))
    simp only [List.length_nil] at h1
    have d4 : (0 : Int) < (n : Int) := by omega
    rw [List.take_nil, List.drop_nil, List.length_nil]
    have HF : Hid (∀ w' e, e = .returned (.tuple #[.slice none 0 0, .int .i64 0]) → w' = w.setCell ⟨t, 0, none⟩ (.slice none 0 0) → RRead w B t (.slice none 0 0) rd 0 0 [] [] e w') := hide fun w' e h5 h6 => by
      subst h6
      exact ⟨_, none, 0, h5, .inl ⟨rfl, rfl⟩, HP2.out, (Turned.refl _ _).set (.inl rfl), fun b e => e⟩
    go_enter Tryz.func140, Tryz.ntmps140
    go_wp2
    go_ret2
    exact HF.out _ _ rfl rfl
  · rcases (show (q.length = 0 ∧ wr = 0) ∨ 0 < q.length by omega) with ⟨hq0, rfl⟩ | hq0
    · obtain rfl : q = [] := List.length_eq_zero_iff.1 hq0
      rcases (show c = 0 ∨ 0 < c by omega) with rfl | hc0
      case' inl => have d6 : (0 : Int) ≤ 0 := by omega
      case' inr => have d6 : ¬ c = 0 := by omega
      all_goals
        simp only [List.length_nil] at h1
        have d4 : (0 : Int) < (n : Int) := by omega
        rw [List.take_nil, List.drop_nil, List.length_nil]
        go_enter Tryz.func140, Tryz.ntmps140
        go_wp2
        go_ret2
        refine ⟨_, some ⟨b, off, none⟩, _, rfl, .inr (.inl ⟨_, _, rfl, rfl⟩), ?_, (Turned.refl _ _).set (.inl rfl), fun b e => e⟩
        exact HP.out.set 0 _ rfl (.inr (.inl ⟨_, _, rfl, rfl⟩)) (by simp) (by simp) HP.out.lr HP.out.lw (.inr ⟨b, off, rfl, hbt, hBb, hbl⟩)
    · have d5 : ((q.length : Int) == 0) = false := by rw [beq_eq_false_iff_ne]; omega
      by_cases hnq : n < q.length
      · have d4 : ¬ (q.length : Int) < (n : Int) := by omega
        have d6 : (n : Int) ≤ (c : Int) := by omega
        have d7 : (n : Int) ≤ (q.length : Int) := by omega
        have d8 : ¬ c = n := by omega
        have htl : (q.take n).length = n := by simp; omega
        have hdl : (q.drop n).length = q.length - n := by simp
        have HB1 : Hid (Bys w (.slice (some ⟨b, off, none⟩) n c) (q.take n)) := hide (by simpa using bys_cut HP.out.bys 0 n c (by omega))
        have HB2 : Hid (Bys w (.slice (some ⟨b, off + n, none⟩) (q.drop n).length (c - n)) (q.drop n)) := hide (by
          have := bys_cut HP.out.bys n (q.length - n) (c - n) (by omega)
          rw [List.take_of_length_le (by simp)] at this
          rw [hdl]; exact this)
        have HP2 := hide (HP.out.set 0 (.slice (some ⟨b, off + n, none⟩) (q.length - n) (c - n)) (a' := some ⟨b, off + n, none⟩) (c' := c - n) (q' := q.drop n) (rd' := rd) (wr' := wr) (by rw [hdl]; rfl) HB2.out (by omega) (by omega) HP.out.lr HP.out.lw (.inr ⟨b, off + n, rfl, hbt, hBb, hbl⟩))
        have HF : Hid (∀ w' e, e = .returned (.tuple #[.slice (some ⟨b, off, none⟩) n c, .int .i64 0]) → w' = w.setCell ⟨t, 0, none⟩ (.slice (some ⟨b, off + n, none⟩) (q.length - n) (c - n)) → RRead w B t (.slice (some ⟨b, off, none⟩) q.length c) rd wr 0 (q.take n) (q.drop n) e w') := hide fun w' e h5 h6 => by
          subst h6
          refine ⟨_, _, _, h5, HB1.out.keep fun k hk _ => Below.heap_setCell _ _ _ _ ?_, HP2.out, (Turned.refl _ _).set (.inl rfl), fun b e => e⟩
          obtain rfl : b = k := by simpa [Value.ownBlock] using hk
          exact hbt
        clear HB1 HB2 HP2 htl hdl
        go_enter Tryz.func140, Tryz.ntmps140
        go_wp2
        go_ret2
        exact HF.out _ _ rfl rfl
      · rw [List.take_of_length_le (by omega), List.drop_eq_nil_of_le (by omega)]
        have d9 : (q.length : Int) ≤ (c : Int) := by omega
        have HF : Hid (∀ a' c' w' e, a' = some ⟨b, off, none⟩ ∨ a' = some ⟨b, off + q.length, none⟩ → e = .returned (.tuple #[.slice (some ⟨b, off, none⟩) q.length c, .int .i64 0]) → w' = w.setCell ⟨t, 0, none⟩ (.slice a' 0 c') → RRead w B t (.slice (some ⟨b, off, none⟩) q.length c) rd wr 0 q [] e w') := hide fun a' c' w' e h5 h6 h7 => by
          subst h7
          have h8 : ∃ o', a' = some ⟨b, o', none⟩ := by rcases h5 with h5 | h5 <;> exact ⟨_, h5⟩
          obtain ⟨o', rfl⟩ := h8
          refine ⟨_, _, c', h6, HP.out.bys.keep fun k hk _ => Below.heap_setCell _ _ _ _ ?_, HP.out.set 0 _ rfl (.inr (.inl ⟨_, _, rfl, rfl⟩)) (by simp) (by simp) HP.out.lr HP.out.lw (.inr ⟨b, o', rfl, hbt, hBb, hbl⟩), (Turned.refl _ _).set (.inl rfl), fun b e => e⟩
          obtain rfl : b = k := by simpa [Value.ownBlock] using hk
          exact hbt
        rcases (show q.length < n ∨ n = q.length by omega) with hlt | rfl
        case' inl => have d4 : (q.length : Int) < (n : Int) := by omega
        case' inr => have d4 : ¬ (q.length : Int) < (q.length : Int) := by omega
        all_goals
          rcases (show c = q.length ∨ q.length < c by omega) with rfl | hc
          · go_enter Tryz.func140, Tryz.ntmps140
            go_wp2
            go_ret2
            exact HF.out _ _ _ _ (.inl rfl) rfl rfl
          · have d8 : ¬ c = q.length := by omega
            go_enter Tryz.func140, Tryz.ntmps140
            go_wp2
            go_ret2
            exact HF.out _ _ _ _ (.inr rfl) rfl rfl

set_option maxRecDepth 100000 in
set_option maxHeartbeats 1000000 in
theorem Kp_rread_any (n : Int) (B t : Nat) (a : Option Addr) (c : Nat) (q : List UInt8) (rd wr : Nat) (w : World) (h : RP w B t a c q rd wr) :
    Calls Tryz.prog 140 #[.pointer (some ⟨t, 0, none⟩), .int .i64 n] w (RRead w B t (.slice a q.length c) rd wr (Kp_rdE n q.length rd wr) (rdB n q rd wr) (rdQ n q rd wr)) := by
  have HP := hide h
  have h1 := h.c0
  have h2 := h.c1
  have h3 := h.c2
  unfold rdB rdQ
  by_cases hi : inN n = false
  · have he : Kp_rdE n q.length rd wr = 4 := by rw [Kp_rdE, if_pos hi]
    rw [he, if_neg (by decide), if_neg (by decide)]
    have hn := inN_no hi
    have HF : Hid (RRead w B t (.slice a q.length c) rd wr 4 [] q (.returned (.tuple #[.slice none 0 0, .int .i64 4])) w) := hide ⟨_, a, c, rfl, .inl ⟨rfl, rfl⟩, h, Turned.refl _ _, fun b e => e⟩
    clear h he hi
    rcases hn with hn | ⟨hn, hn2⟩
    · go_enter Tryz.func140, Tryz.ntmps140
      go_wp2
      go_ret2
      exact HF.out
    · have d1 : ¬ n < 1 := by omega
      go_enter Tryz.func140, Tryz.ntmps140
      go_wp2
      go_ret2
      exact HF.out
  · have hi' : inN n = true := by simpa using hi
    obtain ⟨m, rfl, hm1, hm2⟩ := inN_nat hi'
    simp only [Int.toNat_natCast]
    have d1 : ¬ (m : Int) < 1 := by omega
    have d2 : ¬ (1048576 : Int) < (m : Int) := by omega
    by_cases hr : rd = 0
    · subst hr
      have he : Kp_rdE m q.length 0 wr = 51 := by rw [Kp_rdE, if_neg hi, if_pos rfl]
      rw [he, if_neg (by decide), if_neg (by decide)]
      have HF : Hid (RRead w B t (.slice a q.length c) 0 wr 51 [] q (.returned (.tuple #[.slice none 0 0, .int .i64 51])) w) := hide ⟨_, a, c, rfl, .inl ⟨rfl, rfl⟩, h, Turned.refl _ _, fun b e => e⟩
      clear h he hi hi'
      go_enter Tryz.func140, Tryz.ntmps140
      go_wp2
      go_ret2
      exact HF.out
    · by_cases hb : q.length = 0 ∧ 0 < wr
      · have he : Kp_rdE m q.length rd wr = 52 := by rw [Kp_rdE, if_neg hi, if_neg hr, if_pos (decide_eq_true hb)]
        rw [he, if_neg (by decide), if_neg (by decide)]
        have HF : Hid (RRead w B t (.slice a q.length c) rd wr 52 [] q (.returned (.tuple #[.slice none 0 0, .int .i64 52])) w) := hide ⟨_, a, c, rfl, .inl ⟨rfl, rfl⟩, h, Turned.refl _ _, fun b e => e⟩
        have d3 : ((rd : Int) == 0) = false := by simp; omega
        obtain ⟨hq0, hw⟩ := hb
        have d4 : (0 : Int) < (wr : Int) := by omega
        have HQ := hide hq0
        rw [hq0] at h1
        clear h he hi hi' hq0
        go_enter Tryz.func140, Tryz.ntmps140
        go_wp2
        go_ret2
        exact HF.out
      · have he : Kp_rdE m q.length rd wr = 0 := by rw [Kp_rdE, if_neg hi, if_neg hr, if_neg (by simpa using hb)]
        rw [he, if_pos rfl, if_pos rfl]
        exact rread_ok m B t a c q rd wr w h hm1 hm2 (by omega) hb
end Go.Proofs.YtkkicbhmcjbmbaaGreat

/- The reference's pipe: Write. -/
namespace Go.Proofs.YtkkicbhmcjbmbaaGreat
open Go.RowKit

/-- What a write to the reference's pipe answers, and leaves. -/
def RWrite (w : World) (B t : Nat) (va : Value) (rd wr : Nat) (N : Nat) (E : Int) (q' : List UInt8) (e : Ending) (w' : World) : Prop :=
  ∃ a' c', e = .returned (.tuple #[.int .i64 (N : Int), .int .i64 E]) ∧ RP w' B t a' c' q' rd wr ∧ Turned (fun k => k = t) w w' ∧ ∀ b, (Value.slice a' q'.length c').ownBlock = some b → va.ownBlock = some b ∨ w.heap.size ≤ b

theorem rwrite_facts {w : World} {B t : Nat} {a : Option Addr} {c : Nat} {q : List UInt8} {rd wr : Nat} (h : RP w B t a c q rd wr) (hB : B ≤ w.heap.size) {a1 : Option Addr} {N cx : Nat} {X : List UInt8} (hx : Bys w (.slice a1 N cx) X) (hXl : X.length = N) (hN : 1 ≤ N) (hfit : q.length + N ≤ 4096) :
    ∃ s1 w2 sa sc w3, Hid ((Builtin.append_ #[40, 40] 40 #[.slice none 0 0, .slice a q.length c]).run Tryz.prog w.drew = .ok s1 w2) ∧ Hid ((Builtin.append_ #[40, 40] 40 #[s1, .slice a1 N cx]).run Tryz.prog w2 = .ok (.slice sa (q.length + N) sc) w3) ∧
      w3.cell? ⟨t, 0, none⟩ = some (.slice a q.length c) ∧ w3.frozen? ⟨t, 0, none⟩ = false ∧ Hid (∀ w' e E, w' = w3.setCell ⟨t, 0, none⟩ (.slice sa (q.length + N) sc) → e = .returned (.tuple #[.int .i64 (N : Int), .int .i64 E]) → RWrite w B t (.slice a q.length c) rd wr N E (q ++ X) e w') := by
  obtain ⟨s1, w2, hr1, HO1, hg1, hb1⟩ := run_append_bytes w.drew 40 w.heap.size (.slice none 0 0) (.slice a q.length c) [] q (World.ownsRow_nil _ _ _ _) (h.bys.below (Below.refl _ w).drew) (by have := h.lq; simp; omega) (Nat.le_refl _)
  rw [List.nil_append] at HO1
  have hB2 : Below w.heap.size w w2 := (Below.refl _ w).drew.grown hg1 (Nat.le_refl _) (fun j e => by cases e)
  have hz2 := hB2.size
  obtain ⟨s2, w3, hr2, HO2, hg2, hb2⟩ := run_append_bytes w2 40 w.heap.size s1 (.slice a1 N cx) q X HO1.out (hx.below hB2) (by have := h.lq; omega) hz2
  have hB3 : Below w.heap.size w w3 := hB2.grown hg2 hz2 (fun j e => (HO1.out.lt j e).1)
  have hql : (q ++ X).length = q.length + N := by rw [List.length_append, hXl]
  obtain ⟨sa, sc, rfl⟩ := owns_slice HO2.out
  have hcap := owns_cap HO2.out
  have hO2 := HO2.out
  have hP3 := h.below hB3
  have htl := h.lt
  refine ⟨s1, w2, sa, sc, w3, hr1, by rw [← hql]; exact hr2, hP3.c0, hP3.soft 0, fun w' e E hw he => ?_⟩
  subst hw
  have hblk : ∀ b, (Value.slice sa (q ++ X).length sc).ownBlock = some b → w.heap.size ≤ b ∧ b < w3.heap.size := fun b e => hO2.lt b e
  refine ⟨sa, sc, he, hP3.set 0 _ (by rw [hql]; rfl) (Bys.of_owns hO2) hcap (by omega) h.lr h.lw ?_, (Turned.of_below (S := fun k => k = t) hB3).set (.inl rfl), fun b e => .inr (hblk b e).1⟩
  right
  rcases hO2.2 with ⟨h0, h1⟩ | ⟨g, c, cur, h1, h2, h3, _⟩
  · omega
  · cases h1
    have := hblk g rfl
    exact ⟨g, 0, rfl, by omega, by omega, by omega⟩

set_option maxRecDepth 100000 in
set_option maxHeartbeats 4000000 in
theorem Kp_rwrite_any (most : Int) (B t : Nat) (a : Option Addr) (c : Nat) (q x : List UInt8) (a1 : Option Addr) (n cx : Nat) (rd wr : Nat) (w : World) (h : RP w B t a c q rd wr) (hB : B ≤ w.heap.size) (hx : Bys w (.slice a1 n cx) x) (hcx : x.length ≤ cx) (hxs : x.length ≤ 140737488351232) :
    Calls Tryz.prog 144 #[.pointer (some ⟨t, 0, none⟩), .slice a1 n cx, .int .i64 most] w (RWrite w B t (.slice a q.length c) rd wr (wrN x.length most q.length rd wr) (Kp_wrE x.length most q.length rd wr) (q ++ x.take (wrN x.length most q.length rd wr))) := by
  obtain ⟨a2, c2, he1, -⟩ := bys_form hx
  obtain ⟨rfl, rfl, rfl⟩ : a1 = a2 ∧ n = x.length ∧ cx = c2 := by simpa using he1
  clear he1
  have HP := hide h
  have HX := hide hx
  have h1 := h.c0
  have h2 := h.c1
  have h3 := h.c2
  have hlq := h.lq
  have HF : Hid (∀ E, RWrite w B t (.slice a q.length c) rd wr 0 E q (.returned (.tuple #[.int .i64 ((0 : Nat) : Int), .int .i64 E])) w) := hide fun E => ⟨a, c, rfl, h, Turned.refl _ _, fun b e => .inl e⟩
  clear h hx
  unfold wrN Kp_wrE
  by_cases hr : refE x.length most rd wr = 0
  · obtain ⟨hl, hi, hw0, hr0⟩ := refE_zero hr
    obtain ⟨m, rfl, hm1, hm2⟩ := inN_nat hi
    rw [if_pos hr, if_pos hr]
    simp only [Int.toNat_natCast]
    clear hr hi
    have d0 : ¬ (1048576 : Int) < (x.length : Int) := by omega
    have d1 : ¬ (m : Int) < 1 := by omega
    have d2 : ¬ (1048576 : Int) < (m : Int) := by omega
    have d3 : ((wr : Int) == 0) = false := by simp; omega
    have d4 : ((rd : Int) == 0) = false := by simp; omega
    obtain ⟨room, hroom⟩ : ∃ room, room = 4096 - q.length := ⟨_, rfl⟩
    have hrv : (4096 : Int) - (q.length : Int) = (room : Int) := by omega
    by_cases hx0 : x.length = 0
    · obtain rfl : x = [] := List.length_eq_zero_iff.1 hx0
      rw [if_pos hx0]
      have hf : fitN ([] : List UInt8).length m q.length = 0 := by simp [fitN]
      rw [hf, List.take_zero, List.append_nil]
      simp only [List.length_nil] at *
      go_enter Tryz.func144, Tryz.ntmps144
      go_wp2
      go_ret2
      exact HF.out 0
    · rw [if_neg hx0]
      have d5 : ((x.length : Int) == 0) = false := by rw [beq_eq_false_iff_ne]; omega
      rcases (show (x.length ≤ 512 ∧ room < x.length) ∨ (512 < x.length ∧ room = 0) ∨ (0 < room ∧ x.length ≤ 512 ∧ x.length ≤ room) ∨ (0 < room ∧ 512 < x.length) by omega) with ⟨hs, hb⟩ | ⟨hs, hb⟩ | ⟨hr1, hs, hb⟩ | ⟨hr1, hs⟩
      · have hf : fitN x.length m q.length = 0 := by unfold fitN; rw [if_neg (by omega), if_pos (by omega)]
        rw [if_pos hf, hf, List.take_zero, List.append_nil]
        have d6 : (x.length : Int) ≤ 512 := by omega
        have d7 : (room : Int) < (x.length : Int) := by omega
        clear hf hroom
        go_enter Tryz.func144, Tryz.ntmps144
        go_wp2
        go_ret2
        exact HF.out 52
      · have hf : fitN x.length m q.length = 0 := by unfold fitN; rw [if_pos (by omega)]; omega
        rw [if_pos hf, hf, List.take_zero, List.append_nil]
        subst hb
        have d6 : ¬ (x.length : Int) ≤ 512 := by omega
        clear hf hroom
        go_enter Tryz.func144, Tryz.ntmps144
        go_wp2
        go_ret2
        exact HF.out 52
      · have hf : fitN x.length m q.length = x.length := by unfold fitN; rw [if_neg (by omega), if_neg (by omega)]
        rw [if_neg (by omega), hf, List.take_length]
        have d6 : (x.length : Int) ≤ 512 := by omega
        have d7 : ¬ (room : Int) < (x.length : Int) := by omega
        have d8 : ((room : Int) == 0) = false := by rw [beq_eq_false_iff_ne]; omega
        obtain ⟨-, b1, off1, rfl, -, -⟩ := bys_block HX.out (by omega)
        obtain ⟨s1, w2, sa, sc, w3, HR1, HR2, c3, f3, HFin⟩ := rwrite_facts HP.out hB HX.out rfl (by omega) (by omega)
        have d9 : (x.length : Int) ≤ (cx : Int) := by omega
        clear hf hroom HF
        all_goals
          go_enter Tryz.func144, Tryz.ntmps144
          go_wp2_with fail
          go_region_law (first | (refine step_append_run _ (by rfl) _ _ _ _ (by rfl) _ _ (by rfl) (by rfl) _ _ HR1.out ?_) | (refine step_append_run _ (by rfl) _ _ _ _ (by rfl) _ _ (by rfl) (by rfl) _ _ HR2.out ?_))
          all_goals
            go_wp2
            go_ret2
            exact HFin.out _ _ 0 rfl rfl
      · have hfe : fitN x.length m q.length = min x.length (min m room) := by unfold fitN; rw [if_pos (by omega), hroom]
        rw [if_neg (by omega), hfe]
        have d6 : ¬ (x.length : Int) ≤ 512 := by omega
        have d8 : ((room : Int) == 0) = false := by rw [beq_eq_false_iff_ne]; omega
        obtain ⟨-, b1, off1, rfl, -, -⟩ := bys_block HX.out (by omega)
        obtain ⟨N, hN⟩ : ∃ N, N = min x.length (min m room) := ⟨_, rfl⟩
        rw [← hN]
        have HXc : Hid (Bys w (.slice (some ⟨b1, off1, none⟩) N cx) (x.take N)) := hide (by simpa using bys_cut HX.out 0 N cx (by omega))
        obtain ⟨s1, w2, sa, sc, w3, HR1, HR2, c3, f3, HFin⟩ := rwrite_facts HP.out hB HXc.out (by simp; omega) (by omega) (by omega)
        have d9 : (N : Int) ≤ (cx : Int) := by omega
        clear hfe hroom HF HXc
        have hcs : (N = x.length ∧ x.length ≤ room ∧ x.length ≤ m) ∨ (N = room ∧ room < x.length ∧ room ≤ m) ∨ (N = m ∧ room < x.length ∧ m < room) ∨ (N = m ∧ x.length ≤ room ∧ m < x.length) := by omega
        clear hN
        rcases hcs with ⟨hNe, e1, e2⟩ | ⟨hNe, e1, e2⟩ | ⟨hNe, e1, e2⟩ | ⟨hNe, e1, e2⟩
        all_goals
          first
            | (have g1 : ¬ (room : Int) < (x.length : Int) := by omega
               have g2 : ¬ (m : Int) < (x.length : Int) := by omega
               subst hNe)
            | (have g1 : (room : Int) < (x.length : Int) := by omega
               have g2 : ¬ (m : Int) < (room : Int) := by omega
               subst hNe)
            | (have g1 : (room : Int) < (x.length : Int) := by omega
               have g2 : (m : Int) < (room : Int) := by omega
               subst hNe)
            | (have g1 : ¬ (room : Int) < (x.length : Int) := by omega
               have g2 : (m : Int) < (x.length : Int) := by omega
               subst hNe)
          go_enter Tryz.func144, Tryz.ntmps144
          go_wp2_with fail
          go_region_law (first | (refine step_append_run _ (by rfl) _ _ _ _ (by rfl) _ _ (by rfl) (by rfl) _ _ HR1.out ?_) | (refine step_append_run _ (by rfl) _ _ _ _ (by rfl) _ _ (by rfl) (by rfl) _ _ HR2.out ?_))
          all_goals
            go_wp2
            go_ret2
            exact HFin.out _ _ 0 rfl rfl
  · rw [if_neg hr, if_neg hr, List.take_zero, List.append_nil]
    unfold refE
    by_cases hl : 1048576 < x.length
    · rw [if_pos hl]
      have d0 : (1048576 : Int) < (x.length : Int) := by omega
      clear hr
      go_enter Tryz.func144, Tryz.ntmps144
      go_wp2
      go_ret2
      exact HF.out 5
    · rw [if_neg hl]
      have d0 : ¬ (1048576 : Int) < (x.length : Int) := by omega
      by_cases hi : inN most = false
      · rw [if_pos hi]
        have hn := inN_no hi
        clear hr hi
        rcases hn with hn | ⟨hn, hn2⟩
        · go_enter Tryz.func144, Tryz.ntmps144
          go_wp2
          go_ret2
          exact HF.out 4
        · have d1 : ¬ most < 1 := by omega
          go_enter Tryz.func144, Tryz.ntmps144
          go_wp2
          go_ret2
          exact HF.out 4
      · rw [if_neg hi]
        have hi' := inN_true (by simpa using hi : inN most = true)
        have d1 : ¬ most < 1 := by omega
        have d2 : ¬ 1048576 < most := by omega
        by_cases hw : wr = 0
        · subst hw
          rw [if_pos rfl]
          clear hr hi
          go_enter Tryz.func144, Tryz.ntmps144
          go_wp2
          go_ret2
          exact HF.out 51
        · rw [if_neg hw]
          have d3 : ((wr : Int) == 0) = false := by simp; omega
          by_cases hr0 : rd = 0
          · subst hr0
            rw [if_pos rfl]
            clear hr hi
            go_enter Tryz.func144, Tryz.ntmps144
            go_wp2
            go_ret2
            exact HF.out 53
          · exfalso
            apply hr
            unfold refE
            rw [if_neg hl, if_neg hi, if_neg hw, if_neg hr0]
end Go.Proofs.YtkkicbhmcjbmbaaGreat

/- The reference's things: files, terminals and pipes in one notion, each within a set of blocks of its own. -/
namespace Go.Proofs.YtkkicbhmcjbmbaaGreat
open Go.RowKit

/-- The reference's object at block p, all of whose blocks are O's. -/
def RObj (W : World) (O : Nat → Prop) (p : Nat) : Ob → Prop
  | .file b => ∃ u B, RFileAt W B p u b ∧ B ≤ W.heap.size ∧ O p ∧ ∀ k, u.ownBlock = some k → O k
  | .term ls scr => ∃ la lc s B O1, Term W B p 0 O1 la lc s ls scr ∧ ∀ k, O1 k → O k
  | .pipe q rd wt => ∃ a c B, RP W B p a c q rd wt ∧ B ≤ W.heap.size ∧ O p ∧ ∀ k, (Value.slice a q.length c).ownBlock = some k → O k
theorem RObj.at {W : World} {O : Nat → Prop} {p : Nat} {ob : Ob} (h : RObj W O p ob) : O p ∧ p < W.heap.size := by
  cases ob with
  | file b => obtain ⟨u, B, h1, _, h2, _⟩ := h; exact ⟨h2, h1.lt⟩
  | term ls scr => obtain ⟨la, lc, s, B, O1, h1, h2⟩ := h; exact ⟨h2 _ h1.ot, (h1.lt _ h1.ot).2⟩
  | pipe q rd wt => obtain ⟨a, c, B, h1, _, h2, _⟩ := h; exact ⟨h2, h1.lt⟩
theorem RObj.mono {W : World} {O O' : Nat → Prop} {p : Nat} {ob : Ob} (h : RObj W O p ob) (hO : ∀ k, O k → O' k) : RObj W O' p ob := by
  cases ob with
  | file b => obtain ⟨u, B, h1, h2, h3, h4⟩ := h; exact ⟨u, B, h1, h2, hO _ h3, fun k e => hO _ (h4 k e)⟩
  | term ls scr => obtain ⟨la, lc, s, B, O1, h1, h2⟩ := h; exact ⟨la, lc, s, B, O1, h1, fun k e => hO _ (h2 k e)⟩
  | pipe q rd wt => obtain ⟨a, c, B, h1, h2, h3, h4⟩ := h; exact ⟨a, c, B, h1, h2, hO _ h3, fun k e => hO _ (h4 k e)⟩
theorem RObj.keep {W W' : World} {O : Nat → Prop} {p : Nat} {ob : Ob} (h : RObj W O p ob) (hk : ∀ k, O k → k < W.heap.size → W'.heap[k]? = W.heap[k]?) (hs : W.heap.size ≤ W'.heap.size) : RObj W' O p ob := by
  cases ob with
  | file b =>
    obtain ⟨u, B, h1, h2, h3, h4⟩ := h
    have hp := hk p h3 h1.lt
    exact ⟨u, B, ⟨(World.cell?_of_block (w := W) hp).trans h1.data, (World.frozen?_of_block (w := W) hp).trans h1.soft, owns_keep h1.row fun k e => hk k (h4 k e) (h1.row.lt k e).2, h1.apart⟩, Nat.le_trans h2 hs, h3, h4⟩
  | term ls scr =>
    obtain ⟨la, lc, s, B, O1, h1, h2⟩ := h
    exact ⟨la, lc, s, B, O1, h1.keep (fun k e => hk k (h2 k e) (h1.lt k e).2) hs, h2⟩
  | pipe q rd wt =>
    obtain ⟨a, c, B, h1, h2, h3, h4⟩ := h
    refine ⟨a, c, B, ⟨(hk p h3 h1.lt).trans h1.blk, h1.bys.keep fun k e hlt => hk k (h4 k e) hlt, h1.cap, h1.lq, h1.lr, h1.lw, ?_⟩, Nat.le_trans h2 hs, h3, h4⟩
    rcases h1.ad with h5 | ⟨b, off, h5, h6, h7, h8⟩
    · exact .inl h5
    · exact .inr ⟨b, off, h5, h6, h7, Nat.lt_of_lt_of_le h8 hs⟩
/-- What a call leaves of an object: new bytes, within its blocks and new ones; nothing else turns. -/
def ObjStep (w : World) (O : Nat → Prop) (p : Nat) (ob' : Ob) (w' : World) : Prop := ∃ O', RObj w' O' p ob' ∧ (∀ k, O' k → O k ∨ w.heap.size ≤ k) ∧ Turned O w w'
theorem ObjStep.same {w : World} {O : Nat → Prop} {p : Nat} {ob : Ob} (h : RObj w O p ob) : ObjStep w O p ob w := ⟨O, h, fun _ e => .inl e, Turned.refl _ _⟩

theorem ob_fwrite (O : Nat → Prop) (p : Nat) (b x : List UInt8) (off : Int) (vx : Value) (w : World) (h : RObj w O p (.file b)) (hl : b.length ≤ 1048576) (hx : Bys w vx x) (hd : 0 < x.length → ∀ k, vx.ownBlock = some k → ¬ O k) :
    Calls Tryz.prog 146 #[.pointer (some ⟨p, 0, none⟩), .int .i64 off, vx] w fun e w' => e = .returned (.int .i64 (Fi_wrE off x.length)) ∧ ObjStep w O p (.file (wrL b off x)) w' := by
  obtain ⟨u, B, h1, h2, h3, h4⟩ := h
  refine (rwriteAt_any B p u b off vx x w h1 hx (fun h0 k e e' => hd h0 k e (h4 k e')) hl h2).mono ?_
  rintro e w' ⟨rfl, u', h5, h6, h7⟩
  refine ⟨rfl, fun k => O k ∨ u'.ownBlock = some k, ⟨u', B, h5, Nat.le_trans h2 h7.size, .inl h3, fun k e => .inr e⟩, fun k e => ?_, h7.mono fun k e => ?_⟩
  · rcases e with e | e
    · exact .inl e
    · exact (h6 k e).imp (h4 k) id
  · rcases e with rfl | e
    · exact h3
    · exact h4 k e
theorem ob_tread (O : Nat → Prop) (p : Nat) (ls : List (List UInt8)) (scr : List UInt8) (n : Int) (w : World) (h : RObj w O p (.term ls scr)) (hok : (Ob.term ls scr).ok) :
    Calls Tryz.prog 139 #[.pointer (some ⟨p, 0, none⟩), .int .i64 n] w fun e w' => ∃ v, e = .returned (.tuple #[v, .int .i64 (Te_rdE n)]) ∧ Bys w' v (rdH ls n) ∧ ObjStep w O p (.term (rdR ls n) scr) w' := by
  obtain ⟨la, lc, s, B, O1, h1, h2⟩ := h
  refine (Te_rread_any B p O1 la lc s ls scr n w h1 hok.1 hok.2.1).mono ?_
  rintro e w' ⟨v, rfl, h3, ⟨la', lc', h4⟩, h5⟩
  exact ⟨v, rfl, h3, O, ⟨la', lc', s, B, O1, h4, h2⟩, fun _ e => .inl e, h5.mono h2⟩
theorem ob_twrite (O : Nat → Prop) (p : Nat) (ls : List (List UInt8)) (scr x : List UInt8) (vx : Value) (w : World) (h : RObj w O p (.term ls scr)) (hok : (Ob.term ls scr).ok) (hx : Bys w vx x) (hxs : x.length ≤ 140737488351232) :
    Calls Tryz.prog 145 #[.pointer (some ⟨p, 0, none⟩), vx] w fun e w' => e = .returned (.int .i64 (Te_wrE scr.length x.length)) ∧ ObjStep w O p (.term ls (wrS scr x)) w' := by
  obtain ⟨la, lc, s, B, O1, h1, h2⟩ := h
  refine (Te_rwrite_any B p O1 la lc s ls scr vx x w h1 hx hok.2.2 hxs).mono ?_
  rintro e w' ⟨rfl, O2, s', h3, h4, h5⟩
  refine ⟨rfl, fun k => O k ∨ O2 k, ⟨la, lc, s', B, O2, h3, fun k e => .inr e⟩, fun k e => ?_, h5.mono h2⟩
  rcases e with e | e
  · exact .inl e
  · exact (h4 k e).imp (h2 k) id
theorem ob_pread (O : Nat → Prop) (p : Nat) (q : List UInt8) (rd wt : Nat) (n : Int) (w : World) (h : RObj w O p (.pipe q rd wt)) :
    Calls Tryz.prog 140 #[.pointer (some ⟨p, 0, none⟩), .int .i64 n] w fun e w' => ∃ v, e = .returned (.tuple #[v, .int .i64 (Kp_rdE n q.length rd wt)]) ∧ Bys w' v (rdB n q rd wt) ∧ ObjStep w O p (.pipe (rdQ n q rd wt) rd wt) w' := by
  obtain ⟨a, c, B, h1, h2, h3, h4⟩ := h
  refine (Kp_rread_any n B p a c q rd wt w h1).mono ?_
  rintro e w' ⟨v, a', c', rfl, h5, h6, h7, h8⟩
  exact ⟨v, rfl, h5, O, ⟨a', c', B, h6, Nat.le_trans h2 h7.size, h3, fun k e => h4 k (h8 k e)⟩, fun _ e => .inl e, h7.mono fun k e => by rw [e]; exact h3⟩
theorem ob_pwrite (O : Nat → Prop) (p : Nat) (q x : List UInt8) (rd wt : Nat) (most : Int) (a1 : Option Addr) (n cx : Nat) (w : World) (h : RObj w O p (.pipe q rd wt)) (hx : Bys w (.slice a1 n cx) x) (hcx : x.length ≤ cx) (hxs : x.length ≤ 140737488351232) :
    Calls Tryz.prog 144 #[.pointer (some ⟨p, 0, none⟩), .slice a1 n cx, .int .i64 most] w fun e w' => e = .returned (.tuple #[.int .i64 (wrN x.length most q.length rd wt : Nat), .int .i64 (Kp_wrE x.length most q.length rd wt)]) ∧ ObjStep w O p (.pipe (q ++ x.take (wrN x.length most q.length rd wt)) rd wt) w' := by
  obtain ⟨a, c, B, h1, h2, h3, h4⟩ := h
  refine (Kp_rwrite_any most B p a c q x a1 n cx rd wt w h1 h2 hx hcx hxs).mono ?_
  rintro e w' ⟨a', c', rfl, h6, h7, h8⟩
  refine ⟨rfl, fun k => O k ∨ (Value.slice a' (q ++ x.take (wrN x.length most q.length rd wt)).length c').ownBlock = some k, ⟨a', c', B, h6, Nat.le_trans h2 h7.size, .inl h3, fun k e => .inr e⟩, fun k e => ?_, h7.mono fun k e => by rw [e]; exact h3⟩
  rcases e with e | e
  · exact .inl e
  · exact (h8 k e).imp (h4 k) id
theorem ob_pleave (O : Nat → Prop) (p : Nat) (q : List UInt8) (rd wt : Nat) (x : Bool) (w : World) (h : RObj w O p (.pipe q rd wt)) :
    Calls Tryz.prog 152 #[.pointer (some ⟨p, 0, none⟩), .bool x] w fun e w' => e = .returned (.int .i64 (leaveE x rd wt)) ∧ ObjStep w O p (.pipe q (leaveR x rd wt) (leaveW x rd wt)) w' := by
  obtain ⟨a, c, B, h1, h2, h3, h4⟩ := h
  refine (rleave_any x B p a c q rd wt w h1).mono ?_
  rintro e w' ⟨rfl, h6, h7⟩
  exact ⟨rfl, O, ⟨a, c, B, h6, Nat.le_trans h2 h7.size, h3, h4⟩, fun _ e => .inl e, h7.mono fun k e => by rw [e]; exact h3⟩
theorem ob_pcanRead (O : Nat → Prop) (p : Nat) (q : List UInt8) (rd wt : Nat) (w : World) (h : RObj w O p (.pipe q rd wt)) :
    Calls Tryz.prog 137 #[.pointer (some ⟨p, 0, none⟩)] w fun e w' => e = .returned (.bool (canR q.length rd wt)) ∧ w' = w := by
  obtain ⟨a, c, B, h1, h2, h3, h4⟩ := h
  exact rcanRead_any B p a c q rd wt w h1
theorem ob_pcanWrite (O : Nat → Prop) (p : Nat) (q : List UInt8) (rd wt : Nat) (n : Int) (w : World) (h : RObj w O p (.pipe q rd wt)) :
    Calls Tryz.prog 142 #[.pointer (some ⟨p, 0, none⟩), .int .i64 n] w fun e w' => e = .returned (.bool (canW n q.length rd wt)) ∧ w' = w := by
  obtain ⟨a, c, B, h1, h2, h3, h4⟩ := h
  exact rcanWrite_any n B p a c q rd wt w h1
end Go.Proofs.YtkkicbhmcjbmbaaGreat

/- CopyNamed, SameNamed. -/
namespace Go.Proofs.YtkkicbhmcjbmbaaGreat
open Go.RowKit

set_option maxRecDepth 100000 in
set_option maxHeartbeats 2000000 in
theorem copyNamed_any (v : Value) (l : List Nm) (w : World) (h : Nms w v l) (hs : l.length * 40 ≤ 140737488351232) (hs2 : ∀ j (hj : j < l.length), l[j].2.length ≤ 140737488351232) :
    Calls Tryz.prog 39 #[v] w fun e w' => ∃ v' us, e = .returned v' ∧ w'.ownsRow w.heap.size 93 2 v' l.length (ncs l us) ∧ LCells w' w.heap.size (l.map Prod.snd) us ∧ Below w.heap.size w w' := by
  have H0 := hide h
  obtain ⟨a1, c1, rfl⟩ := h.form
  have HS := hide hs2
  clear h hs2
  go_enter Tryz.func39, Tryz.ntmps39
  go_wp2
  go_loopw [3, 4] (fun ov i wr => ∃ (k : Nat) (us : List Value), k ≤ l.length ∧ i = .int .i64 k ∧ Hid (wr.ownsRow w.heap.size 93 2 ov k (ncs (l.take k) us)) ∧ Hid (LCells wr w.heap.size ((l.take k).map Prod.snd) us) ∧ Below w.heap.size w wr) (fun _ i _ => l.length - (intOf i).toNat)
  case atStart => exact ⟨0, [], Nat.zero_le _, rfl, World.ownsRow_nil _ _ _ _, ⟨rfl, (fun j hj => by simp at hj), (fun i j vi vj m _ h1 => by simp at h1)⟩, Below.refl _ _⟩
  case round =>
    obtain ⟨k, us, hk, rfl, HO, HL, hB⟩ := hrel
    obtain ⟨oa, oc, rfl⟩ := owns_slice HO.out
    by_cases hlt : k < l.length
    · obtain ⟨b, off, va, vc, rfl, hbl, q0, q1, hby, -⟩ := H0.out.at k hlt
      have hc0 := (hB.cell (p := ⟨b, off + k * 2, none⟩) hbl).trans q0
      have hc1 := (hB.cell (p := ⟨b, off + k * 2 + 1, none⟩) hbl).trans q1
      have hk1 : (0 : Int) ≤ (k : Int) := by omega
      have hk2 : (k : Int) < (l.length : Int) := by omega
      have HBy := hide hby
      have hl4 := HS.out k hlt
      have hsz := hB.size
      clear q0 q1 hby
      obtain ⟨p, hp⟩ : ∃ p, p = l[k] := ⟨_, rfl⟩
      rw [← hp] at hc0 hc1 HBy hl4
      have HPk := hide hp
      clear hp
      obtain ⟨nm, L⟩ := p
      simp only at hc0 hc1 HBy hl4
      have hul := HL.out.1
      simp only [List.length_map, List.length_take, Nat.min_eq_left hk] at hul
      go_wp2_with fail
      go_region_held3 (fun w' => w'.cell? ⟨b, off + k * 2, none⟩ = some (.string nm) ∧ w'.cell? ⟨b, off + k * 2 + 1, none⟩ = some (.slice va L.length vc))
        (first | exact K7 | exact Ka | exact K2 | go_keep)
        (first
          | (go_at_call 54; refine (copy_any _ L _ (HBy.out.below hB.drew) hl4).mono ?_; rintro e w2 ⟨u, rfl, hownu, hB2⟩; obtain ⟨ua, uc, rfl⟩ := owns_slice hownu; have hsd : wr.drew.heap.size = wr.heap.size := rfl; have hz2 : wr.heap.size ≤ w2.heap.size := hB2.size; have hB02 : Below w.heap.size w w2 := hB.drew.trans (hB2.mono (by omega)); have K2 : w2.cell? ⟨b, off + k * 2, none⟩ = some (.string nm) ∧ w2.cell? ⟨b, off + k * 2 + 1, none⟩ = some (.slice va L.length vc) := ⟨(hB2.cell (p := ⟨b, off + k * 2, none⟩) (by show b < wr.heap.size; omega)).trans hc0, (hB2.cell (p := ⟨b, off + k * 2 + 1, none⟩) (by show b < wr.heap.size; omega)).trans hc1⟩; have hBa : Below w2.heap.size w2 (w2.alloc (Obj.cells #[.string nm, .slice ua L.length uc] 93)) := (Below.refl _ _).alloc (Nat.le_refl _) _; have Ka : (w2.alloc (Obj.cells #[.string nm, .slice ua L.length uc] 93)).cell? ⟨b, off + k * 2, none⟩ = some (.string nm) ∧ (w2.alloc (Obj.cells #[.string nm, .slice ua L.length uc] 93)).cell? ⟨b, off + k * 2 + 1, none⟩ = some (.slice va L.length vc) := ⟨(hBa.cell (p := ⟨b, off + k * 2, none⟩) (by show b < _; omega)).trans K2.1, (hBa.cell (p := ⟨b, off + k * 2 + 1, none⟩) (by show b < _; omega)).trans K2.2⟩; have hB0a := hB02.trans (hBa.mono hB02.size); have hB2a := hB2.trans (hBa.mono hB2.size); have HOa := hide (owns_below (W := wr.drew) HO.out hB2a); have HLa := hide (LCells.below (W := wr.drew) HL.out hB2a); have HUa := hide (owns_below hownu hBa); have hcu0 : (w2.alloc (Obj.cells #[.string nm, .slice ua L.length uc] 93)).cell? ⟨w2.heap.size, 0, none⟩ = some (.string nm) := (by simp only [World.cell?, heap_alloc_new]; rfl); have hcu1 : (w2.alloc (Obj.cells #[.string nm, .slice ua L.length uc] 93)).cell? ⟨w2.heap.size, 1, none⟩ = some (.slice ua L.length uc) := (by simp only [World.cell?, heap_alloc_new]; rfl); have hza := size_new w2 (Obj.cells #[.string nm, .slice ua L.length uc] 93); obtain ⟨s', w7, hrun, HO7, hg7, hb7⟩ := run_append_named (w2.alloc (Obj.cells #[.string nm, .slice ua L.length uc] 93)) 22 w.heap.size _ k _ w2.heap.size 1 nm _ HOa.out hcu0 hcu1 rfl (by omega) (by omega); have HR := hide hrun; have HX := hide hownu; have K7 : w7.cell? ⟨b, off + k * 2, none⟩ = some (.string nm) ∧ w7.cell? ⟨b, off + k * 2 + 1, none⟩ = some (.slice va L.length vc) := ⟨(World.cell?_of_block (w := w2.alloc (Obj.cells #[.string nm, .slice ua L.length uc] 93)) (a := ⟨b, off + k * 2, none⟩) (hg7.block b (by omega) (fun e => by have := (HOa.out.lt b e.symm).1; omega))).trans Ka.1, (World.cell?_of_block (w := w2.alloc (Obj.cells #[.string nm, .slice ua L.length uc] 93)) (a := ⟨b, off + k * 2 + 1, none⟩) (hg7.block b (by omega) (fun e => by have := (HOa.out.lt b e.symm).1; omega))).trans Ka.2⟩; clear hrun hownu hcu0 hcu1)
          | (refine step_append_run _ (by rfl) _ _ _ _ (by rfl) _ _ (by rfl) (by rfl) _ _ HR.out ?_)
          | fail)
      all_goals
        go_wp2
        go_roundw
        case rel =>
          have hLa : LCells w7 w.heap.size ((l.take k).map Prod.snd) us := HLa.out.keep fun j hj v i h1 e => by
            obtain ⟨v', h2, h3⟩ := HLa.out.2.1 j hj
            rw [h1] at h2
            cases h2
            exact hg7.block i (h3.lt i e).2 (fun e' => Te_owns_apart h3 HOa.out (by decide) i e e'.symm)
          have hU7 := owns_keep (W' := w7) HUa.out fun i e => hg7.block i (HUa.out.lt i e).2 (fun e' => Te_owns_apart HUa.out HOa.out (by decide) i e e'.symm)
          refine ⟨k + 1, us ++ [.slice ua L.length uc], by omega, by go_num, ?_, ?_, hB0a.grown hg7 hB0a.size (fun j e => (HOa.out.lt j e).1)⟩
          · have h8 := HO7.out
            rw [← ncs_snoc (l.take k) us (nm, L) _ (by simp; omega)] at h8
            rw [show l.take (k + 1) = l.take k ++ [(nm, L)] by rw [List.take_add_one, List.getElem?_eq_getElem hlt, ← HPk.out]; rfl]
            exact h8
          · have h9 : k < (l.map Prod.snd).length := by simpa using hlt
            rw [List.map_take] at hLa ⊢
            refine LCells.snoc h9 hLa _ ?_ (fun j v i h1 e e' => ?_)
            · rw [List.getElem_map, ← HPk.out]
              exact owns_mono hU7 (by omega)
            · obtain ⟨v', h2, h3⟩ := HL.out.2.1 j (by have := (List.getElem?_eq_some_iff.1 h1).1; have := HL.out.1; omega)
              rw [h1] at h2
              cases h2
              have := (h3.lt i e).2
              have : wr.heap.size ≤ i := (HX.out.lt i e').1
              omega
        case measure => simp [intOf]; omega
    · have hke : k = l.length := by omega
      go_wp2
      go_ret
      have h1 := HL.out
      have h2 := HO.out
      subst hke
      rw [List.take_length] at h1 h2
      exact ⟨_, us, rfl, h2, h1, hB⟩

set_option maxRecDepth 100000 in
set_option maxHeartbeats 2000000 in
theorem sameNamed_any (v1 v2 : Value) (l : List Nm) (w : World) (h1 : Nms w v1 l) (h2 : Nms w v2 l) (hs : l.length ≤ maxLen) (hs2 : ∀ j (hj : j < l.length), l[j].2.length ≤ maxLen) :
    Calls Tryz.prog 65 #[v1, v2] w fun e w' => e = .returned (.bool true) ∧ Below w.heap.size w w' := by
  unfold maxLen at hs
  have H1 := hide h1
  have H2 := hide h2
  have HS := hide hs2
  obtain ⟨a1, c1, rfl⟩ := h1.form
  obtain ⟨a2, c2, rfl⟩ := h2.form
  clear h1 h2 hs2
  go_enter Tryz.func65, Tryz.ntmps65
  go_wp2
  go_loopw [5] (fun i wr => ∃ k : Nat, k ≤ l.length ∧ i = .int .i64 k ∧ Below w.heap.size w wr) (fun i _ => l.length - (intOf i).toNat)
  case atStart => exact ⟨0, Nat.zero_le _, rfl, Below.refl _ _⟩
  case round =>
    obtain ⟨k, hk, rfl, hB⟩ := hrel
    have hsz := hB.size
    by_cases hlt : k < l.length
    · obtain ⟨b1, o1, va1, vc1, rfl, hb1, p0, p1, hy1, -⟩ := (H1.out.below hB).at k hlt
      obtain ⟨b2, o2, va2, vc2, rfl, hb2, q0, q1, hy2, -⟩ := (H2.out.below hB).at k hlt
      have hl4 := HS.out k hlt
      generalize l[k] = p at p0 p1 q0 q1 hy1 hy2 hl4
      obtain ⟨nm, L⟩ := p
      simp only at p0 p1 q0 q1 hy1 hy2 hl4
      have hk1 : (0 : Int) ≤ (k : Int) := by omega
      have hk2 : (k : Int) < (l.length : Int) := by omega
      have HY1 := hide hy1
      have HY2 := hide hy2
      clear hy1 hy2
      go_wp2_with fail
      go_region_held3 (fun w' => w'.cell? ⟨b1, o1 + k * 2, none⟩ = some (.string nm) ∧ w'.cell? ⟨b1, o1 + k * 2 + 1, none⟩ = some (.slice va1 L.length vc1) ∧ w'.cell? ⟨b2, o2 + k * 2, none⟩ = some (.string nm) ∧ w'.cell? ⟨b2, o2 + k * 2 + 1, none⟩ = some (.slice va2 L.length vc2))
        (first | exact K5 | go_keep)
        (first
          | (go_at_call 38; refine (same_any _ _ L _ (HY1.out.below (Below.refl _ wr).drew) (HY2.out.below (Below.refl _ wr).drew) hl4).mono ?_; rintro e w5 ⟨rfl, hB5⟩; have hB05 : Below w.heap.size w w5 := hB.drew.trans (hB5.mono (by show w.heap.size ≤ wr.heap.size; omega)); have K5 : w5.cell? ⟨b1, o1 + k * 2, none⟩ = some (.string nm) ∧ w5.cell? ⟨b1, o1 + k * 2 + 1, none⟩ = some (.slice va1 L.length vc1) ∧ w5.cell? ⟨b2, o2 + k * 2, none⟩ = some (.string nm) ∧ w5.cell? ⟨b2, o2 + k * 2 + 1, none⟩ = some (.slice va2 L.length vc2) := ⟨(hB5.cell (p := ⟨b1, o1 + k * 2, none⟩) hb1).trans p0, (hB5.cell (p := ⟨b1, o1 + k * 2 + 1, none⟩) hb1).trans p1, (hB5.cell (p := ⟨b2, o2 + k * 2, none⟩) hb2).trans q0, (hB5.cell (p := ⟨b2, o2 + k * 2 + 1, none⟩) hb2).trans q1⟩)
          | fail)
      all_goals
        go_wp2
        go_roundw
        case rel => exact ⟨k + 1, by omega, by go_num, hB05⟩
        case measure => simp [intOf]; omega
    · go_wp2
      go_ret
      exact ⟨rfl, hB⟩
end Go.Proofs.YtkkicbhmcjbmbaaGreat

/- CopyTyped. -/
namespace Go.Proofs.YtkkicbhmcjbmbaaGreat
open Go.RowKit

set_option maxRecDepth 100000 in
set_option maxHeartbeats 2000000 in
theorem copyTyped_any (v : Value) (l : List Tp) (w : World) (h : Tps w v l) (hs : l.length * 40 ≤ 140737488351232) (hs2 : ∀ j (hj : j < l.length), l[j].2.length * 24 ≤ 140737488351232 ∧ ∀ i (hi : i < l[j].2.length), l[j].2[i].length ≤ 140737488351232) :
    Calls Tryz.prog 40 #[v] w fun e w' => ∃ v' us, e = .returned v' ∧ w'.ownsRow w.heap.size 98 2 v' l.length (ncs l us) ∧ us.length = l.length ∧ (∀ j (hj : j < l.length), ∃ u, us[j]? = some u ∧ TC w' w.heap.size l[j].2 u) ∧ Below w.heap.size w w' := by
  have H0 := hide h
  obtain ⟨a1, c1, rfl⟩ := h.form
  have HS := hide hs2
  clear h hs2
  go_enter Tryz.func40, Tryz.ntmps40
  go_wp2
  go_loopw [3, 4] (fun ov i wr => ∃ (k : Nat) (us : List Value), k ≤ l.length ∧ i = .int .i64 k ∧ Hid (wr.ownsRow w.heap.size 98 2 ov k (ncs (l.take k) us)) ∧ us.length = k ∧ Hid (∀ j (hj : j < l.length), j < k → ∃ u, us[j]? = some u ∧ TC wr w.heap.size l[j].2 u) ∧ Below w.heap.size w wr) (fun _ i _ => l.length - (intOf i).toNat)
  case atStart => exact ⟨0, [], Nat.zero_le _, rfl, World.ownsRow_nil _ _ _ _, rfl, (fun j _ hj => by omega), Below.refl _ _⟩
  case round =>
    obtain ⟨k, us, hk, rfl, HO, hul, HL, hB⟩ := hrel
    obtain ⟨oa, oc, rfl⟩ := owns_slice HO.out
    by_cases hlt : k < l.length
    · obtain ⟨b, off, va, vc, rfl, hbl, q0, q1, hby, -⟩ := H0.out.at k hlt
      have hc0 := (hB.cell (p := ⟨b, off + k * 2, none⟩) hbl).trans q0
      have hc1 := (hB.cell (p := ⟨b, off + k * 2 + 1, none⟩) hbl).trans q1
      have hk1 : (0 : Int) ≤ (k : Int) := by omega
      have hk2 : (k : Int) < (l.length : Int) := by omega
      have HBy := hide hby
      have hl4 := HS.out k hlt
      have hsz := hB.size
      clear q0 q1 hby
      obtain ⟨p, hp⟩ : ∃ p, p = l[k] := ⟨_, rfl⟩
      rw [← hp] at hc0 hc1 HBy hl4
      have HPk := hide hp
      clear hp
      obtain ⟨nm, L⟩ := p
      simp only at hc0 hc1 HBy hl4
      go_wp2_with fail
      go_region_held3 (fun w' => w'.cell? ⟨b, off + k * 2, none⟩ = some (.string nm) ∧ w'.cell? ⟨b, off + k * 2 + 1, none⟩ = some (.slice va L.length vc))
        (first | exact K7 | exact Ka | exact K2 | go_keep)
        (first
          | (go_at_call 125; refine (copyLists_any _ L _ (HBy.out.below hB.drew) hl4.1 hl4.2).mono ?_; rintro e w2 ⟨u, ys, rfl, hownu, hly, hB2⟩; obtain ⟨ua, uc, rfl⟩ := owns_slice hownu; have hsd : wr.drew.heap.size = wr.heap.size := rfl; have hz2 : wr.heap.size ≤ w2.heap.size := hB2.size; have hB02 : Below w.heap.size w w2 := hB.drew.trans (hB2.mono (by omega)); have K2 : w2.cell? ⟨b, off + k * 2, none⟩ = some (.string nm) ∧ w2.cell? ⟨b, off + k * 2 + 1, none⟩ = some (.slice va L.length vc) := ⟨(hB2.cell (p := ⟨b, off + k * 2, none⟩) (by show b < wr.heap.size; omega)).trans hc0, (hB2.cell (p := ⟨b, off + k * 2 + 1, none⟩) (by show b < wr.heap.size; omega)).trans hc1⟩; have hBa : Below w2.heap.size w2 (w2.alloc (Obj.cells #[.string nm, .slice ua L.length uc] 98)) := (Below.refl _ _).alloc (Nat.le_refl _) _; have Ka : (w2.alloc (Obj.cells #[.string nm, .slice ua L.length uc] 98)).cell? ⟨b, off + k * 2, none⟩ = some (.string nm) ∧ (w2.alloc (Obj.cells #[.string nm, .slice ua L.length uc] 98)).cell? ⟨b, off + k * 2 + 1, none⟩ = some (.slice va L.length vc) := ⟨(hBa.cell (p := ⟨b, off + k * 2, none⟩) (by show b < _; omega)).trans K2.1, (hBa.cell (p := ⟨b, off + k * 2 + 1, none⟩) (by show b < _; omega)).trans K2.2⟩; have hB0a := hB02.trans (hBa.mono hB02.size); have hB2a := hB2.trans (hBa.mono hB2.size); have HOa := hide (owns_below (W := wr.drew) HO.out hB2a); have HUa : Hid (TC (w2.alloc (Obj.cells #[.string nm, .slice ua L.length uc] 98)) wr.heap.size L (.slice ua L.length uc)) := hide (TC.below ⟨ys, hownu, hly⟩ hBa); have HLa : Hid (∀ j (hj : j < l.length), j < k → ∃ u, us[j]? = some u ∧ TC (w2.alloc (Obj.cells #[.string nm, .slice ua L.length uc] 98)) w.heap.size l[j].2 u) := hide (fun j hj hjk => by obtain ⟨u, h5, h6⟩ := HL.out j hj hjk; exact ⟨u, h5, TC.below (W := wr.drew) h6 hB2a⟩); have hcu0 : (w2.alloc (Obj.cells #[.string nm, .slice ua L.length uc] 98)).cell? ⟨w2.heap.size, 0, none⟩ = some (.string nm) := (by simp only [World.cell?, heap_alloc_new]; rfl); have hcu1 : (w2.alloc (Obj.cells #[.string nm, .slice ua L.length uc] 98)).cell? ⟨w2.heap.size, 1, none⟩ = some (.slice ua L.length uc) := (by simp only [World.cell?, heap_alloc_new]; rfl); have hza := size_new w2 (Obj.cells #[.string nm, .slice ua L.length uc] 98); obtain ⟨s', w7, hrun, HO7, hg7, hb7⟩ := run_append_typed (w2.alloc (Obj.cells #[.string nm, .slice ua L.length uc] 98)) 23 w.heap.size _ k _ w2.heap.size 1 nm _ HOa.out hcu0 hcu1 rfl (by omega) (by omega); have HR := hide hrun; have K7 : w7.cell? ⟨b, off + k * 2, none⟩ = some (.string nm) ∧ w7.cell? ⟨b, off + k * 2 + 1, none⟩ = some (.slice va L.length vc) := ⟨(World.cell?_of_block (w := w2.alloc (Obj.cells #[.string nm, .slice ua L.length uc] 98)) (a := ⟨b, off + k * 2, none⟩) (hg7.block b (by omega) (fun e => by have := (HOa.out.lt b e.symm).1; omega))).trans Ka.1, (World.cell?_of_block (w := w2.alloc (Obj.cells #[.string nm, .slice ua L.length uc] 98)) (a := ⟨b, off + k * 2 + 1, none⟩) (hg7.block b (by omega) (fun e => by have := (HOa.out.lt b e.symm).1; omega))).trans Ka.2⟩; clear hrun hownu hly hcu0 hcu1)
          | (refine step_append_run _ (by rfl) _ _ _ _ (by rfl) _ _ (by rfl) (by rfl) _ _ HR.out ?_)
          | fail)
      all_goals
        go_wp2
        go_roundw
        case rel =>
          refine ⟨k + 1, us ++ [.slice ua L.length uc], by omega, by go_num, ?_, by simp [hul], fun j hj hjk => ?_, hB0a.grown hg7 hB0a.size (fun j e => (HOa.out.lt j e).1)⟩
          · have h8 := HO7.out
            rw [← ncs_snoc (l.take k) us (nm, L) _ (by simp; omega)] at h8
            rw [show l.take (k + 1) = l.take k ++ [(nm, L)] by rw [List.take_add_one, List.getElem?_eq_getElem hlt, ← HPk.out]; rfl]
            exact h8
          · by_cases hje : j = k
            · subst hje
              refine ⟨_, by rw [List.getElem?_append_right (by omega), hul, Nat.sub_self]; rfl, ?_⟩
              rw [← HPk.out]
              exact (HUa.out.grown HOa.out hg7).mono (by omega)
            · obtain ⟨u, h5, h6⟩ := HLa.out j hj (by omega)
              exact ⟨u, by rw [List.getElem?_append_left (by omega)]; exact h5, h6.grown HOa.out hg7⟩
        case measure => simp [intOf]; omega
    · have hke : k = l.length := by omega
      go_wp2
      go_ret
      have h1 := HL.out
      have h2 := HO.out
      subst hke
      rw [List.take_length] at h2
      exact ⟨_, us, rfl, h2, hul, fun j hj => h1 j hj hj, hB⟩
end Go.Proofs.YtkkicbhmcjbmbaaGreat

/- The reference's kernel: Named, has, flagged, Move. -/
namespace Go.Proofs.YtkkicbhmcjbmbaaGreat
open Go.RowKit

set_option maxRecDepth 100000 in
set_option maxHeartbeats 1000000 in
theorem named_any (s : ByteArray) (w : World) (hs : s.size ≤ maxLen) :
    Calls Tryz.prog 45 #[.string s] w fun e w' => e = .returned (.bool (nameOk s)) ∧ w' = w := by
  unfold maxLen at hs
  rcases (show s.size = 0 ∨ (0 < s.size ∧ 64 < s.size) ∨ (0 < s.size ∧ s.size ≤ 64) by omega) with h0 | ⟨h0, h1⟩ | ⟨h0, h1⟩
  · have d0 := kempty_yes s h0
    have hE : nameOk s = false := by unfold nameOk; rw [show decide (0 < s.size) = false by rw [decide_eq_false_iff_not]; omega]; rfl
    rw [hE]
    clear hE
    go_enter Tryz.func45, Tryz.ntmps45
    go_wp2
    go_ret
    exact ⟨rfl, rfl⟩
  · have d0 := kempty_no s (by omega)
    have d1 : (64 : Int) < (s.size : Int) := by omega
    have hE : nameOk s = false := by unfold nameOk; rw [show decide (s.size ≤ 64) = false by simp; omega]; simp
    rw [hE]
    clear hE
    go_enter Tryz.func45, Tryz.ntmps45
    go_wp2
    go_ret
    exact ⟨rfl, rfl⟩
  · have d0 := kempty_no s (by omega)
    have d1 : ¬ (64 : Int) < (s.size : Int) := by omega
    have HE : Hid (nameOk s = s.data.toList.all (fun c => decide (33 ≤ c.toNat) && decide (c.toNat ≤ 126))) := hide (by unfold nameOk; rw [show decide (0 < s.size) = true by simp; omega, show decide (s.size ≤ 64) = true by simp; omega]; rfl)
    rw [HE.out]
    obtain ⟨R, hR⟩ : ∃ R, R = s.data.toList.all (fun c => decide (33 ≤ c.toNat) && decide (c.toNat ≤ 126)) := ⟨_, rfl⟩
    rw [← hR]
    have HR := hide hR
    clear HE hR
    go_enter Tryz.func45, Tryz.ntmps45
    go_wp2
    go_loop [3] (fun i => ∃ k : Nat, k ≤ s.size ∧ i = .int .i64 k ∧ Hid (∀ j (hj : j < s.data.toList.length), j < k → (decide (33 ≤ s.data.toList[j].toNat) && decide (s.data.toList[j].toNat ≤ 126)) = true)) (fun i => s.size - (intOf i).toNat)
    case atStart => exact ⟨0, Nat.zero_le _, rfl, fun _ _ h => by omega⟩
    case round =>
      obtain ⟨k, hk, rfl, HA⟩ := hrel
      by_cases hlt : k < s.size
      · have hby : ((s[k].toNat : Nat) : Int) ≤ 255 := by have := s[k].toNat_lt; omega
        rcases (show (s[k].toNat : Int) < 33 ∨ (¬ (s[k].toNat : Int) < 33 ∧ (126 : Int) < (s[k].toNat : Int)) ∨ (¬ (s[k].toNat : Int) < 33 ∧ ¬ (126 : Int) < (s[k].toNat : Int)) by omega) with e1 | ⟨e1, e2⟩ | ⟨e1, e2⟩
        · have HF : Hid (R = false) := hide (by
            rw [HR.out, List.all_eq_false]
            exact ⟨s[k], by simp [ByteArray.getElem_eq_getElem_data], by simp; omega⟩)
          go_wp2
          go_ret
          exact ⟨by rw [HF.out]; rfl, rfl⟩
        · have HF : Hid (R = false) := hide (by
            rw [HR.out, List.all_eq_false]
            exact ⟨s[k], by simp [ByteArray.getElem_eq_getElem_data], by simp; omega⟩)
          go_wp2
          go_ret
          exact ⟨by rw [HF.out]; rfl, rfl⟩
        · go_wp2
          go_round
          case rel =>
            refine ⟨k + 1, by omega, by go_num, fun j hj hjk => ?_⟩
            rcases Nat.lt_or_ge j k with h | h
            · exact HA.out j hj h
            · obtain rfl : j = k := by omega
              have : s.data.toList[j] = s[j] := by simp [ByteArray.getElem_eq_getElem_data]
              rw [this]
              simp; omega
          case measure => simp [intOf]; omega
      · have HF : Hid (R = true) := hide (by
          rw [HR.out, List.all_eq_true]
          intro c hc
          obtain ⟨j, hj, rfl⟩ := List.getElem_of_mem hc
          have hjs : j < s.size := by simpa using hj
          exact HA.out j hj (by omega))
        go_wp2
        go_ret
        exact ⟨by rw [HF.out]; rfl, rfl⟩

set_option maxRecDepth 100000 in
set_option maxHeartbeats 2000000 in
theorem flagged_any (f : Int) (w : World) :
    Calls Tryz.prog 115 #[.int .i64 f] w fun e w' => e = .returned (.bool (flagsOk f)) ∧ w' = w := by
  unfold flagsOk
  rcases (show f < 0 ∨ (¬ f < 0 ∧ 63 < f) ∨ (¬ f < 0 ∧ ¬ 63 < f) by omega) with e1 | ⟨e1, e2⟩ | ⟨e1, e2⟩
  · rw [show decide (0 ≤ f ∧ f ≤ 63) = false by rw [decide_eq_false_iff_not]; omega]
    go_enter Tryz.func115, Tryz.ntmps115
    go_wp2
    go_ret
    exact ⟨rfl, rfl⟩
  · rw [show decide (0 ≤ f ∧ f ≤ 63) = false by rw [decide_eq_false_iff_not]; omega]
    go_enter Tryz.func115, Tryz.ntmps115
    go_wp2
    go_ret
    exact ⟨rfl, rfl⟩
  · rw [show decide (0 ≤ f ∧ f ≤ 63) = true by rw [decide_eq_true_iff]; omega]
    obtain ⟨v3, h3⟩ : ∃ v, bits .and .i64 f 3 = v := ⟨_, rfl⟩
    obtain ⟨v20, h20⟩ : ∃ v, bits .and .i64 f 20 = v := ⟨_, rfl⟩
    obtain ⟨v2, h2⟩ : ∃ v, bits .and .i64 f 2 = v := ⟨_, rfl⟩
    obtain ⟨v32, h32⟩ : ∃ v, bits .and .i64 f 32 = v := ⟨_, rfl⟩
    obtain ⟨v8, h8⟩ : ∃ v, bits .and .i64 f 8 = v := ⟨_, rfl⟩
    simp only [fbit, h3, h20, h2, h32, h8]
    by_cases k3 : v3 = 0
    · subst k3
      go_enter Tryz.func115, Tryz.ntmps115
      go_wp2
      go_ret
      exact ⟨rfl, rfl⟩
    · have m3 : (v3 == 0) = false := by simpa using k3
      rw [m3]
      by_cases k20 : v20 = 0
      case' pos => subst k20
      case' neg =>
        have m20 : (v20 == 0) = false := by simpa using k20
        have m20' : (v20 != 0) = true := by simpa using k20
        rw [m20]
        by_cases k2 : v2 = 0
        case' pos => subst k2
        case' neg =>
          have m2 : (v2 == 0) = false := by simpa using k2
          rw [m2]
      all_goals
        by_cases k32 : v32 = 0
        case' pos =>
          subst k32
        case' neg =>
          have m32 : (v32 == 0) = false := by simpa using k32
          rw [m32]
          by_cases k8 : v8 = 0
          case' pos => subst k8
          case' neg =>
            have m8 : (v8 == 0) = false := by simpa using k8
            have m8' : (v8 != 0) = true := by simpa using k8
            rw [m8]
      all_goals
        go_enter Tryz.func115, Tryz.ntmps115
        go_wp2
        go_ret
        exact ⟨rfl, rfl⟩
theorem move_any (base off most : Int) (w : World) (h1 : 0 ≤ base) (h2 : base ≤ 1048576) (h3 : 0 ≤ most) (h4 : most ≤ 1048576) :
    Calls Tryz.prog 149 #[.int .i64 base, .int .i64 off, .int .i64 most] w fun e w' => e = .returned (if 0 ≤ base + off ∧ base + off ≤ most then .tuple #[.int .i64 (base + off), .bool true] else .tuple #[.int .i64 0, .bool false]) ∧ w' = w := by
  rcases (show off < -base ∨ (¬ off < -base ∧ most - base < off) ∨ (¬ off < -base ∧ ¬ most - base < off) by omega) with e1 | ⟨e1, e2⟩ | ⟨e1, e2⟩
  · rw [if_neg (by omega)]
    go_enter Tryz.func149, Tryz.ntmps149
    go_wp2
    go_ret2
    exact ⟨rfl, rfl⟩
  · rw [if_neg (by omega)]
    go_enter Tryz.func149, Tryz.ntmps149
    go_wp2
    go_ret2
    exact ⟨rfl, rfl⟩
  · rw [if_pos (by omega)]
    have e3 : -9223372036854775808 ≤ base + off ∧ base + off ≤ 9223372036854775807 := by omega
    go_enter Tryz.func149, Tryz.ntmps149
    go_wp2
    go_ret2
    exact ⟨rfl, rfl⟩
end Go.Proofs.YtkkicbhmcjbmbaaGreat

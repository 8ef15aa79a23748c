/- What the proof stands on, part 5: the contracts of the program's calls that it reaches. -/
import Derived.Test.YtejcfhjhjplcnaaGreatKM4
import Derived.Deep.RegionLaw
import Derived.Laws.AppendOwnNone
import Derived.Laws.OwnMore
import Derived.Lib.BufferMore
import Derived.Deep.QuietTactic
import Derived.BigQuiet
import Derived.Laws.StructEq
/- The reference's pipe: Join, Leave, Read, CanRead, CanWrite. -/
namespace Go.Proofs.YtejcfhjhjplcnaaGreat
open Go.RowKit

structure RP (W : World) (B t : Nat) (a : Option Addr) (c : Nat) (q : List UInt8) (rd wr : Nat) : Prop where
  blk : W.heap[t]? = some (.cells ([.slice a q.length c, .int .i64 rd, .int .i64 wr] : List Value).toArray 199 (0, 0))
  bys : Bys W (.slice a q.length c) q
  cap : q.length ≤ c
  lq : q.length ≤ 4096
  lr : rd ≤ 1024
  lw : wr ≤ 1024
  ad : (a = none ∧ c = 0 ∧ q = []) ∨ ∃ b off, a = some ⟨b, off, none⟩ ∧ b ≠ t ∧ B ≤ b ∧ b < W.heap.size
theorem RP.lt {W : World} {B t : Nat} {a : Option Addr} {c : Nat} {q : List UInt8} {rd wr : Nat} (h : RP W B t a c q rd wr) : t < W.heap.size := (Array.getElem?_eq_some_iff.1 h.blk).1
theorem RP.soft {W : World} {B t : Nat} {a : Option Addr} {c : Nat} {q : List UInt8} {rd wr : Nat} (h : RP W B t a c q rd wr) (j : Nat) : W.frozen? ⟨t, j, none⟩ = false := frozen_of_row W t j _ _ h.blk
theorem RP.c0 {W : World} {B t : Nat} {a : Option Addr} {c : Nat} {q : List UInt8} {rd wr : Nat} (h : RP W B t a c q rd wr) : W.cell? ⟨t, 0, none⟩ = some (.slice a q.length c) := by rw [cell_of_row W t 0 _ _ _ h.blk]; rfl
theorem RP.c1 {W : World} {B t : Nat} {a : Option Addr} {c : Nat} {q : List UInt8} {rd wr : Nat} (h : RP W B t a c q rd wr) : W.cell? ⟨t, 1, none⟩ = some (.int .i64 rd) := by rw [cell_of_row W t 1 _ _ _ h.blk]; rfl
theorem RP.c2 {W : World} {B t : Nat} {a : Option Addr} {c : Nat} {q : List UInt8} {rd wr : Nat} (h : RP W B t a c q rd wr) : W.cell? ⟨t, 2, none⟩ = some (.int .i64 wr) := by rw [cell_of_row W t 2 _ _ _ h.blk]; rfl
theorem RP.keep {S : Nat → Prop} {W W' : World} {B t : Nat} {a : Option Addr} {c : Nat} {q : List UInt8} {rd wr : Nat} (h : RP W B t a c q rd wr) (hT : Turned S W W') (ht : ¬ S t) (hb : ∀ b, B ≤ b → b ≠ t → b < W.heap.size → (Value.slice a q.length c).ownBlock = some b → ¬ S b) : RP W' B t a c q rd wr := by
  refine ⟨(hT.block t h.lt ht).trans h.blk, h.bys.turned hT fun k hk hlt => ?_, h.cap, h.lq, h.lr, h.lw, ?_⟩
  · rcases h.ad with ⟨rfl, _⟩ | ⟨b, off, rfl, h1, h2, h3⟩
    · cases hk
    · obtain rfl : b = k := by simpa [Value.ownBlock] using hk
      exact hb b h2 h1 h3 rfl
  · rcases h.ad with h | ⟨b, off, h0, h1, h2, h3⟩
    · exact .inl h
    · exact .inr ⟨b, off, h0, h1, h2, Nat.lt_of_lt_of_le h3 hT.size⟩
theorem RP.below {W W' : World} {B t : Nat} {a : Option Addr} {c : Nat} {q : List UInt8} {rd wr : Nat} (h : RP W B t a c q rd wr) (hB : Below W.heap.size W W') : RP W' B t a c q rd wr :=
  h.keep (Turned.of_below (S := fun _ => False) hB) id (fun _ _ _ _ _ => id)
theorem RP.set {W : World} {B t : Nat} {a : Option Addr} {c : Nat} {q : List UInt8} {rd wr : Nat} (h : RP W B t a c q rd wr) (j : Nat) (v : Value) {a' : Option Addr} {c' : Nat} {q' : List UInt8} {rd' wr' : Nat}
    (hl : ([.slice a q.length c, .int .i64 rd, .int .i64 wr] : List Value).set j v = [.slice a' q'.length c', .int .i64 rd', .int .i64 wr']) (hb : Bys W (.slice a' q'.length c') q') (hc : q'.length ≤ c') (hq : q'.length ≤ 4096) (hr : rd' ≤ 1024) (hw : wr' ≤ 1024)
    (ha : (a' = none ∧ c' = 0 ∧ q' = []) ∨ ∃ b off, a' = some ⟨b, off, none⟩ ∧ b ≠ t ∧ B ≤ b ∧ b < W.heap.size) : RP (W.setCell ⟨t, j, none⟩ v) B t a' c' q' rd' wr' := by
  have hs : (W.setCell ⟨t, j, none⟩ v).heap.size = W.heap.size := by simp [World.setCell]
  refine ⟨by rw [heap_setCell_same j v h.blk, hl], hb.keep fun k hk _ => Below.heap_setCell _ _ _ _ ?_, hc, hq, hr, hw, ?_⟩
  · rcases ha with ⟨rfl, _⟩ | ⟨b, off, rfl, h1, _⟩
    · cases hk
    · obtain rfl : b = k := by simpa [Value.ownBlock] using hk
      exact h1
  · rw [hs]; exact ha

set_option maxRecDepth 100000 in
set_option maxHeartbeats 1000000 in
theorem rleave_any (x : Bool) (B t : Nat) (a : Option Addr) (c : Nat) (q : List UInt8) (rd wr : Nat) (w : World) (h : RP w B t a c q rd wr) :
    Calls Tryz.prog 180 #[.pointer (some ⟨t, 0, none⟩), .bool x] w fun e w' => e = .returned (.int .i64 (leaveE x rd wr)) ∧ RP w' B t a c q (leaveR x rd wr) (leaveW x rd wr) ∧ Turned (fun k => k = t) w w' := by
  have HP := hide h
  have h2 := h.c1
  have h3 := h.c2
  have h4 := h.soft 1
  have h5 := h.soft 2
  have h6 := h.lr
  have h7 := h.lw
  clear h
  cases x
  · by_cases hf : rd = 0
    · subst hf
      go_enter Tryz.func180, Tryz.ntmps180
      go_wp2
      go_ret
      exact ⟨rfl, HP.out, Turned.refl _ _⟩
    · have k1 : ¬ (rd : Int) = 0 := by omega
      have k2 : ((rd : Int) == 0) = false := by simp; omega
      have HP2 := hide (HP.out.set 1 (.int .i64 ((rd - 1 : Nat) : Int)) (a' := a) (c' := c) (q' := q) (rd' := rd - 1) (wr' := wr) rfl HP.out.bys HP.out.cap HP.out.lq (by omega) HP.out.lw HP.out.ad)
      go_enter Tryz.func180, Tryz.ntmps180
      go_wp2
      go_ret
      refine ⟨ret_int (by simp [leaveE, hf]), ?_, (Turned.refl _ _).set (.inl rfl)⟩
      rw [show (rd : Int) - 1 = ((rd - 1 : Nat) : Int) by omega]
      exact HP2.out
  · by_cases hf : wr = 0
    · subst hf
      go_enter Tryz.func180, Tryz.ntmps180
      go_wp2
      go_ret
      exact ⟨rfl, HP.out, Turned.refl _ _⟩
    · have k1 : ¬ (wr : Int) = 0 := by omega
      have k2 : ((wr : Int) == 0) = false := by simp; omega
      have HP2 := hide (HP.out.set 2 (.int .i64 ((wr - 1 : Nat) : Int)) (a' := a) (c' := c) (q' := q) (rd' := rd) (wr' := wr - 1) rfl HP.out.bys HP.out.cap HP.out.lq HP.out.lr (by omega) HP.out.ad)
      go_enter Tryz.func180, Tryz.ntmps180
      go_wp2
      go_ret
      refine ⟨ret_int (by simp [leaveE, hf]), ?_, (Turned.refl _ _).set (.inl rfl)⟩
      rw [show (wr : Int) - 1 = ((wr - 1 : Nat) : Int) by omega]
      exact HP2.out

set_option maxHeartbeats 1000000 in
theorem rcanRead_any (B t : Nat) (a : Option Addr) (c : Nat) (q : List UInt8) (rd wr : Nat) (w : World) (h : RP w B t a c q rd wr) :
    Calls Tryz.prog 167 #[.pointer (some ⟨t, 0, none⟩)] w fun e w' => e = .returned (.bool (canR q.length rd wr)) ∧ w' = w := by
  have h1 := h.c0
  have h2 := h.c1
  have h3 := h.c2
  clear h
  unfold canR
  generalize q.length = n at *
  rcases (show rd = 0 ∨ (0 < rd ∧ 0 < n) ∨ (0 < rd ∧ n = 0 ∧ 0 < wr) ∨ (0 < rd ∧ n = 0 ∧ wr = 0) by omega) with rfl | ⟨hr, hn⟩ | ⟨hr, rfl, hw⟩ | ⟨hr, rfl, rfl⟩
  · go_enter Tryz.func167, Tryz.ntmps167
    go_wp2
    go_ret
    exact ⟨rfl, rfl⟩
  · rw [show decide (0 < rd) = true by simp; omega, show decide (n = 0 ∧ 0 < wr) = false by rw [decide_eq_false_iff_not]; omega]
    have k1 : (0 : Int) < (rd : Int) := by omega
    have k2 : (0 : Int) < (n : Int) := by omega
    go_enter Tryz.func167, Tryz.ntmps167
    go_wp2
    go_ret
    exact ⟨rfl, rfl⟩
  · rw [show decide (0 < rd) = true by simp; omega, show decide (0 = 0 ∧ 0 < wr) = true by rw [decide_eq_true_iff]; omega]
    have k1 : (0 : Int) < (rd : Int) := by omega
    have k2 : ((wr : Int) == 0) = false := by simp; omega
    go_enter Tryz.func167, Tryz.ntmps167
    go_wp2
    go_ret
    exact ⟨rfl, rfl⟩
  · rw [show decide (0 < rd) = true by simp; omega]
    have k1 : (0 : Int) < (rd : Int) := by omega
    go_enter Tryz.func167, Tryz.ntmps167
    go_wp2
    go_ret
    exact ⟨rfl, rfl⟩

set_option maxHeartbeats 2000000 in
theorem rcanWrite_any (n : Int) (B t : Nat) (a : Option Addr) (c : Nat) (q : List UInt8) (rd wr : Nat) (w : World) (h : RP w B t a c q rd wr) :
    Calls Tryz.prog 171 #[.pointer (some ⟨t, 0, none⟩), .int .i64 n] w fun e w' => e = .returned (.bool (canW n q.length rd wr)) ∧ w' = w := by
  have h1 := h.c0
  have h2 := h.c1
  have h3 := h.c2
  have h4 := h.lq
  clear h
  unfold canW
  generalize q.length = z at *
  by_cases hi : inN n = false
  · rw [hi]
    have h5 : n < 1 ∨ 1048576 < n := by
      simp only [inN, Bool.and_eq_false_iff, decide_eq_false_iff_not] at hi
      omega
    clear hi
    rcases (show wr = 0 ∨ (0 < wr ∧ n < 1) ∨ (0 < wr ∧ 1048576 < n) by omega) with rfl | ⟨hw, hn⟩ | ⟨hw, hn⟩
    · go_enter Tryz.func171, Tryz.ntmps171
      go_wp2
      go_ret
      exact ⟨rfl, rfl⟩
    · have k1 : (0 : Int) < (wr : Int) := by omega
      have k2 : ¬ 1 ≤ n := by omega
      go_enter Tryz.func171, Tryz.ntmps171
      go_wp2
      go_ret
      exact ⟨rfl, rfl⟩
    · have k1 : (0 : Int) < (wr : Int) := by omega
      have k2 : 1 ≤ n := by omega
      have k3 : ¬ n ≤ 1048576 := by omega
      go_enter Tryz.func171, Tryz.ntmps171
      go_wp2
      go_ret
      exact ⟨rfl, rfl⟩
  · have hi' : inN n = true := by simpa using hi
    obtain ⟨m, rfl, hm1, hm2⟩ := inN_nat hi'
    rw [hi']
    clear hi hi'
    simp only [Int.toNat_natCast]
    have k2 : (1 : Int) ≤ (m : Int) := by omega
    have k3 : (m : Int) ≤ 1048576 := by omega
    rcases (show wr = 0 ∨ (0 < wr ∧ rd = 0) ∨ (0 < wr ∧ 0 < rd ∧ m ≤ 512 ∧ m ≤ 4096 - z) ∨ (0 < wr ∧ 0 < rd ∧ m ≤ 512 ∧ ¬ m ≤ 4096 - z) ∨ (0 < wr ∧ 0 < rd ∧ 512 < m ∧ 0 < 4096 - z) ∨ (0 < wr ∧ 0 < rd ∧ 512 < m ∧ z = 4096) by omega) with rfl | ⟨hw, rfl⟩ | ⟨hw, hr, hm, hz⟩ | ⟨hw, hr, hm, hz⟩ | ⟨hw, hr, hm, hz⟩ | ⟨hw, hr, hm, rfl⟩
    · go_enter Tryz.func171, Tryz.ntmps171
      go_wp2
      go_ret
      exact ⟨rfl, rfl⟩
    · rw [show decide (0 < wr) = true by simp; omega]
      have k1 : (0 : Int) < (wr : Int) := by omega
      go_enter Tryz.func171, Tryz.ntmps171
      go_wp2
      go_ret
      exact ⟨rfl, rfl⟩
    · have hy : fitN m m z = m := by unfold fitN; rw [if_neg (by omega), if_neg (by omega)]
      rw [show decide (0 < wr) = true by simp; omega, show decide (rd = 0) = false by simp; omega, show decide (0 < fitN m m z) = true by rw [hy]; simp; omega]
      have k1 : (0 : Int) < (wr : Int) := by omega
      have k4 : ((rd : Int) == 0) = false := by simp; omega
      have k5 : (m : Int) ≤ 512 := by omega
      have k6 : (m : Int) ≤ 4096 - (z : Int) := by omega
      clear hy
      go_enter Tryz.func171, Tryz.ntmps171
      go_wp2
      go_ret
      exact ⟨rfl, rfl⟩
    · have hy : fitN m m z = 0 := by unfold fitN; rw [if_neg (by omega), if_pos (by omega)]
      rw [show decide (0 < wr) = true by simp; omega, show decide (rd = 0) = false by simp; omega, show decide (0 < fitN m m z) = false by rw [hy]; rfl]
      have k1 : (0 : Int) < (wr : Int) := by omega
      have k4 : ((rd : Int) == 0) = false := by simp; omega
      have k5 : (m : Int) ≤ 512 := by omega
      have k6 : ¬ (m : Int) ≤ 4096 - (z : Int) := by omega
      have k7 : ¬ (512 : Int) < (m : Int) := by omega
      clear hy
      go_enter Tryz.func171, Tryz.ntmps171
      go_wp2
      go_ret
      exact ⟨rfl, rfl⟩
    · have hy : 0 < fitN m m z := by unfold fitN; rw [if_pos (by omega)]; omega
      rw [show decide (0 < wr) = true by simp; omega, show decide (rd = 0) = false by simp; omega, show decide (0 < fitN m m z) = true by simp; omega]
      have k1 : (0 : Int) < (wr : Int) := by omega
      have k4 : ((rd : Int) == 0) = false := by simp; omega
      have k5 : ¬ (m : Int) ≤ 512 := by omega
      have k7 : (512 : Int) < (m : Int) := by omega
      have k6 : (0 : Int) < 4096 - (z : Int) := by omega
      clear hy
      go_enter Tryz.func171, Tryz.ntmps171
      go_wp2
      go_ret
      exact ⟨ret_bool (by simp; omega), rfl⟩
    · have hy : fitN m m 4096 = 0 := by unfold fitN; rw [if_pos (by omega)]; omega
      rw [show decide (0 < wr) = true by simp; omega, show decide (rd = 0) = false by simp; omega, show decide (0 < fitN m m 4096) = false by rw [hy]; rfl]
      have k1 : (0 : Int) < (wr : Int) := by omega
      have k4 : ((rd : Int) == 0) = false := by simp; omega
      have k5 : ¬ (m : Int) ≤ 512 := by omega
      have k7 : (512 : Int) < (m : Int) := by omega
      clear hy
      go_enter Tryz.func171, Tryz.ntmps171
      go_wp2
      go_ret
      exact ⟨rfl, rfl⟩
end Go.Proofs.YtejcfhjhjplcnaaGreat

/- The reference's pipe: Read. -/
namespace Go.Proofs.YtejcfhjhjplcnaaGreat
open Go.RowKit

theorem inN_no {n : Int} (h : inN n = false) : n < 1 ∨ (1 ≤ n ∧ 1048576 < n) := by
  simp only [inN, Bool.and_eq_false_iff, decide_eq_false_iff_not] at h
  omega

def RRead (w : World) (B t : Nat) (va : Value) (rd wr : Nat) (E : Int) (Y q' : List UInt8) (e : Ending) (w' : World) : Prop :=
  ∃ v a' c', e = .returned (.tuple #[v, .int .i64 E]) ∧ Bys w' v Y ∧ RP w' B t a' c' q' rd wr ∧ Turned (fun k => k = t) w w' ∧ ∀ b, (Value.slice a' q'.length c').ownBlock = some b → va.ownBlock = some b

set_option maxRecDepth 100000 in
set_option maxHeartbeats 1000000 in
theorem rread_ok (n : Nat) (B t : Nat) (a : Option Addr) (c : Nat) (q : List UInt8) (rd wr : Nat) (w : World) (h : RP w B t a c q rd wr) (hn1 : 1 ≤ n) (hn : n ≤ 1048576) (hr : 0 < rd) (hb : ¬ (q.length = 0 ∧ 0 < wr)) :
    Calls Tryz.prog 170 #[.pointer (some ⟨t, 0, none⟩), .int .i64 n] w (RRead w B t (.slice a q.length c) rd wr 0 (q.take n) (q.drop n)) := by
  have HP := hide h
  have h1 := h.c0
  have h2 := h.c1
  have h3 := h.c2
  have h4 := h.soft 0
  have hcap := h.cap
  have hlq := h.lq
  have had := h.ad
  clear h
  have d1 : ¬ (n : Int) < 1 := by omega
  have d2 : ¬ (1048576 : Int) < (n : Int) := by omega
  have d3 : ((rd : Int) == 0) = false := by simp; omega
  rcases had with ⟨rfl, rfl, rfl⟩ | ⟨b, off, rfl, hbt, hBb, hbl⟩
  · obtain rfl : wr = 0 := by simp at hb; omega
    have HP2 := hide (HP.out.set 0 (.slice none 0 0) (a' := none) (c' := 0) (q' := []) (rd' := rd) (wr' := 0) rfl HP.out.bys HP.out.cap HP.out.lq HP.out.lr HP.out.lw (.inl ⟨rfl, rfl, rfl⟩))
    simp only [List.length_nil] at h1
    have d4 : (0 : Int) < (n : Int) := by omega
    rw [List.take_nil, List.drop_nil, List.length_nil]
    have HF : Hid (∀ w' e, e = .returned (.tuple #[.slice none 0 0, .int .i64 0]) → w' = w.setCell ⟨t, 0, none⟩ (.slice none 0 0) → RRead w B t (.slice none 0 0) rd 0 0 [] [] e w') := hide fun w' e h5 h6 => by
      subst h6
      exact ⟨_, none, 0, h5, .inl ⟨rfl, rfl⟩, HP2.out, (Turned.refl _ _).set (.inl rfl), fun b e => e⟩
    go_enter Tryz.func170, Tryz.ntmps170
    go_wp2
    go_ret2
    exact HF.out _ _ rfl rfl
  · rcases (show (q.length = 0 ∧ wr = 0) ∨ 0 < q.length by omega) with ⟨hq0, rfl⟩ | hq0
    · obtain rfl : q = [] := List.length_eq_zero_iff.1 hq0
      rcases (show c = 0 ∨ 0 < c by omega) with rfl | hc0
      case' inl => have d6 : (0 : Int) ≤ 0 := by omega
      case' inr => have d6 : ¬ c = 0 := by omega
      all_goals
        simp only [List.length_nil] at h1
        have d4 : (0 : Int) < (n : Int) := by omega
        rw [List.take_nil, List.drop_nil, List.length_nil]
        go_enter Tryz.func170, Tryz.ntmps170
        go_wp2
        go_ret2
        refine ⟨_, some ⟨b, off, none⟩, _, rfl, .inr (.inl ⟨_, _, rfl, rfl⟩), ?_, (Turned.refl _ _).set (.inl rfl), fun b e => e⟩
        exact HP.out.set 0 _ rfl (.inr (.inl ⟨_, _, rfl, rfl⟩)) (by simp) (by simp) HP.out.lr HP.out.lw (.inr ⟨b, off, rfl, hbt, hBb, hbl⟩)
    · have d5 : ((q.length : Int) == 0) = false := by rw [beq_eq_false_iff_ne]; omega
      by_cases hnq : n < q.length
      · have d4 : ¬ (q.length : Int) < (n : Int) := by omega
        have d6 : (n : Int) ≤ (c : Int) := by omega
        have d7 : (n : Int) ≤ (q.length : Int) := by omega
        have d8 : ¬ c = n := by omega
        have htl : (q.take n).length = n := by simp; omega
        have hdl : (q.drop n).length = q.length - n := by simp
        have HB1 : Hid (Bys w (.slice (some ⟨b, off, none⟩) n c) (q.take n)) := hide (by simpa using bys_cut HP.out.bys 0 n c (by omega))
        have HB2 : Hid (Bys w (.slice (some ⟨b, off + n, none⟩) (q.drop n).length (c - n)) (q.drop n)) := hide (by
          have := bys_cut HP.out.bys n (q.length - n) (c - n) (by omega)
          rw [List.take_of_length_le (by simp)] at this
          rw [hdl]; exact this)
        have HP2 := hide (HP.out.set 0 (.slice (some ⟨b, off + n, none⟩) (q.length - n) (c - n)) (a' := some ⟨b, off + n, none⟩) (c' := c - n) (q' := q.drop n) (rd' := rd) (wr' := wr) (by rw [hdl]; rfl) HB2.out (by omega) (by omega) HP.out.lr HP.out.lw (.inr ⟨b, off + n, rfl, hbt, hBb, hbl⟩))
        have HF : Hid (∀ w' e, e = .returned (.tuple #[.slice (some ⟨b, off, none⟩) n c, .int .i64 0]) → w' = w.setCell ⟨t, 0, none⟩ (.slice (some ⟨b, off + n, none⟩) (q.length - n) (c - n)) → RRead w B t (.slice (some ⟨b, off, none⟩) q.length c) rd wr 0 (q.take n) (q.drop n) e w') := hide fun w' e h5 h6 => by
          subst h6
          refine ⟨_, _, _, h5, HB1.out.keep fun k hk _ => Below.heap_setCell _ _ _ _ ?_, HP2.out, (Turned.refl _ _).set (.inl rfl), fun b e => e⟩
          obtain rfl : b = k := by simpa [Value.ownBlock] using hk
          exact hbt
        clear HB1 HB2 HP2 htl hdl
        go_enter Tryz.func170, Tryz.ntmps170
        go_wp2
        go_ret2
        exact HF.out _ _ rfl rfl
      · rw [List.take_of_length_le (by omega), List.drop_eq_nil_of_le (by omega)]
        have d9 : (q.length : Int) ≤ (c : Int) := by omega
        have HF : Hid (∀ a' c' w' e, a' = some ⟨b, off, none⟩ ∨ a' = some ⟨b, off + q.length, none⟩ → e = .returned (.tuple #[.slice (some ⟨b, off, none⟩) q.length c, .int .i64 0]) → w' = w.setCell ⟨t, 0, none⟩ (.slice a' 0 c') → RRead w B t (.slice (some ⟨b, off, none⟩) q.length c) rd wr 0 q [] e w') := hide fun a' c' w' e h5 h6 h7 => by
          subst h7
          have h8 : ∃ o', a' = some ⟨b, o', none⟩ := by rcases h5 with h5 | h5 <;> exact ⟨_, h5⟩
          obtain ⟨o', rfl⟩ := h8
          refine ⟨_, _, c', h6, HP.out.bys.keep fun k hk _ => Below.heap_setCell _ _ _ _ ?_, HP.out.set 0 _ rfl (.inr (.inl ⟨_, _, rfl, rfl⟩)) (by simp) (by simp) HP.out.lr HP.out.lw (.inr ⟨b, o', rfl, hbt, hBb, hbl⟩), (Turned.refl _ _).set (.inl rfl), fun b e => e⟩
          obtain rfl : b = k := by simpa [Value.ownBlock] using hk
          exact hbt
        rcases (show q.length < n ∨ n = q.length by omega) with hlt | rfl
        case' inl => have d4 : (q.length : Int) < (n : Int) := by omega
        case' inr => have d4 : ¬ (q.length : Int) < (q.length : Int) := by omega
        all_goals
          rcases (show c = q.length ∨ q.length < c by omega) with rfl | hc
          · go_enter Tryz.func170, Tryz.ntmps170
            go_wp2
            go_ret2
            exact HF.out _ _ _ _ (.inl rfl) rfl rfl
          · have d8 : ¬ c = q.length := by omega
            go_enter Tryz.func170, Tryz.ntmps170
            go_wp2
            go_ret2
            exact HF.out _ _ _ _ (.inr rfl) rfl rfl

set_option maxRecDepth 100000 in
set_option maxHeartbeats 1000000 in
theorem Kp_rread_any (n : Int) (B t : Nat) (a : Option Addr) (c : Nat) (q : List UInt8) (rd wr : Nat) (w : World) (h : RP w B t a c q rd wr) :
    Calls Tryz.prog 170 #[.pointer (some ⟨t, 0, none⟩), .int .i64 n] w (RRead w B t (.slice a q.length c) rd wr (Kp_rdE n q.length rd wr) (rdB n q rd wr) (rdQ n q rd wr)) := by
  have HP := hide h
  have h1 := h.c0
  have h2 := h.c1
  have h3 := h.c2
  unfold rdB rdQ
  by_cases hi : inN n = false
  · have he : Kp_rdE n q.length rd wr = 4 := by rw [Kp_rdE, if_pos hi]
    rw [he, if_neg (by decide), if_neg (by decide)]
    have hn := inN_no hi
    have HF : Hid (RRead w B t (.slice a q.length c) rd wr 4 [] q (.returned (.tuple #[.slice none 0 0, .int .i64 4])) w) := hide ⟨_, a, c, rfl, .inl ⟨rfl, rfl⟩, h, Turned.refl _ _, fun b e => e⟩
    clear h he hi
    rcases hn with hn | ⟨hn, hn2⟩
    · go_enter Tryz.func170, Tryz.ntmps170
      go_wp2
      go_ret2
      exact HF.out
    · have d1 : ¬ n < 1 := by omega
      go_enter Tryz.func170, Tryz.ntmps170
      go_wp2
      go_ret2
      exact HF.out
  · have hi' : inN n = true := by simpa using hi
    obtain ⟨m, rfl, hm1, hm2⟩ := inN_nat hi'
    simp only [Int.toNat_natCast]
    have d1 : ¬ (m : Int) < 1 := by omega
    have d2 : ¬ (1048576 : Int) < (m : Int) := by omega
    by_cases hr : rd = 0
    · subst hr
      have he : Kp_rdE m q.length 0 wr = 51 := by rw [Kp_rdE, if_neg hi, if_pos rfl]
      rw [he, if_neg (by decide), if_neg (by decide)]
      have HF : Hid (RRead w B t (.slice a q.length c) 0 wr 51 [] q (.returned (.tuple #[.slice none 0 0, .int .i64 51])) w) := hide ⟨_, a, c, rfl, .inl ⟨rfl, rfl⟩, h, Turned.refl _ _, fun b e => e⟩
      clear h he hi hi'
      go_enter Tryz.func170, Tryz.ntmps170
      go_wp2
      go_ret2
      exact HF.out
    · by_cases hb : q.length = 0 ∧ 0 < wr
      · have he : Kp_rdE m q.length rd wr = 52 := by rw [Kp_rdE, if_neg hi, if_neg hr, if_pos (decide_eq_true hb)]
        rw [he, if_neg (by decide), if_neg (by decide)]
        have HF : Hid (RRead w B t (.slice a q.length c) rd wr 52 [] q (.returned (.tuple #[.slice none 0 0, .int .i64 52])) w) := hide ⟨_, a, c, rfl, .inl ⟨rfl, rfl⟩, h, Turned.refl _ _, fun b e => e⟩
        have d3 : ((rd : Int) == 0) = false := by simp; omega
        obtain ⟨hq0, hw⟩ := hb
        have d4 : (0 : Int) < (wr : Int) := by omega
        have HQ := hide hq0
        rw [hq0] at h1
        clear h he hi hi' hq0
        go_enter Tryz.func170, Tryz.ntmps170
        go_wp2
        go_ret2
        exact HF.out
      · have he : Kp_rdE m q.length rd wr = 0 := by rw [Kp_rdE, if_neg hi, if_neg hr, if_neg (by simpa using hb)]
        rw [he, if_pos rfl, if_pos rfl]
        exact rread_ok m B t a c q rd wr w h hm1 hm2 (by omega) hb
end Go.Proofs.YtejcfhjhjplcnaaGreat

/- The reference's pipe: Write. -/
namespace Go.Proofs.YtejcfhjhjplcnaaGreat
open Go.RowKit

def RWrite (w : World) (B t : Nat) (va : Value) (rd wr : Nat) (N : Nat) (E : Int) (q' : List UInt8) (e : Ending) (w' : World) : Prop :=
  ∃ a' c', e = .returned (.tuple #[.int .i64 (N : Int), .int .i64 E]) ∧ RP w' B t a' c' q' rd wr ∧ Turned (fun k => k = t) w w' ∧ ∀ b, (Value.slice a' q'.length c').ownBlock = some b → va.ownBlock = some b ∨ w.heap.size ≤ b

theorem rwrite_facts {w : World} {B t : Nat} {a : Option Addr} {c : Nat} {q : List UInt8} {rd wr : Nat} (h : RP w B t a c q rd wr) (hB : B ≤ w.heap.size) {a1 : Option Addr} {N cx : Nat} {X : List UInt8} (hx : Bys w (.slice a1 N cx) X) (hXl : X.length = N) (hN : 1 ≤ N) (hfit : q.length + N ≤ 4096) :
    ∃ s1 w2 sa sc w3, Hid ((Builtin.append_ #[40, 40] 40 #[.slice none 0 0, .slice a q.length c]).run Tryz.prog w.drew = .ok s1 w2) ∧ Hid ((Builtin.append_ #[40, 40] 40 #[s1, .slice a1 N cx]).run Tryz.prog w2 = .ok (.slice sa (q.length + N) sc) w3) ∧
      w3.cell? ⟨t, 0, none⟩ = some (.slice a q.length c) ∧ w3.frozen? ⟨t, 0, none⟩ = false ∧ Hid (∀ w' e E, w' = w3.setCell ⟨t, 0, none⟩ (.slice sa (q.length + N) sc) → e = .returned (.tuple #[.int .i64 (N : Int), .int .i64 E]) → RWrite w B t (.slice a q.length c) rd wr N E (q ++ X) e w') := by
  obtain ⟨s1, w2, hr1, HO1, hg1, hb1⟩ := run_append_bytes w.drew 40 w.heap.size (.slice none 0 0) (.slice a q.length c) [] q (World.ownsRow_nil _ _ _ _) (h.bys.below (Below.refl _ w).drew) (by have := h.lq; simp; omega) (Nat.le_refl _)
  rw [List.nil_append] at HO1
  have hB2 : Below w.heap.size w w2 := (Below.refl _ w).drew.grown hg1 (Nat.le_refl _) (fun j e => by cases e)
  have hz2 := hB2.size
  obtain ⟨s2, w3, hr2, HO2, hg2, hb2⟩ := run_append_bytes w2 40 w.heap.size s1 (.slice a1 N cx) q X HO1.out (hx.below hB2) (by have := h.lq; omega) hz2
  have hB3 : Below w.heap.size w w3 := hB2.grown hg2 hz2 (fun j e => (HO1.out.lt j e).1)
  have hql : (q ++ X).length = q.length + N := by rw [List.length_append, hXl]
  obtain ⟨sa, sc, rfl⟩ := owns_slice HO2.out
  have hcap := owns_cap HO2.out
  have hO2 := HO2.out
  have hP3 := h.below hB3
  have htl := h.lt
  refine ⟨s1, w2, sa, sc, w3, hr1, by rw [← hql]; exact hr2, hP3.c0, hP3.soft 0, fun w' e E hw he => ?_⟩
  subst hw
  have hblk : ∀ b, (Value.slice sa (q ++ X).length sc).ownBlock = some b → w.heap.size ≤ b ∧ b < w3.heap.size := fun b e => hO2.lt b e
  refine ⟨sa, sc, he, hP3.set 0 _ (by rw [hql]; rfl) (Bys.of_owns hO2) hcap (by omega) h.lr h.lw ?_, (Turned.of_below (S := fun k => k = t) hB3).set (.inl rfl), fun b e => .inr (hblk b e).1⟩
  right
  rcases hO2.2 with ⟨h0, h1⟩ | ⟨g, c, cur, h1, h2, h3, _⟩
  · omega
  · cases h1
    have := hblk g rfl
    exact ⟨g, 0, rfl, by omega, by omega, by omega⟩

set_option maxRecDepth 100000 in
set_option maxHeartbeats 4000000 in
theorem Kp_rwrite_any (most : Int) (B t : Nat) (a : Option Addr) (c : Nat) (q x : List UInt8) (a1 : Option Addr) (n cx : Nat) (rd wr : Nat) (w : World) (h : RP w B t a c q rd wr) (hB : B ≤ w.heap.size) (hx : Bys w (.slice a1 n cx) x) (hcx : x.length ≤ cx) (hxs : x.length ≤ 140737488351232) :
    Calls Tryz.prog 173 #[.pointer (some ⟨t, 0, none⟩), .slice a1 n cx, .int .i64 most] w (RWrite w B t (.slice a q.length c) rd wr (wrN x.length most q.length rd wr) (Kp_wrE x.length most q.length rd wr) (q ++ x.take (wrN x.length most q.length rd wr))) := by
  obtain ⟨a2, c2, he1, -⟩ := bys_form hx
  obtain ⟨rfl, rfl, rfl⟩ : a1 = a2 ∧ n = x.length ∧ cx = c2 := by simpa using he1
  clear he1
  have HP := hide h
  have HX := hide hx
  have h1 := h.c0
  have h2 := h.c1
  have h3 := h.c2
  have hlq := h.lq
  have HF : Hid (∀ E, RWrite w B t (.slice a q.length c) rd wr 0 E q (.returned (.tuple #[.int .i64 ((0 : Nat) : Int), .int .i64 E])) w) := hide fun E => ⟨a, c, rfl, h, Turned.refl _ _, fun b e => .inl e⟩
  clear h hx
  unfold wrN Kp_wrE
  by_cases hr : refE x.length most rd wr = 0
  · obtain ⟨hl, hi, hw0, hr0⟩ := refE_zero hr
    obtain ⟨m, rfl, hm1, hm2⟩ := inN_nat hi
    rw [if_pos hr, if_pos hr]
    simp only [Int.toNat_natCast]
    clear hr hi
    have d0 : ¬ (1048576 : Int) < (x.length : Int) := by omega
    have d1 : ¬ (m : Int) < 1 := by omega
    have d2 : ¬ (1048576 : Int) < (m : Int) := by omega
    have d3 : ((wr : Int) == 0) = false := by simp; omega
    have d4 : ((rd : Int) == 0) = false := by simp; omega
    obtain ⟨room, hroom⟩ : ∃ room, room = 4096 - q.length := ⟨_, rfl⟩
    have hrv : (4096 : Int) - (q.length : Int) = (room : Int) := by omega
    by_cases hx0 : x.length = 0
    · obtain rfl : x = [] := List.length_eq_zero_iff.1 hx0
      rw [if_pos hx0]
      have hf : fitN ([] : List UInt8).length m q.length = 0 := by simp [fitN]
      rw [hf, List.take_zero, List.append_nil]
      simp only [List.length_nil] at *
      go_enter Tryz.func173, Tryz.ntmps173
      go_wp2
      go_ret2
      exact HF.out 0
    · rw [if_neg hx0]
      have d5 : ((x.length : Int) == 0) = false := by rw [beq_eq_false_iff_ne]; omega
      rcases (show (x.length ≤ 512 ∧ room < x.length) ∨ (512 < x.length ∧ room = 0) ∨ (0 < room ∧ x.length ≤ 512 ∧ x.length ≤ room) ∨ (0 < room ∧ 512 < x.length) by omega) with ⟨hs, hb⟩ | ⟨hs, hb⟩ | ⟨hr1, hs, hb⟩ | ⟨hr1, hs⟩
      · have hf : fitN x.length m q.length = 0 := by unfold fitN; rw [if_neg (by omega), if_pos (by omega)]
        rw [if_pos hf, hf, List.take_zero, List.append_nil]
        have d6 : (x.length : Int) ≤ 512 := by omega
        have d7 : (room : Int) < (x.length : Int) := by omega
        clear hf hroom
        go_enter Tryz.func173, Tryz.ntmps173
        go_wp2
        go_ret2
        exact HF.out 52
      · have hf : fitN x.length m q.length = 0 := by unfold fitN; rw [if_pos (by omega)]; omega
        rw [if_pos hf, hf, List.take_zero, List.append_nil]
        subst hb
        have d6 : ¬ (x.length : Int) ≤ 512 := by omega
        clear hf hroom
        go_enter Tryz.func173, Tryz.ntmps173
        go_wp2
        go_ret2
        exact HF.out 52
      · have hf : fitN x.length m q.length = x.length := by unfold fitN; rw [if_neg (by omega), if_neg (by omega)]
        rw [if_neg (by omega), hf, List.take_length]
        have d6 : (x.length : Int) ≤ 512 := by omega
        have d7 : ¬ (room : Int) < (x.length : Int) := by omega
        have d8 : ((room : Int) == 0) = false := by rw [beq_eq_false_iff_ne]; omega
        obtain ⟨-, b1, off1, rfl, -, -⟩ := bys_block HX.out (by omega)
        obtain ⟨s1, w2, sa, sc, w3, HR1, HR2, c3, f3, HFin⟩ := rwrite_facts HP.out hB HX.out rfl (by omega) (by omega)
        have d9 : (x.length : Int) ≤ (cx : Int) := by omega
        clear hf hroom HF
        all_goals
          go_enter Tryz.func173, Tryz.ntmps173
          go_wp2_with fail
          go_region_law (first | (refine step_append_run _ (by rfl) _ _ _ _ (by rfl) _ _ (by rfl) (by rfl) _ _ HR1.out ?_) | (refine step_append_run _ (by rfl) _ _ _ _ (by rfl) _ _ (by rfl) (by rfl) _ _ HR2.out ?_))
          all_goals
            go_wp2
            go_ret2
            exact HFin.out _ _ 0 rfl rfl
      · have hfe : fitN x.length m q.length = min x.length (min m room) := by unfold fitN; rw [if_pos (by omega), hroom]
        rw [if_neg (by omega), hfe]
        have d6 : ¬ (x.length : Int) ≤ 512 := by omega
        have d8 : ((room : Int) == 0) = false := by rw [beq_eq_false_iff_ne]; omega
        obtain ⟨-, b1, off1, rfl, -, -⟩ := bys_block HX.out (by omega)
        obtain ⟨N, hN⟩ : ∃ N, N = min x.length (min m room) := ⟨_, rfl⟩
        rw [← hN]
        have HXc : Hid (Bys w (.slice (some ⟨b1, off1, none⟩) N cx) (x.take N)) := hide (by simpa using bys_cut HX.out 0 N cx (by omega))
        obtain ⟨s1, w2, sa, sc, w3, HR1, HR2, c3, f3, HFin⟩ := rwrite_facts HP.out hB HXc.out (by simp; omega) (by omega) (by omega)
        have d9 : (N : Int) ≤ (cx : Int) := by omega
        clear hfe hroom HF HXc
        have hcs : (N = x.length ∧ x.length ≤ room ∧ x.length ≤ m) ∨ (N = room ∧ room < x.length ∧ room ≤ m) ∨ (N = m ∧ room < x.length ∧ m < room) ∨ (N = m ∧ x.length ≤ room ∧ m < x.length) := by omega
        clear hN
        rcases hcs with ⟨hNe, e1, e2⟩ | ⟨hNe, e1, e2⟩ | ⟨hNe, e1, e2⟩ | ⟨hNe, e1, e2⟩
        all_goals
          first
            | (have g1 : ¬ (room : Int) < (x.length : Int) := by omega
               have g2 : ¬ (m : Int) < (x.length : Int) := by omega
               subst hNe)
            | (have g1 : (room : Int) < (x.length : Int) := by omega
               have g2 : ¬ (m : Int) < (room : Int) := by omega
               subst hNe)
            | (have g1 : (room : Int) < (x.length : Int) := by omega
               have g2 : (m : Int) < (room : Int) := by omega
               subst hNe)
            | (have g1 : ¬ (room : Int) < (x.length : Int) := by omega
               have g2 : (m : Int) < (x.length : Int) := by omega
               subst hNe)
          go_enter Tryz.func173, Tryz.ntmps173
          go_wp2_with fail
          go_region_law (first | (refine step_append_run _ (by rfl) _ _ _ _ (by rfl) _ _ (by rfl) (by rfl) _ _ HR1.out ?_) | (refine step_append_run _ (by rfl) _ _ _ _ (by rfl) _ _ (by rfl) (by rfl) _ _ HR2.out ?_))
          all_goals
            go_wp2
            go_ret2
            exact HFin.out _ _ 0 rfl rfl
  · rw [if_neg hr, if_neg hr, List.take_zero, List.append_nil]
    unfold refE
    by_cases hl : 1048576 < x.length
    · rw [if_pos hl]
      have d0 : (1048576 : Int) < (x.length : Int) := by omega
      clear hr
      go_enter Tryz.func173, Tryz.ntmps173
      go_wp2
      go_ret2
      exact HF.out 5
    · rw [if_neg hl]
      have d0 : ¬ (1048576 : Int) < (x.length : Int) := by omega
      by_cases hi : inN most = false
      · rw [if_pos hi]
        have hn := inN_no hi
        clear hr hi
        rcases hn with hn | ⟨hn, hn2⟩
        · go_enter Tryz.func173, Tryz.ntmps173
          go_wp2
          go_ret2
          exact HF.out 4
        · have d1 : ¬ most < 1 := by omega
          go_enter Tryz.func173, Tryz.ntmps173
          go_wp2
          go_ret2
          exact HF.out 4
      · rw [if_neg hi]
        have hi' := inN_true (by simpa using hi : inN most = true)
        have d1 : ¬ most < 1 := by omega
        have d2 : ¬ 1048576 < most := by omega
        by_cases hw : wr = 0
        · subst hw
          rw [if_pos rfl]
          clear hr hi
          go_enter Tryz.func173, Tryz.ntmps173
          go_wp2
          go_ret2
          exact HF.out 51
        · rw [if_neg hw]
          have d3 : ((wr : Int) == 0) = false := by simp; omega
          by_cases hr0 : rd = 0
          · subst hr0
            rw [if_pos rfl]
            clear hr hi
            go_enter Tryz.func173, Tryz.ntmps173
            go_wp2
            go_ret2
            exact HF.out 53
          · exfalso
            apply hr
            unfold refE
            rw [if_neg hl, if_neg hi, if_neg hw, if_neg hr0]
end Go.Proofs.YtejcfhjhjplcnaaGreat

/- Names, and lists of named bytes: what holds them; Named, has, CopyNamed. -/
namespace Go.Proofs.YtejcfhjhjplcnaaGreat
open Go.RowKit

def I64 (d : Int) : Prop := -9223372036854775808 ≤ d ∧ d ≤ 9223372036854775807
theorem I64.wf {d : Int} (h : I64 d) : (Lit.int .i64 d).wf = true := by
  simp only [Lit.wf, Bool.and_eq_true, decide_eq_true_eq]
  exact ⟨h.1, h.2⟩
theorem I64.of {d : Int} (h : (Lit.int .i64 d).wf = true) : I64 d := by
  simp only [Lit.wf, Bool.and_eq_true, decide_eq_true_eq] at h
  exact h
abbrev Nm := ByteArray × List UInt8
def Nms (W : World) (v : Value) (l : List Nm) : Prop :=
  ∃ a c, v = .slice a l.length c ∧ l.length ≤ c ∧ (0 < l.length → ∃ b off, a = some ⟨b, off, none⟩ ∧ ∀ j (hj : j < l.length), ∃ va vc, W.cell? ⟨b, off + j * 2, none⟩ = some (.string l[j].1) ∧ W.cell? ⟨b, off + j * 2 + 1, none⟩ = some (.slice va l[j].2.length vc) ∧ Bys W (.slice va l[j].2.length vc) l[j].2 ∧ l[j].2.length ≤ vc ∧ l[j].1.size ≤ maxLen)
theorem Nms.form {W : World} {v : Value} {l : List Nm} (h : Nms W v l) : ∃ a c, v = .slice a l.length c := by
  obtain ⟨a, c, rfl, _⟩ := h
  exact ⟨a, c, rfl⟩
theorem Nms.below {W W' : World} {v : Value} {l : List Nm} (h : Nms W v l) (hB : Below W.heap.size W W') : Nms W' v l := by
  obtain ⟨a, c, rfl, hl, hc⟩ := h
  refine ⟨a, c, rfl, hl, fun h0 => ?_⟩
  obtain ⟨b, off, rfl, hd⟩ := hc h0
  refine ⟨b, off, rfl, fun j hj => ?_⟩
  obtain ⟨va, vc, h1, h2, h3, h4⟩ := hd j hj
  have hb := World.block_lt_of_cell? W _ h1
  exact ⟨va, vc, (hB.cell (p := ⟨b, off + j * 2, none⟩) hb).trans h1, (hB.cell (p := ⟨b, off + j * 2 + 1, none⟩) hb).trans h2, h3.below hB, h4⟩
theorem Nms.at {W : World} {a : Option Addr} {n c : Nat} {l : List Nm} (h : Nms W (.slice a n c) l) (j : Nat) (hj : j < l.length) :
    ∃ b off va vc, a = some ⟨b, off, none⟩ ∧ b < W.heap.size ∧ W.cell? ⟨b, off + j * 2, none⟩ = some (.string l[j].1) ∧ W.cell? ⟨b, off + j * 2 + 1, none⟩ = some (.slice va l[j].2.length vc) ∧ Bys W (.slice va l[j].2.length vc) l[j].2 ∧ l[j].2.length ≤ vc ∧ l[j].1.size ≤ maxLen := by
  obtain ⟨a', c', he, _, hc⟩ := h
  cases he
  obtain ⟨b, off, rfl, hd⟩ := hc (by omega)
  obtain ⟨va, vc, h1, h2, h3, h4⟩ := hd j hj
  exact ⟨b, off, va, vc, rfl, World.block_lt_of_cell? W _ h1, h1, h2, h3, h4⟩

def ncs {α : Type} : List (ByteArray × α) → List Value → List Value
  | p :: l, u :: us => .string p.1 :: u :: ncs l us
  | _, _ => []
theorem ncs_snoc {α : Type} : ∀ (l : List (ByteArray × α)) (us : List Value) (p : ByteArray × α) (u : Value), us.length = l.length → ncs (l ++ [p]) (us ++ [u]) = ncs l us ++ [.string p.1, u]
  | [], [], _, _, _ => rfl
  | q :: l, v :: us, p, u, h => by
    show .string q.1 :: v :: ncs (l ++ [p]) (us ++ [u]) = _
    rw [ncs_snoc l us p u (by simpa using h)]
    rfl
theorem ncs_get {α : Type} : ∀ (l : List (ByteArray × α)) (us : List Value) (j : Nat) (hj : j < l.length), us.length = l.length → (ncs l us)[j * 2]? = some (.string l[j].1) ∧ (ncs l us)[j * 2 + 1]? = us[j]?
  | q :: l, v :: us, 0, _, _ => ⟨rfl, rfl⟩
  | q :: l, v :: us, j + 1, hj, h => by
    have := ncs_get l us j (by simpa using hj) (by simpa using h)
    rw [show (j + 1) * 2 = j * 2 + 2 by omega]
    exact this

theorem Tryz.infoN : (Tryz.prog.info? 119).map (fun i => (i.zero, i.size, i.bytes)) = some (some (.agg #[.string ByteArray.empty, .slice none 0 0]), 2, 40) := by kernel_rfl
theorem run_append_named (w : World) (ty : TypeId) (base : Nat) (s : Value) (n : Nat) (xs : List Value) (g c : Nat) (nm : ByteArray) (u : Value) (hs : w.ownsRow base 119 2 s n xs) (hx0 : w.cell? ⟨g, 0, none⟩ = some (.string nm)) (hx1 : w.cell? ⟨g, 1, none⟩ = some u) (hu : u.oneCell' = true) (hn : (n + 1) * 40 ≤ 140737488355328) (hb : base ≤ w.heap.size) :
    ∃ s' w', (Builtin.append_ #[22, 22] ty #[s, .slice (some ⟨g, 0, none⟩) 1 c]).run Tryz.prog w = .ok s' w' ∧ Hid (w'.ownsRow base 119 2 s' (n + 1) (xs ++ [.string nm, u])) ∧ w.grownBy w' s.ownBlock ∧ (s'.ownBlock = s.ownBlock ∨ s'.ownBlock = some w.heap.size) := by
  refine (?_ : ∃ s' w', (Builtin.append_ #[22, 22] ty #[s, .slice (some ⟨g, 0, none⟩) 1 c]).run Tryz.prog w = .ok s' w' ∧ w'.ownsRow base 119 2 s' (n + 1) (xs ++ [.string nm, u]) ∧ w.grownBy w' s.ownBlock ∧ (s'.ownBlock = s.ownBlock ∨ s'.ownBlock = some w.heap.size))
  obtain ⟨i0, hi, hz0, hz1, hz2⟩ := info_parts Tryz.infoN
  obtain ⟨v', w', h1, h2, h3, _, h5⟩ := run_append_own_at (P := Tryz.prog) w base 22 ty 119 i0 (.agg #[.string ByteArray.empty, .slice none 0 0]) 2 40 Tryz.underlying22 hi hz0 hz1 hz2 rfl (by decide) s _ _ hs ⟨g, 0, none⟩ 1 c [.string nm, u] rfl (fun j v hj => by
    match j, hj with
    | 0, hj =>
      obtain rfl : Value.string nm = v := by simpa using hj
      have hadd : (⟨g, 0, none⟩ : Addr).add 0 = ⟨g, 0, none⟩ := by unfold Addr.add; split <;> simp_all
      rw [hadd]; exact hx0
    | 1, hj =>
      obtain rfl : u = v := by simpa using hj
      have hadd : (⟨g, 0, none⟩ : Addr).add 1 = ⟨g, 1, none⟩ := by unfold Addr.add; split <;> simp_all
      rw [hadd]; exact hx1) (by intro v hv; simp at hv; rcases hv with rfl | rfl; rfl; exact hu) (by unfold maxLen; omega) (by omega) hb
  exact ⟨v', w', h1, h2, h3, h5⟩
theorem Tryz.infoT : (Tryz.prog.info? 123).map (fun i => (i.zero, i.size, i.bytes)) = some (some (.agg #[.string ByteArray.empty, .slice none 0 0]), 2, 40) := by kernel_rfl
theorem run_append_typed (w : World) (ty : TypeId) (base : Nat) (s : Value) (n : Nat) (xs : List Value) (g c : Nat) (nm : ByteArray) (u : Value) (hs : w.ownsRow base 123 2 s n xs) (hx0 : w.cell? ⟨g, 0, none⟩ = some (.string nm)) (hx1 : w.cell? ⟨g, 1, none⟩ = some u) (hu : u.oneCell' = true) (hn : (n + 1) * 40 ≤ 140737488355328) (hb : base ≤ w.heap.size) :
    ∃ s' w', (Builtin.append_ #[23, 23] ty #[s, .slice (some ⟨g, 0, none⟩) 1 c]).run Tryz.prog w = .ok s' w' ∧ Hid (w'.ownsRow base 123 2 s' (n + 1) (xs ++ [.string nm, u])) ∧ w.grownBy w' s.ownBlock ∧ (s'.ownBlock = s.ownBlock ∨ s'.ownBlock = some w.heap.size) := by
  refine (?_ : ∃ s' w', (Builtin.append_ #[23, 23] ty #[s, .slice (some ⟨g, 0, none⟩) 1 c]).run Tryz.prog w = .ok s' w' ∧ w'.ownsRow base 123 2 s' (n + 1) (xs ++ [.string nm, u]) ∧ w.grownBy w' s.ownBlock ∧ (s'.ownBlock = s.ownBlock ∨ s'.ownBlock = some w.heap.size))
  obtain ⟨i0, hi, hz0, hz1, hz2⟩ := info_parts Tryz.infoT
  obtain ⟨v', w', h1, h2, h3, _, h5⟩ := run_append_own_at (P := Tryz.prog) w base 23 ty 123 i0 (.agg #[.string ByteArray.empty, .slice none 0 0]) 2 40 Tryz.underlying23 hi hz0 hz1 hz2 rfl (by decide) s _ _ hs ⟨g, 0, none⟩ 1 c [.string nm, u] rfl (fun j v hj => by
    match j, hj with
    | 0, hj =>
      obtain rfl : Value.string nm = v := by simpa using hj
      have hadd : (⟨g, 0, none⟩ : Addr).add 0 = ⟨g, 0, none⟩ := by unfold Addr.add; split <;> simp_all
      rw [hadd]; exact hx0
    | 1, hj =>
      obtain rfl : u = v := by simpa using hj
      have hadd : (⟨g, 0, none⟩ : Addr).add 1 = ⟨g, 1, none⟩ := by unfold Addr.add; split <;> simp_all
      rw [hadd]; exact hx1) (by intro v hv; simp at hv; rcases hv with rfl | rfl; rfl; exact hu) (by unfold maxLen; omega) (by omega) hb
  exact ⟨v', w', h1, h2, h3, h5⟩

abbrev Tp := ByteArray × List (List UInt8)
def Tps (W : World) (v : Value) (l : List Tp) : Prop :=
  ∃ a c, v = .slice a l.length c ∧ l.length ≤ c ∧ (0 < l.length → ∃ b off, a = some ⟨b, off, none⟩ ∧ ∀ j (hj : j < l.length), ∃ va vc, W.cell? ⟨b, off + j * 2, none⟩ = some (.string l[j].1) ∧ W.cell? ⟨b, off + j * 2 + 1, none⟩ = some (.slice va l[j].2.length vc) ∧ Lns W (.slice va l[j].2.length vc) l[j].2 ∧ l[j].1.size ≤ maxLen)
theorem Tps.form {W : World} {v : Value} {l : List Tp} (h : Tps W v l) : ∃ a c, v = .slice a l.length c := by
  obtain ⟨a, c, rfl, _⟩ := h
  exact ⟨a, c, rfl⟩
theorem Tps.below {W W' : World} {v : Value} {l : List Tp} (h : Tps W v l) (hB : Below W.heap.size W W') : Tps W' v l := by
  obtain ⟨a, c, rfl, hl, hc⟩ := h
  refine ⟨a, c, rfl, hl, fun h0 => ?_⟩
  obtain ⟨b, off, rfl, hd⟩ := hc h0
  refine ⟨b, off, rfl, fun j hj => ?_⟩
  obtain ⟨va, vc, h1, h2, h3⟩ := hd j hj
  have hb := World.block_lt_of_cell? W _ h1
  exact ⟨va, vc, (hB.cell (p := ⟨b, off + j * 2, none⟩) hb).trans h1, (hB.cell (p := ⟨b, off + j * 2 + 1, none⟩) hb).trans h2, h3.1.below hB, h3.2⟩
theorem Tps.at {W : World} {a : Option Addr} {n c : Nat} {l : List Tp} (h : Tps W (.slice a n c) l) (j : Nat) (hj : j < l.length) :
    ∃ b off va vc, a = some ⟨b, off, none⟩ ∧ b < W.heap.size ∧ W.cell? ⟨b, off + j * 2, none⟩ = some (.string l[j].1) ∧ W.cell? ⟨b, off + j * 2 + 1, none⟩ = some (.slice va l[j].2.length vc) ∧ Lns W (.slice va l[j].2.length vc) l[j].2 ∧ l[j].1.size ≤ maxLen := by
  obtain ⟨a', c', he, _, hc⟩ := h
  cases he
  obtain ⟨b, off, rfl, hd⟩ := hc (by omega)
  obtain ⟨va, vc, h1, h2, h3⟩ := hd j hj
  exact ⟨b, off, va, vc, rfl, World.block_lt_of_cell? W _ h1, h1, h2, h3⟩
def TC (W : World) (B : Nat) (ls : List (List UInt8)) (u : Value) : Prop := ∃ xs, W.ownsRow B 40 1 u ls.length xs ∧ LCells W B ls xs
theorem TC.below {W W' : World} {B : Nat} {ls : List (List UInt8)} {u : Value} (h : TC W B ls u) (hB : Below W.heap.size W W') : TC W' B ls u := by
  obtain ⟨xs, h1, h2⟩ := h
  exact ⟨xs, owns_below h1 hB, h2.below hB⟩
theorem TC.mono {W : World} {B B' : Nat} {ls : List (List UInt8)} {u : Value} (h : TC W B ls u) (hB : B' ≤ B) : TC W B' ls u := by
  obtain ⟨xs, h1, h2, h3, h4⟩ := h
  exact ⟨xs, owns_mono h1 hB, h2, fun j hj => by obtain ⟨v, h5, h6⟩ := h3 j hj; exact ⟨v, h5, owns_mono h6 hB⟩, h4⟩
theorem TC.grown {W W' : World} {B b' n : Nat} {s : Value} {ys : List Value} {ls : List (List UInt8)} {u : Value} (h : TC W B ls u) (hs : W.ownsRow b' 123 2 s n ys) (hg : W.grownBy W' s.ownBlock) : TC W' B ls u := by
  obtain ⟨xs, h1, h2⟩ := h
  refine ⟨xs, owns_keep h1 fun i e => hg.block i (h1.lt i e).2 (fun e' => Te_owns_apart h1 hs (by decide) i e e'.symm), h2.keep fun j hj v i h3 e => ?_⟩
  obtain ⟨v', h4, h5⟩ := h2.2.1 j hj
  rw [h3] at h4
  cases h4
  exact hg.block i (h5.lt i e).2 (fun e' => Te_owns_apart h5 hs (by decide) i e e'.symm)
end Go.Proofs.YtejcfhjhjplcnaaGreat

/- Faults: what a fault that may be is, and what mayBe, may answer. -/
namespace Go.Proofs.YtejcfhjhjplcnaaGreat
open Go.RowKit

def may (x : Int × Int) : Bool := if x.1 = 1 then decide (1 ≤ x.2 ∧ x.2 ≤ 1048576) else decide (0 ≤ x.1 ∧ x.1 ≤ 3 ∧ x.2 = 0)

theorem may_one (n : Int) : may (1, n) = decide (1 ≤ n ∧ n ≤ 1048576) := by simp [may]
theorem may_else {k n : Int} (h : k ≠ 1) : may (k, n) = decide (0 ≤ k ∧ k ≤ 3 ∧ n = 0) := by simp [may, h]

set_option maxHeartbeats 1000000 in
theorem mayBe_any (k n : Int) (w : World) :
    Calls Tryz.prog 163 #[.agg #[.int .i64 k, .int .i64 n]] w fun e w' => e = .returned (.bool (may (k, n))) ∧ Below w.heap.size w w' := by
  by_cases h1 : k = 1
  · subst h1
    rw [may_one]
    go_enter Tryz.func163, Tryz.ntmps163
    go_wp2
    all_goals
      go_ret
      exact ⟨ret_bool (by first | (simp; done) | (simp; omega) | (simp_all; done)), (Below.refl _ _).alloc (Nat.le_refl _) _⟩
  · rw [may_else h1]
    by_cases h2 : 0 ≤ k
    · by_cases h3 : k ≤ 3
      · go_enter Tryz.func163, Tryz.ntmps163
        go_wp2
        all_goals
          go_ret
          exact ⟨ret_bool (by simp [h2, h3]; by_cases hn : n = 0 <;> simp [hn]), (Below.refl _ _).alloc (Nat.le_refl _) _⟩
      · go_enter Tryz.func163, Tryz.ntmps163
        go_wp2
        all_goals
          go_ret
          exact ⟨ret_bool (by simp; omega), (Below.refl _ _).alloc (Nat.le_refl _) _⟩
    · go_enter Tryz.func163, Tryz.ntmps163
      go_wp2
      all_goals
        go_ret
        exact ⟨ret_bool (by simp; omega), (Below.refl _ _).alloc (Nat.le_refl _) _⟩
set_option maxHeartbeats 1000000 in
theorem may_any (k n : Int) (w : World) :
    Calls Tryz.prog 159 #[.agg #[.int .i64 k, .int .i64 n]] w fun e w' => e = .returned (.bool (may (k, n))) ∧ Below w.heap.size w w' := by
  by_cases h1 : k = 1
  · subst h1
    rw [may_one]
    go_enter Tryz.func159, Tryz.ntmps159
    go_wp2
    all_goals
      go_ret
      exact ⟨ret_bool (by first | (simp; done) | (simp; omega) | (simp_all; done)), (Below.refl _ _).alloc (Nat.le_refl _) _⟩
  · rw [may_else h1]
    by_cases h2 : 0 ≤ k
    · by_cases h3 : k ≤ 3
      · go_enter Tryz.func159, Tryz.ntmps159
        go_wp2
        all_goals
          go_ret
          exact ⟨ret_bool (by simp [h2, h3]; by_cases hn : n = 0 <;> simp [hn]), (Below.refl _ _).alloc (Nat.le_refl _) _⟩
      · go_enter Tryz.func159, Tryz.ntmps159
        go_wp2
        all_goals
          go_ret
          exact ⟨ret_bool (by simp; omega), (Below.refl _ _).alloc (Nat.le_refl _) _⟩
    · go_enter Tryz.func159, Tryz.ntmps159
      go_wp2
      all_goals
        go_ret
        exact ⟨ret_bool (by simp; omega), (Below.refl _ _).alloc (Nat.le_refl _) _⟩
end Go.Proofs.YtejcfhjhjplcnaaGreat

/- Lists of faults in memory; CopyFaults, SameFaults, Clone, Check and the reference's Check, for any faults. -/
namespace Go.Proofs.YtejcfhjhjplcnaaGreat
open Go.RowKit

abbrev Fault := Int × Int
def fcs (l : List Fault) : List Value := l.flatMap fun x => [.int .i64 x.1, .int .i64 x.2]
def Flts (W : World) (v : Value) (l : List Fault) : Prop :=
  (v = .slice none 0 0 ∧ l = []) ∨ (∃ a cap, v = .slice (some a) 0 cap ∧ l = []) ∨
  ∃ b off cap, v = .slice (some ⟨b, off, none⟩) l.length cap ∧ 0 < l.length ∧ l.length ≤ cap ∧ ∀ j, j < l.length → W.cell? ⟨b, off + j * 2, none⟩ = some (.int .i64 (l.getD j (0, 0)).1) ∧ W.cell? ⟨b, off + j * 2 + 1, none⟩ = some (.int .i64 (l.getD j (0, 0)).2)

theorem fcs_length (l : List Fault) : (fcs l).length = l.length * 2 := by
  induction l with
  | nil => rfl
  | cons x r ih => simp only [fcs, List.flatMap_cons, List.length_append, List.length_cons, List.length_nil] at ih ⊢; omega
theorem fcs_even (l : List Fault) (j : Nat) (h : j < l.length) : (fcs l)[j * 2]? = some (.int .i64 (l.getD j (0, 0)).1) := by
  induction l generalizing j with
  | nil => simp at h
  | cons x r ih =>
    cases j with
    | zero => simp [fcs]
    | succ j =>
      have := ih j (by simpa using h)
      simp only [fcs, List.flatMap_cons] at this ⊢
      rw [show (j + 1) * 2 = j * 2 + 2 by omega]
      simpa using this
theorem fcs_odd (l : List Fault) (j : Nat) (h : j < l.length) : (fcs l)[j * 2 + 1]? = some (.int .i64 (l.getD j (0, 0)).2) := by
  induction l generalizing j with
  | nil => simp at h
  | cons x r ih =>
    cases j with
    | zero => simp [fcs]
    | succ j =>
      have := ih j (by simpa using h)
      simp only [fcs, List.flatMap_cons] at this ⊢
      rw [show (j + 1) * 2 + 1 = j * 2 + 1 + 2 by omega]
      simpa using this
theorem fcs_one (l : List Fault) : ∀ u ∈ fcs l, u.oneCell' = true := by
  intro u hu
  simp only [fcs, List.mem_flatMap, List.mem_cons, List.not_mem_nil, or_false] at hu
  obtain ⟨x, _, rfl | rfl⟩ := hu <;> rfl
theorem Flts.lift {W W' : World} {v : Value} {l : List Fault} (h : Flts W v l) (hB : ∀ k, v.ownBlock = some k → k < W.heap.size → W'.heap[k]? = W.heap[k]?) : Flts W' v l := by
  rcases h with h | h | ⟨b, off, cap, rfl, h0, hcap, hc⟩
  · exact .inl h
  · exact .inr (.inl h)
  · refine .inr (.inr ⟨b, off, cap, rfl, h0, hcap, fun j hj => ?_⟩)
    have h1 := World.block_lt_of_cell? W _ (hc j hj).1
    have h2 := hB b rfl h1
    exact ⟨(World.cell?_of_block (w := W) h2).trans (hc j hj).1, (World.cell?_of_block (w := W) h2).trans (hc j hj).2⟩
theorem Flts.below {W W' : World} {v : Value} {l : List Fault} (h : Flts W v l) (hB : Below W.heap.size W W') : Flts W' v l :=
  h.lift fun k _ hk => hB.block k hk
theorem Flts.of_owns {W : World} {base : Nat} {v : Value} {l : List Fault} (h : W.ownsRow base 190 2 v l.length (fcs l)) : Flts W v l := by
  rcases h.2 with ⟨rfl, h0⟩ | ⟨g, cap, cur, rfl, _, _, hcap, _⟩
  · exact .inl ⟨rfl, by simpa using h0⟩
  · by_cases hl : l.length = 0
    · exact .inr (.inl ⟨_, _, by rw [hl], List.length_eq_zero_iff.1 hl⟩)
    · refine .inr (.inr ⟨g, 0, cap, rfl, by omega, hcap, fun j hj => ?_⟩)
      rw [Nat.zero_add, h.cellAt (j * 2) (by omega), h.cellAt (j * 2 + 1) (by omega), fcs_even l j hj, fcs_odd l j hj]
      exact ⟨rfl, rfl⟩
theorem flts_form {W : World} {v : Value} {l : List Fault} (h : Flts W v l) : ∃ a1 c1, v = .slice a1 l.length c1 ∧ (0 < l.length → ∃ b off, a1 = some ⟨b, off, none⟩ ∧ ∀ j, j < l.length → W.cell? ⟨b, off + j * 2, none⟩ = some (.int .i64 (l.getD j (0, 0)).1) ∧ W.cell? ⟨b, off + j * 2 + 1, none⟩ = some (.int .i64 (l.getD j (0, 0)).2)) := by
  rcases h with ⟨rfl, rfl⟩ | ⟨a, cap, rfl, rfl⟩ | ⟨b, off, cap, rfl, h0, -, hc⟩
  · exact ⟨_, _, rfl, fun h => absurd h (by decide)⟩
  · exact ⟨_, _, rfl, fun h => absurd h (by decide)⟩
  · exact ⟨_, _, rfl, fun _ => ⟨b, off, rfl, hc⟩⟩
theorem flts_news {W : World} {b off : Nat} {l : List Fault} (hc : ∀ j, j < l.length → W.cell? ⟨b, off + j * 2, none⟩ = some (.int .i64 (l.getD j (0, 0)).1) ∧ W.cell? ⟨b, off + j * 2 + 1, none⟩ = some (.int .i64 (l.getD j (0, 0)).2)) :
    ∀ j u, (fcs l)[j]? = some u → W.cell? ((⟨b, off, none⟩ : Addr).add j) = some u := by
  intro j u hj
  have hjl : j < l.length * 2 := by have := (List.getElem?_eq_some_iff.1 hj).1; rwa [fcs_length] at this
  have hadd : (⟨b, off, none⟩ : Addr).add j = ⟨b, off + j, none⟩ := by unfold Addr.add; split <;> simp_all
  rw [hadd, ← hj]
  have hk : j / 2 < l.length := by omega
  rcases Nat.mod_two_eq_zero_or_one j with hm | hm
  · rw [show j = j / 2 * 2 by omega, fcs_even l _ hk, (hc _ hk).1]
  · rw [show j = j / 2 * 2 + 1 by omega, fcs_odd l _ hk, ← Nat.add_assoc, (hc _ hk).2]

theorem Tryz.infoF : (Tryz.prog.info? 190).map (fun i => (i.zero, i.size, i.bytes)) = some (some (.agg #[.int .i64 0, .int .i64 0]), 2, 16) := by kernel_rfl

set_option maxHeartbeats 1000000 in
theorem copyf_any (v : Value) (l : List Fault) (w : World) (h : Flts w v l) (hs : l.length * 16 ≤ 140737488351232) :
    Calls Tryz.prog 52 #[v] w fun e w' => ∃ v', e = .returned v' ∧ w'.ownsRow w.heap.size 190 2 v' l.length (fcs l) ∧ Below w.heap.size w w' := by
  obtain ⟨i0, hi, hz0, hz1, hz2⟩ := info_parts Tryz.infoF
  rcases h with ⟨rfl, rfl⟩ | ⟨a, cap, rfl, rfl⟩ | ⟨b, off, cap, rfl, h0, -, hc⟩
  · go_enter Tryz.func52, Tryz.ntmps52
    go_wp2_with (at_builtin; refine wpList_append_own_none rfl _ _ 24 rfl w.heap.size 190 i0 2 Tryz.underlying24 hi _ _ _ rfl (World.ownsRow_nil _ _ _ _) rfl ?_)
    go_ret
    exact ⟨_, rfl, World.ownsRow_nil _ _ _ _, Below.refl _ _⟩
  · go_enter Tryz.func52, Tryz.ntmps52
    go_wp2_with (at_builtin; refine wpList_append_own _ rfl _ _ 24 rfl w.heap.size 190 i0 (.agg #[.int .i64 0, .int .i64 0]) 2 16 Tryz.underlying24 hi hz0 hz1 hz2 rfl (by decide) _ _ _ rfl (World.ownsRow_nil _ _ _ _) a 0 cap [] rfl rfl (by simp) (by simp) (by decide) (by decide) (Nat.le_refl _) ?_; intro v' w1 hown hgrow hnil)
    go_ret
    exact ⟨v', rfl, hown, (Below.refl _ _).grown hgrow (Nat.le_refl _) (fun j e => by cases e)⟩
  · go_enter Tryz.func52, Tryz.ntmps52
    go_wp2_with (at_builtin; refine wpList_append_own _ rfl _ _ 24 rfl w.heap.size 190 i0 (.agg #[.int .i64 0, .int .i64 0]) 2 16 Tryz.underlying24 hi hz0 hz1 hz2 rfl (by decide) _ _ _ rfl (World.ownsRow_nil _ _ _ _) ⟨b, off, none⟩ l.length cap (fcs l) rfl (fcs_length l) (flts_news hc) (fcs_one l) (by unfold maxLen; omega) (by omega) (Nat.le_refl _) ?_; intro v' w1 hown hgrow hnil)
    go_ret
    exact ⟨v', rfl, by simpa using hown, (Below.refl _ _).grown hgrow (Nat.le_refl _) (fun j e => by cases e)⟩

set_option maxRecDepth 100000 in
set_option maxHeartbeats 1000000 in
theorem clone_any (v : Value) (l : List Fault) (w : World) (h : Flts w v l) (hs : l.length * 16 ≤ 140737488351232) :
    Calls Tryz.prog 158 #[v] w fun e w' => ∃ v', e = .returned v' ∧ w'.ownsRow w.heap.size 190 2 v' l.length (fcs l) ∧ Below w.heap.size w w' := by
  obtain ⟨i0, hi, hz0, hz1, hz2⟩ := info_parts Tryz.infoF
  rcases h with ⟨rfl, rfl⟩ | ⟨a, cap, rfl, rfl⟩ | ⟨b, off, cap, rfl, h0, -, hc⟩
  · have hnil : ∀ W, (binOp .eql 24 (.slice none 0 0) (.slice none 0 0)).run Tryz.prog W = .ok (.bool true) W := fun W => Lib.run_eql_slice_nil_nil W _ _ Tryz.underlying24
    go_enter Tryz.func158, Tryz.ntmps158
    go_wp2
    go_ret
    exact ⟨_, rfl, World.ownsRow_nil _ _ _ _, Below.refl _ _⟩
  · have hnil : ∀ W, (binOp .eql 24 (.slice (some a) 0 cap) (.slice none 0 0)).run Tryz.prog W = .ok (.bool false) W := fun W => Lib.run_eql_slice_some_nil W _ _ _ Tryz.underlying24
    go_enter Tryz.func158, Tryz.ntmps158
    go_wp2_with (at_builtin; refine wpList_append_own _ rfl _ _ 24 rfl w.heap.size 190 i0 (.agg #[.int .i64 0, .int .i64 0]) 2 16 Tryz.underlying24 hi hz0 hz1 hz2 rfl (by decide) _ _ _ rfl (World.ownsRow_made _ _ _ (Nat.le_refl _) (by decide) rfl) a 0 cap [] rfl rfl (by simp) (by simp) (by decide) (by decide) (by simp) ?_; intro v' w1 hown hgrow hnil)
    go_ret
    exact ⟨v', rfl, hown, ((Below.refl _ _).alloc (Nat.le_refl _) _).grown hgrow (by simp) (fun j e => by cases e; exact Nat.le_refl _)⟩
  · have hnil : ∀ W, (binOp .eql 24 (.slice (some ⟨b, off, none⟩) l.length cap) (.slice none 0 0)).run Tryz.prog W = .ok (.bool false) W := fun W => Lib.run_eql_slice_some_nil W _ _ _ Tryz.underlying24
    have hc' := flts_news hc
    have hc2 : ∀ (o : Obj) j u, (fcs l)[j]? = some u → (w.alloc o).cell? ((⟨b, off, none⟩ : Addr).add j) = some u := fun o j u hj => by
      have := hc' j u hj
      exact (World.cell?_of_block (w := w) (Below.heap_alloc w o _ (World.block_lt_of_cell? w _ this))).trans this
    have H2 := hide hc2
    clear hc hc' hc2
    go_enter Tryz.func158, Tryz.ntmps158
    go_wp2_with (at_builtin; refine wpList_append_own _ rfl _ _ 24 rfl w.heap.size 190 i0 (.agg #[.int .i64 0, .int .i64 0]) 2 16 Tryz.underlying24 hi hz0 hz1 hz2 rfl (by decide) _ _ _ rfl (World.ownsRow_made _ _ _ (Nat.le_refl _) (by decide) rfl) ⟨b, off, none⟩ l.length cap (fcs l) rfl (fcs_length l) (H2.out _) (fcs_one l) (by unfold maxLen; omega) (by omega) (by simp) ?_; intro v' w1 hown hgrow hnil)
    go_ret
    exact ⟨v', rfl, by simpa using hown, ((Below.refl _ _).alloc (Nat.le_refl _) _).grown hgrow (by simp) (fun j e => by cases e; exact Nat.le_refl _)⟩
end Go.Proofs.YtejcfhjhjplcnaaGreat

/- SameFaults and the reference's Check, for any faults. -/
namespace Go.Proofs.YtejcfhjhjplcnaaGreat
open Go.RowKit

theorem neq_same (a b : Int) (W : World) : (binOp .neq 190 (.agg #[.int .i64 a, .int .i64 b]) (.agg #[.int .i64 a, .int .i64 b])).run Tryz.prog W = .ok (.bool false) W := by
  have u3 := Tryz.underlying3
  have a3 := Tryz.isAgg3
  have z3 := Tryz.sizeOf3
  have hS : Tryz.prog.underlying 190 = some (.struct (Tryz.prog.fieldsOf 190)) := by kernel_rfl
  have hp : Tryz.prog.stoodInHeld 190 = false := by kernel_rfl
  rw [run_neq_struct, show (10000 : Nat) = 9999 + 1 from rfl, run_equalIn_agg W _ 190 _ _ hS hp]
  simp only [Program.fieldsOf, Tryz.underlying190]
  go_simp

theorem guard_fault (op : BinOp) (x y : Operand) (xs ys : Array Value) (w : World) : (eqGuard op 190 x y (.agg xs) (.agg ys)).run Tryz.prog w = .ok () w :=
  run_eqGuard_agg w op 190 x y xs ys (by kernel_rfl)

set_option maxRecDepth 100000 in
set_option maxHeartbeats 1000000 in
theorem samef_any (v1 v2 : Value) (l : List Fault) (w : World) (h1 : Flts w v1 l) (h2 : Flts w v2 l) (hs : l.length ≤ maxLen) :
    Calls Tryz.prog 77 #[v1, v2] w fun e w' => e = .returned (.bool true) ∧ Below w.heap.size w w' := by
  unfold maxLen at hs
  obtain ⟨a1, c1, rfl, hc1⟩ := flts_form h1
  obtain ⟨a2, c2, rfl, hc2⟩ := flts_form h2
  have HC1 := hide hc1
  have HC2 := hide hc2
  clear hc1 hc2 h1 h2
  go_enter Tryz.func77, Tryz.ntmps77
  go_wp2
  go_loopw [5] (fun i wr => ∃ (k : Nat), k ≤ l.length ∧ i = .int .i64 k ∧ ∃ q, wr = w.drewN q) (fun i _ => l.length - (intOf i).toNat)
  case atStart => exact ⟨0, Nat.zero_le _, rfl, 0, rfl⟩
  case round =>
    obtain ⟨k, hk, rfl, q, rfl⟩ := hrel
    by_cases hlt : k < l.length
    · obtain ⟨b1, o1, rfl, hc1⟩ := HC1.out (by omega)
      obtain ⟨b2, o2, rfl, hc2⟩ := HC2.out (by omega)
      obtain ⟨g1, g1'⟩ := hc1 k hlt
      obtain ⟨g2, g2'⟩ := hc2 k hlt
      clear hc1 hc2 HC1 HC2
      have hk1 : (0 : Int) ≤ (k : Int) := by omega
      have hk2 : (k : Int) < (l.length : Int) := by omega
      generalize (l.getD k (0, 0)).1 = x at g1 g2
      generalize (l.getD k (0, 0)).2 = y at g1' g2'
      have hq := neq_same x y
      have hg := guard_fault .neq
      go_wp2
      go_quiet (fail)
      go_wp2
      go_roundw
      case rel => exact ⟨k + 1, by omega, by go_num, _, rfl⟩
      case measure => simp [intOf]; omega
    · go_wp2
      go_ret
      exact ⟨rfl, below_drewN (Below.refl _ _) _⟩
end Go.Proofs.YtejcfhjhjplcnaaGreat

/- Check and the reference's Check, for any faults. -/
namespace Go.Proofs.YtejcfhjhjplcnaaGreat
open Go.RowKit

def fb (l : List Fault) : Nat := l.findIdx fun x => !may x
theorem fb_le (l : List Fault) : fb l ≤ l.length := List.findIdx_le_length
theorem fb_at {l : List Fault} {k : Nat} (hk : k < l.length) (ha : ∀ j, j < k → may (l.getD j (0, 0)) = true) (hb : may (l.getD k (0, 0)) = false) : fb l = k := by
  unfold fb
  refine (List.findIdx_eq hk).2 ⟨?_, fun j hj => ?_⟩
  · rw [List.getD_eq_getElem?_getD, List.getElem?_eq_getElem hk] at hb
    simpa using hb
  · have := ha j hj
    rw [List.getD_eq_getElem?_getD, List.getElem?_eq_getElem (by omega)] at this
    simpa using this
theorem fb_all {l : List Fault} (ha : ∀ j, j < l.length → may (l.getD j (0, 0)) = true) : fb l = l.length := by
  unfold fb
  refine List.findIdx_eq_length.2 fun x hx => ?_
  obtain ⟨j, hj, rfl⟩ := List.getElem_of_mem hx
  have := ha j hj
  rw [List.getD_eq_getElem?_getD, List.getElem?_eq_getElem hj] at this
  simpa using this
theorem fb_good {l : List Fault} (h : fb l = l.length) : ∀ j, j < l.length → may (l.getD j (0, 0)) = true := by
  intro j hj
  have := List.findIdx_eq_length.1 h l[j] (List.getElem_mem hj)
  rw [List.getD_eq_getElem?_getD, List.getElem?_eq_getElem hj]
  simpa using this
def chk (l : List Fault) : Int × Int := if 4096 < l.length then (3, 0) else if fb l < l.length then (21, (fb l : Int)) else (0, (l.length : Int))
theorem chk_long {l : List Fault} (h : 4096 < l.length) : chk l = (3, 0) := by simp [chk, h]
theorem chk_bad {l : List Fault} (h : ¬ 4096 < l.length) (hb : fb l < l.length) : chk l = (21, (fb l : Int)) := by simp [chk, h, hb]
theorem chk_good {l : List Fault} (h : ¬ 4096 < l.length) (hb : fb l = l.length) : chk l = (0, (l.length : Int)) := by simp [chk, h, hb]

set_option maxRecDepth 100000 in
set_option maxHeartbeats 1000000 in
theorem rcheck_any (v : Value) (l : List Fault) (w : World) (h : Flts w v l) (hs : l.length ≤ maxLen) :
    Calls Tryz.prog 59 #[v] w fun e w' => e = .returned (.tuple #[.int .i64 (chk l).1, .int .i64 (chk l).2]) ∧ Below w.heap.size w w' := by
  unfold maxLen at hs
  obtain ⟨a1, c1, rfl, hc⟩ := flts_form h
  have HC := hide hc
  clear hc h
  by_cases hlong : 4096 < l.length
  · rw [chk_long hlong]
    go_enter Tryz.func59, Tryz.ntmps59
    go_wp2
    go_ret2
    exact ⟨rfl, Below.refl _ _⟩
  · generalize hR : chk l = R
    have HR := hide hR
    clear hR
    go_enter Tryz.func59, Tryz.ntmps59
    go_wp2
    go_loopw [4] (fun i wr => ∃ (k : Nat), k ≤ l.length ∧ i = .int .i64 k ∧ (∀ j, j < k → may (l.getD j (0, 0)) = true) ∧ Below w.heap.size w wr) (fun i _ => l.length - (intOf i).toNat)
    case atStart => exact ⟨0, Nat.zero_le _, rfl, fun j hj => absurd hj (by omega), Below.refl _ _⟩
    case round =>
      obtain ⟨k, hk, rfl, ha, hB⟩ := hrel
      have HA := hide ha
      clear ha
      by_cases hlt : k < l.length
      · obtain ⟨b1, o1, rfl, hc1⟩ := HC.out (by omega)
        obtain ⟨g1, g2⟩ := hc1 k hlt
        have hb1 := World.block_lt_of_cell? w _ g1
        have e1 := (hB.cell (p := ⟨b1, o1 + k * 2, none⟩) hb1).trans g1
        have e2 := (hB.cell (p := ⟨b1, o1 + k * 2 + 1, none⟩) hb1).trans g2
        clear hc1 HC g1 g2
        have hk1 : (0 : Int) ≤ (k : Int) := by omega
        have hk2 : (k : Int) < (l.length : Int) := by omega
        have hmay : ∃ x y, l.getD k (0, 0) = (x, y) := ⟨_, _, rfl⟩
        obtain ⟨x, y, hxy⟩ := hmay
        rw [hxy] at e1 e2
        simp only at e1 e2
        have HX := hide hxy
        clear hxy
        go_wp2_with fail
        refine (may_any x y _).mono ?_
        rintro e w1 ⟨rfl, hB1⟩
        have hB2 := hB.trans (hB1.mono hB.size)
        by_cases hm : may (x, y) = true
        · rw [hm]
          go_wp2
          go_roundw
          case rel =>
            refine ⟨k + 1, by omega, by go_num, fun j hj => ?_, hB2⟩
            by_cases hjk : j < k
            · exact HA.out j hjk
            · rw [show j = k by omega, HX.out]; exact hm
          case measure => simp [intOf]; omega
        · have hm' : may (x, y) = false := by simpa using hm
          rw [hm']
          clear hm
          go_wp2
          go_ret2
          have hfb : fb l = k := fb_at hlt HA.out (by rw [HX.out]; exact hm')
          rw [← HR.out, chk_bad hlong (by omega), hfb]
          exact ⟨rfl, hB2⟩
      · go_wp2
        go_ret2
        have hfb : fb l = l.length := fb_all fun j hj => HA.out j (by omega)
        rw [← HR.out, chk_good hlong hfb]
        exact ⟨rfl, hB⟩
end Go.Proofs.YtejcfhjhjplcnaaGreat

/- Check of faults: the closure, first, Check. -/
namespace Go.Proofs.YtejcfhjhjplcnaaGreat
open Go.RowKit

theorem cell_new (w : World) (x : Value) (t : TypeId) : (w.alloc (Obj.cells #[x] t)).cell? ⟨w.heap.size, 0, none⟩ = some x := by
  simp only [World.cell?, heap_alloc_new]
  rfl
set_option maxRecDepth 100000 in
set_option maxHeartbeats 1000000 in
theorem check1_any (c b off cap len k : Nat) (x y : Int) (w : World) (h1 : w.cell? ⟨c, 0, none⟩ = some (.slice (some ⟨b, off, none⟩) len cap)) (hk : k < len)
    (h2 : w.cell? ⟨b, off + k * 2, none⟩ = some (.int .i64 x)) (h3 : w.cell? ⟨b, off + k * 2 + 1, none⟩ = some (.int .i64 y)) :
    Calls Tryz.prog 162 #[.int .i64 k, .pointer (some ⟨c, 0, none⟩)] w fun e w' => e = .returned (.bool (!may (x, y))) ∧ Below w.heap.size w w' := by
  have hk1 : (0 : Int) ≤ (k : Int) := by omega
  have hk2 : (k : Int) < (len : Int) := by omega
  go_enter Tryz.func162, Tryz.ntmps162
  go_wp2_with fail
  refine (mayBe_any x y _).mono ?_
  rintro e w1 ⟨rfl, hB1⟩
  go_wp2
  go_ret
  exact ⟨rfl, hB1⟩

set_option maxRecDepth 100000 in
set_option maxHeartbeats 1000000 in
theorem first_check (c : Nat) (a1 : Option Addr) (c1 : Nat) (l : List Fault) (w : World) (hs : l.length ≤ 9223372036854775807) (h1 : w.cell? ⟨c, 0, none⟩ = some (.slice a1 l.length c1))
    (HC : Hid (0 < l.length → ∃ b off, a1 = some ⟨b, off, none⟩ ∧ ∀ j, j < l.length → w.cell? ⟨b, off + j * 2, none⟩ = some (.int .i64 (l.getD j (0, 0)).1) ∧ w.cell? ⟨b, off + j * 2 + 1, none⟩ = some (.int .i64 (l.getD j (0, 0)).2))) :
    Calls Tryz.prog 161 #[.int .i64 l.length, .func (.func 162) #[] #[.pointer (some ⟨c, 0, none⟩)]] w fun e w' => e = .returned (.int .i64 (fb l)) ∧ Below w.heap.size w w' := by
  have hcw := World.block_lt_of_cell? w _ h1
  generalize hR : fb l = R
  have HR := hide hR
  clear hR
  go_enter Tryz.func161, Tryz.ntmps161
  go_wp2
  go_loopw [5, 7] (fun u5 i wr => ∃ (k : Nat), k ≤ l.length ∧ i = .int .i64 k ∧ (∀ j, j < k → may (l.getD j (0, 0)) = true) ∧ Below w.heap.size w wr) (fun _ i _ => l.length - (intOf i).toNat)
  case atStart => exact ⟨0, Nat.zero_le _, rfl, fun j hj => absurd hj (by omega), Below.refl _ _⟩
  case round =>
    obtain ⟨k, hk, rfl, ha, hB⟩ := hrel
    have HA := hide ha
    clear ha
    by_cases hlt : k < l.length
    · obtain ⟨b1, o1, rfl, hc1⟩ := HC.out (by omega)
      obtain ⟨g1, g2⟩ := hc1 k hlt
      have hb1 := World.block_lt_of_cell? w _ g1
      have e1 := (hB.cell (p := ⟨b1, o1 + k * 2, none⟩) hb1).trans g1
      have e2 := (hB.cell (p := ⟨b1, o1 + k * 2 + 1, none⟩) hb1).trans g2
      have e0 := (hB.cell (p := ⟨c, 0, none⟩) hcw).trans h1
      clear hc1 HC g1 g2 h1
      obtain ⟨x, y, hxy⟩ : ∃ x y, l.getD k (0, 0) = (x, y) := ⟨_, _, rfl⟩
      rw [hxy] at e1 e2
      simp only at e1 e2
      have HX := hide hxy
      clear hxy
      have hcl := check1_any c b1 o1 c1 l.length k x y _ e0 hlt e1 e2
      have HL := hide hcl
      clear hcl e0 e1 e2
      go_wp2_with fail
      refine HL.out.mono ?_
      rintro e w1 ⟨rfl, hB1⟩
      have hB2 := hB.trans (hB1.mono hB.size)
      by_cases hm : may (x, y) = true
      · rw [hm]
        go_wp2
        go_roundw
        case rel =>
          refine ⟨k + 1, by omega, by go_num, fun j hj => ?_, hB2⟩
          by_cases hjk : j < k
          · exact HA.out j hjk
          · rw [show j = k by omega, HX.out]; exact hm
        case measure => simp [intOf]; omega
      · have hm' : may (x, y) = false := by simpa using hm
        rw [hm']
        clear hm
        go_wp2
        go_ret
        have hfb : fb l = k := fb_at hlt HA.out (by rw [HX.out]; exact hm')
        rw [← HR.out, hfb]
        exact ⟨rfl, hB2⟩
    · go_wp2
      go_ret
      have hfb : fb l = l.length := fb_all fun j hj => HA.out j (by omega)
      rw [← HR.out, hfb]
      exact ⟨rfl, hB⟩

set_option maxRecDepth 100000 in
set_option maxHeartbeats 1000000 in
theorem Fa_check_any (v : Value) (l : List Fault) (w : World) (h : Flts w v l) (hs : l.length ≤ maxLen) :
    Calls Tryz.prog 62 #[v] w fun e w' => e = .returned (.tuple #[.int .i64 (chk l).1, .int .i64 (chk l).2]) ∧ Below w.heap.size w w' := by
  unfold maxLen at hs
  by_cases hlong : 4096 < l.length
  · obtain ⟨a1, c1, rfl, hc⟩ := flts_form h
    rw [chk_long hlong]
    clear hc h
    go_enter Tryz.func62, Tryz.ntmps62
    go_wp2
    go_ret2
    exact ⟨rfl, (Below.refl _ _).alloc (Nat.le_refl _) _⟩
  · obtain ⟨a1, c1, rfl, -⟩ := flts_form h
    have hc2 : ∀ o, Flts (w.alloc o) (.slice a1 l.length c1) l := fun o => h.below ((Below.refl _ _).alloc (Nat.le_refl _) _)
    have HC := hide hc2
    clear hc2 h
    have hle := fb_le l
    generalize hR : chk l = R
    have HR := hide hR
    clear hR
    go_enter Tryz.func62, Tryz.ntmps62
    go_wp2_with fail
    obtain ⟨a2, c2, heq, hf⟩ := flts_form (HC.out (Obj.cells #[Value.slice a1 l.length c1] 24))
    cases heq
    refine (first_check w.heap.size _ _ l _ (by omega) (cell_new _ _ _) (hide hf)).mono ?_
    clear hf HC
    rintro e w1 ⟨rfl, hB1⟩
    have hB2 := ((Below.refl w.heap.size w).alloc (Nat.le_refl _) (Obj.cells #[Value.slice a1 l.length c1] 24)).trans (hB1.mono (Nat.le_of_lt (size_new _ _)))
    have e0 : w1.cell? ⟨w.heap.size, 0, none⟩ = some (.slice a1 l.length c1) := (hB1.cell (p := ⟨w.heap.size, 0, none⟩) (size_new _ _)).trans (cell_new _ _ _)
    by_cases hb : fb l < l.length
    · go_wp2
      go_ret2
      rw [← HR.out, chk_bad hlong hb]
      exact ⟨rfl, hB2⟩
    · have hb' : fb l = l.length := by omega
      rw [hb']
      go_wp2
      go_quiet (fail)
      go_wp2
      go_ret2
      rw [← HR.out, chk_good hlong hb']
      exact ⟨rfl, below_drewN hB2 _⟩
end Go.Proofs.YtejcfhjhjplcnaaGreat

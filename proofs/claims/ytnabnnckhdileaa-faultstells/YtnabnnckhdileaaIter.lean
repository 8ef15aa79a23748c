/- What num.digits hands out, for every loop body: a number's digits, the highest first. -/
import Derived.Test.YtnabnnckhdileaaDig
import Derived.RangeFuncNested
import Derived.RangeFuncBound
import Derived.RangeFuncCalls
import Derived.RangeFuncLeaves
import Derived.RangeFuncBox
import Derived.Shelf.Abstract
import Derived.Shelf.RegionOpen
import Derived.OwnWalkIn
import Derived.TacticsInMore
import Derived.LoopNIn
import Derived.LoopIn
import Derived.Maps.AppendAt
import Derived.Sort.BigQuietIn
namespace Go.Proofs.Ytnabnnckhdileaa
open Go.RowKit Go.Shelf

attribute [local go_sem] Oper.semAt_some

theorem le_of_div {b U n : Nat} (hU : 0 < U) (h : (b : Int) ≤ (n : Int) / (U : Int)) : b * U ≤ n := by
  have h1 : (b : Int) * (U : Int) ≤ n := by rwa [Int.le_ediv_iff_mul_le (by omega)] at h
  have : ((b * U : Nat) : Int) ≤ n := by rw [Int.natCast_mul]; exact h1
  omega
theorem lt_of_div {b U n : Nat} (hU : 0 < U) (h : (n : Int) / (U : Int) < (b : Int)) : n < b * U := by
  have h1 : (n : Int) < (b : Int) * (U : Int) := by rwa [Int.ediv_lt_iff_lt_mul (by omega)] at h
  have : (n : Int) < ((b * U : Nat) : Int) := by rw [Int.natCast_mul]; exact h1
  omega

theorem pow_div (b i : Nat) (hb : 2 ≤ b) : b ^ i / b = if i = 0 then 0 else b ^ (i - 1) := by
  cases i with
  | zero => simp; omega
  | succ k => simp [Nat.pow_succ]; exact Nat.mul_div_cancel _ (by omega)

set_option maxRecDepth 100000 in
set_option maxHeartbeats 1000000 in
theorem digits1_in (f : Nat) (hn : 1 ≤ f) (l Bn Bb : Nat) (n b : Nat) (hb : 2 ≤ b) (hb2 : b ≤ 16) (hlt : n < 18446744073709551616) (J Jx : List (Fin 16) → World → Prop)
    (hJd : ∀ pre W q, J pre W → J pre (World.drewN W q))
    (hY : ∀ pre x W, J pre W → pre.length < top b n + 1 → YieldAt Fence.wide (f - 1) Try.prog l #[.int .u64 ((x : Fin 16).val : Int)] W fun e W' =>
      (e = .returned (.bool true) ∧ J (pre ++ [x]) W' ∧ W'.cell? ⟨Bb, 0, none⟩ = W.cell? ⟨Bb, 0, none⟩) ∨ (e = .returned (.bool false) ∧ Jx (pre ++ [x]) W'))
    (W : World) (hcn : W.cell? ⟨Bn, 0, none⟩ = some (.int .u64 (n : Int))) (hcb : W.cell? ⟨Bb, 0, none⟩ = some (.int .u64 (b : Int))) (h0 : J [] W) :
    CallsIn Fence.wide f Try.prog 63 #[.func (.yield l) #[] #[], .pointer (some ⟨Bn, 0, none⟩), .pointer (some ⟨Bb, 0, none⟩)] W fun e W' => (∃ v, e = .returned v) ∧
      ((∃ ys, ys = dl b n (top b n) ∧ J ys W') ∨ (∃ pre, pre <+: dl b n (top b n) ∧ Jx pre W')) := by
  refine callsIn_of_wp Try.func63 rfl trivial ?_ rfl
  simp only [Try.ntmps63, List.size_toArray, List.length_cons, List.length_nil, Nat.reduceAdd, Nat.reduceSub, Array.replicate_succ, Array.replicate_zero, List.push_toArray, List.append_toArray, List.nil_append, List.cons_append]
  gi_wp2
  gi_loopw [4] (fun u wr => ∃ j : Nat, u = .int .u64 ((b ^ j : Nat) : Int) ∧ b ^ j < 18446744073709551616 ∧ (j = 0 ∨ b ^ j ≤ n) ∧ J [] wr ∧ wr.cell? ⟨Bn, 0, none⟩ = some (.int .u64 (n : Int)) ∧ wr.cell? ⟨Bb, 0, none⟩ = some (.int .u64 (b : Int)))
    (fun u _ => 18446744073709551616 - (intOf u).toNat)
  case atStart => exact ⟨0, by simp, by simp, .inl rfl, h0, hcn, hcb⟩
  case round =>
    clear hcn hcb
    obtain ⟨j, rfl, hj1, hj2, hJ0, hcn1, hcb1⟩ := hrel
    have hp : 0 < b ^ j := Nat.pow_pos (by omega)
    generalize hU : b ^ j = U at *
    have HU := hide hU
    clear hU
    have hU0 : ¬ U = 0 := by omega
    have hq1 : (0 : Int) ≤ (n : Int) / (U : Int) := Int.ediv_nonneg (by omega) (by omega)
    have hq2 : (n : Int) / (U : Int) ≤ n := Int.ediv_le_self _ (by omega)
    have hw : IntKind.u64.wrap ((n : Int) / (U : Int)) = (n : Int) / (U : Int) := IntWalk.u64_in _ ⟨by omega, by omega⟩
    by_cases ht : (b : Int) ≤ (n : Int) / (U : Int)
    · gi_wp2
      gi_big_quiet_th (fail)
      gi_wp2
      have hm : b * U ≤ n := le_of_div (by omega) ht
      go_roundw
      case rel =>
        refine ⟨j + 1, ?_, ?_, .inr ?_, hJd _ _ _ hJ0, hcn1, hcb1⟩
        · rw [IntWalk.u64_in _ ⟨Int.mul_nonneg (by omega) (by omega), ?_⟩, Nat.pow_succ, HU.out]
          · simp
          · have : ((b * U : Nat) : Int) ≤ n := by omega
            rw [Int.natCast_mul, Int.mul_comm] at this; omega
        · rw [Nat.pow_succ, HU.out, Nat.mul_comm]; omega
        · rw [Nat.pow_succ, HU.out, Nat.mul_comm]; exact hm
      case measure =>
        have e : IntKind.u64.wrap ((U : Int) * (b : Int)) = ((b * U : Nat) : Int) := by
          rw [IntWalk.u64_in _ ⟨Int.mul_nonneg (by omega) (by omega), ?_⟩, Int.natCast_mul, Int.mul_comm]
          have : ((b * U : Nat) : Int) ≤ n := by omega
          rw [Int.natCast_mul, Int.mul_comm] at this; omega
        rw [e]
        simp only [intOf, Int.toNat_natCast]
        have : 2 * U ≤ b * U := Nat.mul_le_mul_right U hb
        omega
    · gi_wp2
      gi_big_quiet_th (fail)
      gi_wp2
      have hm : n < b * U := lt_of_div (by omega) (by omega)
      have ht' : top b n = j := top_unique b n j hb hlt (by rw [Nat.pow_succ, HU.out, Nat.mul_comm]; exact hm) (by rw [HU.out]; exact hj2)
      have HT := hide ht'
      have HN : Hid (n % b ^ (j + 1) = n) := Nat.mod_eq_of_lt (by rw [Nat.pow_succ, HU.out, Nat.mul_comm]; exact hm)
      clear ht' hq1 hq2 hw ht hm hj1 hj2 hp hU0
      gi_loopw [4, 5] (fun u r wr => ∃ pre, J pre wr ∧ wr.cell? ⟨Bb, 0, none⟩ = some (.int .u64 (b : Int)) ∧ ((∃ i : Nat, u = .int .u64 ((b ^ i : Nat) : Int) ∧ i ≤ top b n ∧ r = .int .u64 ((n % b ^ (i + 1) : Nat) : Int) ∧ pre ++ dl b n i = dl b n (top b n)) ∨ (u = .int .u64 0 ∧ pre = dl b n (top b n))))
        (fun u _ _ => (intOf u).toNat)
      case atStart => exact ⟨[], hJd _ _ _ hJ0, hcb1, .inl ⟨j, by rw [HU.out], by rw [HT.out]; exact Nat.le_refl _, by rw [HN.out], by rw [HT.out]; rfl⟩⟩
      case round =>
        obtain ⟨pre, hJp, hcb2, hc⟩ := hrel
        clear hJ0 hcn1 hcb1 HU HT HN
        rcases hc with ⟨i, rfl, hi, rfl, hpre⟩ | ⟨rfl, hpre⟩
        · have HP := hide hpre
          have hlen : pre.length < top b n + 1 := by
            have := congrArg List.length hpre
            rw [List.length_append, dl_length, dl_length] at this
            omega
          have hp : 0 < b ^ i := Nat.pow_pos (by omega)
          have hle : b ^ i ≤ 18446744073709551615 := by
            obtain ⟨_, t2⟩ := top_spec b n hb hlt
            have := Nat.pow_le_pow_right (n := b) (by omega) hi
            rcases t2 with t2 | t2
            · rw [t2] at this; simp at this; omega
            · omega
          have hq0 : n % b ^ (i + 1) / b ^ i = (dg b n i).val := by rw [dg_val b n i hb hb2, mod_div]
          have hr0 := mod_mod_pow b n i
          have hrl : n % b ^ (i + 1) ≤ n := Nat.mod_le _ _
          have hd0 : (b ^ i / b = if i = 0 then 0 else b ^ (i - 1)) := pow_div b i hb
          obtain ⟨fn, tmps, assign, body, hy, hR⟩ := hY pre (dg b n i) _ hJp hlen
          have HQ : Hid (∃ x, x = dg b n i) := ⟨_, rfl⟩
          clear hpre
          generalize hU : b ^ i = U at *
          generalize hRr : n % b ^ (i + 1) = R at *
          generalize hX : dg b n i = X at *
          have hq : (R : Int) / (U : Int) = ((X : Fin 16).val : Int) := by omega
          have HA := hide hU
          have HB := hide hRr
          have HC := hide hX
          have HD := hide hr0
          have HE := hide hd0
          have hXb : ((X.val : Nat) : Int) ≤ 15 := by have := X.isLt; omega
          have hU0 : ¬ U = 0 := by omega
          clear hU hRr hX hr0 hd0 hq0 HQ hY
          gi_wp2
          refine hR.mono ?_
          rintro e W3 (⟨rfl, hJ3, hk3⟩ | ⟨rfl, hJx3⟩)
          · have hcb3 := hk3.trans hcb2
            have hb0 : ¬ b = 0 := by omega
            gi_wp2
            have hUb : IntKind.u64.wrap ((U : Int) / (b : Int)) = ((U / b : Nat) : Int) := by
              rw [← Int.natCast_ediv]
              have := Nat.div_le_self U b
              exact IntWalk.u64_in _ ⟨Int.natCast_nonneg _, by omega⟩
            go_roundw
            case rel =>
              refine ⟨pre ++ [X], hJ3, hcb3, ?_⟩
              rw [hUb, HE.out]
              cases i with
              | zero => exact .inr ⟨rfl, by rw [← HP.out, ← HC.out]; rfl⟩
              | succ k => exact .inl ⟨k, rfl, by omega, by rw [← Int.natCast_emod, HD.out, HA.out], by rw [← HP.out, ← HC.out, List.append_assoc]; rfl⟩
            case measure =>
              rw [hUb]
              simp only [intOf, Int.toNat_natCast]
              exact Nat.div_lt_self (by omega) (by omega)
          · gi_wp2
            refine bodyPost_ret (results_none rfl _ _ _) rfl ?_
            refine ⟨⟨_, rfl⟩, .inr ⟨pre ++ [X], ?_, hJx3⟩⟩
            rw [← HP.out, ← HC.out]
            cases i with
            | zero => exact List.prefix_refl _
            | succ k => exact ⟨dl b n k, by rw [List.append_assoc]; rfl⟩
        · gi_wp2
          go_end0
          exact ⟨⟨_, rfl⟩, .inl ⟨_, hpre, hJp⟩⟩

set_option maxHeartbeats 1000000 in
/-- num.digits: both parameters are boxed; the function value captures the boxes. -/
theorem digits_in (f : Nat) (n b : Int) (w : World) :
    CallsIn Fence.wide f Try.prog 55 #[.int .u64 n, .int .u64 b] w fun e w' => e = .returned (.func (.func 63) #[] #[.pointer (some ⟨w.heap.size, 0, none⟩), .pointer (some ⟨w.heap.size + 1, 0, none⟩)]) ∧ w' = (w.alloc (.cells #[.int .u64 n] 85)).alloc (.cells #[.int .u64 b] 85) := by
  refine callsIn_of_wp Try.func55 rfl trivial ?_ rfl
  simp only [Try.ntmps55, List.size_toArray, List.length_cons, List.length_nil, Nat.reduceAdd, Nat.reduceSub, Array.replicate_succ, Array.replicate_zero, List.push_toArray, List.append_toArray, List.nil_append, List.cons_append]
  gi_wp2
  go_ret
  exact ⟨rfl, rfl⟩

theorem grownBy_drewN (W : World) (q : Nat) : W.grownBy (W.drewN q) none := ⟨rfl, rfl, rfl, Nat.le_refl _, fun _ _ _ => rfl⟩

/-- What num.digits hands back gives a number's digits, in order. -/
theorem digits_stops (f : Nat) (hn : 1 ≤ f) (Bn Bb : Nat) (n b : Nat) (hb : 2 ≤ b) (hb2 : b ≤ 16) (hlt : n < 18446744073709551616) (w : World) (hBn : Bn < w.heap.size) (hBb : Bb < w.heap.size)
    (hcn : w.cell? ⟨Bn, 0, none⟩ = some (.int .u64 (n : Int))) (hcb : w.cell? ⟨Bb, 0, none⟩ = some (.int .u64 (b : Int))) :
    SeqStopsK Fence.wide f Try.prog 63 #[.pointer (some ⟨Bn, 0, none⟩), .pointer (some ⟨Bb, 0, none⟩)] (fun x : Fin 16 => #[Value.int .u64 (x.val : Int)]) (fun W W' => W'.cell? ⟨Bb, 0, none⟩ = W.cell? ⟨Bb, 0, none⟩) (fun ys => ys = dl b n (top b n)) (fun pre => pre <+: dl b n (top b n)) (top b n + 1) w := fun l J Jx W hW hJ _ hY h0 =>
  digits1_in f hn l Bn Bb n b hb hb2 hlt J Jx (fun pre W1 q h => hJ pre W1 _ none h (grownBy_drewN W1 q) (fun _ e => by cases e)) hY W ((hW.cell (p := ⟨Bn, 0, none⟩) hBn).trans hcn) ((hW.cell (p := ⟨Bb, 0, none⟩) hBb).trans hcb) h0
end Go.Proofs.Ytnabnnckhdileaa

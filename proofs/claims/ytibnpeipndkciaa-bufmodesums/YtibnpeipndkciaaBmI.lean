/- What bufmode.lengths hands out, for every loop body: how long the writes are, the first one first. -/
import Derived.Test.YtibnpeipndkciaaBmA
import Derived.RangeFuncNested
import Derived.RangeFuncBound
import Derived.RangeFuncCalls
import Derived.RangeFuncLeaves
import Derived.RangeFuncBox
import Derived.Shelf.Abstract
import Derived.Shelf.RegionOpen
import Derived.OwnWalkIn
import Derived.TacticsInMore
import Derived.LoopNIn
import Derived.LoopIn
import Derived.Maps.AppendAt
import Derived.Sort.BigQuietIn
namespace Go.Proofs.Ytibnpeipndkciaa
open Go.RowKit Go.Shelf

attribute [local go_sem] Oper.semAt_some

/-- What a body leaves alone: the boxes, and the text. -/
def LenKp (Bt Bm Bk : Nat) (tv : Value) (t : List UInt8) (W W' : World) : Prop := W'.cell? ⟨Bt, 0, none⟩ = W.cell? ⟨Bt, 0, none⟩ ∧ W'.cell? ⟨Bm, 0, none⟩ = W.cell? ⟨Bm, 0, none⟩ ∧ W'.cell? ⟨Bk, 0, none⟩ = W.cell? ⟨Bk, 0, none⟩ ∧ (Bys W tv t → Bys W' tv t)
theorem take_min_len (l : List UInt8) (m : Nat) : l.take (min m l.length) = l.take m := by
  by_cases h : m ≤ l.length
  · rw [Nat.min_eq_left h]
  · rw [Nat.min_eq_right (by omega), List.take_length, List.take_of_length_le (by omega)]

set_option maxRecDepth 100000 in
set_option maxHeartbeats 2000000 in
theorem len1_in (f : Nat) (hn : 1 ≤ f) (l Bt Bm Bk : Nat) (mode : Int) (m : Nat) (ta : Option Addr) (tc : Nat) (t : List UInt8) (hm1 : 1 ≤ m) (hm2 : m ≤ 65536) (htc : t.length ≤ tc) (htl : t.length ≤ 1048576) (J Jx : List Nat → World → Prop)
    (hY : ∀ (pre : List Nat) (x : Nat) (W : World), J pre W → pre.length < t.length + 1 → YieldAt Fence.wide (f - 1) Try.prog l #[.int .i64 (x : Int)] W fun e W' =>
      (e = .returned (.bool true) ∧ J (pre ++ [x]) W' ∧ LenKp Bt Bm Bk (.slice ta t.length tc) t W W') ∨ (e = .returned (.bool false) ∧ Jx (pre ++ [x]) W'))
    (W : World) (hct : W.cell? ⟨Bt, 0, none⟩ = some (.slice ta t.length tc)) (hcm : W.cell? ⟨Bm, 0, none⟩ = some (.int .i64 m)) (hck : W.cell? ⟨Bk, 0, none⟩ = some (.int .i64 mode)) (hb : Bys W (.slice ta t.length tc) t) (h0 : J [] W) :
    CallsIn Fence.wide f Try.prog 45 #[.func (.yield l) #[] #[], .pointer (some ⟨Bt, 0, none⟩), .pointer (some ⟨Bm, 0, none⟩), .pointer (some ⟨Bk, 0, none⟩)] W fun e W' => (∃ v, e = .returned v) ∧
      (J (rwr (decide (mode = 2)) m 0 t) W' ∨ (∃ pre, pre <+: rwr (decide (mode = 2)) m 0 t ∧ Jx pre W')) := by
  obtain ⟨b, off, hbo⟩ : ∃ b off, 0 < t.length → ta = some ⟨b, off, none⟩ := by
    by_cases h : 0 < t.length
    · obtain ⟨-, qb, qo, e, -⟩ := bys_block hb h
      exact ⟨qb, qo, fun _ => e⟩
    · exact ⟨0, 0, fun h' => absurd h' h⟩
  obtain ⟨R, hR⟩ : ∃ R, R = rwr (decide (mode = 2)) m 0 t := ⟨_, rfl⟩
  have hRl : R.length ≤ t.length := by rw [hR]; have := rwr_len_le (decide (mode = 2)) m t 0 (by omega); omega
  rw [← hR]
  have HR := hide hR
  have HBO := hide hbo
  have HB0 := hide hb
  clear hR hbo hb
  refine callsIn_of_wp Try.func45 rfl trivial ?_ rfl
  simp only [Try.ntmps45, List.size_toArray, List.length_cons, List.length_nil, Nat.reduceAdd, Nat.reduceSub, Array.replicate_succ, Array.replicate_zero, List.push_toArray, List.append_toArray, List.nil_append, List.cons_append]
  gi_wp2
  gi_loopw [5] (fun r wr => ∃ (d : Nat) (ra : Option Addr) (rc : Nat) (pre : List Nat), d ≤ t.length ∧ r = .slice ra (t.length - d) rc ∧ t.length - d ≤ rc ∧ Hid (d < t.length → ra = some ⟨b, off + d, none⟩) ∧ J pre wr ∧ Hid (pre ++ rwr (decide (mode = 2)) m 0 (t.drop d) = R) ∧ wr.cell? ⟨Bt, 0, none⟩ = some (.slice ta t.length tc) ∧ wr.cell? ⟨Bm, 0, none⟩ = some (.int .i64 m) ∧ wr.cell? ⟨Bk, 0, none⟩ = some (.int .i64 mode) ∧ Hid (Bys wr (.slice ta t.length tc) t)) (fun r _ => (match r with | .slice _ n _ => n | _ => 0))
  case atStart => exact ⟨0, ta, tc, [], Nat.zero_le _, by simp, by simpa using htc, hide (fun h => by rw [HBO.out h]; rfl), h0, hide (by rw [HR.out]; rfl), hct, hcm, hck, HB0⟩
  case round =>
    clear hct hcm hck h0 HB0
    obtain ⟨d, ra, rc, pre, hd, rfl, hrc, HA, hJ, HP, hct, hcm, hck, HB⟩ := hrel
    by_cases hlt : d < t.length
    case neg =>
      obtain rfl : d = t.length := by omega
      have e0 : t.length - t.length = 0 := by omega
      rw [e0]
      rw [e0] at hrc
      gi_wp2
      go_end0
      refine ⟨⟨_, rfl⟩, .inl ?_⟩
      have := HP.out
      rw [List.drop_length, rwr_nil, List.append_nil] at this
      rw [← this]
      exact hJ
    obtain rfl := HA.out hlt
    obtain ⟨L, hL⟩ : ∃ L, L = t.length - d := ⟨_, rfl⟩
    have hdl : (t.drop d).length = L := by rw [List.length_drop, hL]
    have hne : t.drop d ≠ [] := fun e => by rw [e] at hdl; simp at hdl; omega
    have hst := rwr_step (decide (mode = 2)) m (t.drop d) 0 (by omega) hne
    obtain ⟨k1, k2, k3⟩ := chk_pos (decide (mode = 2)) m (t.drop d) hm1 hne
    rw [Nat.sub_zero, Nat.zero_add, List.drop_drop] at hst
    have hlen : pre.length < t.length + 1 := by
      have h1 := congrArg List.length HP.out
      rw [List.length_append] at h1
      omega
    rw [hdl] at k3
    obtain ⟨m0, hm0⟩ : ∃ m0, m0 = min m L := ⟨_, rfl⟩
    have hmin : min (m : Int) (L : Int) = (m0 : Int) := by omega
    have hcut : ∀ j, j < ((t.drop d).take m0).length → wr.cell? ⟨b, off + d + j, none⟩ = some (.int .u8 ((((t.drop d).take m0).getD j 0).toNat : Int)) := by
      obtain ⟨-, qb, qo, e, -, hc⟩ := bys_block HB.out (by omega)
      cases (HBO.out (by omega)).symm.trans e
      intro j hj
      rw [List.length_take, hdl] at hj
      rw [Nat.add_assoc, hc (d + j) (by omega)]
      congr 3
      simp only [List.getD_eq_getElem?_getD, List.getElem?_take, List.getElem?_drop]
      rw [if_pos (by omega)]
    have htk : ((t.drop d).take m0).length = m0 := by rw [List.length_take, hdl]; omega
    have hck2 : mode = 2 → lnw ((t.drop d).take m0) = chk (decide (mode = 2)) m (t.drop d) := fun e => by
      unfold chk
      rw [if_pos (by simpa using e), hm0, ← hdl, take_min_len]
    have hck3 : ¬ mode = 2 → m0 = chk (decide (mode = 2)) m (t.drop d) := fun e => by
      unfold chk
      rw [if_neg (by simpa using e), hm0, hdl]
    have HCk2 := hide hck2
    have HCk3 := hide hck3
    have HLw := hide (fun W' (hc : ∀ j, j < ((t.drop d).take m0).length → W'.cell? ⟨b, off + d + j, none⟩ = some (.int .u8 ((((t.drop d).take m0).getD j 0).toNat : Int))) => bline_any b (off + d) rc ((t.drop d).take m0) W' hc (by omega))
    rw [htk] at HLw
    rw [htk] at hcut
    have HCu := hide hcut
    have HSt := hide hst
    have hL0 : 0 < L := by omega
    have hLr : L ≤ rc := by omega
    have hm0L : m0 ≤ L := by omega
    have hm01 : 1 ≤ m0 := by omega
    have hLm : L ≤ 1048576 := by omega
    rw [← hL]
    have HL := hide hL
    generalize hkk : chk (decide (mode = 2)) m (t.drop d) = k at *
    have HKk := hide hkk
    obtain ⟨fn, tmps, assign, body, hy, hYR⟩ := hY pre k wr hJ hlen
    clear hst hL hkk hcut hck2 hck3 hdl hne htk hm0 hY hd hrc hlt hRl
    have hgt : (0 : Int) < (L : Int) := by omega
    have hkp : (1 : Int) ≤ (k : Int) := by omega
    have hkr : (k : Int) ≤ (rc : Int) := by omega
    have hmr : (m0 : Int) ≤ (rc : Int) := by omega
    have HN : Hid (∀ W3, J (pre ++ [k]) W3 → LenKp Bt Bm Bk (.slice ta t.length tc) t wr W3 → ∀ ra' rc', (d + k < t.length → ra' = some ⟨b, off + d + k, none⟩) → L - k ≤ rc' →
        ∃ (d1 : Nat) (ra : Option Addr) (rc : Nat) (pre : List Nat), d1 ≤ t.length ∧ Value.slice ra' (L - k) rc' = .slice ra (t.length - d1) rc ∧ t.length - d1 ≤ rc ∧ Hid (d1 < t.length → ra = some ⟨b, off + d1, none⟩) ∧ J pre W3 ∧ Hid (pre ++ rwr (decide (mode = 2)) m 0 (t.drop d1) = R) ∧ W3.cell? ⟨Bt, 0, none⟩ = some (.slice ta t.length tc) ∧ W3.cell? ⟨Bm, 0, none⟩ = some (.int .i64 m) ∧ W3.cell? ⟨Bk, 0, none⟩ = some (.int .i64 mode) ∧ Hid (Bys W3 (.slice ta t.length tc) t)) := hide (by
      have hL := HL.out
      intro W3 hJ3 hK3 ra' rc' h1 h2
      refine ⟨d + k, ra', rc', pre ++ [k], by omega, by rw [show t.length - (d + k) = L - k by omega], by omega, hide (fun h => by rw [h1 h, Nat.add_assoc]), hJ3, hide ?_, hK3.1.trans hct, hK3.2.1.trans hcm, hK3.2.2.1.trans hck, hide (hK3.2.2.2 HB.out)⟩
      have := HP.out
      rw [HSt.out] at this
      rw [List.append_assoc]
      exact this)
    have HX : Hid (pre ++ [k] <+: R) := hide (by
      have := HP.out
      rw [HSt.out] at this
      exact ⟨_, by rw [List.append_assoc]; exact this⟩)
    have hdk : d + k < t.length ↔ k < L := by have := HL.out; omega
    have HDk := hide hdk
    clear hdk
    by_cases h2 : mode = 2
    · have hb2 : (mode == 2) = true := by simpa using h2
      have HLk := hide (HCk2.out h2)
      clear h2
      gi_wp2
      refine ⟨trivial, ?_⟩
      refine (callsIn_wide.2 (HLw.out _ HCu.out)).mono ?_
      rintro e w' ⟨rfl, rfl⟩
      rw [HLk.out]
      gi_wp2
      refine hYR.mono ?_
      rintro e W3 (⟨rfl, hJ3, hK3⟩ | ⟨rfl, hJx3⟩)
      · have HN3 := hide (HN.out W3 hJ3 hK3)
        clear hJ3 hK3 hYR hy
        by_cases hc : rc = k
        · gi_wp2
          go_roundw
          case rel => exact HN3.out _ _ (fun h => by have := HDk.out.1 h; omega) (by omega)
          case measure => show L - k < L; omega
        · gi_wp2
          go_roundw
          case rel => exact HN3.out _ _ (fun h => rfl) (by omega)
          case measure => show L - k < L; omega
      · gi_wp2
        refine bodyPost_ret (results_none rfl _ _ _) rfl ?_
        exact ⟨⟨_, rfl⟩, .inr ⟨pre ++ [k], HX.out, hJx3⟩⟩
    · have hb2 : (mode == 2) = false := by simpa using h2
      have hmk := HCk3.out h2
      subst hmk
      clear h2
      gi_wp2
      refine hYR.mono ?_
      rintro e W3 (⟨rfl, hJ3, hK3⟩ | ⟨rfl, hJx3⟩)
      · have HN3 := hide (HN.out W3 hJ3 hK3)
        clear hJ3 hK3 hYR hy
        by_cases hc : rc = m0
        · gi_wp2
          go_roundw
          case rel => exact HN3.out _ _ (fun h => by have := HDk.out.1 h; omega) (by omega)
          case measure => show L - m0 < L; omega
        · gi_wp2
          go_roundw
          case rel => exact HN3.out _ _ (fun h => rfl) (by omega)
          case measure => show L - m0 < L; omega
      · gi_wp2
        refine bodyPost_ret (results_none rfl _ _ _) rfl ?_
        exact ⟨⟨_, rfl⟩, .inr ⟨pre ++ [m0], HX.out, hJx3⟩⟩
set_option maxHeartbeats 1000000 in
/-- lengths: three boxes; the function value captures them. -/
theorem lengths_in (f : Nat) (hf : 1 ≤ f) (mode size : Int) (ta : Option Addr) (tn tc : Nat) (w : World) :
    CallsIn Fence.wide f Try.prog 26 #[.int .i64 mode, .int .i64 size, .slice ta tn tc] w fun e w' => e = .returned (.func (.func 45) #[] #[.pointer (some ⟨w.heap.size + 1, 0, none⟩), .pointer (some ⟨w.heap.size + 2, 0, none⟩), .pointer (some ⟨w.heap.size, 0, none⟩)]) ∧
      Boxed w' w.heap.size 3 (.int .i64 mode) ∧ Boxed w' (w.heap.size + 1) 22 (.slice ta tn tc) ∧ Boxed w' (w.heap.size + 2) 3 (.int .i64 (brm mode size)) ∧ w'.heap.size = w.heap.size + 3 ∧ Below w.heap.size w w' := by
  refine callsIn_of_wp Try.func26 rfl trivial ?_ rfl
  simp only [Try.ntmps26, List.size_toArray, List.length_cons, List.length_nil, Nat.reduceAdd, Nat.reduceSub, Array.replicate_succ, Array.replicate_zero, List.push_toArray, List.append_toArray, List.nil_append, List.cons_append]
  gi_wp2
  refine ⟨trivial, ?_⟩
  refine (callsIn_wide.2 (broom_any mode size _)).mono ?_
  rintro e w' ⟨rfl, rfl⟩
  gi_wp2
  have b1 := ((Boxed.new w 3 (.int .i64 mode)).alloc (.cells #[.slice ta tn tc] 22)).alloc (.cells #[.int .i64 (brm mode size)] 3)
  have b2 := Boxed.new (w.alloc (.cells #[.int .i64 mode] 3)) 22 (.slice ta tn tc)
  rw [World.size_alloc] at b2
  have b2 := b2.alloc (.cells #[.int .i64 (brm mode size)] 3)
  have b3 := Boxed.new ((w.alloc (.cells #[.int .i64 mode] 3)).alloc (.cells #[.slice ta tn tc] 22)) 3 (.int .i64 (brm mode size))
  rw [World.size_alloc, World.size_alloc] at b3
  go_ret
  refine ⟨rfl, b1, b2, b3, by simp, ?_⟩
  exact (((Below.refl _ w).alloc (Nat.le_refl _) _).alloc (by simp) _).alloc (by simp; omega) _
theorem lengths_stops (f : Nat) (hn : 1 ≤ f) (Bt Bm Bk : Nat) (mode : Int) (m : Nat) (ta : Option Addr) (tc : Nat) (t : List UInt8) (hm1 : 1 ≤ m) (hm2 : m ≤ 65536) (htc : t.length ≤ tc) (htl : t.length ≤ 1048576) (w : World) (hBt : Bt < w.heap.size) (hBm : Bm < w.heap.size) (hBk : Bk < w.heap.size)
    (hct : w.cell? ⟨Bt, 0, none⟩ = some (.slice ta t.length tc)) (hcm : w.cell? ⟨Bm, 0, none⟩ = some (.int .i64 m)) (hck : w.cell? ⟨Bk, 0, none⟩ = some (.int .i64 mode)) (hb : Bys w (.slice ta t.length tc) t) :
    SeqStopsK Fence.wide f Try.prog 45 #[.pointer (some ⟨Bt, 0, none⟩), .pointer (some ⟨Bm, 0, none⟩), .pointer (some ⟨Bk, 0, none⟩)] (fun x : Nat => #[Value.int .i64 (x : Int)]) (LenKp Bt Bm Bk (.slice ta t.length tc) t) (fun ys => ys = rwr (decide (mode = 2)) m 0 t) (fun pre => pre <+: rwr (decide (mode = 2)) m 0 t) (t.length + 1) w := fun l J Jx W hW _ _ hY h0 =>
  (len1_in f hn l Bt Bm Bk mode m ta tc t hm1 hm2 htc htl J Jx hY W ((hW.cell (p := ⟨Bt, 0, none⟩) hBt).trans hct) ((hW.cell (p := ⟨Bm, 0, none⟩) hBm).trans hcm) ((hW.cell (p := ⟨Bk, 0, none⟩) hBk).trans hck) (hb.below hW) h0).mono fun _ _ ⟨h1, h2⟩ => ⟨h1, h2.imp (fun h => ⟨_, rfl, h⟩) id⟩
end Go.Proofs.Ytibnpeipndkciaa

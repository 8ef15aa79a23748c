/- The law KpipeOrder: the walk. -/
import Derived.Test.YtfkkojahkfijdaaKpSays
namespace Go.Proofs.Ytfkkojahkfijdaa
open Go.RowKit

theorem bys_take {W : World} {a : Option Addr} {c : Nat} {x : List UInt8} (h : Bys W (.slice a x.length c) x) (m : Nat) (hm : m ≤ x.length) : Bys W (.slice a m c) (x.take m) := by
  by_cases h0 : 0 < x.length
  · obtain ⟨_, b, off, rfl, _, _⟩ := bys_block h h0
    simpa using bys_cut h 0 m c (by omega)
  · obtain rfl : x = [] := List.length_eq_zero_iff.1 (by omega)
    obtain rfl : m = 0 := by simpa using hm
    simpa using h
theorem rd_split (n : Int) (q : List UInt8) (rd wr : Nat) : rdB n q rd wr ++ rdQ n q rd wr = q := by
  unfold rdB rdQ
  split
  · exact List.take_append_drop _ _
  · simp
theorem rdB_len (n : Int) (q : List UInt8) (rd wr : Nat) : (rdB n q rd wr).length ≤ q.length := by
  have := congrArg List.length (rd_split n q rd wr)
  rw [List.length_append] at this
  omega

set_option maxRecDepth 100000 in
set_option maxHeartbeats 4000000 in
theorem order_walk (a0 : Option Addr) (n0 c0 : Nat) (l : List Stp) (w : World) (h : Stps w (.slice a0 n0 c0) l) (hs1 : l.length ≤ 1048576) (hs2 : ∀ i (hi : i < l.length), l[i].2.2.2.length ≤ 1048576) :
    Calls Try.prog 4 #[.slice a0 n0 c0] w fun e w' => e = .returned (.bool true) ∧ Below w.heap.size w w' := by
  obtain ⟨i0, hi, hz0, hz1, hz2⟩ := info_parts Try.infoB
  obtain ⟨a1, c1, he1⟩ := stps_form h
  obtain ⟨rfl, rfl, rfl⟩ : a0 = a1 ∧ n0 = l.length ∧ c0 = c1 := by simpa using he1
  have HS := hide h
  have HS2 := hide hs2
  clear h he1 hs2
  go_enter Try.func4, Try.ntmps4
  go_wp2_with fail
  refine (alive_any w).mono ?_
  rintro e w1 ⟨rfl, hB1⟩
  go_wp2_with fail
  refine (both_any w1).mono ?_
  rintro e w4 ⟨rfl, hP, hB4⟩
  have hsa := hB1.size
  generalize hg : w1.heap.size = g at *
  have HP := hide hP
  have hB4 := hB1.trans (hB4.mono (by omega))
  have hg4 := hP.lt
  clear hP hB1
  obtain ⟨B, hBe⟩ : ∃ B, B = w4.heap.size := ⟨_, rfl⟩
  have hgB : g < B := by omega
  have hs4 := hB4.size
  have hwB : w.heap.size ≤ B := by omega
  go_wp2
  go_loopw [4, 5, 6, 7, 8, 9, 10] (fun iv ov i _ _ _ _ wr => ∃ (k : Nat) (q I O : List UInt8), k ≤ l.length ∧ i = .int .i64 k ∧ Hid (wr.ownsRow B 5 1 iv I.length (I.map bv)) ∧ Hid (wr.ownsRow B 5 1 ov O.length (O.map bv)) ∧ Hid (PipeAt wr g q 1 1) ∧ Hid (∀ j, iv.ownBlock = some j → ov.ownBlock ≠ some j) ∧ Hid (O ++ q = I) ∧ I.length ≤ k * 4096 ∧ B ≤ wr.heap.size ∧ Below w.heap.size w wr) (fun _ _ i _ _ _ _ _ => l.length - (intOf i).toNat)
  case atStart => exact ⟨0, [], [], [], Nat.zero_le _, rfl, World.ownsRow_nil _ _ _ _, World.ownsRow_nil _ _ _ _, HP, hide (fun j e => by cases e), rfl, by simp, by omega, hB4⟩
  case round =>
    clear HP hB4 hBe hg4 hs4
    obtain ⟨k, q, I, O, hk, rfl, HI, HO, HP, HN, HE, hIl, hBw, hB⟩ := hrel
    have hql := HP.out.len
    have hOl : O.length + q.length = I.length := by rw [← HE.out, List.length_append]
    obtain ⟨ia, ic, rfl⟩ := owns_slice HI.out
    obtain ⟨oa, oc, rfl⟩ := owns_slice HO.out
    by_cases hlt : k < l.length
    · obtain ⟨b, off, va, vc, rfl, hbl, q0, q1, q2, q3, hby, hvc⟩ := stps_at HS.out hB k hlt
      have hxs := HS2.out k hlt
      generalize l[k] = s at q0 q1 q2 q3 hby hvc hxs
      obtain ⟨what, xn, side, X⟩ := s
      simp only at q0 q1 q2 q3 hby hvc hxs
      have HBy := hide hby
      clear hby
      have hk1 : (0 : Int) ≤ (k : Int) := by omega
      have hk2 : (k : Int) < (l.length : Int) := by omega
      by_cases hw : what = 0
      · subst hw
        have HRs := hide (rd_split xn q 1 1)
        have hRl := rdB_len xn q 1 1
        go_wp2_with fail
        refine (read_any xn g q 1 1 _ HP.out).mono ?_
        rintro e w5 ⟨v, rfl, hO5, hP5, hT5⟩
        generalize rdB xn q 1 1 = Y at *
        generalize rdQ xn q 1 1 = q' at *
        generalize rdE xn q.length 1 1 = E5 at *
        have hs5 := hT5.size
        have hB5 := hT5.up hB (by omega) (by omega)
        have HI5 := hide (owns_turned HI.out hT5 (fun j hj hj2 => by have := (HI.out.lt j hj).1; omega))
        have HO5 := hide (owns_turned HO.out hT5 (fun j hj hj2 => by have := (HO.out.lt j hj).1; omega))
        have HP5 := hide hP5
        obtain ⟨s', w6, hrun, HO6, hg6, hb6⟩ := run_append_bytes w5 26 B _ v O Y HO5.out (Bys.of_owns hO5) (by omega) (by omega)
        have HR := hide hrun
        have hs6 := hg6.size
        have HI6 := hide (owns_keep (W' := w6) HI5.out (fun j hj => hg6.block j (HI5.out.lt j hj).2 (fun e => HN.out j hj e.symm)))
        have HP6 := hide (HP5.out.keep (W' := w6) (hg6.block g (by omega) (fun e => by have := (HO5.out.lt g e.symm).1; omega)))
        have hB6 := hB5.grown hg6 hB5.size (fun j e => by have := (HO5.out.lt j e).1; omega)
        have hq' := HP6.out.len
        have HN6 : Hid (∀ j, (Value.slice ia I.length ic).ownBlock = some j → s'.ownBlock ≠ some j) := hide fun j hj e => by
          rcases hb6 with h1 | h1
          · rw [h1] at e; exact HN.out j hj e
          · rw [h1] at e; cases e; have := (HI5.out.lt _ hj).2; omega
        have HE6 : Hid ((O ++ Y) ++ q' = I) := hide (by rw [List.append_assoc, HRs.out]; exact HE.out)
        clear hrun hP5 hO5 hT5 HP5 HO5 HI5 HI HO HP HN HE HRs hb6
        go_wp2_with (at_builtin; refine Lib.wpList_append_run _ rfl _ _ _ _ rfl _ _ rfl rfl _ _ HR.out ?_)
        refine (held_any g q' 1 1 _ HP6.out).mono ?_
        rintro e w7 ⟨rfl, -, hB7⟩
        have HI7 := hide (owns_below HI6.out hB7)
        have HO7 := hide (owns_below HO6.out hB7)
        have HP7 := hide (HP6.out.below hB7)
        have hs7 := hB7.size
        have hB7 := hB6.trans (hB7.mono (by omega))
        have hd : ¬ (4096 : Int) < (q'.length : Int) := by omega
        go_wp2
        all_goals
          go_roundw
          case rel => exact ⟨k + 1, q', I, O ++ Y, by omega, by go_num, HI7, HO7, HP7, HN6, HE6, by omega, by omega, hB7⟩
          case measure => simp [intOf]; omega
      · have hw2 : (what == 0) = false := by simpa using hw
        have HA := hide (fun W' h1 h2 => write_any xn g q X va X.length vc 1 1 W' h1 h2 hvc (by omega) (bys_off HBy.out (by omega)))
        have hN := wrN_le X.length xn q.length 1 1
        generalize wrE X.length xn q.length 1 1 = E5 at *
        generalize wrN X.length xn q.length 1 1 = N at *
        obtain ⟨hN1, hN2⟩ := hN
        have hN2 := hN2 hql
        go_wp2_with fail
        go_region_held3 (fun w' => w'.cell? ⟨b, off + k * 4 + 1, none⟩ = some (.int .i64 xn) ∧ w'.cell? ⟨b, off + k * 4 + 3, none⟩ = some (.slice va X.length vc))
          (first | exact K5 | go_keep)
          (first
            | (go_at_call 14; refine (HA.out _ (HP.out.keep (W' := wr.drew) rfl) (HBy.out.below hB.drew)).mono ?_; rintro e w5 ⟨rfl, hP5, hT5⟩; have K5 : w5.cell? ⟨b, off + k * 4 + 1, none⟩ = some (.int .i64 xn) ∧ w5.cell? ⟨b, off + k * 4 + 3, none⟩ = some (.slice va X.length vc) := ⟨hT5.cell q1 (by show ¬ b = g; omega), hT5.cell q3 (by show ¬ b = g; omega)⟩)
            | fail)
        have hsd : wr.drew.heap.size = wr.heap.size := rfl
        have hs5 := hT5.size
        have hB5 := hT5.up hB.drew (by omega) (by omega)
        have HI5 := hide (owns_turned (W := wr.drew) HI.out hT5 (fun j hj hj2 => by have := (HI.out.lt j hj).1; omega))
        have HO5 := hide (owns_turned (W := wr.drew) HO.out hT5 (fun j hj hj2 => by have := (HO.out.lt j hj).1; omega))
        have HP5 := hide hP5
        have q35 := K5.2
        have HXt := hide (bys_take (HBy.out.below hB5) N hN1)
        have hXt : (X.take N).length = N := by simp; omega
        obtain ⟨s', w6, hrun, HI6, hg6, hb6⟩ := run_append_bytes w5 26 B _ _ I (X.take N) HI5.out HXt.out (by omega) (by omega)
        have HR := hide hrun
        have hs6 := hg6.size
        have HO6 := hide (owns_keep (W' := w6) HO5.out (fun j hj => hg6.block j (HO5.out.lt j hj).2 (fun e => HN.out j e.symm hj)))
        have HP6 := hide (HP5.out.keep (W' := w6) (hg6.block g (by omega) (fun e => by have := (HI5.out.lt g e.symm).1; omega)))
        have hB6 := hB5.grown hg6 hB5.size (fun j e => by have := (HI5.out.lt j e).1; omega)
        have hq' := HP6.out.len
        have HN6 : Hid (∀ j, s'.ownBlock = some j → (Value.slice oa O.length oc).ownBlock ≠ some j) := hide fun j hj e => by
          rcases hb6 with h1 | h1
          · rw [h1] at hj; exact HN.out j hj e
          · rw [h1] at hj; cases hj; have := (HO5.out.lt _ e).2; omega
        have HE6 : Hid (O ++ (q ++ X.take N) = I ++ X.take N) := hide (by rw [← List.append_assoc, HE.out])
        have HIl : Hid ((I ++ X.take N).length ≤ (k + 1) * 4096) := hide (by rw [List.length_append, hXt]; omega)
        generalize q ++ X.take N = q' at *
        generalize X.take N = XN at *
        have hva : (va = none ∧ X.length = 0 ∧ vc = 0) ∨ ∃ ad, va = some ad := by
          rcases HBy.out with ⟨h5, h6⟩ | ⟨a, c, h5, h6⟩ | ⟨b, o, c, h5, _⟩
          · simp only [Value.slice.injEq] at h5
            exact .inl ⟨h5.1, h5.2.1, h5.2.2⟩
          · simp only [Value.slice.injEq] at h5
            exact .inr ⟨_, h5.1⟩
          · simp only [Value.slice.injEq] at h5
            exact .inr ⟨_, h5.1⟩
        clear hrun hP5 hT5 HP5 HO5 HI5 HI HO HP HN HE hb6 K5 HA HXt HBy
        have k3 : ¬ (N : Int) < 0 := by omega
        have k4 : ¬ (X.length : Int) < (N : Int) := by omega
        have k5 : (N : Int) ≤ (vc : Int) := by omega
        have k6 : (0 : Int) ≤ (N : Int) := by omega
        rcases hva with ⟨rfl, hvl0, rfl⟩ | ⟨ad, rfl⟩
        · obtain rfl : N = 0 := by omega
          rw [hvl0] at q35
          go_wp2_with (at_builtin; refine Lib.wpList_append_run _ rfl _ _ _ _ rfl _ _ rfl rfl _ _ HR.out ?_)
          refine (held_any g q' 1 1 _ HP6.out).mono ?_
          rintro e w7 ⟨rfl, -, hB7⟩
          have HI7 := hide (owns_below HI6.out hB7)
          have HO7 := hide (owns_below HO6.out hB7)
          have HP7 := hide (HP6.out.below hB7)
          have hs7 := hB7.size
          have hB7 := hB6.trans (hB7.mono (by omega))
          have hd : ¬ (4096 : Int) < (q'.length : Int) := by omega
          go_wp2
          all_goals
            go_roundw
            case rel => exact ⟨k + 1, q', _, O, by omega, by go_num, HI7, HO7, HP7, HN6, HE6, HIl.out, by omega, hB7⟩
            case measure => simp [intOf]; omega
        · go_wp2_with (at_builtin; refine Lib.wpList_append_run _ rfl _ _ _ _ rfl _ _ rfl rfl _ _ HR.out ?_)
          refine (held_any g q' 1 1 _ HP6.out).mono ?_
          rintro e w7 ⟨rfl, -, hB7⟩
          have HI7 := hide (owns_below HI6.out hB7)
          have HO7 := hide (owns_below HO6.out hB7)
          have HP7 := hide (HP6.out.below hB7)
          have hs7 := hB7.size
          have hB7 := hB6.trans (hB7.mono (by omega))
          have hd : ¬ (4096 : Int) < (q'.length : Int) := by omega
          go_wp2
          all_goals
            go_roundw
            case rel => exact ⟨k + 1, q', _, O, by omega, by go_num, HI7, HO7, HP7, HN6, HE6, HIl.out, by omega, hB7⟩
            case measure => simp [intOf]; omega
    · have hlen : l.length = k := by omega
      have hd : ¬ (k : Int) < (l.length : Int) := by omega
      go_wp2_with fail
      refine (held_any g q 1 1 _ HP.out).mono ?_
      rintro e w5 ⟨rfl, hO5, hB5⟩
      have HI5 := hide (owns_below HI.out hB5)
      have HO5 := hide (owns_below HO.out hB5)
      have hs5 := hB5.size
      have hB5 := hB.trans (hB5.mono (by omega))
      obtain ⟨s', w6, hrun, HO6, hg6, hb6⟩ := run_append_bytes w5 26 B _ _ O q HO5.out (Bys.of_owns hO5) (by omega) (by omega)
      have HR := hide hrun
      have hs6 := hg6.size
      have HI6 := hide (owns_keep (W' := w6) HI5.out (fun j hj => hg6.block j (HI5.out.lt j hj).2 (fun e => HN.out j hj e.symm)))
      have hB6 := hB5.grown hg6 hB5.size (fun j e => by have := (HO5.out.lt j e).1; omega)
      rw [HE.out] at HO6
      have HB1 := hide (Bys.of_owns HO6.out)
      have HB2 := hide (Bys.of_owns HI6.out)
      obtain ⟨sa, sc, rfl⟩ := owns_slice HO6.out
      clear hrun hO5 HI5 HO5 HI HO HN HI6 HO6 HP hb6 HE
      go_wp2_with (at_builtin; refine Lib.wpList_append_run _ rfl _ _ _ _ rfl _ _ rfl rfl _ _ HR.out ?_)
      refine (same_any _ _ I _ HB1.out HB2.out (by unfold maxLen; omega)).mono ?_
      rintro e w7 ⟨rfl, hB7⟩
      go_wp2
      go_ret
      exact ⟨rfl, hB6.trans (hB7.mono (by omega))⟩
end Go.Proofs.Ytfkkojahkfijdaa

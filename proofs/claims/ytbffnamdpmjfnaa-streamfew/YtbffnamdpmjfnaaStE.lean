/- Streams: a state is turned to writing, to reading. -/
import Derived.Test.YtbffnamdpmjfnaaStD
namespace Go.Proofs.Ytbffnamdpmjfnaa
open Go.RowKit

set_option maxRecDepth 100000 in
set_option maxHeartbeats 2000000 in
theorem turnToWriting_any (x : SS) (g : Nat) (oa ia ba : Option Addr) (oc ic bc : Nat) (T : TypeId) (v : Value) (w : World) (h : Way w g x (.slice oa x.out.length oc) (.slice ia x.inn.length ic) (.slice ba x.back.length bc) (.iface T v)) (hi : x.inn.length ≤ 140737488351232) (hb : x.back.length ≤ 140737488351232) :
    Calls Try.prog 21 #[.pointer (some ⟨g, 0, none⟩)] w fun en w' => en = .returned (.int .i64 x.noWrite) ∧ Way w' g (if x.noWrite = 0 then { x with dir := 2 } else x) (.slice oa x.out.length oc) (.slice ia x.inn.length ic) (.slice ba x.back.length bc) (.iface T v) ∧ Turned (fun k => k = g) w w' := by
  have HC := hide (wrefusal_any x g oa ia ba oc ic bc T v w h hi hb)
  have HW := hide h
  clear h
  generalize hn : x.noWrite = q
  unfold SS.noWrite at hn
  by_cases h0 : x.refuse true = 0
  case neg =>
    rw [if_pos h0] at hn
    subst hn
    have HN := hide h0
    have HE : Hid (x.refuse true = x.refuse true) := hide rfl
    generalize hrr : x.refuse true = rr at *
    have h2 : (rr != 0) = true := by simp [h0]
    have h3 : ¬ rr = 0 := h0
    clear h0 hrr
    go_enter Try.func21, Try.ntmps21
    go_wp2_with fail
    refine (HC.out).mono ?_
    rintro _ w1 ⟨rfl, hB1⟩
    have HW1 := hide (HW.out.below hB1)
    have HB1 := hide hB1
    clear hB1
    go_wp2
    go_ret
    exact ⟨rfl, by first | exact HW1.out | (rw [if_neg HN.out]; exact HW1.out), Turned.of_below HB1.out⟩
  rw [if_neg (by simp [h0])] at hn
  have HE := hide h0
  clear h0
  rcases Bool.eq_false_or_eq_true x.wt with hf | hf
  case inr =>
    rw [if_pos hf] at hn
    subst hn
    have HF := hide hf
    clear hf
    go_enter Try.func21, Try.ntmps21
    go_wp2_with fail
    refine (HC.out).mono ?_
    rintro _ w1 ⟨rfl, hB1⟩
    rw [HE.out]
    have HW1 := hide (HW.out.below hB1)
    have HB1 := hide hB1
    clear hB1
    obtain ⟨c0, c1, c2, c3, c4, c5, c6, c7, c8, c9, c10, c11⟩ := HW1.out.cs
    rw [HF.out] at c1
    go_wp2
    go_ret
    exact ⟨rfl, by first | exact HW1.out | (rw [if_neg (by decide)]; exact HW1.out), Turned.of_below HB1.out⟩
  rw [if_neg (by simp [hf])] at hn
  have HF := hide hf
  clear hf
  by_cases hd : x.dir = 1
  · have HD := hide hd
    by_cases hq : x.fin = true ∧ (x.inn.length : Int) + (x.back.length : Int) = 0
    · rw [if_neg (by simp [hq])] at hn
      subst hn
      have HQ : Hid ((x.fin && decide ((x.inn.length : Int) + (x.back.length : Int) = 0)) = true) := hide (by simp [hq])
      clear hq hd
      go_enter Try.func21, Try.ntmps21
      go_wp2_with fail
      refine (HC.out).mono ?_
      rintro _ w1 ⟨rfl, hB1⟩
      rw [HE.out]
      have HW1 := hide (HW.out.below hB1)
      have HB1 := hide hB1
      clear hB1
      obtain ⟨c0, c1, c2, c3, c4, c5, c6, c7, c8, c9, c10, c11⟩ := HW1.out.cs
      have g7 := HW1.out.soft 7
      rw [HF.out] at c1
      rw [HD.out] at c7
      go_wp2_with fail
      refine (isReadOut_any x g ia ba ic bc _ _ w1 HW1.out hi hb).mono ?_
      rintro _ w2 ⟨rfl, hB2⟩
      rw [HQ.out]
      have HW2 := hide (HW1.out.below hB2)
      have HB2 := hide (HB1.out.trans (hB2.mono HB1.out.size))
      clear hB2 c0 c1 c2 c3 c4 c5 c6 c7 c8 c9 c10 c11 g7
      obtain ⟨c0, c1, c2, c3, c4, c5, c6, c7, c8, c9, c10, c11⟩ := HW2.out.cs
      have g7 := HW2.out.soft 7
      go_wp2
      go_ret
      exact ⟨rfl, by first | exact HW2.out.set 7 (.int .i64 2) rfl | (rw [if_pos rfl]; exact HW2.out.set 7 (.int .i64 2) rfl), (Turned.of_below HB2.out).set (.inl rfl)⟩
    · rw [if_pos ⟨hd, hq⟩] at hn
      subst hn
      have HQ : Hid ((x.fin && decide ((x.inn.length : Int) + (x.back.length : Int) = 0)) = false) := hide (by
        cases hfi : x.fin with
        | false => rfl
        | true => rw [Bool.true_and]; exact decide_eq_false fun e => hq ⟨hfi, e⟩)
      clear hq hd
      go_enter Try.func21, Try.ntmps21
      go_wp2_with fail
      refine (HC.out).mono ?_
      rintro _ w1 ⟨rfl, hB1⟩
      rw [HE.out]
      have HW1 := hide (HW.out.below hB1)
      have HB1 := hide hB1
      clear hB1
      obtain ⟨c0, c1, c2, c3, c4, c5, c6, c7, c8, c9, c10, c11⟩ := HW1.out.cs
      rw [HF.out] at c1
      rw [HD.out] at c7
      go_wp2_with fail
      refine (isReadOut_any x g ia ba ic bc _ _ w1 HW1.out hi hb).mono ?_
      rintro _ w2 ⟨rfl, hB2⟩
      rw [HQ.out]
      have HW2 := hide (HW1.out.below hB2)
      have HB2 := hide (HB1.out.trans (hB2.mono HB1.out.size))
      clear hB2 c0 c1 c2 c3 c4 c5 c6 c7 c8 c9 c10 c11
      go_wp2
      go_ret
      exact ⟨rfl, by first | exact HW2.out | (rw [if_neg (by decide)]; exact HW2.out), Turned.of_below HB2.out⟩
  rw [if_neg (fun h => hd h.1)] at hn
  subst hn
  have hd2 : (x.dir == 1) = false := by simp [hd]
  go_enter Try.func21, Try.ntmps21
  go_wp2_with fail
  refine (HC.out).mono ?_
  rintro _ w1 ⟨rfl, hB1⟩
  rw [HE.out]
  have HW1 := hide (HW.out.below hB1)
  have HB1 := hide hB1
  clear hB1
  obtain ⟨c0, c1, c2, c3, c4, c5, c6, c7, c8, c9, c10, c11⟩ := HW1.out.cs
  have g7 := HW1.out.soft 7
  rw [HF.out] at c1
  go_wp2
  go_ret
  exact ⟨rfl, by first | exact HW1.out.set 7 (.int .i64 2) rfl | (rw [if_pos rfl]; exact HW1.out.set 7 (.int .i64 2) rfl), (Turned.of_below HB1.out).set (.inl rfl)⟩
set_option maxRecDepth 100000 in
set_option maxHeartbeats 2000000 in
theorem turnToReading_any (x : SS) (g : Nat) (oa ia ba : Option Addr) (oc ic bc : Nat) (T : TypeId) (v : Value) (w : World) (h : Way w g x (.slice oa x.out.length oc) (.slice ia x.inn.length ic) (.slice ba x.back.length bc) (.iface T v)) (hi : x.inn.length ≤ 140737488351232) (hb : x.back.length ≤ 140737488351232) :
    Calls Try.prog 27 #[.pointer (some ⟨g, 0, none⟩)] w fun en w' => en = .returned (.int .i64 x.noRead) ∧ Way w' g (if x.noRead = 0 then { x with dir := 1 } else x) (.slice oa x.out.length oc) (.slice ia x.inn.length ic) (.slice ba x.back.length bc) (.iface T v) ∧ Turned (fun k => k = g) w w' := by
  have HC := hide (wrefusal_any x g oa ia ba oc ic bc T v w h hi hb)
  have HW := hide h
  clear h
  generalize hn : x.noRead = q
  unfold SS.noRead at hn
  by_cases h0 : x.refuse true = 0
  case neg =>
    rw [if_pos h0] at hn
    subst hn
    have HN := hide h0
    have HE : Hid (x.refuse true = x.refuse true) := hide rfl
    generalize hrr : x.refuse true = rr at *
    have h2 : (rr != 0) = true := by simp [h0]
    have h3 : ¬ rr = 0 := h0
    clear h0 hrr
    go_enter Try.func27, Try.ntmps27
    go_wp2_with fail
    refine (HC.out).mono ?_
    rintro _ w1 ⟨rfl, hB1⟩
    have HW1 := hide (HW.out.below hB1)
    have HB1 := hide hB1
    clear hB1
    go_wp2
    go_ret
    exact ⟨rfl, by first | exact HW1.out | (rw [if_neg HN.out]; exact HW1.out), Turned.of_below HB1.out⟩
  rw [if_neg (by simp [h0])] at hn
  have HE := hide h0
  clear h0
  rcases Bool.eq_false_or_eq_true x.rd with hf | hf
  case inr =>
    rw [if_pos hf] at hn
    subst hn
    have HF := hide hf
    clear hf
    go_enter Try.func27, Try.ntmps27
    go_wp2_with fail
    refine (HC.out).mono ?_
    rintro _ w1 ⟨rfl, hB1⟩
    rw [HE.out]
    have HW1 := hide (HW.out.below hB1)
    have HB1 := hide hB1
    clear hB1
    obtain ⟨c0, c1, c2, c3, c4, c5, c6, c7, c8, c9, c10, c11⟩ := HW1.out.cs
    rw [HF.out] at c0
    go_wp2
    go_ret
    exact ⟨rfl, by first | exact HW1.out | (rw [if_neg (by decide)]; exact HW1.out), Turned.of_below HB1.out⟩
  rw [if_neg (by simp [hf])] at hn
  have HF := hide hf
  clear hf
  by_cases hd : x.dir = 2
  · rw [if_pos hd] at hn
    subst hn
    have HD := hide hd
    clear hd
    go_enter Try.func27, Try.ntmps27
    go_wp2_with fail
    refine (HC.out).mono ?_
    rintro _ w1 ⟨rfl, hB1⟩
    rw [HE.out]
    have HW1 := hide (HW.out.below hB1)
    have HB1 := hide hB1
    clear hB1
    obtain ⟨c0, c1, c2, c3, c4, c5, c6, c7, c8, c9, c10, c11⟩ := HW1.out.cs
    rw [HF.out] at c0
    rw [HD.out] at c7
    go_wp2
    go_ret
    exact ⟨rfl, by first | exact HW1.out | (rw [if_neg (by decide)]; exact HW1.out), Turned.of_below HB1.out⟩
  rw [if_neg hd] at hn
  subst hn
  have hd2 : (x.dir == 2) = false := by simp [hd]
  go_enter Try.func27, Try.ntmps27
  go_wp2_with fail
  refine (HC.out).mono ?_
  rintro _ w1 ⟨rfl, hB1⟩
  rw [HE.out]
  have HW1 := hide (HW.out.below hB1)
  have HB1 := hide hB1
  clear hB1
  obtain ⟨c0, c1, c2, c3, c4, c5, c6, c7, c8, c9, c10, c11⟩ := HW1.out.cs
  have g7 := HW1.out.soft 7
  rw [HF.out] at c0
  go_wp2
  go_ret
  exact ⟨rfl, by first | exact HW1.out.set 7 (.int .i64 1) rfl | (rw [if_pos rfl]; exact HW1.out.set 7 (.int .i64 1) rfl), (Turned.of_below HB1.out).set (.inl rfl)⟩
end Go.Proofs.Ytbffnamdpmjfnaa

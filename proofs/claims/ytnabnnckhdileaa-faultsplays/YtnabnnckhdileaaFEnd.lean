/- FaultsEnd: the walk. -/
import Derived.Test.YtnabnnckhdileaaFAlive
namespace Go.Proofs.Ytnabnnckhdileaa
open Go.RowKit

theorem nxt_ok {f : Fault} (r : List Fault) {want : Int} (hm : may f = true) (h1 : 1 ≤ want) (h2 : want ≤ 1048576) :
    (∃ n, nxt (f :: r) want = (n, 0) ∧ 1 ≤ n ∧ n ≤ want) ∨ nxt (f :: r) want = (0, 22) ∨ nxt (f :: r) want = (0, 23) := by
  obtain ⟨x, y⟩ := f
  rw [nxt_in h1 h2]
  by_cases hx : x = 1
  · subst hx
    rw [may_one] at hm
    have := of_decide_eq_true hm
    exact .inl ⟨min want y, by simp, by omega, by omega⟩
  · rw [if_neg hx]
    by_cases hx2 : x = 2
    · exact .inr (.inl (by simp [hx2]))
    · rw [if_neg hx2]
      by_cases hx3 : x = 3
      · exact .inr (.inr (by simp [hx3]))
      · exact .inl ⟨want, by simp [hx3], h1, Int.le_refl _⟩
theorem fdrop_at (l : List Fault) (k : Nat) (h : k < l.length) : l.drop k = l.getD k (0, 0) :: l.drop (k + 1) := by
  rw [List.drop_eq_getElem_cons h, List.getD_eq_getElem?_getD, List.getElem?_eq_getElem h]
  rfl
theorem chk_code (l : List Fault) : (chk l).1 = 0 ∨ (chk l).1 = 3 ∨ (chk l).1 = 21 := by
  unfold chk
  split
  · simp
  · split <;> simp

set_option maxRecDepth 100000 in
set_option maxHeartbeats 4000000 in
theorem end_walk (v : Value) (l : List Fault) (want : Int) (w : World) (h : Flts w v l) (hs : l.length * 16 ≤ 140737488351232) :
    Calls Try.prog 6 #[v, .int .i64 want] w fun e w' => e = .returned (.bool true) ∧ Below w.heap.size w w' := by
  by_cases hc : (chk l).1 = 0
  · obtain ⟨hlen, hfb, -⟩ := chk_zero hc
    have HG := hide (fb_good hfb)
    obtain ⟨a1, c1, rfl, -⟩ := flts_form h
    by_cases hw : want < 1 ∨ 1048576 < want
    · have hwb : (decide (want < 1) || decide (1048576 < want)) = true := by simpa using hw
      go_enter Try.func6, Try.ntmps6
      go_wp2_with fail
      refine (alive_any _).mono ?_
      rintro e w1 ⟨rfl, hB1⟩
      have HF := hide (h.below hB1)
      clear h
      go_wp2_with fail
      refine (new_good _ _ _ HF.out hs hc).mono ?_
      rintro e w2 ⟨g, v', rfl, hP, hg1, hg2, hob, hB2⟩
      have hB02 := hB1.trans (hB2.mono hB1.size)
      have HP := hide hP
      have HF2 := hide (HF.out.below hB2)
      clear hP HF hob hB2 hg1 hB1 hfb hc
      go_wp2_with fail
      refine (num_any 0 _).mono ?_
      rintro e w3 ⟨rfl, rfl⟩
      have HN := hide (next_range g v' l want w3 HP.out hw)
      clear hw
      go_wp2_with fail
      all_goals
        refine HN.out.mono ?_
        rintro e w5 ⟨rfl, rfl⟩
        go_wp2_with fail
        refine (num_any _ _).mono ?_
        rintro e w6 ⟨rfl, rfl⟩
        go_wp2_with fail
        refine (rest_any g v' l _ HP.out hs).mono ?_
        rintro e w7 ⟨v7, rfl, hown, hB7⟩
        have HO := hide hown
        clear hown
        go_wp2_with fail
        refine (samef_any _ _ l _ (Flts.of_owns HO.out) (HF2.out.below hB7) (by unfold maxLen; omega)).mono ?_
        rintro e w8 ⟨rfl, hB8⟩
        have hB78 := hB7.trans (hB8.mono hB7.size)
        go_wp2
        go_ret
        exact ⟨rfl, hB02.trans (hB78.mono hB02.size)⟩
    · have hw1 : 1 ≤ want := by omega
      have hw2 : want ≤ 1048576 := by omega
      clear hw
      go_enter Try.func6, Try.ntmps6
      go_wp2_with fail
      refine (alive_any _).mono ?_
      rintro e w1 ⟨rfl, hB1⟩
      have HF := hide (h.below hB1)
      clear h
      go_wp2_with fail
      refine (new_good _ _ _ HF.out hs hc).mono ?_
      rintro e w2 ⟨g, v', rfl, hP, hg1, hg2, hob, hB2⟩
      have hB02 := hB1.trans (hB2.mono hB1.size)
      have hg0 : w.heap.size ≤ g := Nat.le_trans hB1.size hg1
      have HP := hide hP
      clear hP HF hob hB2 hg1 hB1 hfb hc
      go_wp2_with fail
      refine (num_any 0 _).mono ?_
      rintro e w3 ⟨rfl, rfl⟩
      go_wp2
      go_loopw [9, 10, 11, 12, 13] (fun i _ _ _ _ wr => ∃ (k : Nat) (vr : Value), k ≤ l.length ∧ i = .int .i64 k ∧ PlanAt wr g vr (l.drop k) ∧ Below w.heap.size w wr) (fun i _ _ _ _ _ => l.length - (intOf i).toNat)
      case atStart => exact ⟨0, v', Nat.zero_le _, rfl, HP.out, hB02⟩
      case round =>
        clear HP hB02 hg2
        obtain ⟨k, vr, hk, rfl, hP, hB⟩ := hrel
        by_cases hlt : k < l.length
        · rw [fdrop_at l k hlt] at hP
          have hm := HG.out k hlt
          generalize l.getD k (0, 0) = f at *
          have HP := hide hP
          have hok := nxt_ok (l.drop (k + 1)) hm hw1 hw2
          have hn := next_some g vr f (l.drop (k + 1)) want wr hP hw1 hw2 (by unfold maxLen; rw [List.length_drop]; omega)
          generalize nxt (f :: l.drop (k + 1)) want = nx at *
          have HN := hide hn
          clear hP hn HP hm
          go_wp2_with fail
          refine HN.out.mono ?_
          rintro e w5 ⟨rfl, v5, hP5, hob5, hG5⟩
          have hB5 := hB.grown hG5 hB.size (fun k e => by cases e; exact hg0)
          have HP5 := hide hP5
          clear hP5 HN hG5 hob5
          rcases hok with ⟨n, rfl, n1, n2⟩ | rfl | rfl
          all_goals
            go_wp2_with fail
            refine (num_any _ _).mono ?_
            rintro e w6 ⟨rfl, rfl⟩
            go_wp2_with fail
            refine (num_any _ _).mono ?_
            rintro e w7 ⟨rfl, rfl⟩
            try (
              go_wp2_with fail
              refine (num_any _ _).mono ?_
              rintro e w8 ⟨rfl, rfl⟩)
            go_wp2
            go_roundw
            case rel => exact ⟨k + 1, v5, by omega, by go_num, HP5.out, hB5⟩
            case measure => simp [intOf]; omega
        · have hk' : k = l.length := by omega
          subst hk'
          rw [List.drop_length] at hP
          have HP := hide hP
          clear hP
          go_wp2_with fail
          refine (next_end g vr want _ HP.out hw1 hw2).mono ?_
          rintro e w5 ⟨rfl, rfl⟩
          go_wp2_with fail
          refine (num_any _ _).mono ?_
          rintro e w6 ⟨rfl, rfl⟩
          go_wp2_with fail
          refine (rest_any g vr [] _ HP.out (by decide)).mono ?_
          rintro e w7 ⟨v7, rfl, hown, hB7⟩
          obtain ⟨a7, c7, rfl⟩ := owns_slice hown
          clear hown
          go_wp2
          go_ret
          exact ⟨rfl, hB.trans (hB7.mono hB.size)⟩
  · have hne : ((chk l).1 == 0) = false := by simpa using hc
    have HN := hide fun w' hf => new_bad v l w' hf (by unfold maxLen; omega) hc
    have HF := hide h
    generalize (chk l).1 = x at *
    clear hc h
    go_enter Try.func6, Try.ntmps6
    go_wp2_with fail
    refine (alive_any _).mono ?_
    rintro e w1 ⟨rfl, hB1⟩
    go_wp2_with fail
    refine (HN.out _ (HF.out.below hB1)).mono ?_
    rintro e w2 ⟨rfl, hB2⟩
    go_wp2_with fail
    refine (num_any _ _).mono ?_
    rintro e w3 ⟨rfl, rfl⟩
    go_wp2
    all_goals
      go_ret
      exact ⟨rfl, hB1.trans (hB2.mono hB1.size)⟩
end Go.Proofs.Ytnabnnckhdileaa

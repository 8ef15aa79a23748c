/- FaultsOwn: plans that no call made; the walk. -/
import Derived.Test.YtnabnnckhdileaaFAlive
namespace Go.Proofs.Ytnabnnckhdileaa
open Go.RowKit

set_option maxRecDepth 100000 in
set_option maxHeartbeats 2000000 in
theorem nothing_any (pv : Value) (w : World) (hm : Calls Try.prog 38 #[pv] w fun e w' => e = .returned (.bool false) ∧ w' = w) :
    Calls Try.prog 23 #[pv] w fun e w' => e = .returned (.bool true) ∧ w' = w := by
  have HM := hide hm
  have hN : Calls Try.prog 19 #[pv, .int .i64 1] w fun e w' => e = .returned (.tuple #[.int .i64 0, .int .i64 2]) ∧ w' = w := by
    clear hm
    go_enter Try.func19, Try.ntmps19
    go_wp2_with fail
    refine HM.out.mono ?_
    rintro e w1 ⟨rfl, rfl⟩
    go_wp2
    go_ret2
    exact ⟨rfl, rfl⟩
  have hR : Calls Try.prog 21 #[pv] w fun e w' => e = .returned (.slice none 0 0) ∧ w' = w := by
    clear hm
    go_enter Try.func21, Try.ntmps21
    go_wp2_with fail
    refine HM.out.mono ?_
    rintro e w1 ⟨rfl, rfl⟩
    go_wp2
    go_ret
    exact ⟨rfl, rfl⟩
  have hC : Calls Try.prog 22 #[pv] w fun e w' => e = .returned (.pointer none) ∧ w' = w := by
    clear hm
    go_enter Try.func22, Try.ntmps22
    go_wp2_with fail
    refine HM.out.mono ?_
    rintro e w1 ⟨rfl, rfl⟩
    go_wp2
    go_ret
    exact ⟨rfl, rfl⟩
  have HN := hide hN
  have HR := hide hR
  have HC := hide hC
  clear hm hN hR hC HM
  go_enter Try.func23, Try.ntmps23
  go_wp2_with fail
  refine HN.out.mono ?_
  rintro e w1 ⟨rfl, rfl⟩
  go_wp2_with fail
  refine (num_any _ _).mono ?_
  rintro e w2 ⟨rfl, rfl⟩
  go_wp2_with fail
  refine HR.out.mono ?_
  rintro e w3 ⟨rfl, rfl⟩
  go_wp2_with fail
  refine HC.out.mono ?_
  rintro e w4 ⟨rfl, rfl⟩
  go_wp2
  go_ret
  exact ⟨rfl, rfl⟩

theorem spoil_step {wr : World} {base g go n cap k : Nat} {v' u1 u2 : Value} {l : List Fault} {xs : List Value} (hown : wr.ownsRow base 60 2 (.slice (some ⟨go, 0, none⟩) n cap) n xs) (hP : PlanAt wr g v' l) (h1 : go ≠ g) (h2 : v'.ownBlock ≠ some go) :
    (∃ xs', ((wr.setCell ⟨go, k * 2, none⟩ u1).setCell ⟨go, k * 2 + 1, none⟩ u2).ownsRow base 60 2 (.slice (some ⟨go, 0, none⟩) n cap) n xs') ∧ PlanAt ((wr.setCell ⟨go, k * 2, none⟩ u1).setCell ⟨go, k * 2 + 1, none⟩ u2) g v' l := by
  refine ⟨⟨_, ((hown.stored (k * 2) u1).1.stored (k * 2 + 1) u2).1⟩, hP.keep fun b hb hor => ?_⟩
  have hne : b ≠ go := by
    rcases hor with rfl | he
    · exact Ne.symm h1
    · intro e; subst e; exact h2 he
  rw [Below.heap_setCell _ _ _ _ hne, Below.heap_setCell _ _ _ _ hne]
theorem size_set (w : World) (a : Addr) (u : Value) : (w.setCell a u).heap.size = w.heap.size := by simp [World.setCell]

set_option maxRecDepth 100000 in
set_option maxHeartbeats 4000000 in
theorem own_walk (v : Value) (l : List Fault) (w : World) (h : Flts w v l) (hs : l.length * 16 ≤ 140737488351232) :
    Calls Try.prog 7 #[v] w fun e w' => e = .returned (.bool true) ∧ Below w.heap.size w w' := by
  by_cases hc : (chk l).1 = 0
  · obtain ⟨hlen, hfb, -⟩ := chk_zero hc
    have H0 := hide h
    go_enter Try.func7, Try.ntmps7
    go_wp2_with fail
    refine (alive_any _).mono ?_
    rintro e w1 ⟨rfl, hB1⟩
    have HF := hide (h.below hB1)
    clear h
    go_wp2_with fail
    refine (nothing_any _ _ (isMade_nil _)).mono ?_
    rintro e w2 ⟨rfl, rfl⟩
    go_wp2_with fail
    refine (nothing_any _ _ (isMade_no _ _ (by simp only [World.cell?, heap_alloc_new]; rfl))).mono ?_
    rintro e w2 ⟨rfl, rfl⟩
    have hBa := hB1.alloc hB1.size (Obj.cells #[Value.bool false, Value.slice none 0 0] 58)
    have HF2 := hide (HF.out.below ((Below.refl _ _).alloc (Nat.le_refl _) (Obj.cells #[Value.bool false, Value.slice none 0 0] 58)))
    generalize w2.alloc (Obj.cells #[Value.bool false, Value.slice none 0 0] 58) = w2a at *
    clear HF hB1 hfb
    go_wp2_with fail
    refine (copyf_any v l _ HF2.out hs).mono ?_
    rintro e w3 ⟨vo, rfl, hown, hB3⟩
    obtain ⟨ao, co, rfl⟩ := owns_slice hown
    have HO := hide hown
    have hB03 := hBa.trans (hB3.mono hBa.size)
    clear hown HF2
    go_wp2_with fail
    refine (new_good _ l _ (Flts.of_owns HO.out) hs hc).mono ?_
    rintro e w4 ⟨g, v', rfl, hP, hg1, hg2, hob, hB4⟩
    have hB04 := hB03.trans (hB4.mono hB03.size)
    have HP := hide hP
    have HO4 := hide (owns_below HO.out hB4)
    have hlo := HO.out.lt
    have hz3 := hBa.size
    have hz4 := hB4.size
    have hz5 := hB03.size
    clear hP HO hc hB3 hB4
    go_wp2_with fail
    refine (num_any _ _).mono ?_
    rintro e w5 ⟨rfl, rfl⟩
    go_wp2
    go_loopw [7] (fun i wr => ∃ (k : Nat) (xs : List Value), k ≤ l.length ∧ i = .int .i64 k ∧ wr.ownsRow w2a.heap.size 60 2 (.slice ao l.length co) l.length xs ∧ PlanAt wr g v' l ∧ Below w.heap.size w wr ∧ w3.heap.size ≤ wr.heap.size) (fun i _ => l.length - (intOf i).toNat)
    case atStart => exact ⟨0, _, Nat.zero_le _, rfl, HO4.out, HP.out, hB04, hz4⟩
    case round =>
      clear HO4 HP hB04
      obtain ⟨k, xs, hk, rfl, hown, hP, hB, hz6⟩ := hrel
      by_cases hlt : k < l.length
      · rcases hown.2 with ⟨hq, h0⟩ | ⟨go, cap, cur, hq, hbg, -⟩
        · omega
        · cases hq
          have hxl : xs.length = l.length * 2 := hown.1
          have hc1 := hown.cellAt (k * 2) (by omega)
          have hc2 := hown.cellAt (k * 2 + 1) (by omega)
          have hf1 := hown.frozenAt (k * 2)
          have hf2 := hown.frozenAt (k * 2 + 1)
          have q1 : k * 2 < xs.length := by omega
          have q2 : k * 2 + 1 < xs.length := by omega
          rw [List.getElem?_eq_getElem q1] at hc1
          rw [List.getElem?_eq_getElem q2] at hc2
          generalize xs[k * 2] = old1 at hc1
          generalize xs[k * 2 + 1] = old2 at hc2
          have HO := hide hown
          have HP := hide hP
          have hk1 : (0 : Int) ≤ (k : Int) := by omega
          have hk2 : (k : Int) < (l.length : Int) := by omega
          clear hown hP hxl q1 q2
          have hgo : go < w3.heap.size ∧ w2a.heap.size ≤ go := ⟨(hlo go rfl).2, (hlo go rfl).1⟩
          go_wp2
          go_roundw
          case rel =>
            obtain ⟨⟨xs', hx⟩, hp⟩ := spoil_step (k := k) (u1 := .int .i64 3) (u2 := .int .i64 0) HO.out HP.out (show go ≠ g by omega) (fun e => by have := hob _ e; omega)
            exact ⟨k + 1, xs', by omega, by go_num, hx, hp, (hB.setCell (p := ⟨go, k * 2, none⟩) (by show w.heap.size ≤ go; omega) _).setCell (p := ⟨go, k * 2 + 1, none⟩) (by show w.heap.size ≤ go; omega) _, by rw [size_set, size_set]; exact hz6⟩
          case measure => simp [intOf]; omega
      · have HP := hide hP
        clear hP hown
        go_wp2_with fail
        refine (rest_any g v' l _ HP.out hs).mono ?_
        rintro e w7 ⟨vx, rfl, hownx, hB7⟩
        obtain ⟨ax, cx, rfl⟩ := owns_slice hownx
        have HX := hide hownx
        have HP7 := hide (HP.out.below hB7)
        have hB07 := hB.trans (hB7.mono hB.size)
        have hlx := hownx.lt
        have hgr : g < wr.heap.size := World.block_lt_of_cell? wr _ HP.out.made
        have hob7 : ∀ k, v'.ownBlock = some k → 0 < l.length → k < wr.heap.size := fun k hk h0 => by
          rcases HP.out.list with ⟨rfl, _⟩ | ⟨a, c, rfl, h1⟩ | ⟨b, o, c, rfl, _, _, hc⟩
          · cases hk
          · rw [h1] at h0; simp at h0
          · cases hk; exact World.block_lt_of_cell? wr _ (hc 0 h0).1
        clear hownx HP
        go_wp2
        go_loopw [9] (fun i ws => ∃ (k : Nat) (xs : List Value), k ≤ l.length ∧ i = .int .i64 k ∧ ws.ownsRow wr.heap.size 60 2 (.slice ax l.length cx) l.length xs ∧ PlanAt ws g v' l ∧ Below w.heap.size w ws) (fun i _ => l.length - (intOf i).toNat)
        case atStart => exact ⟨0, _, Nat.zero_le _, rfl, HX.out, HP7.out, hB07⟩
        case round =>
          clear HX HP7 hB07
          obtain ⟨k, xs, hk, rfl, hown, hP, hBs⟩ := hrel
          by_cases hlt : k < l.length
          · rcases hown.2 with ⟨hq, h0⟩ | ⟨go, cap, cur, hq, hbg, -⟩
            · omega
            · cases hq
              have hxl : xs.length = l.length * 2 := hown.1
              have hc1 := hown.cellAt (k * 2) (by omega)
              have hc2 := hown.cellAt (k * 2 + 1) (by omega)
              have hf1 := hown.frozenAt (k * 2)
              have hf2 := hown.frozenAt (k * 2 + 1)
              have q1 : k * 2 < xs.length := by omega
              have q2 : k * 2 + 1 < xs.length := by omega
              rw [List.getElem?_eq_getElem q1] at hc1
              rw [List.getElem?_eq_getElem q2] at hc2
              generalize xs[k * 2] = old1 at hc1
              generalize xs[k * 2 + 1] = old2 at hc2
              have HO := hide hown
              have HP := hide hP
              have hk1 : (0 : Int) ≤ (k : Int) := by omega
              have hk2 : (k : Int) < (l.length : Int) := by omega
              clear hown hP hxl q1 q2
              have hwz := hB.size
              go_wp2
              go_roundw
              case rel =>
                obtain ⟨⟨xs', hx⟩, hp⟩ := spoil_step (k := k) (u1 := .int .i64 2) (u2 := .int .i64 0) HO.out HP.out (show go ≠ g by omega) (fun e => by have := hob7 _ e (by omega); omega)
                exact ⟨k + 1, xs', by omega, by go_num, hx, hp, (hBs.setCell (p := ⟨go, k * 2, none⟩) (by show w.heap.size ≤ go; omega) _).setCell (p := ⟨go, k * 2 + 1, none⟩) (by show w.heap.size ≤ go; omega) _⟩
              case measure => simp [intOf]; omega
          · have HP := hide hP
            clear hP hown
            go_wp2_with fail
            refine (rest_any g v' l _ HP.out hs).mono ?_
            rintro e w8 ⟨vy, rfl, howny, hB8⟩
            have HY := hide howny
            have hB08 := hBs.trans (hB8.mono hBs.size)
            clear howny
            go_wp2_with fail
            refine (samef_any _ _ l _ (Flts.of_owns HY.out) (H0.out.below hB08) (by unfold maxLen; omega)).mono ?_
            rintro e w9 ⟨rfl, hB9⟩
            go_wp2
            go_ret
            exact ⟨rfl, hB08.trans (hB9.mono hB08.size)⟩
  · have hne : ((chk l).1 == 0) = false := by simpa using hc
    have HN := hide fun v' w' hf => new_bad v' l w' hf (by unfold maxLen; omega) hc
    have HF := hide h
    generalize (chk l).1 = x at *
    clear hc h
    go_enter Try.func7, Try.ntmps7
    go_wp2_with fail
    refine (alive_any _).mono ?_
    rintro e w1 ⟨rfl, hB1⟩
    go_wp2_with fail
    refine (nothing_any _ _ (isMade_nil _)).mono ?_
    rintro e w2 ⟨rfl, rfl⟩
    go_wp2_with fail
    refine (nothing_any _ _ (isMade_no _ _ (by simp only [World.cell?, heap_alloc_new]; rfl))).mono ?_
    rintro e w2 ⟨rfl, rfl⟩
    have hBa := hB1.alloc hB1.size (Obj.cells #[Value.bool false, Value.slice none 0 0] 58)
    have HF2 := hide (HF.out.below hBa)
    generalize w2.alloc (Obj.cells #[Value.bool false, Value.slice none 0 0] 58) = w2a at *
    go_wp2_with fail
    refine (copyf_any v l _ HF2.out hs).mono ?_
    rintro e w3 ⟨vo, rfl, hown, hB3⟩
    obtain ⟨ao, co, rfl⟩ := owns_slice hown
    have HO := hide hown
    have hB03 := hBa.trans (hB3.mono hBa.size)
    clear hown HF2
    go_wp2_with fail
    refine (HN.out _ _ (Flts.of_owns HO.out)).mono ?_
    rintro e w4 ⟨rfl, hB4⟩
    go_wp2_with fail
    refine (num_any _ _).mono ?_
    rintro e w5 ⟨rfl, rfl⟩
    go_wp2
    all_goals
      go_ret
      exact ⟨rfl, hB03.trans (hB4.mono hB03.size)⟩
end Go.Proofs.Ytnabnnckhdileaa

/- FaultsPlays: the walk. -/
import Derived.Test.YtnabnnckhdileaaFAlive
import Derived.Test.YtnabnnckhdileaaFRef
import Derived.Test.YtnabnnckhdileaaFFrame
import Derived.Test.YtnabnnckhdileaaFEnd
import Derived.Deep.RegionHeld3
namespace Go.Proofs.Ytnabnnckhdileaa
open Go.RowKit

/-- Next, whatever is wanted. -/
theorem next_all (g : Nat) (v : Value) (l : List Fault) (want : Int) (w : World) (h : PlanAt w g v l) (hs : l.length ≤ 4096) :
    Calls Try.prog 19 #[.pointer (some ⟨g, 0, none⟩), .int .i64 want] w fun e w' => e = .returned (.tuple #[.int .i64 (nxt l want).1, .int .i64 (nxt l want).2]) ∧ ∃ v', PlanAt w' g v' (lft l want) ∧ v'.ownBlock = v.ownBlock ∧ w.grownBy w' (some g) := by
  by_cases hw : want < 1 ∨ 1048576 < want
  · rw [show nxt l want = (0, 4) by simp [nxt, hw], show lft l want = l by simp [lft, hw]]
    refine (next_range g v l want w h hw).mono ?_
    rintro e w' ⟨rfl, rfl⟩
    exact ⟨rfl, v, h, rfl, rfl, rfl, rfl, Nat.le_refl _, fun _ _ _ => rfl⟩
  · rw [show lft l want = l.tail by simp [lft, hw]]
    cases l with
    | nil =>
      rw [show nxt [] want = (want, 0) by simp [nxt, hw]]
      refine (next_end g v want w h (by omega) (by omega)).mono ?_
      rintro e w' ⟨rfl, rfl⟩
      exact ⟨rfl, v, h, rfl, rfl, rfl, rfl, Nat.le_refl _, fun _ _ _ => rfl⟩
    | cons f r => exact next_some g v f r want w h (by omega) (by omega) (by unfold maxLen; simp only [List.length_cons] at hs; omega)
/-- The reference's Next, whatever is wanted. -/
theorem rnext_all (g : Nat) (v : Value) (l : List Fault) (want : Int) (w : World) (h : RPlanAt w g v l) (hs : l.length ≤ 4096) :
    Calls Try.prog 20 #[.pointer (some ⟨g, 0, none⟩), .int .i64 want] w fun e w' => e = .returned (.tuple #[.int .i64 (nxt l want).1, .int .i64 (nxt l want).2]) ∧ ∃ v', RPlanAt w' g v' (lft l want) ∧ v'.ownBlock = v.ownBlock ∧ w.grownBy w' (some g) := by
  by_cases hw : want < 1 ∨ 1048576 < want
  · rw [show nxt l want = (0, 4) by simp [nxt, hw], show lft l want = l by simp [lft, hw]]
    refine (rnext_range g want w hw).mono ?_
    rintro e w' ⟨rfl, rfl⟩
    exact ⟨rfl, v, h, rfl, rfl, rfl, rfl, Nat.le_refl _, fun _ _ _ => rfl⟩
  · rw [show lft l want = l.tail by simp [lft, hw]]
    cases l with
    | nil =>
      rw [show nxt [] want = (want, 0) by simp [nxt, hw]]
      refine (rnext_end g v want w h (by omega) (by omega)).mono ?_
      rintro e w' ⟨rfl, rfl⟩
      exact ⟨rfl, v, h, rfl, rfl, rfl, rfl, Nat.le_refl _, fun _ _ _ => rfl⟩
    | cons f r => exact rnext_some g v f r want w h (by omega) (by omega) (by unfold maxLen; simp only [List.length_cons] at hs; omega)
theorem lft_len (l : List Fault) (want : Int) : (lft l want).length ≤ l.length := by
  unfold lft
  split
  · exact Nat.le_refl _
  · simp
/-- Two plans, the program's at g and the reference's at r, side by side. -/
structure Both (W : World) (base g r : Nat) (l : List Fault) : Prop where
  two : ∃ v u, PlanAt W g v l ∧ RPlanAt W r u l ∧ g ≠ r ∧ v.ownBlock ≠ some r ∧ u.ownBlock ≠ some g ∧ (∀ k, u.ownBlock = some k → k < W.heap.size) ∧ base ≤ g ∧ base ≤ r ∧ l.length ≤ 4096

set_option maxRecDepth 100000 in
set_option maxHeartbeats 4000000 in
theorem plays_walk (v vi : Value) (l : List Fault) (is : List Int) (w : World) (h : Flts w v l) (hi : Ints w vi is) (hs : l.length * 16 ≤ 140737488351232) (hsi : is.length * 8 ≤ 140737488351232) :
    Calls Try.prog 4 #[v, vi] w fun e w' => e = .returned (.bool true) ∧ Below w.heap.size w w' := by
  by_cases hc : (chk l).1 = 0
  · obtain ⟨hlen, hfb, -⟩ := chk_zero hc
    have H0 := hide h
    have HI := hide hi
    have HRC := hide fun w' hf => rcheck_any v l w' hf (by unfold maxLen; omega)
    rw [hc] at HRC
    obtain ⟨ai, ci, rfl, -⟩ := hi
    generalize (chk l).2 = y at *
    go_enter Try.func4, Try.ntmps4
    go_wp2_with fail
    refine (new_good _ l _ h hs hc).mono ?_
    rintro e w1 ⟨g, v', rfl, hP, hg1, hg2, hob, hB1⟩
    have HP := hide hP
    clear hP h hc hfb
    go_wp2_with fail
    refine (HRC.out _ (H0.out.below hB1)).mono ?_
    rintro e w2 ⟨rfl, hB2⟩
    have HP2 := hide (HP.out.below hB2)
    have hB02 := hB1.trans (hB2.mono hB1.size)
    clear HP HRC
    go_wp2_with fail
    refine (num_any _ _).mono ?_
    rintro e w3 ⟨rfl, rfl⟩
    go_wp2_with fail
    refine (copyf_any v l _ (H0.out.below hB02) hs).mono ?_
    rintro e w4 ⟨vo, rfl, hown, hB4⟩
    obtain ⟨ao, co, rfl⟩ := owns_slice hown
    have HO := hide hown
    have hB04 := hB02.trans (hB4.mono hB02.size)
    have HP4 := hide (HP2.out.below hB4)
    have hlo := hown.lt
    clear hown HP2
    go_wp2
    go_loopw [5, 10, 11, 12, 13, 14, 15] (fun pp i _ _ _ _ _ wr => ∃ (k gk : Nat) (lk : List Fault), k ≤ is.length ∧ pp = .pointer (some ⟨gk, 0, none⟩) ∧ i = .int .i64 k ∧ Both wr w.heap.size gk w4.heap.size lk ∧ Below w.heap.size w wr) (fun _ i _ _ _ _ _ _ => is.length - (intOf i).toNat)
    case atStart =>
      have hz := hB4.size
      have hz2 := hB2.size
      have hz3 := hB1.size
      refine ⟨0, g, l, Nat.zero_le _, rfl, rfl, ⟨v', .slice ao l.length co, HP4.out.below ((Below.refl _ _).alloc (Nat.le_refl _) _), ⟨?_, ?_, ?_, ?_⟩, ?_, ?_, ?_, ?_, hg1, ?_, hlen⟩, hB04.alloc hB04.size _⟩
      · simp only [World.cell?, heap_alloc_new]; rfl
      · simp only [World.frozen?, heap_alloc_new]; rfl
      · exact (Flts.of_owns HO.out).below ((Below.refl _ _).alloc (Nat.le_refl _) _)
      · intro e; have := (hlo _ e).2; omega
      · omega
      · intro e; have := hob _ e; omega
      · intro e; have := (hlo _ e).1; omega
      · intro k e
        have := hlo _ e
        have := size_new w4 (Obj.cells #[Value.slice ao l.length co] 47)
        omega
      · omega
    case round =>
      clear HO HP4 hB04 hlo hob
      obtain ⟨k, gk, lk, hk, rfl, rfl, ⟨⟨va, ua, hP, hR, hgr, hvr, hug, hus, hbg, hbr, hll⟩⟩, hB⟩ := hrel
      obtain ⟨ai', ci', heq, hint⟩ := HI.out
      cases heq
      by_cases hlt : k < is.length
      · obtain ⟨bi, oi, rfl, hci⟩ := hint (by omega)
        have hcell0 := hci k hlt
        have hbi := World.block_lt_of_cell? w _ hcell0
        have hcell := (hB.cell (p := ⟨bi, oi + k, none⟩) hbi).trans hcell0
        generalize is.getD k 0 = want at hcell hcell0
        have hk1 : (0 : Int) ≤ (k : Int) := by omega
        have hk2 : (k : Int) < (is.length : Int) := by omega
        have HP := hide hP
        have HR := hide hR
        have hgl : gk < wr.heap.size := World.block_lt_of_cell? wr _ hP.made
        have hrl : w4.heap.size < wr.heap.size := World.block_lt_of_cell? wr _ hR.left
        clear hP hR hci hint
        have HN := hide (next_all gk va lk want _ HP.out hll)
        have HN2 := hide fun w' hw' => rnext_all w4.heap.size ua lk want w' hw' hll
        have hll5 := Nat.le_trans (lft_len lk want) hll
        generalize (nxt lk want).1 = n1 at HN HN2
        generalize (nxt lk want).2 = n2 at HN HN2
        generalize lft lk want = lk5 at *
        go_wp2_with fail
        refine HN.out.mono ?_
        rintro e w5 ⟨rfl, v5, hP5, hob5, hG5⟩
        have hB5 := hB.grown hG5 hB.size (fun k e => by cases e; exact hbg)
        have HR5 := hide (HR.out.keep (W' := w5) fun b hb hor => hG5.block b hb (by
          rcases hor with rfl | he
          · intro e; cases e; exact hgr rfl
          · intro e; cases e; exact hug he))
        have HP5 := hide hP5
        have hs5 := hG5.size
        have hcell5 := (hB5.cell (p := ⟨bi, oi + k, none⟩) hbi).trans hcell0
        clear hP5 HN HP HR hcell
        go_wp2_with fail
        refine (HN2.out _ HR5.out).mono ?_
        rintro e w6 ⟨rfl, u6, hR6, hob6, hG6⟩
        have hB6 := hB5.grown hG6 hB5.size (fun k e => by cases e; exact hbr)
        have HP6 := hide (HP5.out.keep (W' := w6) fun b hb hor => hG6.block b hb (by
          rcases hor with rfl | he
          · intro e; cases e; exact hgr rfl
          · intro e; cases e; exact hvr (hob5 ▸ he)))
        have HR6 := hide hR6
        have hs6 := hG6.size
        have hrl6 : w4.heap.size < w6.heap.size := by omega
        have hcl := hR6.left
        clear hR6 HN2 HP5 HR5 hcell5
        obtain ⟨a6, c6, rfl, -⟩ := flts_form HR6.out.list
        go_wp2_with fail
        go_region_held3 (fun w' => w'.cell? ⟨w4.heap.size, 0, none⟩ = some (.slice a6 lk5.length c6))
          (first | exact (hB8.cell (Nat.lt_of_lt_of_le hrl6 hB7.size)).trans (by assumption) | exact (hB7.cell hrl6).trans (by assumption) | go_keep)
          (first | (go_at_call 15; refine (num_any _ _).mono ?_; rintro e w' ⟨rfl, rfl⟩) | (go_at_call 21; refine (rest_any gk v5 lk5 _ (HP6.out.below (by first | exact Below.refl _ _ | exact (Below.refl _ _).drew | exact below_drewN (Below.refl _ _) _)) (by omega)).mono ?_; rintro e w7 ⟨v7, rfl, hown7, hB7⟩) | (go_at_call 16; refine (samef_any _ _ lk5 _ (Flts.of_owns hown7) ((HR6.out.list.below (Below.refl _ _).drew).below hB7) (by unfold maxLen; omega)).mono ?_; rintro e w8 ⟨rfl, hB8⟩))
        have hd7 : Below w6.heap.size w6 w7 := (Below.refl _ _).drew.trans hB7
        have hd8 := hd7.trans (hB8.mono hd7.size)
        have HP8 := hide (HP6.out.below hd8)
        have HR8 := hide (HR6.out.below hd8)
        have hB08 := hB6.trans (hd8.mono hB6.size)
        have hus8 : ∀ k, (Value.slice a6 lk5.length c6).ownBlock = some k → k < w8.heap.size := fun k e => by
          have h1 := hus k (hob6 ▸ e)
          have h2 := hd8.size
          omega
        have hug8 : (Value.slice a6 lk5.length c6).ownBlock ≠ some gk := fun e => hug (hob6 ▸ e)
        have hvr8 : v5.ownBlock ≠ some w4.heap.size := fun e => hvr (hob5 ▸ e)
        have hrl8 : w4.heap.size < w8.heap.size := Nat.lt_of_lt_of_le hrl6 hd8.size
        have hgl8 : gk < w8.heap.size := World.block_lt_of_cell? w8 _ HP8.out.made
        clear HP6 HR6 hown7 hB7 hB8 hd7 hd8 hcl hB6 hB5 hB hG5 hG6 hus hug hvr hob5 hob6 hs5 hs6 hrl6 hrl hgl
        by_cases h3 : ((k : Int) % 4 == 3) = true
        · go_wp2_with fail
          refine (copy_plan gk v5 lk5 _ HP8.out (by omega)).mono ?_
          rintro e w9 ⟨g9, v9, rfl, hP9, hg9, hg9', hob9, hB9⟩
          have HP9 := hide hP9
          have HP8' := hide (HP8.out.below hB9)
          have HR9 := hide (HR8.out.below hB9)
          have hB09 := hB08.trans (hB9.mono hB08.size)
          have hz9 := hB9.size
          clear hP9 HP8 HR8 hB08
          go_wp2_with fail
          refine (next_all gk v5 lk5 1 _ HP8'.out hll5).mono ?_
          rintro e wx ⟨rfl, vx, hPx, hobx, hGx⟩
          have hBx := hB09.grown hGx hB09.size (fun k e => by cases e; exact hbg)
          have hzx := hGx.size
          have HRx := hide (HR9.out.keep (W' := wx) fun b hb hor => hGx.block b hb (by
            rcases hor with rfl | he
            · intro e; cases e; exact hgr rfl
            · intro e; cases e; exact hug8 he))
          have HPx := hide (HP9.out.keep (W' := wx) fun b hb hor => hGx.block b hb (by
            rcases hor with rfl | he
            · intro e; cases e; omega
            · intro e; cases e; have := hob9 _ he; omega))
          clear hPx HP8' HR9 HP9 hGx hobx hB9
          go_wp2
          go_roundw
          case rel =>
            refine ⟨k + 1, g9, lk5, by omega, rfl, by go_num, ⟨v9, _, HPx.out, HRx.out, by omega, ?_, ?_, ?_, by omega, hbr, hll5⟩, hBx⟩
            · intro e; have := hob9 _ e; omega
            · intro e; have := hus8 _ e; omega
            · intro j e; have := hus8 _ e; omega
          case measure => simp [intOf]; omega
        · have h3' : ((k : Int) % 4 == 3) = false := by simpa using h3
          clear h3
          go_wp2
          go_roundw
          case rel => exact ⟨k + 1, gk, lk5, by omega, rfl, by go_num, ⟨v5, _, HP8.out, HR8.out, hgr, hvr8, hug8, hus8, hbg, hbr, hll5⟩, hB08⟩
          case measure => simp [intOf]; omega
      · clear hP hR hint
        go_wp2_with fail
        refine (alive_any _).mono ?_
        rintro e w5 ⟨rfl, hB5⟩
        go_wp2
        go_ret
        exact ⟨rfl, hB.trans (hB5.mono hB.size)⟩
  · have hne : ((chk l).1 == 0) = false := by simpa using hc
    have hne2 : ((chk l).1 != 0) = true := by simpa using hc
    have HN := hide fun w' hf => new_bad v l w' hf (by unfold maxLen; omega) hc
    have HRC := hide fun w' hf => rcheck_any v l w' hf (by unfold maxLen; omega)
    have HF := hide h
    obtain ⟨ai, ci, rfl, -⟩ := hi
    generalize (chk l).1 = x at *
    generalize (chk l).2 = y at *
    clear hc h
    go_enter Try.func4, Try.ntmps4
    go_wp2_with fail
    refine (HN.out _ HF.out).mono ?_
    rintro e w1 ⟨rfl, hB1⟩
    go_wp2_with fail
    refine (HRC.out _ (HF.out.below hB1)).mono ?_
    rintro e w2 ⟨rfl, hB2⟩
    have hB02 := hB1.trans (hB2.mono hB1.size)
    go_wp2_with fail
    refine (num_any _ _).mono ?_
    rintro e w3 ⟨rfl, rfl⟩
    go_wp2_with fail
    refine (copyf_any v l _ (HF.out.below hB02) hs).mono ?_
    rintro e w4 ⟨vo, rfl, hown, hB4⟩
    obtain ⟨ao, co, rfl⟩ := owns_slice hown
    have hB04 := hB02.trans (hB4.mono hB02.size)
    clear hown
    go_wp2
    go_loopw [5, 10, 11, 12, 13, 14, 15] (fun pp i _ _ _ _ _ wr => pp = .pointer none ∧ i = .int .i64 0 ∧ Below w.heap.size w wr) (fun _ _ _ _ _ _ _ _ => 0)
    case atStart => exact ⟨rfl, rfl, hB04.alloc hB04.size _⟩
    case round =>
      obtain ⟨rfl, rfl, hB⟩ := hrel
      go_wp2_with fail
      refine (alive_any _).mono ?_
      rintro e w5 ⟨rfl, hB5⟩
      go_wp2
      go_ret
      exact ⟨rfl, hB.trans (hB5.mono hB.size)⟩
end Go.Proofs.Ytnabnnckhdileaa

/- What the proof stands on, part 21: the contracts of the program's calls that it reaches. -/
import Derived.Test.YtejcfhjhjplcnaaGreatKM20
import Derived.Deep.RegionWith
/- The reference's table: New, DupTo, CloseAll. -/
namespace Go.Proofs.YtejcfhjhjplcnaaGreat
open Go.RowKit Go.Maps

theorem rtb_new {W : World} {t kb : Nat} (h : W.heap[t]? = some (.cells (.pointer (some ⟨kb, 0, none⟩) :: zslots 64).toArray 181 (0, 0))) : RTb W t kb (fun _ => 0) (fun _ => false) := by
  refine ⟨⟨_, h⟩, ?_, fun i hi => ?_, fun i hi => ?_⟩
  · rw [cell_of_row W t 0 _ _ _ h, List.getElem?_toArray, List.getElem?_cons_zero]
  · rw [cell_of_row W t _ _ _ _ h, List.getElem?_toArray, Nat.add_comm, List.getElem?_cons_succ]
    exact (zslots_at 64 i hi).1
  · rw [cell_of_row W t _ _ _ _ h, List.getElem?_toArray, show 1 + i * 2 + 1 = (i * 2 + 1) + 1 by omega, List.getElem?_cons_succ]
    exact (zslots_at 64 i hi).2
set_option maxRecDepth 100000 in
set_option maxHeartbeats 2000000 in
theorem rtnew_any (kb : Nat) (w : World) :
    Calls Tryz.prog 19 #[.pointer (some ⟨kb, 0, none⟩)] w fun e w' => e = .returned (.pointer (some ⟨w.heap.size, 0, none⟩)) ∧ RTb w' w.heap.size kb (fun _ => 0) (fun _ => false) ∧ Below w.heap.size w w' ∧ w'.heap.size = w.heap.size + 1 := by
  have HT : Hid (RTb (w.alloc (.cells (.pointer (some ⟨kb, 0, none⟩) :: zslots 64).toArray 181 (0, 0))) w.heap.size kb (fun _ => 0) (fun _ => false)) := hide (rtb_new (heap_alloc_new w _))
  have HB := hide (recv_below w (.cells (.pointer (some ⟨kb, 0, none⟩) :: zslots 64).toArray 181 (0, 0)))
  have HS := hide (World.size_alloc w (.cells (.pointer (some ⟨kb, 0, none⟩) :: zslots 64).toArray 181 (0, 0)))
  go_enter Tryz.func19, Tryz.ntmps19
  go_wp2_with fail
  go_ret
  exact ⟨rfl, HT.out, HB.out, HS.out⟩
theorem close_put (S : TS) {j : Nat} (hj : j < 64) (d : Int) : (⟨(S.close (j : Int)).2.K, tset (S.close (j : Int)).2.ds j d, tset (S.close (j : Int)).2.ms j false⟩ : TS) = ⟨(S.release j).K, tset S.ds j d, tset S.ms j false⟩ := by
  unfold TS.close
  by_cases hu : S.uses (j : Int) = true
  · rw [if_pos hu]
    simp only [Int.toNat_natCast, TS.release, tset_twice]
  · rw [if_neg hu]
    have h0 : S.ds j = 0 := by
      by_cases h0 : S.ds j = 0
      · exact h0
      · exact absurd (uses_of hj h0) hu
    simp only [TS.release, h0, if_true]
set_option maxRecDepth 100000 in
set_option maxHeartbeats 2000000 in
theorem rtdupTo_any (t kb : Nat) (O : Nat → Prop) (S : TS) (fd to : Int) (w : World) (h : RTW w O t kb S) :
    Calls Tryz.prog 103 #[.pointer (some ⟨t, 0, none⟩), .int .i64 fd, .int .i64 to] w fun e w' => e = .returned (.int .i64 (S.dupTo fd to).1) ∧ RTStep w O t kb (S.dupTo fd to).2 w' := by
  have HU := hide (rtused_any t kb S fd w h.tb)
  have HW := hide h
  by_cases hu : S.uses fd = true
  case neg =>
    have hu' : S.uses fd = false := by simpa using hu
    have hc : S.dupTo fd to = (71, S) := by unfold TS.dupTo; rw [if_neg hu]
    rw [hc]
    rw [hu'] at HU
    clear hc hu h hu'
    go_enter Tryz.func103, Tryz.ntmps103
    go_wp2_with (first | (go_at_call 193; refine HU.out.mono ?_; rintro _ _ ⟨rfl, rfl⟩) | fail)
    go_ret
    exact ⟨rfl, RTStep.below HW.out (Below.refl _ _)⟩
  by_cases hr : 0 ≤ to ∧ to < 64
  case neg =>
    have hc : S.dupTo fd to = (71, S) := by unfold TS.dupTo; rw [if_pos hu, if_neg hr]
    rw [hc]
    rw [hu] at HU
    clear hc hu h
    by_cases h0 : to < 0
    · go_enter Tryz.func103, Tryz.ntmps103
      go_wp2_with (first | (go_at_call 193; refine HU.out.mono ?_; rintro _ _ ⟨rfl, rfl⟩) | fail)
      go_ret
      exact ⟨rfl, RTStep.below HW.out (Below.refl _ _)⟩
    · have h1 : ¬ to < 64 := by omega
      clear hr
      go_enter Tryz.func103, Tryz.ntmps103
      go_wp2_with (first | (go_at_call 193; refine HU.out.mono ?_; rintro _ _ ⟨rfl, rfl⟩) | fail)
      go_ret
      exact ⟨rfl, RTStep.below HW.out (Below.refl _ _)⟩
  obtain ⟨j, rfl⟩ : ∃ j : Nat, to = j := ⟨to.toNat, by omega⟩
  have hj : j < 64 := by omega
  have hj0 : (0 : Int) ≤ (j : Int) := by omega
  have hj1 : (j : Int) < 64 := by omega
  have hj2 : ¬ (j : Int) < 0 := by omega
  have hj3 : ¬ (64 : Int) ≤ (j : Int) := by omega
  obtain ⟨i, rfl, hi, hz⟩ := uses_yes hu
  have hi1 : (0 : Int) ≤ (i : Int) := by omega
  have hi2 : (i : Int) < 64 := by omega
  by_cases he : (j : Int) = (i : Int)
  · have hc : S.dupTo (i : Int) (j : Int) = (0, S) := by unfold TS.dupTo; rw [if_pos hu, if_pos hr, if_pos he]
    rw [hc]
    rw [hu] at HU
    clear hc hu h hr
    obtain rfl : j = i := by omega
    go_enter Tryz.func103, Tryz.ntmps103
    go_wp2_with (first | (go_at_call 193; refine HU.out.mono ?_; rintro _ _ ⟨rfl, rfl⟩) | fail)
    go_ret
    exact ⟨rfl, RTStep.below HW.out (Below.refl _ _)⟩
  have he' : ((j : Int) == (i : Int)) = false := by simpa using he
  have hc : S.dupTo (i : Int) (j : Int) = if S.K.keepE (S.ds i) = 0 then (0, ⟨((⟨S.K.keepK (S.ds i), S.ds, S.ms⟩ : TS).release j).K, tset S.ds j (S.ds i), tset S.ms j false⟩) else (S.K.keepE (S.ds i), ⟨S.K.keepK (S.ds i), S.ds, S.ms⟩) := by unfold TS.dupTo; rw [if_pos hu, if_pos hr, if_neg he]; rfl
  rw [hu] at HU
  have q := h.tb.sl i hi
  have qk := h.tb.ck
  have HO := hide (h.k.keepD (S.ds i))
  rw [hc]
  clear hc hu hr h
  generalize S.K.keepE (S.ds i) = E at *
  generalize S.K.keepK (S.ds i) = K' at *
  go_enter Tryz.func103, Tryz.ntmps103
  go_wp2_with (first | (go_at_call 193; refine HU.out.mono ?_; rintro _ _ ⟨rfl, rfl⟩) | fail)
  refine HO.out.mono ?_
  rintro e w5 ⟨rfl, hS⟩
  obtain ⟨O5, h5, hO5, hT5⟩ := HW.out.kstep hS
  by_cases hE : E = 0
  · subst hE
    have HC := hide (rtclose_any t kb O5 ⟨K', S.ds, S.ms⟩ j w5 h5)
    have HS5 := hide (And.intro hO5 hT5)
    have hpj := close_put ⟨K', S.ds, S.ms⟩ hj (S.ds i)
    have Hpj := hide hpj
    generalize (⟨K', S.ds, S.ms⟩ : TS).close (j : Int) = R at *
    obtain ⟨r1, S6⟩ := R
    clear h5 hO5 hT5 hS q qk hpj
    go_wp2_with fail
    refine HC.out.mono ?_
    rintro e w6 ⟨rfl, hS6⟩
    obtain ⟨O6, h6, hO6, hT6⟩ := RTStep.join HS5.out.1 HS5.out.2 hS6 (Below.refl _ _)
    have c1 := h6.tb.sl j hj
    have c2 := h6.tb.mks j hj
    have f1 := h6.tb.soft (1 + j * 2)
    have f2 := h6.tb.soft (1 + j * 2 + 1)
    have HS := hide (RTStep.join hO6 hT6 (h6.put hj (S.ds i) false) (Below.refl _ _))
    rw [Hpj.out] at HS
    clear h6 hO6 hT6 hS6
    go_wp2_with fail
    go_ret
    exact ⟨rfl, HS.out⟩
  · have hE' : (E == 0) = false := by simpa using hE
    have HS : Hid (RTStep w O t kb ⟨K', S.ds, S.ms⟩ w5) := hide ⟨O5, h5, hO5, hT5⟩
    clear h5 hO5 hT5 hS q qk
    go_wp2_with fail
    go_ret
    exact ⟨rfl, HS.out⟩
def TS.closeTo (S : TS) (n : Nat) : TS := (useds S.ds n).foldl TS.release S
theorem release_ds (S : TS) (i j : Nat) (h : j ≠ i) : (S.release i).ds j = S.ds j := tset_other _ _ h
theorem closeTo_ds (S : TS) (n : Nat) : ∀ j, n ≤ j → (S.closeTo n).ds j = S.ds j := by
  intro j hj
  have key : ∀ (l : List Nat) (X : TS), (∀ x ∈ l, x ≠ j) → (l.foldl TS.release X).ds j = X.ds j := by
    intro l
    induction l with
    | nil => intro X _; rfl
    | cons x l ih =>
      intro X hx
      rw [List.foldl_cons, ih _ (fun y hy => hx y (List.mem_cons_of_mem _ hy))]
      exact release_ds X x j (fun e => hx x (List.mem_cons_self ..) e.symm)
  exact key _ S (fun x hx e => by
    have := List.mem_range.1 (List.mem_filter.1 hx).1
    omega)
theorem closeTo_next (S : TS) {n : Nat} (hn : n < 64) : ((S.closeTo n).close (n : Int)).2 = S.closeTo (n + 1) := by
  have hd := closeTo_ds S n n (Nat.le_refl _)
  unfold TS.close
  by_cases h0 : S.ds n = 0
  · have hu : ¬ (S.closeTo n).uses (n : Int) = true := fun hu => by
      obtain ⟨i, e, _, hz⟩ := uses_yes hu
      obtain rfl : n = i := by omega
      exact hz (hd.trans h0)
    rw [if_neg hu]
    unfold TS.closeTo
    rw [useds_succ, if_pos h0, List.append_nil]
  · rw [if_pos (uses_of hn (by rw [hd]; exact h0))]
    unfold TS.closeTo
    rw [useds_succ, if_neg h0, List.foldl_append]
    rfl
set_option maxRecDepth 100000 in
theorem rtcloseAll_any (t kb : Nat) (O : Nat → Prop) (S : TS) (w : World) (h : RTW w O t kb S) :
    Calls Tryz.prog 112 #[.pointer (some ⟨t, 0, none⟩)] w fun e w' => (∃ v, e = .returned v) ∧ RTStep w O t kb S.closeAll w' := by
  have HS0 : Hid (RTStep w O t kb (S.closeTo 0) w) := hide (RTStep.below h (Below.refl _ _))
  clear h
  go_enter Tryz.func112, Tryz.ntmps112
  go_wp2_with fail
  go_loopg [2] 64 (fun g s2 wx => ∃ i : Nat, i + g = 64 ∧ s2 = .int .i64 i ∧ Hid (RTStep w O t kb (S.closeTo i) wx))
  case atStart => exact ⟨0, by omega, rfl, HS0⟩
  case round =>
    clear HS0
    obtain ⟨i, hig, rfl, HS⟩ := hrel
    by_cases hi : i < 64
    · obtain ⟨g, rfl⟩ : ∃ g, gk = g + 1 := ⟨gk - 1, by omega⟩
      have hi2 : (i : Int) < 64 := by omega
      obtain ⟨O5, h5, hO5, hT5⟩ := HS.out
      have HC := hide (rtclose_any t kb O5 (S.closeTo i) i wr h5)
      have HS5 := hide (And.intro hO5 hT5)
      clear h5 hO5 hT5
      go_wp2_with fail
      refine HC.out.mono ?_
      rintro e w6 ⟨rfl, hS6⟩
      have HS6 := hide (RTStep.join HS5.out.1 HS5.out.2 hS6 (Below.refl _ _))
      rw [closeTo_next S hi] at HS6
      clear hS6
      go_wp2_with fail
      go_roundg g
      case measure => omega
      case rel => exact ⟨i + 1, by omega, by go_num, HS6⟩
    · have hi2 : ¬ (i : Int) < 64 := by omega
      obtain rfl : i = 64 := by omega
      go_wp2_with fail
      go_end0
      exact ⟨⟨_, rfl⟩, HS.out⟩
end Go.Proofs.YtejcfhjhjplcnaaGreat

/- The reference's table: List. -/
namespace Go.Proofs.YtejcfhjhjplcnaaGreat
open Go.RowKit Go.Maps

set_option maxRecDepth 100000 in
theorem rtlist_any (t kb : Nat) (S : TS) (w : World) (h : RTb w t kb S.ds S.ms) :
    Calls Tryz.prog 25 #[.pointer (some ⟨t, 0, none⟩)] w fun e w' => ∃ v, e = .returned v ∧ w'.ownsRow w.heap.size 3 1 v (useds S.ds 64).length (ivs (useds S.ds 64)) ∧ Below w.heap.size w w' := by
  have HT := hide h
  clear h
  go_enter Tryz.func25, Tryz.ntmps25
  go_wp2_with fail
  go_loopg [3, 4] 64 (fun gq s3 s4 wx => ∃ k : Nat, k + gq = 64 ∧ s4 = .int .i64 k ∧ Hid (wx.ownsRow w.heap.size 3 1 s3 (useds S.ds k).length (ivs (useds S.ds k))) ∧ Hid (Below w.heap.size w wx))
  case atStart => exact ⟨0, by omega, rfl, hide (show w.ownsRow w.heap.size 3 1 (.slice none 0 0) 0 [] from World.ownsRow_nil _ _ _ _), hide (Below.refl _ _)⟩
  case round =>
    obtain ⟨k, hkg, rfl, HO, HB⟩ := hrel
    by_cases hlt : k < 64
    · obtain ⟨g, rfl⟩ : ∃ g, gk = g + 1 := ⟨gk - 1, by omega⟩
      have hk1 : (0 : Int) ≤ (k : Int) := by omega
      have hk2 : (k : Int) < 64 := by omega
      have q := (HT.out.below HB.out).sl k hlt
      have HS := hide (useds_succ S.ds k)
      generalize S.ds k = d at *
      by_cases hd : d = 0
      · subst hd
        rw [if_pos rfl, List.append_nil] at HS
        rw [← HS.out] at HO
        go_wp2_with fail
        go_roundg g
        case measure => omega
        case rel => exact ⟨k + 1, by omega, by go_num, HO, HB⟩
      · rw [if_neg hd] at HS
        have hd' : (d != 0) = true := by simpa using hd
        obtain ⟨va, vc, rfl⟩ := owns_slice HO.out
        have hBt := recv_below wr (Obj.cells #[.int .i64 (k : Int)] 3)
        have hcell := recv_cell wr (.int .i64 (k : Int)) 3
        have hB2 := HB.out.trans (hBt.mono HB.out.size)
        obtain ⟨s', w7, hrun, HO7, hg7⟩ := run_append_int (wr.alloc (Obj.cells #[.int .i64 (k : Int)] 3)) 57 w.heap.size _ _ _ wr.heap.size 1 (.int .i64 (k : Int)) (HO.out.alloc _) hcell rfl (by have := useds_len S.ds k; omega) hB2.size
        have HRun := hide hrun
        have HO8 : Hid (w7.ownsRow w.heap.size 3 1 s' (useds S.ds (k + 1)).length (ivs (useds S.ds (k + 1)))) := hide (by rw [HS.out]; simpa [ivs] using HO7.out)
        have HB8 : Hid (Below w.heap.size w w7) := hide (hB2.grown hg7 hB2.size (fun j e => (HO.out.lt j e).1))
        clear hrun hBt hB2 hg7 HO7
        go_wp2_with (first | (at_builtin; refine Lib.wpList_append_run _ rfl _ _ _ _ rfl _ _ rfl rfl _ _ HRun.out ?_) | fail)
        go_roundg g
        case measure => omega
        case rel => exact ⟨k + 1, by omega, by go_num, HO8, HB8⟩
    · have hk2 : ¬ (k : Int) < 64 := by omega
      obtain rfl : k = 64 := by omega
      go_wp2_with fail
      go_ret
      exact ⟨_, rfl, HO.out, HB.out⟩
end Go.Proofs.YtejcfhjhjplcnaaGreat

/- The reference's table: Fork. -/
namespace Go.Proofs.YtejcfhjhjplcnaaGreat
open Go.RowKit Go.Maps

def RFk (w : World) (O : Nat → Prop) (t c kb : Nat) (S : TS) (K' : KS) (cds : Nat → Int) (w' : World) : Prop := ∃ O', RTW w' O' t kb ⟨K', S.ds, S.ms⟩ ∧ RTb w' c kb cds (fun _ => false) ∧ ¬ O' c ∧ (∀ k, O' k → O k ∨ c < k) ∧ Turned O w w'
theorem RFk.keep {w wr : World} {O : Nat → Prop} {t c kb : Nat} {S : TS} {K' : KS} {cds : Nat → Int} (h : RFk w O t c kb S K' cds wr) (hc : w.heap.size ≤ c) : ∃ O', RAt wr O' kb K' ∧ ∀ wX, Below wr.heap.size wr wX → ∀ K'' w5, RKStep wX O' kb K'' w5 → RFk w O t c kb S K'' cds w5 := by
  obtain ⟨O', h1, h2, h3, h4, h5⟩ := h
  refine ⟨O', h1.k, fun wX hB K'' w5 hS => ?_⟩
  have hT := hS.turned
  obtain ⟨O5, a1, a2, a3⟩ := hS
  have hcl := h2.lt
  have htl := h1.tb.lt
  have hz := hB.size
  refine ⟨O5, ⟨a1, (h1.tb.below hB).turned hT h1.apart, fun e => ?_⟩, (h2.below hB).turned hT h3, fun e => ?_, fun k e => ?_, (h5.trans (Turned.of_below (S := O) hB) (fun _ _ e => e)).trans hT (fun k hk e => ?_)⟩
  · rcases a2 t e with e | e
    · exact h1.apart e
    · omega
  · rcases a2 c e with e | e
    · exact h3 e
    · omega
  · rcases a2 k e with e | e
    · exact h4 k e
    · exact .inr (by omega)
  · rcases h4 k e with e | e
    · exact e
    · omega
theorem RFk.below {w wr w' : World} {O : Nat → Prop} {t c kb : Nat} {S : TS} {K' : KS} {cds : Nat → Int} (h : RFk w O t c kb S K' cds wr) (hB : Below wr.heap.size wr w') : RFk w O t c kb S K' cds w' := by
  obtain ⟨O', h1, h2, h3, h4, h5⟩ := h
  exact ⟨O', h1.below hB, h2.below hB, h3, h4, h5.trans (Turned.of_below (S := O) hB) (fun _ _ e => e)⟩
theorem RFk.put {w wr : World} {O : Nat → Prop} {t c kb : Nat} {S : TS} {K' : KS} {cds : Nat → Int} (h : RFk w O t c kb S K' cds wr) (hc : w.heap.size ≤ c) (htc : t ≠ c) {i : Nat} (hi : i < 64) (d : Int) : RFk w O t c kb S K' (tset cds i d) ((wr.setCell ⟨c, 1 + i * 2, none⟩ (.int .i64 d)).setCell ⟨c, 1 + i * 2 + 1, none⟩ (.bool false)) := by
  obtain ⟨O', h1, h2, h3, h4, h5⟩ := h
  have hT : Turned (fun k => k = c) wr ((wr.setCell ⟨c, 1 + i * 2, none⟩ (.int .i64 d)).setCell ⟨c, 1 + i * 2 + 1, none⟩ (.bool false)) := ((Turned.refl (fun k => k = c) wr).set (.inl rfl)).set (.inl rfl)
  have hm := (h2.desc hi d).mark hi false
  rw [show tset (fun _ : Nat => false) i false = fun _ => false by funext j; unfold tset; split <;> rfl] at hm
  exact ⟨O', ⟨h1.k.keep (fun k hO hk => hT.block k hk (fun e => h3 (e ▸ hO))) hT.size, h1.tb.turned hT htc, h1.apart⟩, hm, h3, h4, h5.trans hT (fun k hk e => by omega)⟩
theorem rfar {W : World} {c t a b : Nat} {v : Value} (h : t ≠ c) : (W.setCell ⟨c, a, none⟩ v).cell? ⟨t, b, none⟩ = W.cell? ⟨t, b, none⟩ :=
  World.cell?_setCell_other (w := W) (a := ⟨c, a, none⟩) (b := ⟨t, b, none⟩) (v := v) (fun e => h (by cases e; rfl))
theorem RFk.cells {w wr : World} {O : Nat → Prop} {t c kb : Nat} {S : TS} {K' : KS} {cds : Nat → Int} (h : RFk w O t c kb S K' cds wr) {k : Nat} (hk : k < 64) (hm : S.ms k = false) : wr.cell? ⟨t, 0, none⟩ = some (.pointer (some ⟨kb, 0, none⟩)) ∧ wr.cell? ⟨t, 1 + k * 2, none⟩ = some (.int .i64 (S.ds k)) ∧ wr.cell? ⟨t, 1 + k * 2 + 1, none⟩ = some (.bool false) := by
  obtain ⟨_, h1, _⟩ := h
  exact ⟨h1.tb.ck, h1.tb.sl k hk, (h1.tb.mks k hk).trans (by rw [hm])⟩
set_option maxRecDepth 100000 in
set_option maxHeartbeats 2000000 in
theorem rtfork_any (t kb : Nat) (O : Nat → Prop) (S : TS) (w : World) (h : RTW w O t kb S) (hO : ∀ k, O k → k < w.heap.size) :
    Calls Tryz.prog 21 #[.pointer (some ⟨t, 0, none⟩)] w fun e w' => e = .returned (.pointer (some ⟨w.heap.size, 0, none⟩)) ∧ RFk w O t w.heap.size kb S (S.fork 64).1 (S.fork 64).2 w' := by
  have HN := hide (rtnew_any kb w)
  have HW := hide h
  have qk := h.tb.ck
  have htl : t < w.heap.size := h.tb.lt
  have HO := hide hO
  clear h hO
  go_enter Tryz.func21, Tryz.ntmps21
  go_wp2_with fail
  refine HN.out.mono ?_
  rintro e w1 ⟨rfl, hN, hB, hz⟩
  have HF : Hid (RFk w O t w.heap.size kb S (S.fork 0).1 (S.fork 0).2 w1) := hide ⟨O, HW.out.below hB, hN, fun e => by have := HO.out _ e; omega, fun k e => .inl e, Turned.of_below hB⟩
  clear hN hB hz HN
  go_wp2_with fail
  go_loopg [4] 64 (fun gq s4 wx => ∃ k : Nat, k + gq = 64 ∧ s4 = .int .i64 k ∧ Hid (RFk w O t w.heap.size kb S (S.fork k).1 (S.fork k).2 wx))
  case atStart => exact ⟨0, by omega, rfl, HF⟩
  case round =>
    clear HF qk
    obtain ⟨k, hkg, rfl, HF⟩ := hrel
    by_cases hlt : k < 64
    · obtain ⟨g, rfl⟩ : ∃ g, gk = g + 1 := ⟨gk - 1, by omega⟩
      have hk1 : (0 : Int) ≤ (k : Int) := by omega
      have hk2 : (k : Int) < 64 := by omega
      obtain ⟨q0, q1, qk⟩ : wr.cell? ⟨t, 1 + k * 2, none⟩ = some (.int .i64 (S.ds k)) ∧ wr.cell? ⟨t, 1 + k * 2 + 1, none⟩ = some (.bool (S.ms k)) ∧ wr.cell? ⟨t, 0, none⟩ = some (.pointer (some ⟨kb, 0, none⟩)) := by
        obtain ⟨_, h1, _⟩ := HF.out
        exact ⟨h1.tb.sl k hlt, h1.tb.mks k hlt, h1.tb.ck⟩
      by_cases hd : S.ds k = 0
      · have HF' := HF
        rw [← fork_skip (S := S) (n := k) (.inl hd)] at HF'
        rw [hd] at q0
        go_wp2_with fail
        go_quiet (fail)
        go_wp2_with fail
        go_roundg g
        case measure => omega
        case rel => exact ⟨k + 1, by omega, by go_num, HF'.out.below (below_drewN (Below.refl _ _) _)⟩
      have hd' : (S.ds k != 0) = true := by simpa using hd
      by_cases hm : S.ms k = true
      · have HF' := HF
        rw [← fork_skip (S := S) (n := k) (.inr hm)] at HF'
        rw [hm] at q1
        generalize S.ds k = d at *
        go_wp2_with fail
        go_quiet (fail)
        go_wp2_with fail
        go_roundg g
        case measure => omega
        case rel => exact ⟨k + 1, by omega, by go_num, HF'.out.below (below_drewN (Below.refl _ _) _)⟩
      have hm' : S.ms k = false := by simpa using hm
      rw [hm'] at q1
      have HT := hide (fork_take (S := S) (n := k) hd hm')
      obtain ⟨O', hA, hNext⟩ := HF.out.keep (Nat.le_refl _)
      have HK := hide ((hA.below (Below.refl _ _).drew).keepD (S.ds k))
      have HNx := hide (hNext wr.drew (Below.refl _ _).drew)
      generalize (S.fork k).1.keepE (S.ds k) = E at *
      generalize hK' : (S.fork k).1.keepK (S.ds k) = K' at *
      clear hK' hA hNext
      generalize hcd : (S.fork k).2 = cds at *
      clear hcd
      go_wp2_with fail
      go_region_held3 (fun w' => w'.cell? ⟨t, 0, none⟩ = some (.pointer (some ⟨kb, 0, none⟩)) ∧ w'.cell? ⟨t, 1 + k * 2, none⟩ = some (.int .i64 (S.ds k)) ∧ w'.cell? ⟨t, 1 + k * 2 + 1, none⟩ = some (.bool false))
        (first | exact hx5 | exact ⟨qk, q0, q1⟩ | go_keep)
        (first
          | (go_at_call 70; refine HK.out.mono ?_; rintro e w5 ⟨rfl, hS⟩; have hF5 := HNx.out K' w5 hS; have hx5 := RFk.cells hF5 hlt hm')
          | fail)
      have HF5 := hide hF5
      obtain ⟨x0, x1, x2⟩ := hx5
      clear q0 q1 qk hF5 hS
      by_cases hE : E = 0
      · subst hE
        rw [if_pos rfl] at HT
        obtain ⟨y1, y2, f1, f2⟩ : w5.cell? ⟨w.heap.size, 1 + k * 2, none⟩ = some (.int .i64 (cds k)) ∧ w5.cell? ⟨w.heap.size, 1 + k * 2 + 1, none⟩ = some (.bool false) ∧ w5.frozen? ⟨w.heap.size, 1 + k * 2, none⟩ = false ∧ w5.frozen? ⟨w.heap.size, 1 + k * 2 + 1, none⟩ = false := by
          obtain ⟨_, _, h2, _⟩ := HF5.out
          exact ⟨h2.sl k hlt, h2.mks k hlt, h2.soft _, h2.soft _⟩
        go_wp2_with fail
        have htc : t ≠ w.heap.size := by omega
        have far : ((w5.setCell ⟨w.heap.size, 1 + k * 2, none⟩ (.int .i64 (S.ds k))).setCell ⟨w.heap.size, 1 + k * 2 + 1, none⟩ (.bool false)).cell? ⟨t, 1 + k * 2, none⟩ = some (.int .i64 (S.ds k)) :=
          (rfar htc).trans ((rfar htc).trans x1)
        clear HK HNx HF x0 x2
        go_region_held3 (fun w' => w'.cell? ⟨t, 1 + k * 2, none⟩ = some (.int .i64 (S.ds k)))
          (first | exact x1 | exact far | go_keep)
          (fail)
        go_wp2_with fail
        go_roundg g
        case measure => omega
        case rel => exact ⟨k + 1, by omega, by go_num, hide (by rw [HT.out]; exact (HF5.out.put (Nat.le_refl _) htc hlt (S.ds k)).below (Below.refl _ _).drew)⟩
      · have hE' : (E == 0) = false := by simpa using hE
        rw [if_neg hE] at HT
        go_wp2_with fail
        go_roundg g
        case measure => omega
        case rel => exact ⟨k + 1, by omega, by go_num, hide (by rw [HT.out]; exact HF5.out)⟩
    · have hk2 : ¬ (k : Int) < 64 := by omega
      obtain rfl : k = 64 := by omega
      go_wp2_with fail
      go_ret
      exact ⟨rfl, HF.out⟩
end Go.Proofs.YtejcfhjhjplcnaaGreat

/- The reference's table: Pipe. -/
namespace Go.Proofs.YtejcfhjhjplcnaaGreat
open Go.RowKit Go.Maps

theorem frees_gap {ds : Nat → Int} {m : Nat} : ∀ n, m ≤ n → (∀ j, m ≤ j → j < n → ds j ≠ 0) → frees ds n = frees ds m
  | 0, h, _ => by rw [Nat.le_zero.1 h]
  | n + 1, h, hj => by
    by_cases he : m = n + 1
    · rw [he]
    · rw [frees_succ, if_neg (hj n (by omega) (by omega)), List.append_nil]
      exact frees_gap n (by omega) (fun j h1 h2 => hj j h1 (by omega))
theorem frees_first {ds : Nat → Int} {a : Nat} (h : Free1 ds 0 a) (ha : a < 64) : frees ds (a + 1) = [a] := by
  rw [frees_succ, if_pos (h.2.2.1 ha), frees_gap (m := 0) a (Nat.zero_le _) (fun j _ h2 => h.2.2.2 j (Nat.zero_le _) h2)]
  rfl
theorem frees_one {ds : Nat → Int} {a : Nat} (h : Free1 ds 0 a) (ha : a < 64) (h2 : Free1 ds (a + 1) 64) : frees ds 64 = [a] :=
  (frees_gap 64 (by omega) h2.2.2.2).trans (frees_first h ha)
theorem frees_two {ds : Nat → Int} {a b : Nat} (h : Free1 ds 0 a) (ha : a < 64) (h2 : Free1 ds (a + 1) b) (hb : b < 64) : ∃ r, frees ds 64 = a :: b :: r := by
  have e : frees ds (b + 1) = [a, b] := by
    rw [frees_succ, if_pos (h2.2.2.1 hb), frees_gap b h2.1 h2.2.2.2, frees_first h ha]
    rfl
  obtain ⟨r, hr⟩ := frees_prefix ds (show b + 1 ≤ 64 by omega)
  rw [e] at hr
  exact ⟨r, hr.symm⟩
theorem free1_one {ds : Nat → Int} {a x y : Nat} (h : Free1 ds a x) (h2 : Free1 ds a y) : x = y := by
  rcases Nat.lt_trichotomy x y with hlt | he | hlt
  · exact absurd (h.2.2.1 (by have := h2.2.1; omega)) (h2.2.2.2 x h.1 hlt)
  · exact he
  · exact absurd (h2.2.2.1 (by have := h.2.1; omega)) (h.2.2.2 y h2.1 hlt)
set_option maxRecDepth 100000 in
set_option maxHeartbeats 2000000 in
theorem rtpipe_any (t kb : Nat) (O : Nat → Prop) (S : TS) (w : World) (h : RTW w O t kb S) (hn1 : 1 ≤ S.K.next) (hl : S.K.next < 9223372036854775806) :
    Calls Tryz.prog 98 #[.pointer (some ⟨t, 0, none⟩)] w fun e w' => e = .returned (.tuple #[.int .i64 S.pipe.1, .int .i64 S.pipe.2.1, .int .i64 S.pipe.2.2.1]) ∧ RTStep w O t kb S.pipe.2.2.2 w' := by
  have HW := hide h
  have HL := hide (rtfree_any t kb 0 S.ds S.ms w h.tb (by omega))
  have HL2 := hide fun a (ha : a + 1 ≤ 64) => rtfree_any t kb (a + 1) S.ds S.ms w h.tb ha
  have HPi := hide (h.k.pipe hn1 hl)
  have qk := h.tb.ck
  clear h
  go_enter Tryz.func98, Tryz.ntmps98
  go_wp2_with fail
  refine HL.out.mono ?_
  rintro e _ ⟨a, rfl, hF, rfl⟩
  have HF := hide hF
  by_cases ha : a = 64
  · subst ha
    have Hop := hide (pipe_few (S := S) (by rw [frees_none (fun j hj => hF.2.2.2 j (Nat.zero_le _) hj)]; exact Nat.zero_le _))
    clear hF
    go_wp2_with fail
    go_ret3
    rw [Hop.out]
    exact ⟨rfl, RTStep.below HW.out (Below.refl _ _)⟩
  have ha1 : a < 64 := by have := hF.2.1; omega
  have ha3 : ((a : Int) == 64) = false := by simp; omega
  have ha0 : (0 : Int) ≤ (a : Int) := by omega
  have ha2 : (a : Int) < 64 := by omega
  have HL3 : Hid (∀ w0, RTb w0 t kb S.ds S.ms → Calls Tryz.prog 191 #[.pointer (some ⟨t, 0, none⟩), .int .i64 ((a : Int) + 1)] w0 fun e w' => ∃ x : Nat, e = .returned (.int .i64 x) ∧ Free1 S.ds (a + 1) x ∧ w0 = w') := hide fun w0 h0 => by
    have h := rtfree_any t kb (a + 1) S.ds S.ms w0 h0 (by omega)
    rw [show ((a + 1 : Nat) : Int) = (a : Int) + 1 by omega] at h
    exact h
  clear hF HL HL2
  go_wp2_with fail
  refine (HL3.out w HW.out.tb).mono ?_
  rintro e _ ⟨b, rfl, hF2, rfl⟩
  by_cases hb : b = 64
  · subst hb
    have Hop := hide (pipe_few (S := S) (by rw [frees_one HF.out ha1 hF2]; exact Nat.le_refl _))
    clear hF2
    go_wp2_with fail
    go_ret3
    rw [Hop.out]
    exact ⟨rfl, RTStep.below HW.out (Below.refl _ _)⟩
  have hb1 : b < 64 := by have := hF2.2.1; omega
  have hb3 : ((b : Int) == 64) = false := by simp; omega
  have hb0 : (0 : Int) ≤ (b : Int) := by omega
  have hb2 : (b : Int) < 64 := by omega
  obtain ⟨r, hr⟩ := frees_two HF.out ha1 hF2 hb1
  have Hop := hide (pipe_two hr)
  have HF2 := hide hF2
  clear hF2 hr
  generalize hR : S.K.pipe = R at *
  obtain ⟨r1, r2, E, K'⟩ := R
  clear hR
  simp only at *
  go_wp2_with fail
  refine HPi.out.mono ?_
  rintro e w5 ⟨rfl, hS⟩
  obtain ⟨O5, h5, hO5, hT5⟩ := HW.out.kstep hS
  by_cases hE : E = 0
  · subst hE
    have HL5 := hide (HL3.out w5 h5.tb)
    have HS5 := hide (And.intro h5 (And.intro hO5 hT5))
    clear h5 hO5 hT5 hS qk
    go_wp2_with fail
    refine HL5.out.mono ?_
    rintro e _ ⟨b', rfl, hF3, rfl⟩
    obtain rfl := free1_one HF2.out hF3
    obtain ⟨h5, hO5, hT5⟩ := HS5.out
    obtain ⟨O6, h6, hO6, hT6⟩ := RTStep.join hO5 hT5 (h5.put ha1 r1 false) (Below.refl _ _)
    have c1 := h5.tb.sl a ha1
    have c2 := h5.tb.mks a ha1
    have f1 := h5.tb.soft (1 + a * 2)
    have f2 := h5.tb.soft (1 + a * 2 + 1)
    have d1 := h6.tb.sl b hb1
    have d2 := h6.tb.mks b hb1
    have g1 := h6.tb.soft (1 + b * 2)
    have g2 := h6.tb.soft (1 + b * 2 + 1)
    have HS := hide (RTStep.join hO6 hT6 (h6.put hb1 r2 false) (Below.refl _ _))
    clear h5 hO5 hT5 h6 hO6 hT6 hF3
    simp only at HS
    go_wp2_with fail
    go_ret3
    have hop : S.pipe = ((a : Int), (b : Int), 0, ⟨K', tset (tset S.ds a r1) b r2, tset (tset S.ms a false) b false⟩) := by rw [Hop.out]; rfl
    rw [hop]
    exact ⟨rfl, HS.out⟩
  · have hE' : (E == 0) = false := by simpa using hE
    have HS : Hid (RTStep w O t kb ⟨K', S.ds, S.ms⟩ w5) := hide ⟨O5, h5, hO5, hT5⟩
    clear h5 hO5 hT5 hS qk
    go_wp2_with fail
    go_ret3
    rw [Hop.out, if_neg hE]
    exact ⟨rfl, HS.out⟩
end Go.Proofs.YtejcfhjhjplcnaaGreat

/- The program's table: Marked, Desc; Read, Write, Seek of free descriptors; Write, Seek. -/
namespace Go.Proofs.YtejcfhjhjplcnaaGreat
open Go.RowKit Go.Maps

theorem TW.afterP {w w0 w5 : World} {O : Nat → Prop} {t kb : Nat} {S : TS} {K' : KS} (h : TW w O t kb S) (hS : KStep w0 O kb K' w5) (hB : Below w.heap.size w w0) {i : Nat} (hi : i < 64) : w5.cell? ⟨t, 0, none⟩ = some (.pointer (some ⟨kb, 0, none⟩)) ∧ w5.cell? ⟨t, 1 + i * 2, none⟩ = some (.int .i64 (S.ds i)) := by
  obtain ⟨_, h5, _⟩ := (h.below hB).kstep hS
  exact ⟨h5.tb.ck, h5.tb.sl i hi⟩
theorem KStep.undrew {w w' : World} {O : Nat → Prop} {kb : Nat} {K : KS} (h : KStep w.drew O kb K w') : KStep w O kb K w' := by
  obtain ⟨O', h1, h2, h3⟩ := h
  exact ⟨O', h1, h2, (Turned.of_below (Below.refl _ _).drew).trans h3 (fun _ _ e => e)⟩
theorem tread_free (t kb : Nat) (S : TS) (fd : Int) (n : Int) (w : World) (h : Tb w t kb S.ds S.ms) (hu : S.uses fd = false) :
    Calls Tryz.prog 105 #[.pointer (some ⟨t, 0, none⟩), .int .i64 fd, .int .i64 n] w fun e w' => e = .returned (.tuple #[.slice none 0 0, .int .i64 71]) ∧ w = w' := by
  have HU := hide (used_no t kb S fd w h hu)
  clear h hu
  go_enter Tryz.func105, Tryz.ntmps105
  go_wp2_with (first | (go_at_call 188; refine HU.out.mono ?_; rintro _ _ ⟨rfl, rfl⟩) | fail)
  go_ret2
  exact ⟨rfl, rfl⟩
theorem twrite_free (t kb : Nat) (S : TS) (fd : Int) (a : Option Addr) (n c : Nat) (w : World) (h : Tb w t kb S.ds S.ms) (hu : S.uses fd = false) :
    Calls Tryz.prog 107 #[.pointer (some ⟨t, 0, none⟩), .int .i64 fd, .slice a n c] w fun e w' => e = .returned (.tuple #[.int .i64 0, .int .i64 71]) ∧ w = w' := by
  have HU := hide (used_no t kb S fd w h hu)
  clear h hu
  go_enter Tryz.func107, Tryz.ntmps107
  go_wp2_with (first | (go_at_call 188; refine HU.out.mono ?_; rintro _ _ ⟨rfl, rfl⟩) | fail)
  go_ret2
  exact ⟨rfl, rfl⟩
theorem tseek_free (t kb : Nat) (S : TS) (fd : Int) (x y : Int) (w : World) (h : Tb w t kb S.ds S.ms) (hu : S.uses fd = false) :
    Calls Tryz.prog 109 #[.pointer (some ⟨t, 0, none⟩), .int .i64 fd, .int .i64 x, .int .i64 y] w fun e w' => e = .returned (.tuple #[.int .i64 0, .int .i64 71]) ∧ w = w' := by
  have HU := hide (used_no t kb S fd w h hu)
  clear h hu
  go_enter Tryz.func109, Tryz.ntmps109
  go_wp2_with (first | (go_at_call 188; refine HU.out.mono ?_; rintro _ _ ⟨rfl, rfl⟩) | fail)
  go_ret2
  exact ⟨rfl, rfl⟩
theorem tdesc_free (t kb : Nat) (S : TS) (fd : Int) (w : World) (h : Tb w t kb S.ds S.ms) (hu : S.uses fd = false) :
    Calls Tryz.prog 115 #[.pointer (some ⟨t, 0, none⟩), .int .i64 fd] w fun e w' => e = .returned (.tuple #[.int .i64 0, .int .i64 71]) ∧ w = w' := by
  have HU := hide (used_no t kb S fd w h hu)
  clear h hu
  go_enter Tryz.func115, Tryz.ntmps115
  go_wp2_with (first | (go_at_call 188; refine HU.out.mono ?_; rintro _ _ ⟨rfl, rfl⟩) | fail)
  go_ret2
  exact ⟨rfl, rfl⟩
theorem tmarked_free (t kb : Nat) (S : TS) (fd : Int) (w : World) (h : Tb w t kb S.ds S.ms) (hu : S.uses fd = false) :
    Calls Tryz.prog 113 #[.pointer (some ⟨t, 0, none⟩), .int .i64 fd] w fun e w' => e = .returned (.tuple #[.bool false, .int .i64 71]) ∧ w = w' := by
  have HU := hide (used_no t kb S fd w h hu)
  clear h hu
  go_enter Tryz.func113, Tryz.ntmps113
  go_wp2_with (first | (go_at_call 188; refine HU.out.mono ?_; rintro _ _ ⟨rfl, rfl⟩) | fail)
  go_ret2
  exact ⟨rfl, rfl⟩
theorem tmarked_yes (t kb : Nat) (S : TS) (i : Nat) (w : World) (h : Tb w t kb S.ds S.ms) (hi : i < 64) (hz : S.ds i ≠ 0) :
    Calls Tryz.prog 113 #[.pointer (some ⟨t, 0, none⟩), .int .i64 (i : Int)] w fun e w' => e = .returned (.tuple #[.bool (S.ms i), .int .i64 0]) ∧ w = w' := by
  have HU := hide (used_yes t kb S i w h hi hz)
  have hc := h.mks i hi
  clear h
  go_enter Tryz.func113, Tryz.ntmps113
  go_wp2_with (first | (go_at_call 188; refine HU.out.mono ?_; rintro _ _ ⟨rfl, rfl⟩) | fail)
  go_ret2
  exact ⟨rfl, rfl⟩
theorem tmarked_any (t kb : Nat) (S : TS) (fd : Int) (w : World) (h : Tb w t kb S.ds S.ms) :
    Calls Tryz.prog 113 #[.pointer (some ⟨t, 0, none⟩), .int .i64 fd] w fun e w' => e = .returned (.tuple #[.bool (S.marked fd).1, .int .i64 (S.marked fd).2]) ∧ w = w' := by
  by_cases hu : S.uses fd = true
  · obtain ⟨i, rfl, hi, hz⟩ := uses_yes hu
    have hc : S.marked (i : Int) = (S.ms i, 0) := by unfold TS.marked; rw [if_pos hu]; rfl
    rw [hc]
    exact tmarked_yes t kb S i w h hi hz
  · have hc : S.marked fd = (false, 71) := by unfold TS.marked; rw [if_neg hu]
    rw [hc]
    exact tmarked_free t kb S fd w h (by simpa using hu)
theorem tdesc_any (t kb : Nat) (S : TS) (fd : Int) (w : World) (h : Tb w t kb S.ds S.ms) :
    Calls Tryz.prog 115 #[.pointer (some ⟨t, 0, none⟩), .int .i64 fd] w fun e w' => e = .returned (.tuple #[.int .i64 (S.desc fd).1, .int .i64 (S.desc fd).2]) ∧ w = w' := by
  by_cases hu : S.uses fd = true
  · obtain ⟨i, rfl, hi, hz⟩ := uses_yes hu
    have hc : S.desc (i : Int) = (S.ds i, 0) := by unfold TS.desc; rw [if_pos hu]; rfl
    rw [hc]
    exact tdesc_yes t kb S i w h hi hz
  · have hc : S.desc fd = (0, 71) := by unfold TS.desc; rw [if_neg hu]
    rw [hc]
    exact tdesc_free t kb S fd w h (by simpa using hu)
set_option maxRecDepth 100000 in
theorem twrite_yes (t kb : Nat) (O : Nat → Prop) (S : TS) (i : Nat) (b : List UInt8) (a1 : Option Addr) (cx : Nat) (w : World) (h : TW w O t kb S) (hi : i < 64) (hz : S.ds i ≠ 0) (hr : S.K.writes < 9223372036854775807) (hb : Bys w (.slice a1 b.length cx) b) (hcap : b.length ≤ cx) (hs : b.length ≤ 140737488351232) (hap : 0 < b.length → ∀ k, (Value.slice a1 b.length cx).ownBlock = some k → ¬ O k) :
    Calls Tryz.prog 107 #[.pointer (some ⟨t, 0, none⟩), .int .i64 (i : Int), .slice a1 b.length cx] w fun e w' => e = .returned (.tuple #[.int .i64 (S.K.write (S.ds i) b).1, .int .i64 (S.K.write (S.ds i) b).2.1]) ∧ KStep w O kb (S.K.write (S.ds i) b).2.2 w' := by
  have HU := hide (used_yes t kb S i w h.tb hi hz)
  have q := h.tb.sl i hi
  have qk := h.tb.ck
  have HW := hide h
  have HD := hide ((h.k.below (Below.refl _ _).drew).write (S.ds i) b a1 cx (h.tb.i64 i) hr (hb.below (Below.refl _ _).drew) hcap (by omega) hap)
  clear h
  go_enter Tryz.func107, Tryz.ntmps107
  go_wp2_with (first | (go_at_call 188; refine HU.out.mono ?_; rintro _ _ ⟨rfl, rfl⟩) | fail)
  go_region_held3 (fun w' => w'.cell? ⟨t, 0, none⟩ = some (.pointer (some ⟨kb, 0, none⟩)) ∧ w'.cell? ⟨t, 1 + i * 2, none⟩ = some (.int .i64 (S.ds i)))
    (first | exact hx5 | exact ⟨qk, q⟩ | go_keep)
    (first
      | (go_at_call 65; refine HD.out.mono ?_; rintro e w5 ⟨rfl, hS⟩; have hx5 := HW.out.afterP hS (Below.refl _ _).drew hi)
      | fail)
  go_wp2_with fail
  go_ret2
  exact ⟨rfl, KStep.undrew hS⟩
set_option maxRecDepth 100000 in
theorem tseek_yes (t kb : Nat) (O : Nat → Prop) (S : TS) (i : Nat) (x y : Int) (w : World) (h : TW w O t kb S) (hi : i < 64) (hz : S.ds i ≠ 0) (hx : I64 x) :
    Calls Tryz.prog 109 #[.pointer (some ⟨t, 0, none⟩), .int .i64 (i : Int), .int .i64 x, .int .i64 y] w fun e w' => e = .returned (.tuple #[.int .i64 (S.K.seek (S.ds i) x y).1, .int .i64 (S.K.seek (S.ds i) x y).2.1]) ∧ KStep w O kb (S.K.seek (S.ds i) x y).2.2 w' := by
  have HU := hide (used_yes t kb S i w h.tb hi hz)
  have q := h.tb.sl i hi
  have qk := h.tb.ck
  have HW := hide h
  have HD := hide ((h.k.below (Below.refl _ _).drew).seek (S.ds i) x y (h.tb.i64 i) hx)
  clear h
  go_enter Tryz.func109, Tryz.ntmps109
  go_wp2_with (first | (go_at_call 188; refine HU.out.mono ?_; rintro _ _ ⟨rfl, rfl⟩) | fail)
  go_region_held3 (fun w' => w'.cell? ⟨t, 0, none⟩ = some (.pointer (some ⟨kb, 0, none⟩)) ∧ w'.cell? ⟨t, 1 + i * 2, none⟩ = some (.int .i64 (S.ds i)))
    (first | exact hx5 | exact ⟨qk, q⟩ | go_keep)
    (first
      | (go_at_call 67; refine HD.out.mono ?_; rintro e w5 ⟨rfl, hS⟩; have hx5 := HW.out.afterP hS (Below.refl _ _).drew hi)
      | fail)
  go_wp2_with fail
  go_ret2
  exact ⟨rfl, KStep.undrew hS⟩
end Go.Proofs.YtejcfhjhjplcnaaGreat

/- Both tables over their kernels, side by side. -/
namespace Go.Proofs.YtejcfhjhjplcnaaGreat
open Go.RowKit Go.Maps

theorem RTW.turned {w w' : World} {P Z : Nat → Prop} {u mb : Nat} {S : TS} (h : RTW w P u mb S) (hT : Turned Z w w') (hP : ∀ j, P j → j < w.heap.size → ¬ Z j) (hu : ¬ Z u) : RTW w' P u mb S :=
  ⟨h.k.keep (fun k e hl => hT.block k hl (hP k e hl)) hT.size, h.tb.turned hT hu, h.apart⟩
theorem TW.turned {w w' : World} {P Z : Nat → Prop} {u mb : Nat} {S : TS} (h : TW w P u mb S) (hT : Turned Z w w') (hP : ∀ j, P j → j < w.heap.size → ¬ Z j) (hu : ¬ Z u) : TW w' P u mb S :=
  ⟨h.k.keep (fun k e hl => hT.block k hl (hP k e hl)) hT.size, h.tb.turned hT hu, h.apart⟩
theorem RTW.trim {w : World} {P : Nat → Prop} {u mb : Nat} {S : TS} (h : RTW w P u mb S) : RTW w (fun k => P k ∧ k < w.heap.size) u mb S := ⟨h.k.trim, h.tb, fun e => h.apart e.1⟩
def TPair (w : World) (B kb t mb u : Nat) (S : TS) : Prop := ∃ O P, TW w O t kb S ∧ RTW w P u mb S ∧ (∀ j, O j → B ≤ j ∧ j < w.heap.size ∧ ¬ P j ∧ j ≠ u) ∧ (∀ j, P j → B ≤ j ∧ j < w.heap.size ∧ j ≠ t) ∧ B ≤ t ∧ B ≤ u ∧ t ≠ u
theorem TPair.below {w w' : World} {B kb t mb u : Nat} {S : TS} (h : TPair w B kb t mb u S) (hB : Below w.heap.size w w') : TPair w' B kb t mb u S := by
  obtain ⟨O, P, h1, h2, h3, h4, h5⟩ := h
  have := hB.size
  exact ⟨O, P, h1.below hB, h2.below hB, fun j e => ⟨(h3 j e).1, by have := (h3 j e).2.1; omega, (h3 j e).2.2⟩, fun j e => ⟨(h4 j e).1, by have := (h4 j e).2.1; omega, (h4 j e).2.2⟩, h5⟩
theorem TPair.duo {w : World} {B kb t mb u : Nat} {S : TS} (h : TPair w B kb t mb u S) : Duo w B kb mb S.K S.K := by
  obtain ⟨O, P, h1, h2, h3, h4, h5⟩ := h
  exact ⟨O, P, h1.k, h2.k, fun j e => ⟨(h3 j e).1, (h3 j e).2.1, (h3 j e).2.2.1⟩, fun j e => ⟨(h4 j e).1, (h4 j e).2.1⟩⟩
theorem TPair.both {wr : World} {B kb t mb u : Nat} {S : TS} (h : TPair wr B kb t mb u S) :
    ∃ O P, TW wr O t kb S ∧ RTW wr P u mb S ∧ (∀ j, O j → B ≤ j ∧ j < wr.heap.size) ∧ (∀ j, P j → B ≤ j ∧ j < wr.heap.size) ∧
      ∀ wb, Below wr.heap.size wr wb → ∀ S' w5, TStep wb O t kb S' w5 → Turned (fun j => B ≤ j) wr w5 ∧ ∀ w6, Below w5.heap.size w5 w6 → RTW w6 P u mb S ∧ ∀ w7, RTStep w6 P u mb S' w7 → TPair w7 B kb t mb u S' ∧ Turned (fun j => B ≤ j) wr w7 := by
  obtain ⟨O, P, h1, h2, h3, h4, hBt, hBu, htu⟩ := h
  refine ⟨O, P, h1, h2, fun j e => ⟨(h3 j e).1, (h3 j e).2.1⟩, fun j e => ⟨(h4 j e).1, (h4 j e).2.1⟩, fun wb hb S' w5 hS => ?_⟩
  obtain ⟨O', g1, g2, g3⟩ := hS
  have hsb := hb.size
  have htl := h1.tb.lt
  have hul := h2.tb.lt
  have hz5 := g3.size
  have hT5 : Turned (fun j => B ≤ j) wr w5 := (Turned.of_below (S := fun j => B ≤ j) hb).trans g3 (fun j _ e => by
    rcases e with e | e
    · exact (h3 j e).1
    · omega)
  refine ⟨hT5, fun w6 h56 => ?_⟩
  have hz6 := h56.size
  have hm : RTW w6 P u mb S := ((h2.below hb).turned g3 (fun j e _ e' => by
    rcases e' with e' | e'
    · exact (h3 j e').2.2.1 e
    · exact (h4 j e).2.2 e') (fun e' => by
    rcases e' with e' | e'
    · exact (h3 u e').2.2.2 rfl
    · exact htu e'.symm)).below h56
  refine ⟨hm, fun w7 hS7 => ?_⟩
  obtain ⟨P', f1, f2, f3⟩ := hS7
  have hz7 := f3.size
  have g1' : TW w6 (fun k => O' k ∧ k < w5.heap.size) t kb S' := g1.trim.below h56
  refine ⟨⟨fun k => O' k ∧ k < w5.heap.size, fun k => P' k ∧ k < w7.heap.size, g1'.turned f3 (fun j e _ e' => ?_) (fun e' => ?_), f1.trim, fun j e => ⟨?_, by have := e.2; omega, fun e' => ?_, fun e' => ?_⟩, fun j e => ⟨?_, e.2, fun e' => ?_⟩, hBt, hBu, htu⟩, (hT5.trans (Turned.of_below (S := fun j => B ≤ j) h56) (fun _ _ e => e)).trans f3 (fun j _ e => ?_)⟩
  · rcases g2 j e.1 with e1 | e1
    · rcases e' with e' | e'
      · exact (h3 j e1).2.2.1 e'
      · exact (h3 j e1).2.2.2 e'
    · rcases e' with e' | e'
      · have := (h4 j e').2.1; omega
      · omega
  · rcases e' with e' | e'
    · exact (h4 t e').2.2 rfl
    · exact htu e'
  · rcases g2 j e.1 with e1 | e1
    · exact (h3 j e1).1
    · omega
  · rcases f2 j e'.1 with e2 | e2
    · rcases g2 j e.1 with e1 | e1
      · exact (h3 j e1).2.2.1 e2
      · have := (h4 j e2).2.1; omega
    · have := e.2; omega
  · rcases g2 j e.1 with e1 | e1
    · exact (h3 j e1).2.2.2 e'
    · omega
  · rcases f2 j e.1 with e2 | e2
    · exact (h4 j e2).1
    · omega
  · rcases f2 j e.1 with e2 | e2
    · exact (h4 j e2).2.2 e'
    · omega
  · rcases e with e | e
    · exact (h4 j e).1
    · omega
end Go.Proofs.YtejcfhjhjplcnaaGreat

/- Both tables are forked: the pair goes on with the new ones. -/
namespace Go.Proofs.YtejcfhjhjplcnaaGreat
open Go.RowKit Go.Maps

theorem TPair.fork {wr : World} {B kb t mb u : Nat} {S : TS} (h : TPair wr B kb t mb u S) :
    ∀ wb, Below wr.heap.size wr wb → Calls Tryz.prog 20 #[.pointer (some ⟨t, 0, none⟩)] wb fun e w5 => ∃ c, e = .returned (.pointer (some ⟨c, 0, none⟩)) ∧ Turned (fun j => B ≤ j) wr w5 ∧
      ∀ w6, Below w5.heap.size w5 w6 → Calls Tryz.prog 21 #[.pointer (some ⟨u, 0, none⟩)] w6 fun e w7 => ∃ c', e = .returned (.pointer (some ⟨c', 0, none⟩)) ∧ TPair w7 B kb c mb c' ⟨(S.fork 64).1, (S.fork 64).2, fun _ => false⟩ ∧ Turned (fun j => B ≤ j) wr w7 := by
  intro wb hb
  obtain ⟨O, P, h1, h2, h3, h4, hBt, hBu, htu⟩ := h
  have hsb := hb.size
  have htl := h1.tb.lt
  have hul := h2.tb.lt
  refine (tfork_any t kb O S wb (h1.below hb)).mono ?_
  rintro e w5 ⟨rfl, O', a1, a2, a3, a4, a5⟩
  have hz5 := a5.size
  have hcl := a2.lt
  have hT5 : Turned (fun j => B ≤ j) wr w5 := (Turned.of_below (S := fun j => B ≤ j) hb).trans a5 (fun j _ e => (h3 j e.1).1)
  refine ⟨_, rfl, hT5, fun w6 h56 => ?_⟩
  have hz6 := h56.size
  have hm : RTW w6 P u mb S := ((h2.below hb).turned a5 (fun j e _ e' => (h3 j e'.1).2.2.1 e) (fun e' => (h3 u e'.1).2.2.2 rfl)).below h56
  refine (rtfork_any u mb P S w6 hm (fun k e => by have := (h4 k e).2.1; omega)).mono ?_
  rintro e w7 ⟨rfl, P', b1, b2, b3, b4, b5⟩
  have hz7 := b5.size
  have hcl7 := b2.lt
  have p0 : TW w5 O' wb.heap.size kb ⟨(S.fork 64).1, (S.fork 64).2, fun _ => false⟩ := ⟨a1.k, a2, a3⟩
  have p1 : TW w6 (fun k => O' k ∧ k < w5.heap.size) wb.heap.size kb ⟨(S.fork 64).1, (S.fork 64).2, fun _ => false⟩ := p0.trim.below h56
  have r0 : RTW w7 P' w6.heap.size mb ⟨(S.fork 64).1, (S.fork 64).2, fun _ => false⟩ := ⟨b1.k, b2, b3⟩
  refine ⟨_, rfl, ⟨fun k => O' k ∧ k < w5.heap.size, fun k => P' k ∧ k < w7.heap.size, p1.turned b5 (fun j e _ e' => ?_) (fun e' => ?_), r0.trim, fun j e => ⟨?_, by have := e.2; omega, fun e' => ?_, by have := e.2; omega⟩, fun j e => ⟨?_, e.2, ?_⟩, by omega, by omega, by omega⟩, (hT5.trans (Turned.of_below (S := fun j => B ≤ j) h56) (fun _ _ e => e)).trans b5 (fun j _ e => (h4 j e).1)⟩
  · rcases a4 j e.1 with e1 | e1
    · exact (h3 j e1.1).2.2.1 e'
    · have := (h4 j e').2.1; omega
  · have := (h4 _ e').2.1; omega
  · rcases a4 j e.1 with e1 | e1
    · exact (h3 j e1.1).1
    · omega
  · rcases b4 j e'.1 with e2 | e2
    · rcases a4 j e.1 with e1 | e1
      · exact (h3 j e1.1).2.2.1 e2
      · have := (h4 j e2).2.1; omega
    · have := e.2; omega
  · rcases b4 j e.1 with e2 | e2
    · exact (h4 j e2).1
    · omega
  · rcases b4 j e.1 with e2 | e2
    · have := (h4 j e2).2.1; omega
    · omega
end Go.Proofs.YtejcfhjhjplcnaaGreat

/- How the kernel's counts grow under a table's calls. -/
namespace Go.Proofs.YtejcfhjhjplcnaaGreat
open Go.RowKit Go.Maps

structure TG (n : Nat) (K K' : KS) : Prop where
  inv : PInv K → PInv K'
  up : K.next ≤ K'.next
  next : K'.next ≤ K.next + 2 * n
  reads : K'.reads ≤ K.reads + n
  writes : K'.writes ≤ K.writes + n
theorem TG.refl (K : KS) (n : Nat) : TG n K K := ⟨fun h => h, Nat.le_refl _, by omega, by omega, by omega⟩
theorem TG.trans {n m : Nat} {K K' K'' : KS} (h : TG n K K') (h2 : TG m K' K'') : TG (n + m) K K'' := ⟨fun e => h2.inv (h.inv e), Nat.le_trans h.up h2.up, by have := h.next; have := h2.next; omega, by have := h.reads; have := h2.reads; omega, by have := h.writes; have := h2.writes; omega⟩
theorem TG.mono {n m : Nat} {K K' : KS} (h : TG n K K') (hm : n ≤ m) : TG m K K' := ⟨h.inv, h.up, by have := h.next; omega, by have := h.reads; omega, by have := h.writes; omega⟩
theorem TG.of {K K' : KS} (hi : PInv K → PInv K') (hl : KLe K K') (hu : K.next ≤ K'.next) : TG 1 K K' := ⟨hi, hu, by have := hl.1; omega, by have := hl.2.1; omega, by have := hl.2.2; omega⟩
theorem TG.keep (K : KS) (d : Int) : TG 1 K (K.keepK d) := .of (fun h => pinv_keep h d) (kle_keep K d) (by have := next_does K ⟨5, ByteArray.empty, d, 0, 0, []⟩; simpa [KS.does] using this)
theorem TG.drop (K : KS) (d : Int) : TG 1 K (K.dropK d) := .of (fun h => pinv_drop h d) (kle_drop K d) (by have := next_does K ⟨6, ByteArray.empty, d, 0, 0, []⟩; simpa [KS.does] using this)
theorem TG.read (K : KS) (d n : Int) : TG 1 K (K.read d n).2.2 := .of (fun h => pinv_read h d n) (kle_read K d n) (by have := next_does K ⟨2, ByteArray.empty, d, n, 0, []⟩; simpa [KS.does] using this)
theorem TG.write (K : KS) (d : Int) (b : List UInt8) : TG 1 K (K.write d b).2.2 := .of (fun h => pinv_write h d b) (kle_write K d b) (by have := next_does K ⟨3, ByteArray.empty, d, 0, 0, b⟩; simpa [KS.does] using this)
theorem TG.seek (K : KS) (d o wh : Int) : TG 1 K (K.seek d o wh).2.2 := .of (fun h => pinv_seek h d o wh) (kle_seek K d o wh) (by have := next_does K ⟨4, ByteArray.empty, d, o, wh, []⟩; simpa [KS.does] using this)
theorem TG.kopen {K : KS} (hk : KOk K) (hn : KNm K) (s : ByteArray) (f : Int) : TG 1 K (K.open s f).2.2 := .of (fun h => pinv_open h hk hn s f) (kle_open K s f) (by have := next_does K ⟨0, s, f, 0, 0, []⟩; simpa [KS.does] using this)
theorem TG.kpipe {K : KS} (hk : KOk K) : TG 1 K K.pipe.2.2.2 := .of (fun h => pinv_pipe h hk) (kle_pipe K) (by have := next_does K ⟨1, ByteArray.empty, 0, 0, 0, []⟩; simpa [KS.does] using this)
theorem TG.release (S : TS) (i : Nat) : TG 1 S.K (S.release i).K := by
  unfold TS.release
  by_cases h : S.ds i = 0
  · rw [if_pos h]; exact TG.refl _ _
  · rw [if_neg h]; exact TG.drop _ _
theorem TG.close (S : TS) (fd : Int) : TG 1 S.K (S.close fd).2.K := by
  unfold TS.close
  split
  · exact TG.release S _
  · exact TG.refl _ _
theorem TG.open {S : TS} (hk : KOk S.K) (hn : KNm S.K) (s : ByteArray) (f : Int) : TG 1 S.K (S.open s f).2.2.K := by
  unfold TS.open
  split
  · exact TG.refl _ _
  · split
    · exact TG.kopen hk hn s f
    · exact TG.kopen hk hn s f
theorem TG.install (S : TS) (d : Int) : TG 1 S.K (S.install d).2.2.K := by
  unfold TS.install
  split
  · exact TG.refl _ _
  · split
    · exact TG.keep _ _
    · exact TG.keep _ _
theorem TG.dup (S : TS) (fd : Int) : TG 1 S.K (S.dup fd).2.2.K := by
  unfold TS.dup
  split
  · exact TG.install S _
  · exact TG.refl _ _
theorem TG.dupTo (S : TS) (fd to : Int) : TG 2 S.K (S.dupTo fd to).2.K := by
  unfold TS.dupTo
  split
  · split
    · split
      · exact TG.refl _ _
      · split
        · exact (TG.keep S.K _).trans (TG.release ⟨S.K.keepK (S.ds fd.toNat), S.ds, S.ms⟩ to.toNat)
        · exact (TG.keep S.K _).mono (by omega)
    · exact TG.refl _ _
  · exact TG.refl _ _
theorem TG.mark (S : TS) (fd : Int) (m : Bool) : TG 1 S.K (S.mark fd m).2.K := by
  unfold TS.mark
  split
  · exact TG.refl _ _
  · exact TG.refl _ _
theorem TG.pipe {S : TS} (hk : KOk S.K) : TG 1 S.K S.pipe.2.2.2.K := by
  unfold TS.pipe
  split
  · split
    · exact TG.kpipe hk
    · exact TG.kpipe hk
  · exact TG.refl _ _
theorem TG.closeAll (S : TS) : TG 64 S.K S.closeAll.K := by
  have key : ∀ (l : List Nat) (X : TS), TG l.length X.K (l.foldl TS.release X).K := by
    intro l
    induction l with
    | nil => intro X; exact TG.refl _ _
    | cons x l ih => intro X; exact ((TG.release X x).trans (ih (X.release x))).mono (by rw [List.length_cons]; omega)
  exact (key _ S).mono (useds_len S.ds 64)
theorem TG.fork (S : TS) : ∀ n, TG n S.K (S.fork n).1
  | 0 => TG.refl _ _
  | n + 1 => by
    by_cases h : S.ds n = 0 ∨ S.ms n = true
    · rw [fork_skip h]
      exact (TG.fork S n).mono (by omega)
    · rw [fork_take (fun e => h (.inl e)) (by cases hm : S.ms n with | true => exact absurd (.inr hm) h | false => rfl)]
      exact (TG.fork S n).trans (TG.keep _ _)
end Go.Proofs.YtejcfhjhjplcnaaGreat

/- FdtablePlays: a call of the program's table, and then the reference's. -/
namespace Go.Proofs.YtejcfhjhjplcnaaGreat
open Go.RowKit Go.Maps

def TTwo (F G : FuncId) (A A' : Array Value) (R : Value) (B kb t mb u : Nat) (wr : World) (S' : TS) : Prop :=
  ∀ wb, Below wr.heap.size wr wb → Calls Tryz.prog F A wb fun e w5 => e = .returned R ∧ Turned (fun j => B ≤ j ∧ j < wr.heap.size) wb w5 ∧
    ∀ w6, Below w5.heap.size w5 w6 → Calls Tryz.prog G A' w6 fun e w7 => e = .returned R ∧ TPair w7 B kb t mb u S' ∧ Turned (fun j => B ≤ j ∧ j < wr.heap.size) w6 w7
theorem TPair.ends {w : World} {B kb t mb u : Nat} {S : TS} (h : TPair w B kb t mb u S) : (B ≤ t ∧ t < w.heap.size) ∧ B ≤ u ∧ u < w.heap.size := by
  obtain ⟨O, P, h1, h2, h3, h4, h5, h6, _⟩ := h
  exact ⟨⟨h5, h1.tb.lt⟩, h6, h2.tb.lt⟩
theorem tturn {w w' : World} {B t n : Nat} {O : Nat → Prop} (h : Turned (fun k => O k ∨ k = t) w w') (hO : ∀ j, O j → B ≤ j ∧ j < n) (ht : B ≤ t ∧ t < n) : Turned (fun j => B ≤ j ∧ j < n) w w' := h.mono fun k e => by
  rcases e with e | e
  · exact hO k e
  · subst e; exact ht
theorem ttwo {F G : FuncId} {A A' : Array Value} {R : Value} {B kb t mb u : Nat} {wr : World} {S S' : TS} (h : TPair wr B kb t mb u S)
    (hF : ∀ O wb, TW wb O t kb S → (∀ j, O j → B ≤ j ∧ j < wb.heap.size) → Below wr.heap.size wr wb → Calls Tryz.prog F A wb fun e w5 => e = .returned R ∧ TStep wb O t kb S' w5)
    (hG : ∀ P w6, RTW w6 P u mb S → (∀ j, P j → B ≤ j ∧ j < w6.heap.size) → Turned (fun j => B ≤ j) wr w6 → Calls Tryz.prog G A' w6 fun e w7 => e = .returned R ∧ RTStep w6 P u mb S' w7) : TTwo F G A A' R B kb t mb u wr S' := by
  intro wb hb
  obtain ⟨O, P, h1, h2, h3, h4, h5⟩ := h.both
  have hz := hb.size
  refine (hF O wb (h1.below hb) (fun j e => ⟨(h3 j e).1, Nat.lt_of_lt_of_le (h3 j e).2 hz⟩) hb).mono ?_
  rintro e w5 ⟨rfl, hS⟩
  obtain ⟨hT5, h6⟩ := h5 wb hb S' w5 hS
  refine ⟨rfl, by obtain ⟨_, _, _, g3⟩ := hS; exact tturn g3 h3 h.ends.1, fun w6 h56 => ?_⟩
  obtain ⟨hm, h7⟩ := h6 w6 h56
  refine (hG P w6 hm (fun j e => ⟨(h4 j e).1, Nat.lt_of_lt_of_le (h4 j e).2 (Nat.le_trans hT5.size h56.size)⟩) (hT5.trans (Turned.of_below (S := fun j => B ≤ j) h56) (fun _ _ e => e))).mono ?_
  rintro e w7 ⟨rfl, hS7⟩
  exact ⟨rfl, (h7 w7 hS7).1, by obtain ⟨_, _, _, g3⟩ := hS7; exact tturn g3 h4 h.ends.2⟩
theorem tok {w : World} {B kb t mb u : Nat} {S : TS} (h : TPair w B kb t mb u S) : KOk S.K ∧ KNm S.K := by
  obtain ⟨O, P, h1, _⟩ := h
  exact h1.k.ok
variable {B kb t mb u : Nat} {wr : World} {S : TS}
theorem two_topen (h : TPair wr B kb t mb u S) (s : ByteArray) (f : Int) (hs : s.size ≤ maxLen) (hn1 : 1 ≤ S.K.next) (hl : S.K.next < 9223372036854775807) :
    TTwo 90 96 #[.pointer (some ⟨t, 0, none⟩), .string s, .int .i64 f] #[.pointer (some ⟨u, 0, none⟩), .string s, .int .i64 f] (.tuple #[.int .i64 (S.open s f).1, .int .i64 (S.open s f).2.1]) B kb t mb u wr (S.open s f).2.2 :=
  ttwo h (fun O wb hT _ _ => topen_any t kb O S s f wb hT hs hl) (fun P w6 hR _ _ => rtopen_any u mb P S s f w6 hR (tok h).2 hs hn1 hl)
theorem two_tpipe (h : TPair wr B kb t mb u S) (hn1 : 1 ≤ S.K.next) (hl : S.K.next < 9223372036854775806) :
    TTwo 97 98 #[.pointer (some ⟨t, 0, none⟩)] #[.pointer (some ⟨u, 0, none⟩)] (.tuple #[.int .i64 S.pipe.1, .int .i64 S.pipe.2.1, .int .i64 S.pipe.2.2.1]) B kb t mb u wr S.pipe.2.2.2 :=
  ttwo h (fun O wb hT hO _ => tpipe_any t kb O S wb hT (fun j e => (hO j e).2) (by omega)) (fun P w6 hR _ _ => rtpipe_any u mb P S w6 hR hn1 hl)
theorem two_tinstall (h : TPair wr B kb t mb u S) (d : Int) (hd : I64 d) :
    TTwo 99 100 #[.pointer (some ⟨t, 0, none⟩), .int .i64 d] #[.pointer (some ⟨u, 0, none⟩), .int .i64 d] (.tuple #[.int .i64 (S.install d).1, .int .i64 (S.install d).2.1]) B kb t mb u wr (S.install d).2.2 :=
  ttwo h (fun O wb hT _ _ => tinstall_any t kb O S d wb hT hd) (fun P w6 hR _ _ => rtinstall_any u mb P S d w6 hR)
theorem two_tclose (h : TPair wr B kb t mb u S) (d : Int) :
    TTwo 92 101 #[.pointer (some ⟨t, 0, none⟩), .int .i64 d] #[.pointer (some ⟨u, 0, none⟩), .int .i64 d] (.int .i64 (S.close d).1) B kb t mb u wr (S.close d).2 :=
  ttwo h (fun O wb hT _ _ => tclose_any t kb O S d wb hT) (fun P w6 hR _ _ => rtclose_any u mb P S d w6 hR)
theorem two_tdup (h : TPair wr B kb t mb u S) (d : Int) :
    TTwo 91 102 #[.pointer (some ⟨t, 0, none⟩), .int .i64 d] #[.pointer (some ⟨u, 0, none⟩), .int .i64 d] (.tuple #[.int .i64 (S.dup d).1, .int .i64 (S.dup d).2.1]) B kb t mb u wr (S.dup d).2.2 :=
  ttwo h (fun O wb hT _ _ => tdup_any t kb O S d wb hT) (fun P w6 hR _ _ => rtdup_any u mb P S d w6 hR)
theorem two_tdupTo (h : TPair wr B kb t mb u S) (d o : Int) :
    TTwo 93 103 #[.pointer (some ⟨t, 0, none⟩), .int .i64 d, .int .i64 o] #[.pointer (some ⟨u, 0, none⟩), .int .i64 d, .int .i64 o] (.int .i64 (S.dupTo d o).1) B kb t mb u wr (S.dupTo d o).2 :=
  ttwo h (fun O wb hT _ _ => tdupTo_any t kb O S d o wb hT) (fun P w6 hR _ _ => rtdupTo_any u mb P S d o w6 hR)
theorem two_tmark (h : TPair wr B kb t mb u S) (d : Int) (m : Bool) :
    TTwo 94 104 #[.pointer (some ⟨t, 0, none⟩), .int .i64 d, .bool m] #[.pointer (some ⟨u, 0, none⟩), .int .i64 d, .bool m] (.int .i64 (S.mark d m).1) B kb t mb u wr (S.mark d m).2 :=
  ttwo h (fun O wb hT _ _ => tmark_any t kb O S d m wb hT) (fun P w6 hR _ _ => rtmark_any u mb P S d m w6 hR)
def TS.seekT (S : TS) (fd x y : Int) : Int × Int × TS := if S.uses fd = true then ((S.K.seek (S.ds fd.toNat) x y).1, (S.K.seek (S.ds fd.toNat) x y).2.1, ⟨(S.K.seek (S.ds fd.toNat) x y).2.2, S.ds, S.ms⟩) else (0, 71, S)
def TS.writeT (S : TS) (fd : Int) (b : List UInt8) : Int × Int × TS := if S.uses fd = true then ((S.K.write (S.ds fd.toNat) b).1, (S.K.write (S.ds fd.toNat) b).2.1, ⟨(S.K.write (S.ds fd.toNat) b).2.2, S.ds, S.ms⟩) else (0, 71, S)
def TS.readT (S : TS) (fd n : Int) : List UInt8 × Int × TS := if S.uses fd = true then ((S.K.read (S.ds fd.toNat) n).1, (S.K.read (S.ds fd.toNat) n).2.1, ⟨(S.K.read (S.ds fd.toNat) n).2.2, S.ds, S.ms⟩) else ([], 71, S)
theorem two_tseek (h : TPair wr B kb t mb u S) (fd x y : Int) (hx : I64 x) :
    TTwo 109 110 #[.pointer (some ⟨t, 0, none⟩), .int .i64 fd, .int .i64 x, .int .i64 y] #[.pointer (some ⟨u, 0, none⟩), .int .i64 fd, .int .i64 x, .int .i64 y] (.tuple #[.int .i64 (S.seekT fd x y).1, .int .i64 (S.seekT fd x y).2.1]) B kb t mb u wr (S.seekT fd x y).2.2 := by
  cases hu : S.uses fd with
  | true =>
    rw [TS.seekT, if_pos hu]
    obtain ⟨i, rfl, hi, hz⟩ := uses_yes hu
    rw [Int.toNat_natCast]
    refine ttwo h (fun O wb hT _ _ => ?_) (fun P w6 hR _ _ => ?_)
    · refine (tseek_yes t kb O S i x y wb hT hi hz hx).mono ?_
      rintro e w5 ⟨rfl, hS⟩
      exact ⟨rfl, hT.kstep hS⟩
    · refine (rtseek_any u mb P S i x y w6 hR hi hz).mono ?_
      rintro e w5 ⟨rfl, hS⟩
      exact ⟨rfl, hR.kstep hS⟩
  | false =>
    rw [TS.seekT, if_neg (by simp [hu])]
    refine ttwo h (fun O wb hT _ _ => ?_) (fun P w6 hR _ _ => ?_)
    · refine (tseek_free t kb S fd x y wb hT.tb hu).mono ?_
      rintro e w5 ⟨rfl, rfl⟩
      exact ⟨rfl, TStep.below hT (Below.refl _ _)⟩
    · refine (rtseek_no u mb S fd x y w6 hR.tb hu).mono ?_
      rintro e w5 ⟨rfl, rfl⟩
      exact ⟨rfl, RTStep.below hR (Below.refl _ _)⟩
theorem two_twrite (h : TPair wr B kb t mb u S) (fd : Int) (b : List UInt8) (a1 : Option Addr) (cx : Nat) (hr : S.K.writes < 9223372036854775807) (hb : Bys wr (.slice a1 b.length cx) b) (hcap : b.length ≤ cx) (hs : b.length ≤ 140737488351232) (hap : 0 < b.length → ∀ k, (Value.slice a1 b.length cx).ownBlock = some k → k < B ∧ k < wr.heap.size) :
    TTwo 107 108 #[.pointer (some ⟨t, 0, none⟩), .int .i64 fd, .slice a1 b.length cx] #[.pointer (some ⟨u, 0, none⟩), .int .i64 fd, .slice a1 b.length cx] (.tuple #[.int .i64 (S.writeT fd b).1, .int .i64 (S.writeT fd b).2.1]) B kb t mb u wr (S.writeT fd b).2.2 := by
  cases hu : S.uses fd with
  | true =>
    rw [TS.writeT, if_pos hu]
    obtain ⟨i, rfl, hi, hz⟩ := uses_yes hu
    rw [Int.toNat_natCast]
    refine ttwo h (fun O wb hT hO hB => ?_) (fun P w6 hR hP hT6 => ?_)
    · refine (twrite_yes t kb O S i b a1 cx wb hT hi hz hr (hb.below hB) hcap hs (fun h0 k hk e => by have := (hap h0 k hk).1; have := (hO k e).1; omega)).mono ?_
      rintro e w5 ⟨rfl, hS⟩
      exact ⟨rfl, hT.kstep hS⟩
    · have hb6 : Bys w6 (.slice a1 b.length cx) b := by
        by_cases h0 : 0 < b.length
        · exact hb.turned hT6 (fun k hk _ e => by have := (hap h0 k hk).1; have e' : B ≤ k := e; omega)
        · exact bys_none hb h0
      refine (rtwrite_any u mb P S i b a1 cx w6 hR hi hz hr hb6 hcap (fun h0 k hk => ⟨Nat.lt_of_lt_of_le (hap h0 k hk).2 hT6.size, fun e => by have := (hap h0 k hk).1; have := (hP k e).1; omega⟩)).mono ?_
      rintro e w5 ⟨rfl, hS⟩
      exact ⟨rfl, hR.kstep hS⟩
  | false =>
    rw [TS.writeT, if_neg (by simp [hu])]
    refine ttwo h (fun O wb hT _ _ => ?_) (fun P w6 hR _ _ => ?_)
    · refine (twrite_free t kb S fd a1 b.length cx wb hT.tb hu).mono ?_
      rintro e w5 ⟨rfl, rfl⟩
      exact ⟨rfl, TStep.below hT (Below.refl _ _)⟩
    · refine (rtwrite_no u mb S fd a1 b.length cx w6 hR.tb hu).mono ?_
      rintro e w5 ⟨rfl, rfl⟩
      exact ⟨rfl, RTStep.below hR (Below.refl _ _)⟩
def TTwoB (F G : FuncId) (A A' : Array Value) (Y : List UInt8) (E : Int) (B kb t mb u : Nat) (wr : World) (S' : TS) : Prop :=
  ∀ wb, Below wr.heap.size wr wb → Calls Tryz.prog F A wb fun e w5 => ∃ a n c, e = .returned (.tuple #[.slice a n c, .int .i64 E]) ∧ Turned (fun j => B ≤ j ∧ j < wr.heap.size) wb w5 ∧
    ∀ w6, Below w5.heap.size w5 w6 → Calls Tryz.prog G A' w6 fun e w7 => ∃ a' n' c', e = .returned (.tuple #[.slice a' n' c', .int .i64 E]) ∧ Bys w7 (.slice a n c) Y ∧ Bys w7 (.slice a' n' c') Y ∧ TPair w7 B kb t mb u S' ∧ Turned (fun j => B ≤ j ∧ j < wr.heap.size) w6 w7
theorem ttwob {F G : FuncId} {A A' : Array Value} {Y : List UInt8} {E : Int} {S' : TS} (h : TPair wr B kb t mb u S)
    (hF : ∀ O wb, TW wb O t kb S → (∀ j, O j → B ≤ j ∧ j < wb.heap.size) → Below wr.heap.size wr wb → Calls Tryz.prog F A wb fun e w5 => ∃ v, e = .returned (.tuple #[v, .int .i64 E]) ∧ Bys w5 v Y ∧ (∀ k, v.ownBlock = some k → wb.heap.size ≤ k) ∧ TStep wb O t kb S' w5)
    (hG : ∀ P w6, RTW w6 P u mb S → (∀ j, P j → B ≤ j ∧ j < w6.heap.size) → Turned (fun j => B ≤ j) wr w6 → Calls Tryz.prog G A' w6 fun e w7 => ∃ v, e = .returned (.tuple #[v, .int .i64 E]) ∧ Bys w7 v Y ∧ RTStep w6 P u mb S' w7) : TTwoB F G A A' Y E B kb t mb u wr S' := by
  intro wb hb
  obtain ⟨O, P, h1, h2, h3, h4, h5⟩ := h.both
  have hz := hb.size
  refine (hF O wb (h1.below hb) (fun j e => ⟨(h3 j e).1, Nat.lt_of_lt_of_le (h3 j e).2 hz⟩) hb).mono ?_
  rintro e w5 ⟨v, rfl, hv, hvb, hS⟩
  obtain ⟨a, c, rfl, -⟩ := bys_form hv
  obtain ⟨hT5, h6⟩ := h5 wb hb S' w5 hS
  refine ⟨a, _, c, rfl, by obtain ⟨_, _, _, g3⟩ := hS; exact tturn g3 h3 h.ends.1, fun w6 h56 => ?_⟩
  obtain ⟨hm, h7⟩ := h6 w6 h56
  refine (hG P w6 hm (fun j e => ⟨(h4 j e).1, Nat.lt_of_lt_of_le (h4 j e).2 (Nat.le_trans hT5.size h56.size)⟩) (hT5.trans (Turned.of_below (S := fun j => B ≤ j) h56) (fun _ _ e => e))).mono ?_
  rintro e w7 ⟨v', rfl, hv', hS7⟩
  obtain ⟨a', c', rfl, -⟩ := bys_form hv'
  obtain ⟨q1, -⟩ := h7 w7 hS7
  obtain ⟨P', _, _, f3⟩ := hS7
  have q2 := tturn f3 h4 h.ends.2
  have hul := h2.tb.lt
  refine ⟨a', _, c', rfl, (hv.below h56).turned f3 (fun k hk _ e => ?_), hv', q1, q2⟩
  have hk1 := hvb k hk
  rcases e with e | e
  · have := (h4 k e).2; omega
  · omega
theorem two_tread (h : TPair wr B kb t mb u S) (fd n : Int) (hr : S.K.reads < 9223372036854775807) :
    TTwoB 105 106 #[.pointer (some ⟨t, 0, none⟩), .int .i64 fd, .int .i64 n] #[.pointer (some ⟨u, 0, none⟩), .int .i64 fd, .int .i64 n] (S.readT fd n).1 (S.readT fd n).2.1 B kb t mb u wr (S.readT fd n).2.2 := by
  cases hu : S.uses fd with
  | true =>
    rw [TS.readT, if_pos hu]
    obtain ⟨i, rfl, hi, hz⟩ := uses_yes hu
    rw [Int.toNat_natCast]
    refine ttwob h (fun O wb hT _ _ => ?_) (fun P w6 hR _ _ => ?_)
    · refine (tread_yes t kb O S i n wb hT hi hz hr).mono ?_
      rintro e w5 ⟨v, rfl, ho, hW, hT5⟩
      exact ⟨v, rfl, Bys.of_owns ho, fun k hk => (ho.lt k hk).1, O, hW, fun _ e => .inl e, hT5.mono (fun _ e => .inl e)⟩
    · refine (rtread_any u mb P S i n w6 hR hi hz hr).mono ?_
      rintro e w5 ⟨v, rfl, hv, hS⟩
      exact ⟨v, rfl, hv, hR.kstep hS⟩
  | false =>
    rw [TS.readT, if_neg (by simp [hu])]
    refine ttwob h (fun O wb hT _ _ => ?_) (fun P w6 hR _ _ => ?_)
    · refine (tread_free t kb S fd n wb hT.tb hu).mono ?_
      rintro e w5 ⟨rfl, rfl⟩
      exact ⟨_, rfl, .inl ⟨rfl, rfl⟩, fun k hk => by simp [Value.ownBlock] at hk, TStep.below hT (Below.refl _ _)⟩
    · refine (rtread_no u mb S fd n w6 hR.tb hu).mono ?_
      rintro e w5 ⟨rfl, rfl⟩
      exact ⟨_, rfl, .inl ⟨rfl, rfl⟩, RTStep.below hR (Below.refl _ _)⟩
theorem two_tcloseAll (h : TPair wr B kb t mb u S) : ∀ wb, Below wr.heap.size wr wb → Calls Tryz.prog 111 #[.pointer (some ⟨t, 0, none⟩)] wb fun e w5 => (∃ v, e = .returned v) ∧ Turned (fun j => B ≤ j ∧ j < wr.heap.size) wb w5 ∧
    ∀ w6, Below w5.heap.size w5 w6 → Calls Tryz.prog 112 #[.pointer (some ⟨u, 0, none⟩)] w6 fun e w7 => (∃ v, e = .returned v) ∧ TPair w7 B kb t mb u S.closeAll ∧ Turned (fun j => B ≤ j ∧ j < wr.heap.size) w6 w7 := by
  intro wb hb
  obtain ⟨O, P, h1, h2, h3, h4, h5⟩ := h.both
  refine (tcloseAll_any t kb O S wb (h1.below hb)).mono ?_
  rintro e w5 ⟨hv, hS⟩
  obtain ⟨hT5, h6⟩ := h5 wb hb _ w5 hS
  refine ⟨hv, by obtain ⟨_, _, _, g3⟩ := hS; exact tturn g3 h3 h.ends.1, fun w6 h56 => ?_⟩
  obtain ⟨hm, h7⟩ := h6 w6 h56
  refine (rtcloseAll_any u mb P S w6 hm).mono ?_
  rintro e w7 ⟨hv, hS7⟩
  exact ⟨hv, (h7 w7 hS7).1, by obtain ⟨_, _, _, g3⟩ := hS7; exact tturn g3 h4 h.ends.2⟩
theorem TPair.tabs {w : World} (h : TPair w B kb t mb u S) : Tb w t kb S.ds S.ms ∧ RTb w u mb S.ds S.ms := by
  obtain ⟨O, P, h1, h2, _⟩ := h
  exact ⟨h1.tb, h2.tb⟩
end Go.Proofs.YtejcfhjhjplcnaaGreat

/- What the proof stands on, part 7: the contracts of the program's calls that it reaches. -/
import Derived.Test.YtpcchaciomeckaaDoorKG6
/- FormatWide: the walk. -/
namespace Go.Proofs.YtpcchaciomeckaaDoor
open Go.RowKit

set_option maxRecDepth 100000 in
set_option maxHeartbeats 8000000 in
theorem wide_fff (n width : Int) (w : World) (hn : N64 n) : Calls Tryd.prog 6 #[.int .i64 n, .int .i64 width, .bool false, .bool false, .bool false] w fun e w' => e = .returned (.bool true) ∧ Below w.heap.size w w' := by
  obtain ⟨V, LB, K, X, D, A, B, H⟩ := wide_facts n width false false false hn
  have HFc := hide H.fF
  have HGc := hide H.fG
  have HI := hide (fun W => fint_any n W)
  unfold agV at HI
  simp only at HI
  have HAB := hide (ab_int n hn)
  have HDg := hide (fun W => digits17 V H.v1 H.v2 W)
  have HAl := hide H.la
  have HLB := hide H.lb
  have HMx := hide H.mx
  have HH := hide H
  clear H hn
  go_enter Tryd.func6, Tryd.ntmps6
  go_wp2_with fail
  refine (alive17 _).mono ?_
  rintro _ w1 ⟨rfl, hB1⟩
  have HB1 := hide hB1
  clear hB1
  go_upto_region 4 with fail
  rw [show wrap64 (1 + (wrap64 (width.tmod 60 + 60)).tmod 60) = (V : Int) from HH.out.hV]
  have hLB1 := HH.out.lb1
  have hLB2 := HH.out.lb2
  have hK60 := HH.out.k2
  have hVa := HH.out.v1
  have hVb := HH.out.v2
  go_wp2_with fail
  refine (HDg.out _).mono ?_
  rintro _ w2 ⟨⟨s, rfl, hs⟩, hB2⟩
  have HS := hide hs
  have HB2 := hide (HB1.out.trans (hB2.mono HB1.out.size))
  have hsz : s.size ≤ 2 := by
    have e1 : s.size = s.data.toList.length := by rw [Array.length_toList]; rfl
    rw [e1, hs]
    exact dgt_len V
  clear hs hB2
  go_wp2_with fail
  refine (HI.out _).mono ?_
  rintro _ w3 ⟨rfl, hB3⟩
  have HB3 := hide (HB2.out.trans (hB3.mono HB2.out.size))
  clear hB3
  go_wp2_with fail
  have hA := ags_lit w3 [⟨1, n, 0, ⟨#[]⟩⟩] #[.int .i64 1, .int .i64 n, .int .u64 0, .string ⟨#[]⟩] 37 (0, 0) 1 rfl rfl (fun x hx => by rw [List.mem_singleton.1 hx]; exact HAB.out)
  have HB4 := hide (HB3.out.trans ((fm_below w3 (.cells #[.int .i64 1, .int .i64 n, .int .u64 0, .string ⟨#[]⟩] 37)).mono HB3.out.size))
  generalize w3.alloc (.cells #[.int .i64 1, .int .i64 n, .int .u64 0, .string ⟨#[]⟩] 37) = w4 at *
  refine (HFc.out _ (by simp [HS.out, patW, flW]) _ _ hA).mono ?_
  rintro _ w5 ⟨v1, rfl, hO1, hB5⟩
  have HO1 := hide hO1
  have HB5 := hide (HB4.out.trans (hB5.mono HB4.out.size))
  clear hA hO1 hB5 hsz
  go_wp2_with fail
  refine (HI.out _).mono ?_
  rintro _ w6 ⟨rfl, hB6⟩
  have HO1' := hide (owns_below HO1.out hB6)
  have HB6 := hide (HB5.out.trans (hB6.mono HB5.out.size))
  clear hB6
  go_wp2_with fail
  have hA := ags_lit w6 [⟨1, n, 0, ⟨#[]⟩⟩] #[.int .i64 1, .int .i64 n, .int .u64 0, .string ⟨#[]⟩] 37 (0, 0) 1 rfl rfl (fun x hx => by rw [List.mem_singleton.1 hx]; exact HAB.out)
  have hB7 := fm_below w6 (.cells #[.int .i64 1, .int .i64 n, .int .u64 0, .string ⟨#[]⟩] 37)
  have HO1 := hide (owns_below HO1'.out hB7)
  have HB7 := hide (HB6.out.trans (hB7.mono HB6.out.size))
  generalize w6.alloc (.cells #[.int .i64 1, .int .i64 n, .int .u64 0, .string ⟨#[]⟩] 37) = w7 at *
  refine (HGc.out _ (by simp [barW]) _ _ hA).mono ?_
  rintro _ w8 ⟨v2, rfl, hO2, hB8⟩
  have hO1 := owns_below HO1.out hB8
  have HB8 := hide (HB7.out.trans (hB8.mono HB7.out.size))
  obtain ⟨g1, c1, rfl, hc1⟩ := owns_some hO1 (by rw [HAl.out]; omega)
  obtain ⟨g2, c2, rfl, hc2⟩ := owns_some hO2 (by rw [HLB.out]; omega)
  have HY1 := hide (Bys.of_owns hO1)
  have HY2 := hide (Bys.of_owns hO2)
  rw [HAl.out] at HY1 hc1
  rw [HLB.out] at HY2 hc2
  rw [HAl.out, HLB.out]
  clear hO1 hO2 hA hB7 hB8 HO1 HO1' HI HFc HGc HDg
  have hmx := HMx.out
  go_upto_region 16 with (first | (go_at_call 13; refine (num17 _ _).mono ?_; rintro _ _ ⟨rfl, rfl⟩) | fail)
  clear hmx
  go_upto_region 24 with fail
  rw [show (LB : Int) + (K : Int) - (LB : Int) = (K : Int) by omega]
  have HA : Hid (A.take K = bla K ∧ A.drop K = B) := by
    have e2 : (bla K).length = K := List.length_replicate ..
    have e3 : bla K ++ X ++ D = A := HH.out.a
    rw [← e3, List.append_assoc, HH.out.b]
    exact ⟨List.take_left' e2, List.drop_left' e2⟩
  have HQ : Hid (∀ W, (Bys W (.slice (some ⟨g1, 0, none⟩) (LB + K) c1) A ∧ Bys W (.slice (some ⟨g2, 0, none⟩) LB c2) B) → (convert 24 9 (.slice (if c1 = K then some ⟨g1, 0, none⟩ else some ⟨g1, K, none⟩) LB (c1 - K))).run Tryd.prog W = .ok (.string ⟨B.toArray⟩) W ∧ (convert 24 9 (.slice (some ⟨g2, 0, none⟩) LB c2)).run Tryd.prog W = .ok (.string ⟨B.toArray⟩) W) := by
    intro W hS
    refine ⟨?_, bys_string hS.2⟩
    have q := bys_tail hS.1 K LB (c1 - K) (by rw [HAl.out]; omega) (by rw [HAl.out]; exact hc1)
    rw [HA.out.2] at q
    exact bys_string q
  have HC : Hid (∀ W, (Bys W (.slice (some ⟨g1, 0, none⟩) (LB + K) c1) A ∧ Bys W (.slice (some ⟨g2, 0, none⟩) LB c2) B) → Calls Tryd.prog 21 #[.slice (some ⟨g1, 0, none⟩) K c1, .int .u8 32] W fun e w' => e = .returned (.bool true) ∧ w' = W) := by
    intro W hS
    have q := bys_head hS.1 K c1 (by rw [HAl.out]; omega)
    rw [HA.out.1] at q
    exact all_rep _ 32 K W q HH.out.k2
  have hLc : K ≤ c1 := by omega
  have hLs : (K : Int) ≤ (LB : Int) + (K : Int) := by omega
  refine wp_region_noPanic ?_
  refine wp_region_held_drew (S := fun W => Bys W (.slice (some ⟨g1, 0, none⟩) (LB + K) c1) A ∧ Bys W (.slice (some ⟨g2, 0, none⟩) LB c2) B) (by kernel_rfl) (⟨HY1.out.below (Below.refl _ _).drew, HY2.out.below (Below.refl _ _).drew⟩) (fun hHeld => ?_)
  refine wpAnyH_take (i := 0) (oi := ?_) (v := ?_) ?_ (by kernel_rfl) (by kernel_rfl) (by kernel_rfl) (fun _ _ _ h => (h : False).elim) (Or.inl ⟨?_, ?_⟩) hHeld ?_
  rotate_left 2
  · (simp only [List.getElem?_toArray, List.getElem?_cons_zero]; rfl)
  · rfl
  · (intro W hSw; obtain ⟨q1, q2⟩ := HQ.out W hSw; go_simp <;> with_reducible rfl)
  try simp only [Act.put, List.setIfInBounds_toArray, List.set_cons_zero, List.set_cons_succ]
  refine wpAnyH_take (i := 1) (oi := ?_) (v := ?_) ?_ (by kernel_rfl) (by kernel_rfl) (by kernel_rfl) (fun _ _ _ h => (h : False).elim) (Or.inl ⟨?_, ?_⟩) hHeld ?_
  rotate_left 2
  · (simp only [List.getElem?_toArray, List.getElem?_cons_zero, List.getElem?_cons_succ]; rfl)
  · rfl
  · (intro W hSw; obtain ⟨q1, q2⟩ := HQ.out W hSw; go_simp <;> with_reducible rfl)
  try simp only [Act.put, List.setIfInBounds_toArray, List.set_cons_zero, List.set_cons_succ]
  refine wpAnyH_take (i := 2) (oi := ?_) (v := ?_) ?_ (by kernel_rfl) (by kernel_rfl) (by kernel_rfl) (fun _ _ _ h => (h : False).elim) (Or.inl ⟨?_, ?_⟩) hHeld ?_
  rotate_left 2
  · (simp only [List.getElem?_toArray, List.getElem?_cons_zero, List.getElem?_cons_succ]; rfl)
  · rfl
  · (intro W hSw; obtain ⟨q1, q2⟩ := HQ.out W hSw; go_simp <;> with_reducible rfl)
  try simp only [Act.put, List.setIfInBounds_toArray, List.set_cons_zero, List.set_cons_succ]
  refine wpAnyH_ready (rs := [3]) (by kernel_rfl) (by simp) ?_
  refine AllReadyH.cons (o := ?_) ?_ (fun K' hK => ?_) AllReadyH.nil
  rotate_left 1
  · (simp only [List.getElem?_toArray, List.getElem?_cons_zero, List.getElem?_cons_succ]; rfl)
  go_simp
  refine (HC.out _ hHeld).mono ?_; rintro _ _ ⟨rfl, rfl⟩
  refine hK.out _ _ (hHeld) (fun hHeld2 => ?_)
  clear hK K' hHeld
  have hHeld := hHeld2
  clear hHeld2
  try simp only [Act.put, List.setIfInBounds_toArray, List.set_cons_zero, List.set_cons_succ]
  refine wpAnyH_take (i := 4) (oi := ?_) (v := ?_) ?_ (by kernel_rfl) (by kernel_rfl) (by kernel_rfl) (fun _ _ _ h => (h : False).elim) (Or.inl ⟨?_, ?_⟩) hHeld ?_
  rotate_left 2
  · (simp only [List.getElem?_toArray, List.getElem?_cons_zero, List.getElem?_cons_succ]; rfl)
  · rfl
  · (intro W hSw; obtain ⟨q1, q2⟩ := HQ.out W hSw; go_simp <;> with_reducible rfl)
  try simp only [Act.put, List.setIfInBounds_toArray, List.set_cons_zero, List.set_cons_succ]
  refine wpAnyH_take (i := 5) (oi := ?_) (v := ?_) ?_ (by kernel_rfl) (by kernel_rfl) (by kernel_rfl) (fun _ _ _ h => (h : False).elim) (Or.inl ⟨?_, ?_⟩) hHeld ?_
  rotate_left 2
  · (simp only [List.getElem?_toArray, List.getElem?_cons_zero, List.getElem?_cons_succ]; rfl)
  · rfl
  · (intro W hSw; obtain ⟨q1, q2⟩ := HQ.out W hSw; go_simp <;> with_reducible rfl)
  try simp only [Act.put, List.setIfInBounds_toArray, List.set_cons_zero, List.set_cons_succ]
  refine wpAnyH_take (i := 6) (oi := ?_) (v := ?_) ?_ (by kernel_rfl) (by kernel_rfl) (by kernel_rfl) (fun _ _ _ h => (h : False).elim) (Or.inl ⟨?_, ?_⟩) hHeld ?_
  rotate_left 2
  · (simp only [List.getElem?_toArray, List.getElem?_cons_zero, List.getElem?_cons_succ]; rfl)
  · rfl
  · (intro W hSw; obtain ⟨q1, q2⟩ := HQ.out W hSw; go_simp <;> with_reducible rfl)
  try simp only [Act.put, List.setIfInBounds_toArray, List.set_cons_zero, List.set_cons_succ]
  refine wpAnyH_take (i := 7) (oi := ?_) (v := ?_) ?_ (by kernel_rfl) (by kernel_rfl) (by kernel_rfl) (fun _ _ _ h => (h : False).elim) (Or.inl ⟨?_, ?_⟩) hHeld ?_
  rotate_left 2
  · (simp only [List.getElem?_toArray, List.getElem?_cons_zero, List.getElem?_cons_succ]; rfl)
  · rfl
  · (intro W hSw; obtain ⟨q1, q2⟩ := HQ.out W hSw; go_simp <;> with_reducible rfl)
  try simp only [Act.put, List.setIfInBounds_toArray, List.set_cons_zero, List.set_cons_succ]
  refine wpAnyH_take (i := 8) (oi := ?_) (v := ?_) ?_ (by kernel_rfl) (by kernel_rfl) (by kernel_rfl) (fun _ _ _ h => (h : False).elim) (Or.inl ⟨?_, ?_⟩) hHeld ?_
  rotate_left 2
  · (simp only [List.getElem?_toArray, List.getElem?_cons_zero, List.getElem?_cons_succ]; rfl)
  · rfl
  · (intro W hSw; obtain ⟨q1, q2⟩ := HQ.out W hSw; go_simp <;> with_reducible rfl)
  try simp only [Act.put, List.setIfInBounds_toArray, List.set_cons_zero, List.set_cons_succ]
  refine wpAnyH_take (i := 9) (oi := ?_) (v := ?_) ?_ (by kernel_rfl) (by kernel_rfl) (by kernel_rfl) (fun _ _ _ h => (h : False).elim) (Or.inl ⟨?_, ?_⟩) hHeld ?_
  rotate_left 2
  · (simp only [List.getElem?_toArray, List.getElem?_cons_zero, List.getElem?_cons_succ]; rfl)
  · rfl
  · (intro W hSw; obtain ⟨q1, q2⟩ := HQ.out W hSw; go_simp <;> with_reducible rfl)
  try simp only [Act.put, List.setIfInBounds_toArray, List.set_cons_zero, List.set_cons_succ]
  refine wpAnyH_take (i := 10) (oi := ?_) (v := ?_) ?_ (by kernel_rfl) (by kernel_rfl) (by kernel_rfl) (fun _ _ _ h => (h : False).elim) (Or.inl ⟨?_, ?_⟩) hHeld ?_
  rotate_left 2
  · (simp only [List.getElem?_toArray, List.getElem?_cons_zero, List.getElem?_cons_succ]; rfl)
  · rfl
  · (intro W hSw; obtain ⟨q1, q2⟩ := HQ.out W hSw; go_simp <;> with_reducible rfl)
  try simp only [Act.put, List.setIfInBounds_toArray, List.set_cons_zero, List.set_cons_succ]
  refine wpAnyH_take (i := 11) (oi := ?_) (v := ?_) ?_ (by kernel_rfl) (by kernel_rfl) (by kernel_rfl) (fun _ _ _ h => (h : False).elim) (Or.inl ⟨?_, ?_⟩) hHeld ?_
  rotate_left 2
  · (simp only [List.getElem?_toArray, List.getElem?_cons_zero, List.getElem?_cons_succ]; rfl)
  · rfl
  · (intro W hSw; obtain ⟨q1, q2⟩ := HQ.out W hSw; go_simp <;> with_reducible rfl)
  try simp only [Act.put, List.setIfInBounds_toArray, List.set_cons_zero, List.set_cons_succ]
  refine wpAnyH_take (i := 12) (oi := ?_) (v := ?_) ?_ (by kernel_rfl) (by kernel_rfl) (by kernel_rfl) (fun _ _ _ h => (h : False).elim) (Or.inl ⟨?_, ?_⟩) hHeld ?_
  rotate_left 2
  · (simp only [List.getElem?_toArray, List.getElem?_cons_zero, List.getElem?_cons_succ]; rfl)
  · rfl
  · (intro W hSw; obtain ⟨q1, q2⟩ := HQ.out W hSw; go_simp <;> with_reducible rfl)
  try simp only [Act.put, List.setIfInBounds_toArray, List.set_cons_zero, List.set_cons_succ]
  refine wpAnyH_take (i := 13) (oi := ?_) (v := ?_) ?_ (by kernel_rfl) (by kernel_rfl) (by kernel_rfl) (fun _ _ _ h => (h : False).elim) (Or.inl ⟨?_, ?_⟩) hHeld ?_
  rotate_left 2
  · (simp only [List.getElem?_toArray, List.getElem?_cons_zero, List.getElem?_cons_succ]; rfl)
  · rfl
  · (intro W hSw; obtain ⟨q1, q2⟩ := HQ.out W hSw; go_simp <;> with_reducible rfl)
  try simp only [Act.put, List.setIfInBounds_toArray, List.set_cons_zero, List.set_cons_succ]
  refine wpAnyH_done (by kernel_rfl) ?_ _
  refine NoPanic.normal ?_
  go_wp2
  all_goals
    go_ret
    exact ⟨rfl, HB8.out.drew⟩
set_option maxRecDepth 100000 in
set_option maxHeartbeats 8000000 in
theorem wide_fft (n width : Int) (w : World) (hn : N64 n) : Calls Tryd.prog 6 #[.int .i64 n, .int .i64 width, .bool false, .bool false, .bool true] w fun e w' => e = .returned (.bool true) ∧ Below w.heap.size w w' := by
  obtain ⟨V, LB, K, X, D, A, B, H⟩ := wide_facts n width false false true hn
  have HFc := hide H.fF
  have HGc := hide H.fG
  have HI := hide (fun W => fint_any n W)
  unfold agV at HI
  simp only at HI
  have HAB := hide (ab_int n hn)
  have HDg := hide (fun W => digits17 V H.v1 H.v2 W)
  have HAl := hide H.la
  have HLB := hide H.lb
  have HMx := hide H.mx
  have HH := hide H
  clear H hn
  go_enter Tryd.func6, Tryd.ntmps6
  go_wp2_with fail
  refine (alive17 _).mono ?_
  rintro _ w1 ⟨rfl, hB1⟩
  have HB1 := hide hB1
  clear hB1
  go_upto_region 4 with fail
  rw [show wrap64 (1 + (wrap64 (width.tmod 60 + 60)).tmod 60) = (V : Int) from HH.out.hV]
  have hLB1 := HH.out.lb1
  have hLB2 := HH.out.lb2
  have hK60 := HH.out.k2
  have hVa := HH.out.v1
  have hVb := HH.out.v2
  go_wp2_with fail
  refine (HDg.out _).mono ?_
  rintro _ w2 ⟨⟨s, rfl, hs⟩, hB2⟩
  have HS := hide hs
  have HB2 := hide (HB1.out.trans (hB2.mono HB1.out.size))
  have hsz : s.size ≤ 2 := by
    have e1 : s.size = s.data.toList.length := by rw [Array.length_toList]; rfl
    rw [e1, hs]
    exact dgt_len V
  clear hs hB2
  go_wp2_with fail
  refine (HI.out _).mono ?_
  rintro _ w3 ⟨rfl, hB3⟩
  have HB3 := hide (HB2.out.trans (hB3.mono HB2.out.size))
  clear hB3
  go_wp2_with fail
  have hA := ags_lit w3 [⟨1, n, 0, ⟨#[]⟩⟩] #[.int .i64 1, .int .i64 n, .int .u64 0, .string ⟨#[]⟩] 37 (0, 0) 1 rfl rfl (fun x hx => by rw [List.mem_singleton.1 hx]; exact HAB.out)
  have HB4 := hide (HB3.out.trans ((fm_below w3 (.cells #[.int .i64 1, .int .i64 n, .int .u64 0, .string ⟨#[]⟩] 37)).mono HB3.out.size))
  generalize w3.alloc (.cells #[.int .i64 1, .int .i64 n, .int .u64 0, .string ⟨#[]⟩] 37) = w4 at *
  refine (HFc.out _ (by simp [HS.out, patW, flW]) _ _ hA).mono ?_
  rintro _ w5 ⟨v1, rfl, hO1, hB5⟩
  have HO1 := hide hO1
  have HB5 := hide (HB4.out.trans (hB5.mono HB4.out.size))
  clear hA hO1 hB5 hsz
  go_wp2_with fail
  refine (HI.out _).mono ?_
  rintro _ w6 ⟨rfl, hB6⟩
  have HO1' := hide (owns_below HO1.out hB6)
  have HB6 := hide (HB5.out.trans (hB6.mono HB5.out.size))
  clear hB6
  go_wp2_with fail
  have hA := ags_lit w6 [⟨1, n, 0, ⟨#[]⟩⟩] #[.int .i64 1, .int .i64 n, .int .u64 0, .string ⟨#[]⟩] 37 (0, 0) 1 rfl rfl (fun x hx => by rw [List.mem_singleton.1 hx]; exact HAB.out)
  have hB7 := fm_below w6 (.cells #[.int .i64 1, .int .i64 n, .int .u64 0, .string ⟨#[]⟩] 37)
  have HO1 := hide (owns_below HO1'.out hB7)
  have HB7 := hide (HB6.out.trans (hB7.mono HB6.out.size))
  generalize w6.alloc (.cells #[.int .i64 1, .int .i64 n, .int .u64 0, .string ⟨#[]⟩] 37) = w7 at *
  refine (HGc.out _ (by simp [barW]) _ _ hA).mono ?_
  rintro _ w8 ⟨v2, rfl, hO2, hB8⟩
  have hO1 := owns_below HO1.out hB8
  have HB8 := hide (HB7.out.trans (hB8.mono HB7.out.size))
  obtain ⟨g1, c1, rfl, hc1⟩ := owns_some hO1 (by rw [HAl.out]; omega)
  obtain ⟨g2, c2, rfl, hc2⟩ := owns_some hO2 (by rw [HLB.out]; omega)
  have HY1 := hide (Bys.of_owns hO1)
  have HY2 := hide (Bys.of_owns hO2)
  rw [HAl.out] at HY1 hc1
  rw [HLB.out] at HY2 hc2
  rw [HAl.out, HLB.out]
  clear hO1 hO2 hA hB7 hB8 HO1 HO1' HI HFc HGc HDg
  have hmx := HMx.out
  go_upto_region 16 with (first | (go_at_call 13; refine (num17 _ _).mono ?_; rintro _ _ ⟨rfl, rfl⟩) | fail)
  clear hmx
  go_upto_region 24 with fail
  rw [show (LB : Int) + (K : Int) - (LB : Int) = (K : Int) by omega]
  have HA : Hid (A.take K = bla K ∧ A.drop K = B) := by
    have e2 : (bla K).length = K := List.length_replicate ..
    have e3 : bla K ++ X ++ D = A := HH.out.a
    rw [← e3, List.append_assoc, HH.out.b]
    exact ⟨List.take_left' e2, List.drop_left' e2⟩
  have HQ : Hid (∀ W, (Bys W (.slice (some ⟨g1, 0, none⟩) (LB + K) c1) A ∧ Bys W (.slice (some ⟨g2, 0, none⟩) LB c2) B) → (convert 24 9 (.slice (if c1 = K then some ⟨g1, 0, none⟩ else some ⟨g1, K, none⟩) LB (c1 - K))).run Tryd.prog W = .ok (.string ⟨B.toArray⟩) W ∧ (convert 24 9 (.slice (some ⟨g2, 0, none⟩) LB c2)).run Tryd.prog W = .ok (.string ⟨B.toArray⟩) W) := by
    intro W hS
    refine ⟨?_, bys_string hS.2⟩
    have q := bys_tail hS.1 K LB (c1 - K) (by rw [HAl.out]; omega) (by rw [HAl.out]; exact hc1)
    rw [HA.out.2] at q
    exact bys_string q
  have HC : Hid (∀ W, (Bys W (.slice (some ⟨g1, 0, none⟩) (LB + K) c1) A ∧ Bys W (.slice (some ⟨g2, 0, none⟩) LB c2) B) → Calls Tryd.prog 21 #[.slice (some ⟨g1, 0, none⟩) K c1, .int .u8 32] W fun e w' => e = .returned (.bool true) ∧ w' = W) := by
    intro W hS
    have q := bys_head hS.1 K c1 (by rw [HAl.out]; omega)
    rw [HA.out.1] at q
    exact all_rep _ 32 K W q HH.out.k2
  have hLc : K ≤ c1 := by omega
  have hLs : (K : Int) ≤ (LB : Int) + (K : Int) := by omega
  refine wp_region_noPanic ?_
  refine wp_region_held_drew (S := fun W => Bys W (.slice (some ⟨g1, 0, none⟩) (LB + K) c1) A ∧ Bys W (.slice (some ⟨g2, 0, none⟩) LB c2) B) (by kernel_rfl) (⟨HY1.out.below (Below.refl _ _).drew, HY2.out.below (Below.refl _ _).drew⟩) (fun hHeld => ?_)
  refine wpAnyH_take (i := 0) (oi := ?_) (v := ?_) ?_ (by kernel_rfl) (by kernel_rfl) (by kernel_rfl) (fun _ _ _ h => (h : False).elim) (Or.inl ⟨?_, ?_⟩) hHeld ?_
  rotate_left 2
  · (simp only [List.getElem?_toArray, List.getElem?_cons_zero]; rfl)
  · rfl
  · (intro W hSw; obtain ⟨q1, q2⟩ := HQ.out W hSw; go_simp <;> with_reducible rfl)
  try simp only [Act.put, List.setIfInBounds_toArray, List.set_cons_zero, List.set_cons_succ]
  refine wpAnyH_take (i := 1) (oi := ?_) (v := ?_) ?_ (by kernel_rfl) (by kernel_rfl) (by kernel_rfl) (fun _ _ _ h => (h : False).elim) (Or.inl ⟨?_, ?_⟩) hHeld ?_
  rotate_left 2
  · (simp only [List.getElem?_toArray, List.getElem?_cons_zero, List.getElem?_cons_succ]; rfl)
  · rfl
  · (intro W hSw; obtain ⟨q1, q2⟩ := HQ.out W hSw; go_simp <;> with_reducible rfl)
  try simp only [Act.put, List.setIfInBounds_toArray, List.set_cons_zero, List.set_cons_succ]
  refine wpAnyH_take (i := 2) (oi := ?_) (v := ?_) ?_ (by kernel_rfl) (by kernel_rfl) (by kernel_rfl) (fun _ _ _ h => (h : False).elim) (Or.inl ⟨?_, ?_⟩) hHeld ?_
  rotate_left 2
  · (simp only [List.getElem?_toArray, List.getElem?_cons_zero, List.getElem?_cons_succ]; rfl)
  · rfl
  · (intro W hSw; obtain ⟨q1, q2⟩ := HQ.out W hSw; go_simp <;> with_reducible rfl)
  try simp only [Act.put, List.setIfInBounds_toArray, List.set_cons_zero, List.set_cons_succ]
  refine wpAnyH_ready (rs := [3]) (by kernel_rfl) (by simp) ?_
  refine AllReadyH.cons (o := ?_) ?_ (fun K' hK => ?_) AllReadyH.nil
  rotate_left 1
  · (simp only [List.getElem?_toArray, List.getElem?_cons_zero, List.getElem?_cons_succ]; rfl)
  go_simp
  refine (HC.out _ hHeld).mono ?_; rintro _ _ ⟨rfl, rfl⟩
  refine hK.out _ _ (hHeld) (fun hHeld2 => ?_)
  clear hK K' hHeld
  have hHeld := hHeld2
  clear hHeld2
  try simp only [Act.put, List.setIfInBounds_toArray, List.set_cons_zero, List.set_cons_succ]
  refine wpAnyH_take (i := 4) (oi := ?_) (v := ?_) ?_ (by kernel_rfl) (by kernel_rfl) (by kernel_rfl) (fun _ _ _ h => (h : False).elim) (Or.inl ⟨?_, ?_⟩) hHeld ?_
  rotate_left 2
  · (simp only [List.getElem?_toArray, List.getElem?_cons_zero, List.getElem?_cons_succ]; rfl)
  · rfl
  · (intro W hSw; obtain ⟨q1, q2⟩ := HQ.out W hSw; go_simp <;> with_reducible rfl)
  try simp only [Act.put, List.setIfInBounds_toArray, List.set_cons_zero, List.set_cons_succ]
  refine wpAnyH_take (i := 5) (oi := ?_) (v := ?_) ?_ (by kernel_rfl) (by kernel_rfl) (by kernel_rfl) (fun _ _ _ h => (h : False).elim) (Or.inl ⟨?_, ?_⟩) hHeld ?_
  rotate_left 2
  · (simp only [List.getElem?_toArray, List.getElem?_cons_zero, List.getElem?_cons_succ]; rfl)
  · rfl
  · (intro W hSw; obtain ⟨q1, q2⟩ := HQ.out W hSw; go_simp <;> with_reducible rfl)
  try simp only [Act.put, List.setIfInBounds_toArray, List.set_cons_zero, List.set_cons_succ]
  refine wpAnyH_take (i := 6) (oi := ?_) (v := ?_) ?_ (by kernel_rfl) (by kernel_rfl) (by kernel_rfl) (fun _ _ _ h => (h : False).elim) (Or.inl ⟨?_, ?_⟩) hHeld ?_
  rotate_left 2
  · (simp only [List.getElem?_toArray, List.getElem?_cons_zero, List.getElem?_cons_succ]; rfl)
  · rfl
  · (intro W hSw; obtain ⟨q1, q2⟩ := HQ.out W hSw; go_simp <;> with_reducible rfl)
  try simp only [Act.put, List.setIfInBounds_toArray, List.set_cons_zero, List.set_cons_succ]
  refine wpAnyH_take (i := 7) (oi := ?_) (v := ?_) ?_ (by kernel_rfl) (by kernel_rfl) (by kernel_rfl) (fun _ _ _ h => (h : False).elim) (Or.inl ⟨?_, ?_⟩) hHeld ?_
  rotate_left 2
  · (simp only [List.getElem?_toArray, List.getElem?_cons_zero, List.getElem?_cons_succ]; rfl)
  · rfl
  · (intro W hSw; obtain ⟨q1, q2⟩ := HQ.out W hSw; go_simp <;> with_reducible rfl)
  try simp only [Act.put, List.setIfInBounds_toArray, List.set_cons_zero, List.set_cons_succ]
  refine wpAnyH_take (i := 8) (oi := ?_) (v := ?_) ?_ (by kernel_rfl) (by kernel_rfl) (by kernel_rfl) (fun _ _ _ h => (h : False).elim) (Or.inl ⟨?_, ?_⟩) hHeld ?_
  rotate_left 2
  · (simp only [List.getElem?_toArray, List.getElem?_cons_zero, List.getElem?_cons_succ]; rfl)
  · rfl
  · (intro W hSw; obtain ⟨q1, q2⟩ := HQ.out W hSw; go_simp <;> with_reducible rfl)
  try simp only [Act.put, List.setIfInBounds_toArray, List.set_cons_zero, List.set_cons_succ]
  refine wpAnyH_take (i := 9) (oi := ?_) (v := ?_) ?_ (by kernel_rfl) (by kernel_rfl) (by kernel_rfl) (fun _ _ _ h => (h : False).elim) (Or.inl ⟨?_, ?_⟩) hHeld ?_
  rotate_left 2
  · (simp only [List.getElem?_toArray, List.getElem?_cons_zero, List.getElem?_cons_succ]; rfl)
  · rfl
  · (intro W hSw; obtain ⟨q1, q2⟩ := HQ.out W hSw; go_simp <;> with_reducible rfl)
  try simp only [Act.put, List.setIfInBounds_toArray, List.set_cons_zero, List.set_cons_succ]
  refine wpAnyH_take (i := 10) (oi := ?_) (v := ?_) ?_ (by kernel_rfl) (by kernel_rfl) (by kernel_rfl) (fun _ _ _ h => (h : False).elim) (Or.inl ⟨?_, ?_⟩) hHeld ?_
  rotate_left 2
  · (simp only [List.getElem?_toArray, List.getElem?_cons_zero, List.getElem?_cons_succ]; rfl)
  · rfl
  · (intro W hSw; obtain ⟨q1, q2⟩ := HQ.out W hSw; go_simp <;> with_reducible rfl)
  try simp only [Act.put, List.setIfInBounds_toArray, List.set_cons_zero, List.set_cons_succ]
  refine wpAnyH_take (i := 11) (oi := ?_) (v := ?_) ?_ (by kernel_rfl) (by kernel_rfl) (by kernel_rfl) (fun _ _ _ h => (h : False).elim) (Or.inl ⟨?_, ?_⟩) hHeld ?_
  rotate_left 2
  · (simp only [List.getElem?_toArray, List.getElem?_cons_zero, List.getElem?_cons_succ]; rfl)
  · rfl
  · (intro W hSw; obtain ⟨q1, q2⟩ := HQ.out W hSw; go_simp <;> with_reducible rfl)
  try simp only [Act.put, List.setIfInBounds_toArray, List.set_cons_zero, List.set_cons_succ]
  refine wpAnyH_take (i := 12) (oi := ?_) (v := ?_) ?_ (by kernel_rfl) (by kernel_rfl) (by kernel_rfl) (fun _ _ _ h => (h : False).elim) (Or.inl ⟨?_, ?_⟩) hHeld ?_
  rotate_left 2
  · (simp only [List.getElem?_toArray, List.getElem?_cons_zero, List.getElem?_cons_succ]; rfl)
  · rfl
  · (intro W hSw; obtain ⟨q1, q2⟩ := HQ.out W hSw; go_simp <;> with_reducible rfl)
  try simp only [Act.put, List.setIfInBounds_toArray, List.set_cons_zero, List.set_cons_succ]
  refine wpAnyH_take (i := 13) (oi := ?_) (v := ?_) ?_ (by kernel_rfl) (by kernel_rfl) (by kernel_rfl) (fun _ _ _ h => (h : False).elim) (Or.inl ⟨?_, ?_⟩) hHeld ?_
  rotate_left 2
  · (simp only [List.getElem?_toArray, List.getElem?_cons_zero, List.getElem?_cons_succ]; rfl)
  · rfl
  · (intro W hSw; obtain ⟨q1, q2⟩ := HQ.out W hSw; go_simp <;> with_reducible rfl)
  try simp only [Act.put, List.setIfInBounds_toArray, List.set_cons_zero, List.set_cons_succ]
  refine wpAnyH_done (by kernel_rfl) ?_ _
  refine NoPanic.normal ?_
  go_wp2
  all_goals
    go_ret
    exact ⟨rfl, HB8.out.drew⟩
end Go.Proofs.YtpcchaciomeckaaDoor

/- FormatWide: the walk. -/
namespace Go.Proofs.YtpcchaciomeckaaDoor
open Go.RowKit

set_option maxRecDepth 100000 in
set_option maxHeartbeats 8000000 in
theorem wide_ttf (n width : Int) (w : World) (hn : N64 n) : Calls Tryd.prog 6 #[.int .i64 n, .int .i64 width, .bool true, .bool true, .bool false] w fun e w' => e = .returned (.bool true) ∧ Below w.heap.size w w' := by
  obtain ⟨V, LB, K, X, D, A, B, H⟩ := wide_facts n width true true false hn
  have HFc := hide H.fF
  have HGc := hide H.fG
  have HI := hide (fun W => fint_any n W)
  unfold agV at HI
  simp only at HI
  have HAB := hide (ab_int n hn)
  have HDg := hide (fun W => digits17 V H.v1 H.v2 W)
  have HAl := hide H.la
  have HLB := hide H.lb
  have HMx := hide H.mx
  have HH := hide H
  clear H hn
  go_enter Tryd.func6, Tryd.ntmps6
  go_wp2_with fail
  refine (alive17 _).mono ?_
  rintro _ w1 ⟨rfl, hB1⟩
  have HB1 := hide hB1
  clear hB1
  go_upto_region 4 with fail
  rw [show wrap64 (1 + (wrap64 (width.tmod 60 + 60)).tmod 60) = (V : Int) from HH.out.hV]
  have hLB1 := HH.out.lb1
  have hLB2 := HH.out.lb2
  have hK60 := HH.out.k2
  have hVa := HH.out.v1
  have hVb := HH.out.v2
  go_wp2_with fail
  refine (HDg.out _).mono ?_
  rintro _ w2 ⟨⟨s, rfl, hs⟩, hB2⟩
  have HS := hide hs
  have HB2 := hide (HB1.out.trans (hB2.mono HB1.out.size))
  have hsz : s.size ≤ 2 := by
    have e1 : s.size = s.data.toList.length := by rw [Array.length_toList]; rfl
    rw [e1, hs]
    exact dgt_len V
  clear hs hB2
  go_wp2_with fail
  refine (HI.out _).mono ?_
  rintro _ w3 ⟨rfl, hB3⟩
  have HB3 := hide (HB2.out.trans (hB3.mono HB2.out.size))
  clear hB3
  go_wp2_with fail
  have hA := ags_lit w3 [⟨1, n, 0, ⟨#[]⟩⟩] #[.int .i64 1, .int .i64 n, .int .u64 0, .string ⟨#[]⟩] 37 (0, 0) 1 rfl rfl (fun x hx => by rw [List.mem_singleton.1 hx]; exact HAB.out)
  have HB4 := hide (HB3.out.trans ((fm_below w3 (.cells #[.int .i64 1, .int .i64 n, .int .u64 0, .string ⟨#[]⟩] 37)).mono HB3.out.size))
  generalize w3.alloc (.cells #[.int .i64 1, .int .i64 n, .int .u64 0, .string ⟨#[]⟩] 37) = w4 at *
  refine (HFc.out _ (by simp [HS.out, patW, flW]) _ _ hA).mono ?_
  rintro _ w5 ⟨v1, rfl, hO1, hB5⟩
  have HO1 := hide hO1
  have HB5 := hide (HB4.out.trans (hB5.mono HB4.out.size))
  clear hA hO1 hB5 hsz
  go_wp2_with fail
  refine (HI.out _).mono ?_
  rintro _ w6 ⟨rfl, hB6⟩
  have HO1' := hide (owns_below HO1.out hB6)
  have HB6 := hide (HB5.out.trans (hB6.mono HB5.out.size))
  clear hB6
  go_wp2_with fail
  have hA := ags_lit w6 [⟨1, n, 0, ⟨#[]⟩⟩] #[.int .i64 1, .int .i64 n, .int .u64 0, .string ⟨#[]⟩] 37 (0, 0) 1 rfl rfl (fun x hx => by rw [List.mem_singleton.1 hx]; exact HAB.out)
  have hB7 := fm_below w6 (.cells #[.int .i64 1, .int .i64 n, .int .u64 0, .string ⟨#[]⟩] 37)
  have HO1 := hide (owns_below HO1'.out hB7)
  have HB7 := hide (HB6.out.trans (hB7.mono HB6.out.size))
  generalize w6.alloc (.cells #[.int .i64 1, .int .i64 n, .int .u64 0, .string ⟨#[]⟩] 37) = w7 at *
  refine (HGc.out _ (by simp [barW]) _ _ hA).mono ?_
  rintro _ w8 ⟨v2, rfl, hO2, hB8⟩
  have hO1 := owns_below HO1.out hB8
  have HB8 := hide (HB7.out.trans (hB8.mono HB7.out.size))
  obtain ⟨g1, c1, rfl, hc1⟩ := owns_some hO1 (by rw [HAl.out]; omega)
  obtain ⟨g2, c2, rfl, hc2⟩ := owns_some hO2 (by rw [HLB.out]; omega)
  have HY1 := hide (Bys.of_owns hO1)
  have HY2 := hide (Bys.of_owns hO2)
  rw [HAl.out] at HY1 hc1
  rw [HLB.out] at HY2 hc2
  rw [HAl.out, HLB.out]
  clear hO1 hO2 hA hB7 hB8 HO1 HO1' HI HFc HGc HDg
  have hmx := HMx.out
  go_upto_region 16 with (first | (go_at_call 13; refine (num17 _ _).mono ?_; rintro _ _ ⟨rfl, rfl⟩) | fail)
  clear hmx
  go_upto_region 18 with fail
  have HA : Hid (A.take LB = B ∧ A.drop LB = bla K) := by
    have e2 : (X ++ D).length = LB := by rw [HH.out.b]; exact HLB.out
    have e3 : (X ++ D) ++ bla K = A := HH.out.a
    rw [← e3, ← HH.out.b]
    exact ⟨List.take_left' e2, List.drop_left' e2⟩
  have HQ : Hid (∀ W, (Bys W (.slice (some ⟨g1, 0, none⟩) (LB + K) c1) A ∧ Bys W (.slice (some ⟨g2, 0, none⟩) LB c2) B) → (convert 24 9 (.slice (some ⟨g1, 0, none⟩) LB c1)).run Tryd.prog W = .ok (.string ⟨B.toArray⟩) W ∧ (convert 24 9 (.slice (some ⟨g2, 0, none⟩) LB c2)).run Tryd.prog W = .ok (.string ⟨B.toArray⟩) W) := by
    intro W hS
    refine ⟨?_, bys_string hS.2⟩
    have q := bys_head hS.1 LB c1 (by rw [HAl.out]; omega)
    rw [HA.out.1] at q
    exact bys_string q
  have HC : Hid (∀ W, (Bys W (.slice (some ⟨g1, 0, none⟩) (LB + K) c1) A ∧ Bys W (.slice (some ⟨g2, 0, none⟩) LB c2) B) → Calls Tryd.prog 21 #[.slice (if c1 = LB then some ⟨g1, 0, none⟩ else some ⟨g1, LB, none⟩) K (c1 - LB), .int .u8 32] W fun e w' => e = .returned (.bool true) ∧ w' = W) := by
    intro W hS
    have q := bys_tail hS.1 LB K (c1 - LB) (by rw [HAl.out]) (by rw [HAl.out]; exact hc1)
    rw [HA.out.2] at q
    exact all_rep _ 32 K W q HH.out.k2
  have hLc : LB ≤ c1 := by omega
  have hLs : (LB : Int) ≤ (LB : Int) + (K : Int) := by omega
  refine wp_region_noPanic ?_
  refine wp_region_held_drew (S := fun W => Bys W (.slice (some ⟨g1, 0, none⟩) (LB + K) c1) A ∧ Bys W (.slice (some ⟨g2, 0, none⟩) LB c2) B) (by kernel_rfl) (⟨HY1.out.below (Below.refl _ _).drew, HY2.out.below (Below.refl _ _).drew⟩) (fun hHeld => ?_)
  refine wpAnyH_take (i := 0) (oi := ?_) (v := ?_) ?_ (by kernel_rfl) (by kernel_rfl) (by kernel_rfl) (fun _ _ _ h => (h : False).elim) (Or.inl ⟨?_, ?_⟩) hHeld ?_
  rotate_left 2
  · (simp only [List.getElem?_toArray, List.getElem?_cons_zero]; rfl)
  · rfl
  · (intro W hSw; obtain ⟨q1, q2⟩ := HQ.out W hSw; go_simp <;> with_reducible rfl)
  try simp only [Act.put, List.setIfInBounds_toArray, List.set_cons_zero, List.set_cons_succ]
  refine wpAnyH_take (i := 1) (oi := ?_) (v := ?_) ?_ (by kernel_rfl) (by kernel_rfl) (by kernel_rfl) (fun _ _ _ h => (h : False).elim) (Or.inl ⟨?_, ?_⟩) hHeld ?_
  rotate_left 2
  · (simp only [List.getElem?_toArray, List.getElem?_cons_zero, List.getElem?_cons_succ]; rfl)
  · rfl
  · (intro W hSw; obtain ⟨q1, q2⟩ := HQ.out W hSw; go_simp <;> with_reducible rfl)
  try simp only [Act.put, List.setIfInBounds_toArray, List.set_cons_zero, List.set_cons_succ]
  refine wpAnyH_take (i := 2) (oi := ?_) (v := ?_) ?_ (by kernel_rfl) (by kernel_rfl) (by kernel_rfl) (fun _ _ _ h => (h : False).elim) (Or.inl ⟨?_, ?_⟩) hHeld ?_
  rotate_left 2
  · (simp only [List.getElem?_toArray, List.getElem?_cons_zero, List.getElem?_cons_succ]; rfl)
  · rfl
  · (intro W hSw; obtain ⟨q1, q2⟩ := HQ.out W hSw; go_simp <;> with_reducible rfl)
  try simp only [Act.put, List.setIfInBounds_toArray, List.set_cons_zero, List.set_cons_succ]
  refine wpAnyH_take (i := 3) (oi := ?_) (v := ?_) ?_ (by kernel_rfl) (by kernel_rfl) (by kernel_rfl) (fun _ _ _ h => (h : False).elim) (Or.inl ⟨?_, ?_⟩) hHeld ?_
  rotate_left 2
  · (simp only [List.getElem?_toArray, List.getElem?_cons_zero, List.getElem?_cons_succ]; rfl)
  · rfl
  · (intro W hSw; obtain ⟨q1, q2⟩ := HQ.out W hSw; go_simp <;> with_reducible rfl)
  try simp only [Act.put, List.setIfInBounds_toArray, List.set_cons_zero, List.set_cons_succ]
  refine wpAnyH_take (i := 4) (oi := ?_) (v := ?_) ?_ (by kernel_rfl) (by kernel_rfl) (by kernel_rfl) (fun _ _ _ h => (h : False).elim) (Or.inl ⟨?_, ?_⟩) hHeld ?_
  rotate_left 2
  · (simp only [List.getElem?_toArray, List.getElem?_cons_zero, List.getElem?_cons_succ]; rfl)
  · rfl
  · (intro W hSw; obtain ⟨q1, q2⟩ := HQ.out W hSw; go_simp <;> with_reducible rfl)
  try simp only [Act.put, List.setIfInBounds_toArray, List.set_cons_zero, List.set_cons_succ]
  refine wpAnyH_take (i := 5) (oi := ?_) (v := ?_) ?_ (by kernel_rfl) (by kernel_rfl) (by kernel_rfl) (fun _ _ _ h => (h : False).elim) (Or.inl ⟨?_, ?_⟩) hHeld ?_
  rotate_left 2
  · (simp only [List.getElem?_toArray, List.getElem?_cons_zero, List.getElem?_cons_succ]; rfl)
  · rfl
  · (intro W hSw; obtain ⟨q1, q2⟩ := HQ.out W hSw; go_simp <;> with_reducible rfl)
  try simp only [Act.put, List.setIfInBounds_toArray, List.set_cons_zero, List.set_cons_succ]
  refine wpAnyH_take (i := 6) (oi := ?_) (v := ?_) ?_ (by kernel_rfl) (by kernel_rfl) (by kernel_rfl) (fun _ _ _ h => (h : False).elim) (Or.inl ⟨?_, ?_⟩) hHeld ?_
  rotate_left 2
  · (simp only [List.getElem?_toArray, List.getElem?_cons_zero, List.getElem?_cons_succ]; rfl)
  · rfl
  · (intro W hSw; obtain ⟨q1, q2⟩ := HQ.out W hSw; go_simp <;> with_reducible rfl)
  try simp only [Act.put, List.setIfInBounds_toArray, List.set_cons_zero, List.set_cons_succ]
  refine wpAnyH_take (i := 7) (oi := ?_) (v := ?_) ?_ (by kernel_rfl) (by kernel_rfl) (by kernel_rfl) (fun _ _ _ h => (h : False).elim) (Or.inl ⟨?_, ?_⟩) hHeld ?_
  rotate_left 2
  · (simp only [List.getElem?_toArray, List.getElem?_cons_zero, List.getElem?_cons_succ]; rfl)
  · rfl
  · (intro W hSw; obtain ⟨q1, q2⟩ := HQ.out W hSw; go_simp <;> with_reducible rfl)
  try simp only [Act.put, List.setIfInBounds_toArray, List.set_cons_zero, List.set_cons_succ]
  refine wpAnyH_take (i := 8) (oi := ?_) (v := ?_) ?_ (by kernel_rfl) (by kernel_rfl) (by kernel_rfl) (fun _ _ _ h => (h : False).elim) (Or.inl ⟨?_, ?_⟩) hHeld ?_
  rotate_left 2
  · (simp only [List.getElem?_toArray, List.getElem?_cons_zero, List.getElem?_cons_succ]; rfl)
  · rfl
  · (intro W hSw; obtain ⟨q1, q2⟩ := HQ.out W hSw; go_simp <;> with_reducible rfl)
  try simp only [Act.put, List.setIfInBounds_toArray, List.set_cons_zero, List.set_cons_succ]
  refine wpAnyH_take (i := 9) (oi := ?_) (v := ?_) ?_ (by kernel_rfl) (by kernel_rfl) (by kernel_rfl) (fun _ _ _ h => (h : False).elim) (Or.inl ⟨?_, ?_⟩) hHeld ?_
  rotate_left 2
  · (simp only [List.getElem?_toArray, List.getElem?_cons_zero, List.getElem?_cons_succ]; rfl)
  · rfl
  · (intro W hSw; obtain ⟨q1, q2⟩ := HQ.out W hSw; go_simp <;> with_reducible rfl)
  try simp only [Act.put, List.setIfInBounds_toArray, List.set_cons_zero, List.set_cons_succ]
  refine wpAnyH_take (i := 10) (oi := ?_) (v := ?_) ?_ (by kernel_rfl) (by kernel_rfl) (by kernel_rfl) (fun _ _ _ h => (h : False).elim) (Or.inl ⟨?_, ?_⟩) hHeld ?_
  rotate_left 2
  · (simp only [List.getElem?_toArray, List.getElem?_cons_zero, List.getElem?_cons_succ]; rfl)
  · rfl
  · (intro W hSw; obtain ⟨q1, q2⟩ := HQ.out W hSw; go_simp <;> with_reducible rfl)
  try simp only [Act.put, List.setIfInBounds_toArray, List.set_cons_zero, List.set_cons_succ]
  refine wpAnyH_take (i := 11) (oi := ?_) (v := ?_) ?_ (by kernel_rfl) (by kernel_rfl) (by kernel_rfl) (fun _ _ _ h => (h : False).elim) (Or.inl ⟨?_, ?_⟩) hHeld ?_
  rotate_left 2
  · (simp only [List.getElem?_toArray, List.getElem?_cons_zero, List.getElem?_cons_succ]; rfl)
  · rfl
  · (intro W hSw; obtain ⟨q1, q2⟩ := HQ.out W hSw; go_simp <;> with_reducible rfl)
  try simp only [Act.put, List.setIfInBounds_toArray, List.set_cons_zero, List.set_cons_succ]
  refine wpAnyH_take (i := 12) (oi := ?_) (v := ?_) ?_ (by kernel_rfl) (by kernel_rfl) (by kernel_rfl) (fun _ _ _ h => (h : False).elim) (Or.inl ⟨?_, ?_⟩) hHeld ?_
  rotate_left 2
  · (simp only [List.getElem?_toArray, List.getElem?_cons_zero, List.getElem?_cons_succ]; rfl)
  · rfl
  · (intro W hSw; obtain ⟨q1, q2⟩ := HQ.out W hSw; go_simp <;> with_reducible rfl)
  try simp only [Act.put, List.setIfInBounds_toArray, List.set_cons_zero, List.set_cons_succ]
  refine wpAnyH_ready (rs := [13]) (by kernel_rfl) (by simp) ?_
  refine AllReadyH.cons (o := ?_) ?_ (fun K' hK => ?_) AllReadyH.nil
  rotate_left 1
  · (simp only [List.getElem?_toArray, List.getElem?_cons_zero, List.getElem?_cons_succ]; rfl)
  go_simp
  refine (HC.out _ hHeld).mono ?_; rintro _ _ ⟨rfl, rfl⟩
  refine hK.out _ _ (hHeld) (fun hHeld2 => ?_)
  clear hK K' hHeld
  have hHeld := hHeld2
  clear hHeld2
  try simp only [Act.put, List.setIfInBounds_toArray, List.set_cons_zero, List.set_cons_succ]
  refine wpAnyH_take (i := 14) (oi := ?_) (v := ?_) ?_ (by kernel_rfl) (by kernel_rfl) (by kernel_rfl) (fun _ _ _ h => (h : False).elim) (Or.inl ⟨?_, ?_⟩) hHeld ?_
  rotate_left 2
  · (simp only [List.getElem?_toArray, List.getElem?_cons_zero, List.getElem?_cons_succ]; rfl)
  · rfl
  · (intro W hSw; obtain ⟨q1, q2⟩ := HQ.out W hSw; go_simp <;> with_reducible rfl)
  try simp only [Act.put, List.setIfInBounds_toArray, List.set_cons_zero, List.set_cons_succ]
  refine wpAnyH_take (i := 15) (oi := ?_) (v := ?_) ?_ (by kernel_rfl) (by kernel_rfl) (by kernel_rfl) (fun _ _ _ h => (h : False).elim) (Or.inl ⟨?_, ?_⟩) hHeld ?_
  rotate_left 2
  · (simp only [List.getElem?_toArray, List.getElem?_cons_zero, List.getElem?_cons_succ]; rfl)
  · rfl
  · (intro W hSw; obtain ⟨q1, q2⟩ := HQ.out W hSw; go_simp <;> with_reducible rfl)
  try simp only [Act.put, List.setIfInBounds_toArray, List.set_cons_zero, List.set_cons_succ]
  refine wpAnyH_done (by kernel_rfl) ?_ _
  refine NoPanic.normal ?_
  go_wp2
  all_goals
    go_ret
    exact ⟨rfl, HB8.out.drew⟩
set_option maxRecDepth 100000 in
set_option maxHeartbeats 8000000 in
theorem wide_ttt (n width : Int) (w : World) (hn : N64 n) : Calls Tryd.prog 6 #[.int .i64 n, .int .i64 width, .bool true, .bool true, .bool true] w fun e w' => e = .returned (.bool true) ∧ Below w.heap.size w w' := by
  obtain ⟨V, LB, K, X, D, A, B, H⟩ := wide_facts n width true true true hn
  have HFc := hide H.fF
  have HGc := hide H.fG
  have HI := hide (fun W => fint_any n W)
  unfold agV at HI
  simp only at HI
  have HAB := hide (ab_int n hn)
  have HDg := hide (fun W => digits17 V H.v1 H.v2 W)
  have HAl := hide H.la
  have HLB := hide H.lb
  have HMx := hide H.mx
  have HH := hide H
  clear H hn
  go_enter Tryd.func6, Tryd.ntmps6
  go_wp2_with fail
  refine (alive17 _).mono ?_
  rintro _ w1 ⟨rfl, hB1⟩
  have HB1 := hide hB1
  clear hB1
  go_upto_region 4 with fail
  rw [show wrap64 (1 + (wrap64 (width.tmod 60 + 60)).tmod 60) = (V : Int) from HH.out.hV]
  have hLB1 := HH.out.lb1
  have hLB2 := HH.out.lb2
  have hK60 := HH.out.k2
  have hVa := HH.out.v1
  have hVb := HH.out.v2
  go_wp2_with fail
  refine (HDg.out _).mono ?_
  rintro _ w2 ⟨⟨s, rfl, hs⟩, hB2⟩
  have HS := hide hs
  have HB2 := hide (HB1.out.trans (hB2.mono HB1.out.size))
  have hsz : s.size ≤ 2 := by
    have e1 : s.size = s.data.toList.length := by rw [Array.length_toList]; rfl
    rw [e1, hs]
    exact dgt_len V
  clear hs hB2
  go_wp2_with fail
  refine (HI.out _).mono ?_
  rintro _ w3 ⟨rfl, hB3⟩
  have HB3 := hide (HB2.out.trans (hB3.mono HB2.out.size))
  clear hB3
  go_wp2_with fail
  have hA := ags_lit w3 [⟨1, n, 0, ⟨#[]⟩⟩] #[.int .i64 1, .int .i64 n, .int .u64 0, .string ⟨#[]⟩] 37 (0, 0) 1 rfl rfl (fun x hx => by rw [List.mem_singleton.1 hx]; exact HAB.out)
  have HB4 := hide (HB3.out.trans ((fm_below w3 (.cells #[.int .i64 1, .int .i64 n, .int .u64 0, .string ⟨#[]⟩] 37)).mono HB3.out.size))
  generalize w3.alloc (.cells #[.int .i64 1, .int .i64 n, .int .u64 0, .string ⟨#[]⟩] 37) = w4 at *
  refine (HFc.out _ (by simp [HS.out, patW, flW]) _ _ hA).mono ?_
  rintro _ w5 ⟨v1, rfl, hO1, hB5⟩
  have HO1 := hide hO1
  have HB5 := hide (HB4.out.trans (hB5.mono HB4.out.size))
  clear hA hO1 hB5 hsz
  go_wp2_with fail
  refine (HI.out _).mono ?_
  rintro _ w6 ⟨rfl, hB6⟩
  have HO1' := hide (owns_below HO1.out hB6)
  have HB6 := hide (HB5.out.trans (hB6.mono HB5.out.size))
  clear hB6
  go_wp2_with fail
  have hA := ags_lit w6 [⟨1, n, 0, ⟨#[]⟩⟩] #[.int .i64 1, .int .i64 n, .int .u64 0, .string ⟨#[]⟩] 37 (0, 0) 1 rfl rfl (fun x hx => by rw [List.mem_singleton.1 hx]; exact HAB.out)
  have hB7 := fm_below w6 (.cells #[.int .i64 1, .int .i64 n, .int .u64 0, .string ⟨#[]⟩] 37)
  have HO1 := hide (owns_below HO1'.out hB7)
  have HB7 := hide (HB6.out.trans (hB7.mono HB6.out.size))
  generalize w6.alloc (.cells #[.int .i64 1, .int .i64 n, .int .u64 0, .string ⟨#[]⟩] 37) = w7 at *
  refine (HGc.out _ (by simp [barW]) _ _ hA).mono ?_
  rintro _ w8 ⟨v2, rfl, hO2, hB8⟩
  have hO1 := owns_below HO1.out hB8
  have HB8 := hide (HB7.out.trans (hB8.mono HB7.out.size))
  obtain ⟨g1, c1, rfl, hc1⟩ := owns_some hO1 (by rw [HAl.out]; omega)
  obtain ⟨g2, c2, rfl, hc2⟩ := owns_some hO2 (by rw [HLB.out]; omega)
  have HY1 := hide (Bys.of_owns hO1)
  have HY2 := hide (Bys.of_owns hO2)
  rw [HAl.out] at HY1 hc1
  rw [HLB.out] at HY2 hc2
  rw [HAl.out, HLB.out]
  clear hO1 hO2 hA hB7 hB8 HO1 HO1' HI HFc HGc HDg
  have hmx := HMx.out
  go_upto_region 16 with (first | (go_at_call 13; refine (num17 _ _).mono ?_; rintro _ _ ⟨rfl, rfl⟩) | fail)
  clear hmx
  go_upto_region 18 with fail
  have HA : Hid (A.take LB = B ∧ A.drop LB = bla K) := by
    have e2 : (X ++ D).length = LB := by rw [HH.out.b]; exact HLB.out
    have e3 : (X ++ D) ++ bla K = A := HH.out.a
    rw [← e3, ← HH.out.b]
    exact ⟨List.take_left' e2, List.drop_left' e2⟩
  have HQ : Hid (∀ W, (Bys W (.slice (some ⟨g1, 0, none⟩) (LB + K) c1) A ∧ Bys W (.slice (some ⟨g2, 0, none⟩) LB c2) B) → (convert 24 9 (.slice (some ⟨g1, 0, none⟩) LB c1)).run Tryd.prog W = .ok (.string ⟨B.toArray⟩) W ∧ (convert 24 9 (.slice (some ⟨g2, 0, none⟩) LB c2)).run Tryd.prog W = .ok (.string ⟨B.toArray⟩) W) := by
    intro W hS
    refine ⟨?_, bys_string hS.2⟩
    have q := bys_head hS.1 LB c1 (by rw [HAl.out]; omega)
    rw [HA.out.1] at q
    exact bys_string q
  have HC : Hid (∀ W, (Bys W (.slice (some ⟨g1, 0, none⟩) (LB + K) c1) A ∧ Bys W (.slice (some ⟨g2, 0, none⟩) LB c2) B) → Calls Tryd.prog 21 #[.slice (if c1 = LB then some ⟨g1, 0, none⟩ else some ⟨g1, LB, none⟩) K (c1 - LB), .int .u8 32] W fun e w' => e = .returned (.bool true) ∧ w' = W) := by
    intro W hS
    have q := bys_tail hS.1 LB K (c1 - LB) (by rw [HAl.out]) (by rw [HAl.out]; exact hc1)
    rw [HA.out.2] at q
    exact all_rep _ 32 K W q HH.out.k2
  have hLc : LB ≤ c1 := by omega
  have hLs : (LB : Int) ≤ (LB : Int) + (K : Int) := by omega
  refine wp_region_noPanic ?_
  refine wp_region_held_drew (S := fun W => Bys W (.slice (some ⟨g1, 0, none⟩) (LB + K) c1) A ∧ Bys W (.slice (some ⟨g2, 0, none⟩) LB c2) B) (by kernel_rfl) (⟨HY1.out.below (Below.refl _ _).drew, HY2.out.below (Below.refl _ _).drew⟩) (fun hHeld => ?_)
  refine wpAnyH_take (i := 0) (oi := ?_) (v := ?_) ?_ (by kernel_rfl) (by kernel_rfl) (by kernel_rfl) (fun _ _ _ h => (h : False).elim) (Or.inl ⟨?_, ?_⟩) hHeld ?_
  rotate_left 2
  · (simp only [List.getElem?_toArray, List.getElem?_cons_zero]; rfl)
  · rfl
  · (intro W hSw; obtain ⟨q1, q2⟩ := HQ.out W hSw; go_simp <;> with_reducible rfl)
  try simp only [Act.put, List.setIfInBounds_toArray, List.set_cons_zero, List.set_cons_succ]
  refine wpAnyH_take (i := 1) (oi := ?_) (v := ?_) ?_ (by kernel_rfl) (by kernel_rfl) (by kernel_rfl) (fun _ _ _ h => (h : False).elim) (Or.inl ⟨?_, ?_⟩) hHeld ?_
  rotate_left 2
  · (simp only [List.getElem?_toArray, List.getElem?_cons_zero, List.getElem?_cons_succ]; rfl)
  · rfl
  · (intro W hSw; obtain ⟨q1, q2⟩ := HQ.out W hSw; go_simp <;> with_reducible rfl)
  try simp only [Act.put, List.setIfInBounds_toArray, List.set_cons_zero, List.set_cons_succ]
  refine wpAnyH_take (i := 2) (oi := ?_) (v := ?_) ?_ (by kernel_rfl) (by kernel_rfl) (by kernel_rfl) (fun _ _ _ h => (h : False).elim) (Or.inl ⟨?_, ?_⟩) hHeld ?_
  rotate_left 2
  · (simp only [List.getElem?_toArray, List.getElem?_cons_zero, List.getElem?_cons_succ]; rfl)
  · rfl
  · (intro W hSw; obtain ⟨q1, q2⟩ := HQ.out W hSw; go_simp <;> with_reducible rfl)
  try simp only [Act.put, List.setIfInBounds_toArray, List.set_cons_zero, List.set_cons_succ]
  refine wpAnyH_take (i := 3) (oi := ?_) (v := ?_) ?_ (by kernel_rfl) (by kernel_rfl) (by kernel_rfl) (fun _ _ _ h => (h : False).elim) (Or.inl ⟨?_, ?_⟩) hHeld ?_
  rotate_left 2
  · (simp only [List.getElem?_toArray, List.getElem?_cons_zero, List.getElem?_cons_succ]; rfl)
  · rfl
  · (intro W hSw; obtain ⟨q1, q2⟩ := HQ.out W hSw; go_simp <;> with_reducible rfl)
  try simp only [Act.put, List.setIfInBounds_toArray, List.set_cons_zero, List.set_cons_succ]
  refine wpAnyH_take (i := 4) (oi := ?_) (v := ?_) ?_ (by kernel_rfl) (by kernel_rfl) (by kernel_rfl) (fun _ _ _ h => (h : False).elim) (Or.inl ⟨?_, ?_⟩) hHeld ?_
  rotate_left 2
  · (simp only [List.getElem?_toArray, List.getElem?_cons_zero, List.getElem?_cons_succ]; rfl)
  · rfl
  · (intro W hSw; obtain ⟨q1, q2⟩ := HQ.out W hSw; go_simp <;> with_reducible rfl)
  try simp only [Act.put, List.setIfInBounds_toArray, List.set_cons_zero, List.set_cons_succ]
  refine wpAnyH_take (i := 5) (oi := ?_) (v := ?_) ?_ (by kernel_rfl) (by kernel_rfl) (by kernel_rfl) (fun _ _ _ h => (h : False).elim) (Or.inl ⟨?_, ?_⟩) hHeld ?_
  rotate_left 2
  · (simp only [List.getElem?_toArray, List.getElem?_cons_zero, List.getElem?_cons_succ]; rfl)
  · rfl
  · (intro W hSw; obtain ⟨q1, q2⟩ := HQ.out W hSw; go_simp <;> with_reducible rfl)
  try simp only [Act.put, List.setIfInBounds_toArray, List.set_cons_zero, List.set_cons_succ]
  refine wpAnyH_take (i := 6) (oi := ?_) (v := ?_) ?_ (by kernel_rfl) (by kernel_rfl) (by kernel_rfl) (fun _ _ _ h => (h : False).elim) (Or.inl ⟨?_, ?_⟩) hHeld ?_
  rotate_left 2
  · (simp only [List.getElem?_toArray, List.getElem?_cons_zero, List.getElem?_cons_succ]; rfl)
  · rfl
  · (intro W hSw; obtain ⟨q1, q2⟩ := HQ.out W hSw; go_simp <;> with_reducible rfl)
  try simp only [Act.put, List.setIfInBounds_toArray, List.set_cons_zero, List.set_cons_succ]
  refine wpAnyH_take (i := 7) (oi := ?_) (v := ?_) ?_ (by kernel_rfl) (by kernel_rfl) (by kernel_rfl) (fun _ _ _ h => (h : False).elim) (Or.inl ⟨?_, ?_⟩) hHeld ?_
  rotate_left 2
  · (simp only [List.getElem?_toArray, List.getElem?_cons_zero, List.getElem?_cons_succ]; rfl)
  · rfl
  · (intro W hSw; obtain ⟨q1, q2⟩ := HQ.out W hSw; go_simp <;> with_reducible rfl)
  try simp only [Act.put, List.setIfInBounds_toArray, List.set_cons_zero, List.set_cons_succ]
  refine wpAnyH_take (i := 8) (oi := ?_) (v := ?_) ?_ (by kernel_rfl) (by kernel_rfl) (by kernel_rfl) (fun _ _ _ h => (h : False).elim) (Or.inl ⟨?_, ?_⟩) hHeld ?_
  rotate_left 2
  · (simp only [List.getElem?_toArray, List.getElem?_cons_zero, List.getElem?_cons_succ]; rfl)
  · rfl
  · (intro W hSw; obtain ⟨q1, q2⟩ := HQ.out W hSw; go_simp <;> with_reducible rfl)
  try simp only [Act.put, List.setIfInBounds_toArray, List.set_cons_zero, List.set_cons_succ]
  refine wpAnyH_take (i := 9) (oi := ?_) (v := ?_) ?_ (by kernel_rfl) (by kernel_rfl) (by kernel_rfl) (fun _ _ _ h => (h : False).elim) (Or.inl ⟨?_, ?_⟩) hHeld ?_
  rotate_left 2
  · (simp only [List.getElem?_toArray, List.getElem?_cons_zero, List.getElem?_cons_succ]; rfl)
  · rfl
  · (intro W hSw; obtain ⟨q1, q2⟩ := HQ.out W hSw; go_simp <;> with_reducible rfl)
  try simp only [Act.put, List.setIfInBounds_toArray, List.set_cons_zero, List.set_cons_succ]
  refine wpAnyH_take (i := 10) (oi := ?_) (v := ?_) ?_ (by kernel_rfl) (by kernel_rfl) (by kernel_rfl) (fun _ _ _ h => (h : False).elim) (Or.inl ⟨?_, ?_⟩) hHeld ?_
  rotate_left 2
  · (simp only [List.getElem?_toArray, List.getElem?_cons_zero, List.getElem?_cons_succ]; rfl)
  · rfl
  · (intro W hSw; obtain ⟨q1, q2⟩ := HQ.out W hSw; go_simp <;> with_reducible rfl)
  try simp only [Act.put, List.setIfInBounds_toArray, List.set_cons_zero, List.set_cons_succ]
  refine wpAnyH_take (i := 11) (oi := ?_) (v := ?_) ?_ (by kernel_rfl) (by kernel_rfl) (by kernel_rfl) (fun _ _ _ h => (h : False).elim) (Or.inl ⟨?_, ?_⟩) hHeld ?_
  rotate_left 2
  · (simp only [List.getElem?_toArray, List.getElem?_cons_zero, List.getElem?_cons_succ]; rfl)
  · rfl
  · (intro W hSw; obtain ⟨q1, q2⟩ := HQ.out W hSw; go_simp <;> with_reducible rfl)
  try simp only [Act.put, List.setIfInBounds_toArray, List.set_cons_zero, List.set_cons_succ]
  refine wpAnyH_take (i := 12) (oi := ?_) (v := ?_) ?_ (by kernel_rfl) (by kernel_rfl) (by kernel_rfl) (fun _ _ _ h => (h : False).elim) (Or.inl ⟨?_, ?_⟩) hHeld ?_
  rotate_left 2
  · (simp only [List.getElem?_toArray, List.getElem?_cons_zero, List.getElem?_cons_succ]; rfl)
  · rfl
  · (intro W hSw; obtain ⟨q1, q2⟩ := HQ.out W hSw; go_simp <;> with_reducible rfl)
  try simp only [Act.put, List.setIfInBounds_toArray, List.set_cons_zero, List.set_cons_succ]
  refine wpAnyH_ready (rs := [13]) (by kernel_rfl) (by simp) ?_
  refine AllReadyH.cons (o := ?_) ?_ (fun K' hK => ?_) AllReadyH.nil
  rotate_left 1
  · (simp only [List.getElem?_toArray, List.getElem?_cons_zero, List.getElem?_cons_succ]; rfl)
  go_simp
  refine (HC.out _ hHeld).mono ?_; rintro _ _ ⟨rfl, rfl⟩
  refine hK.out _ _ (hHeld) (fun hHeld2 => ?_)
  clear hK K' hHeld
  have hHeld := hHeld2
  clear hHeld2
  try simp only [Act.put, List.setIfInBounds_toArray, List.set_cons_zero, List.set_cons_succ]
  refine wpAnyH_take (i := 14) (oi := ?_) (v := ?_) ?_ (by kernel_rfl) (by kernel_rfl) (by kernel_rfl) (fun _ _ _ h => (h : False).elim) (Or.inl ⟨?_, ?_⟩) hHeld ?_
  rotate_left 2
  · (simp only [List.getElem?_toArray, List.getElem?_cons_zero, List.getElem?_cons_succ]; rfl)
  · rfl
  · (intro W hSw; obtain ⟨q1, q2⟩ := HQ.out W hSw; go_simp <;> with_reducible rfl)
  try simp only [Act.put, List.setIfInBounds_toArray, List.set_cons_zero, List.set_cons_succ]
  refine wpAnyH_take (i := 15) (oi := ?_) (v := ?_) ?_ (by kernel_rfl) (by kernel_rfl) (by kernel_rfl) (fun _ _ _ h => (h : False).elim) (Or.inl ⟨?_, ?_⟩) hHeld ?_
  rotate_left 2
  · (simp only [List.getElem?_toArray, List.getElem?_cons_zero, List.getElem?_cons_succ]; rfl)
  · rfl
  · (intro W hSw; obtain ⟨q1, q2⟩ := HQ.out W hSw; go_simp <;> with_reducible rfl)
  try simp only [Act.put, List.setIfInBounds_toArray, List.set_cons_zero, List.set_cons_succ]
  refine wpAnyH_done (by kernel_rfl) ?_ _
  refine NoPanic.normal ?_
  go_wp2
  all_goals
    go_ret
    exact ⟨rfl, HB8.out.drew⟩
end Go.Proofs.YtpcchaciomeckaaDoor

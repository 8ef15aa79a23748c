/- What the proof stands on, part 3: the contracts of the program's calls that it reaches. -/
import Derived.Test.YtcmfpafcipgejaaGreatDoorKB2
import Derived.Deep.RegionHeld3
/- Format: shown: what a directive makes of an Arg. -/
namespace Go.Proofs.YtcmfpafcipgejaaGreatDoor
open Go.RowKit

structure DC (W : World) (g : Nat) (fl : Int) (wd pr : Nat) (c : Int) (pt : Bool) : Prop where
  c0 : W.cell? ⟨g, 0, none⟩ = some (.int .i64 fl)
  c1 : W.cell? ⟨g, 1, none⟩ = some (.int .i64 (wd : Int))
  c2 : W.cell? ⟨g, 2, none⟩ = some (.bool pt)
  c3 : W.cell? ⟨g, 3, none⟩ = some (.int .i64 (pr : Int))
  c4 : W.cell? ⟨g, 4, none⟩ = some (.int .u8 c)
theorem DC.below {W W' : World} {g : Nat} {fl : Int} {wd pr : Nat} {c : Int} {pt : Bool} (h : DC W g fl wd pr c pt) (hB : Below W.heap.size W W') : DC W' g fl wd pr c pt :=
  have l := World.block_lt_of_cell? W _ h.c0
  ⟨(hB.cell (p := ⟨g, 0, none⟩) l).trans h.c0, (hB.cell (p := ⟨g, 1, none⟩) l).trans h.c1, (hB.cell (p := ⟨g, 2, none⟩) l).trans h.c2, (hB.cell (p := ⟨g, 3, none⟩) l).trans h.c3, (hB.cell (p := ⟨g, 4, none⟩) l).trans h.c4⟩
theorem DC.new (w : World) (fl : Int) (wd pr : Nat) (c : Int) (pt : Bool) : DC (w.alloc (.cells #[.int .i64 fl, .int .i64 (wd : Int), .bool pt, .int .i64 (pr : Int), .int .u8 c] 116)) w.heap.size fl wd pr c pt := by
  refine ⟨?_, ?_, ?_, ?_, ?_⟩ <;> (rw [cell_of_row _ w.heap.size _ _ _ _ (heap_alloc_new w _)]; rfl)
theorem dec_cut (n : Int) : Lib.trimPrefix (dec n) [45] = digs 10 n.natAbs ∧ Lib.hasPrefix (dec n) [45] = decide (n < 0) := by
  unfold Lib.trimPrefix Lib.hasPrefix dec
  by_cases h : n < 0
  · simp [h, List.isPrefixOf]
  · obtain ⟨x, r, hx⟩ := digs_cons 10 n.natAbs
    rw [if_neg h, hx]
    have : ¬ ((45 : UInt8) = sgn x) := fun e => sgn_ne x e.symm
    simp [h, List.isPrefixOf, this]
theorem sign_len (d : Dir) (b : Bool) : (d.sign b).length ≤ 1 := by
  unfold Dir.sign
  split
  · exact Nat.le_refl _
  · split
    · exact Nat.le_refl _
    · split
      · exact Nat.le_refl _
      · exact Nat.zero_le _
theorem precise_len (d : Dir) (l : List UInt8) : (d.precise l).length ≤ d.pr + l.length := by
  unfold Dir.precise
  split
  · exact Nat.zero_le _
  · simp only [zer, List.length_append, List.length_replicate]; omega
theorem cut_len (d : Dir) (l : List UInt8) : (d.cut l).length ≤ l.length := by
  unfold Dir.cut
  split
  · rw [List.length_take]; omega
  · exact Nat.le_refl _
theorem size_mk (l : List UInt8) : (⟨l.toArray⟩ : ByteArray).size = l.length := rfl
theorem of_int {v k : UInt8} (h : (v.toNat : Int) = (k.toNat : Int)) : v = k := UInt8.toNat_inj.1 (Int.ofNat.inj h)
theorem recv2 (w : World) (o o' : Obj) : Below w.heap.size w ((w.alloc o).alloc o') := (fm_below w o).trans ((fm_below _ o').mono (fm_below w o).size)
theorem size_push1 (w : World) (o : Obj) : (w.alloc o).heap.size = w.heap.size + 1 := Array.size_push ..
theorem num_one (u : Int) (h0 : 0 ≤ u) (h1 : u ≤ 255) : (strOfNums [u]).data.toList = [UInt8.ofNat u.toNat] := by
  obtain ⟨n, rfl⟩ : ∃ n : Nat, u = n := ⟨u.toNat, by omega⟩
  rfl
set_option maxRecDepth 100000 in
set_option maxHeartbeats 4000000 in
theorem shown_any (d : Dir) (a : Ag) (w : World) (hd1 : d.wd ≤ 4096) (hd2 : d.pr ≤ 4096) (hai : N64 a.int) (hu0 : 0 ≤ a.uint) (hu1 : a.uint ≤ 18446744073709551615) (hat : a.text.size ≤ maxLen) (h3 : d.verb = 99 → a.uint ≤ 255) :
    Calls Tryz.prog 49 #[dirV d, agV a] w fun e w' => e = .returned (.string ⟨(d.shown a).toArray⟩) ∧ Below w.heap.size w w' := by
  obtain ⟨hai1, hai2⟩ := hai
  unfold dirV agV
  obtain ⟨c, hc⟩ : ∃ c : Int, (d.verb.toNat : Int) = c := ⟨_, rfl⟩
  have hSg : ∀ b W, Calls Tryz.prog 82 #[.agg #[.int .i64 d.fl, .int .i64 (d.wd : Int), .bool d.pt, .int .i64 (d.pr : Int), .int .u8 c], .bool b] W fun e w' => e = .returned (.string ⟨(d.sign b).toArray⟩) ∧ Below W.heap.size W w' := by
    intro b W; rw [← hc]; exact sign_any d b W
  have hPr : ∀ s W, s.size ≤ maxLen → Calls Tryz.prog 83 #[.agg #[.int .i64 d.fl, .int .i64 (d.wd : Int), .bool d.pt, .int .i64 (d.pr : Int), .int .u8 c], .string s] W fun e w' => e = .returned (.string ⟨(d.precise s.data.toList).toArray⟩) ∧ Below W.heap.size W w' := by
    intro s W hs; rw [← hc]; exact precise_any d s W hs hd2
  have hCu : ∀ s W, Calls Tryz.prog 84 #[.agg #[.int .i64 d.fl, .int .i64 (d.wd : Int), .bool d.pt, .int .i64 (d.pr : Int), .int .u8 c], .string s] W fun e w' => e = .returned (.string ⟨(d.cut s.data.toList).toArray⟩) ∧ Below W.heap.size W w' := by
    intro s W; rw [← hc]; exact cut_any d s W hd2
  have hWd : ∀ s b W, s.size ≤ 1 → s.size + b.size ≤ maxLen → Calls Tryz.prog 81 #[.agg #[.int .i64 d.fl, .int .i64 (d.wd : Int), .bool d.pt, .int .i64 (d.pr : Int), .int .u8 c], .string s, .string b] W fun e w' => e = .returned (.string ⟨(d.wide s.data.toList b.data.toList).toArray⟩) ∧ Below W.heap.size W w' := by
    intro s b W h1 h2; rw [← hc]; exact wide_any d s b W h1 h2 hd1
  have hDg : ∀ W, Calls Tryz.prog 85 #[.agg #[.int .i64 d.fl, .int .i64 (d.wd : Int), .bool d.pt, .int .i64 (d.pr : Int), .int .u8 c], .int .u64 a.uint] W fun e w' => e = .returned (.string ⟨(d.digits a.uint.toNat).toArray⟩) ∧ Below W.heap.size W w' := by
    intro W; rw [← hc]; exact digits_fm d a.uint hu0 hu1 W
  have HBx := hide (recv2 w (.cells #[.int .i64 d.fl, .int .i64 (d.wd : Int), .bool d.pt, .int .i64 (d.pr : Int), .int .u8 c] 116) (.cells #[.int .i64 a.kind, .int .i64 a.int, .int .u64 a.uint, .string a.text] 42))
  have HD0 := hide ((DC.new w d.fl d.wd d.pr c d.pt).below (fm_below _ (.cells #[.int .i64 a.kind, .int .i64 a.int, .int .u64 a.uint, .string a.text] 42)))
  have hA := AgAt.new (w.alloc (.cells #[.int .i64 d.fl, .int .i64 (d.wd : Int), .bool d.pt, .int .i64 (d.pr : Int), .int .u8 c] 116)) a
  rw [size_push1] at hA
  have HA0 := hide hA
  rw [hc]
  clear hA
  have HSh : Hid (d.shown a = if d.verb = 100 then d.wide (d.sign (decide (a.int < 0))) (d.precise (digs 10 a.int.natAbs)) else if d.verb = 99 then d.wide [] [UInt8.ofNat a.uint.toNat] else if d.verb = 115 then d.wide [] (d.cut a.text.data.toList) else d.wide [] (d.precise (d.digits a.uint.toNat))) := by unfold Dir.shown; rfl
  generalize d.shown a = R at *
  obtain ⟨fl, wd, pt, pr, vb⟩ := d
  simp only at hc hPr hCu hWd hDg hSg HBx HD0 HA0 HSh hd1 hd2 h3
  simp only
  by_cases e100 : c = 100
  · have hv : vb = 100 := of_int (hc.trans e100)
    have hdl := digs_len 10 a.int.natAbs (by decide) (by omega)
    have hpl := precise_len ⟨fl, wd, pt, pr, vb⟩ (digs 10 a.int.natAbs)
    have hsl := sign_len ⟨fl, wd, pt, pr, vb⟩ (decide (a.int < 0))
    simp only at hpl
    have HSg := hide (fun W => hSg (decide (a.int < 0)) W)
    have HPr := hide (fun W => hPr ⟨(digs 10 a.int.natAbs).toArray⟩ W (by rw [size_mk]; unfold maxLen; omega))
    have HWd := hide (fun W => hWd ⟨(Dir.sign ⟨fl, wd, pt, pr, vb⟩ (decide (a.int < 0))).toArray⟩ ⟨(Dir.precise ⟨fl, wd, pt, pr, vb⟩ (digs 10 a.int.natAbs)).toArray⟩ W (by rw [size_mk]; exact hsl) (by rw [size_mk, size_mk]; unfold maxLen; omega))
    have hcp : ∀ W, Calls Tryz.prog 79 #[.string ⟨(dec a.int).toArray⟩, .string ⟨#[45]⟩] W fun e w' => e = .returned (.tuple #[.string ⟨(digs 10 a.int.natAbs).toArray⟩, .bool (decide (a.int < 0))]) ∧ w' = W := by
      intro W
      have hq := Tryz.strings_CutPrefix ⟨(dec a.int).toArray⟩ ⟨#[45]⟩ W
      have hq1 : Lib.trimPrefix (⟨(dec a.int).toArray⟩ : ByteArray).data.toList (⟨#[45]⟩ : ByteArray).data.toList = digs 10 a.int.natAbs := (dec_cut a.int).1
      have hq2 : Lib.hasPrefix (⟨(dec a.int).toArray⟩ : ByteArray).data.toList (⟨#[45]⟩ : ByteArray).data.toList = decide (a.int < 0) := (dec_cut a.int).2
      rw [hq1, hq2] at hq
      exact hq
    have HCP := hide hcp
    have HDc := hide (fun W => decimal_any a.int hai1 hai2 W)
    have HR : Hid (R = Dir.wide ⟨fl, wd, pt, pr, vb⟩ (Dir.sign ⟨fl, wd, pt, pr, vb⟩ (decide (a.int < 0))) (Dir.precise ⟨fl, wd, pt, pr, vb⟩ (digs 10 a.int.natAbs))) := by show R = _; rw [HSh.out, if_pos hv]
    generalize digs 10 a.int.natAbs = D1 at *
    generalize decide (a.int < 0) = b1 at *
    generalize dec a.int = D2 at *
    generalize Dir.sign ⟨fl, wd, pt, pr, vb⟩ b1 = D3 at *
    generalize Dir.precise ⟨fl, wd, pt, pr, vb⟩ D1 = D4 at *
    subst e100
    clear hv hcp hSg hPr hCu hWd hDg HSh hdl hpl hsl h3 hc
    go_enter Tryz.func49, Tryz.ntmps49
    go_wp2_with fail
    generalize (w.alloc (.cells #[.int .i64 fl, .int .i64 (wd : Int), .bool pt, .int .i64 (pr : Int), .int .u8 100] 116)).alloc (.cells #[.int .i64 a.kind, .int .i64 a.int, .int .u64 a.uint, .string a.text] 42) = w1 at *
    refine (HDc.out _).mono ?_
    rintro _ w3 ⟨rfl, hB3⟩
    have HD3 := hide (HD0.out.below hB3)
    have HB3 := hide (HBx.out.trans (hB3.mono HBx.out.size))
    clear hB3
    go_wp2_with fail
    refine (HCP.out _).mono ?_
    rintro _ w4 ⟨rfl, hw4⟩
    obtain rfl : w3 = w4 := hw4.symm
    have HD := HD3
    obtain ⟨w4, hw4⟩ : ∃ w4, w4 = w3 := ⟨_, rfl⟩
    subst hw4
    clear HDc HCP HD0 HA0 HBx
    go_wp2_with fail
    refine wp_region_noPanic ?_
    refine wp_region_held_drew (S := fun W => DC W w.heap.size fl wd pr 100 pt) (by kernel_rfl) (HD.out.below (Below.refl _ _).drew) (fun hHeld => ?_)
    refine wpAnyH_take (i := 0) (oi := ?_) (v := ?_) ?_ (by kernel_rfl) (by kernel_rfl) (by kernel_rfl) (fun _ _ _ h => (h : False).elim) (Or.inl ⟨?_, ?_⟩) hHeld ?_
    rotate_left 2
    · (simp only [List.getElem?_toArray, List.getElem?_cons_zero]; rfl)
    · rfl
    · (intro W hSw; obtain ⟨m0, m1, m2, m3, m4⟩ := hSw; go_simp <;> with_reducible rfl)
    try simp only [Act.put, List.setIfInBounds_toArray, List.set_cons_zero, List.set_cons_succ]
    refine wpAnyH_take (i := 1) (oi := ?_) (v := ?_) ?_ (by kernel_rfl) (by kernel_rfl) (by kernel_rfl) (fun _ _ _ h => (h : False).elim) (Or.inl ⟨?_, ?_⟩) hHeld ?_
    rotate_left 2
    · (simp only [List.getElem?_toArray, List.getElem?_cons_zero, List.getElem?_cons_succ]; rfl)
    · rfl
    · (intro W hSw; obtain ⟨m0, m1, m2, m3, m4⟩ := hSw; go_simp <;> with_reducible rfl)
    try simp only [Act.put, List.setIfInBounds_toArray, List.set_cons_zero, List.set_cons_succ]
    refine wpAnyH_take (i := 2) (oi := ?_) (v := ?_) ?_ (by kernel_rfl) (by kernel_rfl) (by kernel_rfl) (fun _ _ _ h => (h : False).elim) (Or.inl ⟨?_, ?_⟩) hHeld ?_
    rotate_left 2
    · (simp only [List.getElem?_toArray, List.getElem?_cons_zero, List.getElem?_cons_succ]; rfl)
    · rfl
    · (intro W hSw; obtain ⟨m0, m1, m2, m3, m4⟩ := hSw; go_simp <;> with_reducible rfl)
    try simp only [Act.put, List.setIfInBounds_toArray, List.set_cons_zero, List.set_cons_succ]
    refine wpAnyH_take (i := 4) (oi := ?_) (v := ?_) ?_ (by kernel_rfl) (by kernel_rfl) (by kernel_rfl) (fun _ _ _ h => (h : False).elim) (Or.inl ⟨?_, ?_⟩) hHeld ?_
    rotate_left 2
    · (simp only [List.getElem?_toArray, List.getElem?_cons_zero, List.getElem?_cons_succ]; rfl)
    · rfl
    · (intro W hSw; obtain ⟨m0, m1, m2, m3, m4⟩ := hSw; go_simp <;> with_reducible rfl)
    try simp only [Act.put, List.setIfInBounds_toArray, List.set_cons_zero, List.set_cons_succ]
    refine wpAnyH_take (i := 5) (oi := ?_) (v := ?_) ?_ (by kernel_rfl) (by kernel_rfl) (by kernel_rfl) (fun _ _ _ h => (h : False).elim) (Or.inl ⟨?_, ?_⟩) hHeld ?_
    rotate_left 2
    · (simp only [List.getElem?_toArray, List.getElem?_cons_zero, List.getElem?_cons_succ]; rfl)
    · rfl
    · (intro W hSw; obtain ⟨m0, m1, m2, m3, m4⟩ := hSw; go_simp <;> with_reducible rfl)
    try simp only [Act.put, List.setIfInBounds_toArray, List.set_cons_zero, List.set_cons_succ]
    refine wpAnyH_ready (rs := [3]) (by kernel_rfl) (by simp) ?_
    refine AllReadyH.cons (o := ?_) ?_ (fun K' hK => ?_) AllReadyH.nil
    rotate_left 1
    · (simp only [List.getElem?_toArray, List.getElem?_cons_zero, List.getElem?_cons_succ]; rfl)
    go_simp
    refine (HSg.out _).mono ?_; rintro _ w5 ⟨rfl, hB5⟩; have HB5 := hide ((Below.refl _ w4).drew.trans hB5); clear hB5
    refine hK.out _ _ (HD.out.below HB5.out) (fun hHeld2 => ?_)
    clear hK K' hHeld
    have hHeld := hHeld2
    clear hHeld2
    try simp only [Act.put, List.setIfInBounds_toArray, List.set_cons_zero, List.set_cons_succ]
    refine wpAnyH_ready (rs := [6]) (by kernel_rfl) (by simp) ?_
    refine AllReadyH.cons (o := ?_) ?_ (fun K' hK => ?_) AllReadyH.nil
    rotate_left 1
    · (simp only [List.getElem?_toArray, List.getElem?_cons_zero, List.getElem?_cons_succ]; rfl)
    go_simp
    refine (HPr.out _).mono ?_; rintro _ w6 ⟨rfl, hB6⟩; have HB6 := hide (HB5.out.trans (hB6.mono HB5.out.size)); clear hB6
    refine hK.out _ _ (HD.out.below HB6.out) (fun hHeld2 => ?_)
    clear hK K' hHeld
    have hHeld := hHeld2
    clear hHeld2
    try simp only [Act.put, List.setIfInBounds_toArray, List.set_cons_zero, List.set_cons_succ]
    refine wpAnyH_ready (rs := [7]) (by kernel_rfl) (by simp) ?_
    refine AllReadyH.cons (o := ?_) ?_ (fun K' hK => ?_) AllReadyH.nil
    rotate_left 1
    · (simp only [List.getElem?_toArray, List.getElem?_cons_zero, List.getElem?_cons_succ]; rfl)
    go_simp
    refine (HWd.out _).mono ?_; rintro _ w7 ⟨rfl, hB7⟩; have HB7 := hide (HB6.out.trans (hB7.mono HB6.out.size)); clear hB7
    refine hK.out _ _ (HD.out.below HB7.out) (fun hHeld2 => ?_)
    clear hK K' hHeld
    have hHeld := hHeld2
    clear hHeld2
    try simp only [Act.put, List.setIfInBounds_toArray, List.set_cons_zero, List.set_cons_succ]
    refine wpAnyH_take (i := 8) (oi := ?_) (v := ?_) ?_ (by kernel_rfl) (by kernel_rfl) (by kernel_rfl) (fun _ _ _ h => (h : False).elim) (Or.inl ⟨?_, ?_⟩) hHeld ?_
    rotate_left 2
    · (simp only [List.getElem?_toArray, List.getElem?_cons_zero, List.getElem?_cons_succ]; rfl)
    · rfl
    · (intro W hSw; obtain ⟨m0, m1, m2, m3, m4⟩ := hSw; go_simp <;> with_reducible rfl)
    try simp only [Act.put, List.setIfInBounds_toArray, List.set_cons_zero, List.set_cons_succ]
    refine wpAnyH_done (by kernel_rfl) ?_ _
    refine NoPanic.normal ?_
    go_wp2
    go_ret
    exact ⟨ret_str HR.out.symm, HB3.out.trans (HB7.out.mono HB3.out.size)⟩
  by_cases e99 : c = 99
  · have hv : vb = 99 := of_int (hc.trans e99)
    have hu := h3 hv
    have hw8 : IntKind.u8.wrap a.uint = a.uint := by rw [IntKind.wrap_u8]; omega
    have HWd := hide (fun W => hWd ⟨#[]⟩ (strOfNums [a.uint]) W (by decide) (by show 0 + (strOfNums [a.uint]).data.toList.length ≤ _; rw [num_one _ hu0 hu]; show 0 + 1 ≤ _; decide))
    have HR : Hid (R = Dir.wide ⟨fl, wd, pt, pr, vb⟩ [] (strOfNums [a.uint]).data.toList) := by show R = _; rw [HSh.out, if_neg (by rw [hv]; decide), if_pos hv, num_one _ hu0 hu]
    subst e99
    clear hv hPr hCu hWd hDg HSh hc h3 hSg
    go_enter Tryz.func49, Tryz.ntmps49
    have hone := one_str ((w.alloc (.cells #[.int .i64 fl, .int .i64 (wd : Int), .bool pt, .int .i64 (pr : Int), .int .u8 99] 116)).alloc (.cells #[.int .i64 a.kind, .int .i64 a.int, .int .u64 a.uint, .string a.text] 42)) a.uint
    simp only [size_push1] at hone
    have hBo := fm_below ((w.alloc (.cells #[.int .i64 fl, .int .i64 (wd : Int), .bool pt, .int .i64 (pr : Int), .int .u8 99] 116)).alloc (.cells #[.int .i64 a.kind, .int .i64 a.int, .int .u64 a.uint, .string a.text] 42)) (.cells #[.int .u8 a.uint] 5)
    have HBo := hide hBo
    clear hBo
    go_wp2_with fail
    refine (HWd.out _).mono ?_
    rintro _ w3 ⟨rfl, hB3⟩
    have HB3 := hide ((HBx.out.trans (HBo.out.mono HBx.out.size)).trans (hB3.mono (HBx.out.trans (HBo.out.mono HBx.out.size)).size))
    clear hB3
    go_wp2
    go_ret
    exact ⟨ret_str HR.out.symm, HB3.out⟩
  by_cases e115 : c = 115
  · have hv : vb = 115 := of_int (hc.trans e115)
    have hcl := cut_len ⟨fl, wd, pt, pr, vb⟩ a.text.data.toList
    have htz : a.text.data.toList.length = a.text.size := by rw [Array.length_toList]; rfl
    rw [htz] at hcl
    have HCu := hide (fun W => hCu a.text W)
    have HWd := hide (fun W => hWd ⟨#[]⟩ ⟨(Dir.cut ⟨fl, wd, pt, pr, vb⟩ a.text.data.toList).toArray⟩ W (by decide) (by show 0 + (Dir.cut ⟨fl, wd, pt, pr, vb⟩ a.text.data.toList).length ≤ _; omega))
    have HR : Hid (R = Dir.wide ⟨fl, wd, pt, pr, vb⟩ [] (Dir.cut ⟨fl, wd, pt, pr, vb⟩ a.text.data.toList)) := by show R = _; rw [HSh.out, if_neg (by rw [hv]; decide), if_neg (by rw [hv]; decide), if_pos hv]
    generalize Dir.cut ⟨fl, wd, pt, pr, vb⟩ a.text.data.toList = D3 at *
    subst e115
    clear hv hPr hCu hWd hDg HSh hc h3 hSg hcl htz
    go_enter Tryz.func49, Tryz.ntmps49
    go_wp2_with fail
    generalize (w.alloc (.cells #[.int .i64 fl, .int .i64 (wd : Int), .bool pt, .int .i64 (pr : Int), .int .u8 115] 116)).alloc (.cells #[.int .i64 a.kind, .int .i64 a.int, .int .u64 a.uint, .string a.text] 42) = w4 at *
    have HD := HD0
    have HA := hide (fun W hW => (HA0.out.below (W' := W) hW).c3)
    clear HD0 HA0
    refine wp_region_noPanic ?_
    refine wp_region_held_drew (S := fun W => DC W w.heap.size fl wd pr 115 pt ∧ W.cell? ⟨w.heap.size + 1, 3, none⟩ = some (.string a.text)) (by kernel_rfl) (⟨HD.out.below (Below.refl _ _).drew, HA.out _ (Below.refl _ _).drew⟩) (fun hHeld => ?_)
    refine wpAnyH_take (i := 0) (oi := ?_) (v := ?_) ?_ (by kernel_rfl) (by kernel_rfl) (by kernel_rfl) (fun _ _ _ h => (h : False).elim) (Or.inl ⟨?_, ?_⟩) hHeld ?_
    rotate_left 2
    · (simp only [List.getElem?_toArray, List.getElem?_cons_zero]; rfl)
    · rfl
    · (intro W hSw; obtain ⟨⟨m0, m1, m2, m3, m4⟩, m5⟩ := hSw; go_simp <;> with_reducible rfl)
    try simp only [Act.put, List.setIfInBounds_toArray, List.set_cons_zero, List.set_cons_succ]
    refine wpAnyH_take (i := 1) (oi := ?_) (v := ?_) ?_ (by kernel_rfl) (by kernel_rfl) (by kernel_rfl) (fun _ _ _ h => (h : False).elim) (Or.inl ⟨?_, ?_⟩) hHeld ?_
    rotate_left 2
    · (simp only [List.getElem?_toArray, List.getElem?_cons_zero, List.getElem?_cons_succ]; rfl)
    · rfl
    · (intro W hSw; obtain ⟨⟨m0, m1, m2, m3, m4⟩, m5⟩ := hSw; go_simp <;> with_reducible rfl)
    try simp only [Act.put, List.setIfInBounds_toArray, List.set_cons_zero, List.set_cons_succ]
    refine wpAnyH_take (i := 2) (oi := ?_) (v := ?_) ?_ (by kernel_rfl) (by kernel_rfl) (by kernel_rfl) (fun _ _ _ h => (h : False).elim) (Or.inl ⟨?_, ?_⟩) hHeld ?_
    rotate_left 2
    · (simp only [List.getElem?_toArray, List.getElem?_cons_zero, List.getElem?_cons_succ]; rfl)
    · rfl
    · (intro W hSw; obtain ⟨⟨m0, m1, m2, m3, m4⟩, m5⟩ := hSw; go_simp <;> with_reducible rfl)
    try simp only [Act.put, List.setIfInBounds_toArray, List.set_cons_zero, List.set_cons_succ]
    refine wpAnyH_take (i := 3) (oi := ?_) (v := ?_) ?_ (by kernel_rfl) (by kernel_rfl) (by kernel_rfl) (fun _ _ _ h => (h : False).elim) (Or.inl ⟨?_, ?_⟩) hHeld ?_
    rotate_left 2
    · (simp only [List.getElem?_toArray, List.getElem?_cons_zero, List.getElem?_cons_succ]; rfl)
    · rfl
    · (intro W hSw; obtain ⟨⟨m0, m1, m2, m3, m4⟩, m5⟩ := hSw; go_simp <;> with_reducible rfl)
    try simp only [Act.put, List.setIfInBounds_toArray, List.set_cons_zero, List.set_cons_succ]
    refine wpAnyH_ready (rs := [4]) (by kernel_rfl) (by simp) ?_
    refine AllReadyH.cons (o := ?_) ?_ (fun K' hK => ?_) AllReadyH.nil
    rotate_left 1
    · (simp only [List.getElem?_toArray, List.getElem?_cons_zero, List.getElem?_cons_succ]; rfl)
    go_simp
    refine (HCu.out _).mono ?_; rintro _ w5 ⟨rfl, hB5⟩; have HB5 := hide ((Below.refl _ w4).drew.trans hB5); clear hB5
    refine hK.out _ _ (⟨HD.out.below HB5.out, HA.out _ HB5.out⟩) (fun hHeld2 => ?_)
    clear hK K' hHeld
    have hHeld := hHeld2
    clear hHeld2
    try simp only [Act.put, List.setIfInBounds_toArray, List.set_cons_zero, List.set_cons_succ]
    refine wpAnyH_ready (rs := [5]) (by kernel_rfl) (by simp) ?_
    refine AllReadyH.cons (o := ?_) ?_ (fun K' hK => ?_) AllReadyH.nil
    rotate_left 1
    · (simp only [List.getElem?_toArray, List.getElem?_cons_zero, List.getElem?_cons_succ]; rfl)
    go_simp
    refine (HWd.out _).mono ?_; rintro _ w7 ⟨rfl, hB7⟩; have HB7 := hide (HB5.out.trans (hB7.mono HB5.out.size)); clear hB7
    refine hK.out _ _ (⟨HD.out.below HB7.out, HA.out _ HB7.out⟩) (fun hHeld2 => ?_)
    clear hK K' hHeld
    have hHeld := hHeld2
    clear hHeld2
    try simp only [Act.put, List.setIfInBounds_toArray, List.set_cons_zero, List.set_cons_succ]
    refine wpAnyH_take (i := 6) (oi := ?_) (v := ?_) ?_ (by kernel_rfl) (by kernel_rfl) (by kernel_rfl) (fun _ _ _ h => (h : False).elim) (Or.inl ⟨?_, ?_⟩) hHeld ?_
    rotate_left 2
    · (simp only [List.getElem?_toArray, List.getElem?_cons_zero, List.getElem?_cons_succ]; rfl)
    · rfl
    · (intro W hSw; obtain ⟨⟨m0, m1, m2, m3, m4⟩, m5⟩ := hSw; go_simp <;> with_reducible rfl)
    try simp only [Act.put, List.setIfInBounds_toArray, List.set_cons_zero, List.set_cons_succ]
    refine wpAnyH_done (by kernel_rfl) ?_ _
    refine NoPanic.normal ?_
    go_wp2
    go_ret
    exact ⟨ret_str HR.out.symm, HBx.out.trans (HB7.out.mono HBx.out.size)⟩
  · have t1 : (c == 100) = false := by simpa using e100
    have t2 : (c == 99) = false := by simpa using e99
    have t3 : (c == 115) = false := by simpa using e115
    have hdl : (Dir.digits ⟨fl, wd, pt, pr, vb⟩ a.uint.toNat).length ≤ 64 := by
      unfold Dir.digits
      split
      · rw [List.length_map]; exact digs_len 16 _ (by decide) (by omega)
      · exact digs_len _ _ (by split <;> (try split) <;> decide) (by omega)
    have hpl := precise_len ⟨fl, wd, pt, pr, vb⟩ (Dir.digits ⟨fl, wd, pt, pr, vb⟩ a.uint.toNat)
    simp only at hpl
    have HDg := hide (fun W => hDg W)
    have HPr := hide (fun W => hPr ⟨(Dir.digits ⟨fl, wd, pt, pr, vb⟩ a.uint.toNat).toArray⟩ W (by rw [size_mk]; unfold maxLen; omega))
    have HWd := hide (fun W => hWd ⟨#[]⟩ ⟨(Dir.precise ⟨fl, wd, pt, pr, vb⟩ (Dir.digits ⟨fl, wd, pt, pr, vb⟩ a.uint.toNat)).toArray⟩ W (by decide) (by show 0 + (Dir.precise ⟨fl, wd, pt, pr, vb⟩ (Dir.digits ⟨fl, wd, pt, pr, vb⟩ a.uint.toNat)).length ≤ _; unfold maxLen; omega))
    have HR : Hid (R = Dir.wide ⟨fl, wd, pt, pr, vb⟩ [] (Dir.precise ⟨fl, wd, pt, pr, vb⟩ (Dir.digits ⟨fl, wd, pt, pr, vb⟩ a.uint.toNat))) := by
      show R = _
      rw [HSh.out, if_neg (by rintro rfl; exact e100 hc.symm), if_neg (by rintro rfl; exact e99 hc.symm), if_neg (by rintro rfl; exact e115 hc.symm)]
    generalize Dir.digits ⟨fl, wd, pt, pr, vb⟩ a.uint.toNat = D1 at *
    generalize Dir.precise ⟨fl, wd, pt, pr, vb⟩ D1 = D4 at *
    clear hPr hCu hWd hDg HSh hc h3 hSg hdl hpl e100 e99 e115
    go_enter Tryz.func49, Tryz.ntmps49
    go_wp2_with fail
    generalize (w.alloc (.cells #[.int .i64 fl, .int .i64 (wd : Int), .bool pt, .int .i64 (pr : Int), .int .u8 c] 116)).alloc (.cells #[.int .i64 a.kind, .int .i64 a.int, .int .u64 a.uint, .string a.text] 42) = w4 at *
    have HD := HD0
    have HA := hide (fun W hW => (HA0.out.below (W' := W) hW).c2)
    clear HD0 HA0
    refine wp_region_noPanic ?_
    refine wp_region_held_drew (S := fun W => DC W w.heap.size fl wd pr c pt ∧ W.cell? ⟨w.heap.size + 1, 2, none⟩ = some (.int .u64 a.uint)) (by kernel_rfl) (⟨HD.out.below (Below.refl _ _).drew, HA.out _ (Below.refl _ _).drew⟩) (fun hHeld => ?_)
    refine wpAnyH_take (i := 0) (oi := ?_) (v := ?_) ?_ (by kernel_rfl) (by kernel_rfl) (by kernel_rfl) (fun _ _ _ h => (h : False).elim) (Or.inl ⟨?_, ?_⟩) hHeld ?_
    rotate_left 2
    · (simp only [List.getElem?_toArray, List.getElem?_cons_zero]; rfl)
    · rfl
    · (intro W hSw; obtain ⟨⟨m0, m1, m2, m3, m4⟩, m5⟩ := hSw; go_simp <;> with_reducible rfl)
    try simp only [Act.put, List.setIfInBounds_toArray, List.set_cons_zero, List.set_cons_succ]
    refine wpAnyH_take (i := 1) (oi := ?_) (v := ?_) ?_ (by kernel_rfl) (by kernel_rfl) (by kernel_rfl) (fun _ _ _ h => (h : False).elim) (Or.inl ⟨?_, ?_⟩) hHeld ?_
    rotate_left 2
    · (simp only [List.getElem?_toArray, List.getElem?_cons_zero, List.getElem?_cons_succ]; rfl)
    · rfl
    · (intro W hSw; obtain ⟨⟨m0, m1, m2, m3, m4⟩, m5⟩ := hSw; go_simp <;> with_reducible rfl)
    try simp only [Act.put, List.setIfInBounds_toArray, List.set_cons_zero, List.set_cons_succ]
    refine wpAnyH_take (i := 2) (oi := ?_) (v := ?_) ?_ (by kernel_rfl) (by kernel_rfl) (by kernel_rfl) (fun _ _ _ h => (h : False).elim) (Or.inl ⟨?_, ?_⟩) hHeld ?_
    rotate_left 2
    · (simp only [List.getElem?_toArray, List.getElem?_cons_zero, List.getElem?_cons_succ]; rfl)
    · rfl
    · (intro W hSw; obtain ⟨⟨m0, m1, m2, m3, m4⟩, m5⟩ := hSw; go_simp <;> with_reducible rfl)
    try simp only [Act.put, List.setIfInBounds_toArray, List.set_cons_zero, List.set_cons_succ]
    refine wpAnyH_take (i := 3) (oi := ?_) (v := ?_) ?_ (by kernel_rfl) (by kernel_rfl) (by kernel_rfl) (fun _ _ _ h => (h : False).elim) (Or.inl ⟨?_, ?_⟩) hHeld ?_
    rotate_left 2
    · (simp only [List.getElem?_toArray, List.getElem?_cons_zero, List.getElem?_cons_succ]; rfl)
    · rfl
    · (intro W hSw; obtain ⟨⟨m0, m1, m2, m3, m4⟩, m5⟩ := hSw; go_simp <;> with_reducible rfl)
    try simp only [Act.put, List.setIfInBounds_toArray, List.set_cons_zero, List.set_cons_succ]
    refine wpAnyH_take (i := 4) (oi := ?_) (v := ?_) ?_ (by kernel_rfl) (by kernel_rfl) (by kernel_rfl) (fun _ _ _ h => (h : False).elim) (Or.inl ⟨?_, ?_⟩) hHeld ?_
    rotate_left 2
    · (simp only [List.getElem?_toArray, List.getElem?_cons_zero, List.getElem?_cons_succ]; rfl)
    · rfl
    · (intro W hSw; obtain ⟨⟨m0, m1, m2, m3, m4⟩, m5⟩ := hSw; go_simp <;> with_reducible rfl)
    try simp only [Act.put, List.setIfInBounds_toArray, List.set_cons_zero, List.set_cons_succ]
    refine wpAnyH_ready (rs := [5]) (by kernel_rfl) (by simp) ?_
    refine AllReadyH.cons (o := ?_) ?_ (fun K' hK => ?_) AllReadyH.nil
    rotate_left 1
    · (simp only [List.getElem?_toArray, List.getElem?_cons_zero, List.getElem?_cons_succ]; rfl)
    go_simp
    refine (HDg.out _).mono ?_; rintro _ w5 ⟨rfl, hB5⟩; have HB5 := hide ((Below.refl _ w4).drew.trans hB5); clear hB5
    refine hK.out _ _ (⟨HD.out.below HB5.out, HA.out _ HB5.out⟩) (fun hHeld2 => ?_)
    clear hK K' hHeld
    have hHeld := hHeld2
    clear hHeld2
    try simp only [Act.put, List.setIfInBounds_toArray, List.set_cons_zero, List.set_cons_succ]
    refine wpAnyH_ready (rs := [6]) (by kernel_rfl) (by simp) ?_
    refine AllReadyH.cons (o := ?_) ?_ (fun K' hK => ?_) AllReadyH.nil
    rotate_left 1
    · (simp only [List.getElem?_toArray, List.getElem?_cons_zero, List.getElem?_cons_succ]; rfl)
    go_simp
    refine (HPr.out _).mono ?_; rintro _ w6 ⟨rfl, hB6⟩; have HB6 := hide (HB5.out.trans (hB6.mono HB5.out.size)); clear hB6
    refine hK.out _ _ (⟨HD.out.below HB6.out, HA.out _ HB6.out⟩) (fun hHeld2 => ?_)
    clear hK K' hHeld
    have hHeld := hHeld2
    clear hHeld2
    try simp only [Act.put, List.setIfInBounds_toArray, List.set_cons_zero, List.set_cons_succ]
    refine wpAnyH_ready (rs := [7]) (by kernel_rfl) (by simp) ?_
    refine AllReadyH.cons (o := ?_) ?_ (fun K' hK => ?_) AllReadyH.nil
    rotate_left 1
    · (simp only [List.getElem?_toArray, List.getElem?_cons_zero, List.getElem?_cons_succ]; rfl)
    go_simp
    refine (HWd.out _).mono ?_; rintro _ w7 ⟨rfl, hB7⟩; have HB7 := hide (HB6.out.trans (hB7.mono HB6.out.size)); clear hB7
    refine hK.out _ _ (⟨HD.out.below HB7.out, HA.out _ HB7.out⟩) (fun hHeld2 => ?_)
    clear hK K' hHeld
    have hHeld := hHeld2
    clear hHeld2
    try simp only [Act.put, List.setIfInBounds_toArray, List.set_cons_zero, List.set_cons_succ]
    refine wpAnyH_take (i := 8) (oi := ?_) (v := ?_) ?_ (by kernel_rfl) (by kernel_rfl) (by kernel_rfl) (fun _ _ _ h => (h : False).elim) (Or.inl ⟨?_, ?_⟩) hHeld ?_
    rotate_left 2
    · (simp only [List.getElem?_toArray, List.getElem?_cons_zero, List.getElem?_cons_succ]; rfl)
    · rfl
    · (intro W hSw; obtain ⟨⟨m0, m1, m2, m3, m4⟩, m5⟩ := hSw; go_simp <;> with_reducible rfl)
    try simp only [Act.put, List.setIfInBounds_toArray, List.set_cons_zero, List.set_cons_succ]
    refine wpAnyH_done (by kernel_rfl) ?_ _
    refine NoPanic.normal ?_
    go_wp2
    go_ret
    exact ⟨ret_str HR.out.symm, HBx.out.trans (HB7.out.mono HBx.out.size)⟩
end Go.Proofs.YtcmfpafcipgejaaGreatDoor

/- Format: parse: the directive that a pattern begins with. -/
namespace Go.Proofs.YtcmfpafcipgejaaGreatDoor
open Go.RowKit

theorem res_dir {fn : Func} {p u t : Tmp} {w : World} (h : fn.results = #[.cell p 116, .tmp u, .tmp t]) (tmps : Array Value) (g : Nat) (hp : tmps.getD p undef = .pointer (some ⟨g, 0, none⟩)) {fl : Int} {wd pr : Nat} {c : Int} {pt : Bool} (hg : DC w g fl wd pr c pt) :
    (results fn tmps).run Tryz.prog w = .ok (.tuple #[.agg #[.int .i64 fl, .int .i64 (wd : Int), .bool pt, .int .i64 (pr : Int), .int .u8 c], tmps.getD u undef, tmps.getD t undef]) w := by
  obtain ⟨h0, h1, h2, h3, h4⟩ := hg
  have hp' : tmps[p]?.getD undef = .pointer (some ⟨g, 0, none⟩) := by simpa using hp
  have a := Tryz.isAgg116
  have b := Tryz.sizeOf116
  have c0 := Tryz.isAgg3
  have c1 := Tryz.sizeOf3
  have c2 := Tryz.underlying3
  have d0 := Tryz.isAgg4
  have d1 := Tryz.sizeOf4
  have d2 := Tryz.underlying4
  have e0 := Tryz.isAgg5
  have e1 := Tryz.sizeOf5
  have e2 := Tryz.underlying5
  simp only [results, h]
  simp only [loadVar]
  go_simp
theorem pdir_eq {l : List UInt8} {F : Int} {o : Bool} {k B1 B2 : Nat} {B3 : Bool} (ha : flg (l.drop 1) 0 true = (F, o, k)) (hb : numAt (l.drop (1 + k)) = (B1, B2, B3)) :
    pdir l = if o = false ∨ B3 = false then none else
      if isPt (l.drop (1 + k + B2)) = true then
        (if (numAt (l.drop (1 + k + B2 + 1))).2.2 = false then none else (verbAt l (1 + k + B2 + 1 + (numAt (l.drop (1 + k + B2 + 1))).2.1)).map fun v => (⟨F, B1, true, (numAt (l.drop (1 + k + B2 + 1))).1, v⟩, 1 + k + B2 + 1 + (numAt (l.drop (1 + k + B2 + 1))).2.1 + 1))
      else (verbAt l (1 + k + B2)).map fun v => (⟨F, B1, false, 0, v⟩, 1 + k + B2 + 1) := by
  unfold pdir
  simp only [ha, hb]
theorem isPt_at (s : ByteArray) (p : Nat) (h : p < s.size) : isPt (s.data.toList.drop p) = ((s[p].toNat : Int) == 46) := by
  rw [drop_at s p h]
  show (s[p].toNat == 46) = _
  by_cases e : s[p].toNat = 46
  · rw [e]; rfl
  · have : ((s[p].toNat : Int) == 46) = false := by simp only [beq_eq_false_iff_ne, ne_eq]; omega
    rw [this]; simpa using e
theorem isPt_end (s : ByteArray) (p : Nat) (h : s.size ≤ p) : isPt (s.data.toList.drop p) = false := by rw [drop_end s p h]; rfl
theorem verbAt_end (s : ByteArray) (p : Nat) (h : s.size ≤ p) : verbAt s.data.toList p = none := by unfold verbAt; rw [drop_end s p h]
theorem verbAt_at (s : ByteArray) (p : Nat) (h : p < s.size) : verbAt s.data.toList p = if isV (s[p].toNat : Int) (p : Int) = true then some s[p] else none := by
  unfold verbAt isV
  rw [drop_at s p h]
  simp only
  have e1 : ((s[p].toNat : Int) == 37) = decide (s[p].toNat = 37) := by
    by_cases e : s[p].toNat = 37
    · rw [e]; rfl
    · rw [decide_eq_false e]; simp only [beq_eq_false_iff_ne, ne_eq]; omega
  have e2 : ((p : Int) == 1) = decide (p = 1) := by
    by_cases e : p = 1
    · subst e; rfl
    · rw [decide_eq_false e]; simp only [beq_eq_false_iff_ne, ne_eq]; omega
  rw [e1, e2]
  simp
def parV (R : Option (Dir × Nat)) : Value := match R with
  | none => .tuple #[.agg #[.int .i64 0, .int .i64 0, .bool false, .int .i64 0, .int .u8 0], .int .i64 0, .bool false]
  | some (d, n) => .tuple #[dirV d, .int .i64 (n : Int), .bool true]
set_option maxRecDepth 100000 in
set_option maxHeartbeats 4000000 in
theorem parse_any (s : ByteArray) (w : World) (hs : s.size ≤ maxLen) (h1 : 1 ≤ s.size) :
    Calls Tryz.prog 46 #[.string s] w fun e w' => e = .returned (parV (pdir s.data.toList)) ∧ Below w.heap.size w w' := by
  have hsz : s.data.toList.length = s.size := by rw [Array.length_toList]; rfl
  obtain ⟨⟨F, o, k⟩, ha⟩ : ∃ a, flg (s.data.toList.drop 1) 0 true = a := ⟨_, rfl⟩
  obtain ⟨p1, hp1⟩ : ∃ p1, 1 + k = p1 := ⟨_, rfl⟩
  have hFl : ∀ W, Calls Tryz.prog 76 #[.string s, .int .i64 1] W fun e w' => e = .returned (.tuple #[.int .i64 F, .int .i64 (p1 : Int), .bool o]) ∧ W = w' := by
    intro W
    have := flagsAt_any s 1 W hs h1
    rw [ha, hp1] at this
    exact this
  have hk := flg_len (s.data.toList.drop 1) 0 true
  rw [ha, drop_len, hsz] at hk
  simp only at hk
  obtain ⟨⟨B1, B2, B3⟩, hb⟩ : ∃ b, numAt (s.data.toList.drop (1 + k)) = b := ⟨_, rfl⟩
  obtain ⟨p2, hp2⟩ : ∃ p2, p1 + B2 = p2 := ⟨_, rfl⟩
  have hNu : ∀ W, Calls Tryz.prog 77 #[.string s, .int .i64 (p1 : Int)] W fun e w' => e = .returned (.tuple #[.int .i64 (B1 : Int), .int .i64 (p2 : Int), .bool B3]) ∧ W = w' := by
    intro W
    have := numberAt_any s p1 W hs (by omega)
    rw [← hp1, hb, hp1, hp2] at this
    exact this
  have hB := numAt_len (s.data.toList.drop (1 + k))
  rw [hb, drop_len, hsz] at hB
  simp only at hB
  have hp2s : p2 ≤ s.size := by omega
  have hR := pdir_eq ha hb
  rw [hp1, hp2] at hR
  generalize pdir s.data.toList = R at *
  have HFl := hide hFl
  have HNu := hide hNu
  clear hFl hNu ha hb hk hB hp1 hp2 hsz
  have hs2 := hs
  unfold maxLen at hs

  by_cases ho : o = false ∨ B3 = false
  · have HR : Hid (R = none) := by rw [hR, if_pos ho]; rfl
    clear hR
    cases o with
    | false =>
      clear ho
      go_enter Tryz.func46, Tryz.ntmps46
      go_wp2_with (first | (go_at_call 76; refine (HFl.out _).mono ?_; rintro _ _ ⟨rfl, rfl⟩) | (go_at_call 77; refine (HNu.out _).mono ?_; rintro _ _ ⟨rfl, rfl⟩) | fail)
      refine bodyPost_ret (res_dir rfl _ w.heap.size rfl ((DC.new w (0) (0) (0) (0) false).below (fm_below _ _))) rfl ?_
      have := HR.out
      subst this
      exact ⟨rfl, recv2 _ _ _⟩
    | true =>
      obtain rfl : B3 = false := by simpa using ho
      clear ho
      go_enter Tryz.func46, Tryz.ntmps46
      go_wp2_with (first | (go_at_call 76; refine (HFl.out _).mono ?_; rintro _ _ ⟨rfl, rfl⟩) | (go_at_call 77; refine (HNu.out _).mono ?_; rintro _ _ ⟨rfl, rfl⟩) | fail)
      refine bodyPost_ret (res_dir rfl _ w.heap.size rfl ((DC.new w (0) (0) (0) (0) false).below (fm_below _ _))) rfl ?_
      have := HR.out
      subst this
      exact ⟨rfl, recv2 _ _ _⟩
  rw [if_neg ho] at hR
  obtain ⟨rfl, rfl⟩ : o = true ∧ B3 = true := by simpa using ho
  clear ho
  by_cases hlt : p2 < s.size
  · have hlt' : ((p2 : Nat) : Int) < (s.size : Int) := by omega
    rw [isPt_at s p2 hlt] at hR
    by_cases h46 : ((s[p2].toNat : Int) == 46) = true
    · rw [if_pos h46] at hR
      obtain ⟨⟨C1, C2, C3⟩, hcn⟩ : ∃ c, numAt (s.data.toList.drop (p2 + 1)) = c := ⟨_, rfl⟩
      rw [hcn] at hR
      simp only at hR
      obtain ⟨p3, hp3⟩ : ∃ p3, p2 + 1 + C2 = p3 := ⟨_, rfl⟩
      have hNv : ∀ W, Calls Tryz.prog 77 #[.string s, .int .i64 ((p2 : Int) + 1)] W fun e w' => e = .returned (.tuple #[.int .i64 (C1 : Int), .int .i64 (p3 : Int), .bool C3]) ∧ W = w' := by
        intro W
        have := numberAt_any s (p2 + 1) W hs2 (by omega)
        rw [hcn, hp3] at this
        exact this
      have HNv := hide hNv
      have hC := numAt_len (s.data.toList.drop (p2 + 1))
      rw [hcn, drop_len, show s.data.toList.length = s.size by rw [Array.length_toList]; rfl] at hC
      simp only at hC
      have hp3s : p3 ≤ s.size := by omega
      have hp23 : p2 < p3 := by omega
      rw [hp3] at hR
      clear hNv hcn hp3 hC
      cases C3 with
      | false =>
        have HR : Hid (R = none) := by rw [hR, if_pos rfl]; rfl
        clear hR
        have HVb := hide True.intro
        go_enter Tryz.func46, Tryz.ntmps46
        go_wp2_with (first | (go_at_call 76; refine (HFl.out _).mono ?_; rintro _ _ ⟨rfl, rfl⟩) | (go_at_call_of 77 (Value.int .i64 (p1 : Int)); refine (HNu.out _).mono ?_; rintro _ _ ⟨rfl, rfl⟩) | (go_at_call 77; refine (HNv.out _).mono ?_; rintro _ _ ⟨rfl, rfl⟩) | fail)
        refine bodyPost_ret (res_dir rfl _ w.heap.size rfl ((DC.new w (0) (0) (0) (0) false).below (fm_below _ _))) rfl ?_
        have := HR.out
        subst this
        exact ⟨rfl, recv2 _ _ _⟩
      | true =>
        rw [if_neg (by decide)] at hR
        by_cases hl3 : p3 < s.size
        · have hl3' : ((p3 : Nat) : Int) < (s.size : Int) := by omega
          have hne : ((p3 : Int) == (s.size : Int)) = false := by simp only [beq_eq_false_iff_ne, ne_eq]; omega
          rw [verbAt_at s p3 hl3] at hR
          have hVb := fun W => isVerb_any (s[p3].toNat : Int) (p3 : Int) W
          cases hX : isV (s[p3].toNat : Int) (p3 : Int) with
          | true =>
            rw [hX] at hR hVb
            have HVb := hide hVb
            have HR : Hid (R = some (⟨F, B1, true, C1, s[p3]⟩, p3 + 1)) := by rw [hR]; rfl
            clear hR hVb hX
            go_enter Tryz.func46, Tryz.ntmps46
            go_wp2_with (first | (go_at_call 76; refine (HFl.out _).mono ?_; rintro _ _ ⟨rfl, rfl⟩) | (go_at_call_of 77 (Value.int .i64 (p1 : Int)); refine (HNu.out _).mono ?_; rintro _ _ ⟨rfl, rfl⟩) | (go_at_call 77; refine (HNv.out _).mono ?_; rintro _ _ ⟨rfl, rfl⟩) | (go_at_call 78; refine (HVb.out _).mono ?_; rintro _ _ ⟨rfl, rfl⟩) | fail)
            refine bodyPost_ret (res_dir rfl _ w.heap.size rfl ((DC.new w (F) (B1) (C1) ((s[p3].toNat : Int)) true).below (fm_below _ _))) rfl ?_
            have := HR.out
            subst this
            exact ⟨rfl, recv2 _ _ _⟩
          | false =>
            rw [hX] at hR hVb
            have HVb := hide hVb
            have HR : Hid (R = none) := by rw [hR]; rfl
            clear hR hVb hX
            go_enter Tryz.func46, Tryz.ntmps46
            go_wp2_with (first | (go_at_call 76; refine (HFl.out _).mono ?_; rintro _ _ ⟨rfl, rfl⟩) | (go_at_call_of 77 (Value.int .i64 (p1 : Int)); refine (HNu.out _).mono ?_; rintro _ _ ⟨rfl, rfl⟩) | (go_at_call 77; refine (HNv.out _).mono ?_; rintro _ _ ⟨rfl, rfl⟩) | (go_at_call 78; refine (HVb.out _).mono ?_; rintro _ _ ⟨rfl, rfl⟩) | fail)
            refine bodyPost_ret (res_dir rfl _ w.heap.size rfl ((DC.new w (0) (0) (0) (0) false).below (fm_below _ _))) rfl ?_
            have := HR.out
            subst this
            exact ⟨rfl, recv2 _ _ _⟩
        · have hne : ((p3 : Int) == (s.size : Int)) = true := by simp only [beq_iff_eq]; omega
          have HR : Hid (R = none) := by rw [hR, verbAt_end s p3 (by omega)]; rfl
          clear hR
          have hl3' : ¬ ((p3 : Nat) : Int) < (s.size : Int) := by omega
          go_enter Tryz.func46, Tryz.ntmps46
          go_wp2_with (first | (go_at_call 76; refine (HFl.out _).mono ?_; rintro _ _ ⟨rfl, rfl⟩) | (go_at_call_of 77 (Value.int .i64 (p1 : Int)); refine (HNu.out _).mono ?_; rintro _ _ ⟨rfl, rfl⟩) | (go_at_call 77; refine (HNv.out _).mono ?_; rintro _ _ ⟨rfl, rfl⟩) | fail)
          refine bodyPost_ret (res_dir rfl _ w.heap.size rfl ((DC.new w (0) (0) (0) (0) false).below (fm_below _ _))) rfl ?_
          have := HR.out
          subst this
          exact ⟨rfl, recv2 _ _ _⟩
    · rw [if_neg h46] at hR
      have hne : ((p2 : Int) == (s.size : Int)) = false := by simp only [beq_eq_false_iff_ne, ne_eq]; omega
      have h46' : ((s[p2].toNat : Int) == 46) = false := by simpa using h46
      clear h46
      rw [verbAt_at s p2 hlt] at hR
      have hVb := fun W => isVerb_any (s[p2].toNat : Int) (p2 : Int) W
      cases hX : isV (s[p2].toNat : Int) (p2 : Int) with
      | true =>
        rw [hX] at hR hVb
        have HVb := hide hVb
        have HR : Hid (R = some (⟨F, B1, false, 0, s[p2]⟩, p2 + 1)) := by rw [hR]; rfl
        clear hR hVb hX
        go_enter Tryz.func46, Tryz.ntmps46
        go_wp2_with (first | (go_at_call 76; refine (HFl.out _).mono ?_; rintro _ _ ⟨rfl, rfl⟩) | (go_at_call 77; refine (HNu.out _).mono ?_; rintro _ _ ⟨rfl, rfl⟩) | (go_at_call 78; refine (HVb.out _).mono ?_; rintro _ _ ⟨rfl, rfl⟩) | fail)
        refine bodyPost_ret (res_dir rfl _ w.heap.size rfl ((DC.new w (F) (B1) (0) ((s[p2].toNat : Int)) false).below (fm_below _ _))) rfl ?_
        have := HR.out
        subst this
        exact ⟨rfl, recv2 _ _ _⟩
      | false =>
        rw [hX] at hR hVb
        have HVb := hide hVb
        have HR : Hid (R = none) := by rw [hR]; rfl
        clear hR hVb hX
        go_enter Tryz.func46, Tryz.ntmps46
        go_wp2_with (first | (go_at_call 76; refine (HFl.out _).mono ?_; rintro _ _ ⟨rfl, rfl⟩) | (go_at_call 77; refine (HNu.out _).mono ?_; rintro _ _ ⟨rfl, rfl⟩) | (go_at_call 78; refine (HVb.out _).mono ?_; rintro _ _ ⟨rfl, rfl⟩) | fail)
        refine bodyPost_ret (res_dir rfl _ w.heap.size rfl ((DC.new w (0) (0) (0) (0) false).below (fm_below _ _))) rfl ?_
        have := HR.out
        subst this
        exact ⟨rfl, recv2 _ _ _⟩
  · have hlt' : ¬ ((p2 : Nat) : Int) < (s.size : Int) := by omega
    have hne : ((p2 : Int) == (s.size : Int)) = true := by simp only [beq_iff_eq]; omega
    have HR : Hid (R = none) := by rw [hR, isPt_end s p2 (by omega), if_neg (by decide), verbAt_end s p2 (by omega)]; rfl
    clear hR
    go_enter Tryz.func46, Tryz.ntmps46
    go_wp2_with (first | (go_at_call 76; refine (HFl.out _).mono ?_; rintro _ _ ⟨rfl, rfl⟩) | (go_at_call 77; refine (HNu.out _).mono ?_; rintro _ _ ⟨rfl, rfl⟩) | fail)
    refine bodyPost_ret (res_dir rfl _ w.heap.size rfl ((DC.new w (0) (0) (0) (0) false).below (fm_below _ _))) rfl ?_
    have := HR.out
    subst this
    exact ⟨rfl, recv2 _ _ _⟩
end Go.Proofs.YtcmfpafcipgejaaGreatDoor

/- Format: isOf: does a verb show that Arg? -/
namespace Go.Proofs.YtcmfpafcipgejaaGreatDoor
open Go.RowKit

set_option maxHeartbeats 1000000 in
theorem isOf_any (a : Ag) (v : UInt8) (w : World) : Calls Tryz.prog 48 #[agV a, .int .u8 (v.toNat : Int)] w fun e w' => e = .returned (.bool (a.isOf v)) ∧ Below w.heap.size w w' := by
  obtain ⟨k, hk⟩ : ∃ k, kOf (v.toNat : Int) = k := ⟨_, rfl⟩
  have HK := hide hk
  have HV : Hid (a.isOf v = (a.kind == k && (a.kind != 3 || decide (a.uint ≤ 255)))) := by unfold Ag.isOf; rw [hk]; rfl
  clear hk
  generalize a.isOf v = R at *
  obtain ⟨kd, it, ut, tx⟩ := a
  simp only at HV
  unfold agV
  simp only
  have HB0 := hide (fm_below w (.cells #[.int .i64 kd, .int .i64 it, .int .u64 ut, .string tx] 42))
  obtain ⟨x1, h1⟩ : ∃ x, (kd == k) = x := ⟨_, rfl⟩
  obtain ⟨x3, h3⟩ : ∃ x, (kd != 3) = x := ⟨_, rfl⟩
  obtain ⟨xu, hu⟩ : ∃ x, decide (ut ≤ 255) = x := ⟨_, rfl⟩
  rw [h1, h3, hu] at HV
  cases x1 with
  | true =>
    cases x3 with
    | true =>
      go_enter Tryz.func48, Tryz.ntmps48
      go_wp2_with fail
      first | go_region_with (go_at_call 47; refine (kindOf_any _ _).mono ?_; rintro _ _ ⟨rfl, rfl⟩; rw [HK.out]) | fail
      all_goals
        go_wp2
        go_ret
        have := HV.out
        subst this
        exact ⟨rfl, HB0.out.drew⟩
    | false =>
      cases xu with
      | true =>
        go_enter Tryz.func48, Tryz.ntmps48
        go_wp2_with fail
        first | go_region_with (go_at_call 47; refine (kindOf_any _ _).mono ?_; rintro _ _ ⟨rfl, rfl⟩; rw [HK.out]) | fail
        all_goals
          go_wp2
          go_ret
          have := HV.out
          subst this
          exact ⟨rfl, HB0.out.drew⟩
      | false =>
        go_enter Tryz.func48, Tryz.ntmps48
        go_wp2_with fail
        first | go_region_with (go_at_call 47; refine (kindOf_any _ _).mono ?_; rintro _ _ ⟨rfl, rfl⟩; rw [HK.out]) | fail
        all_goals
          go_wp2
          go_ret
          have := HV.out
          subst this
          exact ⟨rfl, HB0.out.drew⟩
  | false =>
    have HN := hide (AgAt.new w ⟨kd, it, ut, tx⟩)
    simp only at HN
    go_enter Tryz.func48, Tryz.ntmps48
    go_wp2_with fail
    -- region
    generalize w.alloc (.cells #[.int .i64 kd, .int .i64 it, .int .u64 ut, .string tx] 42) = w1 at *
    have HD := hide (HN.out.below (Below.refl _ _).drew).c0
    simp only at HD
    refine wp_region_noPanic ?_
    refine wp_region_held_drew (S := fun W => W.cell? ⟨w.heap.size, 0, none⟩ = some (.int .i64 kd)) (by kernel_rfl) (HD.out) (fun hHeld => ?_)
    refine wpAnyH_take (i := 0) (oi := ?_) (v := ?_) ?_ (by kernel_rfl) (by kernel_rfl) (by kernel_rfl) (fun _ _ _ h => (h : False).elim) (Or.inl ⟨?_, ?_⟩) hHeld ?_
    rotate_left 2
    · (simp only [List.getElem?_toArray, List.getElem?_cons_zero]; rfl)
    · rfl
    · (intro w hSw; (try dsimp only at hSw); go_simp <;> with_reducible rfl)
    try simp only [Act.put, List.setIfInBounds_toArray, List.set_cons_zero, List.set_cons_succ]
    refine wpAnyH_take (i := 1) (oi := ?_) (v := ?_) ?_ (by kernel_rfl) (by kernel_rfl) (by kernel_rfl) (fun _ _ _ h => (h : False).elim) (Or.inl ⟨?_, ?_⟩) hHeld ?_
    rotate_left 2
    · (simp only [List.getElem?_toArray, List.getElem?_cons_zero, List.getElem?_cons_succ]; rfl)
    · rfl
    · (intro w hSw; (try dsimp only at hSw); go_simp <;> with_reducible rfl)
    try simp only [Act.put, List.setIfInBounds_toArray, List.set_cons_zero, List.set_cons_succ]
    refine wpAnyH_take (i := 2) (oi := ?_) (v := ?_) ?_ (by kernel_rfl) (by kernel_rfl) (by kernel_rfl) (fun _ _ _ h => (h : False).elim) (Or.inl ⟨?_, ?_⟩) hHeld ?_
    rotate_left 2
    · (simp only [List.getElem?_toArray, List.getElem?_cons_zero, List.getElem?_cons_succ]; rfl)
    · rfl
    · (intro w hSw; (try dsimp only at hSw); go_simp <;> with_reducible rfl)
    try simp only [Act.put, List.setIfInBounds_toArray, List.set_cons_zero, List.set_cons_succ]
    refine wpAnyH_ready (rs := [3]) (by kernel_rfl) (by simp) ?_
    refine AllReadyH.cons (o := ?_) ?_ (fun K' hK => ?_) AllReadyH.nil
    rotate_left 1
    · (simp only [List.getElem?_toArray, List.getElem?_cons_zero, List.getElem?_cons_succ]; rfl)
    go_simp
    go_at_call 47; refine (kindOf_any _ _).mono ?_; rintro _ _ ⟨rfl, rfl⟩; rw [HK.out]
    refine hK.out _ _ (HD.out) (fun hHeld2 => ?_)
    clear hK K' hHeld
    have hHeld := hHeld2
    clear hHeld2
    try simp only [Act.put, List.setIfInBounds_toArray, List.set_cons_zero, List.set_cons_succ]
    refine wpAnyH_take (i := 4) (oi := ?_) (v := ?_) ?_ (by kernel_rfl) (by kernel_rfl) (by kernel_rfl) (fun _ _ _ h => (h : False).elim) (Or.inl ⟨?_, ?_⟩) hHeld ?_
    rotate_left 2
    · (simp only [List.getElem?_toArray, List.getElem?_cons_zero, List.getElem?_cons_succ]; rfl)
    · rfl
    · (intro w hSw; (try dsimp only at hSw); go_simp <;> with_reducible rfl)
    try simp only [Act.put, List.setIfInBounds_toArray, List.set_cons_zero, List.set_cons_succ]
    refine wpAnyH_take (i := 5) (oi := ?_) (v := ?_) ?_ (by kernel_rfl) (by kernel_rfl) (by kernel_rfl) (fun _ _ _ h => (h : False).elim) (Or.inl ⟨?_, ?_⟩) hHeld ?_
    rotate_left 2
    · (simp only [List.getElem?_toArray, List.getElem?_cons_zero, List.getElem?_cons_succ]; rfl)
    · rfl
    · (intro w hSw; (try dsimp only at hSw); go_simp <;> with_reducible rfl)
    try simp only [Act.put, List.setIfInBounds_toArray, List.set_cons_zero, List.set_cons_succ]
    refine wpAnyH_take (i := 6) (oi := ?_) (v := undef) ?_ (by kernel_rfl) (by kernel_rfl) (by kernel_rfl) (fun _ _ _ h => (h : False).elim) (Or.inr ⟨?_, rfl⟩) hHeld ?_
    rotate_left 1
    · (simp only [List.getElem?_toArray, List.getElem?_cons_zero, List.getElem?_cons_succ]; rfl)
    · rfl
    try simp only [Act.put, List.setIfInBounds_toArray, List.set_cons_zero, List.set_cons_succ]
    refine wpAnyH_take (i := 7) (oi := ?_) (v := undef) ?_ (by kernel_rfl) (by kernel_rfl) (by kernel_rfl) (fun _ _ _ h => (h : False).elim) (Or.inr ⟨?_, rfl⟩) hHeld ?_
    rotate_left 1
    · (simp only [List.getElem?_toArray, List.getElem?_cons_zero, List.getElem?_cons_succ]; rfl)
    · rfl
    try simp only [Act.put, List.setIfInBounds_toArray, List.set_cons_zero, List.set_cons_succ]
    refine wpAnyH_take (i := 8) (oi := ?_) (v := undef) ?_ (by kernel_rfl) (by kernel_rfl) (by kernel_rfl) (fun _ _ _ h => (h : False).elim) (Or.inr ⟨?_, rfl⟩) hHeld ?_
    rotate_left 1
    · (simp only [List.getElem?_toArray, List.getElem?_cons_zero, List.getElem?_cons_succ]; rfl)
    · rfl
    try simp only [Act.put, List.setIfInBounds_toArray, List.set_cons_zero, List.set_cons_succ]
    refine wpAnyH_take (i := 9) (oi := ?_) (v := undef) ?_ (by kernel_rfl) (by kernel_rfl) (by kernel_rfl) (fun _ _ _ h => (h : False).elim) (Or.inr ⟨?_, rfl⟩) hHeld ?_
    rotate_left 1
    · (simp only [List.getElem?_toArray, List.getElem?_cons_zero, List.getElem?_cons_succ]; rfl)
    · rfl
    try simp only [Act.put, List.setIfInBounds_toArray, List.set_cons_zero, List.set_cons_succ]
    refine wpAnyH_take (i := 10) (oi := ?_) (v := undef) ?_ (by kernel_rfl) (by kernel_rfl) (by kernel_rfl) (fun _ _ _ h => (h : False).elim) (Or.inr ⟨?_, rfl⟩) hHeld ?_
    rotate_left 1
    · (simp only [List.getElem?_toArray, List.getElem?_cons_zero, List.getElem?_cons_succ]; rfl)
    · rfl
    try simp only [Act.put, List.setIfInBounds_toArray, List.set_cons_zero, List.set_cons_succ]
    refine wpAnyH_take (i := 11) (oi := ?_) (v := undef) ?_ (by kernel_rfl) (by kernel_rfl) (by kernel_rfl) (fun _ _ _ h => (h : False).elim) (Or.inr ⟨?_, rfl⟩) hHeld ?_
    rotate_left 1
    · (simp only [List.getElem?_toArray, List.getElem?_cons_zero, List.getElem?_cons_succ]; rfl)
    · rfl
    try simp only [Act.put, List.setIfInBounds_toArray, List.set_cons_zero, List.set_cons_succ]
    refine wpAnyH_take (i := 12) (oi := ?_) (v := undef) ?_ (by kernel_rfl) (by kernel_rfl) (by kernel_rfl) (fun _ _ _ h => (h : False).elim) (Or.inr ⟨?_, rfl⟩) hHeld ?_
    rotate_left 1
    · (simp only [List.getElem?_toArray, List.getElem?_cons_zero, List.getElem?_cons_succ]; rfl)
    · rfl
    try simp only [Act.put, List.setIfInBounds_toArray, List.set_cons_zero, List.set_cons_succ]
    refine wpAnyH_take (i := 13) (oi := ?_) (v := undef) ?_ (by kernel_rfl) (by kernel_rfl) (by kernel_rfl) (fun _ _ _ h => (h : False).elim) (Or.inr ⟨?_, rfl⟩) hHeld ?_
    rotate_left 1
    · (simp only [List.getElem?_toArray, List.getElem?_cons_zero, List.getElem?_cons_succ]; rfl)
    · rfl
    try simp only [Act.put, List.setIfInBounds_toArray, List.set_cons_zero, List.set_cons_succ]
    refine wpAnyH_take (i := 14) (oi := ?_) (v := ?_) ?_ (by kernel_rfl) (by kernel_rfl) (by kernel_rfl) (fun _ _ _ h => (h : False).elim) (Or.inl ⟨?_, ?_⟩) hHeld ?_
    rotate_left 2
    · (simp only [List.getElem?_toArray, List.getElem?_cons_zero, List.getElem?_cons_succ]; rfl)
    · rfl
    · (intro w hSw; (try dsimp only at hSw); go_simp <;> with_reducible rfl)
    try simp only [Act.put, List.setIfInBounds_toArray, List.set_cons_zero, List.set_cons_succ]
    refine wpAnyH_take (i := 15) (oi := ?_) (v := ?_) ?_ (by kernel_rfl) (by kernel_rfl) (by kernel_rfl) (fun _ _ _ h => (h : False).elim) (Or.inl ⟨?_, ?_⟩) hHeld ?_
    rotate_left 2
    · (simp only [List.getElem?_toArray, List.getElem?_cons_zero, List.getElem?_cons_succ]; rfl)
    · rfl
    · (intro w hSw; (try dsimp only at hSw); go_simp <;> with_reducible rfl)
    try simp only [Act.put, List.setIfInBounds_toArray, List.set_cons_zero, List.set_cons_succ]
    refine wpAnyH_done (by kernel_rfl) ?_ _
    refine NoPanic.normal ?_
    go_wp2
    go_ret
    have := HV.out
    subst this
    exact ⟨rfl, HB0.out.drew⟩
end Go.Proofs.YtcmfpafcipgejaaGreatDoor

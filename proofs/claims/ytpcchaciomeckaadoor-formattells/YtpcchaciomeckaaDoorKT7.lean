/- What the proof stands on, part 7: the contracts of the program's calls that it reaches. -/
import Derived.Test.YtpcchaciomeckaaDoorKT6
import Derived.Deep.RegionHeld3
/- Format by the page: plain, further. -/
namespace Go.Proofs.YtpcchaciomeckaaDoor
open Go.RowKit

set_option maxRecDepth 100000 in
set_option maxHeartbeats 4000000 in
theorem rplain_plus (m z b : Bool) (wd pr en : Int) (a : Ag) (w : World) (hpr : -1 ≤ pr) (hpr2 : pr ≤ 4096) (hi : ¬ a.int < 0) (hi2 : a.int ≤ 9223372036854775807) :
    Calls Tryd.prog 35 #[.agg #[.bool m, .bool true, .bool z, .bool b, .int .i64 wd, .int .i64 pr, .int .u8 100, .int .i64 en], agV a] w fun e w' => e = .returned (.tuple #[.string ⟨([43]).toArray⟩, .string ⟨(plN 10 pr a.int.natAbs).toArray⟩]) ∧ Below w.heap.size w w' := by
  unfold agV
  have HBx := hide (recv2 w (.cells #[.bool m, .bool true, .bool z, .bool b, .int .i64 wd, .int .i64 pr, .int .u8 100, .int .i64 en] 55) (.cells #[.int .i64 a.kind, .int .i64 a.int, .int .u64 a.uint, .string a.text] 37))
  have HC := hide (show DB ((w.alloc (.cells #[.bool m, .bool true, .bool z, .bool b, .int .i64 wd, .int .i64 pr, .int .u8 100, .int .i64 en] 55)).alloc (.cells #[.int .i64 a.kind, .int .i64 a.int, .int .u64 a.uint, .string a.text] 37)) w.heap.size ⟨m, true, z, b, wd, pr, 100, en⟩ from DB.below (show DB (w.alloc _) w.heap.size ⟨m, true, z, b, wd, pr, 100, en⟩ from heap_alloc_new w _) (fm_below _ _))
  have hA := AgAt.new (w.alloc (.cells #[.bool m, .bool true, .bool z, .bool b, .int .i64 wd, .int .i64 pr, .int .u8 100, .int .i64 en] 55)) a
  rw [size_push1] at hA
  have HA := hide hA
  clear hA
  go_enter Tryd.func35, Tryd.ntmps35
  go_upto_region 8 with fail
  generalize (w.alloc (.cells #[.bool m, .bool true, .bool z, .bool b, .int .i64 wd, .int .i64 pr, .int .u8 100, .int .i64 en] 55)).alloc (.cells #[.int .i64 a.kind, .int .i64 a.int, .int .u64 a.uint, .string a.text] 37) = w1 at *
  obtain ⟨c0, c1, c2, c3, c4, c5, c6, c7⟩ := HC.out.cs
  obtain ⟨a0, a1, a2, a3⟩ := HA.out
  simp only at c0 c1 c2 c3 c4 c5 c6 c7
  go_big_region
  go_upto_region 23 with fail
  obtain ⟨N, hN⟩ : ∃ N : Nat, a.int.natAbs = N := ⟨_, rfl⟩
  have hNb : N < 18446744073709551616 := by omega
  have HC2 := hide (HC.out.below (Below.refl w1.heap.size w1).drew)
  have HB2 := hide (HBx.out.trans (((Below.refl w1.heap.size w1).drew).mono HBx.out.size))
  generalize w1.drew = w2 at *
  clear c0 c1 c2 c3 c4 c5 c6 c7 a0 a1 a2 a3 HC HA
  first | rw [show IntKind.u64.wrap a.int = (N : Int) by rw [IntKind.wrap_u64]; omega] | rw [show a.int = (N : Int) by omega]
  have hPl : ∀ W, Calls Tryd.prog 48 #[.int .u64 (N : Int), .int .i64 10] W fun e w' => e = .returned (.string ⟨(digs 10 N).toArray⟩) ∧ Below W.heap.size W w' := fun W => places_any (N : Int) 10 (by decide) (by decide) (by omega) (by omega) W
  have hdl := digs_len 10 N (by decide) hNb
  have HPl := hide hPl
  have hS : plN 10 pr N = zer (pr - ((if pr = 0 ∧ N = 0 then [] else digs 10 N).length : Int)).toNat ++ (if pr = 0 ∧ N = 0 then [] else digs 10 N) := rfl
  have HS : Hid (plN 10 pr a.int.natAbs = zer (pr - ((if pr = 0 ∧ N = 0 then [] else digs 10 N).length : Int)).toNat ++ (if pr = 0 ∧ N = 0 then [] else digs 10 N)) := by rw [hN]; exact hS
  clear hPl hS hN
  generalize digs 10 N = D at *
  go_wp2_with fail
  refine (HPl.out _).mono ?_
  rintro _ w3 ⟨rfl, hB3⟩
  obtain ⟨c0, c1, c2, c3, c4, c5, c6, c7⟩ := (HC2.out.below hB3).cs
  have HC3 := hide (HC2.out.below hB3)
  have HB3 := hide (HB2.out.trans (hB3.mono HB2.out.size))
  simp only at c0 c1 c2 c3 c4 c5 c6 c7
  clear hB3 HC2 HB2 HPl
  have HU := hide (fun (s : ByteArray) (hs : s.size ≤ 65536) W => rupper s W hs)
  rcases (show (pr = 0 ∧ N = 0) ∨ (((pr == 0) = true) ∧ (((N : Int) == 0) = false) ∧ ¬ (pr = 0 ∧ N = 0)) ∨ (((pr == 0) = false) ∧ ¬ (pr = 0 ∧ N = 0)) by
    simp only [beq_iff_eq, beq_eq_false_iff_ne, ne_eq]; omega) with ⟨e1, e2⟩ | ⟨e1, e2, e3⟩ | ⟨e1, e3⟩
  · subst e1
    subst e2
    have hs0 := HS.out
    rw [if_pos ⟨rfl, rfl⟩] at hs0
    have HS0 := hide hs0
    have HM := hide (fun W => rmany 48 0 W (by decide) (by decide))
    clear hs0 HS
    go_wp2_with fail
    refine (HM.out _).mono ?_
    rintro _ w4 ⟨rfl, hB4⟩
    obtain ⟨c0, c1, c2, c3, c4, c5, c6, c7⟩ := (HC3.out.below hB4).cs
    have HB4 := hide (HB3.out.trans (hB4.mono HB3.out.size))
    simp only at c0 c1 c2 c3 c4 c5 c6 c7
    go_wp2
    go_ret2
    exact ⟨ret2 rfl (congrArg Value.string (bstr (by rw [HS0.out]; rfl))), HB4.out⟩
  all_goals
    have hs0 := HS.out
    rw [if_neg e3] at hs0
    have HS0 := hide hs0
    have hDl : D.length ≤ 64 := hdl
    have HM := hide (fun W => rmany 48 (pr - (D.length : Int)) W (by omega) (by omega))
    have hcat : ¬ 9223372036854775807 < (pr - (D.length : Int)).toNat + D.length := by omega
    clear hs0 HS e3
    go_wp2_with fail
    refine (HM.out _).mono ?_
    rintro _ w4 ⟨rfl, hB4⟩
    obtain ⟨c0, c1, c2, c3, c4, c5, c6, c7⟩ := (HC3.out.below hB4).cs
    have HB4 := hide (HB3.out.trans (hB4.mono HB3.out.size))
    simp only at c0 c1 c2 c3 c4 c5 c6 c7
    go_wp2
    go_ret2
    exact ⟨ret2 rfl (congrArg Value.string (bstr (by rw [HS0.out]; simp [zer]))), HB4.out⟩
set_option maxRecDepth 100000 in
set_option maxHeartbeats 4000000 in
theorem rplain_blank (m z : Bool) (wd pr en : Int) (a : Ag) (w : World) (hpr : -1 ≤ pr) (hpr2 : pr ≤ 4096) (hi : ¬ a.int < 0) (hi2 : a.int ≤ 9223372036854775807) :
    Calls Tryd.prog 35 #[.agg #[.bool m, .bool false, .bool z, .bool true, .int .i64 wd, .int .i64 pr, .int .u8 100, .int .i64 en], agV a] w fun e w' => e = .returned (.tuple #[.string ⟨([32]).toArray⟩, .string ⟨(plN 10 pr a.int.natAbs).toArray⟩]) ∧ Below w.heap.size w w' := by
  unfold agV
  have HBx := hide (recv2 w (.cells #[.bool m, .bool false, .bool z, .bool true, .int .i64 wd, .int .i64 pr, .int .u8 100, .int .i64 en] 55) (.cells #[.int .i64 a.kind, .int .i64 a.int, .int .u64 a.uint, .string a.text] 37))
  have HC := hide (show DB ((w.alloc (.cells #[.bool m, .bool false, .bool z, .bool true, .int .i64 wd, .int .i64 pr, .int .u8 100, .int .i64 en] 55)).alloc (.cells #[.int .i64 a.kind, .int .i64 a.int, .int .u64 a.uint, .string a.text] 37)) w.heap.size ⟨m, false, z, true, wd, pr, 100, en⟩ from DB.below (show DB (w.alloc _) w.heap.size ⟨m, false, z, true, wd, pr, 100, en⟩ from heap_alloc_new w _) (fm_below _ _))
  have hA := AgAt.new (w.alloc (.cells #[.bool m, .bool false, .bool z, .bool true, .int .i64 wd, .int .i64 pr, .int .u8 100, .int .i64 en] 55)) a
  rw [size_push1] at hA
  have HA := hide hA
  clear hA
  go_enter Tryd.func35, Tryd.ntmps35
  go_upto_region 8 with fail
  generalize (w.alloc (.cells #[.bool m, .bool false, .bool z, .bool true, .int .i64 wd, .int .i64 pr, .int .u8 100, .int .i64 en] 55)).alloc (.cells #[.int .i64 a.kind, .int .i64 a.int, .int .u64 a.uint, .string a.text] 37) = w1 at *
  obtain ⟨c0, c1, c2, c3, c4, c5, c6, c7⟩ := HC.out.cs
  obtain ⟨a0, a1, a2, a3⟩ := HA.out
  simp only at c0 c1 c2 c3 c4 c5 c6 c7
  go_big_region
  go_upto_region 23 with fail
  obtain ⟨N, hN⟩ : ∃ N : Nat, a.int.natAbs = N := ⟨_, rfl⟩
  have hNb : N < 18446744073709551616 := by omega
  have HC2 := hide (HC.out.below (Below.refl w1.heap.size w1).drew)
  have HB2 := hide (HBx.out.trans (((Below.refl w1.heap.size w1).drew).mono HBx.out.size))
  generalize w1.drew = w2 at *
  clear c0 c1 c2 c3 c4 c5 c6 c7 a0 a1 a2 a3 HC HA
  first | rw [show IntKind.u64.wrap a.int = (N : Int) by rw [IntKind.wrap_u64]; omega] | rw [show a.int = (N : Int) by omega]
  have hPl : ∀ W, Calls Tryd.prog 48 #[.int .u64 (N : Int), .int .i64 10] W fun e w' => e = .returned (.string ⟨(digs 10 N).toArray⟩) ∧ Below W.heap.size W w' := fun W => places_any (N : Int) 10 (by decide) (by decide) (by omega) (by omega) W
  have hdl := digs_len 10 N (by decide) hNb
  have HPl := hide hPl
  have hS : plN 10 pr N = zer (pr - ((if pr = 0 ∧ N = 0 then [] else digs 10 N).length : Int)).toNat ++ (if pr = 0 ∧ N = 0 then [] else digs 10 N) := rfl
  have HS : Hid (plN 10 pr a.int.natAbs = zer (pr - ((if pr = 0 ∧ N = 0 then [] else digs 10 N).length : Int)).toNat ++ (if pr = 0 ∧ N = 0 then [] else digs 10 N)) := by rw [hN]; exact hS
  clear hPl hS hN
  generalize digs 10 N = D at *
  go_wp2_with fail
  refine (HPl.out _).mono ?_
  rintro _ w3 ⟨rfl, hB3⟩
  obtain ⟨c0, c1, c2, c3, c4, c5, c6, c7⟩ := (HC2.out.below hB3).cs
  have HC3 := hide (HC2.out.below hB3)
  have HB3 := hide (HB2.out.trans (hB3.mono HB2.out.size))
  simp only at c0 c1 c2 c3 c4 c5 c6 c7
  clear hB3 HC2 HB2 HPl
  have HU := hide (fun (s : ByteArray) (hs : s.size ≤ 65536) W => rupper s W hs)
  rcases (show (pr = 0 ∧ N = 0) ∨ (((pr == 0) = true) ∧ (((N : Int) == 0) = false) ∧ ¬ (pr = 0 ∧ N = 0)) ∨ (((pr == 0) = false) ∧ ¬ (pr = 0 ∧ N = 0)) by
    simp only [beq_iff_eq, beq_eq_false_iff_ne, ne_eq]; omega) with ⟨e1, e2⟩ | ⟨e1, e2, e3⟩ | ⟨e1, e3⟩
  · subst e1
    subst e2
    have hs0 := HS.out
    rw [if_pos ⟨rfl, rfl⟩] at hs0
    have HS0 := hide hs0
    have HM := hide (fun W => rmany 48 0 W (by decide) (by decide))
    clear hs0 HS
    go_wp2_with fail
    refine (HM.out _).mono ?_
    rintro _ w4 ⟨rfl, hB4⟩
    obtain ⟨c0, c1, c2, c3, c4, c5, c6, c7⟩ := (HC3.out.below hB4).cs
    have HB4 := hide (HB3.out.trans (hB4.mono HB3.out.size))
    simp only at c0 c1 c2 c3 c4 c5 c6 c7
    go_wp2
    go_ret2
    exact ⟨ret2 rfl (congrArg Value.string (bstr (by rw [HS0.out]; rfl))), HB4.out⟩
  all_goals
    have hs0 := HS.out
    rw [if_neg e3] at hs0
    have HS0 := hide hs0
    have hDl : D.length ≤ 64 := hdl
    have HM := hide (fun W => rmany 48 (pr - (D.length : Int)) W (by omega) (by omega))
    have hcat : ¬ 9223372036854775807 < (pr - (D.length : Int)).toNat + D.length := by omega
    clear hs0 HS e3
    go_wp2_with fail
    refine (HM.out _).mono ?_
    rintro _ w4 ⟨rfl, hB4⟩
    obtain ⟨c0, c1, c2, c3, c4, c5, c6, c7⟩ := (HC3.out.below hB4).cs
    have HB4 := hide (HB3.out.trans (hB4.mono HB3.out.size))
    simp only at c0 c1 c2 c3 c4 c5 c6 c7
    go_wp2
    go_ret2
    exact ⟨ret2 rfl (congrArg Value.string (bstr (by rw [HS0.out]; simp [zer]))), HB4.out⟩
set_option maxRecDepth 100000 in
set_option maxHeartbeats 4000000 in
theorem rplain_pos (m z : Bool) (wd pr en : Int) (a : Ag) (w : World) (hpr : -1 ≤ pr) (hpr2 : pr ≤ 4096) (hi : ¬ a.int < 0) (hi2 : a.int ≤ 9223372036854775807) :
    Calls Tryd.prog 35 #[.agg #[.bool m, .bool false, .bool z, .bool false, .int .i64 wd, .int .i64 pr, .int .u8 100, .int .i64 en], agV a] w fun e w' => e = .returned (.tuple #[.string ⟨(([] : List UInt8)).toArray⟩, .string ⟨(plN 10 pr a.int.natAbs).toArray⟩]) ∧ Below w.heap.size w w' := by
  unfold agV
  have HBx := hide (recv2 w (.cells #[.bool m, .bool false, .bool z, .bool false, .int .i64 wd, .int .i64 pr, .int .u8 100, .int .i64 en] 55) (.cells #[.int .i64 a.kind, .int .i64 a.int, .int .u64 a.uint, .string a.text] 37))
  have HC := hide (show DB ((w.alloc (.cells #[.bool m, .bool false, .bool z, .bool false, .int .i64 wd, .int .i64 pr, .int .u8 100, .int .i64 en] 55)).alloc (.cells #[.int .i64 a.kind, .int .i64 a.int, .int .u64 a.uint, .string a.text] 37)) w.heap.size ⟨m, false, z, false, wd, pr, 100, en⟩ from DB.below (show DB (w.alloc _) w.heap.size ⟨m, false, z, false, wd, pr, 100, en⟩ from heap_alloc_new w _) (fm_below _ _))
  have hA := AgAt.new (w.alloc (.cells #[.bool m, .bool false, .bool z, .bool false, .int .i64 wd, .int .i64 pr, .int .u8 100, .int .i64 en] 55)) a
  rw [size_push1] at hA
  have HA := hide hA
  clear hA
  go_enter Tryd.func35, Tryd.ntmps35
  go_upto_region 8 with fail
  generalize (w.alloc (.cells #[.bool m, .bool false, .bool z, .bool false, .int .i64 wd, .int .i64 pr, .int .u8 100, .int .i64 en] 55)).alloc (.cells #[.int .i64 a.kind, .int .i64 a.int, .int .u64 a.uint, .string a.text] 37) = w1 at *
  obtain ⟨c0, c1, c2, c3, c4, c5, c6, c7⟩ := HC.out.cs
  obtain ⟨a0, a1, a2, a3⟩ := HA.out
  simp only at c0 c1 c2 c3 c4 c5 c6 c7
  go_big_region
  go_upto_region 23 with fail
  obtain ⟨N, hN⟩ : ∃ N : Nat, a.int.natAbs = N := ⟨_, rfl⟩
  have hNb : N < 18446744073709551616 := by omega
  have HC2 := hide (HC.out.below (Below.refl w1.heap.size w1).drew)
  have HB2 := hide (HBx.out.trans (((Below.refl w1.heap.size w1).drew).mono HBx.out.size))
  generalize w1.drew = w2 at *
  clear c0 c1 c2 c3 c4 c5 c6 c7 a0 a1 a2 a3 HC HA
  first | rw [show IntKind.u64.wrap a.int = (N : Int) by rw [IntKind.wrap_u64]; omega] | rw [show a.int = (N : Int) by omega]
  have hPl : ∀ W, Calls Tryd.prog 48 #[.int .u64 (N : Int), .int .i64 10] W fun e w' => e = .returned (.string ⟨(digs 10 N).toArray⟩) ∧ Below W.heap.size W w' := fun W => places_any (N : Int) 10 (by decide) (by decide) (by omega) (by omega) W
  have hdl := digs_len 10 N (by decide) hNb
  have HPl := hide hPl
  have hS : plN 10 pr N = zer (pr - ((if pr = 0 ∧ N = 0 then [] else digs 10 N).length : Int)).toNat ++ (if pr = 0 ∧ N = 0 then [] else digs 10 N) := rfl
  have HS : Hid (plN 10 pr a.int.natAbs = zer (pr - ((if pr = 0 ∧ N = 0 then [] else digs 10 N).length : Int)).toNat ++ (if pr = 0 ∧ N = 0 then [] else digs 10 N)) := by rw [hN]; exact hS
  clear hPl hS hN
  generalize digs 10 N = D at *
  go_wp2_with fail
  refine (HPl.out _).mono ?_
  rintro _ w3 ⟨rfl, hB3⟩
  obtain ⟨c0, c1, c2, c3, c4, c5, c6, c7⟩ := (HC2.out.below hB3).cs
  have HC3 := hide (HC2.out.below hB3)
  have HB3 := hide (HB2.out.trans (hB3.mono HB2.out.size))
  simp only at c0 c1 c2 c3 c4 c5 c6 c7
  clear hB3 HC2 HB2 HPl
  have HU := hide (fun (s : ByteArray) (hs : s.size ≤ 65536) W => rupper s W hs)
  rcases (show (pr = 0 ∧ N = 0) ∨ (((pr == 0) = true) ∧ (((N : Int) == 0) = false) ∧ ¬ (pr = 0 ∧ N = 0)) ∨ (((pr == 0) = false) ∧ ¬ (pr = 0 ∧ N = 0)) by
    simp only [beq_iff_eq, beq_eq_false_iff_ne, ne_eq]; omega) with ⟨e1, e2⟩ | ⟨e1, e2, e3⟩ | ⟨e1, e3⟩
  · subst e1
    subst e2
    have hs0 := HS.out
    rw [if_pos ⟨rfl, rfl⟩] at hs0
    have HS0 := hide hs0
    have HM := hide (fun W => rmany 48 0 W (by decide) (by decide))
    clear hs0 HS
    go_wp2_with fail
    refine (HM.out _).mono ?_
    rintro _ w4 ⟨rfl, hB4⟩
    obtain ⟨c0, c1, c2, c3, c4, c5, c6, c7⟩ := (HC3.out.below hB4).cs
    have HB4 := hide (HB3.out.trans (hB4.mono HB3.out.size))
    simp only at c0 c1 c2 c3 c4 c5 c6 c7
    go_wp2
    go_ret2
    exact ⟨ret2 rfl (congrArg Value.string (bstr (by rw [HS0.out]; rfl))), HB4.out⟩
  all_goals
    have hs0 := HS.out
    rw [if_neg e3] at hs0
    have HS0 := hide hs0
    have hDl : D.length ≤ 64 := hdl
    have HM := hide (fun W => rmany 48 (pr - (D.length : Int)) W (by omega) (by omega))
    have hcat : ¬ 9223372036854775807 < (pr - (D.length : Int)).toNat + D.length := by omega
    clear hs0 HS e3
    go_wp2_with fail
    refine (HM.out _).mono ?_
    rintro _ w4 ⟨rfl, hB4⟩
    obtain ⟨c0, c1, c2, c3, c4, c5, c6, c7⟩ := (HC3.out.below hB4).cs
    have HB4 := hide (HB3.out.trans (hB4.mono HB3.out.size))
    simp only at c0 c1 c2 c3 c4 c5 c6 c7
    go_wp2
    go_ret2
    exact ⟨ret2 rfl (congrArg Value.string (bstr (by rw [HS0.out]; simp [zer]))), HB4.out⟩
end Go.Proofs.YtpcchaciomeckaaDoor

/- Format by the page: plain, further. -/
namespace Go.Proofs.YtpcchaciomeckaaDoor
open Go.RowKit

set_option maxRecDepth 100000 in
set_option maxHeartbeats 4000000 in
theorem rplain_x (m p z b : Bool) (wd pr en : Int) (a : Ag) (w : World) (hpr : -1 ≤ pr) (hpr2 : pr ≤ 4096) (hu0 : 0 ≤ a.uint) (hu1 : a.uint ≤ 18446744073709551615) :
    Calls Tryd.prog 35 #[.agg #[.bool m, .bool p, .bool z, .bool b, .int .i64 wd, .int .i64 pr, .int .u8 120, .int .i64 en], agV a] w fun e w' => e = .returned (.tuple #[.string ⟨(([] : List UInt8)).toArray⟩, .string ⟨(plN 16 pr a.uint.toNat).toArray⟩]) ∧ Below w.heap.size w w' := by
  unfold agV
  have HBx := hide (recv2 w (.cells #[.bool m, .bool p, .bool z, .bool b, .int .i64 wd, .int .i64 pr, .int .u8 120, .int .i64 en] 55) (.cells #[.int .i64 a.kind, .int .i64 a.int, .int .u64 a.uint, .string a.text] 37))
  have HC := hide (show DB ((w.alloc (.cells #[.bool m, .bool p, .bool z, .bool b, .int .i64 wd, .int .i64 pr, .int .u8 120, .int .i64 en] 55)).alloc (.cells #[.int .i64 a.kind, .int .i64 a.int, .int .u64 a.uint, .string a.text] 37)) w.heap.size ⟨m, p, z, b, wd, pr, 120, en⟩ from DB.below (show DB (w.alloc _) w.heap.size ⟨m, p, z, b, wd, pr, 120, en⟩ from heap_alloc_new w _) (fm_below _ _))
  have hA := AgAt.new (w.alloc (.cells #[.bool m, .bool p, .bool z, .bool b, .int .i64 wd, .int .i64 pr, .int .u8 120, .int .i64 en] 55)) a
  rw [size_push1] at hA
  have HA := hide hA
  clear hA
  go_enter Tryd.func35, Tryd.ntmps35
  go_upto_region 8 with fail
  generalize (w.alloc (.cells #[.bool m, .bool p, .bool z, .bool b, .int .i64 wd, .int .i64 pr, .int .u8 120, .int .i64 en] 55)).alloc (.cells #[.int .i64 a.kind, .int .i64 a.int, .int .u64 a.uint, .string a.text] 37) = w1 at *
  obtain ⟨c0, c1, c2, c3, c4, c5, c6, c7⟩ := HC.out.cs
  obtain ⟨a0, a1, a2, a3⟩ := HA.out
  simp only at c0 c1 c2 c3 c4 c5 c6 c7
  go_big_region
  go_upto_region 23 with fail
  obtain ⟨N, hN⟩ : ∃ N : Nat, a.uint.toNat = N := ⟨_, rfl⟩
  have hNb : N < 18446744073709551616 := by omega
  have HC2 := hide (HC.out.below (Below.refl w1.heap.size w1).drew)
  have HB2 := hide (HBx.out.trans (((Below.refl w1.heap.size w1).drew).mono HBx.out.size))
  generalize w1.drew = w2 at *
  clear c0 c1 c2 c3 c4 c5 c6 c7 a0 a1 a2 a3 HC HA
  rw [show a.uint = (N : Int) by omega]
  have hPl : ∀ W, Calls Tryd.prog 48 #[.int .u64 (N : Int), .int .i64 16] W fun e w' => e = .returned (.string ⟨(digs 16 N).toArray⟩) ∧ Below W.heap.size W w' := fun W => places_any (N : Int) 16 (by decide) (by decide) (by omega) (by omega) W
  have hdl := digs_len 16 N (by decide) hNb
  have HPl := hide hPl
  have hS : plN 16 pr N = zer (pr - ((if pr = 0 ∧ N = 0 then [] else digs 16 N).length : Int)).toNat ++ (if pr = 0 ∧ N = 0 then [] else digs 16 N) := rfl
  have HS : Hid (plN 16 pr a.uint.toNat = zer (pr - ((if pr = 0 ∧ N = 0 then [] else digs 16 N).length : Int)).toNat ++ (if pr = 0 ∧ N = 0 then [] else digs 16 N)) := by rw [hN]; exact hS
  clear hPl hS hN
  generalize digs 16 N = D at *
  go_wp2_with fail
  refine (HPl.out _).mono ?_
  rintro _ w3 ⟨rfl, hB3⟩
  obtain ⟨c0, c1, c2, c3, c4, c5, c6, c7⟩ := (HC2.out.below hB3).cs
  have HC3 := hide (HC2.out.below hB3)
  have HB3 := hide (HB2.out.trans (hB3.mono HB2.out.size))
  simp only at c0 c1 c2 c3 c4 c5 c6 c7
  clear hB3 HC2 HB2 HPl
  have HU := hide (fun (s : ByteArray) (hs : s.size ≤ 65536) W => rupper s W hs)
  rcases (show (pr = 0 ∧ N = 0) ∨ (((pr == 0) = true) ∧ (((N : Int) == 0) = false) ∧ ¬ (pr = 0 ∧ N = 0)) ∨ (((pr == 0) = false) ∧ ¬ (pr = 0 ∧ N = 0)) by
    simp only [beq_iff_eq, beq_eq_false_iff_ne, ne_eq]; omega) with ⟨e1, e2⟩ | ⟨e1, e2, e3⟩ | ⟨e1, e3⟩
  · subst e1
    subst e2
    have hs0 := HS.out
    rw [if_pos ⟨rfl, rfl⟩] at hs0
    have HS0 := hide hs0
    have HM := hide (fun W => rmany 48 0 W (by decide) (by decide))
    clear hs0 HS
    go_wp2_with fail
    refine (HM.out _).mono ?_
    rintro _ w4 ⟨rfl, hB4⟩
    obtain ⟨c0, c1, c2, c3, c4, c5, c6, c7⟩ := (HC3.out.below hB4).cs
    have HB4 := hide (HB3.out.trans (hB4.mono HB3.out.size))
    simp only at c0 c1 c2 c3 c4 c5 c6 c7
    go_wp2
    go_ret2
    exact ⟨ret2 rfl (congrArg Value.string (bstr (by rw [HS0.out]; rfl))), HB4.out⟩
  all_goals
    have hs0 := HS.out
    rw [if_neg e3] at hs0
    have HS0 := hide hs0
    have hDl : D.length ≤ 64 := hdl
    have HM := hide (fun W => rmany 48 (pr - (D.length : Int)) W (by omega) (by omega))
    have hcat : ¬ 9223372036854775807 < (pr - (D.length : Int)).toNat + D.length := by omega
    clear hs0 HS e3
    go_wp2_with fail
    refine (HM.out _).mono ?_
    rintro _ w4 ⟨rfl, hB4⟩
    obtain ⟨c0, c1, c2, c3, c4, c5, c6, c7⟩ := (HC3.out.below hB4).cs
    have HB4 := hide (HB3.out.trans (hB4.mono HB3.out.size))
    simp only at c0 c1 c2 c3 c4 c5 c6 c7
    go_wp2
    go_ret2
    exact ⟨ret2 rfl (congrArg Value.string (bstr (by rw [HS0.out]; simp [zer]))), HB4.out⟩
set_option maxRecDepth 100000 in
set_option maxHeartbeats 4000000 in
theorem rplain_X (m p z b : Bool) (wd pr en : Int) (a : Ag) (w : World) (hpr : -1 ≤ pr) (hpr2 : pr ≤ 4096) (hu0 : 0 ≤ a.uint) (hu1 : a.uint ≤ 18446744073709551615) :
    Calls Tryd.prog 35 #[.agg #[.bool m, .bool p, .bool z, .bool b, .int .i64 wd, .int .i64 pr, .int .u8 88, .int .i64 en], agV a] w fun e w' => e = .returned (.tuple #[.string ⟨(([] : List UInt8)).toArray⟩, .string ⟨((plN 16 pr a.uint.toNat).map upB).toArray⟩]) ∧ Below w.heap.size w w' := by
  unfold agV
  have HBx := hide (recv2 w (.cells #[.bool m, .bool p, .bool z, .bool b, .int .i64 wd, .int .i64 pr, .int .u8 88, .int .i64 en] 55) (.cells #[.int .i64 a.kind, .int .i64 a.int, .int .u64 a.uint, .string a.text] 37))
  have HC := hide (show DB ((w.alloc (.cells #[.bool m, .bool p, .bool z, .bool b, .int .i64 wd, .int .i64 pr, .int .u8 88, .int .i64 en] 55)).alloc (.cells #[.int .i64 a.kind, .int .i64 a.int, .int .u64 a.uint, .string a.text] 37)) w.heap.size ⟨m, p, z, b, wd, pr, 88, en⟩ from DB.below (show DB (w.alloc _) w.heap.size ⟨m, p, z, b, wd, pr, 88, en⟩ from heap_alloc_new w _) (fm_below _ _))
  have hA := AgAt.new (w.alloc (.cells #[.bool m, .bool p, .bool z, .bool b, .int .i64 wd, .int .i64 pr, .int .u8 88, .int .i64 en] 55)) a
  rw [size_push1] at hA
  have HA := hide hA
  clear hA
  go_enter Tryd.func35, Tryd.ntmps35
  go_upto_region 8 with fail
  generalize (w.alloc (.cells #[.bool m, .bool p, .bool z, .bool b, .int .i64 wd, .int .i64 pr, .int .u8 88, .int .i64 en] 55)).alloc (.cells #[.int .i64 a.kind, .int .i64 a.int, .int .u64 a.uint, .string a.text] 37) = w1 at *
  obtain ⟨c0, c1, c2, c3, c4, c5, c6, c7⟩ := HC.out.cs
  obtain ⟨a0, a1, a2, a3⟩ := HA.out
  simp only at c0 c1 c2 c3 c4 c5 c6 c7
  go_big_region
  go_upto_region 23 with fail
  obtain ⟨N, hN⟩ : ∃ N : Nat, a.uint.toNat = N := ⟨_, rfl⟩
  have hNb : N < 18446744073709551616 := by omega
  have HC2 := hide (HC.out.below (Below.refl w1.heap.size w1).drew)
  have HB2 := hide (HBx.out.trans (((Below.refl w1.heap.size w1).drew).mono HBx.out.size))
  generalize w1.drew = w2 at *
  clear c0 c1 c2 c3 c4 c5 c6 c7 a0 a1 a2 a3 HC HA
  rw [show a.uint = (N : Int) by omega]
  have hPl : ∀ W, Calls Tryd.prog 48 #[.int .u64 (N : Int), .int .i64 16] W fun e w' => e = .returned (.string ⟨(digs 16 N).toArray⟩) ∧ Below W.heap.size W w' := fun W => places_any (N : Int) 16 (by decide) (by decide) (by omega) (by omega) W
  have hdl := digs_len 16 N (by decide) hNb
  have HPl := hide hPl
  have hS : plN 16 pr N = zer (pr - ((if pr = 0 ∧ N = 0 then [] else digs 16 N).length : Int)).toNat ++ (if pr = 0 ∧ N = 0 then [] else digs 16 N) := rfl
  have HS : Hid (plN 16 pr a.uint.toNat = zer (pr - ((if pr = 0 ∧ N = 0 then [] else digs 16 N).length : Int)).toNat ++ (if pr = 0 ∧ N = 0 then [] else digs 16 N)) := by rw [hN]; exact hS
  clear hPl hS hN
  generalize digs 16 N = D at *
  go_wp2_with fail
  refine (HPl.out _).mono ?_
  rintro _ w3 ⟨rfl, hB3⟩
  obtain ⟨c0, c1, c2, c3, c4, c5, c6, c7⟩ := (HC2.out.below hB3).cs
  have HC3 := hide (HC2.out.below hB3)
  have HB3 := hide (HB2.out.trans (hB3.mono HB2.out.size))
  simp only at c0 c1 c2 c3 c4 c5 c6 c7
  clear hB3 HC2 HB2 HPl
  have HU := hide (fun (s : ByteArray) (hs : s.size ≤ 65536) W => rupper s W hs)
  rcases (show (pr = 0 ∧ N = 0) ∨ (((pr == 0) = true) ∧ (((N : Int) == 0) = false) ∧ ¬ (pr = 0 ∧ N = 0)) ∨ (((pr == 0) = false) ∧ ¬ (pr = 0 ∧ N = 0)) by
    simp only [beq_iff_eq, beq_eq_false_iff_ne, ne_eq]; omega) with ⟨e1, e2⟩ | ⟨e1, e2, e3⟩ | ⟨e1, e3⟩
  · subst e1
    subst e2
    have hs0 := HS.out
    rw [if_pos ⟨rfl, rfl⟩] at hs0
    have HS0 := hide hs0
    have HM := hide (fun W => rmany 48 0 W (by decide) (by decide))
    clear hs0 HS
    go_wp2_with fail
    refine (HM.out _).mono ?_
    rintro _ w4 ⟨rfl, hB4⟩
    obtain ⟨c0, c1, c2, c3, c4, c5, c6, c7⟩ := (HC3.out.below hB4).cs
    have HB4 := hide (HB3.out.trans (hB4.mono HB3.out.size))
    simp only at c0 c1 c2 c3 c4 c5 c6 c7
    go_wp2_with fail
    refine (HU.out _ (by decide) _).mono ?_
    rintro _ w5 ⟨rfl, hB5⟩
    have HB5 := hide (HB4.out.trans (hB5.mono HB4.out.size))
    go_wp2
    go_ret2
    exact ⟨ret2 rfl (congrArg Value.string (bstr (by rw [HS0.out]; rfl))), HB5.out⟩
  all_goals
    have hs0 := HS.out
    rw [if_neg e3] at hs0
    have HS0 := hide hs0
    have hDl : D.length ≤ 64 := hdl
    have HM := hide (fun W => rmany 48 (pr - (D.length : Int)) W (by omega) (by omega))
    have hcat : ¬ 9223372036854775807 < (pr - (D.length : Int)).toNat + D.length := by omega
    clear hs0 HS e3
    go_wp2_with fail
    refine (HM.out _).mono ?_
    rintro _ w4 ⟨rfl, hB4⟩
    obtain ⟨c0, c1, c2, c3, c4, c5, c6, c7⟩ := (HC3.out.below hB4).cs
    have HB4 := hide (HB3.out.trans (hB4.mono HB3.out.size))
    simp only at c0 c1 c2 c3 c4 c5 c6 c7
    go_wp2_with fail
    refine (HU.out _ (by rw [ByteArray.size_append, size_mk, size_mk]; simp; omega) _).mono ?_
    rintro _ w5 ⟨rfl, hB5⟩
    have HB5 := hide (HB4.out.trans (hB5.mono HB4.out.size))
    go_wp2
    go_ret2
    exact ⟨ret2 rfl (congrArg Value.string (bstr (by rw [HS0.out]; simp [zer]))), HB5.out⟩
set_option maxRecDepth 100000 in
set_option maxHeartbeats 4000000 in
theorem rplain_o (m p z b : Bool) (wd pr en : Int) (a : Ag) (w : World) (hpr : -1 ≤ pr) (hpr2 : pr ≤ 4096) (hu0 : 0 ≤ a.uint) (hu1 : a.uint ≤ 18446744073709551615) :
    Calls Tryd.prog 35 #[.agg #[.bool m, .bool p, .bool z, .bool b, .int .i64 wd, .int .i64 pr, .int .u8 111, .int .i64 en], agV a] w fun e w' => e = .returned (.tuple #[.string ⟨(([] : List UInt8)).toArray⟩, .string ⟨(plN 8 pr a.uint.toNat).toArray⟩]) ∧ Below w.heap.size w w' := by
  unfold agV
  have HBx := hide (recv2 w (.cells #[.bool m, .bool p, .bool z, .bool b, .int .i64 wd, .int .i64 pr, .int .u8 111, .int .i64 en] 55) (.cells #[.int .i64 a.kind, .int .i64 a.int, .int .u64 a.uint, .string a.text] 37))
  have HC := hide (show DB ((w.alloc (.cells #[.bool m, .bool p, .bool z, .bool b, .int .i64 wd, .int .i64 pr, .int .u8 111, .int .i64 en] 55)).alloc (.cells #[.int .i64 a.kind, .int .i64 a.int, .int .u64 a.uint, .string a.text] 37)) w.heap.size ⟨m, p, z, b, wd, pr, 111, en⟩ from DB.below (show DB (w.alloc _) w.heap.size ⟨m, p, z, b, wd, pr, 111, en⟩ from heap_alloc_new w _) (fm_below _ _))
  have hA := AgAt.new (w.alloc (.cells #[.bool m, .bool p, .bool z, .bool b, .int .i64 wd, .int .i64 pr, .int .u8 111, .int .i64 en] 55)) a
  rw [size_push1] at hA
  have HA := hide hA
  clear hA
  go_enter Tryd.func35, Tryd.ntmps35
  go_upto_region 8 with fail
  generalize (w.alloc (.cells #[.bool m, .bool p, .bool z, .bool b, .int .i64 wd, .int .i64 pr, .int .u8 111, .int .i64 en] 55)).alloc (.cells #[.int .i64 a.kind, .int .i64 a.int, .int .u64 a.uint, .string a.text] 37) = w1 at *
  obtain ⟨c0, c1, c2, c3, c4, c5, c6, c7⟩ := HC.out.cs
  obtain ⟨a0, a1, a2, a3⟩ := HA.out
  simp only at c0 c1 c2 c3 c4 c5 c6 c7
  go_big_region
  go_upto_region 23 with fail
  obtain ⟨N, hN⟩ : ∃ N : Nat, a.uint.toNat = N := ⟨_, rfl⟩
  have hNb : N < 18446744073709551616 := by omega
  have HC2 := hide (HC.out.below (Below.refl w1.heap.size w1).drew)
  have HB2 := hide (HBx.out.trans (((Below.refl w1.heap.size w1).drew).mono HBx.out.size))
  generalize w1.drew = w2 at *
  clear c0 c1 c2 c3 c4 c5 c6 c7 a0 a1 a2 a3 HC HA
  rw [show a.uint = (N : Int) by omega]
  have hPl : ∀ W, Calls Tryd.prog 48 #[.int .u64 (N : Int), .int .i64 8] W fun e w' => e = .returned (.string ⟨(digs 8 N).toArray⟩) ∧ Below W.heap.size W w' := fun W => places_any (N : Int) 8 (by decide) (by decide) (by omega) (by omega) W
  have hdl := digs_len 8 N (by decide) hNb
  have HPl := hide hPl
  have hS : plN 8 pr N = zer (pr - ((if pr = 0 ∧ N = 0 then [] else digs 8 N).length : Int)).toNat ++ (if pr = 0 ∧ N = 0 then [] else digs 8 N) := rfl
  have HS : Hid (plN 8 pr a.uint.toNat = zer (pr - ((if pr = 0 ∧ N = 0 then [] else digs 8 N).length : Int)).toNat ++ (if pr = 0 ∧ N = 0 then [] else digs 8 N)) := by rw [hN]; exact hS
  clear hPl hS hN
  generalize digs 8 N = D at *
  go_wp2_with fail
  refine (HPl.out _).mono ?_
  rintro _ w3 ⟨rfl, hB3⟩
  obtain ⟨c0, c1, c2, c3, c4, c5, c6, c7⟩ := (HC2.out.below hB3).cs
  have HC3 := hide (HC2.out.below hB3)
  have HB3 := hide (HB2.out.trans (hB3.mono HB2.out.size))
  simp only at c0 c1 c2 c3 c4 c5 c6 c7
  clear hB3 HC2 HB2 HPl
  have HU := hide (fun (s : ByteArray) (hs : s.size ≤ 65536) W => rupper s W hs)
  rcases (show (pr = 0 ∧ N = 0) ∨ (((pr == 0) = true) ∧ (((N : Int) == 0) = false) ∧ ¬ (pr = 0 ∧ N = 0)) ∨ (((pr == 0) = false) ∧ ¬ (pr = 0 ∧ N = 0)) by
    simp only [beq_iff_eq, beq_eq_false_iff_ne, ne_eq]; omega) with ⟨e1, e2⟩ | ⟨e1, e2, e3⟩ | ⟨e1, e3⟩
  · subst e1
    subst e2
    have hs0 := HS.out
    rw [if_pos ⟨rfl, rfl⟩] at hs0
    have HS0 := hide hs0
    have HM := hide (fun W => rmany 48 0 W (by decide) (by decide))
    clear hs0 HS
    go_wp2_with fail
    refine (HM.out _).mono ?_
    rintro _ w4 ⟨rfl, hB4⟩
    obtain ⟨c0, c1, c2, c3, c4, c5, c6, c7⟩ := (HC3.out.below hB4).cs
    have HB4 := hide (HB3.out.trans (hB4.mono HB3.out.size))
    simp only at c0 c1 c2 c3 c4 c5 c6 c7
    go_wp2
    go_ret2
    exact ⟨ret2 rfl (congrArg Value.string (bstr (by rw [HS0.out]; rfl))), HB4.out⟩
  all_goals
    have hs0 := HS.out
    rw [if_neg e3] at hs0
    have HS0 := hide hs0
    have hDl : D.length ≤ 64 := hdl
    have HM := hide (fun W => rmany 48 (pr - (D.length : Int)) W (by omega) (by omega))
    have hcat : ¬ 9223372036854775807 < (pr - (D.length : Int)).toNat + D.length := by omega
    clear hs0 HS e3
    go_wp2_with fail
    refine (HM.out _).mono ?_
    rintro _ w4 ⟨rfl, hB4⟩
    obtain ⟨c0, c1, c2, c3, c4, c5, c6, c7⟩ := (HC3.out.below hB4).cs
    have HB4 := hide (HB3.out.trans (hB4.mono HB3.out.size))
    simp only at c0 c1 c2 c3 c4 c5 c6 c7
    go_wp2
    go_ret2
    exact ⟨ret2 rfl (congrArg Value.string (bstr (by rw [HS0.out]; simp [zer]))), HB4.out⟩
set_option maxRecDepth 100000 in
set_option maxHeartbeats 4000000 in
theorem rplain_u (m p z b : Bool) (wd pr en : Int) (a : Ag) (w : World) (hpr : -1 ≤ pr) (hpr2 : pr ≤ 4096) (hu0 : 0 ≤ a.uint) (hu1 : a.uint ≤ 18446744073709551615) :
    Calls Tryd.prog 35 #[.agg #[.bool m, .bool p, .bool z, .bool b, .int .i64 wd, .int .i64 pr, .int .u8 117, .int .i64 en], agV a] w fun e w' => e = .returned (.tuple #[.string ⟨(([] : List UInt8)).toArray⟩, .string ⟨(plN 10 pr a.uint.toNat).toArray⟩]) ∧ Below w.heap.size w w' := by
  unfold agV
  have HBx := hide (recv2 w (.cells #[.bool m, .bool p, .bool z, .bool b, .int .i64 wd, .int .i64 pr, .int .u8 117, .int .i64 en] 55) (.cells #[.int .i64 a.kind, .int .i64 a.int, .int .u64 a.uint, .string a.text] 37))
  have HC := hide (show DB ((w.alloc (.cells #[.bool m, .bool p, .bool z, .bool b, .int .i64 wd, .int .i64 pr, .int .u8 117, .int .i64 en] 55)).alloc (.cells #[.int .i64 a.kind, .int .i64 a.int, .int .u64 a.uint, .string a.text] 37)) w.heap.size ⟨m, p, z, b, wd, pr, 117, en⟩ from DB.below (show DB (w.alloc _) w.heap.size ⟨m, p, z, b, wd, pr, 117, en⟩ from heap_alloc_new w _) (fm_below _ _))
  have hA := AgAt.new (w.alloc (.cells #[.bool m, .bool p, .bool z, .bool b, .int .i64 wd, .int .i64 pr, .int .u8 117, .int .i64 en] 55)) a
  rw [size_push1] at hA
  have HA := hide hA
  clear hA
  go_enter Tryd.func35, Tryd.ntmps35
  go_upto_region 8 with fail
  generalize (w.alloc (.cells #[.bool m, .bool p, .bool z, .bool b, .int .i64 wd, .int .i64 pr, .int .u8 117, .int .i64 en] 55)).alloc (.cells #[.int .i64 a.kind, .int .i64 a.int, .int .u64 a.uint, .string a.text] 37) = w1 at *
  obtain ⟨c0, c1, c2, c3, c4, c5, c6, c7⟩ := HC.out.cs
  obtain ⟨a0, a1, a2, a3⟩ := HA.out
  simp only at c0 c1 c2 c3 c4 c5 c6 c7
  go_big_region
  go_upto_region 23 with fail
  obtain ⟨N, hN⟩ : ∃ N : Nat, a.uint.toNat = N := ⟨_, rfl⟩
  have hNb : N < 18446744073709551616 := by omega
  have HC2 := hide (HC.out.below (Below.refl w1.heap.size w1).drew)
  have HB2 := hide (HBx.out.trans (((Below.refl w1.heap.size w1).drew).mono HBx.out.size))
  generalize w1.drew = w2 at *
  clear c0 c1 c2 c3 c4 c5 c6 c7 a0 a1 a2 a3 HC HA
  rw [show a.uint = (N : Int) by omega]
  have hPl : ∀ W, Calls Tryd.prog 48 #[.int .u64 (N : Int), .int .i64 10] W fun e w' => e = .returned (.string ⟨(digs 10 N).toArray⟩) ∧ Below W.heap.size W w' := fun W => places_any (N : Int) 10 (by decide) (by decide) (by omega) (by omega) W
  have hdl := digs_len 10 N (by decide) hNb
  have HPl := hide hPl
  have hS : plN 10 pr N = zer (pr - ((if pr = 0 ∧ N = 0 then [] else digs 10 N).length : Int)).toNat ++ (if pr = 0 ∧ N = 0 then [] else digs 10 N) := rfl
  have HS : Hid (plN 10 pr a.uint.toNat = zer (pr - ((if pr = 0 ∧ N = 0 then [] else digs 10 N).length : Int)).toNat ++ (if pr = 0 ∧ N = 0 then [] else digs 10 N)) := by rw [hN]; exact hS
  clear hPl hS hN
  generalize digs 10 N = D at *
  go_wp2_with fail
  refine (HPl.out _).mono ?_
  rintro _ w3 ⟨rfl, hB3⟩
  obtain ⟨c0, c1, c2, c3, c4, c5, c6, c7⟩ := (HC2.out.below hB3).cs
  have HC3 := hide (HC2.out.below hB3)
  have HB3 := hide (HB2.out.trans (hB3.mono HB2.out.size))
  simp only at c0 c1 c2 c3 c4 c5 c6 c7
  clear hB3 HC2 HB2 HPl
  have HU := hide (fun (s : ByteArray) (hs : s.size ≤ 65536) W => rupper s W hs)
  rcases (show (pr = 0 ∧ N = 0) ∨ (((pr == 0) = true) ∧ (((N : Int) == 0) = false) ∧ ¬ (pr = 0 ∧ N = 0)) ∨ (((pr == 0) = false) ∧ ¬ (pr = 0 ∧ N = 0)) by
    simp only [beq_iff_eq, beq_eq_false_iff_ne, ne_eq]; omega) with ⟨e1, e2⟩ | ⟨e1, e2, e3⟩ | ⟨e1, e3⟩
  · subst e1
    subst e2
    have hs0 := HS.out
    rw [if_pos ⟨rfl, rfl⟩] at hs0
    have HS0 := hide hs0
    have HM := hide (fun W => rmany 48 0 W (by decide) (by decide))
    clear hs0 HS
    go_wp2_with fail
    refine (HM.out _).mono ?_
    rintro _ w4 ⟨rfl, hB4⟩
    obtain ⟨c0, c1, c2, c3, c4, c5, c6, c7⟩ := (HC3.out.below hB4).cs
    have HB4 := hide (HB3.out.trans (hB4.mono HB3.out.size))
    simp only at c0 c1 c2 c3 c4 c5 c6 c7
    go_wp2
    go_ret2
    exact ⟨ret2 rfl (congrArg Value.string (bstr (by rw [HS0.out]; rfl))), HB4.out⟩
  all_goals
    have hs0 := HS.out
    rw [if_neg e3] at hs0
    have HS0 := hide hs0
    have hDl : D.length ≤ 64 := hdl
    have HM := hide (fun W => rmany 48 (pr - (D.length : Int)) W (by omega) (by omega))
    have hcat : ¬ 9223372036854775807 < (pr - (D.length : Int)).toNat + D.length := by omega
    clear hs0 HS e3
    go_wp2_with fail
    refine (HM.out _).mono ?_
    rintro _ w4 ⟨rfl, hB4⟩
    obtain ⟨c0, c1, c2, c3, c4, c5, c6, c7⟩ := (HC3.out.below hB4).cs
    have HB4 := hide (HB3.out.trans (hB4.mono HB3.out.size))
    simp only at c0 c1 c2 c3 c4 c5 c6 c7
    go_wp2
    go_ret2
    exact ⟨ret2 rfl (congrArg Value.string (bstr (by rw [HS0.out]; simp [zer]))), HB4.out⟩
end Go.Proofs.YtpcchaciomeckaaDoor

/- Format by the page: plain, further. -/
namespace Go.Proofs.YtpcchaciomeckaaDoor
open Go.RowKit

set_option maxRecDepth 100000 in
set_option maxHeartbeats 4000000 in
theorem rplain_c (m p z b : Bool) (wd pr en : Int) (a : Ag) (w : World) (hu0 : 0 ≤ a.uint) (hu1 : a.uint ≤ 255) :
    Calls Tryd.prog 35 #[.agg #[.bool m, .bool p, .bool z, .bool b, .int .i64 wd, .int .i64 pr, .int .u8 99, .int .i64 en], agV a] w fun e w' => e = .returned (.tuple #[.string ⟨(([] : List UInt8)).toArray⟩, .string ⟨([UInt8.ofNat a.uint.toNat]).toArray⟩]) ∧ Below w.heap.size w w' := by
  unfold agV
  have HBx := hide (recv2 w (.cells #[.bool m, .bool p, .bool z, .bool b, .int .i64 wd, .int .i64 pr, .int .u8 99, .int .i64 en] 55) (.cells #[.int .i64 a.kind, .int .i64 a.int, .int .u64 a.uint, .string a.text] 37))
  have HC := hide (show DB ((w.alloc (.cells #[.bool m, .bool p, .bool z, .bool b, .int .i64 wd, .int .i64 pr, .int .u8 99, .int .i64 en] 55)).alloc (.cells #[.int .i64 a.kind, .int .i64 a.int, .int .u64 a.uint, .string a.text] 37)) w.heap.size ⟨m, p, z, b, wd, pr, 99, en⟩ from DB.below (show DB (w.alloc _) w.heap.size ⟨m, p, z, b, wd, pr, 99, en⟩ from heap_alloc_new w _) (fm_below _ _))
  have hA := AgAt.new (w.alloc (.cells #[.bool m, .bool p, .bool z, .bool b, .int .i64 wd, .int .i64 pr, .int .u8 99, .int .i64 en] 55)) a
  rw [size_push1] at hA
  have HA := hide hA
  clear hA
  have hw8 : IntKind.u8.wrap a.uint = a.uint := by rw [IntKind.wrap_u8]; omega
  have HN := hide (num_one a.uint hu0 hu1)
  go_enter Tryd.func35, Tryd.ntmps35
  go_upto_region 3 with fail
  generalize (w.alloc (.cells #[.bool m, .bool p, .bool z, .bool b, .int .i64 wd, .int .i64 pr, .int .u8 99, .int .i64 en] 55)).alloc (.cells #[.int .i64 a.kind, .int .i64 a.int, .int .u64 a.uint, .string a.text] 37) = w1 at *
  obtain ⟨c0, c1, c2, c3, c4, c5, c6, c7⟩ := HC.out.cs
  obtain ⟨a0, a1, a2, a3⟩ := HA.out
  simp only at c0 c1 c2 c3 c4 c5 c6 c7
  have hone : (convert 24 9 (.slice (some ⟨w1.heap.size, 0, none⟩) 1 1)).run Tryd.prog (w1.alloc (.cells #[.int .u8 a.uint] 5)).drew = .ok (.string (strOfNums [a.uint])) (w1.alloc (.cells #[.int .u8 a.uint] 5)).drew := one_str w1.drew a.uint
  have HB2 := hide (HBx.out.trans (((Below.refl w1.heap.size w1).drew.alloc (Nat.le_refl _) (.cells #[.int .u8 a.uint] 5)).mono HBx.out.size))
  have HAd := hide (HA.out.below (Below.refl w1.heap.size w1).drew)
  have HAe := hide (HAd.out.below (fm_below w1.drew (.cells #[.int .u8 a.uint] 5)))
  refine wp_region_noPanic ?_
  refine wp_region_held_drew (S := fun W => AgAt W (w.heap.size + 1) a) (by kernel_rfl) (HAd.out) (fun hHeld => ?_)
  refine wpAnyH_take (i := 0) (oi := ?_) (v := ?_) ?_ (by kernel_rfl) (by kernel_rfl) (by kernel_rfl) (fun _ _ _ h => (h : False).elim) (Or.inl ⟨?_, ?_⟩) hHeld ?_
  rotate_left 2
  · (simp only [List.getElem?_toArray, List.getElem?_cons_zero]; rfl)
  · rfl
  · (intro W hSw; obtain ⟨n0, n1, n2, n3⟩ := hSw; go_simp <;> with_reducible rfl)
  try simp only [Act.put, List.setIfInBounds_toArray, List.set_cons_zero, List.set_cons_succ]
  refine wpAnyH_take (i := 1) (oi := ?_) (v := ?_) ?_ (by kernel_rfl) (by kernel_rfl) (by kernel_rfl) (fun _ _ _ h => (h : False).elim) (Or.inl ⟨?_, ?_⟩) hHeld ?_
  rotate_left 2
  · (simp only [List.getElem?_toArray, List.getElem?_cons_zero, List.getElem?_cons_succ]; rfl)
  · rfl
  · (intro W hSw; obtain ⟨n0, n1, n2, n3⟩ := hSw; go_simp <;> with_reducible rfl)
  try simp only [Act.put, List.setIfInBounds_toArray, List.set_cons_zero, List.set_cons_succ]
  refine wpAnyH_take (i := 2) (oi := ?_) (v := ?_) ?_ (by kernel_rfl) (by kernel_rfl) (by kernel_rfl) (fun _ _ _ h => (h : False).elim) (Or.inl ⟨?_, ?_⟩) hHeld ?_
  rotate_left 2
  · (simp only [List.getElem?_toArray, List.getElem?_cons_zero, List.getElem?_cons_succ]; rfl)
  · rfl
  · (intro W hSw; obtain ⟨n0, n1, n2, n3⟩ := hSw; go_simp <;> with_reducible rfl)
  try simp only [Act.put, List.setIfInBounds_toArray, List.set_cons_zero, List.set_cons_succ]
  refine wpAnyH_take (i := 5) (oi := ?_) (v := ?_) ?_ (by kernel_rfl) (by kernel_rfl) (by kernel_rfl) (fun _ _ _ h => (h : False).elim) (Or.inl ⟨?_, ?_⟩) hHeld ?_
  rotate_left 2
  · (simp only [List.getElem?_toArray, List.getElem?_cons_zero, List.getElem?_cons_succ]; rfl)
  · rfl
  · (intro W hSw; obtain ⟨n0, n1, n2, n3⟩ := hSw; go_simp <;> with_reducible rfl)
  try simp only [Act.put, List.setIfInBounds_toArray, List.set_cons_zero, List.set_cons_succ]
  refine wpAnyH_ready (rs := [3]) (by kernel_rfl) (by simp) ?_
  refine AllReadyH.cons (o := ?_) ?_ (fun K' hK => ?_) AllReadyH.nil
  rotate_left 1
  · (simp only [List.getElem?_toArray, List.getElem?_cons_zero, List.getElem?_cons_succ]; rfl)
  go_simp
  refine hK.out _ _ (HAe.out) (fun hHeld2 => ?_)
  clear hK K' hHeld
  have hHeld := hHeld2
  clear hHeld2
  try simp only [Act.put, List.setIfInBounds_toArray, List.set_cons_zero, List.set_cons_succ]
  refine wpAnyH_ready (rs := [4]) (by kernel_rfl) (by simp) ?_
  refine AllReadyH.cons (o := ?_) ?_ (fun K' hK => ?_) AllReadyH.nil
  rotate_left 1
  · (simp only [List.getElem?_toArray, List.getElem?_cons_zero, List.getElem?_cons_succ]; rfl)
  go_simp
  refine hK.out _ _ (HAe.out) (fun hHeld2 => ?_)
  clear hK K' hHeld
  have hHeld := hHeld2
  clear hHeld2
  try simp only [Act.put, List.setIfInBounds_toArray, List.set_cons_zero, List.set_cons_succ]
  refine wpAnyH_take (i := 6) (oi := ?_) (v := ?_) ?_ (by kernel_rfl) (by kernel_rfl) (by kernel_rfl) (fun _ _ _ h => (h : False).elim) (Or.inl ⟨?_, ?_⟩) hHeld ?_
  rotate_left 2
  · (simp only [List.getElem?_toArray, List.getElem?_cons_zero, List.getElem?_cons_succ]; rfl)
  · rfl
  · (intro W hSw; obtain ⟨n0, n1, n2, n3⟩ := hSw; go_simp <;> with_reducible rfl)
  try simp only [Act.put, List.setIfInBounds_toArray, List.set_cons_zero, List.set_cons_succ]
  refine wpAnyH_done (by kernel_rfl) ?_ _
  refine NoPanic.normal ?_
  go_wp2
  go_ret2
  exact ⟨ret2 rfl (congrArg Value.string (bstr HN.out)), HB2.out⟩
set_option maxRecDepth 100000 in
set_option maxHeartbeats 4000000 in
theorem rplain_cut (m p z b : Bool) (wd pr en : Int) (a : Ag) (w : World) (hpr : 0 ≤ pr) (hlt : pr < (a.text.size : Int)) :
    Calls Tryd.prog 35 #[.agg #[.bool m, .bool p, .bool z, .bool b, .int .i64 wd, .int .i64 pr, .int .u8 115, .int .i64 en], agV a] w fun e w' => e = .returned (.tuple #[.string ⟨(([] : List UInt8)).toArray⟩, .string ⟨(a.text.data.toList.take pr.toNat).toArray⟩]) ∧ Below w.heap.size w w' := by
  unfold agV
  have HBx := hide (recv2 w (.cells #[.bool m, .bool p, .bool z, .bool b, .int .i64 wd, .int .i64 pr, .int .u8 115, .int .i64 en] 55) (.cells #[.int .i64 a.kind, .int .i64 a.int, .int .u64 a.uint, .string a.text] 37))
  have HC := hide (show DB ((w.alloc (.cells #[.bool m, .bool p, .bool z, .bool b, .int .i64 wd, .int .i64 pr, .int .u8 115, .int .i64 en] 55)).alloc (.cells #[.int .i64 a.kind, .int .i64 a.int, .int .u64 a.uint, .string a.text] 37)) w.heap.size ⟨m, p, z, b, wd, pr, 115, en⟩ from DB.below (show DB (w.alloc _) w.heap.size ⟨m, p, z, b, wd, pr, 115, en⟩ from heap_alloc_new w _) (fm_below _ _))
  have hA := AgAt.new (w.alloc (.cells #[.bool m, .bool p, .bool z, .bool b, .int .i64 wd, .int .i64 pr, .int .u8 115, .int .i64 en] 55)) a
  rw [size_push1] at hA
  have HA := hide hA
  clear hA
  go_enter Tryd.func35, Tryd.ntmps35
  go_upto_region 6 with fail
  generalize (w.alloc (.cells #[.bool m, .bool p, .bool z, .bool b, .int .i64 wd, .int .i64 pr, .int .u8 115, .int .i64 en] 55)).alloc (.cells #[.int .i64 a.kind, .int .i64 a.int, .int .u64 a.uint, .string a.text] 37) = w1 at *
  obtain ⟨c0, c1, c2, c3, c4, c5, c6, c7⟩ := HC.out.cs
  obtain ⟨a0, a1, a2, a3⟩ := HA.out
  simp only at c0 c1 c2 c3 c4 c5 c6 c7
  go_big_region
  go_wp2
  go_ret2
  exact ⟨ret2 rfl (congrArg Value.string (bstr (by rw [ByteArray.data_extract, Array.toList_extract, List.extract_eq_take_drop]; simp))), HBx.out.drew⟩
set_option maxRecDepth 100000 in
set_option maxHeartbeats 4000000 in
theorem rplain_s (m p z b : Bool) (wd pr en : Int) (a : Ag) (w : World) (hpr : -1 ≤ pr) (hge : pr < 0 ∨ (0 ≤ pr ∧ ¬ pr < (a.text.size : Int))) :
    Calls Tryd.prog 35 #[.agg #[.bool m, .bool p, .bool z, .bool b, .int .i64 wd, .int .i64 pr, .int .u8 115, .int .i64 en], agV a] w fun e w' => e = .returned (.tuple #[.string ⟨(([] : List UInt8)).toArray⟩, .string ⟨(a.text.data.toList).toArray⟩]) ∧ Below w.heap.size w w' := by
  unfold agV
  have HBx := hide (recv2 w (.cells #[.bool m, .bool p, .bool z, .bool b, .int .i64 wd, .int .i64 pr, .int .u8 115, .int .i64 en] 55) (.cells #[.int .i64 a.kind, .int .i64 a.int, .int .u64 a.uint, .string a.text] 37))
  have HC := hide (show DB ((w.alloc (.cells #[.bool m, .bool p, .bool z, .bool b, .int .i64 wd, .int .i64 pr, .int .u8 115, .int .i64 en] 55)).alloc (.cells #[.int .i64 a.kind, .int .i64 a.int, .int .u64 a.uint, .string a.text] 37)) w.heap.size ⟨m, p, z, b, wd, pr, 115, en⟩ from DB.below (show DB (w.alloc _) w.heap.size ⟨m, p, z, b, wd, pr, 115, en⟩ from heap_alloc_new w _) (fm_below _ _))
  have hA := AgAt.new (w.alloc (.cells #[.bool m, .bool p, .bool z, .bool b, .int .i64 wd, .int .i64 pr, .int .u8 115, .int .i64 en] 55)) a
  rw [size_push1] at hA
  have HA := hide hA
  clear hA
  rcases hge with hge | ⟨hge, hge2⟩
  all_goals
    go_enter Tryd.func35, Tryd.ntmps35
    go_upto_region 7 with fail
    generalize (w.alloc (.cells #[.bool m, .bool p, .bool z, .bool b, .int .i64 wd, .int .i64 pr, .int .u8 115, .int .i64 en] 55)).alloc (.cells #[.int .i64 a.kind, .int .i64 a.int, .int .u64 a.uint, .string a.text] 37) = w1 at *
    obtain ⟨c0, c1, c2, c3, c4, c5, c6, c7⟩ := HC.out.cs
    obtain ⟨a0, a1, a2, a3⟩ := HA.out
    simp only at c0 c1 c2 c3 c4 c5 c6 c7
    go_big_region
    go_wp2
    go_ret2
    exact ⟨ret2 rfl (congrArg Value.string (bstr rfl)), HBx.out.drew⟩
end Go.Proofs.YtpcchaciomeckaaDoor

/- Format by the page: plain as the program has it. -/
namespace Go.Proofs.YtpcchaciomeckaaDoor
open Go.RowKit

theorem kOf_seven {c : Int} (h : kOf c ≠ 0) : c = 100 ∨ c = 99 ∨ c = 115 ∨ c = 120 ∨ c = 88 ∨ c = 111 ∨ c = 117 := by
  unfold kOf at h
  split at h
  · left; assumption
  · split at h
    · rename_i h2; rcases h2 with h2 | h2 | h2 | h2 <;> simp [h2]
    · split at h
      · rename_i h2; simp [h2]
      · split at h
        · rename_i h2; simp [h2]
        · exact absurd rfl h
theorem digs_zero : digs 10 0 = [48] ∧ digs 16 0 = [48] ∧ digs 8 0 = [48] := ⟨by kernel_rfl, by kernel_rfl, by kernel_rfl⟩
theorem digs_48 {b n : Nat} (hb : 2 ≤ b) (hb2 : b ≤ 16) (hn : n < 18446744073709551616) (h0 : digs b 0 = [48]) : digs b n = [48] ↔ n = 0 := by
  constructor
  · intro h
    have h1 := parseB_digs b n hb hb2 hn
    have h2 := parseB_digs b 0 hb hb2 (by omega)
    rw [h, ← h0, h2] at h1
    have := congrArg Prod.fst h1
    simp only at this
    omega
  · rintro rfl
    exact h0
def Dir.prI (d : Dir) : Int := if d.pt = true then (d.pr : Int) else -1
theorem plN_is (d : Dir) (b n : Nat) (hb : 2 ≤ b) (hb2 : b ≤ 16) (hn : n < 18446744073709551616) (h0 : digs b 0 = [48]) (hp : d.pt = false → d.pr = 0) : plN b d.prI n = d.precise (digs b n) := by
  have h48 := digs_48 hb hb2 hn h0
  unfold plN Dir.precise Dir.prI
  cases hpt : d.pt with
  | true =>
    rw [if_pos rfl]
    by_cases hz : d.pr = 0 ∧ n = 0
    · rw [if_pos ⟨by omega, hz.2⟩, if_pos ⟨rfl, hz.1, h48.2 hz.2⟩, hz.1]
      rfl
    · rw [if_neg (by omega), if_neg (by rintro ⟨_, h1, h2⟩; exact hz ⟨h1, h48.1 h2⟩)]
      congr 2
      omega
  | false =>
    rw [if_neg (by simp), if_neg (by omega), if_neg (by simp), hp hpt]
    congr 2
    omega
def PlC (d : Dir) (en : Int) (a : Ag) (S B : List UInt8) : Prop := ∀ W, Calls Tryd.prog 35 #[.agg #[.bool (d.has 1), .bool (d.has 2), .bool (d.has 4), .bool (d.has 8), .int .i64 (d.wd : Int), .int .i64 d.prI, .int .u8 (d.verb.toNat : Int), .int .i64 en], agV a] W fun e w' => e = .returned (.tuple #[.string ⟨S.toArray⟩, .string ⟨B.toArray⟩]) ∧ Below W.heap.size W w'
theorem plain_is (d : Dir) (en : Int) (a : Ag) (hk : kOf d.verb.toNat ≠ 0) (hpr : d.pr ≤ 4096) (hp : d.pt = false → d.pr = 0) (hb : AB a) (h3 : d.verb = 99 → a.uint ≤ 255) :
    ∃ S B, PlC d en a S B ∧ S.length ≤ 1 ∧ S.length + B.length ≤ maxLen ∧ d.shown a = d.wide S B := by
  have hp1 : -1 ≤ d.prI := by unfold Dir.prI; split <;> omega
  have hp2 : d.prI ≤ 4096 := by unfold Dir.prI; split <;> omega
  have hi := hb.int
  have htz : a.text.data.toList.length = a.text.size := by rw [Array.length_toList]; rfl
  have hts := hb.text
  have hlo := hb.lo
  have hhi := hb.hi
  have hun : a.uint.toNat < 18446744073709551616 := by omega
  have hin : a.int.natAbs < 18446744073709551616 := by have := hi.1; have := hi.2; omega
  have hl10 := digs_len 10 a.int.natAbs (by decide) hin
  rcases kOf_seven hk with hv | hv | hv | hv | hv | hv | hv
  · have hv' : d.verb = 100 := of_int hv
    have hq := plN_is d 10 a.int.natAbs (by decide) (by decide) hin digs_zero.1 hp
    have hpl := precise_len d (digs 10 a.int.natAbs)
    refine ⟨d.sign (decide (a.int < 0)), d.precise (digs 10 a.int.natAbs), fun W => ?_, sign_len _ _, by have := sign_len d (decide (a.int < 0)); unfold maxLen; omega, by unfold Dir.shown; rw [if_pos hv']⟩
    rw [← hq, hv]
    unfold Dir.sign
    by_cases hneg : a.int < 0
    · rw [decide_eq_true hneg, if_pos rfl]
      exact rplain_neg _ _ _ _ _ _ _ a W hp1 hp2 hneg hi.1
    · rw [decide_eq_false hneg, if_neg (by decide)]
      cases h2 : d.has 2 with
      | true => rw [if_pos rfl]; exact rplain_plus _ _ _ _ _ _ a W hp1 hp2 hneg hi.2
      | false =>
        rw [if_neg (by decide)]
        cases h8 : d.has 8 with
        | true => rw [if_pos rfl]; exact rplain_blank _ _ _ _ _ a W hp1 hp2 hneg hi.2
        | false => rw [if_neg (by decide)]; exact rplain_pos _ _ _ _ _ a W hp1 hp2 hneg hi.2
  · have hv' : d.verb = 99 := of_int hv
    refine ⟨[], [UInt8.ofNat a.uint.toNat], fun W => ?_, Nat.zero_le _, by unfold maxLen; simp, by unfold Dir.shown; rw [if_neg (by rw [hv']; decide), if_pos hv']⟩
    rw [hv]
    exact rplain_c _ _ _ _ _ _ _ a W hlo (h3 hv')
  · have hv' : d.verb = 115 := of_int hv
    have hcl := cut_len d a.text.data.toList
    refine ⟨[], d.cut a.text.data.toList, fun W => ?_, Nat.zero_le _, by simp only [List.length_nil]; omega, by unfold Dir.shown; rw [if_neg (by rw [hv']; decide), if_neg (by rw [hv']; decide), if_pos hv']⟩
    rw [hv]
    unfold Dir.cut
    by_cases hc : d.pt = true ∧ d.pr < a.text.data.toList.length
    · rw [if_pos hc]
      have e : d.prI = (d.pr : Int) := by unfold Dir.prI; rw [if_pos hc.1]
      rw [e]
      have q := rplain_cut (d.has 1) (d.has 2) (d.has 4) (d.has 8) (d.wd : Int) (d.pr : Int) en a W (by omega) (by omega)
      rwa [Int.toNat_natCast] at q
    · rw [if_neg hc]
      refine rplain_s _ _ _ _ _ _ _ a W hp1 ?_
      unfold Dir.prI
      cases hpt : d.pt with
      | true => right; rw [if_pos rfl]; exact ⟨by omega, fun h => hc ⟨hpt, by omega⟩⟩
      | false => left; rw [if_neg (by simp)]; decide
  · have hv' : d.verb = 120 := of_int hv
    have hq := plN_is d 16 a.uint.toNat (by decide) (by decide) hun digs_zero.2.1 hp
    have hpl := precise_len d (digs 16 a.uint.toNat)
    have hdl := digs_len 16 a.uint.toNat (by decide) hun
    refine ⟨[], d.precise (digs 16 a.uint.toNat), fun W => ?_, Nat.zero_le _, by unfold maxLen; simp only [List.length_nil]; omega, by unfold Dir.shown Dir.digits; rw [hv']; rfl⟩
    rw [← hq, hv]
    exact rplain_x _ _ _ _ _ _ _ a W hp1 hp2 hlo hhi
  · have hv' : d.verb = 88 := of_int hv
    have hq := plN_is d 16 a.uint.toNat (by decide) (by decide) hun digs_zero.2.1 hp
    have hpl := precise_len d ((digs 16 a.uint.toNat).map upB)
    have hdl := digs_len 16 a.uint.toNat (by decide) hun
    rw [List.length_map] at hpl
    have hup : d.precise ((digs 16 a.uint.toNat).map upB) = (d.precise (digs 16 a.uint.toNat)).map upB := by
      unfold Dir.precise
      have e : (digs 16 a.uint.toNat).map upB = [48] ↔ digs 16 a.uint.toNat = [48] := by
        constructor
        · intro h
          cases hd : digs 16 a.uint.toNat with
          | nil => rw [hd] at h; cases h
          | cons c r =>
            rw [hd] at h
            obtain ⟨x, r', hx⟩ := digs_cons 16 a.uint.toNat
            rw [hd] at hx
            obtain ⟨rfl, rfl⟩ := List.cons.inj hx
            obtain ⟨h1, h2⟩ := List.cons.inj h
            have hr : r = [] := by simpa using h2
            have : ∀ x : Fin 16, upB (sgn x) = 48 → sgn x = 48 := by decide
            rw [hr, this x h1]
        · intro h; rw [h]; rfl
      by_cases hc : d.pt = true ∧ d.pr = 0 ∧ digs 16 a.uint.toNat = [48]
      · rw [if_pos hc, if_pos ⟨hc.1, hc.2.1, e.2 hc.2.2⟩]; rfl
      · rw [if_neg hc, if_neg (by rintro ⟨h1, h2, h3⟩; exact hc ⟨h1, h2, e.1 h3⟩), List.map_append, List.length_map]
        congr 1
        unfold zer
        rw [List.map_replicate]
        rfl
    refine ⟨[], d.precise ((digs 16 a.uint.toNat).map upB), fun W => ?_, Nat.zero_le _, by unfold maxLen; simp only [List.length_nil]; omega, by unfold Dir.shown Dir.digits; rw [hv']; rfl⟩
    rw [hup, ← hq, hv]
    exact rplain_X _ _ _ _ _ _ _ a W hp1 hp2 hlo hhi
  · have hv' : d.verb = 111 := of_int hv
    have hq := plN_is d 8 a.uint.toNat (by decide) (by decide) hun digs_zero.2.2 hp
    have hpl := precise_len d (digs 8 a.uint.toNat)
    have hdl := digs_len 8 a.uint.toNat (by decide) hun
    refine ⟨[], d.precise (digs 8 a.uint.toNat), fun W => ?_, Nat.zero_le _, by unfold maxLen; simp only [List.length_nil]; omega, by unfold Dir.shown Dir.digits; rw [hv']; rfl⟩
    rw [← hq, hv]
    exact rplain_o _ _ _ _ _ _ _ a W hp1 hp2 hlo hhi
  · have hv' : d.verb = 117 := of_int hv
    have hq := plN_is d 10 a.uint.toNat (by decide) (by decide) hun digs_zero.1 hp
    have hpl := precise_len d (digs 10 a.uint.toNat)
    have hdl := digs_len 10 a.uint.toNat (by decide) hun
    refine ⟨[], d.precise (digs 10 a.uint.toNat), fun W => ?_, Nat.zero_le _, by unfold maxLen; simp only [List.length_nil]; omega, by unfold Dir.shown Dir.digits; rw [hv']; rfl⟩
    rw [← hq, hv]
    exact rplain_u _ _ _ _ _ _ _ a W hp1 hp2 hlo hhi
end Go.Proofs.YtpcchaciomeckaaDoor

/- Format by the page: One. -/
namespace Go.Proofs.YtpcchaciomeckaaDoor
open Go.RowKit

def oneV (m z : Bool) (wd pr c : Int) (S B : List UInt8) : List UInt8 :=
  if m = true then S ++ B ++ bla (wd - S.length - B.length).toNat else if z = true ∧ c ≠ 99 ∧ c ≠ 115 ∧ pr < 0 then S ++ zer (wd - S.length - B.length).toNat ++ B else bla (wd - S.length - B.length).toNat ++ S ++ B
set_option maxRecDepth 100000 in
set_option maxHeartbeats 4000000 in
theorem one_of (m p z b : Bool) (wd pr c en : Int) (a : Ag) (S B : List UInt8) (w : World) (hw0 : 0 ≤ wd) (hw1 : wd ≤ 4096) (hS1 : S.length ≤ 1) (hS2 : S.length + B.length ≤ maxLen)
    (hPl : ∀ W, Calls Tryd.prog 35 #[.agg #[.bool m, .bool p, .bool z, .bool b, .int .i64 wd, .int .i64 pr, .int .u8 c, .int .i64 en], agV a] W fun e w' => e = .returned (.tuple #[.string ⟨S.toArray⟩, .string ⟨B.toArray⟩]) ∧ Below W.heap.size W w') :
    Calls Tryd.prog 27 #[.agg #[.bool m, .bool p, .bool z, .bool b, .int .i64 wd, .int .i64 pr, .int .u8 c, .int .i64 en], agV a] w fun e w' => e = .returned (.string ⟨(oneV m z wd pr c S B).toArray⟩) ∧ Below w.heap.size w w' := by
  unfold maxLen at hS2
  have HR : Hid (oneV m z wd pr c S B = if m = true then S ++ B ++ bla (wd - S.length - B.length).toNat else if z = true ∧ c ≠ 99 ∧ c ≠ 115 ∧ pr < 0 then S ++ zer (wd - S.length - B.length).toNat ++ B else bla (wd - S.length - B.length).toNat ++ S ++ B) := rfl
  generalize oneV m z wd pr c S B = R at *
  unfold agV at *
  have HPl := hide hPl
  clear hPl
  have HBx := hide (recv2 w (.cells #[.bool m, .bool p, .bool z, .bool b, .int .i64 wd, .int .i64 pr, .int .u8 c, .int .i64 en] 55) (.cells #[.int .i64 a.kind, .int .i64 a.int, .int .u64 a.uint, .string a.text] 37))
  have HC := hide (show DB ((w.alloc (.cells #[.bool m, .bool p, .bool z, .bool b, .int .i64 wd, .int .i64 pr, .int .u8 c, .int .i64 en] 55)).alloc (.cells #[.int .i64 a.kind, .int .i64 a.int, .int .u64 a.uint, .string a.text] 37)) w.heap.size ⟨m, p, z, b, wd, pr, c, en⟩ from DB.below (show DB (w.alloc _) w.heap.size ⟨m, p, z, b, wd, pr, c, en⟩ from heap_alloc_new w _) (fm_below _ _))
  have hA := AgAt.new (w.alloc (.cells #[.bool m, .bool p, .bool z, .bool b, .int .i64 wd, .int .i64 pr, .int .u8 c, .int .i64 en] 55)) a
  rw [size_push1] at hA
  have HA := hide hA
  clear hA
  go_enter Tryd.func27, Tryd.ntmps27
  go_upto_region 1 with fail
  generalize (w.alloc (.cells #[.bool m, .bool p, .bool z, .bool b, .int .i64 wd, .int .i64 pr, .int .u8 c, .int .i64 en] 55)).alloc (.cells #[.int .i64 a.kind, .int .i64 a.int, .int .u64 a.uint, .string a.text] 37) = w1 at *
  obtain ⟨c0, c1, c2, c3, c4, c5, c6, c7⟩ := HC.out.cs
  obtain ⟨a0, a1, a2, a3⟩ := HA.out
  simp only at c0 c1 c2 c3 c4 c5 c6 c7
  go_wp2_with fail
  refine (HPl.out _).mono ?_
  rintro _ w3 ⟨rfl, hB3⟩
  have hB3' : Below w1.heap.size w1 w3 := hB3
  have HC3 := hide (HC.out.below hB3')
  have HB3 := hide (HBx.out.trans (hB3'.mono HBx.out.size))
  clear c0 c1 c2 c3 c4 c5 c6 c7 a0 a1 a2 a3 hB3 hB3' HPl HC HA
  obtain ⟨c0, c1, c2, c3, c4, c5, c6, c7⟩ := HC3.out.cs
  simp only at c0 c1 c2 c3 c4 c5 c6 c7
  have hn1 : -9223372036854775808 ≤ wd - (S.length : Int) - (B.length : Int) := by omega
  have hn2 : wd - (S.length : Int) - (B.length : Int) ≤ 65536 := by omega
  have HM1 := hide (fun W => rmany 32 (wd - (S.length : Int) - (B.length : Int)) W hn1 hn2)
  have HM2 := hide (fun W => rmany 48 (wd - (S.length : Int) - (B.length : Int)) W hn1 hn2)
  have hcat1 : ¬ 9223372036854775807 < S.length + B.length := by omega
  have hcat2 : ¬ 9223372036854775807 < S.length + B.length + (wd - (S.length : Int) - (B.length : Int)).toNat := by omega
  clear hn1 hn2
  have hr := HR.out
  cases m with
  | true =>
    rw [if_pos rfl] at hr
    have HR1 := hide hr
    clear hr HR
    go_wp2_with fail
    refine (HM1.out _).mono ?_
    rintro _ w4 ⟨rfl, hB4⟩
    have HB4 := hide (HB3.out.trans (hB4.mono HB3.out.size))
    go_wp2
    go_ret
    exact ⟨ret_str (by rw [HR1.out]; simp [bla]), HB4.out⟩
  | false =>
    rw [if_neg (by decide)] at hr
    cases z with
    | false =>
      rw [if_neg (by rintro ⟨h, _⟩; cases h)] at hr
      have HR1 := hide hr
      clear hr HR
      go_wp2_with fail
      refine (HM1.out _).mono ?_
      rintro _ w4 ⟨rfl, hB4⟩
      have HB4 := hide (HB3.out.trans (hB4.mono HB3.out.size))
      go_wp2
      go_ret
      exact ⟨ret_str (by rw [HR1.out]; simp [bla]), HB4.out⟩
    | true =>
      by_cases h1 : c = 99
      · rw [if_neg (by rintro ⟨_, h, _⟩; exact h h1)] at hr
        have HR1 := hide hr
        clear hr HR
        subst h1
        go_wp2_with fail
        refine (HM1.out _).mono ?_
        rintro _ w4 ⟨rfl, hB4⟩
        have HB4 := hide (HB3.out.trans (hB4.mono HB3.out.size))
        go_wp2
        go_ret
        exact ⟨ret_str (by rw [HR1.out]; simp [bla]), HB4.out⟩
      have b1 : (c != 99) = true := by simp [h1]
      by_cases h2 : c = 115
      · rw [if_neg (by rintro ⟨_, _, h, _⟩; exact h h2)] at hr
        have HR1 := hide hr
        clear hr HR
        subst h2
        go_wp2_with fail
        refine (HM1.out _).mono ?_
        rintro _ w4 ⟨rfl, hB4⟩
        have HB4 := hide (HB3.out.trans (hB4.mono HB3.out.size))
        go_wp2
        go_ret
        exact ⟨ret_str (by rw [HR1.out]; simp [bla]), HB4.out⟩
      have b2 : (c != 115) = true := by simp [h2]
      by_cases h3 : pr < 0
      · rw [if_pos ⟨rfl, h1, h2, h3⟩] at hr
        have HR1 := hide hr
        clear hr HR
        go_wp2_with fail
        refine (HM2.out _).mono ?_
        rintro _ w4 ⟨rfl, hB4⟩
        have HB4 := hide (HB3.out.trans (hB4.mono HB3.out.size))
        go_wp2
        go_ret
        exact ⟨ret_str (by rw [HR1.out]; simp [zer]), HB4.out⟩
      · rw [if_neg (by rintro ⟨_, _, _, h⟩; exact h3 h)] at hr
        have HR1 := hide hr
        clear hr HR
        go_wp2_with fail
        refine (HM1.out _).mono ?_
        rintro _ w4 ⟨rfl, hB4⟩
        have HB4 := hide (HB3.out.trans (hB4.mono HB3.out.size))
        go_wp2
        go_ret
        exact ⟨ret_str (by rw [HR1.out]; simp [bla]), HB4.out⟩
theorem oneV_wide (d : Dir) (S B : List UInt8) (hk : kOf d.verb.toNat ≠ 0) : oneV (d.has 1) (d.has 4) (d.wd : Int) d.prI (d.verb.toNat : Int) S B = d.wide S B := by
  have e : ((d.wd : Int) - S.length - B.length).toNat = d.wd - S.length - B.length := by omega
  unfold oneV Dir.wide
  rw [e]
  cases h1 : d.has 1 with
  | true => rfl
  | false =>
    simp only [Bool.false_eq_true, if_false]
    cases h4 : d.has 4 with
    | false => simp
    | true =>
      unfold Dir.prI
      cases hp : d.pt with
      | true => rw [if_neg (by simp only [if_true]; omega), if_neg (by simp)]
      | false =>
        have hn : d.num = true ↔ ¬ (d.verb.toNat : Int) = 99 ∧ ¬ (d.verb.toNat : Int) = 115 := by
          unfold Dir.num
          rcases kOf_seven hk with hv | hv | hv | hv | hv | hv | hv <;> rw [hv] <;> decide
        by_cases hn2 : d.num = true
        · have h := hn.1 hn2
          rw [if_pos ⟨rfl, h.1, h.2, by simp⟩, if_pos (by rw [hn2]; rfl)]
        · rw [if_neg (fun h => hn2 (hn.2 ⟨h.2.1, h.2.2.1⟩)), if_neg (by simp [hn2])]
theorem rone (d : Dir) (en : Nat) (a : Ag) (w : World) (hk : kOf d.verb.toNat ≠ 0) (hwd : d.wd ≤ 4096) (hpr : d.pr ≤ 4096) (hp : d.pt = false → d.pr = 0) (hb : AB a) (h3 : d.verb = 99 → a.uint ≤ 255) :
    Calls Tryd.prog 27 #[.agg (rdV d en).cells, agV a] w fun e w' => e = .returned (.string ⟨(d.shown a).toArray⟩) ∧ Below w.heap.size w w' := by
  obtain ⟨S, B, hPl, hS1, hS2, hs⟩ := plain_is d en a hk hpr hp hb h3
  have h := one_of (d.has 1) (d.has 2) (d.has 4) (d.has 8) d.wd d.prI d.verb.toNat en a S B w (by omega) (by omega) hS1 hS2 hPl
  rw [oneV_wide d S B hk, ← hs] at h
  exact h
end Go.Proofs.YtpcchaciomeckaaDoor

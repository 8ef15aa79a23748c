/- What the proof stands on, part 5: the contracts of the program's calls that it reaches. -/
import Derived.Test.YtpcchaciomeckaaDoorKG4
import Derived.Deep.RegionHeld3
import Derived.Deep.Cut
import Derived.Lib.MinMax
/- FormatWide: the walk. -/
namespace Go.Proofs.YtpcchaciomeckaaDoor
open Go.RowKit

theorem owns_some {W : World} {base : Nat} {v : Value} {l : List UInt8} (h : W.ownsRow base 5 1 v l.length (l.map bv)) (h0 : 0 < l.length) : ∃ g c, v = .slice (some ⟨g, 0, none⟩) l.length c ∧ l.length ≤ c := by
  rcases h.2 with ⟨rfl, h1⟩ | ⟨g, cap, cur, rfl, _, _, hnc, _⟩
  · have : l = [] := by simpa using h1
    rw [this] at h0
    exact absurd h0 (Nat.lt_irrefl 0)
  · exact ⟨g, cap, rfl, hnc⟩
theorem shW_len (m z : Bool) (s l : List UInt8) (k : Nat) : (shW m z s l k).length = (s ++ l).length + k := by
  unfold shW bla zer
  cases m <;> cases z <;> simp <;> omega
theorem dgt_len (n : Nat) : (dgt n).length ≤ 2 := by
  unfold dgt
  split <;> simp
theorem patW_len (m z p : Bool) (n : Nat) : (patW m z p n).length ≤ 10 := by
  have := dgt_len n
  unfold patW flW
  cases m <;> cases z <;> cases p <;> simp <;> omega
theorem ab_int (n : Int) (hn : N64 n) : AB ⟨1, n, 0, ⟨#[]⟩⟩ :=
  ⟨⟨show (-9223372036854775808 : Int) ≤ 1 by decide, show (1 : Int) ≤ 9223372036854775807 by decide⟩, hn, Int.le_refl 0, show (0 : Int) ≤ 18446744073709551615 by decide, Nat.zero_le _⟩
theorem wide_size (n : Int) : ∃ N : Nat, 1 ≤ N ∧ N ≤ 60 ∧ wrap64 (1 + (wrap64 (n.tmod 60 + 60)).tmod 60) = (N : Int) := by
  have h1 : -60 < n.tmod 60 ∧ n.tmod 60 < 60 := by
    have := Int.tmod_lt_of_pos n (b := 60) (by decide)
    have := Int.lt_tmod_of_pos n (b := 60) (by decide)
    omega
  generalize n.tmod 60 = a at h1
  have h2 : wrap64 (a + 60) = a + 60 := by unfold wrap64; omega
  rw [h2, Int.tmod_eq_emod_of_nonneg (by omega)]
  exact ⟨(1 + (a + 60) % 60).toNat, by omega, by omega, by unfold wrap64; omega⟩
theorem size_list (f : ByteArray) : f.size = f.data.toList.length := by rw [Array.length_toList]; rfl
theorem bys_tail {W : World} {g n c : Nat} {l : List UInt8} (h : Bys W (.slice (some ⟨g, 0, none⟩) n c) l) (x k c' : Nat) (hn : x + k = l.length) (hc : l.length ≤ c) : Bys W (.slice (if c = x then some ⟨g, 0, none⟩ else some ⟨g, x, none⟩) k c') (l.drop x) := by
  by_cases hx : c = x
  · obtain rfl : k = 0 := by omega
    rw [if_pos hx]
    exact .inr (.inl ⟨_, _, rfl, List.drop_of_length_le (by omega)⟩)
  · rw [if_neg hx]
    have q := bys_cut h x k c' (by omega)
    rw [Nat.zero_add, List.take_of_length_le (by rw [List.length_drop]; omega)] at q
    exact q
theorem bys_head {W : World} {g n c : Nat} {l : List UInt8} (h : Bys W (.slice (some ⟨g, 0, none⟩) n c) l) (k c' : Nat) (hn : k ≤ l.length) : Bys W (.slice (some ⟨g, 0, none⟩) k c') (l.take k) := by
  have q := bys_cut h 0 k c' (by omega)
  rw [Nat.zero_add, List.drop_zero] at q
  exact q
theorem bys_mid {W : World} {g n c : Nat} {l : List UInt8} (h : Bys W (.slice (some ⟨g, 0, none⟩) n c) l) (x k c' : Nat) (hn : x + k ≤ l.length) (hc : l.length ≤ c) : Bys W (.slice (if c = x then some ⟨g, 0, none⟩ else some ⟨g, x, none⟩) k c') ((l.drop x).take k) := by
  by_cases hx : c = x
  · obtain rfl : k = 0 := by omega
    rw [if_pos hx]
    exact .inr (.inl ⟨_, _, rfl, by simp⟩)
  · rw [if_neg hx]
    have q := bys_cut h x k c' (by omega)
    rw [Nat.zero_add] at q
    exact q
theorem bys_at {W : World} {g n c : Nat} {l : List UInt8} (h : Bys W (.slice (some ⟨g, 0, none⟩) n c) l) (h0 : 0 < l.length) : W.cell? ⟨g, 0, none⟩ = some (.int .u8 ((l.getD 0 0).toNat : Int)) := by
  obtain ⟨_, b, off, he, _, hc⟩ := bys_block h h0
  cases he
  exact hc 0 h0
theorem sgn_no : ∀ x : Fin 16, ((sgn x).toNat : Int) ≠ 45 ∧ ((sgn x).toNat : Int) ≠ 43 := by decide
theorem all_rep (v : Value) (c : UInt8) (k : Nat) (w : World) (h : Bys w v (List.replicate k c)) (hk : k ≤ 60) : Calls Tryd.prog 21 #[v, .int .u8 (c.toNat : Int)] w fun e w' => e = .returned (.bool true) ∧ w' = w :=
  all17 v _ c w h (by rw [List.length_replicate]; unfold maxLen; omega) (fun x hx => (List.mem_replicate.1 hx).2)
structure WF (n width : Int) (m z p : Bool) (V LB K : Nat) (X D A B : List UInt8) : Prop where
  hV : wrap64 (1 + (wrap64 (width.tmod 60 + 60)).tmod 60) = (V : Int)
  v1 : 1 ≤ V
  v2 : V ≤ 60
  x : X = sgW n p
  d : D = digs 10 n.natAbs
  b : X ++ D = B
  a : shW m z X D K = A
  lb : B.length = LB
  la : A.length = LB + K
  k : V - X.length - D.length = K
  lb1 : 1 ≤ LB
  lb2 : LB ≤ 65
  k2 : K ≤ 60
  mx : max (V : Int) (LB : Int) = (LB : Int) + (K : Int)
  dn : D ≠ []
  fF : ∀ (f : ByteArray), f.data.toList = patW m z p V → ∀ (va : Value) (W : World), AgsV W va [⟨1, n, 0, ⟨#[]⟩⟩] → Calls Tryd.prog 10 #[.string f, va] W fun r w' => ∃ v, r = .returned (.tuple #[v, .int .i64 0, .int .i64 ((patW m z p V).length : Int)]) ∧ w'.ownsRow W.heap.size 5 1 v A.length (A.map bv) ∧ Below W.heap.size W w'
  fG : ∀ (f : ByteArray), f.data.toList = barW p → ∀ (va : Value) (W : World), AgsV W va [⟨1, n, 0, ⟨#[]⟩⟩] → Calls Tryd.prog 10 #[.string f, va] W fun r w' => ∃ v, r = .returned (.tuple #[v, .int .i64 0, .int .i64 ((barW p).length : Int)]) ∧ w'.ownsRow W.heap.size 5 1 v B.length (B.map bv) ∧ Below W.heap.size W w'
theorem wide_facts (n width : Int) (m z p : Bool) (hn : N64 n) : ∃ V LB K X D A B, WF n width m z p V LB K X D A B := by
  have hdl := digs_len 10 n.natAbs (by decide) (by have := hn.1; have := hn.2; omega)
  have hsl := sgW_len n p
  have hdn := digs_ne 10 n.natAbs
  obtain ⟨X, hX⟩ : ∃ X, sgW n p = X := ⟨_, rfl⟩
  obtain ⟨D, hD⟩ : ∃ D, digs 10 n.natAbs = D := ⟨_, rfl⟩
  obtain ⟨V, hVa, hVb, hV⟩ := wide_size width
  obtain ⟨K, hK⟩ : ∃ K : Nat, V - X.length - D.length = K := ⟨_, rfl⟩
  obtain ⟨LB, hLB⟩ : ∃ LB : Nat, (X ++ D).length = LB := ⟨_, rfl⟩
  obtain ⟨d, q1, q2, q3, q4, q5, q6, q7, q8, q9⟩ := pat_is m z p V (by omega) (by omega)
  obtain ⟨d', r1, r2, r3, r4, r5, r6, r7, r8, r9⟩ := bar_is p
  have hshow := shown_W n q2 q3 q4 q5 q6 q7 q8 q9
  have hshow' := shown_W n r2 r3 r4 r5 r6 r7 r8 r9
  rw [hX, hD, hK] at hshow
  rw [hX, hD] at hshow'
  have hbar : shW false false X D (0 - X.length - D.length) = X ++ D := by
    unfold shW bla
    rw [Nat.zero_sub, Nat.zero_sub]
    simp
  rw [hbar] at hshow'
  rw [hX] at hsl
  rw [hD] at hdl hdn
  have hD1 : 1 ≤ D.length := by cases D with | nil => exact absurd rfl hdn | cons _ _ => simp
  have hLBe : LB = X.length + D.length := by rw [← hLB, List.length_append]
  have hAl := shW_len m z X D K
  rw [hLB] at hAl
  have hpl := patW_len m z p V
  have hF : fmtV (patW m z p V) [⟨1, n, 0, ⟨#[]⟩⟩] = (shW m z X D K, 0, (patW m z p V).length) := by
    rw [← hshow]
    exact fmtV_one rfl q1 (by rw [q9]; decide) (by rw [q9]; rfl) (show (patW m z p V).length ≤ 65536 by omega) (by rw [hshow, hAl]; omega)
  have hG : fmtV (barW p) [⟨1, n, 0, ⟨#[]⟩⟩] = (X ++ D, 0, (barW p).length) := by
    rw [← hshow']
    have hb0 : ∃ r, barW p = 37 :: r := by unfold barW; cases p <;> exact ⟨_, rfl⟩
    obtain ⟨r, hr⟩ := hb0
    rw [hr] at r1 ⊢
    exact fmtV_one rfl r1 (by rw [r9]; decide) (by rw [r9]; rfl) (by rw [← hr]; unfold barW; cases p <;> decide) (by rw [hshow', hLB]; omega)
  have hFc := fun (f : ByteArray) (hf : f.data.toList = patW m z p V) (va : Value) (W : World) (hA : AgsV W va [⟨1, n, 0, ⟨#[]⟩⟩]) => format_is f va _ _ 0 _ (by rw [size_list, hf]; unfold maxLen; omega) (by rw [hf]; exact hF) W hA
  have hGc := fun (f : ByteArray) (hf : f.data.toList = barW p) (va : Value) (W : World) (hA : AgsV W va [⟨1, n, 0, ⟨#[]⟩⟩]) => format_is f va _ _ 0 _ (by rw [size_list, hf]; unfold barW maxLen; cases p <;> decide) (by rw [hf]; exact hG) W hA
  exact ⟨V, LB, K, X, D, shW m z X D K, X ++ D, hV, hVa, hVb, hX.symm, hD.symm, rfl, rfl, hLB, hAl, hK, by omega, by omega, by omega, by omega, hdn, hFc, hGc⟩
end Go.Proofs.YtpcchaciomeckaaDoor

/- FormatWide: the walk. -/
namespace Go.Proofs.YtpcchaciomeckaaDoor
open Go.RowKit

set_option maxRecDepth 100000 in
set_option maxHeartbeats 8000000 in
theorem wide_tff (n width : Int) (w : World) (hn : N64 n) : Calls Tryd.prog 6 #[.int .i64 n, .int .i64 width, .bool true, .bool false, .bool false] w fun e w' => e = .returned (.bool true) ∧ Below w.heap.size w w' := by
  obtain ⟨V, LB, K, X, D, A, B, H⟩ := wide_facts n width true false false hn
  have HFc := hide H.fF
  have HGc := hide H.fG
  have HI := hide (fun W => fint_any n W)
  unfold agV at HI
  simp only at HI
  have HAB := hide (ab_int n hn)
  have HDg := hide (fun W => digits17 V H.v1 H.v2 W)
  have HAl := hide H.la
  have HLB := hide H.lb
  have HMx := hide H.mx
  have HH := hide H
  clear H hn
  go_enter Tryd.func6, Tryd.ntmps6
  go_wp2_with fail
  refine (alive17 _).mono ?_
  rintro _ w1 ⟨rfl, hB1⟩
  have HB1 := hide hB1
  clear hB1
  go_upto_region 4 with fail
  rw [show wrap64 (1 + (wrap64 (width.tmod 60 + 60)).tmod 60) = (V : Int) from HH.out.hV]
  have hLB1 := HH.out.lb1
  have hLB2 := HH.out.lb2
  have hK60 := HH.out.k2
  have hVa := HH.out.v1
  have hVb := HH.out.v2
  go_wp2_with fail
  refine (HDg.out _).mono ?_
  rintro _ w2 ⟨⟨s, rfl, hs⟩, hB2⟩
  have HS := hide hs
  have HB2 := hide (HB1.out.trans (hB2.mono HB1.out.size))
  have hsz : s.size ≤ 2 := by
    have e1 : s.size = s.data.toList.length := by rw [Array.length_toList]; rfl
    rw [e1, hs]
    exact dgt_len V
  clear hs hB2
  go_wp2_with fail
  refine (HI.out _).mono ?_
  rintro _ w3 ⟨rfl, hB3⟩
  have HB3 := hide (HB2.out.trans (hB3.mono HB2.out.size))
  clear hB3
  go_wp2_with fail
  have hA := ags_lit w3 [⟨1, n, 0, ⟨#[]⟩⟩] #[.int .i64 1, .int .i64 n, .int .u64 0, .string ⟨#[]⟩] 37 (0, 0) 1 rfl rfl (fun x hx => by rw [List.mem_singleton.1 hx]; exact HAB.out)
  have HB4 := hide (HB3.out.trans ((fm_below w3 (.cells #[.int .i64 1, .int .i64 n, .int .u64 0, .string ⟨#[]⟩] 37)).mono HB3.out.size))
  generalize w3.alloc (.cells #[.int .i64 1, .int .i64 n, .int .u64 0, .string ⟨#[]⟩] 37) = w4 at *
  refine (HFc.out _ (by simp [HS.out, patW, flW]) _ _ hA).mono ?_
  rintro _ w5 ⟨v1, rfl, hO1, hB5⟩
  have HO1 := hide hO1
  have HB5 := hide (HB4.out.trans (hB5.mono HB4.out.size))
  clear hA hO1 hB5 hsz
  go_wp2_with fail
  refine (HI.out _).mono ?_
  rintro _ w6 ⟨rfl, hB6⟩
  have HO1' := hide (owns_below HO1.out hB6)
  have HB6 := hide (HB5.out.trans (hB6.mono HB5.out.size))
  clear hB6
  go_wp2_with fail
  have hA := ags_lit w6 [⟨1, n, 0, ⟨#[]⟩⟩] #[.int .i64 1, .int .i64 n, .int .u64 0, .string ⟨#[]⟩] 37 (0, 0) 1 rfl rfl (fun x hx => by rw [List.mem_singleton.1 hx]; exact HAB.out)
  have hB7 := fm_below w6 (.cells #[.int .i64 1, .int .i64 n, .int .u64 0, .string ⟨#[]⟩] 37)
  have HO1 := hide (owns_below HO1'.out hB7)
  have HB7 := hide (HB6.out.trans (hB7.mono HB6.out.size))
  generalize w6.alloc (.cells #[.int .i64 1, .int .i64 n, .int .u64 0, .string ⟨#[]⟩] 37) = w7 at *
  refine (HGc.out _ (by simp [barW]) _ _ hA).mono ?_
  rintro _ w8 ⟨v2, rfl, hO2, hB8⟩
  have hO1 := owns_below HO1.out hB8
  have HB8 := hide (HB7.out.trans (hB8.mono HB7.out.size))
  obtain ⟨g1, c1, rfl, hc1⟩ := owns_some hO1 (by rw [HAl.out]; omega)
  obtain ⟨g2, c2, rfl, hc2⟩ := owns_some hO2 (by rw [HLB.out]; omega)
  have HY1 := hide (Bys.of_owns hO1)
  have HY2 := hide (Bys.of_owns hO2)
  rw [HAl.out] at HY1 hc1
  rw [HLB.out] at HY2 hc2
  rw [HAl.out, HLB.out]
  clear hO1 hO2 hA hB7 hB8 HO1 HO1' HI HFc HGc HDg
  have hmx := HMx.out
  go_upto_region 16 with (first | (go_at_call 13; refine (num17 _ _).mono ?_; rintro _ _ ⟨rfl, rfl⟩) | fail)
  clear hmx
  go_upto_region 18 with fail
  have HA : Hid (A.take LB = B ∧ A.drop LB = bla K) := by
    have e2 : (X ++ D).length = LB := by rw [HH.out.b]; exact HLB.out
    have e3 : (X ++ D) ++ bla K = A := HH.out.a
    rw [← e3, ← HH.out.b]
    exact ⟨List.take_left' e2, List.drop_left' e2⟩
  have HQ : Hid (∀ W, (Bys W (.slice (some ⟨g1, 0, none⟩) (LB + K) c1) A ∧ Bys W (.slice (some ⟨g2, 0, none⟩) LB c2) B) → (convert 24 9 (.slice (some ⟨g1, 0, none⟩) LB c1)).run Tryd.prog W = .ok (.string ⟨B.toArray⟩) W ∧ (convert 24 9 (.slice (some ⟨g2, 0, none⟩) LB c2)).run Tryd.prog W = .ok (.string ⟨B.toArray⟩) W) := by
    intro W hS
    refine ⟨?_, bys_string hS.2⟩
    have q := bys_head hS.1 LB c1 (by rw [HAl.out]; omega)
    rw [HA.out.1] at q
    exact bys_string q
  have HC : Hid (∀ W, (Bys W (.slice (some ⟨g1, 0, none⟩) (LB + K) c1) A ∧ Bys W (.slice (some ⟨g2, 0, none⟩) LB c2) B) → Calls Tryd.prog 21 #[.slice (if c1 = LB then some ⟨g1, 0, none⟩ else some ⟨g1, LB, none⟩) K (c1 - LB), .int .u8 32] W fun e w' => e = .returned (.bool true) ∧ w' = W) := by
    intro W hS
    have q := bys_tail hS.1 LB K (c1 - LB) (by rw [HAl.out]) (by rw [HAl.out]; exact hc1)
    rw [HA.out.2] at q
    exact all_rep _ 32 K W q HH.out.k2
  have hLc : LB ≤ c1 := by omega
  have hLs : (LB : Int) ≤ (LB : Int) + (K : Int) := by omega
  refine wp_region_noPanic ?_
  refine wp_region_held_drew (S := fun W => Bys W (.slice (some ⟨g1, 0, none⟩) (LB + K) c1) A ∧ Bys W (.slice (some ⟨g2, 0, none⟩) LB c2) B) (by kernel_rfl) (⟨HY1.out.below (Below.refl _ _).drew, HY2.out.below (Below.refl _ _).drew⟩) (fun hHeld => ?_)
  refine wpAnyH_take (i := 0) (oi := ?_) (v := ?_) ?_ (by kernel_rfl) (by kernel_rfl) (by kernel_rfl) (fun _ _ _ h => (h : False).elim) (Or.inl ⟨?_, ?_⟩) hHeld ?_
  rotate_left 2
  · (simp only [List.getElem?_toArray, List.getElem?_cons_zero]; rfl)
  · rfl
  · (intro W hSw; obtain ⟨q1, q2⟩ := HQ.out W hSw; go_simp <;> with_reducible rfl)
  try simp only [Act.put, List.setIfInBounds_toArray, List.set_cons_zero, List.set_cons_succ]
  refine wpAnyH_take (i := 1) (oi := ?_) (v := ?_) ?_ (by kernel_rfl) (by kernel_rfl) (by kernel_rfl) (fun _ _ _ h => (h : False).elim) (Or.inl ⟨?_, ?_⟩) hHeld ?_
  rotate_left 2
  · (simp only [List.getElem?_toArray, List.getElem?_cons_zero, List.getElem?_cons_succ]; rfl)
  · rfl
  · (intro W hSw; obtain ⟨q1, q2⟩ := HQ.out W hSw; go_simp <;> with_reducible rfl)
  try simp only [Act.put, List.setIfInBounds_toArray, List.set_cons_zero, List.set_cons_succ]
  refine wpAnyH_take (i := 2) (oi := ?_) (v := ?_) ?_ (by kernel_rfl) (by kernel_rfl) (by kernel_rfl) (fun _ _ _ h => (h : False).elim) (Or.inl ⟨?_, ?_⟩) hHeld ?_
  rotate_left 2
  · (simp only [List.getElem?_toArray, List.getElem?_cons_zero, List.getElem?_cons_succ]; rfl)
  · rfl
  · (intro W hSw; obtain ⟨q1, q2⟩ := HQ.out W hSw; go_simp <;> with_reducible rfl)
  try simp only [Act.put, List.setIfInBounds_toArray, List.set_cons_zero, List.set_cons_succ]
  refine wpAnyH_take (i := 3) (oi := ?_) (v := ?_) ?_ (by kernel_rfl) (by kernel_rfl) (by kernel_rfl) (fun _ _ _ h => (h : False).elim) (Or.inl ⟨?_, ?_⟩) hHeld ?_
  rotate_left 2
  · (simp only [List.getElem?_toArray, List.getElem?_cons_zero, List.getElem?_cons_succ]; rfl)
  · rfl
  · (intro W hSw; obtain ⟨q1, q2⟩ := HQ.out W hSw; go_simp <;> with_reducible rfl)
  try simp only [Act.put, List.setIfInBounds_toArray, List.set_cons_zero, List.set_cons_succ]
  refine wpAnyH_take (i := 4) (oi := ?_) (v := ?_) ?_ (by kernel_rfl) (by kernel_rfl) (by kernel_rfl) (fun _ _ _ h => (h : False).elim) (Or.inl ⟨?_, ?_⟩) hHeld ?_
  rotate_left 2
  · (simp only [List.getElem?_toArray, List.getElem?_cons_zero, List.getElem?_cons_succ]; rfl)
  · rfl
  · (intro W hSw; obtain ⟨q1, q2⟩ := HQ.out W hSw; go_simp <;> with_reducible rfl)
  try simp only [Act.put, List.setIfInBounds_toArray, List.set_cons_zero, List.set_cons_succ]
  refine wpAnyH_take (i := 5) (oi := ?_) (v := ?_) ?_ (by kernel_rfl) (by kernel_rfl) (by kernel_rfl) (fun _ _ _ h => (h : False).elim) (Or.inl ⟨?_, ?_⟩) hHeld ?_
  rotate_left 2
  · (simp only [List.getElem?_toArray, List.getElem?_cons_zero, List.getElem?_cons_succ]; rfl)
  · rfl
  · (intro W hSw; obtain ⟨q1, q2⟩ := HQ.out W hSw; go_simp <;> with_reducible rfl)
  try simp only [Act.put, List.setIfInBounds_toArray, List.set_cons_zero, List.set_cons_succ]
  refine wpAnyH_take (i := 6) (oi := ?_) (v := ?_) ?_ (by kernel_rfl) (by kernel_rfl) (by kernel_rfl) (fun _ _ _ h => (h : False).elim) (Or.inl ⟨?_, ?_⟩) hHeld ?_
  rotate_left 2
  · (simp only [List.getElem?_toArray, List.getElem?_cons_zero, List.getElem?_cons_succ]; rfl)
  · rfl
  · (intro W hSw; obtain ⟨q1, q2⟩ := HQ.out W hSw; go_simp <;> with_reducible rfl)
  try simp only [Act.put, List.setIfInBounds_toArray, List.set_cons_zero, List.set_cons_succ]
  refine wpAnyH_take (i := 7) (oi := ?_) (v := ?_) ?_ (by kernel_rfl) (by kernel_rfl) (by kernel_rfl) (fun _ _ _ h => (h : False).elim) (Or.inl ⟨?_, ?_⟩) hHeld ?_
  rotate_left 2
  · (simp only [List.getElem?_toArray, List.getElem?_cons_zero, List.getElem?_cons_succ]; rfl)
  · rfl
  · (intro W hSw; obtain ⟨q1, q2⟩ := HQ.out W hSw; go_simp <;> with_reducible rfl)
  try simp only [Act.put, List.setIfInBounds_toArray, List.set_cons_zero, List.set_cons_succ]
  refine wpAnyH_take (i := 8) (oi := ?_) (v := ?_) ?_ (by kernel_rfl) (by kernel_rfl) (by kernel_rfl) (fun _ _ _ h => (h : False).elim) (Or.inl ⟨?_, ?_⟩) hHeld ?_
  rotate_left 2
  · (simp only [List.getElem?_toArray, List.getElem?_cons_zero, List.getElem?_cons_succ]; rfl)
  · rfl
  · (intro W hSw; obtain ⟨q1, q2⟩ := HQ.out W hSw; go_simp <;> with_reducible rfl)
  try simp only [Act.put, List.setIfInBounds_toArray, List.set_cons_zero, List.set_cons_succ]
  refine wpAnyH_take (i := 9) (oi := ?_) (v := ?_) ?_ (by kernel_rfl) (by kernel_rfl) (by kernel_rfl) (fun _ _ _ h => (h : False).elim) (Or.inl ⟨?_, ?_⟩) hHeld ?_
  rotate_left 2
  · (simp only [List.getElem?_toArray, List.getElem?_cons_zero, List.getElem?_cons_succ]; rfl)
  · rfl
  · (intro W hSw; obtain ⟨q1, q2⟩ := HQ.out W hSw; go_simp <;> with_reducible rfl)
  try simp only [Act.put, List.setIfInBounds_toArray, List.set_cons_zero, List.set_cons_succ]
  refine wpAnyH_take (i := 10) (oi := ?_) (v := ?_) ?_ (by kernel_rfl) (by kernel_rfl) (by kernel_rfl) (fun _ _ _ h => (h : False).elim) (Or.inl ⟨?_, ?_⟩) hHeld ?_
  rotate_left 2
  · (simp only [List.getElem?_toArray, List.getElem?_cons_zero, List.getElem?_cons_succ]; rfl)
  · rfl
  · (intro W hSw; obtain ⟨q1, q2⟩ := HQ.out W hSw; go_simp <;> with_reducible rfl)
  try simp only [Act.put, List.setIfInBounds_toArray, List.set_cons_zero, List.set_cons_succ]
  refine wpAnyH_take (i := 11) (oi := ?_) (v := ?_) ?_ (by kernel_rfl) (by kernel_rfl) (by kernel_rfl) (fun _ _ _ h => (h : False).elim) (Or.inl ⟨?_, ?_⟩) hHeld ?_
  rotate_left 2
  · (simp only [List.getElem?_toArray, List.getElem?_cons_zero, List.getElem?_cons_succ]; rfl)
  · rfl
  · (intro W hSw; obtain ⟨q1, q2⟩ := HQ.out W hSw; go_simp <;> with_reducible rfl)
  try simp only [Act.put, List.setIfInBounds_toArray, List.set_cons_zero, List.set_cons_succ]
  refine wpAnyH_take (i := 12) (oi := ?_) (v := ?_) ?_ (by kernel_rfl) (by kernel_rfl) (by kernel_rfl) (fun _ _ _ h => (h : False).elim) (Or.inl ⟨?_, ?_⟩) hHeld ?_
  rotate_left 2
  · (simp only [List.getElem?_toArray, List.getElem?_cons_zero, List.getElem?_cons_succ]; rfl)
  · rfl
  · (intro W hSw; obtain ⟨q1, q2⟩ := HQ.out W hSw; go_simp <;> with_reducible rfl)
  try simp only [Act.put, List.setIfInBounds_toArray, List.set_cons_zero, List.set_cons_succ]
  refine wpAnyH_ready (rs := [13]) (by kernel_rfl) (by simp) ?_
  refine AllReadyH.cons (o := ?_) ?_ (fun K' hK => ?_) AllReadyH.nil
  rotate_left 1
  · (simp only [List.getElem?_toArray, List.getElem?_cons_zero, List.getElem?_cons_succ]; rfl)
  go_simp
  refine (HC.out _ hHeld).mono ?_; rintro _ _ ⟨rfl, rfl⟩
  refine hK.out _ _ (hHeld) (fun hHeld2 => ?_)
  clear hK K' hHeld
  have hHeld := hHeld2
  clear hHeld2
  try simp only [Act.put, List.setIfInBounds_toArray, List.set_cons_zero, List.set_cons_succ]
  refine wpAnyH_take (i := 14) (oi := ?_) (v := ?_) ?_ (by kernel_rfl) (by kernel_rfl) (by kernel_rfl) (fun _ _ _ h => (h : False).elim) (Or.inl ⟨?_, ?_⟩) hHeld ?_
  rotate_left 2
  · (simp only [List.getElem?_toArray, List.getElem?_cons_zero, List.getElem?_cons_succ]; rfl)
  · rfl
  · (intro W hSw; obtain ⟨q1, q2⟩ := HQ.out W hSw; go_simp <;> with_reducible rfl)
  try simp only [Act.put, List.setIfInBounds_toArray, List.set_cons_zero, List.set_cons_succ]
  refine wpAnyH_take (i := 15) (oi := ?_) (v := ?_) ?_ (by kernel_rfl) (by kernel_rfl) (by kernel_rfl) (fun _ _ _ h => (h : False).elim) (Or.inl ⟨?_, ?_⟩) hHeld ?_
  rotate_left 2
  · (simp only [List.getElem?_toArray, List.getElem?_cons_zero, List.getElem?_cons_succ]; rfl)
  · rfl
  · (intro W hSw; obtain ⟨q1, q2⟩ := HQ.out W hSw; go_simp <;> with_reducible rfl)
  try simp only [Act.put, List.setIfInBounds_toArray, List.set_cons_zero, List.set_cons_succ]
  refine wpAnyH_done (by kernel_rfl) ?_ _
  refine NoPanic.normal ?_
  go_wp2
  all_goals
    go_ret
    exact ⟨rfl, HB8.out.drew⟩
set_option maxRecDepth 100000 in
set_option maxHeartbeats 8000000 in
theorem wide_tft (n width : Int) (w : World) (hn : N64 n) : Calls Tryd.prog 6 #[.int .i64 n, .int .i64 width, .bool true, .bool false, .bool true] w fun e w' => e = .returned (.bool true) ∧ Below w.heap.size w w' := by
  obtain ⟨V, LB, K, X, D, A, B, H⟩ := wide_facts n width true false true hn
  have HFc := hide H.fF
  have HGc := hide H.fG
  have HI := hide (fun W => fint_any n W)
  unfold agV at HI
  simp only at HI
  have HAB := hide (ab_int n hn)
  have HDg := hide (fun W => digits17 V H.v1 H.v2 W)
  have HAl := hide H.la
  have HLB := hide H.lb
  have HMx := hide H.mx
  have HH := hide H
  clear H hn
  go_enter Tryd.func6, Tryd.ntmps6
  go_wp2_with fail
  refine (alive17 _).mono ?_
  rintro _ w1 ⟨rfl, hB1⟩
  have HB1 := hide hB1
  clear hB1
  go_upto_region 4 with fail
  rw [show wrap64 (1 + (wrap64 (width.tmod 60 + 60)).tmod 60) = (V : Int) from HH.out.hV]
  have hLB1 := HH.out.lb1
  have hLB2 := HH.out.lb2
  have hK60 := HH.out.k2
  have hVa := HH.out.v1
  have hVb := HH.out.v2
  go_wp2_with fail
  refine (HDg.out _).mono ?_
  rintro _ w2 ⟨⟨s, rfl, hs⟩, hB2⟩
  have HS := hide hs
  have HB2 := hide (HB1.out.trans (hB2.mono HB1.out.size))
  have hsz : s.size ≤ 2 := by
    have e1 : s.size = s.data.toList.length := by rw [Array.length_toList]; rfl
    rw [e1, hs]
    exact dgt_len V
  clear hs hB2
  go_wp2_with fail
  refine (HI.out _).mono ?_
  rintro _ w3 ⟨rfl, hB3⟩
  have HB3 := hide (HB2.out.trans (hB3.mono HB2.out.size))
  clear hB3
  go_wp2_with fail
  have hA := ags_lit w3 [⟨1, n, 0, ⟨#[]⟩⟩] #[.int .i64 1, .int .i64 n, .int .u64 0, .string ⟨#[]⟩] 37 (0, 0) 1 rfl rfl (fun x hx => by rw [List.mem_singleton.1 hx]; exact HAB.out)
  have HB4 := hide (HB3.out.trans ((fm_below w3 (.cells #[.int .i64 1, .int .i64 n, .int .u64 0, .string ⟨#[]⟩] 37)).mono HB3.out.size))
  generalize w3.alloc (.cells #[.int .i64 1, .int .i64 n, .int .u64 0, .string ⟨#[]⟩] 37) = w4 at *
  refine (HFc.out _ (by simp [HS.out, patW, flW]) _ _ hA).mono ?_
  rintro _ w5 ⟨v1, rfl, hO1, hB5⟩
  have HO1 := hide hO1
  have HB5 := hide (HB4.out.trans (hB5.mono HB4.out.size))
  clear hA hO1 hB5 hsz
  go_wp2_with fail
  refine (HI.out _).mono ?_
  rintro _ w6 ⟨rfl, hB6⟩
  have HO1' := hide (owns_below HO1.out hB6)
  have HB6 := hide (HB5.out.trans (hB6.mono HB5.out.size))
  clear hB6
  go_wp2_with fail
  have hA := ags_lit w6 [⟨1, n, 0, ⟨#[]⟩⟩] #[.int .i64 1, .int .i64 n, .int .u64 0, .string ⟨#[]⟩] 37 (0, 0) 1 rfl rfl (fun x hx => by rw [List.mem_singleton.1 hx]; exact HAB.out)
  have hB7 := fm_below w6 (.cells #[.int .i64 1, .int .i64 n, .int .u64 0, .string ⟨#[]⟩] 37)
  have HO1 := hide (owns_below HO1'.out hB7)
  have HB7 := hide (HB6.out.trans (hB7.mono HB6.out.size))
  generalize w6.alloc (.cells #[.int .i64 1, .int .i64 n, .int .u64 0, .string ⟨#[]⟩] 37) = w7 at *
  refine (HGc.out _ (by simp [barW]) _ _ hA).mono ?_
  rintro _ w8 ⟨v2, rfl, hO2, hB8⟩
  have hO1 := owns_below HO1.out hB8
  have HB8 := hide (HB7.out.trans (hB8.mono HB7.out.size))
  obtain ⟨g1, c1, rfl, hc1⟩ := owns_some hO1 (by rw [HAl.out]; omega)
  obtain ⟨g2, c2, rfl, hc2⟩ := owns_some hO2 (by rw [HLB.out]; omega)
  have HY1 := hide (Bys.of_owns hO1)
  have HY2 := hide (Bys.of_owns hO2)
  rw [HAl.out] at HY1 hc1
  rw [HLB.out] at HY2 hc2
  rw [HAl.out, HLB.out]
  clear hO1 hO2 hA hB7 hB8 HO1 HO1' HI HFc HGc HDg
  have hmx := HMx.out
  go_upto_region 16 with (first | (go_at_call 13; refine (num17 _ _).mono ?_; rintro _ _ ⟨rfl, rfl⟩) | fail)
  clear hmx
  go_upto_region 18 with fail
  have HA : Hid (A.take LB = B ∧ A.drop LB = bla K) := by
    have e2 : (X ++ D).length = LB := by rw [HH.out.b]; exact HLB.out
    have e3 : (X ++ D) ++ bla K = A := HH.out.a
    rw [← e3, ← HH.out.b]
    exact ⟨List.take_left' e2, List.drop_left' e2⟩
  have HQ : Hid (∀ W, (Bys W (.slice (some ⟨g1, 0, none⟩) (LB + K) c1) A ∧ Bys W (.slice (some ⟨g2, 0, none⟩) LB c2) B) → (convert 24 9 (.slice (some ⟨g1, 0, none⟩) LB c1)).run Tryd.prog W = .ok (.string ⟨B.toArray⟩) W ∧ (convert 24 9 (.slice (some ⟨g2, 0, none⟩) LB c2)).run Tryd.prog W = .ok (.string ⟨B.toArray⟩) W) := by
    intro W hS
    refine ⟨?_, bys_string hS.2⟩
    have q := bys_head hS.1 LB c1 (by rw [HAl.out]; omega)
    rw [HA.out.1] at q
    exact bys_string q
  have HC : Hid (∀ W, (Bys W (.slice (some ⟨g1, 0, none⟩) (LB + K) c1) A ∧ Bys W (.slice (some ⟨g2, 0, none⟩) LB c2) B) → Calls Tryd.prog 21 #[.slice (if c1 = LB then some ⟨g1, 0, none⟩ else some ⟨g1, LB, none⟩) K (c1 - LB), .int .u8 32] W fun e w' => e = .returned (.bool true) ∧ w' = W) := by
    intro W hS
    have q := bys_tail hS.1 LB K (c1 - LB) (by rw [HAl.out]) (by rw [HAl.out]; exact hc1)
    rw [HA.out.2] at q
    exact all_rep _ 32 K W q HH.out.k2
  have hLc : LB ≤ c1 := by omega
  have hLs : (LB : Int) ≤ (LB : Int) + (K : Int) := by omega
  refine wp_region_noPanic ?_
  refine wp_region_held_drew (S := fun W => Bys W (.slice (some ⟨g1, 0, none⟩) (LB + K) c1) A ∧ Bys W (.slice (some ⟨g2, 0, none⟩) LB c2) B) (by kernel_rfl) (⟨HY1.out.below (Below.refl _ _).drew, HY2.out.below (Below.refl _ _).drew⟩) (fun hHeld => ?_)
  refine wpAnyH_take (i := 0) (oi := ?_) (v := ?_) ?_ (by kernel_rfl) (by kernel_rfl) (by kernel_rfl) (fun _ _ _ h => (h : False).elim) (Or.inl ⟨?_, ?_⟩) hHeld ?_
  rotate_left 2
  · (simp only [List.getElem?_toArray, List.getElem?_cons_zero]; rfl)
  · rfl
  · (intro W hSw; obtain ⟨q1, q2⟩ := HQ.out W hSw; go_simp <;> with_reducible rfl)
  try simp only [Act.put, List.setIfInBounds_toArray, List.set_cons_zero, List.set_cons_succ]
  refine wpAnyH_take (i := 1) (oi := ?_) (v := ?_) ?_ (by kernel_rfl) (by kernel_rfl) (by kernel_rfl) (fun _ _ _ h => (h : False).elim) (Or.inl ⟨?_, ?_⟩) hHeld ?_
  rotate_left 2
  · (simp only [List.getElem?_toArray, List.getElem?_cons_zero, List.getElem?_cons_succ]; rfl)
  · rfl
  · (intro W hSw; obtain ⟨q1, q2⟩ := HQ.out W hSw; go_simp <;> with_reducible rfl)
  try simp only [Act.put, List.setIfInBounds_toArray, List.set_cons_zero, List.set_cons_succ]
  refine wpAnyH_take (i := 2) (oi := ?_) (v := ?_) ?_ (by kernel_rfl) (by kernel_rfl) (by kernel_rfl) (fun _ _ _ h => (h : False).elim) (Or.inl ⟨?_, ?_⟩) hHeld ?_
  rotate_left 2
  · (simp only [List.getElem?_toArray, List.getElem?_cons_zero, List.getElem?_cons_succ]; rfl)
  · rfl
  · (intro W hSw; obtain ⟨q1, q2⟩ := HQ.out W hSw; go_simp <;> with_reducible rfl)
  try simp only [Act.put, List.setIfInBounds_toArray, List.set_cons_zero, List.set_cons_succ]
  refine wpAnyH_take (i := 3) (oi := ?_) (v := ?_) ?_ (by kernel_rfl) (by kernel_rfl) (by kernel_rfl) (fun _ _ _ h => (h : False).elim) (Or.inl ⟨?_, ?_⟩) hHeld ?_
  rotate_left 2
  · (simp only [List.getElem?_toArray, List.getElem?_cons_zero, List.getElem?_cons_succ]; rfl)
  · rfl
  · (intro W hSw; obtain ⟨q1, q2⟩ := HQ.out W hSw; go_simp <;> with_reducible rfl)
  try simp only [Act.put, List.setIfInBounds_toArray, List.set_cons_zero, List.set_cons_succ]
  refine wpAnyH_take (i := 4) (oi := ?_) (v := ?_) ?_ (by kernel_rfl) (by kernel_rfl) (by kernel_rfl) (fun _ _ _ h => (h : False).elim) (Or.inl ⟨?_, ?_⟩) hHeld ?_
  rotate_left 2
  · (simp only [List.getElem?_toArray, List.getElem?_cons_zero, List.getElem?_cons_succ]; rfl)
  · rfl
  · (intro W hSw; obtain ⟨q1, q2⟩ := HQ.out W hSw; go_simp <;> with_reducible rfl)
  try simp only [Act.put, List.setIfInBounds_toArray, List.set_cons_zero, List.set_cons_succ]
  refine wpAnyH_take (i := 5) (oi := ?_) (v := ?_) ?_ (by kernel_rfl) (by kernel_rfl) (by kernel_rfl) (fun _ _ _ h => (h : False).elim) (Or.inl ⟨?_, ?_⟩) hHeld ?_
  rotate_left 2
  · (simp only [List.getElem?_toArray, List.getElem?_cons_zero, List.getElem?_cons_succ]; rfl)
  · rfl
  · (intro W hSw; obtain ⟨q1, q2⟩ := HQ.out W hSw; go_simp <;> with_reducible rfl)
  try simp only [Act.put, List.setIfInBounds_toArray, List.set_cons_zero, List.set_cons_succ]
  refine wpAnyH_take (i := 6) (oi := ?_) (v := ?_) ?_ (by kernel_rfl) (by kernel_rfl) (by kernel_rfl) (fun _ _ _ h => (h : False).elim) (Or.inl ⟨?_, ?_⟩) hHeld ?_
  rotate_left 2
  · (simp only [List.getElem?_toArray, List.getElem?_cons_zero, List.getElem?_cons_succ]; rfl)
  · rfl
  · (intro W hSw; obtain ⟨q1, q2⟩ := HQ.out W hSw; go_simp <;> with_reducible rfl)
  try simp only [Act.put, List.setIfInBounds_toArray, List.set_cons_zero, List.set_cons_succ]
  refine wpAnyH_take (i := 7) (oi := ?_) (v := ?_) ?_ (by kernel_rfl) (by kernel_rfl) (by kernel_rfl) (fun _ _ _ h => (h : False).elim) (Or.inl ⟨?_, ?_⟩) hHeld ?_
  rotate_left 2
  · (simp only [List.getElem?_toArray, List.getElem?_cons_zero, List.getElem?_cons_succ]; rfl)
  · rfl
  · (intro W hSw; obtain ⟨q1, q2⟩ := HQ.out W hSw; go_simp <;> with_reducible rfl)
  try simp only [Act.put, List.setIfInBounds_toArray, List.set_cons_zero, List.set_cons_succ]
  refine wpAnyH_take (i := 8) (oi := ?_) (v := ?_) ?_ (by kernel_rfl) (by kernel_rfl) (by kernel_rfl) (fun _ _ _ h => (h : False).elim) (Or.inl ⟨?_, ?_⟩) hHeld ?_
  rotate_left 2
  · (simp only [List.getElem?_toArray, List.getElem?_cons_zero, List.getElem?_cons_succ]; rfl)
  · rfl
  · (intro W hSw; obtain ⟨q1, q2⟩ := HQ.out W hSw; go_simp <;> with_reducible rfl)
  try simp only [Act.put, List.setIfInBounds_toArray, List.set_cons_zero, List.set_cons_succ]
  refine wpAnyH_take (i := 9) (oi := ?_) (v := ?_) ?_ (by kernel_rfl) (by kernel_rfl) (by kernel_rfl) (fun _ _ _ h => (h : False).elim) (Or.inl ⟨?_, ?_⟩) hHeld ?_
  rotate_left 2
  · (simp only [List.getElem?_toArray, List.getElem?_cons_zero, List.getElem?_cons_succ]; rfl)
  · rfl
  · (intro W hSw; obtain ⟨q1, q2⟩ := HQ.out W hSw; go_simp <;> with_reducible rfl)
  try simp only [Act.put, List.setIfInBounds_toArray, List.set_cons_zero, List.set_cons_succ]
  refine wpAnyH_take (i := 10) (oi := ?_) (v := ?_) ?_ (by kernel_rfl) (by kernel_rfl) (by kernel_rfl) (fun _ _ _ h => (h : False).elim) (Or.inl ⟨?_, ?_⟩) hHeld ?_
  rotate_left 2
  · (simp only [List.getElem?_toArray, List.getElem?_cons_zero, List.getElem?_cons_succ]; rfl)
  · rfl
  · (intro W hSw; obtain ⟨q1, q2⟩ := HQ.out W hSw; go_simp <;> with_reducible rfl)
  try simp only [Act.put, List.setIfInBounds_toArray, List.set_cons_zero, List.set_cons_succ]
  refine wpAnyH_take (i := 11) (oi := ?_) (v := ?_) ?_ (by kernel_rfl) (by kernel_rfl) (by kernel_rfl) (fun _ _ _ h => (h : False).elim) (Or.inl ⟨?_, ?_⟩) hHeld ?_
  rotate_left 2
  · (simp only [List.getElem?_toArray, List.getElem?_cons_zero, List.getElem?_cons_succ]; rfl)
  · rfl
  · (intro W hSw; obtain ⟨q1, q2⟩ := HQ.out W hSw; go_simp <;> with_reducible rfl)
  try simp only [Act.put, List.setIfInBounds_toArray, List.set_cons_zero, List.set_cons_succ]
  refine wpAnyH_take (i := 12) (oi := ?_) (v := ?_) ?_ (by kernel_rfl) (by kernel_rfl) (by kernel_rfl) (fun _ _ _ h => (h : False).elim) (Or.inl ⟨?_, ?_⟩) hHeld ?_
  rotate_left 2
  · (simp only [List.getElem?_toArray, List.getElem?_cons_zero, List.getElem?_cons_succ]; rfl)
  · rfl
  · (intro W hSw; obtain ⟨q1, q2⟩ := HQ.out W hSw; go_simp <;> with_reducible rfl)
  try simp only [Act.put, List.setIfInBounds_toArray, List.set_cons_zero, List.set_cons_succ]
  refine wpAnyH_ready (rs := [13]) (by kernel_rfl) (by simp) ?_
  refine AllReadyH.cons (o := ?_) ?_ (fun K' hK => ?_) AllReadyH.nil
  rotate_left 1
  · (simp only [List.getElem?_toArray, List.getElem?_cons_zero, List.getElem?_cons_succ]; rfl)
  go_simp
  refine (HC.out _ hHeld).mono ?_; rintro _ _ ⟨rfl, rfl⟩
  refine hK.out _ _ (hHeld) (fun hHeld2 => ?_)
  clear hK K' hHeld
  have hHeld := hHeld2
  clear hHeld2
  try simp only [Act.put, List.setIfInBounds_toArray, List.set_cons_zero, List.set_cons_succ]
  refine wpAnyH_take (i := 14) (oi := ?_) (v := ?_) ?_ (by kernel_rfl) (by kernel_rfl) (by kernel_rfl) (fun _ _ _ h => (h : False).elim) (Or.inl ⟨?_, ?_⟩) hHeld ?_
  rotate_left 2
  · (simp only [List.getElem?_toArray, List.getElem?_cons_zero, List.getElem?_cons_succ]; rfl)
  · rfl
  · (intro W hSw; obtain ⟨q1, q2⟩ := HQ.out W hSw; go_simp <;> with_reducible rfl)
  try simp only [Act.put, List.setIfInBounds_toArray, List.set_cons_zero, List.set_cons_succ]
  refine wpAnyH_take (i := 15) (oi := ?_) (v := ?_) ?_ (by kernel_rfl) (by kernel_rfl) (by kernel_rfl) (fun _ _ _ h => (h : False).elim) (Or.inl ⟨?_, ?_⟩) hHeld ?_
  rotate_left 2
  · (simp only [List.getElem?_toArray, List.getElem?_cons_zero, List.getElem?_cons_succ]; rfl)
  · rfl
  · (intro W hSw; obtain ⟨q1, q2⟩ := HQ.out W hSw; go_simp <;> with_reducible rfl)
  try simp only [Act.put, List.setIfInBounds_toArray, List.set_cons_zero, List.set_cons_succ]
  refine wpAnyH_done (by kernel_rfl) ?_ _
  refine NoPanic.normal ?_
  go_wp2
  all_goals
    go_ret
    exact ⟨rfl, HB8.out.drew⟩
end Go.Proofs.YtpcchaciomeckaaDoor

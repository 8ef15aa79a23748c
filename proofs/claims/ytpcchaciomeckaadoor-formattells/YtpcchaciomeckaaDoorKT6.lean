/- What the proof stands on, part 6: the contracts of the program's calls that it reaches. -/
import Derived.Test.YtpcchaciomeckaaDoorKT5
/- Format by the page: read. -/
namespace Go.Proofs.YtpcchaciomeckaaDoor
open Go.RowKit

theorem rd_fill {W : World} {g : Nat} {d0 : RD_} (h : DB W g d0) (d : RD_) : DB ((((((((W.setCell ⟨g, 0, none⟩ (.bool d.m)).setCell ⟨g, 1, none⟩ (.bool d.p)).setCell ⟨g, 2, none⟩ (.bool d.z)).setCell ⟨g, 3, none⟩ (.bool d.b)).setCell ⟨g, 4, none⟩ (.int .i64 d.wd)).setCell ⟨g, 5, none⟩ (.int .i64 d.pr)).setCell ⟨g, 6, none⟩ (.int .u8 d.c)).setCell ⟨g, 7, none⟩ (.int .i64 d.en)) g d := by
  unfold DB RD_.cells at h
  have e0 := Go.heap_setCell_same _ g 0 _ _ (.bool d.m) h
  simp only [List.setIfInBounds_toArray, List.set_cons_zero] at e0
  have e1 := Go.heap_setCell_same _ g 1 _ _ (.bool d.p) e0
  simp only [List.setIfInBounds_toArray, List.set_cons_zero, List.set_cons_succ] at e1
  have e2 := Go.heap_setCell_same _ g 2 _ _ (.bool d.z) e1
  simp only [List.setIfInBounds_toArray, List.set_cons_zero, List.set_cons_succ] at e2
  have e3 := Go.heap_setCell_same _ g 3 _ _ (.bool d.b) e2
  simp only [List.setIfInBounds_toArray, List.set_cons_zero, List.set_cons_succ] at e3
  have e4 := Go.heap_setCell_same _ g 4 _ _ (.int .i64 d.wd) e3
  simp only [List.setIfInBounds_toArray, List.set_cons_zero, List.set_cons_succ] at e4
  have e5 := Go.heap_setCell_same _ g 5 _ _ (.int .i64 d.pr) e4
  simp only [List.setIfInBounds_toArray, List.set_cons_zero, List.set_cons_succ] at e5
  have e6 := Go.heap_setCell_same _ g 6 _ _ (.int .u8 d.c) e5
  simp only [List.setIfInBounds_toArray, List.set_cons_zero, List.set_cons_succ] at e6
  have e7 := Go.heap_setCell_same _ g 7 _ _ (.int .i64 d.en) e6
  simp only [List.setIfInBounds_toArray, List.set_cons_zero, List.set_cons_succ] at e7
  exact e7
theorem rd_below {w0 W : World} {n g : Nat} (h : Below n w0 W) (hg : n ≤ g) (d : RD_) : Below n w0 ((((((((W.setCell ⟨g, 0, none⟩ (.bool d.m)).setCell ⟨g, 1, none⟩ (.bool d.p)).setCell ⟨g, 2, none⟩ (.bool d.z)).setCell ⟨g, 3, none⟩ (.bool d.b)).setCell ⟨g, 4, none⟩ (.int .i64 d.wd)).setCell ⟨g, 5, none⟩ (.int .i64 d.pr)).setCell ⟨g, 6, none⟩ (.int .u8 d.c)).setCell ⟨g, 7, none⟩ (.int .i64 d.en)) :=
  ((((((((h.setCell (p := ⟨g, 0, none⟩) hg _).setCell (p := ⟨g, 1, none⟩) hg _).setCell (p := ⟨g, 2, none⟩) hg _).setCell (p := ⟨g, 3, none⟩) hg _).setCell (p := ⟨g, 4, none⟩) hg _).setCell (p := ⟨g, 5, none⟩) hg _).setCell (p := ⟨g, 6, none⟩) hg _).setCell (p := ⟨g, 7, none⟩) hg _)
theorem res_rd {fn : Func} {p u : Tmp} {w : World} (h : fn.results = #[.cell p 55, .tmp u]) (tmps : Array Value) (g : Nat) (hp : tmps.getD p undef = .pointer (some ⟨g, 0, none⟩)) {d : RD_} (hg : DB w g d) :
    (results fn tmps).run Tryd.prog w = .ok (.tuple #[.agg d.cells, tmps.getD u undef]) w := by
  have hp' : tmps[p]?.getD undef = .pointer (some ⟨g, 0, none⟩) := by simpa using hp
  unfold DB at hg
  simp [results, h, hp', asAddr, run_loadVar_row w g _ 55 _ _ _ hg Tryd.underlying55 rfl (by kernel_rfl)]
theorem fR_rest (d : RD_) (c : Int) : (fR d c).2.wd = d.wd ∧ (fR d c).2.pr = d.pr ∧ (fR d c).2.c = d.c ∧ (fR d c).2.en = d.en := by
  unfold fR
  split
  · exact ⟨rfl, rfl, rfl, rfl⟩
  · split
    · exact ⟨rfl, rfl, rfl, rfl⟩
    · split
      · exact ⟨rfl, rfl, rfl, rfl⟩
      · split
        · exact ⟨rfl, rfl, rfl, rfl⟩
        · exact ⟨rfl, rfl, rfl, rfl⟩
theorem DB.other {W : World} {g k j : Nat} {u : Value} {d : RD_} (h : DB W g d) (hne : g ≠ k) : DB (W.setCell ⟨k, j, none⟩ u) g d := by
  unfold DB at h ⊢
  rw [Go.heap_setCell_other _ _ _ _ hne]
  exact h
theorem DB.kept {W W' : World} {g n : Nat} {d : RD_} (h : DB W g d) (hB : Below n W W') (hg : g < n) : DB W' g d := (hB.block g hg).trans h
theorem flg_once : ∀ (l : List UInt8) (F : Int), (flg l F false).2.1 = false
  | [], _ => rfl
  | c :: l, F => by
    by_cases h : fOf c.toNat = 0
    · rw [flg_stop _ _ _ _ h]
    · rw [flg_go _ _ _ _ h, Bool.false_and]
      exact flg_once l _
theorem isPt_lt {s : ByteArray} {k : Nat} (h : isPt (s.data.toList.drop k) = true) : ∃ h2 : k < s.size, ((s[k].toNat : Int) == 46) = true := by
  by_cases h1 : k < s.size
  · exact ⟨h1, by rw [← isPt_at s k h1]; exact h⟩
  · rw [isPt_end s k (by omega)] at h
    cases h
def rdV (d : Dir) (en : Nat) : RD_ := ⟨d.has 1, d.has 2, d.has 4, d.has 8, d.wd, if d.pt = true then d.pr else -1, d.verb.toNat, en⟩
def RdPost (R : Option (Dir × Nat)) (a : Nat) (e : Ending) : Prop := ∃ d : RD_, e = .returned (.tuple #[.agg d.cells, .bool R.isSome]) ∧ ∀ x n, R = some (x, n) → d = rdV x (a + n)
theorem bits_has (d : RD_) (wd pr : Nat) (pt : Bool) (v : UInt8) : Dir.has ⟨bitsOf d, wd, pt, pr, v⟩ 1 = d.m ∧ Dir.has ⟨bitsOf d, wd, pt, pr, v⟩ 2 = d.p ∧ Dir.has ⟨bitsOf d, wd, pt, pr, v⟩ 4 = d.z ∧ Dir.has ⟨bitsOf d, wd, pt, pr, v⟩ 8 = d.b := by
  obtain ⟨m, p, z, b, w1, p1, c1, e1⟩ := d
  cases m <;> cases p <;> cases z <;> cases b <;> exact ⟨by kernel_rfl, by kernel_rfl, by kernel_rfl, by kernel_rfl⟩
theorem rd_is (m p z b : Bool) (N1 : Nat) (pt : Bool) (N2 : Nat) (v : UInt8) (X a : Nat) (h : a ≤ X) : rdV ⟨bitsOf ⟨m, p, z, b, 0, -1, 0, 0⟩, N1, pt, N2, v⟩ (a + (X - a)) = ⟨m, p, z, b, (N1 : Int), if pt = true then (N2 : Int) else -1, (v.toNat : Int), (X : Int)⟩ := by
  obtain ⟨q1, q2, q3, q4⟩ := bits_has ⟨m, p, z, b, 0, -1, 0, 0⟩ N1 N2 pt v
  unfold rdV
  rw [q1, q2, q3, q4, Nat.add_sub_cancel' h]
set_option maxRecDepth 100000 in
set_option maxHeartbeats 8000000 in
theorem rread (s : ByteArray) (a : Nat) (w : World) (hs : s.size ≤ 65536) (ha : a < s.size) (h37 : s[a].toNat = 37) :
    Calls Tryd.prog 25 #[.string s, .int .i64 (a : Int)] w fun e w' => RdPost (pdir (s.data.toList.drop a)) a e ∧ Below w.heap.size w w' := by
  have hsz : s.data.toList.length = s.size := by rw [Array.length_toList]; rfl
  have hl := drop_at s a ha
  rw [show s[a] = 37 from UInt8.toNat_inj.1 h37] at hl
  have HZ := hide (show DB (w.alloc (.cells #[.bool false, .bool false, .bool false, .bool false, .int .i64 0, .int .i64 0, .int .u8 0, .int .i64 0] 55)) w.heap.size ⟨false, false, false, false, 0, 0, 0, 0⟩ from heap_alloc_new w _)
  have HZ0 := hide (HZ.out.below (fm_below _ (.cells #[.bool false, .bool false, .bool false, .bool false, .int .i64 0, .int .i64 (-1), .int .u8 0, .int .i64 0] 55)))
  have hD0 : DB ((w.alloc (.cells #[.bool false, .bool false, .bool false, .bool false, .int .i64 0, .int .i64 0, .int .u8 0, .int .i64 0] 55)).alloc (.cells #[.bool false, .bool false, .bool false, .bool false, .int .i64 0, .int .i64 (-1), .int .u8 0, .int .i64 0] 55)) (w.alloc (.cells #[.bool false, .bool false, .bool false, .bool false, .int .i64 0, .int .i64 0, .int .u8 0, .int .i64 0] 55)).heap.size ⟨false, false, false, false, 0, -1, 0, 0⟩ := heap_alloc_new _ _
  rw [size_push1] at hD0
  have HD0 := hide hD0
  have HB0 := hide (recv2 w (.cells #[.bool false, .bool false, .bool false, .bool false, .int .i64 0, .int .i64 0, .int .u8 0, .int .i64 0] 55) (.cells #[.bool false, .bool false, .bool false, .bool false, .int .i64 0, .int .i64 (-1), .int .u8 0, .int .i64 0] 55))
  obtain ⟨R, hR⟩ : ∃ R, pdir (s.data.toList.drop a) = R := ⟨_, rfl⟩
  have HR := hide hR
  rw [hR]
  clear hD0 hR
  by_cases hpp : ∃ h : a + 1 < s.size, s[a + 1].toNat = 37
  · obtain ⟨hp1, hp2⟩ := hpp
    have hp3 : (a : Int) + 1 < (s.size : Int) := by omega
    have hp4 : ((s[a + 1].toNat : Int) == 37) = true := by rw [hp2]; rfl
    have HR2 : Hid (R = some (⟨0, 0, false, 0, 37⟩, 2)) := by
      have q := HR.out
      rw [hl, drop_at s (a + 1) hp1, show s[a + 1] = 37 from UInt8.toNat_inj.1 hp2, pdir_pp] at q
      exact q.symm
    clear hp2 hl hsz
    go_enter Tryd.func25, Tryd.ntmps25
    go_wp2
    refine bodyPost_ret (res_rd rfl _ w.heap.size rfl (d := ⟨false, false, false, false, 0, -1, 37, (a : Int) + 1 + 1⟩) (DB.below (show DB (w.alloc _) w.heap.size ⟨false, false, false, false, 0, -1, 37, (a : Int) + 1 + 1⟩ from heap_alloc_new w _) (fm_below _ _))) rfl ?_
    refine ⟨⟨_, by rw [HR2.out]; rfl, fun x n e => ?_⟩, recv2 _ _ _⟩
    rw [HR2.out] at e
    cases e
    rfl
  · have hpn : ¬ ∃ r, s.data.toList.drop (a + 1) = 37 :: r := by
      rintro ⟨r, hr⟩
      by_cases h1 : a + 1 < s.size
      · rw [drop_at s (a + 1) h1] at hr
        exact hpp ⟨h1, by rw [(List.cons.inj hr).1]; rfl⟩
      · rw [drop_end s (a + 1) (by omega)] at hr
        cases hr
    obtain ⟨⟨F, o, K⟩, hQ⟩ : ∃ q, flg ((s.data.toList.drop a).drop 1) 0 true = q := ⟨_, rfl⟩
    have HQ := hide hQ
    have HFQ : Hid ((flg (s.data.toList.drop (a + 1)) (bitsOf ⟨false, false, false, false, 0, -1, 0, 0⟩) true).1 = F ∧ (flg (s.data.toList.drop (a + 1)) (bitsOf ⟨false, false, false, false, 0, -1, 0, 0⟩) true).2.1 = o ∧ (flg (s.data.toList.drop (a + 1)) (bitsOf ⟨false, false, false, false, 0, -1, 0, 0⟩) true).2.2 + (a + 1) = K + (a + 1)) := by
      rw [show bitsOf ⟨false, false, false, false, 0, -1, 0, 0⟩ = 0 from rfl]
      rw [List.drop_drop] at hQ
      rw [hQ]
      exact ⟨rfl, rfl, rfl⟩
    have HPN := hide hpn
    have HSZ := hide hsz
    have HL := hide hl
    clear hQ hpn hsz hl
    have hways : (a + 1 < s.size ∧ ∃ h : a + 1 < s.size, ((s[a + 1].toNat : Int) == 37) = false) ∨ a + 1 = s.size := by
      by_cases h1 : a + 1 < s.size
      · refine .inl ⟨h1, h1, ?_⟩
        simp only [beq_eq_false_iff_ne, ne_eq]
        intro e
        exact hpp ⟨h1, by omega⟩
      · exact .inr (by omega)
    clear hpp h37
    rcases hways with ⟨hw1, hw2, hw3⟩ | hw1
    · have hw4 : (a : Int) + 1 < (s.size : Int) := by omega
      go_enter Tryd.func25, Tryd.ntmps25
      go_wp2
      generalize (w.alloc (.cells #[.bool false, .bool false, .bool false, .bool false, .int .i64 0, .int .i64 0, .int .u8 0, .int .i64 0] 55)).alloc (.cells #[.bool false, .bool false, .bool false, .bool false, .int .i64 0, .int .i64 (-1), .int .u8 0, .int .i64 0] 55) = w0 at *
      go_loopw [7] (fun i wr => ∃ (k : Nat) (rd : RD_), a + 1 ≤ k ∧ k ≤ s.size ∧ i = .int .i64 k ∧ Hid (DB wr (w.heap.size + 1) rd ∧ rd.wd = 0 ∧ rd.pr = -1 ∧ rd.c = 0 ∧ rd.en = 0) ∧ Hid (DB wr w.heap.size ⟨false, false, false, false, 0, 0, 0, 0⟩) ∧ Hid (Below w.heap.size w wr) ∧ Hid ((flg (s.data.toList.drop k) (bitsOf rd) true).1 = F ∧ (flg (s.data.toList.drop k) (bitsOf rd) true).2.1 = o ∧ (flg (s.data.toList.drop k) (bitsOf rd) true).2.2 + k = K + (a + 1))) (fun i _ => s.size - (intOf i).toNat)
      case atStart => exact ⟨a + 1, _, Nat.le_refl _, by omega, by go_num, ⟨HD0.out, rfl, rfl, rfl, rfl⟩, HZ0, HB0, HFQ⟩
      case round =>
        obtain ⟨k, rd, hak, hk, rfl, HD, HZr, HBr, HFk⟩ := hrel
        clear HFQ HZ HZ0 HD0 HB0
        by_cases hlt : k < s.size
        · have hlt' : (k : Int) < (s.size : Int) := by omega
          have hfk := HFk.out
          rw [drop_at s k hlt] at hfk
          have HFl := hide (rflag rd (s[k].toNat : Int) (w.heap.size + 1) wr HD.out.1)
          have hnew := @fR_new rd (s[k].toNat : Int)
          have hold := @fR_old rd (s[k].toNat : Int)
          have hrest := fR_rest rd (s[k].toNat : Int)
          obtain ⟨⟨y, rd'⟩, hy⟩ : ∃ y, fR rd (s[k].toNat : Int) = y := ⟨_, rfl⟩
          rw [hy] at HFl hnew hold hrest
          simp only at hnew hold hrest
          clear hy
          cases y with
          | true =>
            obtain ⟨n1, n2, n3⟩ := hnew rfl
            rw [flg_go _ _ _ _ n1, n2, n3, show (true && ((0 : Int) == 0)) = true from rfl] at hfk
            have HFk2 : Hid ((flg (s.data.toList.drop (k + 1)) (bitsOf rd') true).1 = F ∧ (flg (s.data.toList.drop (k + 1)) (bitsOf rd') true).2.1 = o ∧ (flg (s.data.toList.drop (k + 1)) (bitsOf rd') true).2.2 + (k + 1) = K + (a + 1)) := ⟨hfk.1, hfk.2.1, by have := hfk.2.2; simp only at this; show (flg (s.data.toList.drop (k + 1)) (bitsOf rd') true).2.2 + (k + 1) = _; rw [← this]; omega⟩
            have HRe := hide (show rd'.wd = 0 ∧ rd'.pr = -1 ∧ rd'.c = 0 ∧ rd'.en = 0 by rw [hrest.1, hrest.2.1, hrest.2.2.1, hrest.2.2.2]; exact HD.out.2)
            clear hnew hold hrest hfk n1 n2 n3
            go_wp2_with (first | (go_at_call 32; refine HFl.out.mono ?_; rintro _ w3 ⟨rfl, hD3, hB3⟩) | fail)
            have HD3 := hide hD3
            have HB3 := hide hB3
            clear hD3 hB3
            exact ⟨⟨k + 1, rd', by omega, by omega, by go_num, ⟨HD3.out, HRe.out⟩, HZr.out.kept HB3.out (Nat.lt_succ_self _), HBr.out.trans (HB3.out.mono (Nat.le_succ _)), HFk2⟩, by simp [intOf]; omega⟩
          | false =>
            obtain ⟨he, hfo⟩ := hold rfl
            have HRV : Hid (R = (rv s.data.toList k).map fun x => (⟨bitsOf rd, x.1, x.2.1.isSome, x.2.1.getD 0, x.2.2.1⟩, x.2.2.2 - a)) := by
              show _ = _
              have hdk := drop_at s k hlt
              rcases hfo with h0 | ⟨h0, h1⟩
              · rw [flg_stop _ _ _ _ h0] at hfk
                obtain ⟨q1, q2, q3⟩ := hfk
                simp only at q1 q2 q3
                have hak2 : a + 1 + K = k := by omega
                have q := @rv_pdir s.data.toList a K F (by rw [HQ.out, ← q2]) (by
                  rw [hak2, hdk]
                  intro e
                  have e2 : s[k] = 48 := Option.some.inj e
                  rw [e2] at h0
                  exact absurd h0 (by decide)) HPN.out
                rw [hak2, HR.out, ← q1] at q
                exact q
              · rw [flg_go _ _ _ _ h0, h1, Bool.and_false] at hfk
                have ho : o = false := by rw [← hfk.2.1]; exact flg_once _ _
                rw [rv_twice hdk h0, ← HR.out]
                obtain ⟨B, hB⟩ : ∃ B, numAt ((s.data.toList.drop a).drop (1 + K)) = B := ⟨_, rfl⟩
                obtain ⟨B1, B2, B3⟩ := B
                rw [pdir_eq HQ.out hB, if_pos (Or.inl ho)]
                rfl
            have he2 := he.symm
            subst he2
            clear hnew hrest hfo hfk
            go_upto_region 8 with (first | (go_at_call 32; refine HFl.out.mono ?_; rintro _ w5 ⟨rfl, hD5, hB5⟩) | fail)
            have HZ5 := hide (HZr.out.kept hB5 (Nat.lt_succ_self _))
            have HB5 := hide (HBr.out.trans (hB5.mono (Nat.le_succ _)))
            have HD5 := hide (And.intro hD5 HD.out.2)
            have hkl : k < s.size ∨ k = s.size := .inl hlt
            clear hD5 hB5 HZr HBr HD HFl HFk
            obtain ⟨m, p, z, b, wd, pr, c, en⟩ := rd
            obtain ⟨hD5, e1, e2, e3, e4⟩ := HD5.out
            simp only at e1 e2 e3 e4
            subst e1 e2 e3 e4
            clear HD5
            obtain ⟨N1, hN1⟩ : ∃ N, n4 (s.data.toList.drop k) = N := ⟨_, rfl⟩
            obtain ⟨K1, hK1⟩ : ∃ N, k4 (s.data.toList.drop k) = N := ⟨_, rfl⟩
            have hNm := fun W => rnumber s k W hs hk
            rw [hN1, hK1] at hNm
            have HNm := hide hNm
            have hK4 : k + K1 ≤ s.size ∧ (0 < K1 → k < s.size) := by
              have q1 := run10_len (s.data.toList.drop k)
              rw [drop_len, HSZ.out] at q1
              unfold k4 at hK1
              omega
            have HN1 := hide hN1
            have HK1 := hide hK1
            clear hNm hN1 hK1
            obtain ⟨hkK, hKl⟩ := hK4
            by_cases hT : 0 < K1 ∧ (s.data.toList.drop k).head? = some 48
            · have hlt2 := hKl hT.1
              have hc48 : ((s[k].toNat : Int) == 48) = true := by
                have q := hT.2
                rw [drop_at s k hlt2] at q
                rw [show s[k] = 48 from Option.some.inj q]
                rfl
              have hK0 : (0 : Int) < (K1 : Int) := by omega
              have hki : (k : Int) < (s.size : Int) := by omega
              have HRn : Hid (R = none) := by
                show _ = _
                rw [HRV.out]
                unfold rv
                rw [HK1.out, if_pos hT]
                rfl
              obtain ⟨c0, c1, c2, c3, c4, c5, c6, c7⟩ := hD5.cs
              obtain ⟨z0, z1, z2, z3, z4, z5, z6, z7⟩ := HZ5.out.cs
              have y0 := HZ5.out.fr 0
              have y1 := HZ5.out.fr 1
              have y2 := HZ5.out.fr 2
              have y3 := HZ5.out.fr 3
              have y4 := HZ5.out.fr 4
              have y5 := HZ5.out.fr 5
              have y6 := HZ5.out.fr 6
              have y7 := HZ5.out.fr 7
              simp only at c0 c1 c2 c3 c4 c5 c6 c7 z0 z1 z2 z3 z4 z5 z6 z7
              clear hT
              go_wp2_with (first | (go_at_call 33; refine (HNm.out _).mono ?_; rintro _ _ ⟨rfl, rfl⟩) | fail)
              refine bodyPost_ret (res_rd rfl _ w.heap.size rfl (rd_fill HZ5.out ⟨m, p, z, b, 0, -1, 0, 0⟩)) rfl ?_
              exact ⟨⟨⟨m, p, z, b, 0, -1, 0, 0⟩, by rw [HRn.out]; rfl, fun x n e => by rw [HRn.out] at e; cases e⟩, rd_below HB5.out (Nat.le_refl _) ⟨m, p, z, b, 0, -1, 0, 0⟩⟩
            · have hreg : (¬ (0 : Int) < (K1 : Int)) ∨ ((0 : Int) < (K1 : Int) ∧ ∃ h : k < s.size, ((s[k].toNat : Int) == 48) = false) := by
                by_cases h0 : 0 < K1
                · refine .inr ⟨by omega, hKl h0, ?_⟩
                  have hlt2 := hKl h0
                  rw [drop_at s k hlt2] at hT
                  simp only [beq_eq_false_iff_ne, ne_eq]
                  intro e
                  exact hT ⟨h0, by rw [show s[k] = 48 from of_int e]; rfl⟩
                · exact .inl (by omega)
              have HT := hide hT
              clear hT
              have HD6 := hide (hD5.set 4 (.int .i64 (N1 : Int)) ⟨m, p, z, b, (N1 : Int), -1, 0, 0⟩ rfl)
              have HZ6 := hide (HZ5.out.other (j := 4) (u := .int .i64 (N1 : Int)) (show w.heap.size ≠ w.heap.size + 1 by omega))
              have HB6 := hide (HB5.out.setCell (p := ⟨w.heap.size + 1, 4, none⟩) (Nat.le_succ _) (.int .i64 (N1 : Int)))
              obtain ⟨c0, c1, c2, c3, c4, c5, c6, c7⟩ := hD5.cs
              have f4 := hD5.fr 4
              simp only at c0 c1 c2 c3 c4 c5 c6 c7
              rcases hreg with hK0 | ⟨hK0, hlt2, hc48⟩
              case' inr => have hki : (k : Int) < (s.size : Int) := by omega
              all_goals
                go_upto_region 12 with (first | (go_at_call 33; refine (HNm.out _).mono ?_; rintro _ _ ⟨rfl, rfl⟩) | fail)
                clear c0 c1 c2 c3 c4 c5 c6 c7 f4
                generalize w5.setCell ⟨w.heap.size + 1, 4, none⟩ (.int .i64 (N1 : Int)) = w6 at *
                have hPc : (s.data.toList.drop (k + K1)) = s.data.toList.drop (k + K1) := rfl
                by_cases h46 : isPt (s.data.toList.drop (k + K1)) = true
                · obtain ⟨hI, hI46⟩ := isPt_lt h46
                  have hIi : (k : Int) + (K1 : Int) < (s.size : Int) := by omega
                  obtain ⟨N2, hN2⟩ : ∃ N, n4 (s.data.toList.drop (k + K1 + 1)) = N := ⟨_, rfl⟩
                  obtain ⟨K2, hK2⟩ : ∃ N, k4 (s.data.toList.drop (k + K1 + 1)) = N := ⟨_, rfl⟩
                  have hNn : ∀ W, Calls Tryd.prog 33 #[.string s, .int .i64 ((k : Int) + (K1 : Int) + 1)] W fun e w' => e = .returned (.tuple #[.int .i64 (N2 : Int), .int .i64 (K2 : Int)]) ∧ W = w' := by
                    intro W
                    have q := rnumber s (k + K1 + 1) W hs (by omega)
                    rw [hN2, hK2] at q
                    exact q
                  have HNm := hide hNn
                  have hkE : k + K1 + 1 + K2 ≤ s.size := by
                    have q1 := run10_len (s.data.toList.drop (k + K1 + 1))
                    rw [drop_len, HSZ.out] at q1
                    unfold k4 at hK2
                    omega
                  have HN2 := hide hN2
                  have HK2 := hide hK2
                  have HP := hide h46
                  clear hNn hN2 hK2 h46 hPc
                  have HD7 := hide (HD6.out.set 5 (.int .i64 (N2 : Int)) ⟨m, p, z, b, (N1 : Int), (N2 : Int), 0, 0⟩ rfl)
                  have HZ7 := hide (HZ6.out.other (j := 5) (u := .int .i64 (N2 : Int)) (show w.heap.size ≠ w.heap.size + 1 by omega))
                  have HB7 := hide (HB6.out.setCell (p := ⟨w.heap.size + 1, 5, none⟩) (Nat.le_succ _) (.int .i64 (N2 : Int)))
                  obtain ⟨c0, c1, c2, c3, c4, c5, c6, c7⟩ := HD6.out.cs
                  have f5 := HD6.out.fr 5
                  simp only at c0 c1 c2 c3 c4 c5 c6 c7
                  go_upto_region 17 with (first | (go_at_call 33; refine (HNm.out _).mono ?_; rintro _ _ ⟨rfl, rfl⟩) | fail)
                  clear c0 c1 c2 c3 c4 c5 c6 c7 f5
                  generalize w6.setCell ⟨w.heap.size + 1, 5, none⟩ (.int .i64 (N2 : Int)) = w7 at *
                  obtain ⟨c0, c1, c2, c3, c4, c5, c6, c7⟩ := HD7.out.cs
                  obtain ⟨z0, z1, z2, z3, z4, z5, z6, z7⟩ := HZ7.out.cs
                  have y0 := HZ7.out.fr 0
                  have y1 := HZ7.out.fr 1
                  have y2 := HZ7.out.fr 2
                  have y3 := HZ7.out.fr 3
                  have y4 := HZ7.out.fr 4
                  have y5 := HZ7.out.fr 5
                  have y6 := HZ7.out.fr 6
                  have y7 := HZ7.out.fr 7
                  have f5 := HD7.out.fr 5
                  have f6 := HD7.out.fr 6
                  have f7 := HD7.out.fr 7
                  simp only at c0 c1 c2 c3 c4 c5 c6 c7 z0 z1 z2 z3 z4 z5 z6 z7
                  by_cases hE : k + K1 + 1 + K2 < s.size
                  · have hEi : (k : Int) + (K1 : Int) + 1 + (K2 : Int) < (s.size : Int) := by omega
                    have hEn : ¬ (s.size : Int) ≤ (k : Int) + (K1 : Int) + 1 + (K2 : Int) := by omega
                    have HVb := hide (fun W => rverb (s[k + K1 + 1 + K2].toNat : Int) W)
                    by_cases hv : kOf (s[k + K1 + 1 + K2].toNat : Int) = 0
                    · rw [show (kOf (s[k + K1 + 1 + K2].toNat : Int) != 0) = false by rw [hv]; rfl] at HVb
                      have HV := hide hv
                      clear hv
                      have HRn : Hid (R = none) := by
                        show _ = _
                        rw [HRV.out]
                        unfold rv
                        rw [HK1.out, HN1.out, if_neg HT.out, if_pos HP.out, HK2.out, HN2.out, drop_at s (k + K1 + 1 + K2) hE]
                        simp only
                        rw [if_pos (Or.inl HV.out)]
                        rfl
                      go_wp2_with (first | (go_at_call 34; refine (HVb.out _).mono ?_; rintro _ _ ⟨rfl, rfl⟩) | fail)
                      refine bodyPost_ret (res_rd rfl _ w.heap.size rfl (rd_fill HZ7.out ⟨m, p, z, b, (N1 : Int), (N2 : Int), 0, 0⟩)) rfl ?_
                      exact ⟨⟨⟨m, p, z, b, (N1 : Int), (N2 : Int), 0, 0⟩, by rw [HRn.out]; rfl, fun x n e => by rw [HRn.out] at e; cases e⟩, rd_below HB7.out (Nat.le_refl _) ⟨m, p, z, b, (N1 : Int), (N2 : Int), 0, 0⟩⟩
                    have hvb : (kOf (s[k + K1 + 1 + K2].toNat : Int) != 0) = true := by simpa using hv
                    rw [hvb] at HVb
                    have HV := hide hv
                    clear hv hvb
                    by_cases hN : 4096 < N1
                    · have hNi : (4096 : Int) < (N1 : Int) := by omega
                      have HRn : Hid (R = none) := by
                        show _ = _
                        rw [HRV.out]
                        unfold rv
                        rw [HK1.out, HN1.out, if_neg HT.out, if_pos HP.out, HK2.out, HN2.out, drop_at s (k + K1 + 1 + K2) hE]
                        simp only
                        rw [if_pos (Or.inr (Or.inl hN))]
                        rfl
                      go_wp2_with (first | (go_at_call 34; refine (HVb.out _).mono ?_; rintro _ _ ⟨rfl, rfl⟩) | fail)
                      refine bodyPost_ret (res_rd rfl _ w.heap.size rfl (rd_fill HZ7.out ⟨m, p, z, b, (N1 : Int), (N2 : Int), 0, 0⟩)) rfl ?_
                      exact ⟨⟨⟨m, p, z, b, (N1 : Int), (N2 : Int), 0, 0⟩, by rw [HRn.out]; rfl, fun x n e => by rw [HRn.out] at e; cases e⟩, rd_below HB7.out (Nat.le_refl _) ⟨m, p, z, b, (N1 : Int), (N2 : Int), 0, 0⟩⟩
                    have hNi : ¬ (4096 : Int) < (N1 : Int) := by omega
                    by_cases hM : 4096 < N2
                    · have hMi : (4096 : Int) < (N2 : Int) := by omega
                      have HRn : Hid (R = none) := by
                        show _ = _
                        rw [HRV.out]
                        unfold rv
                        rw [HK1.out, HN1.out, if_neg HT.out, if_pos HP.out, HK2.out, HN2.out, drop_at s (k + K1 + 1 + K2) hE]
                        simp only
                        rw [if_pos (Or.inr (Or.inr hM))]
                        rfl
                      go_wp2_with (first | (go_at_call 34; refine (HVb.out _).mono ?_; rintro _ _ ⟨rfl, rfl⟩) | fail)
                      refine bodyPost_ret (res_rd rfl _ w.heap.size rfl (rd_fill HZ7.out ⟨m, p, z, b, (N1 : Int), (N2 : Int), 0, 0⟩)) rfl ?_
                      exact ⟨⟨⟨m, p, z, b, (N1 : Int), (N2 : Int), 0, 0⟩, by rw [HRn.out]; rfl, fun x n e => by rw [HRn.out] at e; cases e⟩, rd_below HB7.out (Nat.le_refl _) ⟨m, p, z, b, (N1 : Int), (N2 : Int), 0, 0⟩⟩
                    have hMi : ¬ (4096 : Int) < (N2 : Int) := by omega
                    have HRs : Hid (R = some (⟨bitsOf ⟨m, p, z, b, 0, -1, 0, 0⟩, N1, true, N2, s[k + K1 + 1 + K2]⟩, k + K1 + 1 + K2 + 1 - a)) := by
                      show _ = _
                      rw [HRV.out]
                      unfold rv
                      rw [HK1.out, HN1.out, if_neg HT.out, if_pos HP.out, HK2.out, HN2.out, drop_at s (k + K1 + 1 + K2) hE]
                      simp only
                      rw [if_neg (by rintro (h | h | h); exact HV.out h; exact hN h; exact hM h)]
                      rfl
                    have HZ8 := hide ((HZ7.out.other (j := 6) (u := .int .u8 (s[k + K1 + 1 + K2].toNat : Int)) (show w.heap.size ≠ w.heap.size + 1 by omega)).other (j := 7) (u := .int .i64 ((k + K1 + 1 + K2 + 1 : Nat) : Int)) (show w.heap.size ≠ w.heap.size + 1 by omega))
                    have HB8 := hide ((HB7.out.setCell (p := ⟨w.heap.size + 1, 6, none⟩) (Nat.le_succ _) (.int .u8 (s[k + K1 + 1 + K2].toNat : Int))).setCell (p := ⟨w.heap.size + 1, 7, none⟩) (Nat.le_succ _) (.int .i64 ((k + K1 + 1 + K2 + 1 : Nat) : Int)))
                    have hXa : a ≤ k + K1 + 1 + K2 + 1 := by omega
                    go_wp2_with (first | (go_at_call 34; refine (HVb.out _).mono ?_; rintro _ _ ⟨rfl, rfl⟩) | fail)
                    refine bodyPost_ret (res_rd rfl _ w.heap.size rfl (rd_fill HZ8.out ⟨m, p, z, b, (N1 : Int), (N2 : Int), (s[k + K1 + 1 + K2].toNat : Int), ((k + K1 + 1 + K2 + 1 : Nat) : Int)⟩)) rfl ?_
                    exact ⟨⟨⟨m, p, z, b, (N1 : Int), (N2 : Int), (s[k + K1 + 1 + K2].toNat : Int), ((k + K1 + 1 + K2 + 1 : Nat) : Int)⟩, by rw [HRs.out]; rfl, fun x n e => by rw [HRs.out] at e; cases e; exact (rd_is m p z b N1 true N2 s[k + K1 + 1 + K2] (k + K1 + 1 + K2 + 1) a hXa).symm⟩, rd_below HB8.out (Nat.le_refl _) ⟨m, p, z, b, (N1 : Int), (N2 : Int), (s[k + K1 + 1 + K2].toNat : Int), ((k + K1 + 1 + K2 + 1 : Nat) : Int)⟩⟩
                  · have hEi : (s.size : Int) ≤ (k : Int) + (K1 : Int) + 1 + (K2 : Int) := by omega
                    have HRn : Hid (R = none) := by
                      show _ = _
                      rw [HRV.out]
                      unfold rv
                      rw [HK1.out, HN1.out, if_neg HT.out, if_pos HP.out, HK2.out, HN2.out, drop_end s (k + K1 + 1 + K2) (by omega)]
                      rfl
                    go_wp2
                    refine bodyPost_ret (res_rd rfl _ w.heap.size rfl (rd_fill HZ7.out ⟨m, p, z, b, (N1 : Int), (N2 : Int), 0, 0⟩)) rfl ?_
                    exact ⟨⟨⟨m, p, z, b, (N1 : Int), (N2 : Int), 0, 0⟩, by rw [HRn.out]; rfl, fun x n e => by rw [HRn.out] at e; cases e⟩, rd_below HB7.out (Nat.le_refl _) ⟨m, p, z, b, (N1 : Int), (N2 : Int), 0, 0⟩⟩
                · have HP := hide h46
                  obtain ⟨c0, c1, c2, c3, c4, c5, c6, c7⟩ := HD6.out.cs
                  obtain ⟨z0, z1, z2, z3, z4, z5, z6, z7⟩ := HZ6.out.cs
                  have y0 := HZ6.out.fr 0
                  have y1 := HZ6.out.fr 1
                  have y2 := HZ6.out.fr 2
                  have y3 := HZ6.out.fr 3
                  have y4 := HZ6.out.fr 4
                  have y5 := HZ6.out.fr 5
                  have y6 := HZ6.out.fr 6
                  have y7 := HZ6.out.fr 7
                  have f5 := HD6.out.fr 5
                  have f6 := HD6.out.fr 6
                  have f7 := HD6.out.fr 7
                  simp only at c0 c1 c2 c3 c4 c5 c6 c7 z0 z1 z2 z3 z4 z5 z6 z7
                  by_cases hI : k + K1 < s.size
                  · have hIi : (k : Int) + (K1 : Int) < (s.size : Int) := by omega
                    have hIn : ¬ (s.size : Int) ≤ (k : Int) + (K1 : Int) := by omega
                    have h46i : ((s[k + K1].toNat : Int) == 46) = false := by
                      rw [isPt_at s _ hI] at h46
                      simpa using h46
                    clear h46 hPc
                    have HVb := hide (fun W => rverb (s[k + K1].toNat : Int) W)
                    by_cases hv : kOf (s[k + K1].toNat : Int) = 0
                    · rw [show (kOf (s[k + K1].toNat : Int) != 0) = false by rw [hv]; rfl] at HVb
                      have HV := hide hv
                      clear hv
                      have HRn : Hid (R = none) := by
                        show _ = _
                        rw [HRV.out]
                        unfold rv
                        rw [HK1.out, HN1.out, if_neg HT.out, if_neg HP.out, drop_at s (k + K1) hI]
                        simp only
                        rw [if_pos (Or.inl HV.out)]
                        rfl
                      go_wp2_with (first | (go_at_call 34; refine (HVb.out _).mono ?_; rintro _ _ ⟨rfl, rfl⟩) | fail)
                      refine bodyPost_ret (res_rd rfl _ w.heap.size rfl (rd_fill HZ6.out ⟨m, p, z, b, (N1 : Int), -1, 0, 0⟩)) rfl ?_
                      exact ⟨⟨⟨m, p, z, b, (N1 : Int), -1, 0, 0⟩, by rw [HRn.out]; rfl, fun x n e => by rw [HRn.out] at e; cases e⟩, rd_below HB6.out (Nat.le_refl _) ⟨m, p, z, b, (N1 : Int), -1, 0, 0⟩⟩
                    have hvb : (kOf (s[k + K1].toNat : Int) != 0) = true := by simpa using hv
                    rw [hvb] at HVb
                    have HV := hide hv
                    clear hv hvb
                    by_cases hN : 4096 < N1
                    · have hNi : (4096 : Int) < (N1 : Int) := by omega
                      have HRn : Hid (R = none) := by
                        show _ = _
                        rw [HRV.out]
                        unfold rv
                        rw [HK1.out, HN1.out, if_neg HT.out, if_neg HP.out, drop_at s (k + K1) hI]
                        simp only
                        rw [if_pos (Or.inr hN)]
                        rfl
                      go_wp2_with (first | (go_at_call 34; refine (HVb.out _).mono ?_; rintro _ _ ⟨rfl, rfl⟩) | fail)
                      refine bodyPost_ret (res_rd rfl _ w.heap.size rfl (rd_fill HZ6.out ⟨m, p, z, b, (N1 : Int), -1, 0, 0⟩)) rfl ?_
                      exact ⟨⟨⟨m, p, z, b, (N1 : Int), -1, 0, 0⟩, by rw [HRn.out]; rfl, fun x n e => by rw [HRn.out] at e; cases e⟩, rd_below HB6.out (Nat.le_refl _) ⟨m, p, z, b, (N1 : Int), -1, 0, 0⟩⟩
                    have hNi : ¬ (4096 : Int) < (N1 : Int) := by omega
                    have HRs : Hid (R = some (⟨bitsOf ⟨m, p, z, b, 0, -1, 0, 0⟩, N1, false, 0, s[k + K1]⟩, k + K1 + 1 - a)) := by
                      show _ = _
                      rw [HRV.out]
                      unfold rv
                      rw [HK1.out, HN1.out, if_neg HT.out, if_neg HP.out, drop_at s (k + K1) hI]
                      simp only
                      rw [if_neg (by rintro (h | h); exact HV.out h; exact hN h)]
                      rfl
                    have HZ8 := hide ((HZ6.out.other (j := 6) (u := .int .u8 (s[k + K1].toNat : Int)) (show w.heap.size ≠ w.heap.size + 1 by omega)).other (j := 7) (u := .int .i64 ((k + K1 + 1 : Nat) : Int)) (show w.heap.size ≠ w.heap.size + 1 by omega))
                    have HB8 := hide ((HB6.out.setCell (p := ⟨w.heap.size + 1, 6, none⟩) (Nat.le_succ _) (.int .u8 (s[k + K1].toNat : Int))).setCell (p := ⟨w.heap.size + 1, 7, none⟩) (Nat.le_succ _) (.int .i64 ((k + K1 + 1 : Nat) : Int)))
                    have hXa : a ≤ k + K1 + 1 := by omega
                    go_wp2_with (first | (go_at_call 34; refine (HVb.out _).mono ?_; rintro _ _ ⟨rfl, rfl⟩) | fail)
                    refine bodyPost_ret (res_rd rfl _ w.heap.size rfl (rd_fill HZ8.out ⟨m, p, z, b, (N1 : Int), -1, (s[k + K1].toNat : Int), ((k + K1 + 1 : Nat) : Int)⟩)) rfl ?_
                    exact ⟨⟨⟨m, p, z, b, (N1 : Int), -1, (s[k + K1].toNat : Int), ((k + K1 + 1 : Nat) : Int)⟩, by rw [HRs.out]; rfl, fun x n e => by rw [HRs.out] at e; cases e; exact (rd_is m p z b N1 false 0 s[k + K1] (k + K1 + 1) a hXa).symm⟩, rd_below HB8.out (Nat.le_refl _) ⟨m, p, z, b, (N1 : Int), -1, (s[k + K1].toNat : Int), ((k + K1 + 1 : Nat) : Int)⟩⟩
                  · have hIi : ¬ (k : Int) + (K1 : Int) < (s.size : Int) := by omega
                    have hIe : (s.size : Int) ≤ (k : Int) + (K1 : Int) := by omega
                    clear h46 hPc
                    have HRn : Hid (R = none) := by
                      show _ = _
                      rw [HRV.out]
                      unfold rv
                      rw [HK1.out, HN1.out, if_neg HT.out, if_neg HP.out, drop_end s (k + K1) (by omega)]
                      rfl
                    first | (exfalso; omega) | (go_wp2; refine bodyPost_ret (res_rd rfl _ w.heap.size rfl (rd_fill HZ6.out ⟨m, p, z, b, (N1 : Int), -1, 0, 0⟩)) rfl ?_; exact ⟨⟨⟨m, p, z, b, (N1 : Int), -1, 0, 0⟩, by rw [HRn.out]; rfl, fun x n e => by rw [HRn.out] at e; cases e⟩, rd_below HB6.out (Nat.le_refl _) ⟨m, p, z, b, (N1 : Int), -1, 0, 0⟩⟩)
        · obtain rfl : k = s.size := by omega
          have HRn : Hid (R = none) := by
            show _ = _
            have hfk := HFk.out
            rw [drop_end s s.size (Nat.le_refl _)] at hfk
            obtain ⟨q1, q2, q3⟩ := hfk
            unfold flg at q1 q2 q3
            simp only at q1 q2 q3
            have hak2 : a + 1 + K = s.size := by omega
            have q := @rv_pdir s.data.toList a K F (by rw [HQ.out, ← q2]) (by
              rw [hak2, drop_end s s.size (Nat.le_refl _)]
              intro e
              cases e) HPN.out
            rw [hak2, HR.out] at q
            rw [q]
            unfold rv
            rw [drop_end s s.size (Nat.le_refl _)]
            rw [if_neg (by rintro ⟨_, h⟩; cases h), show k4 [] = 0 from rfl, Nat.add_zero, drop_end s s.size (Nat.le_refl _)]
            rfl
          have hlt' : ¬ ((s.size : Nat) : Int) < (s.size : Int) := by omega
          have hNm := fun W => rnumber s s.size W hs (Nat.le_refl _)
          rw [drop_end s s.size (Nat.le_refl _), show n4 [] = 0 from rfl, show k4 [] = 0 from rfl] at hNm
          have HNm := hide hNm
          obtain ⟨m, p, z, b, wd, pr, c, en⟩ := rd
          obtain ⟨hD5, e1, e2, e3, e4⟩ := HD.out
          simp only at e1 e2 e3 e4
          subst e1 e2 e3 e4
          have HD6 := hide (hD5.set 4 (.int .i64 0) ⟨m, p, z, b, 0, -1, 0, 0⟩ rfl)
          have HZ6 := hide (HZr.out.other (j := 4) (u := .int .i64 0) (show w.heap.size ≠ w.heap.size + 1 by omega))
          have HB6 := hide (HBr.out.setCell (p := ⟨w.heap.size + 1, 4, none⟩) (Nat.le_succ _) (.int .i64 0))
          obtain ⟨c0, c1, c2, c3, c4, c5, c6, c7⟩ := hD5.cs
          have f4 := hD5.fr 4
          simp only at c0 c1 c2 c3 c4 c5 c6 c7
          clear hNm hD5 HD HFk hlt hak
          go_upto_region 12 with (first | (go_at_call 33; refine (HNm.out _).mono ?_; rintro _ _ ⟨rfl, rfl⟩) | fail)
          clear c0 c1 c2 c3 c4 c5 c6 c7 f4
          generalize wr.setCell ⟨w.heap.size + 1, 4, none⟩ (.int .i64 0) = w6 at *
          obtain ⟨c0, c1, c2, c3, c4, c5, c6, c7⟩ := HD6.out.cs
          obtain ⟨z0, z1, z2, z3, z4, z5, z6, z7⟩ := HZ6.out.cs
          have y0 := HZ6.out.fr 0
          have y1 := HZ6.out.fr 1
          have y2 := HZ6.out.fr 2
          have y3 := HZ6.out.fr 3
          have y4 := HZ6.out.fr 4
          have y5 := HZ6.out.fr 5
          have y6 := HZ6.out.fr 6
          have y7 := HZ6.out.fr 7
          simp only at c0 c1 c2 c3 c4 c5 c6 c7 z0 z1 z2 z3 z4 z5 z6 z7
          go_wp2
          refine bodyPost_ret (res_rd rfl _ w.heap.size rfl (rd_fill HZ6.out ⟨m, p, z, b, 0, -1, 0, 0⟩)) rfl ?_
          exact ⟨⟨⟨m, p, z, b, 0, -1, 0, 0⟩, by rw [HRn.out]; rfl, fun x n e => by rw [HRn.out] at e; cases e⟩, rd_below HB6.out (Nat.le_refl _) ⟨m, p, z, b, 0, -1, 0, 0⟩⟩
    · have hw4 : ¬ (a : Int) + 1 < (s.size : Int) := by omega
      have HW1 := hide hw1
      clear hw1
      go_enter Tryd.func25, Tryd.ntmps25
      go_wp2
      generalize (w.alloc (.cells #[.bool false, .bool false, .bool false, .bool false, .int .i64 0, .int .i64 0, .int .u8 0, .int .i64 0] 55)).alloc (.cells #[.bool false, .bool false, .bool false, .bool false, .int .i64 0, .int .i64 (-1), .int .u8 0, .int .i64 0] 55) = w0 at *
      go_loopw [7] (fun i wr => ∃ (k : Nat) (rd : RD_), a + 1 ≤ k ∧ k ≤ s.size ∧ i = .int .i64 k ∧ Hid (DB wr (w.heap.size + 1) rd ∧ rd.wd = 0 ∧ rd.pr = -1 ∧ rd.c = 0 ∧ rd.en = 0) ∧ Hid (DB wr w.heap.size ⟨false, false, false, false, 0, 0, 0, 0⟩) ∧ Hid (Below w.heap.size w wr) ∧ Hid ((flg (s.data.toList.drop k) (bitsOf rd) true).1 = F ∧ (flg (s.data.toList.drop k) (bitsOf rd) true).2.1 = o ∧ (flg (s.data.toList.drop k) (bitsOf rd) true).2.2 + k = K + (a + 1))) (fun i _ => s.size - (intOf i).toNat)
      case atStart => exact ⟨a + 1, _, Nat.le_refl _, by omega, by go_num, ⟨HD0.out, rfl, rfl, rfl, rfl⟩, HZ0, HB0, HFQ⟩
      case round =>
        obtain ⟨k, rd, hak, hk, rfl, HD, HZr, HBr, HFk⟩ := hrel
        clear HFQ HZ HZ0 HD0 HB0
        by_cases hlt : k < s.size
        · exfalso
          have := HW1.out
          omega
        · obtain rfl : k = s.size := by omega
          have HRn : Hid (R = none) := by
            show _ = _
            have hfk := HFk.out
            rw [drop_end s s.size (Nat.le_refl _)] at hfk
            obtain ⟨q1, q2, q3⟩ := hfk
            unfold flg at q1 q2 q3
            simp only at q1 q2 q3
            have hak2 : a + 1 + K = s.size := by omega
            have q := @rv_pdir s.data.toList a K F (by rw [HQ.out, ← q2]) (by
              rw [hak2, drop_end s s.size (Nat.le_refl _)]
              intro e
              cases e) HPN.out
            rw [hak2, HR.out] at q
            rw [q]
            unfold rv
            rw [drop_end s s.size (Nat.le_refl _)]
            rw [if_neg (by rintro ⟨_, h⟩; cases h), show k4 [] = 0 from rfl, Nat.add_zero, drop_end s s.size (Nat.le_refl _)]
            rfl
          have hlt' : ¬ ((s.size : Nat) : Int) < (s.size : Int) := by omega
          have hNm := fun W => rnumber s s.size W hs (Nat.le_refl _)
          rw [drop_end s s.size (Nat.le_refl _), show n4 [] = 0 from rfl, show k4 [] = 0 from rfl] at hNm
          have HNm := hide hNm
          obtain ⟨m, p, z, b, wd, pr, c, en⟩ := rd
          obtain ⟨hD5, e1, e2, e3, e4⟩ := HD.out
          simp only at e1 e2 e3 e4
          subst e1 e2 e3 e4
          have HD6 := hide (hD5.set 4 (.int .i64 0) ⟨m, p, z, b, 0, -1, 0, 0⟩ rfl)
          have HZ6 := hide (HZr.out.other (j := 4) (u := .int .i64 0) (show w.heap.size ≠ w.heap.size + 1 by omega))
          have HB6 := hide (HBr.out.setCell (p := ⟨w.heap.size + 1, 4, none⟩) (Nat.le_succ _) (.int .i64 0))
          obtain ⟨c0, c1, c2, c3, c4, c5, c6, c7⟩ := hD5.cs
          have f4 := hD5.fr 4
          simp only at c0 c1 c2 c3 c4 c5 c6 c7
          clear hNm hD5 HD HFk hlt hak
          go_upto_region 12 with (first | (go_at_call 33; refine (HNm.out _).mono ?_; rintro _ _ ⟨rfl, rfl⟩) | fail)
          clear c0 c1 c2 c3 c4 c5 c6 c7 f4
          generalize wr.setCell ⟨w.heap.size + 1, 4, none⟩ (.int .i64 0) = w6 at *
          obtain ⟨c0, c1, c2, c3, c4, c5, c6, c7⟩ := HD6.out.cs
          obtain ⟨z0, z1, z2, z3, z4, z5, z6, z7⟩ := HZ6.out.cs
          have y0 := HZ6.out.fr 0
          have y1 := HZ6.out.fr 1
          have y2 := HZ6.out.fr 2
          have y3 := HZ6.out.fr 3
          have y4 := HZ6.out.fr 4
          have y5 := HZ6.out.fr 5
          have y6 := HZ6.out.fr 6
          have y7 := HZ6.out.fr 7
          simp only at c0 c1 c2 c3 c4 c5 c6 c7 z0 z1 z2 z3 z4 z5 z6 z7
          go_wp2
          refine bodyPost_ret (res_rd rfl _ w.heap.size rfl (rd_fill HZ6.out ⟨m, p, z, b, 0, -1, 0, 0⟩)) rfl ?_
          exact ⟨⟨⟨m, p, z, b, 0, -1, 0, 0⟩, by rw [HRn.out]; rfl, fun x n e => by rw [HRn.out] at e; cases e⟩, rd_below HB6.out (Nat.le_refl _) ⟨m, p, z, b, 0, -1, 0, 0⟩⟩
end Go.Proofs.YtpcchaciomeckaaDoor

/- Format by the page: many, upper. -/
namespace Go.Proofs.YtpcchaciomeckaaDoor
open Go.RowKit

theorem lit1 (w : World) (c : UInt8) : Bys (w.alloc (.cells #[.int .u8 (c.toNat : Int)] 5)) (.slice (some ⟨w.heap.size, 0, none⟩) 1 1) [c] := by
  refine .inr (.inr ⟨w.heap.size, 0, 1, rfl, by simp, fun j hj => ?_⟩)
  obtain rfl : j = 0 := by simpa using hj
  rw [cell_of_row _ w.heap.size _ _ _ _ (heap_alloc_new w _)]
  rfl
set_option maxRecDepth 100000 in
set_option maxHeartbeats 2000000 in
theorem rmany (c : UInt8) (n : Int) (w : World) (h0 : -9223372036854775808 ≤ n) (h1 : n ≤ 65536) :
    Calls Tryd.prog 36 #[.int .u8 (c.toNat : Int), .int .i64 n] w fun e w' => e = .returned (.string ⟨(List.replicate n.toNat c).toArray⟩) ∧ Below w.heap.size w w' := by
  obtain ⟨Z, hZ⟩ : ∃ Z, List.replicate n.toNat c = Z := ⟨_, rfl⟩
  rw [hZ]
  have HZ := hide hZ
  clear hZ
  go_enter Tryd.func36, Tryd.ntmps36
  go_wp2
  go_loopw [5, 6] (fun t i wr => ∃ (k : Nat) (a : Option Addr) (cc : Nat), k ≤ n.toNat ∧ i = .int .i64 k ∧ t = .slice a k cc ∧ Hid (wr.ownsRow w.heap.size 5 1 (.slice a k cc) k ((List.replicate k c).map bv)) ∧ Hid (Below w.heap.size w wr)) (fun _ i _ => n.toNat - (intOf i).toNat)
  case atStart => exact ⟨0, none, 0, Nat.zero_le _, rfl, rfl, World.ownsRow_nil _ _ _ _, Below.refl _ _⟩
  case round =>
    obtain ⟨k, a, cc, hk, rfl, rfl, HO, HB⟩ := hrel
    by_cases hlt : k < n.toNat
    · have hlt' : (k : Int) < n := by omega
      have hB1 := fm_below wr (.cells #[.int .u8 (c.toNat : Int)] 5)
      have hO1 := owns_below HO.out hB1
      obtain ⟨s', w2, hr, hO2, hG, -⟩ := run_append_bytes (wr.alloc (.cells #[.int .u8 (c.toNat : Int)] 5)) 24 w.heap.size (.slice a k cc) (.slice (some ⟨wr.heap.size, 0, none⟩) 1 1) (List.replicate k c) [c] (by rw [List.length_replicate]; exact hO1) (lit1 wr c) (by rw [List.length_replicate]; simp; omega) (Nat.le_trans HB.out.size hB1.size)
      have HB2 := hide ((HB.out.trans (hB1.mono HB.out.size)).grown hG (Nat.le_trans HB.out.size hB1.size) (fun j e => (owns_base hO1 j e).1))
      have e1 : List.replicate k c ++ [c] = List.replicate (k + 1) c := List.replicate_succ'.symm
      rw [e1, List.length_replicate] at hO2
      obtain ⟨a2, c2, rfl⟩ := owns_slice hO2.out
      clear hO1 hB1 hG e1
      go_wp2_with (at_builtin; refine Lib.wpList_append_run _ rfl _ _ _ _ rfl _ _ rfl rfl _ _ hr ?_)
      exact ⟨⟨k + 1, a2, c2, by omega, by go_num, rfl, hO2, HB2⟩, by simp [intOf]; omega⟩
    · have hlt' : ¬ (k : Int) < n := by omega
      have hk2 : k = n.toNat := by omega
      have hst := owns_string (W := wr) (base := w.heap.size) (v := .slice a k cc) (l := List.replicate k c) (by rw [List.length_replicate]; exact HO.out)
      rw [show List.replicate k c = Z by rw [hk2]; exact HZ.out] at hst
      clear HO hk2
      go_wp2
      go_ret
      exact ⟨rfl, HB.out⟩
set_option maxRecDepth 100000 in
set_option maxHeartbeats 2000000 in
theorem rupper (s : ByteArray) (w : World) (hs : s.size ≤ 65536) :
    Calls Tryd.prog 49 #[.string s] w fun e w' => e = .returned (.string ⟨(s.data.toList.map upB).toArray⟩) ∧ Below w.heap.size w w' := by
  have hsz : s.data.toList.length = s.size := by rw [Array.length_toList]; rfl
  have HSZ := hide hsz
  clear hsz
  obtain ⟨U, hU⟩ : ∃ U, s.data.toList.map upB = U := ⟨_, rfl⟩
  rw [hU]
  have HU := hide hU
  clear hU
  go_enter Tryd.func49, Tryd.ntmps49
  go_wp2
  go_loopw [3, 4] (fun t i wr => ∃ (k : Nat) (a : Option Addr) (cc : Nat), k ≤ s.size ∧ i = .int .i64 k ∧ t = .slice a k cc ∧ Hid (wr.ownsRow w.heap.size 5 1 (.slice a k cc) k (((s.data.toList.take k).map upB).map bv)) ∧ Hid (Below w.heap.size w wr)) (fun _ i _ => s.size - (intOf i).toNat)
  case atStart => exact ⟨0, none, 0, Nat.zero_le _, rfl, rfl, World.ownsRow_nil _ _ _ _, Below.refl _ _⟩
  case round =>
    obtain ⟨k, a, cc, hk, rfl, rfl, HO, HB⟩ := hrel
    by_cases hlt : k < s.size
    · have hlt' : (k : Int) < (s.size : Int) := by omega
      have hlen : ((s.data.toList.take k).map upB).length = k := by rw [List.length_map, List.length_take, HSZ.out]; omega
      have hB1 := fm_below wr (.cells #[.int .u8 ((upB s[k]).toNat : Int)] 5)
      have hO1 := owns_below HO.out hB1
      obtain ⟨s', w2, hr, hO2, hG, -⟩ := run_append_bytes (wr.alloc (.cells #[.int .u8 ((upB s[k]).toNat : Int)] 5)) 24 w.heap.size (.slice a k cc) (.slice (some ⟨wr.heap.size, 0, none⟩) 1 1) ((s.data.toList.take k).map upB) [upB s[k]] (by rw [hlen]; exact hO1) (lit1 wr _) (by rw [hlen]; simp; omega) (Nat.le_trans HB.out.size hB1.size)
      have HB2 := hide ((HB.out.trans (hB1.mono HB.out.size)).grown hG (Nat.le_trans HB.out.size hB1.size) (fun j e => (owns_base hO1 j e).1))
      have e1 : (s.data.toList.take k).map upB ++ [upB s[k]] = (s.data.toList.take (k + 1)).map upB := by
        rw [List.take_succ_eq_append_getElem (by rw [HSZ.out]; exact hlt), List.map_append]
        rfl
      have e2 : ((s.data.toList.take (k + 1)).map upB).length = k + 1 := by rw [List.length_map, List.length_take, HSZ.out]; omega
      rw [e1, e2] at hO2
      obtain ⟨a2, c2, rfl⟩ := owns_slice hO2.out
      clear hO1 hB1 hG e1 e2 hlen
      have hup : ((97 : Int) ≤ (s[k].toNat : Int) ∧ (s[k].toNat : Int) ≤ 122 ∧ ((upB s[k]).toNat : Int) = (s[k].toNat : Int) - 32) ∨ ((¬ (97 : Int) ≤ (s[k].toNat : Int) ∨ ((97 : Int) ≤ (s[k].toNat : Int) ∧ ¬ (s[k].toNat : Int) ≤ 122)) ∧ upB s[k] = s[k]) := by
        unfold upB
        by_cases h : 97 ≤ s[k].toNat ∧ s[k].toNat ≤ 122
        · left
          rw [if_pos h]
          refine ⟨by omega, by omega, ?_⟩
          rw [UInt8.toNat_sub_of_le _ _ (by rw [UInt8.le_iff_toNat_le]; show 32 ≤ _; omega)]
          show ((s[k].toNat - 32 : Nat) : Int) = _
          omega
        · right
          rw [if_neg h]
          exact ⟨by omega, rfl⟩
      rcases hup with ⟨h1, h2, h3⟩ | ⟨h1, h3⟩
      · have hw8 : IntKind.u8.wrap ((s[k].toNat : Int) - 32) = (s[k].toNat : Int) - 32 := by rw [IntKind.wrap_u8]; omega
        rw [h3] at hr
        clear h3
        go_wp2_with (at_builtin; refine Lib.wpList_append_run _ rfl _ _ _ _ rfl _ _ rfl rfl _ _ hr ?_)
        exact ⟨⟨k + 1, a2, c2, by omega, by go_num, rfl, hO2, HB2⟩, by simp [intOf]; omega⟩
      · rw [h3] at hr
        clear h3
        rcases h1 with h1 | ⟨h1, h2⟩
        all_goals
          go_wp2_with (at_builtin; refine Lib.wpList_append_run _ rfl _ _ _ _ rfl _ _ rfl rfl _ _ hr ?_)
          exact ⟨⟨k + 1, a2, c2, by omega, by go_num, rfl, hO2, HB2⟩, by simp [intOf]; omega⟩
    · have hlt' : ¬ (k : Int) < (s.size : Int) := by omega
      obtain rfl : k = s.size := by omega
      have hO := HO.out
      rw [List.take_of_length_le (by rw [HSZ.out]; exact Nat.le_refl _)] at hO
      have hst := owns_string (W := wr) (base := w.heap.size) (v := .slice a s.size cc) (l := s.data.toList.map upB) (by rw [List.length_map, HSZ.out]; exact hO)
      rw [HU.out] at hst
      clear hO HO
      go_wp2
      go_ret
      exact ⟨rfl, HB.out⟩
end Go.Proofs.YtpcchaciomeckaaDoor

/- What the reference's Places, Base and Decimal answer, for every number: the same digits. -/
namespace Go.Proofs.YtpcchaciomeckaaDoor
open Go.RowKit

def lowl (b n : Nat) : Nat → List UInt8
  | 0 => []
  | j + 1 => sgn (dg b n j) :: lowl b n j
theorem lowl_dl (b n : Nat) : ∀ k, (dl b n k).map sgn = lowl b n (k + 1)
  | 0 => rfl
  | k + 1 => by rw [dl, List.map_cons, lowl_dl b n k]; rfl
theorem lowl_length (b n : Nat) : ∀ j, (lowl b n j).length = j
  | 0 => rfl
  | j + 1 => by rw [lowl, List.length_cons, lowl_length b n j]
def lows (b n j : Nat) : ByteArray := ⟨(lowl b n j).toArray⟩
theorem lows_size (b n j : Nat) : (lows b n j).size = j := by
  show ((lowl b n j).toArray).size = j
  rw [List.size_toArray, lowl_length]
theorem sgn_nums (x : Fin 16) : strOfNums [((⟨#[48, 49, 50, 51, 52, 53, 54, 55, 56, 57, 97, 98, 99, 100, 101, 102]⟩ : ByteArray)[x.val].toNat : Int)] = ⟨[sgn x].toArray⟩ := by
  revert x; decide +kernel
theorem lows_succ (b n j : Nat) (x : Fin 16) (h : dg b n j = x) : strOfNums [((⟨#[48, 49, 50, 51, 52, 53, 54, 55, 56, 57, 97, 98, 99, 100, 101, 102]⟩ : ByteArray)[x.val].toNat : Int)] ++ lows b n j = lows b n (j + 1) := by
  rw [sgn_nums, lows, bytes_append, lows, lowl, h]
  rfl

set_option maxRecDepth 100000 in
set_option maxHeartbeats 2000000 in
theorem places_nat (n b : Nat) (hb : 2 ≤ b) (hb2 : b ≤ 16) (hlt : n < 18446744073709551616) (w : World) :
    Calls Tryd.prog 48 #[.int .u64 (n : Int), .int .i64 (b : Int)] w fun e w' => e = .returned (.string ⟨(digs b n).toArray⟩) ∧ Below w.heap.size w w' := by
  have hcv := one_str
  go_enter Tryd.func48, Tryd.ntmps48
  go_wp2
  go_loopw [0, 5] (fun nv sv wr => ∃ j : Nat, nv = .int .u64 ((n / b ^ j : Nat) : Int) ∧ (j = 0 ∨ b ^ j ≤ n) ∧ sv = .string (lows b n j) ∧ Below w.heap.size w wr) (fun nv _ _ => (intOf nv).toNat)
  case atStart => exact ⟨0, by simp, .inl rfl, rfl, Below.refl _ _⟩
  case round =>
    obtain ⟨j, rfl, hj, rfl, hB⟩ := hrel
    have hj64 : j < 64 := by
      rcases hj with h | h
      · omega
      · have h2 := pow64 b hb
        exact (Nat.pow_lt_pow_iff_right (show 1 < b by omega)).1 (by omega)
    have hsz := lows_size b n j
    have hN : n / b ^ j ≤ n := Nat.div_le_self _ _
    have hq0 : n / b ^ j % b = (dg b n j).val := (dg_val b n j hb hb2).symm
    have hd0 : n / b ^ j / b = n / b ^ (j + 1) := by rw [Nat.div_div_eq_div_mul, Nat.pow_succ]
    generalize hX : dg b n j = X at *
    generalize hNN : n / b ^ j = N at *
    have hq : (N : Int) % (b : Int) = ((X : Fin 16).val : Int) := by omega
    have hXb : ((X.val : Nat) : Int) < 16 := by have := X.isLt; omega
    have HL := hide (lows_succ b n j X hX)
    have HD := hide hd0
    have HX := hide hX
    have HN := hide hNN
    have hs1 := strOfNums_size [((⟨#[48, 49, 50, 51, 52, 53, 54, 55, 56, 57, 97, 98, 99, 100, 101, 102]⟩ : ByteArray)[X.val].toNat : Int)]
    have hb0 : ¬ b = 0 := by omega
    clear hd0 hX hNN hq0
    have HW : Hid (IntKind.u64.wrap ((N : Int) / (b : Int)) = ((N / b : Nat) : Int)) := by
      show _ = _
      rw [← Int.natCast_ediv]
      have := Nat.div_le_self N b
      exact IntWalk.u64_in _ ⟨Int.natCast_nonneg _, by omega⟩
    have hpos : 0 < b ^ (j + 1) := Nat.pow_pos (by omega)
    go_wp2
    · have hz : (IntKind.u64.wrap ((N : Int) / (b : Int)) == 0) = true := by assumption
      rw [HW.out] at hz
      have hz2 : n / b ^ (j + 1) = 0 := by rw [← HD.out]; have h3 := eq_of_beq hz; omega
      have hlt2 : n < b ^ (j + 1) := by
        rcases Nat.lt_or_ge n (b ^ (j + 1)) with h | h
        · exact h
        · have := Nat.div_pos h hpos; omega
      have ht := top_unique b n j hb hlt hlt2 hj
      go_ret
      refine ⟨?_, hB.alloc hB.size _⟩
      rw [digs, ht, lowl_dl]
      exact congrArg (fun x => Ending.returned (Value.string x)) HL.out
    · have hz : (IntKind.u64.wrap ((N : Int) / (b : Int)) == 0) = false := by assumption
      rw [HW.out] at hz
      have hz2 : ¬ n / b ^ (j + 1) = 0 := by rw [← HD.out]; have h3 := beq_eq_false_iff_ne.1 hz; omega
      have hge : b ^ (j + 1) ≤ n := by
        rcases Nat.lt_or_ge n (b ^ (j + 1)) with h | h
        · exact absurd (Nat.div_eq_of_lt h) hz2
        · exact h
      go_roundw
      case rel => exact ⟨j + 1, by rw [HW.out, HD.out], .inr hge, congrArg Value.string HL.out, hB.alloc hB.size _⟩
      case measure =>
        rw [HW.out]
        simp only [intOf, Int.toNat_natCast]
        have : 0 < N := by
          rcases Nat.eq_zero_or_pos N with h | h
          · rw [← HD.out, h] at hz2; simp at hz2
          · exact h
        exact Nat.div_lt_self this (by omega)

theorem places_any (n b : Int) (hb : 2 ≤ b) (hb2 : b ≤ 16) (h0 : 0 ≤ n) (hlt : n ≤ 18446744073709551615) (w : World) :
    Calls Tryd.prog 48 #[.int .u64 n, .int .i64 b] w fun e w' => e = .returned (.string ⟨(digs b.toNat n.toNat).toArray⟩) ∧ Below w.heap.size w w' := by
  obtain ⟨n', rfl⟩ := Int.eq_ofNat_of_zero_le h0
  obtain ⟨b', rfl⟩ := Int.eq_ofNat_of_zero_le (show 0 ≤ b by omega)
  exact places_nat n' b' (by omega) (by omega) (by omega) w


end Go.Proofs.YtpcchaciomeckaaDoor

/- Format by the page: plain. -/
namespace Go.Proofs.YtpcchaciomeckaaDoor
open Go.RowKit

def plN (base : Nat) (pr : Int) (n : Nat) : List UInt8 := zer (pr - ((if pr = 0 ∧ n = 0 then [] else digs base n).length : Int)).toNat ++ (if pr = 0 ∧ n = 0 then [] else digs base n)
set_option maxRecDepth 100000 in
set_option maxHeartbeats 4000000 in
theorem rplain_neg (m p z b : Bool) (wd pr en : Int) (a : Ag) (w : World) (hpr : -1 ≤ pr) (hpr2 : pr ≤ 4096) (hi : a.int < 0) (hi2 : -9223372036854775808 ≤ a.int) :
    Calls Tryd.prog 35 #[.agg #[.bool m, .bool p, .bool z, .bool b, .int .i64 wd, .int .i64 pr, .int .u8 100, .int .i64 en], agV a] w fun e w' => e = .returned (.tuple #[.string ⟨([45]).toArray⟩, .string ⟨(plN 10 pr a.int.natAbs).toArray⟩]) ∧ Below w.heap.size w w' := by
  unfold agV
  have HBx := hide (recv2 w (.cells #[.bool m, .bool p, .bool z, .bool b, .int .i64 wd, .int .i64 pr, .int .u8 100, .int .i64 en] 55) (.cells #[.int .i64 a.kind, .int .i64 a.int, .int .u64 a.uint, .string a.text] 37))
  have HC := hide (show DB ((w.alloc (.cells #[.bool m, .bool p, .bool z, .bool b, .int .i64 wd, .int .i64 pr, .int .u8 100, .int .i64 en] 55)).alloc (.cells #[.int .i64 a.kind, .int .i64 a.int, .int .u64 a.uint, .string a.text] 37)) w.heap.size ⟨m, p, z, b, wd, pr, 100, en⟩ from DB.below (show DB (w.alloc _) w.heap.size ⟨m, p, z, b, wd, pr, 100, en⟩ from heap_alloc_new w _) (fm_below _ _))
  have hA := AgAt.new (w.alloc (.cells #[.bool m, .bool p, .bool z, .bool b, .int .i64 wd, .int .i64 pr, .int .u8 100, .int .i64 en] 55)) a
  rw [size_push1] at hA
  have HA := hide hA
  clear hA
  go_enter Tryd.func35, Tryd.ntmps35
  go_upto_region 8 with fail
  generalize (w.alloc (.cells #[.bool m, .bool p, .bool z, .bool b, .int .i64 wd, .int .i64 pr, .int .u8 100, .int .i64 en] 55)).alloc (.cells #[.int .i64 a.kind, .int .i64 a.int, .int .u64 a.uint, .string a.text] 37) = w1 at *
  obtain ⟨c0, c1, c2, c3, c4, c5, c6, c7⟩ := HC.out.cs
  obtain ⟨a0, a1, a2, a3⟩ := HA.out
  simp only at c0 c1 c2 c3 c4 c5 c6 c7
  go_big_region
  go_upto_region 13 with fail
  go_big_region
  go_upto_region 23 with fail
  obtain ⟨N, hN⟩ : ∃ N : Nat, a.int.natAbs = N := ⟨_, rfl⟩
  have hNb : N < 18446744073709551616 := by omega
  have HC2 := hide (HC.out.below (Below.refl w1.heap.size w1).drew.drew)
  have HB2 := hide (HBx.out.trans (((Below.refl w1.heap.size w1).drew.drew).mono HBx.out.size))
  generalize w1.drew.drew = w2 at *
  clear c0 c1 c2 c3 c4 c5 c6 c7 a0 a1 a2 a3 HC HA
  rw [show -(a.int + 1) + 1 = (N : Int) by omega]
  have hPl : ∀ W, Calls Tryd.prog 48 #[.int .u64 (N : Int), .int .i64 10] W fun e w' => e = .returned (.string ⟨(digs 10 N).toArray⟩) ∧ Below W.heap.size W w' := fun W => places_any (N : Int) 10 (by decide) (by decide) (by omega) (by omega) W
  have hdl := digs_len 10 N (by decide) hNb
  have HPl := hide hPl
  have hS : plN 10 pr N = zer (pr - ((if pr = 0 ∧ N = 0 then [] else digs 10 N).length : Int)).toNat ++ (if pr = 0 ∧ N = 0 then [] else digs 10 N) := rfl
  have HS : Hid (plN 10 pr a.int.natAbs = zer (pr - ((if pr = 0 ∧ N = 0 then [] else digs 10 N).length : Int)).toNat ++ (if pr = 0 ∧ N = 0 then [] else digs 10 N)) := by rw [hN]; exact hS
  clear hPl hS hN
  generalize digs 10 N = D at *
  go_wp2_with fail
  refine (HPl.out _).mono ?_
  rintro _ w3 ⟨rfl, hB3⟩
  obtain ⟨c0, c1, c2, c3, c4, c5, c6, c7⟩ := (HC2.out.below hB3).cs
  have HC3 := hide (HC2.out.below hB3)
  have HB3 := hide (HB2.out.trans (hB3.mono HB2.out.size))
  simp only at c0 c1 c2 c3 c4 c5 c6 c7
  clear hB3 HC2 HB2 HPl
  have HU := hide (fun (s : ByteArray) (hs : s.size ≤ 65536) W => rupper s W hs)
  rcases (show (pr = 0 ∧ N = 0) ∨ (((pr == 0) = true) ∧ (((N : Int) == 0) = false) ∧ ¬ (pr = 0 ∧ N = 0)) ∨ (((pr == 0) = false) ∧ ¬ (pr = 0 ∧ N = 0)) by
    simp only [beq_iff_eq, beq_eq_false_iff_ne, ne_eq]; omega) with ⟨e1, e2⟩ | ⟨e1, e2, e3⟩ | ⟨e1, e3⟩
  · subst e1
    subst e2
    have hs0 := HS.out
    rw [if_pos ⟨rfl, rfl⟩] at hs0
    have HS0 := hide hs0
    have HM := hide (fun W => rmany 48 0 W (by decide) (by decide))
    clear hs0 HS
    go_wp2_with fail
    refine (HM.out _).mono ?_
    rintro _ w4 ⟨rfl, hB4⟩
    obtain ⟨c0, c1, c2, c3, c4, c5, c6, c7⟩ := (HC3.out.below hB4).cs
    have HB4 := hide (HB3.out.trans (hB4.mono HB3.out.size))
    simp only at c0 c1 c2 c3 c4 c5 c6 c7
    go_wp2
    go_ret2
    exact ⟨ret2 rfl (congrArg Value.string (bstr (by rw [HS0.out]; rfl))), HB4.out⟩
  all_goals
    have hs0 := HS.out
    rw [if_neg e3] at hs0
    have HS0 := hide hs0
    have hDl : D.length ≤ 64 := hdl
    have HM := hide (fun W => rmany 48 (pr - (D.length : Int)) W (by omega) (by omega))
    have hcat : ¬ 9223372036854775807 < (pr - (D.length : Int)).toNat + D.length := by omega
    clear hs0 HS e3
    go_wp2_with fail
    refine (HM.out _).mono ?_
    rintro _ w4 ⟨rfl, hB4⟩
    obtain ⟨c0, c1, c2, c3, c4, c5, c6, c7⟩ := (HC3.out.below hB4).cs
    have HB4 := hide (HB3.out.trans (hB4.mono HB3.out.size))
    simp only at c0 c1 c2 c3 c4 c5 c6 c7
    go_wp2
    go_ret2
    exact ⟨ret2 rfl (congrArg Value.string (bstr (by rw [HS0.out]; simp [zer]))), HB4.out⟩
end Go.Proofs.YtpcchaciomeckaaDoor

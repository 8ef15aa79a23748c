/- What the proof stands on, part 8: the contracts of the program's calls that it reaches. -/
import Derived.Test.YtpcchaciomeckaaDoorKT7
/- Format by the page: the text that a pattern makes of its Args. -/
namespace Go.Proofs.YtpcchaciomeckaaDoor
open Go.RowKit

theorem verbAt_verb {l : List UInt8} {p : Nat} {v : UInt8} (h : verbAt l p = some v) : v.toNat = 37 ∨ kOf v.toNat ≠ 0 := by
  unfold verbAt at h
  split at h
  · cases h
  · split at h
    · rename_i hc
      cases h
      rcases hc with hc | hc
      · exact .inl hc.1
      · exact .inr hc
    · cases h
theorem map_some {α β : Type} {f : α → β} {o : Option α} {y : β} (h : o.map f = some y) : ∃ x, o = some x ∧ f x = y := by
  cases o with
  | none => cases h
  | some x => exact ⟨x, rfl, Option.some.inj h⟩
theorem pdir_verb {l : List UInt8} {d : Dir} {n : Nat} (h : pdir l = some (d, n)) : d.verb.toNat = 37 ∨ kOf d.verb.toNat ≠ 0 := by
  unfold pdir at h
  simp only at h
  split at h
  · cases h
  split at h
  · split at h
    · cases h
    · obtain ⟨v, hv, he⟩ := map_some h
      cases he
      exact verbAt_verb hv
  · obtain ⟨v, hv, he⟩ := map_some h
    cases he
    exact verbAt_verb hv
theorem isOf_k {a : Ag} {v : UInt8} : a.isOf v = true ↔ a.kind = kOf v.toNat ∧ (a.kind = 3 → a.uint ≤ 255) := by
  unfold Ag.isOf
  simp only [Bool.and_eq_true, beq_iff_eq, Bool.or_eq_true, bne_iff_ne, ne_eq, decide_eq_true_eq]
  constructor
  · rintro ⟨h1, h2⟩
    exact ⟨h1, fun h3 => h2.resolve_left (fun h => h h3)⟩
  · rintro ⟨h1, h2⟩
    refine ⟨h1, ?_⟩
    by_cases h : a.kind = 3
    · exact .inr (h2 h)
    · exact .inl h
set_option maxRecDepth 100000 in
set_option maxHeartbeats 4000000 in
theorem rformat_any (s : ByteArray) (va : Value) (aa : List Ag) (w : World) (hs : s.size ≤ maxLen) (hA : AgsV w va aa) (hsh : ∀ x : Dir, x.wd ≤ 4096 → x.pr ≤ 4096 → ∀ A ∈ aa, (x.shown A).length ≤ 4611686018427387904) :
    Calls Tryd.prog 11 #[.string s, va] w fun e w' => ∃ v, e = .returned (.tuple #[v, .int .i64 (fmtV s.data.toList aa).2.1, .int .i64 ((fmtV s.data.toList aa).2.2 : Int)]) ∧ w'.ownsRow w.heap.size 5 1 v (fmtV s.data.toList aa).1.length ((fmtV s.data.toList aa).1.map bv) ∧ Below w.heap.size w w' := by
  obtain ⟨i0, hi, hz0, hz1, hz2⟩ := info_parts Tryd.infoB
  have HSH := hide hsh
  clear hsh
  have hsz : s.data.toList.length = s.size := by rw [Array.length_toList]; rfl
  obtain ⟨R, hR⟩ : ∃ R, fmtV s.data.toList aa = R := ⟨_, rfl⟩
  rw [hR]
  unfold fmtV at hR
  rw [hsz] at hR
  unfold maxLen at hs
  by_cases hlong : 65536 < s.size
  · rw [if_pos hlong] at hR
    subst hR
    have hl : (65536 : Int) < (s.size : Int) := by omega
    obtain ⟨va1, vc1, rfl, -⟩ := hA
    go_enter Tryd.func11, Tryd.ntmps11
    go_wp2
    go_ret3
    exact ⟨_, rfl, World.ownsRow_nil _ _ _ _, Below.refl _ _⟩
  rw [if_neg hlong] at hR
  have hl : ¬ (65536 : Int) < (s.size : Int) := by omega
  have HR := hide hR
  have HA := hide hA
  obtain ⟨va1, vc1, rfl, hvc, -, hvb⟩ := hA
  have HVB := hide hvb
  clear hR hsz hvb
  go_enter Tryd.func11, Tryd.ntmps11
  go_wp2
  go_loopw [7, 8, 9] (fun t ui i wr => ∃ (k u : Nat) (out : List UInt8) (ta : Option Addr) (tc : Nat), k ≤ s.size ∧ u ≤ k ∧ u ≤ aa.length ∧ i = .int .i64 k ∧ ui = .int .i64 u ∧ t = .slice ta out.length tc ∧ Hid (wr.ownsRow w.heap.size 5 1 (.slice ta out.length tc) out.length (out.map bv)) ∧ out.length ≤ 65536 ∧ Hid (Below w.heap.size w wr) ∧ Hid (fmtF (s.size - k) (s.data.toList.drop k) (aa.drop u) k out = R)) (fun _ _ i _ => s.size - (intOf i).toNat)
  case atStart => exact ⟨0, 0, [], none, 0, Nat.zero_le _, Nat.le_refl _, Nat.zero_le _, rfl, rfl, rfl, World.ownsRow_nil _ _ _ _, Nat.zero_le _, Below.refl _ _, HR⟩
  case round =>
    clear HR
    obtain ⟨k, u, out, ta, tc, hk, huk, hua, rfl, rfl, rfl, HO, ho, HB, HF⟩ := hrel
    by_cases hlt : k < s.size
    · have hlt' : ((k : Nat) : Int) < (s.size : Int) := by omega
      have hF := HF.out
      rw [drop_at s k hlt, show s.size - k = (s.size - (k + 1)) + 1 by omega, fmtF_step, firstV_cons, ← drop_at s k hlt] at hF
      clear HF
      by_cases h37 : s[k].toNat ≠ 37
      · have h37' : ((s[k].toNat : Int) == 37) = false := by simp only [beq_eq_false_iff_ne, ne_eq]; omega
        have hr := hF
        rw [if_pos h37] at hr
        simp only [ne_eq, not_true_eq_false, if_false] at hr
        have HXD : Hid ((s.extract k (k + 1)).data.toList = [s[k]]) := by show _ = _; rw [ext_list, drop_at s k hlt]; simp
        have HXS : Hid ((s.extract k (k + 1)).size = [s[k]].length) := by show _ = _; rw [← HXD.out, Array.length_toList]; rfl
        clear hF h37
        by_cases hlg : 65536 < out.length + ([s[k]]).length
        · rw [if_pos hlg] at hr
          subst hr
          go_upto_region 23 with fail
          have HO3 := HO
          generalize (s.extract k (k + 1)) = X at *
          have hxb : X.size ≤ 4611686018427387904 := by rw [HXS.out]; simp
          have hl2 : (65536 : Int) < (out.length : Int) + (X.size : Int) := by rw [HXS.out]; omega
          go_wp2
          go_ret3
          exact ⟨_, rfl, World.ownsRow_nil _ _ _ _, HB.out⟩
        · rw [if_neg hlg] at hr
          have HR2 := hide hr
          clear hr
          go_upto_region 23 with fail
          have HO3 := HO
          generalize (s.extract k (k + 1)) = X at *
          have hxb : X.size ≤ 4611686018427387904 := by rw [HXS.out]; simp
          have hl2 : ¬ ((65536 : Int) < (out.length : Int) + (X.size : Int)) := by rw [HXS.out]; omega
          have hO3 := HO3.out
          have hbase := HB.out.size
          go_upto_region 26 with (at_builtin; refine Lib.wpList_append_own_string _ rfl _ _ _ _ rfl w.heap.size 5 i0 Tryd.underlying24 Tryd.underlying9 hi hz0 hz1 hz2 _ out.length _ rfl hO3 X rfl (by unfold maxLen; omega) (by omega) hbase ?_; intro v4 w4 hO4 hG4 hI4)
          obtain ⟨a4, c4, rfl⟩ := owns_slice hO4
          have HB4 := hide (HB.out.grown hG4 hbase (fun j e => (owns_base hO3 j e).1))
          have hlen : out.length + X.size = (out ++ [s[k]]).length := by rw [List.length_append, HXS.out]
          have HO5 : Hid (w4.ownsRow w.heap.size 5 1 (.slice a4 (out ++ [s[k]]).length c4) (out ++ [s[k]]).length ((out ++ [s[k]]).map bv)) := by
            have q := hO4
            rw [strCells_bv, HXD.out, ← List.map_append, hlen] at q
            exact q
          have hR3 := HR2.out
          rw [List.drop_drop] at hR3
          try rw [List.drop_drop] at hR3
          have HR3 : Hid (fmtF (s.size - (k + 1)) (s.data.toList.drop (k + 1)) (aa.drop (u + 0)) (k + 1) (out ++ [s[k]]) = R) := by
            refine Eq.trans ?_ hR3
            have hq : (s.data.toList.drop (k + 1)).length = s.size - (k + 1) := by rw [drop_len]; rw [show s.data.toList.length = s.size by rw [Array.length_toList]; rfl]
            exact fmtF_fuel _ _ _ _ _ _ (by omega) (by omega)
          have HLE := hide hlen
          have hlen2 : (out ++ [s[k]]).length ≤ 65536 := by rw [List.length_append]; omega
          have HLE2 := hide hlen2
          clear hO4 hR3 HR2 hlen hlen2 hI4 hO3
          go_wp2
          refine ⟨⟨k + 1, u + 0, out ++ [s[k]], a4, c4, by omega, by omega, by omega, by go_num, by go_num, by rw [← HLE.out], HO5, HLE2.out, HB4, HR3⟩, ?_⟩
          simp [intOf]; omega
      · have h37' : ((s[k].toNat : Int) == 37) = true := by simp only [beq_iff_eq]; omega
        have h37n : s[k].toNat = 37 := by omega
        rw [if_neg h37] at hF
        have hRd := rread s k wr (by omega) hlt h37n
        have hPL := fun d n => @pdir_len (s.data.toList.drop k) d n
        have HPL := hide hPL
        have hPV := fun d n => @pdir_verb (s.data.toList.drop k) d n
        have HPV := hide hPV
        clear hPL hPV
        clear h37 h37n
        generalize pdir (s.data.toList.drop k) = D at *
        cases D with
        | none =>
          have hr := hF
          simp only [ne_eq] at hr
          rw [if_pos (by decide)] at hr
          subst hr
          have HRd := hide hRd
          clear hRd hF
          go_wp2_with fail
          refine HRd.out.mono ?_
          rintro _ w2 ⟨⟨d, rfl, -⟩, hB2⟩
          unfold RD_.cells
          have HB2 := hide (HB.out.trans (hB2.mono HB.out.size))
          clear hB2
          go_wp2
          go_ret3
          exact ⟨_, rfl, World.ownsRow_nil _ _ _ _, HB2.out.trans ((fm_below _ _).mono HB2.out.size)⟩
        | some p =>
          obtain ⟨x, n⟩ := p
          obtain ⟨hn1, hn2, hwd, hpr, hpp⟩ := HPL.out x n rfl
          have hpv := HPV.out x n rfl
          rw [drop_len, show s.data.toList.length = s.size by rw [Array.length_toList]; rfl] at hn2
          have hRd2 : Calls Tryd.prog 25 #[.string s, .int .i64 (k : Int)] wr fun e w' => e = .returned (.tuple #[.agg #[.bool (x.has 1), .bool (x.has 2), .bool (x.has 4), .bool (x.has 8), .int .i64 (x.wd : Int), .int .i64 x.prI, .int .u8 (x.verb.toNat : Int), .int .i64 ((k : Int) + (n : Int))], .bool true]) ∧ Below wr.heap.size wr w' := hRd.mono (by
            rintro _ _ ⟨⟨d, rfl, hd⟩, hB⟩
            rw [hd x n rfl]
            exact ⟨rfl, hB⟩)
          have HRd := hide hRd2
          clear hRd hRd2 HPL HPV
          rcases Nat.lt_or_ge 0 0 with h0 | -
          · exact absurd h0 (Nat.lt_irrefl 0)
          by_cases hv : x.verb.toNat = 37
          · have hk0 : kOf (x.verb.toNat : Int) = 0 := by rw [hv]; rfl
            have hv' : ((x.verb.toNat : Int) != 37) = false := by rw [hv]; rfl
            have hr := hF
            simp only at hr
            rw [if_pos hk0] at hr
            simp only [ne_eq, not_true_eq_false, if_false] at hr
            clear hF hk0 hv
            by_cases hlg : 65536 < out.length + ([(37 : UInt8)]).length
            · rw [if_pos hlg] at hr
              subst hr
              go_upto_region 11 with (first | (go_at_call 25; refine HRd.out.mono ?_; rintro _ w2 ⟨rfl, hB2⟩) | fail)
              have hN := heap_alloc_new w2 (.cells #[.bool (x.has 1), .bool (x.has 2), .bool (x.has 4), .bool (x.has 8), .int .i64 (x.wd : Int), .int .i64 x.prI, .int .u8 (x.verb.toNat : Int), .int .i64 ((k : Int) + (n : Int))] 55)
              have hB3 := hB2.trans ((fm_below w2 (.cells #[.bool (x.has 1), .bool (x.has 2), .bool (x.has 4), .bool (x.has 8), .int .i64 (x.wd : Int), .int .i64 x.prI, .int .u8 (x.verb.toNat : Int), .int .i64 ((k : Int) + (n : Int))] 55)).mono hB2.size)
              have HB3 := hide (HB.out.trans (hB3.mono HB.out.size))
              have HO3 := hide (owns_below HO.out hB3)
              have HW3 := hide hB3
              have HD := hide (show DB (w2.alloc _) w2.heap.size ⟨x.has 1, x.has 2, x.has 4, x.has 8, x.wd, x.prI, x.verb.toNat, ((k : Int) + (n : Int))⟩ from hN)
              clear hN hB3
              generalize w2.alloc (.cells #[.bool (x.has 1), .bool (x.has 2), .bool (x.has 4), .bool (x.has 8), .int .i64 (x.wd : Int), .int .i64 x.prI, .int .u8 (x.verb.toNat : Int), .int .i64 ((k : Int) + (n : Int))] 55) = w3 at *
              clear hB2
              obtain ⟨c0, c1, c2, c3, c4, c5, c6, c7⟩ := HD.out.cs
              simp only at c0 c1 c2 c3 c4 c5 c6 c7

              go_upto_region 23 with fail
              have HXD : Hid ((⟨#[37]⟩ : ByteArray).data.toList = [37]) := rfl
              have HXS : Hid ((⟨#[37]⟩ : ByteArray).size = [(37 : UInt8)].length) := rfl
              generalize (⟨#[37]⟩ : ByteArray) = X at *
              have hxb : X.size ≤ 4611686018427387904 := by rw [HXS.out]; simp
              have hl2 : (65536 : Int) < (out.length : Int) + (X.size : Int) := by rw [HXS.out]; omega
              go_wp2
              go_ret3
              exact ⟨_, rfl, World.ownsRow_nil _ _ _ _, HB3.out⟩
            · rw [if_neg hlg] at hr
              have HR2 := hide hr
              clear hr
              go_upto_region 11 with (first | (go_at_call 25; refine HRd.out.mono ?_; rintro _ w2 ⟨rfl, hB2⟩) | fail)
              have hN := heap_alloc_new w2 (.cells #[.bool (x.has 1), .bool (x.has 2), .bool (x.has 4), .bool (x.has 8), .int .i64 (x.wd : Int), .int .i64 x.prI, .int .u8 (x.verb.toNat : Int), .int .i64 ((k : Int) + (n : Int))] 55)
              have hB3 := hB2.trans ((fm_below w2 (.cells #[.bool (x.has 1), .bool (x.has 2), .bool (x.has 4), .bool (x.has 8), .int .i64 (x.wd : Int), .int .i64 x.prI, .int .u8 (x.verb.toNat : Int), .int .i64 ((k : Int) + (n : Int))] 55)).mono hB2.size)
              have HB3 := hide (HB.out.trans (hB3.mono HB.out.size))
              have HO3 := hide (owns_below HO.out hB3)
              have HW3 := hide hB3
              have HD := hide (show DB (w2.alloc _) w2.heap.size ⟨x.has 1, x.has 2, x.has 4, x.has 8, x.wd, x.prI, x.verb.toNat, ((k : Int) + (n : Int))⟩ from hN)
              clear hN hB3
              generalize w2.alloc (.cells #[.bool (x.has 1), .bool (x.has 2), .bool (x.has 4), .bool (x.has 8), .int .i64 (x.wd : Int), .int .i64 x.prI, .int .u8 (x.verb.toNat : Int), .int .i64 ((k : Int) + (n : Int))] 55) = w3 at *
              clear hB2
              obtain ⟨c0, c1, c2, c3, c4, c5, c6, c7⟩ := HD.out.cs
              simp only at c0 c1 c2 c3 c4 c5 c6 c7

              go_upto_region 23 with fail
              have HXD : Hid ((⟨#[37]⟩ : ByteArray).data.toList = [37]) := rfl
              have HXS : Hid ((⟨#[37]⟩ : ByteArray).size = [(37 : UInt8)].length) := rfl
              generalize (⟨#[37]⟩ : ByteArray) = X at *
              have hxb : X.size ≤ 4611686018427387904 := by rw [HXS.out]; simp
              have hl2 : ¬ ((65536 : Int) < (out.length : Int) + (X.size : Int)) := by rw [HXS.out]; omega
              have hO3 := HO3.out
              have hbase := HB3.out.size
              go_upto_region 26 with (at_builtin; refine Lib.wpList_append_own_string _ rfl _ _ _ _ rfl w.heap.size 5 i0 Tryd.underlying24 Tryd.underlying9 hi hz0 hz1 hz2 _ out.length _ rfl hO3 X rfl (by unfold maxLen; omega) (by omega) hbase ?_; intro v4 w4 hO4 hG4 hI4)
              obtain ⟨a4, c4, rfl⟩ := owns_slice hO4
              have HB4 := hide (HB3.out.grown hG4 hbase (fun j e => (owns_base hO3 j e).1))
              have hlen : out.length + X.size = (out ++ [(37 : UInt8)]).length := by rw [List.length_append, HXS.out]
              have HO5 : Hid (w4.ownsRow w.heap.size 5 1 (.slice a4 (out ++ [(37 : UInt8)]).length c4) (out ++ [(37 : UInt8)]).length ((out ++ [(37 : UInt8)]).map bv)) := by
                have q := hO4
                rw [strCells_bv, HXD.out, ← List.map_append, hlen] at q
                exact q
              have hR3 := HR2.out
              rw [List.drop_drop] at hR3
              try rw [List.drop_drop] at hR3
              have HR3 : Hid (fmtF (s.size - (k + n)) (s.data.toList.drop (k + n)) (aa.drop (u + 0)) (k + n) (out ++ [(37 : UInt8)]) = R) := by
                refine Eq.trans ?_ hR3
                have hq : (s.data.toList.drop (k + n)).length = s.size - (k + n) := by rw [drop_len]; rw [show s.data.toList.length = s.size by rw [Array.length_toList]; rfl]
                exact fmtF_fuel _ _ _ _ _ _ (by omega) (by omega)
              have HLE := hide hlen
              have hlen2 : (out ++ [(37 : UInt8)]).length ≤ 65536 := by rw [List.length_append]; omega
              have HLE2 := hide hlen2
              clear hO4 hR3 HR2 hlen hlen2 hI4 hO3
              go_wp2
              refine ⟨⟨k + n, u + 0, out ++ [(37 : UInt8)], a4, c4, by omega, by omega, by omega, by go_num, by go_num, by rw [← HLE.out], HO5, HLE2.out, HB4, HR3⟩, ?_⟩
              simp [intOf]; omega
          · have hk0 : ¬ kOf (x.verb.toNat : Int) = 0 := hpv.resolve_left hv
            have hv' : ((x.verb.toNat : Int) != 37) = true := by simp only [bne_iff_ne, ne_eq]; omega
            have hr := hF
            simp only at hr
            rw [if_neg hk0] at hr
            clear hF
            by_cases hul : u = aa.length
            · rw [List.drop_eq_nil_of_le (by omega)] at hr
              simp only [ne_eq] at hr
              rw [if_pos (by decide)] at hr
              subst hr
              have hu' : ((aa.length : Nat) : Int) ≤ (u : Int) := by omega
              go_upto_region 11 with (first | (go_at_call 25; refine HRd.out.mono ?_; rintro _ w2 ⟨rfl, hB2⟩) | fail)
              have hN := heap_alloc_new w2 (.cells #[.bool (x.has 1), .bool (x.has 2), .bool (x.has 4), .bool (x.has 8), .int .i64 (x.wd : Int), .int .i64 x.prI, .int .u8 (x.verb.toNat : Int), .int .i64 ((k : Int) + (n : Int))] 55)
              have hB3 := hB2.trans ((fm_below w2 (.cells #[.bool (x.has 1), .bool (x.has 2), .bool (x.has 4), .bool (x.has 8), .int .i64 (x.wd : Int), .int .i64 x.prI, .int .u8 (x.verb.toNat : Int), .int .i64 ((k : Int) + (n : Int))] 55)).mono hB2.size)
              have HB3 := hide (HB.out.trans (hB3.mono HB.out.size))
              have HO3 := hide (owns_below HO.out hB3)
              have HW3 := hide hB3
              have HD := hide (show DB (w2.alloc _) w2.heap.size ⟨x.has 1, x.has 2, x.has 4, x.has 8, x.wd, x.prI, x.verb.toNat, ((k : Int) + (n : Int))⟩ from hN)
              clear hN hB3
              generalize w2.alloc (.cells #[.bool (x.has 1), .bool (x.has 2), .bool (x.has 4), .bool (x.has 8), .int .i64 (x.wd : Int), .int .i64 x.prI, .int .u8 (x.verb.toNat : Int), .int .i64 ((k : Int) + (n : Int))] 55) = w3 at *
              clear hB2
              obtain ⟨c0, c1, c2, c3, c4, c5, c6, c7⟩ := HD.out.cs
              simp only at c0 c1 c2 c3 c4 c5 c6 c7
              go_wp2
              go_ret3
              exact ⟨_, rfl, World.ownsRow_nil _ _ _ _, HB3.out⟩
            · have hul2 : u < aa.length := by omega
              have hu' : ¬ ((aa.length : Nat) : Int) ≤ (u : Int) := by omega
              have ed : aa.drop u = aa[u] :: aa.drop (u + 1) := List.drop_eq_getElem_cons hul2
              have hbx : AB aa[u] := HVB.out _ (List.getElem_mem hul2)
              have hAU : ∃ b off, va1 = some ⟨b, off, none⟩ ∧ AH w b (off + u * 4) aa[u] := by
                obtain ⟨a', c', he, -, hd, -⟩ := HA.out
                cases he
                obtain ⟨b, off, e, h⟩ := hd (by omega)
                exact ⟨b, off, e, h u hul2⟩
              obtain ⟨b, off, rfl, hA1⟩ := hAU
              have hA2 := hA1.below HB.out
              have HA2 := hide hA2
              rw [ed] at hr
              simp only at hr
              have hxl := HSH.out x hwd hpr (aa[u]'hul2) (List.getElem_mem hul2)
              have hOne := fun h3 W => rone x (k + n) (aa[u]'hul2) W hk0 hwd hpr hpp hbx h3
              generalize aa[u] = A at *
              have hOne2 : (x.verb = 99 → A.uint ≤ 255) → ∀ W, Calls Tryd.prog 27 #[.agg #[.bool (x.has 1), .bool (x.has 2), .bool (x.has 4), .bool (x.has 8), .int .i64 (x.wd : Int), .int .i64 x.prI, .int .u8 (x.verb.toNat : Int), .int .i64 ((k : Int) + (n : Int))], .agg #[.int .i64 A.kind, .int .i64 A.int, .int .u64 A.uint, .string A.text]] W fun e w' => e = .returned (.string ⟨(x.shown A).toArray⟩) ∧ Below W.heap.size W w' := hOne
              have HOne := hide hOne2
              have hkr := kR_is hk0
              have hio := @isOf_k A x.verb
              rw [← hkr] at hio
              have HKR : Hid (kR (x.verb.toNat : Int) = kR (x.verb.toNat : Int)) := rfl
              obtain ⟨kv, hkv⟩ : ∃ kv, kR (x.verb.toNat : Int) = kv := ⟨_, rfl⟩
              have HKV := hide hkv
              have h99 : x.verb = 99 → kv = 3 := by intro e; rw [← hkv, e]; rfl
              rw [hkv] at hio
              clear hA1 hA2 ed hOne hOne2 hkr hkv hk0 HKR
              by_cases q1 : A.kind = kv
              · have hq1 : (A.kind != kv) = false := by simpa using q1
                by_cases q2 : A.kind = 3
                · have hq2 : (A.kind == 3) = true := by simpa using q2
                  by_cases q3 : A.uint ≤ 255
                  · have hq3 : ¬ (255 : Int) < A.uint := by omega
                    have hio1 := hio.2 ⟨q1, fun _ => q3⟩
                    have h3 : x.verb = 99 → A.uint ≤ 255 := fun _ => q3
                    clear hio q1 q2 q3 h99
                    rw [if_pos hio1] at hr
                    simp only [ne_eq, not_true_eq_false, if_false] at hr
                    have HXL := hide hxl
                    have HONE := hide (HOne.out h3)
                    clear hxl HOne h3 hio1
                    by_cases hlg : 65536 < out.length + ((x.shown A)).length
                    · rw [if_pos hlg] at hr
                      subst hr
                      go_upto_region 11 with (first | (go_at_call 25; refine HRd.out.mono ?_; rintro _ w2 ⟨rfl, hB2⟩) | fail)
                      have hN := heap_alloc_new w2 (.cells #[.bool (x.has 1), .bool (x.has 2), .bool (x.has 4), .bool (x.has 8), .int .i64 (x.wd : Int), .int .i64 x.prI, .int .u8 (x.verb.toNat : Int), .int .i64 ((k : Int) + (n : Int))] 55)
                      have hB3 := hB2.trans ((fm_below w2 (.cells #[.bool (x.has 1), .bool (x.has 2), .bool (x.has 4), .bool (x.has 8), .int .i64 (x.wd : Int), .int .i64 x.prI, .int .u8 (x.verb.toNat : Int), .int .i64 ((k : Int) + (n : Int))] 55)).mono hB2.size)
                      have HB3 := hide (HB.out.trans (hB3.mono HB.out.size))
                      have HO3 := hide (owns_below HO.out hB3)
                      have HW3 := hide hB3
                      have HD := hide (show DB (w2.alloc _) w2.heap.size ⟨x.has 1, x.has 2, x.has 4, x.has 8, x.wd, x.prI, x.verb.toNat, ((k : Int) + (n : Int))⟩ from hN)
                      clear hN hB3
                      generalize w2.alloc (.cells #[.bool (x.has 1), .bool (x.has 2), .bool (x.has 4), .bool (x.has 8), .int .i64 (x.wd : Int), .int .i64 x.prI, .int .u8 (x.verb.toNat : Int), .int .i64 ((k : Int) + (n : Int))] 55) = w3 at *
                      clear hB2
                      obtain ⟨c0, c1, c2, c3, c4, c5, c6, c7⟩ := HD.out.cs
                      simp only at c0 c1 c2 c3 c4 c5 c6 c7
                      have HA3 := hide (HA2.out.below HW3.out)
                      obtain ⟨b0, b1, b2, b3⟩ := HA3.out
                      go_upto_region 20 with fail
                      have hC := AgAt.new w3 A
                      have hBn := fm_below w3 (.cells #[.int .i64 A.kind, .int .i64 A.int, .int .u64 A.uint, .string A.text] 37)
                      have HB4 := hide (HB3.out.trans (hBn.mono HB3.out.size))
                      have HO4 := hide (owns_below HO3.out hBn)
                      have HD4 := hide (HD.out.below hBn)
                      have HA4 := hide hC
                      clear c0 c1 c2 c3 c4 c5 c6 c7 b0 b1 b2 b3 hBn hC
                      generalize w3.alloc (.cells #[.int .i64 A.kind, .int .i64 A.int, .int .u64 A.uint, .string A.text] 37) = w4 at *
                      have hS : w4.drew.cell? ⟨w2.heap.size, 6, none⟩ = some (.int .u8 (x.verb.toNat : Int)) ∧ w4.drew.cell? ⟨w3.heap.size, 0, none⟩ = some (.int .i64 A.kind) ∧ w4.drew.cell? ⟨w3.heap.size, 2, none⟩ = some (.int .u64 A.uint) := ⟨HD4.out.cs.2.2.2.2.2.2.1, HA4.out.c0, HA4.out.c2⟩
                      have HS := hide hS
                      clear hS
                      refine wp_region_noPanic ?_
                      refine wp_region_held_drew (S := fun W => W.cell? ⟨w2.heap.size, 6, none⟩ = some (.int .u8 (x.verb.toNat : Int)) ∧ W.cell? ⟨w3.heap.size, 0, none⟩ = some (.int .i64 A.kind) ∧ W.cell? ⟨w3.heap.size, 2, none⟩ = some (.int .u64 A.uint)) (by kernel_rfl) (HS.out) (fun hHeld => ?_)
                      refine wpAnyH_take (i := 0) (oi := ?_) (v := ?_) ?_ (by kernel_rfl) (by kernel_rfl) (by kernel_rfl) (fun _ _ _ h => (h : False).elim) (Or.inl ⟨?_, ?_⟩) hHeld ?_
                      rotate_left 2
                      · (simp only [List.getElem?_toArray, List.getElem?_cons_zero]; rfl)
                      · rfl
                      · (intro W hSw; obtain ⟨m0, m1, m2⟩ := hSw; go_simp <;> with_reducible rfl)
                      try simp only [Act.put, List.setIfInBounds_toArray, List.set_cons_zero, List.set_cons_succ]
                      refine wpAnyH_take (i := 1) (oi := ?_) (v := ?_) ?_ (by kernel_rfl) (by kernel_rfl) (by kernel_rfl) (fun _ _ _ h => (h : False).elim) (Or.inl ⟨?_, ?_⟩) hHeld ?_
                      rotate_left 2
                      · (simp only [List.getElem?_toArray, List.getElem?_cons_zero, List.getElem?_cons_succ]; rfl)
                      · rfl
                      · (intro W hSw; obtain ⟨m0, m1, m2⟩ := hSw; go_simp <;> with_reducible rfl)
                      try simp only [Act.put, List.setIfInBounds_toArray, List.set_cons_zero, List.set_cons_succ]
                      refine wpAnyH_take (i := 2) (oi := ?_) (v := ?_) ?_ (by kernel_rfl) (by kernel_rfl) (by kernel_rfl) (fun _ _ _ h => (h : False).elim) (Or.inl ⟨?_, ?_⟩) hHeld ?_
                      rotate_left 2
                      · (simp only [List.getElem?_toArray, List.getElem?_cons_zero, List.getElem?_cons_succ]; rfl)
                      · rfl
                      · (intro W hSw; obtain ⟨m0, m1, m2⟩ := hSw; go_simp <;> with_reducible rfl)
                      try simp only [Act.put, List.setIfInBounds_toArray, List.set_cons_zero, List.set_cons_succ]
                      refine wpAnyH_take (i := 3) (oi := ?_) (v := ?_) ?_ (by kernel_rfl) (by kernel_rfl) (by kernel_rfl) (fun _ _ _ h => (h : False).elim) (Or.inl ⟨?_, ?_⟩) hHeld ?_
                      rotate_left 2
                      · (simp only [List.getElem?_toArray, List.getElem?_cons_zero, List.getElem?_cons_succ]; rfl)
                      · rfl
                      · (intro W hSw; obtain ⟨m0, m1, m2⟩ := hSw; go_simp <;> with_reducible rfl)
                      try simp only [Act.put, List.setIfInBounds_toArray, List.set_cons_zero, List.set_cons_succ]
                      refine wpAnyH_ready (rs := [4]) (by kernel_rfl) (by simp) ?_
                      refine AllReadyH.cons (o := ?_) ?_ (fun K' hK => ?_) AllReadyH.nil
                      rotate_left 1
                      · (simp only [List.getElem?_toArray, List.getElem?_cons_zero, List.getElem?_cons_succ]; rfl)
                      go_simp
                      go_at_call 26; refine (rkind _ _).mono ?_; rintro _ _ ⟨rfl, rfl⟩; rw [HKV.out]
                      refine hK.out _ _ (HS.out) (fun hHeld2 => ?_)
                      clear hK K' hHeld
                      have hHeld := hHeld2
                      clear hHeld2
                      try simp only [Act.put, List.setIfInBounds_toArray, List.set_cons_zero, List.set_cons_succ]
                      refine wpAnyH_take (i := 5) (oi := ?_) (v := ?_) ?_ (by kernel_rfl) (by kernel_rfl) (by kernel_rfl) (fun _ _ _ h => (h : False).elim) (Or.inl ⟨?_, ?_⟩) hHeld ?_
                      rotate_left 2
                      · (simp only [List.getElem?_toArray, List.getElem?_cons_zero, List.getElem?_cons_succ]; rfl)
                      · rfl
                      · (intro W hSw; obtain ⟨m0, m1, m2⟩ := hSw; go_simp <;> with_reducible rfl)
                      try simp only [Act.put, List.setIfInBounds_toArray, List.set_cons_zero, List.set_cons_succ]
                      refine wpAnyH_take (i := 6) (oi := ?_) (v := ?_) ?_ (by kernel_rfl) (by kernel_rfl) (by kernel_rfl) (fun _ _ _ h => (h : False).elim) (Or.inl ⟨?_, ?_⟩) hHeld ?_
                      rotate_left 2
                      · (simp only [List.getElem?_toArray, List.getElem?_cons_zero, List.getElem?_cons_succ]; rfl)
                      · rfl
                      · (intro W hSw; obtain ⟨m0, m1, m2⟩ := hSw; go_simp <;> with_reducible rfl)
                      try simp only [Act.put, List.setIfInBounds_toArray, List.set_cons_zero, List.set_cons_succ]
                      refine wpAnyH_take (i := 7) (oi := ?_) (v := ?_) ?_ (by kernel_rfl) (by kernel_rfl) (by kernel_rfl) (fun _ _ _ h => (h : False).elim) (Or.inl ⟨?_, ?_⟩) hHeld ?_
                      rotate_left 2
                      · (simp only [List.getElem?_toArray, List.getElem?_cons_zero, List.getElem?_cons_succ]; rfl)
                      · rfl
                      · (intro W hSw; obtain ⟨m0, m1, m2⟩ := hSw; go_simp <;> with_reducible rfl)
                      try simp only [Act.put, List.setIfInBounds_toArray, List.set_cons_zero, List.set_cons_succ]
                      refine wpAnyH_take (i := 8) (oi := ?_) (v := ?_) ?_ (by kernel_rfl) (by kernel_rfl) (by kernel_rfl) (fun _ _ _ h => (h : False).elim) (Or.inl ⟨?_, ?_⟩) hHeld ?_
                      rotate_left 2
                      · (simp only [List.getElem?_toArray, List.getElem?_cons_zero, List.getElem?_cons_succ]; rfl)
                      · rfl
                      · (intro W hSw; obtain ⟨m0, m1, m2⟩ := hSw; go_simp <;> with_reducible rfl)
                      try simp only [Act.put, List.setIfInBounds_toArray, List.set_cons_zero, List.set_cons_succ]
                      refine wpAnyH_take (i := 9) (oi := ?_) (v := ?_) ?_ (by kernel_rfl) (by kernel_rfl) (by kernel_rfl) (fun _ _ _ h => (h : False).elim) (Or.inl ⟨?_, ?_⟩) hHeld ?_
                      rotate_left 2
                      · (simp only [List.getElem?_toArray, List.getElem?_cons_zero, List.getElem?_cons_succ]; rfl)
                      · rfl
                      · (intro W hSw; obtain ⟨m0, m1, m2⟩ := hSw; go_simp <;> with_reducible rfl)
                      try simp only [Act.put, List.setIfInBounds_toArray, List.set_cons_zero, List.set_cons_succ]
                      refine wpAnyH_take (i := 10) (oi := ?_) (v := ?_) ?_ (by kernel_rfl) (by kernel_rfl) (by kernel_rfl) (fun _ _ _ h => (h : False).elim) (Or.inl ⟨?_, ?_⟩) hHeld ?_
                      rotate_left 2
                      · (simp only [List.getElem?_toArray, List.getElem?_cons_zero, List.getElem?_cons_succ]; rfl)
                      · rfl
                      · (intro W hSw; obtain ⟨m0, m1, m2⟩ := hSw; go_simp <;> with_reducible rfl)
                      try simp only [Act.put, List.setIfInBounds_toArray, List.set_cons_zero, List.set_cons_succ]
                      refine wpAnyH_take (i := 11) (oi := ?_) (v := ?_) ?_ (by kernel_rfl) (by kernel_rfl) (by kernel_rfl) (fun _ _ _ h => (h : False).elim) (Or.inl ⟨?_, ?_⟩) hHeld ?_
                      rotate_left 2
                      · (simp only [List.getElem?_toArray, List.getElem?_cons_zero, List.getElem?_cons_succ]; rfl)
                      · rfl
                      · (intro W hSw; obtain ⟨m0, m1, m2⟩ := hSw; go_simp <;> with_reducible rfl)
                      try simp only [Act.put, List.setIfInBounds_toArray, List.set_cons_zero, List.set_cons_succ]
                      refine wpAnyH_take (i := 12) (oi := ?_) (v := ?_) ?_ (by kernel_rfl) (by kernel_rfl) (by kernel_rfl) (fun _ _ _ h => (h : False).elim) (Or.inl ⟨?_, ?_⟩) hHeld ?_
                      rotate_left 2
                      · (simp only [List.getElem?_toArray, List.getElem?_cons_zero, List.getElem?_cons_succ]; rfl)
                      · rfl
                      · (intro W hSw; obtain ⟨m0, m1, m2⟩ := hSw; go_simp <;> with_reducible rfl)
                      try simp only [Act.put, List.setIfInBounds_toArray, List.set_cons_zero, List.set_cons_succ]
                      refine wpAnyH_take (i := 13) (oi := ?_) (v := ?_) ?_ (by kernel_rfl) (by kernel_rfl) (by kernel_rfl) (fun _ _ _ h => (h : False).elim) (Or.inl ⟨?_, ?_⟩) hHeld ?_
                      rotate_left 2
                      · (simp only [List.getElem?_toArray, List.getElem?_cons_zero, List.getElem?_cons_succ]; rfl)
                      · rfl
                      · (intro W hSw; obtain ⟨m0, m1, m2⟩ := hSw; go_simp <;> with_reducible rfl)
                      try simp only [Act.put, List.setIfInBounds_toArray, List.set_cons_zero, List.set_cons_succ]
                      refine wpAnyH_take (i := 14) (oi := ?_) (v := ?_) ?_ (by kernel_rfl) (by kernel_rfl) (by kernel_rfl) (fun _ _ _ h => (h : False).elim) (Or.inl ⟨?_, ?_⟩) hHeld ?_
                      rotate_left 2
                      · (simp only [List.getElem?_toArray, List.getElem?_cons_zero, List.getElem?_cons_succ]; rfl)
                      · rfl
                      · (intro W hSw; obtain ⟨m0, m1, m2⟩ := hSw; go_simp <;> with_reducible rfl)
                      try simp only [Act.put, List.setIfInBounds_toArray, List.set_cons_zero, List.set_cons_succ]
                      refine wpAnyH_take (i := 15) (oi := ?_) (v := ?_) ?_ (by kernel_rfl) (by kernel_rfl) (by kernel_rfl) (fun _ _ _ h => (h : False).elim) (Or.inl ⟨?_, ?_⟩) hHeld ?_
                      rotate_left 2
                      · (simp only [List.getElem?_toArray, List.getElem?_cons_zero, List.getElem?_cons_succ]; rfl)
                      · rfl
                      · (intro W hSw; obtain ⟨m0, m1, m2⟩ := hSw; go_simp <;> with_reducible rfl)
                      try simp only [Act.put, List.setIfInBounds_toArray, List.set_cons_zero, List.set_cons_succ]
                      refine wpAnyH_done (by kernel_rfl) ?_ _
                      refine NoPanic.normal ?_
                      have HB5 := hide (HB4.out.drew)
                      have HD5 := hide (HD4.out.below (Below.refl w4.heap.size w4).drew)
                      have HA5 := hide (HA4.out.below (Below.refl w4.heap.size w4).drew)
                      have HO5 := hide (owns_below HO4.out (Below.refl w4.heap.size w4).drew)
                      clear HB4 HD4 HA4 HO4 HS HB3 HO3 HD HA3
                      obtain ⟨c0, c1, c2, c3, c4, c5, c6, c7⟩ := HD5.out.cs
                      obtain ⟨b0, b1, b2, b3⟩ := HA5.out
                      simp only at c0 c1 c2 c3 c4 c5 c6 c7
                      generalize w4.drew = w5 at *
                      go_upto_region 23 with (first | (go_at_call 27; refine (HONE.out _).mono ?_; rintro _ w6 ⟨rfl, hB6⟩) | fail)
                      have HB6 := hide (HB5.out.trans (hB6.mono HB5.out.size))
                      have HO3 := hide (owns_below HO5.out hB6)
                      have HXD : Hid ((⟨(x.shown A).toArray⟩ : ByteArray).data.toList = x.shown A) := rfl
                      have HXS : Hid ((⟨(x.shown A).toArray⟩ : ByteArray).size = (x.shown A).length) := rfl
                      clear hB6 c0 c1 c2 c3 c4 c5 c6 c7 b0 b1 b2 b3
                      generalize (⟨(x.shown A).toArray⟩ : ByteArray) = X at *
                      have hxb : X.size ≤ 4611686018427387904 := by rw [HXS.out]; exact HXL.out
                      have hl2 : (65536 : Int) < (out.length : Int) + (X.size : Int) := by rw [HXS.out]; omega
                      go_wp2
                      go_ret3
                      exact ⟨_, rfl, World.ownsRow_nil _ _ _ _, HB6.out⟩
                    · rw [if_neg hlg] at hr
                      have HR2 := hide hr
                      clear hr
                      go_upto_region 11 with (first | (go_at_call 25; refine HRd.out.mono ?_; rintro _ w2 ⟨rfl, hB2⟩) | fail)
                      have hN := heap_alloc_new w2 (.cells #[.bool (x.has 1), .bool (x.has 2), .bool (x.has 4), .bool (x.has 8), .int .i64 (x.wd : Int), .int .i64 x.prI, .int .u8 (x.verb.toNat : Int), .int .i64 ((k : Int) + (n : Int))] 55)
                      have hB3 := hB2.trans ((fm_below w2 (.cells #[.bool (x.has 1), .bool (x.has 2), .bool (x.has 4), .bool (x.has 8), .int .i64 (x.wd : Int), .int .i64 x.prI, .int .u8 (x.verb.toNat : Int), .int .i64 ((k : Int) + (n : Int))] 55)).mono hB2.size)
                      have HB3 := hide (HB.out.trans (hB3.mono HB.out.size))
                      have HO3 := hide (owns_below HO.out hB3)
                      have HW3 := hide hB3
                      have HD := hide (show DB (w2.alloc _) w2.heap.size ⟨x.has 1, x.has 2, x.has 4, x.has 8, x.wd, x.prI, x.verb.toNat, ((k : Int) + (n : Int))⟩ from hN)
                      clear hN hB3
                      generalize w2.alloc (.cells #[.bool (x.has 1), .bool (x.has 2), .bool (x.has 4), .bool (x.has 8), .int .i64 (x.wd : Int), .int .i64 x.prI, .int .u8 (x.verb.toNat : Int), .int .i64 ((k : Int) + (n : Int))] 55) = w3 at *
                      clear hB2
                      obtain ⟨c0, c1, c2, c3, c4, c5, c6, c7⟩ := HD.out.cs
                      simp only at c0 c1 c2 c3 c4 c5 c6 c7
                      have HA3 := hide (HA2.out.below HW3.out)
                      obtain ⟨b0, b1, b2, b3⟩ := HA3.out
                      go_upto_region 20 with fail
                      have hC := AgAt.new w3 A
                      have hBn := fm_below w3 (.cells #[.int .i64 A.kind, .int .i64 A.int, .int .u64 A.uint, .string A.text] 37)
                      have HB4 := hide (HB3.out.trans (hBn.mono HB3.out.size))
                      have HO4 := hide (owns_below HO3.out hBn)
                      have HD4 := hide (HD.out.below hBn)
                      have HA4 := hide hC
                      clear c0 c1 c2 c3 c4 c5 c6 c7 b0 b1 b2 b3 hBn hC
                      generalize w3.alloc (.cells #[.int .i64 A.kind, .int .i64 A.int, .int .u64 A.uint, .string A.text] 37) = w4 at *
                      have hS : w4.drew.cell? ⟨w2.heap.size, 6, none⟩ = some (.int .u8 (x.verb.toNat : Int)) ∧ w4.drew.cell? ⟨w3.heap.size, 0, none⟩ = some (.int .i64 A.kind) ∧ w4.drew.cell? ⟨w3.heap.size, 2, none⟩ = some (.int .u64 A.uint) := ⟨HD4.out.cs.2.2.2.2.2.2.1, HA4.out.c0, HA4.out.c2⟩
                      have HS := hide hS
                      clear hS
                      refine wp_region_noPanic ?_
                      refine wp_region_held_drew (S := fun W => W.cell? ⟨w2.heap.size, 6, none⟩ = some (.int .u8 (x.verb.toNat : Int)) ∧ W.cell? ⟨w3.heap.size, 0, none⟩ = some (.int .i64 A.kind) ∧ W.cell? ⟨w3.heap.size, 2, none⟩ = some (.int .u64 A.uint)) (by kernel_rfl) (HS.out) (fun hHeld => ?_)
                      refine wpAnyH_take (i := 0) (oi := ?_) (v := ?_) ?_ (by kernel_rfl) (by kernel_rfl) (by kernel_rfl) (fun _ _ _ h => (h : False).elim) (Or.inl ⟨?_, ?_⟩) hHeld ?_
                      rotate_left 2
                      · (simp only [List.getElem?_toArray, List.getElem?_cons_zero]; rfl)
                      · rfl
                      · (intro W hSw; obtain ⟨m0, m1, m2⟩ := hSw; go_simp <;> with_reducible rfl)
                      try simp only [Act.put, List.setIfInBounds_toArray, List.set_cons_zero, List.set_cons_succ]
                      refine wpAnyH_take (i := 1) (oi := ?_) (v := ?_) ?_ (by kernel_rfl) (by kernel_rfl) (by kernel_rfl) (fun _ _ _ h => (h : False).elim) (Or.inl ⟨?_, ?_⟩) hHeld ?_
                      rotate_left 2
                      · (simp only [List.getElem?_toArray, List.getElem?_cons_zero, List.getElem?_cons_succ]; rfl)
                      · rfl
                      · (intro W hSw; obtain ⟨m0, m1, m2⟩ := hSw; go_simp <;> with_reducible rfl)
                      try simp only [Act.put, List.setIfInBounds_toArray, List.set_cons_zero, List.set_cons_succ]
                      refine wpAnyH_take (i := 2) (oi := ?_) (v := ?_) ?_ (by kernel_rfl) (by kernel_rfl) (by kernel_rfl) (fun _ _ _ h => (h : False).elim) (Or.inl ⟨?_, ?_⟩) hHeld ?_
                      rotate_left 2
                      · (simp only [List.getElem?_toArray, List.getElem?_cons_zero, List.getElem?_cons_succ]; rfl)
                      · rfl
                      · (intro W hSw; obtain ⟨m0, m1, m2⟩ := hSw; go_simp <;> with_reducible rfl)
                      try simp only [Act.put, List.setIfInBounds_toArray, List.set_cons_zero, List.set_cons_succ]
                      refine wpAnyH_take (i := 3) (oi := ?_) (v := ?_) ?_ (by kernel_rfl) (by kernel_rfl) (by kernel_rfl) (fun _ _ _ h => (h : False).elim) (Or.inl ⟨?_, ?_⟩) hHeld ?_
                      rotate_left 2
                      · (simp only [List.getElem?_toArray, List.getElem?_cons_zero, List.getElem?_cons_succ]; rfl)
                      · rfl
                      · (intro W hSw; obtain ⟨m0, m1, m2⟩ := hSw; go_simp <;> with_reducible rfl)
                      try simp only [Act.put, List.setIfInBounds_toArray, List.set_cons_zero, List.set_cons_succ]
                      refine wpAnyH_ready (rs := [4]) (by kernel_rfl) (by simp) ?_
                      refine AllReadyH.cons (o := ?_) ?_ (fun K' hK => ?_) AllReadyH.nil
                      rotate_left 1
                      · (simp only [List.getElem?_toArray, List.getElem?_cons_zero, List.getElem?_cons_succ]; rfl)
                      go_simp
                      go_at_call 26; refine (rkind _ _).mono ?_; rintro _ _ ⟨rfl, rfl⟩; rw [HKV.out]
                      refine hK.out _ _ (HS.out) (fun hHeld2 => ?_)
                      clear hK K' hHeld
                      have hHeld := hHeld2
                      clear hHeld2
                      try simp only [Act.put, List.setIfInBounds_toArray, List.set_cons_zero, List.set_cons_succ]
                      refine wpAnyH_take (i := 5) (oi := ?_) (v := ?_) ?_ (by kernel_rfl) (by kernel_rfl) (by kernel_rfl) (fun _ _ _ h => (h : False).elim) (Or.inl ⟨?_, ?_⟩) hHeld ?_
                      rotate_left 2
                      · (simp only [List.getElem?_toArray, List.getElem?_cons_zero, List.getElem?_cons_succ]; rfl)
                      · rfl
                      · (intro W hSw; obtain ⟨m0, m1, m2⟩ := hSw; go_simp <;> with_reducible rfl)
                      try simp only [Act.put, List.setIfInBounds_toArray, List.set_cons_zero, List.set_cons_succ]
                      refine wpAnyH_take (i := 6) (oi := ?_) (v := ?_) ?_ (by kernel_rfl) (by kernel_rfl) (by kernel_rfl) (fun _ _ _ h => (h : False).elim) (Or.inl ⟨?_, ?_⟩) hHeld ?_
                      rotate_left 2
                      · (simp only [List.getElem?_toArray, List.getElem?_cons_zero, List.getElem?_cons_succ]; rfl)
                      · rfl
                      · (intro W hSw; obtain ⟨m0, m1, m2⟩ := hSw; go_simp <;> with_reducible rfl)
                      try simp only [Act.put, List.setIfInBounds_toArray, List.set_cons_zero, List.set_cons_succ]
                      refine wpAnyH_take (i := 7) (oi := ?_) (v := ?_) ?_ (by kernel_rfl) (by kernel_rfl) (by kernel_rfl) (fun _ _ _ h => (h : False).elim) (Or.inl ⟨?_, ?_⟩) hHeld ?_
                      rotate_left 2
                      · (simp only [List.getElem?_toArray, List.getElem?_cons_zero, List.getElem?_cons_succ]; rfl)
                      · rfl
                      · (intro W hSw; obtain ⟨m0, m1, m2⟩ := hSw; go_simp <;> with_reducible rfl)
                      try simp only [Act.put, List.setIfInBounds_toArray, List.set_cons_zero, List.set_cons_succ]
                      refine wpAnyH_take (i := 8) (oi := ?_) (v := ?_) ?_ (by kernel_rfl) (by kernel_rfl) (by kernel_rfl) (fun _ _ _ h => (h : False).elim) (Or.inl ⟨?_, ?_⟩) hHeld ?_
                      rotate_left 2
                      · (simp only [List.getElem?_toArray, List.getElem?_cons_zero, List.getElem?_cons_succ]; rfl)
                      · rfl
                      · (intro W hSw; obtain ⟨m0, m1, m2⟩ := hSw; go_simp <;> with_reducible rfl)
                      try simp only [Act.put, List.setIfInBounds_toArray, List.set_cons_zero, List.set_cons_succ]
                      refine wpAnyH_take (i := 9) (oi := ?_) (v := ?_) ?_ (by kernel_rfl) (by kernel_rfl) (by kernel_rfl) (fun _ _ _ h => (h : False).elim) (Or.inl ⟨?_, ?_⟩) hHeld ?_
                      rotate_left 2
                      · (simp only [List.getElem?_toArray, List.getElem?_cons_zero, List.getElem?_cons_succ]; rfl)
                      · rfl
                      · (intro W hSw; obtain ⟨m0, m1, m2⟩ := hSw; go_simp <;> with_reducible rfl)
                      try simp only [Act.put, List.setIfInBounds_toArray, List.set_cons_zero, List.set_cons_succ]
                      refine wpAnyH_take (i := 10) (oi := ?_) (v := ?_) ?_ (by kernel_rfl) (by kernel_rfl) (by kernel_rfl) (fun _ _ _ h => (h : False).elim) (Or.inl ⟨?_, ?_⟩) hHeld ?_
                      rotate_left 2
                      · (simp only [List.getElem?_toArray, List.getElem?_cons_zero, List.getElem?_cons_succ]; rfl)
                      · rfl
                      · (intro W hSw; obtain ⟨m0, m1, m2⟩ := hSw; go_simp <;> with_reducible rfl)
                      try simp only [Act.put, List.setIfInBounds_toArray, List.set_cons_zero, List.set_cons_succ]
                      refine wpAnyH_take (i := 11) (oi := ?_) (v := ?_) ?_ (by kernel_rfl) (by kernel_rfl) (by kernel_rfl) (fun _ _ _ h => (h : False).elim) (Or.inl ⟨?_, ?_⟩) hHeld ?_
                      rotate_left 2
                      · (simp only [List.getElem?_toArray, List.getElem?_cons_zero, List.getElem?_cons_succ]; rfl)
                      · rfl
                      · (intro W hSw; obtain ⟨m0, m1, m2⟩ := hSw; go_simp <;> with_reducible rfl)
                      try simp only [Act.put, List.setIfInBounds_toArray, List.set_cons_zero, List.set_cons_succ]
                      refine wpAnyH_take (i := 12) (oi := ?_) (v := ?_) ?_ (by kernel_rfl) (by kernel_rfl) (by kernel_rfl) (fun _ _ _ h => (h : False).elim) (Or.inl ⟨?_, ?_⟩) hHeld ?_
                      rotate_left 2
                      · (simp only [List.getElem?_toArray, List.getElem?_cons_zero, List.getElem?_cons_succ]; rfl)
                      · rfl
                      · (intro W hSw; obtain ⟨m0, m1, m2⟩ := hSw; go_simp <;> with_reducible rfl)
                      try simp only [Act.put, List.setIfInBounds_toArray, List.set_cons_zero, List.set_cons_succ]
                      refine wpAnyH_take (i := 13) (oi := ?_) (v := ?_) ?_ (by kernel_rfl) (by kernel_rfl) (by kernel_rfl) (fun _ _ _ h => (h : False).elim) (Or.inl ⟨?_, ?_⟩) hHeld ?_
                      rotate_left 2
                      · (simp only [List.getElem?_toArray, List.getElem?_cons_zero, List.getElem?_cons_succ]; rfl)
                      · rfl
                      · (intro W hSw; obtain ⟨m0, m1, m2⟩ := hSw; go_simp <;> with_reducible rfl)
                      try simp only [Act.put, List.setIfInBounds_toArray, List.set_cons_zero, List.set_cons_succ]
                      refine wpAnyH_take (i := 14) (oi := ?_) (v := ?_) ?_ (by kernel_rfl) (by kernel_rfl) (by kernel_rfl) (fun _ _ _ h => (h : False).elim) (Or.inl ⟨?_, ?_⟩) hHeld ?_
                      rotate_left 2
                      · (simp only [List.getElem?_toArray, List.getElem?_cons_zero, List.getElem?_cons_succ]; rfl)
                      · rfl
                      · (intro W hSw; obtain ⟨m0, m1, m2⟩ := hSw; go_simp <;> with_reducible rfl)
                      try simp only [Act.put, List.setIfInBounds_toArray, List.set_cons_zero, List.set_cons_succ]
                      refine wpAnyH_take (i := 15) (oi := ?_) (v := ?_) ?_ (by kernel_rfl) (by kernel_rfl) (by kernel_rfl) (fun _ _ _ h => (h : False).elim) (Or.inl ⟨?_, ?_⟩) hHeld ?_
                      rotate_left 2
                      · (simp only [List.getElem?_toArray, List.getElem?_cons_zero, List.getElem?_cons_succ]; rfl)
                      · rfl
                      · (intro W hSw; obtain ⟨m0, m1, m2⟩ := hSw; go_simp <;> with_reducible rfl)
                      try simp only [Act.put, List.setIfInBounds_toArray, List.set_cons_zero, List.set_cons_succ]
                      refine wpAnyH_done (by kernel_rfl) ?_ _
                      refine NoPanic.normal ?_
                      have HB5 := hide (HB4.out.drew)
                      have HD5 := hide (HD4.out.below (Below.refl w4.heap.size w4).drew)
                      have HA5 := hide (HA4.out.below (Below.refl w4.heap.size w4).drew)
                      have HO5 := hide (owns_below HO4.out (Below.refl w4.heap.size w4).drew)
                      clear HB4 HD4 HA4 HO4 HS HB3 HO3 HD HA3
                      obtain ⟨c0, c1, c2, c3, c4, c5, c6, c7⟩ := HD5.out.cs
                      obtain ⟨b0, b1, b2, b3⟩ := HA5.out
                      simp only at c0 c1 c2 c3 c4 c5 c6 c7
                      generalize w4.drew = w5 at *
                      go_upto_region 23 with (first | (go_at_call 27; refine (HONE.out _).mono ?_; rintro _ w6 ⟨rfl, hB6⟩) | fail)
                      have HB6 := hide (HB5.out.trans (hB6.mono HB5.out.size))
                      have HO3 := hide (owns_below HO5.out hB6)
                      have HXD : Hid ((⟨(x.shown A).toArray⟩ : ByteArray).data.toList = x.shown A) := rfl
                      have HXS : Hid ((⟨(x.shown A).toArray⟩ : ByteArray).size = (x.shown A).length) := rfl
                      clear hB6 c0 c1 c2 c3 c4 c5 c6 c7 b0 b1 b2 b3
                      generalize (⟨(x.shown A).toArray⟩ : ByteArray) = X at *
                      have hxb : X.size ≤ 4611686018427387904 := by rw [HXS.out]; exact HXL.out
                      have hl2 : ¬ ((65536 : Int) < (out.length : Int) + (X.size : Int)) := by rw [HXS.out]; omega
                      have hO3 := HO3.out
                      have hbase := HB6.out.size
                      go_upto_region 26 with (at_builtin; refine Lib.wpList_append_own_string _ rfl _ _ _ _ rfl w.heap.size 5 i0 Tryd.underlying24 Tryd.underlying9 hi hz0 hz1 hz2 _ out.length _ rfl hO3 X rfl (by unfold maxLen; omega) (by omega) hbase ?_; intro v4 w4 hO4 hG4 hI4)
                      obtain ⟨a4, c4, rfl⟩ := owns_slice hO4
                      have HB4 := hide (HB6.out.grown hG4 hbase (fun j e => (owns_base hO3 j e).1))
                      have hlen : out.length + X.size = (out ++ (x.shown A)).length := by rw [List.length_append, HXS.out]
                      have HO5 : Hid (w4.ownsRow w.heap.size 5 1 (.slice a4 (out ++ (x.shown A)).length c4) (out ++ (x.shown A)).length ((out ++ (x.shown A)).map bv)) := by
                        have q := hO4
                        rw [strCells_bv, HXD.out, ← List.map_append, hlen] at q
                        exact q
                      have hR3 := HR2.out
                      rw [List.drop_drop] at hR3
                      try rw [List.drop_drop] at hR3
                      have HR3 : Hid (fmtF (s.size - (k + n)) (s.data.toList.drop (k + n)) (aa.drop (u + 1)) (k + n) (out ++ (x.shown A)) = R) := by
                        refine Eq.trans ?_ hR3
                        have hq : (s.data.toList.drop (k + n)).length = s.size - (k + n) := by rw [drop_len]; rw [show s.data.toList.length = s.size by rw [Array.length_toList]; rfl]
                        exact fmtF_fuel _ _ _ _ _ _ (by omega) (by omega)
                      have HLE := hide hlen
                      have hlen2 : (out ++ (x.shown A)).length ≤ 65536 := by rw [List.length_append]; omega
                      have HLE2 := hide hlen2
                      clear hO4 hR3 HR2 hlen hlen2 hI4 hO3
                      go_wp2
                      refine ⟨⟨k + n, u + 1, out ++ (x.shown A), a4, c4, by omega, by omega, by omega, by go_num, by go_num, by rw [← HLE.out], HO5, HLE2.out, HB4, HR3⟩, ?_⟩
                      simp [intOf]; omega
                  · have hq3 : (255 : Int) < A.uint := by omega
                    rw [if_neg (fun h => q3 ((hio.1 h).2 q2))] at hr
                    simp only [ne_eq] at hr
                    rw [if_pos (by decide)] at hr
                    subst hr
                    clear hio q1 q2 q3 h99 hxl HOne
                    go_upto_region 11 with (first | (go_at_call 25; refine HRd.out.mono ?_; rintro _ w2 ⟨rfl, hB2⟩) | fail)
                    have hN := heap_alloc_new w2 (.cells #[.bool (x.has 1), .bool (x.has 2), .bool (x.has 4), .bool (x.has 8), .int .i64 (x.wd : Int), .int .i64 x.prI, .int .u8 (x.verb.toNat : Int), .int .i64 ((k : Int) + (n : Int))] 55)
                    have hB3 := hB2.trans ((fm_below w2 (.cells #[.bool (x.has 1), .bool (x.has 2), .bool (x.has 4), .bool (x.has 8), .int .i64 (x.wd : Int), .int .i64 x.prI, .int .u8 (x.verb.toNat : Int), .int .i64 ((k : Int) + (n : Int))] 55)).mono hB2.size)
                    have HB3 := hide (HB.out.trans (hB3.mono HB.out.size))
                    have HO3 := hide (owns_below HO.out hB3)
                    have HW3 := hide hB3
                    have HD := hide (show DB (w2.alloc _) w2.heap.size ⟨x.has 1, x.has 2, x.has 4, x.has 8, x.wd, x.prI, x.verb.toNat, ((k : Int) + (n : Int))⟩ from hN)
                    clear hN hB3
                    generalize w2.alloc (.cells #[.bool (x.has 1), .bool (x.has 2), .bool (x.has 4), .bool (x.has 8), .int .i64 (x.wd : Int), .int .i64 x.prI, .int .u8 (x.verb.toNat : Int), .int .i64 ((k : Int) + (n : Int))] 55) = w3 at *
                    clear hB2
                    obtain ⟨c0, c1, c2, c3, c4, c5, c6, c7⟩ := HD.out.cs
                    simp only at c0 c1 c2 c3 c4 c5 c6 c7
                    have HA3 := hide (HA2.out.below HW3.out)
                    obtain ⟨b0, b1, b2, b3⟩ := HA3.out
                    go_upto_region 20 with fail
                    have hC := AgAt.new w3 A
                    have hBn := fm_below w3 (.cells #[.int .i64 A.kind, .int .i64 A.int, .int .u64 A.uint, .string A.text] 37)
                    have HB4 := hide (HB3.out.trans (hBn.mono HB3.out.size))
                    have HO4 := hide (owns_below HO3.out hBn)
                    have HD4 := hide (HD.out.below hBn)
                    have HA4 := hide hC
                    clear c0 c1 c2 c3 c4 c5 c6 c7 b0 b1 b2 b3 hBn hC
                    generalize w3.alloc (.cells #[.int .i64 A.kind, .int .i64 A.int, .int .u64 A.uint, .string A.text] 37) = w4 at *
                    have hS : w4.drew.cell? ⟨w2.heap.size, 6, none⟩ = some (.int .u8 (x.verb.toNat : Int)) ∧ w4.drew.cell? ⟨w3.heap.size, 0, none⟩ = some (.int .i64 A.kind) ∧ w4.drew.cell? ⟨w3.heap.size, 2, none⟩ = some (.int .u64 A.uint) := ⟨HD4.out.cs.2.2.2.2.2.2.1, HA4.out.c0, HA4.out.c2⟩
                    have HS := hide hS
                    clear hS
                    refine wp_region_noPanic ?_
                    refine wp_region_held_drew (S := fun W => W.cell? ⟨w2.heap.size, 6, none⟩ = some (.int .u8 (x.verb.toNat : Int)) ∧ W.cell? ⟨w3.heap.size, 0, none⟩ = some (.int .i64 A.kind) ∧ W.cell? ⟨w3.heap.size, 2, none⟩ = some (.int .u64 A.uint)) (by kernel_rfl) (HS.out) (fun hHeld => ?_)
                    refine wpAnyH_take (i := 0) (oi := ?_) (v := ?_) ?_ (by kernel_rfl) (by kernel_rfl) (by kernel_rfl) (fun _ _ _ h => (h : False).elim) (Or.inl ⟨?_, ?_⟩) hHeld ?_
                    rotate_left 2
                    · (simp only [List.getElem?_toArray, List.getElem?_cons_zero]; rfl)
                    · rfl
                    · (intro W hSw; obtain ⟨m0, m1, m2⟩ := hSw; go_simp <;> with_reducible rfl)
                    try simp only [Act.put, List.setIfInBounds_toArray, List.set_cons_zero, List.set_cons_succ]
                    refine wpAnyH_take (i := 1) (oi := ?_) (v := ?_) ?_ (by kernel_rfl) (by kernel_rfl) (by kernel_rfl) (fun _ _ _ h => (h : False).elim) (Or.inl ⟨?_, ?_⟩) hHeld ?_
                    rotate_left 2
                    · (simp only [List.getElem?_toArray, List.getElem?_cons_zero, List.getElem?_cons_succ]; rfl)
                    · rfl
                    · (intro W hSw; obtain ⟨m0, m1, m2⟩ := hSw; go_simp <;> with_reducible rfl)
                    try simp only [Act.put, List.setIfInBounds_toArray, List.set_cons_zero, List.set_cons_succ]
                    refine wpAnyH_take (i := 2) (oi := ?_) (v := ?_) ?_ (by kernel_rfl) (by kernel_rfl) (by kernel_rfl) (fun _ _ _ h => (h : False).elim) (Or.inl ⟨?_, ?_⟩) hHeld ?_
                    rotate_left 2
                    · (simp only [List.getElem?_toArray, List.getElem?_cons_zero, List.getElem?_cons_succ]; rfl)
                    · rfl
                    · (intro W hSw; obtain ⟨m0, m1, m2⟩ := hSw; go_simp <;> with_reducible rfl)
                    try simp only [Act.put, List.setIfInBounds_toArray, List.set_cons_zero, List.set_cons_succ]
                    refine wpAnyH_take (i := 3) (oi := ?_) (v := ?_) ?_ (by kernel_rfl) (by kernel_rfl) (by kernel_rfl) (fun _ _ _ h => (h : False).elim) (Or.inl ⟨?_, ?_⟩) hHeld ?_
                    rotate_left 2
                    · (simp only [List.getElem?_toArray, List.getElem?_cons_zero, List.getElem?_cons_succ]; rfl)
                    · rfl
                    · (intro W hSw; obtain ⟨m0, m1, m2⟩ := hSw; go_simp <;> with_reducible rfl)
                    try simp only [Act.put, List.setIfInBounds_toArray, List.set_cons_zero, List.set_cons_succ]
                    refine wpAnyH_ready (rs := [4]) (by kernel_rfl) (by simp) ?_
                    refine AllReadyH.cons (o := ?_) ?_ (fun K' hK => ?_) AllReadyH.nil
                    rotate_left 1
                    · (simp only [List.getElem?_toArray, List.getElem?_cons_zero, List.getElem?_cons_succ]; rfl)
                    go_simp
                    go_at_call 26; refine (rkind _ _).mono ?_; rintro _ _ ⟨rfl, rfl⟩; rw [HKV.out]
                    refine hK.out _ _ (HS.out) (fun hHeld2 => ?_)
                    clear hK K' hHeld
                    have hHeld := hHeld2
                    clear hHeld2
                    try simp only [Act.put, List.setIfInBounds_toArray, List.set_cons_zero, List.set_cons_succ]
                    refine wpAnyH_take (i := 5) (oi := ?_) (v := ?_) ?_ (by kernel_rfl) (by kernel_rfl) (by kernel_rfl) (fun _ _ _ h => (h : False).elim) (Or.inl ⟨?_, ?_⟩) hHeld ?_
                    rotate_left 2
                    · (simp only [List.getElem?_toArray, List.getElem?_cons_zero, List.getElem?_cons_succ]; rfl)
                    · rfl
                    · (intro W hSw; obtain ⟨m0, m1, m2⟩ := hSw; go_simp <;> with_reducible rfl)
                    try simp only [Act.put, List.setIfInBounds_toArray, List.set_cons_zero, List.set_cons_succ]
                    refine wpAnyH_take (i := 6) (oi := ?_) (v := ?_) ?_ (by kernel_rfl) (by kernel_rfl) (by kernel_rfl) (fun _ _ _ h => (h : False).elim) (Or.inl ⟨?_, ?_⟩) hHeld ?_
                    rotate_left 2
                    · (simp only [List.getElem?_toArray, List.getElem?_cons_zero, List.getElem?_cons_succ]; rfl)
                    · rfl
                    · (intro W hSw; obtain ⟨m0, m1, m2⟩ := hSw; go_simp <;> with_reducible rfl)
                    try simp only [Act.put, List.setIfInBounds_toArray, List.set_cons_zero, List.set_cons_succ]
                    refine wpAnyH_take (i := 7) (oi := ?_) (v := ?_) ?_ (by kernel_rfl) (by kernel_rfl) (by kernel_rfl) (fun _ _ _ h => (h : False).elim) (Or.inl ⟨?_, ?_⟩) hHeld ?_
                    rotate_left 2
                    · (simp only [List.getElem?_toArray, List.getElem?_cons_zero, List.getElem?_cons_succ]; rfl)
                    · rfl
                    · (intro W hSw; obtain ⟨m0, m1, m2⟩ := hSw; go_simp <;> with_reducible rfl)
                    try simp only [Act.put, List.setIfInBounds_toArray, List.set_cons_zero, List.set_cons_succ]
                    refine wpAnyH_take (i := 8) (oi := ?_) (v := ?_) ?_ (by kernel_rfl) (by kernel_rfl) (by kernel_rfl) (fun _ _ _ h => (h : False).elim) (Or.inl ⟨?_, ?_⟩) hHeld ?_
                    rotate_left 2
                    · (simp only [List.getElem?_toArray, List.getElem?_cons_zero, List.getElem?_cons_succ]; rfl)
                    · rfl
                    · (intro W hSw; obtain ⟨m0, m1, m2⟩ := hSw; go_simp <;> with_reducible rfl)
                    try simp only [Act.put, List.setIfInBounds_toArray, List.set_cons_zero, List.set_cons_succ]
                    refine wpAnyH_take (i := 9) (oi := ?_) (v := ?_) ?_ (by kernel_rfl) (by kernel_rfl) (by kernel_rfl) (fun _ _ _ h => (h : False).elim) (Or.inl ⟨?_, ?_⟩) hHeld ?_
                    rotate_left 2
                    · (simp only [List.getElem?_toArray, List.getElem?_cons_zero, List.getElem?_cons_succ]; rfl)
                    · rfl
                    · (intro W hSw; obtain ⟨m0, m1, m2⟩ := hSw; go_simp <;> with_reducible rfl)
                    try simp only [Act.put, List.setIfInBounds_toArray, List.set_cons_zero, List.set_cons_succ]
                    refine wpAnyH_take (i := 10) (oi := ?_) (v := ?_) ?_ (by kernel_rfl) (by kernel_rfl) (by kernel_rfl) (fun _ _ _ h => (h : False).elim) (Or.inl ⟨?_, ?_⟩) hHeld ?_
                    rotate_left 2
                    · (simp only [List.getElem?_toArray, List.getElem?_cons_zero, List.getElem?_cons_succ]; rfl)
                    · rfl
                    · (intro W hSw; obtain ⟨m0, m1, m2⟩ := hSw; go_simp <;> with_reducible rfl)
                    try simp only [Act.put, List.setIfInBounds_toArray, List.set_cons_zero, List.set_cons_succ]
                    refine wpAnyH_take (i := 11) (oi := ?_) (v := ?_) ?_ (by kernel_rfl) (by kernel_rfl) (by kernel_rfl) (fun _ _ _ h => (h : False).elim) (Or.inl ⟨?_, ?_⟩) hHeld ?_
                    rotate_left 2
                    · (simp only [List.getElem?_toArray, List.getElem?_cons_zero, List.getElem?_cons_succ]; rfl)
                    · rfl
                    · (intro W hSw; obtain ⟨m0, m1, m2⟩ := hSw; go_simp <;> with_reducible rfl)
                    try simp only [Act.put, List.setIfInBounds_toArray, List.set_cons_zero, List.set_cons_succ]
                    refine wpAnyH_take (i := 12) (oi := ?_) (v := ?_) ?_ (by kernel_rfl) (by kernel_rfl) (by kernel_rfl) (fun _ _ _ h => (h : False).elim) (Or.inl ⟨?_, ?_⟩) hHeld ?_
                    rotate_left 2
                    · (simp only [List.getElem?_toArray, List.getElem?_cons_zero, List.getElem?_cons_succ]; rfl)
                    · rfl
                    · (intro W hSw; obtain ⟨m0, m1, m2⟩ := hSw; go_simp <;> with_reducible rfl)
                    try simp only [Act.put, List.setIfInBounds_toArray, List.set_cons_zero, List.set_cons_succ]
                    refine wpAnyH_take (i := 13) (oi := ?_) (v := ?_) ?_ (by kernel_rfl) (by kernel_rfl) (by kernel_rfl) (fun _ _ _ h => (h : False).elim) (Or.inl ⟨?_, ?_⟩) hHeld ?_
                    rotate_left 2
                    · (simp only [List.getElem?_toArray, List.getElem?_cons_zero, List.getElem?_cons_succ]; rfl)
                    · rfl
                    · (intro W hSw; obtain ⟨m0, m1, m2⟩ := hSw; go_simp <;> with_reducible rfl)
                    try simp only [Act.put, List.setIfInBounds_toArray, List.set_cons_zero, List.set_cons_succ]
                    refine wpAnyH_take (i := 14) (oi := ?_) (v := ?_) ?_ (by kernel_rfl) (by kernel_rfl) (by kernel_rfl) (fun _ _ _ h => (h : False).elim) (Or.inl ⟨?_, ?_⟩) hHeld ?_
                    rotate_left 2
                    · (simp only [List.getElem?_toArray, List.getElem?_cons_zero, List.getElem?_cons_succ]; rfl)
                    · rfl
                    · (intro W hSw; obtain ⟨m0, m1, m2⟩ := hSw; go_simp <;> with_reducible rfl)
                    try simp only [Act.put, List.setIfInBounds_toArray, List.set_cons_zero, List.set_cons_succ]
                    refine wpAnyH_take (i := 15) (oi := ?_) (v := ?_) ?_ (by kernel_rfl) (by kernel_rfl) (by kernel_rfl) (fun _ _ _ h => (h : False).elim) (Or.inl ⟨?_, ?_⟩) hHeld ?_
                    rotate_left 2
                    · (simp only [List.getElem?_toArray, List.getElem?_cons_zero, List.getElem?_cons_succ]; rfl)
                    · rfl
                    · (intro W hSw; obtain ⟨m0, m1, m2⟩ := hSw; go_simp <;> with_reducible rfl)
                    try simp only [Act.put, List.setIfInBounds_toArray, List.set_cons_zero, List.set_cons_succ]
                    refine wpAnyH_done (by kernel_rfl) ?_ _
                    refine NoPanic.normal ?_
                    have HB5 := hide (HB4.out.drew)
                    have HD5 := hide (HD4.out.below (Below.refl w4.heap.size w4).drew)
                    have HA5 := hide (HA4.out.below (Below.refl w4.heap.size w4).drew)
                    have HO5 := hide (owns_below HO4.out (Below.refl w4.heap.size w4).drew)
                    clear HB4 HD4 HA4 HO4 HS HB3 HO3 HD HA3
                    obtain ⟨c0, c1, c2, c3, c4, c5, c6, c7⟩ := HD5.out.cs
                    obtain ⟨b0, b1, b2, b3⟩ := HA5.out
                    simp only at c0 c1 c2 c3 c4 c5 c6 c7
                    generalize w4.drew = w5 at *
                    go_wp2
                    go_ret3
                    exact ⟨_, rfl, World.ownsRow_nil _ _ _ _, HB5.out⟩
                · have hq2 : (A.kind == 3) = false := by simpa using q2
                  have hio1 := hio.2 ⟨q1, fun h => absurd h q2⟩
                  have h3 : x.verb = 99 → A.uint ≤ 255 := fun e => absurd (q1.trans (h99 e)) q2
                  clear hio q1 q2 h99
                  rw [if_pos hio1] at hr
                  simp only [ne_eq, not_true_eq_false, if_false] at hr
                  have HXL := hide hxl
                  have HONE := hide (HOne.out h3)
                  clear hxl HOne h3 hio1
                  by_cases hlg : 65536 < out.length + ((x.shown A)).length
                  · rw [if_pos hlg] at hr
                    subst hr
                    go_upto_region 11 with (first | (go_at_call 25; refine HRd.out.mono ?_; rintro _ w2 ⟨rfl, hB2⟩) | fail)
                    have hN := heap_alloc_new w2 (.cells #[.bool (x.has 1), .bool (x.has 2), .bool (x.has 4), .bool (x.has 8), .int .i64 (x.wd : Int), .int .i64 x.prI, .int .u8 (x.verb.toNat : Int), .int .i64 ((k : Int) + (n : Int))] 55)
                    have hB3 := hB2.trans ((fm_below w2 (.cells #[.bool (x.has 1), .bool (x.has 2), .bool (x.has 4), .bool (x.has 8), .int .i64 (x.wd : Int), .int .i64 x.prI, .int .u8 (x.verb.toNat : Int), .int .i64 ((k : Int) + (n : Int))] 55)).mono hB2.size)
                    have HB3 := hide (HB.out.trans (hB3.mono HB.out.size))
                    have HO3 := hide (owns_below HO.out hB3)
                    have HW3 := hide hB3
                    have HD := hide (show DB (w2.alloc _) w2.heap.size ⟨x.has 1, x.has 2, x.has 4, x.has 8, x.wd, x.prI, x.verb.toNat, ((k : Int) + (n : Int))⟩ from hN)
                    clear hN hB3
                    generalize w2.alloc (.cells #[.bool (x.has 1), .bool (x.has 2), .bool (x.has 4), .bool (x.has 8), .int .i64 (x.wd : Int), .int .i64 x.prI, .int .u8 (x.verb.toNat : Int), .int .i64 ((k : Int) + (n : Int))] 55) = w3 at *
                    clear hB2
                    obtain ⟨c0, c1, c2, c3, c4, c5, c6, c7⟩ := HD.out.cs
                    simp only at c0 c1 c2 c3 c4 c5 c6 c7
                    have HA3 := hide (HA2.out.below HW3.out)
                    obtain ⟨b0, b1, b2, b3⟩ := HA3.out
                    go_upto_region 20 with fail
                    have hC := AgAt.new w3 A
                    have hBn := fm_below w3 (.cells #[.int .i64 A.kind, .int .i64 A.int, .int .u64 A.uint, .string A.text] 37)
                    have HB4 := hide (HB3.out.trans (hBn.mono HB3.out.size))
                    have HO4 := hide (owns_below HO3.out hBn)
                    have HD4 := hide (HD.out.below hBn)
                    have HA4 := hide hC
                    clear c0 c1 c2 c3 c4 c5 c6 c7 b0 b1 b2 b3 hBn hC
                    generalize w3.alloc (.cells #[.int .i64 A.kind, .int .i64 A.int, .int .u64 A.uint, .string A.text] 37) = w4 at *
                    have hS : w4.drew.cell? ⟨w2.heap.size, 6, none⟩ = some (.int .u8 (x.verb.toNat : Int)) ∧ w4.drew.cell? ⟨w3.heap.size, 0, none⟩ = some (.int .i64 A.kind) ∧ w4.drew.cell? ⟨w3.heap.size, 2, none⟩ = some (.int .u64 A.uint) := ⟨HD4.out.cs.2.2.2.2.2.2.1, HA4.out.c0, HA4.out.c2⟩
                    have HS := hide hS
                    clear hS
                    refine wp_region_noPanic ?_
                    refine wp_region_held_drew (S := fun W => W.cell? ⟨w2.heap.size, 6, none⟩ = some (.int .u8 (x.verb.toNat : Int)) ∧ W.cell? ⟨w3.heap.size, 0, none⟩ = some (.int .i64 A.kind) ∧ W.cell? ⟨w3.heap.size, 2, none⟩ = some (.int .u64 A.uint)) (by kernel_rfl) (HS.out) (fun hHeld => ?_)
                    refine wpAnyH_take (i := 0) (oi := ?_) (v := ?_) ?_ (by kernel_rfl) (by kernel_rfl) (by kernel_rfl) (fun _ _ _ h => (h : False).elim) (Or.inl ⟨?_, ?_⟩) hHeld ?_
                    rotate_left 2
                    · (simp only [List.getElem?_toArray, List.getElem?_cons_zero]; rfl)
                    · rfl
                    · (intro W hSw; obtain ⟨m0, m1, m2⟩ := hSw; go_simp <;> with_reducible rfl)
                    try simp only [Act.put, List.setIfInBounds_toArray, List.set_cons_zero, List.set_cons_succ]
                    refine wpAnyH_take (i := 1) (oi := ?_) (v := ?_) ?_ (by kernel_rfl) (by kernel_rfl) (by kernel_rfl) (fun _ _ _ h => (h : False).elim) (Or.inl ⟨?_, ?_⟩) hHeld ?_
                    rotate_left 2
                    · (simp only [List.getElem?_toArray, List.getElem?_cons_zero, List.getElem?_cons_succ]; rfl)
                    · rfl
                    · (intro W hSw; obtain ⟨m0, m1, m2⟩ := hSw; go_simp <;> with_reducible rfl)
                    try simp only [Act.put, List.setIfInBounds_toArray, List.set_cons_zero, List.set_cons_succ]
                    refine wpAnyH_take (i := 2) (oi := ?_) (v := ?_) ?_ (by kernel_rfl) (by kernel_rfl) (by kernel_rfl) (fun _ _ _ h => (h : False).elim) (Or.inl ⟨?_, ?_⟩) hHeld ?_
                    rotate_left 2
                    · (simp only [List.getElem?_toArray, List.getElem?_cons_zero, List.getElem?_cons_succ]; rfl)
                    · rfl
                    · (intro W hSw; obtain ⟨m0, m1, m2⟩ := hSw; go_simp <;> with_reducible rfl)
                    try simp only [Act.put, List.setIfInBounds_toArray, List.set_cons_zero, List.set_cons_succ]
                    refine wpAnyH_take (i := 3) (oi := ?_) (v := ?_) ?_ (by kernel_rfl) (by kernel_rfl) (by kernel_rfl) (fun _ _ _ h => (h : False).elim) (Or.inl ⟨?_, ?_⟩) hHeld ?_
                    rotate_left 2
                    · (simp only [List.getElem?_toArray, List.getElem?_cons_zero, List.getElem?_cons_succ]; rfl)
                    · rfl
                    · (intro W hSw; obtain ⟨m0, m1, m2⟩ := hSw; go_simp <;> with_reducible rfl)
                    try simp only [Act.put, List.setIfInBounds_toArray, List.set_cons_zero, List.set_cons_succ]
                    refine wpAnyH_ready (rs := [4]) (by kernel_rfl) (by simp) ?_
                    refine AllReadyH.cons (o := ?_) ?_ (fun K' hK => ?_) AllReadyH.nil
                    rotate_left 1
                    · (simp only [List.getElem?_toArray, List.getElem?_cons_zero, List.getElem?_cons_succ]; rfl)
                    go_simp
                    go_at_call 26; refine (rkind _ _).mono ?_; rintro _ _ ⟨rfl, rfl⟩; rw [HKV.out]
                    refine hK.out _ _ (HS.out) (fun hHeld2 => ?_)
                    clear hK K' hHeld
                    have hHeld := hHeld2
                    clear hHeld2
                    try simp only [Act.put, List.setIfInBounds_toArray, List.set_cons_zero, List.set_cons_succ]
                    refine wpAnyH_take (i := 5) (oi := ?_) (v := ?_) ?_ (by kernel_rfl) (by kernel_rfl) (by kernel_rfl) (fun _ _ _ h => (h : False).elim) (Or.inl ⟨?_, ?_⟩) hHeld ?_
                    rotate_left 2
                    · (simp only [List.getElem?_toArray, List.getElem?_cons_zero, List.getElem?_cons_succ]; rfl)
                    · rfl
                    · (intro W hSw; obtain ⟨m0, m1, m2⟩ := hSw; go_simp <;> with_reducible rfl)
                    try simp only [Act.put, List.setIfInBounds_toArray, List.set_cons_zero, List.set_cons_succ]
                    refine wpAnyH_take (i := 6) (oi := ?_) (v := ?_) ?_ (by kernel_rfl) (by kernel_rfl) (by kernel_rfl) (fun _ _ _ h => (h : False).elim) (Or.inl ⟨?_, ?_⟩) hHeld ?_
                    rotate_left 2
                    · (simp only [List.getElem?_toArray, List.getElem?_cons_zero, List.getElem?_cons_succ]; rfl)
                    · rfl
                    · (intro W hSw; obtain ⟨m0, m1, m2⟩ := hSw; go_simp <;> with_reducible rfl)
                    try simp only [Act.put, List.setIfInBounds_toArray, List.set_cons_zero, List.set_cons_succ]
                    refine wpAnyH_take (i := 7) (oi := ?_) (v := ?_) ?_ (by kernel_rfl) (by kernel_rfl) (by kernel_rfl) (fun _ _ _ h => (h : False).elim) (Or.inl ⟨?_, ?_⟩) hHeld ?_
                    rotate_left 2
                    · (simp only [List.getElem?_toArray, List.getElem?_cons_zero, List.getElem?_cons_succ]; rfl)
                    · rfl
                    · (intro W hSw; obtain ⟨m0, m1, m2⟩ := hSw; go_simp <;> with_reducible rfl)
                    try simp only [Act.put, List.setIfInBounds_toArray, List.set_cons_zero, List.set_cons_succ]
                    refine wpAnyH_take (i := 8) (oi := ?_) (v := ?_) ?_ (by kernel_rfl) (by kernel_rfl) (by kernel_rfl) (fun _ _ _ h => (h : False).elim) (Or.inl ⟨?_, ?_⟩) hHeld ?_
                    rotate_left 2
                    · (simp only [List.getElem?_toArray, List.getElem?_cons_zero, List.getElem?_cons_succ]; rfl)
                    · rfl
                    · (intro W hSw; obtain ⟨m0, m1, m2⟩ := hSw; go_simp <;> with_reducible rfl)
                    try simp only [Act.put, List.setIfInBounds_toArray, List.set_cons_zero, List.set_cons_succ]
                    refine wpAnyH_take (i := 9) (oi := ?_) (v := ?_) ?_ (by kernel_rfl) (by kernel_rfl) (by kernel_rfl) (fun _ _ _ h => (h : False).elim) (Or.inl ⟨?_, ?_⟩) hHeld ?_
                    rotate_left 2
                    · (simp only [List.getElem?_toArray, List.getElem?_cons_zero, List.getElem?_cons_succ]; rfl)
                    · rfl
                    · (intro W hSw; obtain ⟨m0, m1, m2⟩ := hSw; go_simp <;> with_reducible rfl)
                    try simp only [Act.put, List.setIfInBounds_toArray, List.set_cons_zero, List.set_cons_succ]
                    refine wpAnyH_take (i := 10) (oi := ?_) (v := ?_) ?_ (by kernel_rfl) (by kernel_rfl) (by kernel_rfl) (fun _ _ _ h => (h : False).elim) (Or.inl ⟨?_, ?_⟩) hHeld ?_
                    rotate_left 2
                    · (simp only [List.getElem?_toArray, List.getElem?_cons_zero, List.getElem?_cons_succ]; rfl)
                    · rfl
                    · (intro W hSw; obtain ⟨m0, m1, m2⟩ := hSw; go_simp <;> with_reducible rfl)
                    try simp only [Act.put, List.setIfInBounds_toArray, List.set_cons_zero, List.set_cons_succ]
                    refine wpAnyH_take (i := 11) (oi := ?_) (v := undef) ?_ (by kernel_rfl) (by kernel_rfl) (by kernel_rfl) (fun _ _ _ h => (h : False).elim) (Or.inr ⟨?_, rfl⟩) hHeld ?_
                    rotate_left 1
                    · (simp only [List.getElem?_toArray, List.getElem?_cons_zero, List.getElem?_cons_succ]; rfl)
                    · rfl
                    try simp only [Act.put, List.setIfInBounds_toArray, List.set_cons_zero, List.set_cons_succ]
                    refine wpAnyH_take (i := 12) (oi := ?_) (v := undef) ?_ (by kernel_rfl) (by kernel_rfl) (by kernel_rfl) (fun _ _ _ h => (h : False).elim) (Or.inr ⟨?_, rfl⟩) hHeld ?_
                    rotate_left 1
                    · (simp only [List.getElem?_toArray, List.getElem?_cons_zero, List.getElem?_cons_succ]; rfl)
                    · rfl
                    try simp only [Act.put, List.setIfInBounds_toArray, List.set_cons_zero, List.set_cons_succ]
                    refine wpAnyH_take (i := 13) (oi := ?_) (v := undef) ?_ (by kernel_rfl) (by kernel_rfl) (by kernel_rfl) (fun _ _ _ h => (h : False).elim) (Or.inr ⟨?_, rfl⟩) hHeld ?_
                    rotate_left 1
                    · (simp only [List.getElem?_toArray, List.getElem?_cons_zero, List.getElem?_cons_succ]; rfl)
                    · rfl
                    try simp only [Act.put, List.setIfInBounds_toArray, List.set_cons_zero, List.set_cons_succ]
                    refine wpAnyH_take (i := 14) (oi := ?_) (v := ?_) ?_ (by kernel_rfl) (by kernel_rfl) (by kernel_rfl) (fun _ _ _ h => (h : False).elim) (Or.inl ⟨?_, ?_⟩) hHeld ?_
                    rotate_left 2
                    · (simp only [List.getElem?_toArray, List.getElem?_cons_zero, List.getElem?_cons_succ]; rfl)
                    · rfl
                    · (intro W hSw; obtain ⟨m0, m1, m2⟩ := hSw; go_simp <;> with_reducible rfl)
                    try simp only [Act.put, List.setIfInBounds_toArray, List.set_cons_zero, List.set_cons_succ]
                    refine wpAnyH_take (i := 15) (oi := ?_) (v := ?_) ?_ (by kernel_rfl) (by kernel_rfl) (by kernel_rfl) (fun _ _ _ h => (h : False).elim) (Or.inl ⟨?_, ?_⟩) hHeld ?_
                    rotate_left 2
                    · (simp only [List.getElem?_toArray, List.getElem?_cons_zero, List.getElem?_cons_succ]; rfl)
                    · rfl
                    · (intro W hSw; obtain ⟨m0, m1, m2⟩ := hSw; go_simp <;> with_reducible rfl)
                    try simp only [Act.put, List.setIfInBounds_toArray, List.set_cons_zero, List.set_cons_succ]
                    refine wpAnyH_done (by kernel_rfl) ?_ _
                    refine NoPanic.normal ?_
                    have HB5 := hide (HB4.out.drew)
                    have HD5 := hide (HD4.out.below (Below.refl w4.heap.size w4).drew)
                    have HA5 := hide (HA4.out.below (Below.refl w4.heap.size w4).drew)
                    have HO5 := hide (owns_below HO4.out (Below.refl w4.heap.size w4).drew)
                    clear HB4 HD4 HA4 HO4 HS HB3 HO3 HD HA3
                    obtain ⟨c0, c1, c2, c3, c4, c5, c6, c7⟩ := HD5.out.cs
                    obtain ⟨b0, b1, b2, b3⟩ := HA5.out
                    simp only at c0 c1 c2 c3 c4 c5 c6 c7
                    generalize w4.drew = w5 at *
                    go_upto_region 23 with (first | (go_at_call 27; refine (HONE.out _).mono ?_; rintro _ w6 ⟨rfl, hB6⟩) | fail)
                    have HB6 := hide (HB5.out.trans (hB6.mono HB5.out.size))
                    have HO3 := hide (owns_below HO5.out hB6)
                    have HXD : Hid ((⟨(x.shown A).toArray⟩ : ByteArray).data.toList = x.shown A) := rfl
                    have HXS : Hid ((⟨(x.shown A).toArray⟩ : ByteArray).size = (x.shown A).length) := rfl
                    clear hB6 c0 c1 c2 c3 c4 c5 c6 c7 b0 b1 b2 b3
                    generalize (⟨(x.shown A).toArray⟩ : ByteArray) = X at *
                    have hxb : X.size ≤ 4611686018427387904 := by rw [HXS.out]; exact HXL.out
                    have hl2 : (65536 : Int) < (out.length : Int) + (X.size : Int) := by rw [HXS.out]; omega
                    go_wp2
                    go_ret3
                    exact ⟨_, rfl, World.ownsRow_nil _ _ _ _, HB6.out⟩
                  · rw [if_neg hlg] at hr
                    have HR2 := hide hr
                    clear hr
                    go_upto_region 11 with (first | (go_at_call 25; refine HRd.out.mono ?_; rintro _ w2 ⟨rfl, hB2⟩) | fail)
                    have hN := heap_alloc_new w2 (.cells #[.bool (x.has 1), .bool (x.has 2), .bool (x.has 4), .bool (x.has 8), .int .i64 (x.wd : Int), .int .i64 x.prI, .int .u8 (x.verb.toNat : Int), .int .i64 ((k : Int) + (n : Int))] 55)
                    have hB3 := hB2.trans ((fm_below w2 (.cells #[.bool (x.has 1), .bool (x.has 2), .bool (x.has 4), .bool (x.has 8), .int .i64 (x.wd : Int), .int .i64 x.prI, .int .u8 (x.verb.toNat : Int), .int .i64 ((k : Int) + (n : Int))] 55)).mono hB2.size)
                    have HB3 := hide (HB.out.trans (hB3.mono HB.out.size))
                    have HO3 := hide (owns_below HO.out hB3)
                    have HW3 := hide hB3
                    have HD := hide (show DB (w2.alloc _) w2.heap.size ⟨x.has 1, x.has 2, x.has 4, x.has 8, x.wd, x.prI, x.verb.toNat, ((k : Int) + (n : Int))⟩ from hN)
                    clear hN hB3
                    generalize w2.alloc (.cells #[.bool (x.has 1), .bool (x.has 2), .bool (x.has 4), .bool (x.has 8), .int .i64 (x.wd : Int), .int .i64 x.prI, .int .u8 (x.verb.toNat : Int), .int .i64 ((k : Int) + (n : Int))] 55) = w3 at *
                    clear hB2
                    obtain ⟨c0, c1, c2, c3, c4, c5, c6, c7⟩ := HD.out.cs
                    simp only at c0 c1 c2 c3 c4 c5 c6 c7
                    have HA3 := hide (HA2.out.below HW3.out)
                    obtain ⟨b0, b1, b2, b3⟩ := HA3.out
                    go_upto_region 20 with fail
                    have hC := AgAt.new w3 A
                    have hBn := fm_below w3 (.cells #[.int .i64 A.kind, .int .i64 A.int, .int .u64 A.uint, .string A.text] 37)
                    have HB4 := hide (HB3.out.trans (hBn.mono HB3.out.size))
                    have HO4 := hide (owns_below HO3.out hBn)
                    have HD4 := hide (HD.out.below hBn)
                    have HA4 := hide hC
                    clear c0 c1 c2 c3 c4 c5 c6 c7 b0 b1 b2 b3 hBn hC
                    generalize w3.alloc (.cells #[.int .i64 A.kind, .int .i64 A.int, .int .u64 A.uint, .string A.text] 37) = w4 at *
                    have hS : w4.drew.cell? ⟨w2.heap.size, 6, none⟩ = some (.int .u8 (x.verb.toNat : Int)) ∧ w4.drew.cell? ⟨w3.heap.size, 0, none⟩ = some (.int .i64 A.kind) ∧ w4.drew.cell? ⟨w3.heap.size, 2, none⟩ = some (.int .u64 A.uint) := ⟨HD4.out.cs.2.2.2.2.2.2.1, HA4.out.c0, HA4.out.c2⟩
                    have HS := hide hS
                    clear hS
                    refine wp_region_noPanic ?_
                    refine wp_region_held_drew (S := fun W => W.cell? ⟨w2.heap.size, 6, none⟩ = some (.int .u8 (x.verb.toNat : Int)) ∧ W.cell? ⟨w3.heap.size, 0, none⟩ = some (.int .i64 A.kind) ∧ W.cell? ⟨w3.heap.size, 2, none⟩ = some (.int .u64 A.uint)) (by kernel_rfl) (HS.out) (fun hHeld => ?_)
                    refine wpAnyH_take (i := 0) (oi := ?_) (v := ?_) ?_ (by kernel_rfl) (by kernel_rfl) (by kernel_rfl) (fun _ _ _ h => (h : False).elim) (Or.inl ⟨?_, ?_⟩) hHeld ?_
                    rotate_left 2
                    · (simp only [List.getElem?_toArray, List.getElem?_cons_zero]; rfl)
                    · rfl
                    · (intro W hSw; obtain ⟨m0, m1, m2⟩ := hSw; go_simp <;> with_reducible rfl)
                    try simp only [Act.put, List.setIfInBounds_toArray, List.set_cons_zero, List.set_cons_succ]
                    refine wpAnyH_take (i := 1) (oi := ?_) (v := ?_) ?_ (by kernel_rfl) (by kernel_rfl) (by kernel_rfl) (fun _ _ _ h => (h : False).elim) (Or.inl ⟨?_, ?_⟩) hHeld ?_
                    rotate_left 2
                    · (simp only [List.getElem?_toArray, List.getElem?_cons_zero, List.getElem?_cons_succ]; rfl)
                    · rfl
                    · (intro W hSw; obtain ⟨m0, m1, m2⟩ := hSw; go_simp <;> with_reducible rfl)
                    try simp only [Act.put, List.setIfInBounds_toArray, List.set_cons_zero, List.set_cons_succ]
                    refine wpAnyH_take (i := 2) (oi := ?_) (v := ?_) ?_ (by kernel_rfl) (by kernel_rfl) (by kernel_rfl) (fun _ _ _ h => (h : False).elim) (Or.inl ⟨?_, ?_⟩) hHeld ?_
                    rotate_left 2
                    · (simp only [List.getElem?_toArray, List.getElem?_cons_zero, List.getElem?_cons_succ]; rfl)
                    · rfl
                    · (intro W hSw; obtain ⟨m0, m1, m2⟩ := hSw; go_simp <;> with_reducible rfl)
                    try simp only [Act.put, List.setIfInBounds_toArray, List.set_cons_zero, List.set_cons_succ]
                    refine wpAnyH_take (i := 3) (oi := ?_) (v := ?_) ?_ (by kernel_rfl) (by kernel_rfl) (by kernel_rfl) (fun _ _ _ h => (h : False).elim) (Or.inl ⟨?_, ?_⟩) hHeld ?_
                    rotate_left 2
                    · (simp only [List.getElem?_toArray, List.getElem?_cons_zero, List.getElem?_cons_succ]; rfl)
                    · rfl
                    · (intro W hSw; obtain ⟨m0, m1, m2⟩ := hSw; go_simp <;> with_reducible rfl)
                    try simp only [Act.put, List.setIfInBounds_toArray, List.set_cons_zero, List.set_cons_succ]
                    refine wpAnyH_ready (rs := [4]) (by kernel_rfl) (by simp) ?_
                    refine AllReadyH.cons (o := ?_) ?_ (fun K' hK => ?_) AllReadyH.nil
                    rotate_left 1
                    · (simp only [List.getElem?_toArray, List.getElem?_cons_zero, List.getElem?_cons_succ]; rfl)
                    go_simp
                    go_at_call 26; refine (rkind _ _).mono ?_; rintro _ _ ⟨rfl, rfl⟩; rw [HKV.out]
                    refine hK.out _ _ (HS.out) (fun hHeld2 => ?_)
                    clear hK K' hHeld
                    have hHeld := hHeld2
                    clear hHeld2
                    try simp only [Act.put, List.setIfInBounds_toArray, List.set_cons_zero, List.set_cons_succ]
                    refine wpAnyH_take (i := 5) (oi := ?_) (v := ?_) ?_ (by kernel_rfl) (by kernel_rfl) (by kernel_rfl) (fun _ _ _ h => (h : False).elim) (Or.inl ⟨?_, ?_⟩) hHeld ?_
                    rotate_left 2
                    · (simp only [List.getElem?_toArray, List.getElem?_cons_zero, List.getElem?_cons_succ]; rfl)
                    · rfl
                    · (intro W hSw; obtain ⟨m0, m1, m2⟩ := hSw; go_simp <;> with_reducible rfl)
                    try simp only [Act.put, List.setIfInBounds_toArray, List.set_cons_zero, List.set_cons_succ]
                    refine wpAnyH_take (i := 6) (oi := ?_) (v := ?_) ?_ (by kernel_rfl) (by kernel_rfl) (by kernel_rfl) (fun _ _ _ h => (h : False).elim) (Or.inl ⟨?_, ?_⟩) hHeld ?_
                    rotate_left 2
                    · (simp only [List.getElem?_toArray, List.getElem?_cons_zero, List.getElem?_cons_succ]; rfl)
                    · rfl
                    · (intro W hSw; obtain ⟨m0, m1, m2⟩ := hSw; go_simp <;> with_reducible rfl)
                    try simp only [Act.put, List.setIfInBounds_toArray, List.set_cons_zero, List.set_cons_succ]
                    refine wpAnyH_take (i := 7) (oi := ?_) (v := ?_) ?_ (by kernel_rfl) (by kernel_rfl) (by kernel_rfl) (fun _ _ _ h => (h : False).elim) (Or.inl ⟨?_, ?_⟩) hHeld ?_
                    rotate_left 2
                    · (simp only [List.getElem?_toArray, List.getElem?_cons_zero, List.getElem?_cons_succ]; rfl)
                    · rfl
                    · (intro W hSw; obtain ⟨m0, m1, m2⟩ := hSw; go_simp <;> with_reducible rfl)
                    try simp only [Act.put, List.setIfInBounds_toArray, List.set_cons_zero, List.set_cons_succ]
                    refine wpAnyH_take (i := 8) (oi := ?_) (v := ?_) ?_ (by kernel_rfl) (by kernel_rfl) (by kernel_rfl) (fun _ _ _ h => (h : False).elim) (Or.inl ⟨?_, ?_⟩) hHeld ?_
                    rotate_left 2
                    · (simp only [List.getElem?_toArray, List.getElem?_cons_zero, List.getElem?_cons_succ]; rfl)
                    · rfl
                    · (intro W hSw; obtain ⟨m0, m1, m2⟩ := hSw; go_simp <;> with_reducible rfl)
                    try simp only [Act.put, List.setIfInBounds_toArray, List.set_cons_zero, List.set_cons_succ]
                    refine wpAnyH_take (i := 9) (oi := ?_) (v := ?_) ?_ (by kernel_rfl) (by kernel_rfl) (by kernel_rfl) (fun _ _ _ h => (h : False).elim) (Or.inl ⟨?_, ?_⟩) hHeld ?_
                    rotate_left 2
                    · (simp only [List.getElem?_toArray, List.getElem?_cons_zero, List.getElem?_cons_succ]; rfl)
                    · rfl
                    · (intro W hSw; obtain ⟨m0, m1, m2⟩ := hSw; go_simp <;> with_reducible rfl)
                    try simp only [Act.put, List.setIfInBounds_toArray, List.set_cons_zero, List.set_cons_succ]
                    refine wpAnyH_take (i := 10) (oi := ?_) (v := ?_) ?_ (by kernel_rfl) (by kernel_rfl) (by kernel_rfl) (fun _ _ _ h => (h : False).elim) (Or.inl ⟨?_, ?_⟩) hHeld ?_
                    rotate_left 2
                    · (simp only [List.getElem?_toArray, List.getElem?_cons_zero, List.getElem?_cons_succ]; rfl)
                    · rfl
                    · (intro W hSw; obtain ⟨m0, m1, m2⟩ := hSw; go_simp <;> with_reducible rfl)
                    try simp only [Act.put, List.setIfInBounds_toArray, List.set_cons_zero, List.set_cons_succ]
                    refine wpAnyH_take (i := 11) (oi := ?_) (v := undef) ?_ (by kernel_rfl) (by kernel_rfl) (by kernel_rfl) (fun _ _ _ h => (h : False).elim) (Or.inr ⟨?_, rfl⟩) hHeld ?_
                    rotate_left 1
                    · (simp only [List.getElem?_toArray, List.getElem?_cons_zero, List.getElem?_cons_succ]; rfl)
                    · rfl
                    try simp only [Act.put, List.setIfInBounds_toArray, List.set_cons_zero, List.set_cons_succ]
                    refine wpAnyH_take (i := 12) (oi := ?_) (v := undef) ?_ (by kernel_rfl) (by kernel_rfl) (by kernel_rfl) (fun _ _ _ h => (h : False).elim) (Or.inr ⟨?_, rfl⟩) hHeld ?_
                    rotate_left 1
                    · (simp only [List.getElem?_toArray, List.getElem?_cons_zero, List.getElem?_cons_succ]; rfl)
                    · rfl
                    try simp only [Act.put, List.setIfInBounds_toArray, List.set_cons_zero, List.set_cons_succ]
                    refine wpAnyH_take (i := 13) (oi := ?_) (v := undef) ?_ (by kernel_rfl) (by kernel_rfl) (by kernel_rfl) (fun _ _ _ h => (h : False).elim) (Or.inr ⟨?_, rfl⟩) hHeld ?_
                    rotate_left 1
                    · (simp only [List.getElem?_toArray, List.getElem?_cons_zero, List.getElem?_cons_succ]; rfl)
                    · rfl
                    try simp only [Act.put, List.setIfInBounds_toArray, List.set_cons_zero, List.set_cons_succ]
                    refine wpAnyH_take (i := 14) (oi := ?_) (v := ?_) ?_ (by kernel_rfl) (by kernel_rfl) (by kernel_rfl) (fun _ _ _ h => (h : False).elim) (Or.inl ⟨?_, ?_⟩) hHeld ?_
                    rotate_left 2
                    · (simp only [List.getElem?_toArray, List.getElem?_cons_zero, List.getElem?_cons_succ]; rfl)
                    · rfl
                    · (intro W hSw; obtain ⟨m0, m1, m2⟩ := hSw; go_simp <;> with_reducible rfl)
                    try simp only [Act.put, List.setIfInBounds_toArray, List.set_cons_zero, List.set_cons_succ]
                    refine wpAnyH_take (i := 15) (oi := ?_) (v := ?_) ?_ (by kernel_rfl) (by kernel_rfl) (by kernel_rfl) (fun _ _ _ h => (h : False).elim) (Or.inl ⟨?_, ?_⟩) hHeld ?_
                    rotate_left 2
                    · (simp only [List.getElem?_toArray, List.getElem?_cons_zero, List.getElem?_cons_succ]; rfl)
                    · rfl
                    · (intro W hSw; obtain ⟨m0, m1, m2⟩ := hSw; go_simp <;> with_reducible rfl)
                    try simp only [Act.put, List.setIfInBounds_toArray, List.set_cons_zero, List.set_cons_succ]
                    refine wpAnyH_done (by kernel_rfl) ?_ _
                    refine NoPanic.normal ?_
                    have HB5 := hide (HB4.out.drew)
                    have HD5 := hide (HD4.out.below (Below.refl w4.heap.size w4).drew)
                    have HA5 := hide (HA4.out.below (Below.refl w4.heap.size w4).drew)
                    have HO5 := hide (owns_below HO4.out (Below.refl w4.heap.size w4).drew)
                    clear HB4 HD4 HA4 HO4 HS HB3 HO3 HD HA3
                    obtain ⟨c0, c1, c2, c3, c4, c5, c6, c7⟩ := HD5.out.cs
                    obtain ⟨b0, b1, b2, b3⟩ := HA5.out
                    simp only at c0 c1 c2 c3 c4 c5 c6 c7
                    generalize w4.drew = w5 at *
                    go_upto_region 23 with (first | (go_at_call 27; refine (HONE.out _).mono ?_; rintro _ w6 ⟨rfl, hB6⟩) | fail)
                    have HB6 := hide (HB5.out.trans (hB6.mono HB5.out.size))
                    have HO3 := hide (owns_below HO5.out hB6)
                    have HXD : Hid ((⟨(x.shown A).toArray⟩ : ByteArray).data.toList = x.shown A) := rfl
                    have HXS : Hid ((⟨(x.shown A).toArray⟩ : ByteArray).size = (x.shown A).length) := rfl
                    clear hB6 c0 c1 c2 c3 c4 c5 c6 c7 b0 b1 b2 b3
                    generalize (⟨(x.shown A).toArray⟩ : ByteArray) = X at *
                    have hxb : X.size ≤ 4611686018427387904 := by rw [HXS.out]; exact HXL.out
                    have hl2 : ¬ ((65536 : Int) < (out.length : Int) + (X.size : Int)) := by rw [HXS.out]; omega
                    have hO3 := HO3.out
                    have hbase := HB6.out.size
                    go_upto_region 26 with (at_builtin; refine Lib.wpList_append_own_string _ rfl _ _ _ _ rfl w.heap.size 5 i0 Tryd.underlying24 Tryd.underlying9 hi hz0 hz1 hz2 _ out.length _ rfl hO3 X rfl (by unfold maxLen; omega) (by omega) hbase ?_; intro v4 w4 hO4 hG4 hI4)
                    obtain ⟨a4, c4, rfl⟩ := owns_slice hO4
                    have HB4 := hide (HB6.out.grown hG4 hbase (fun j e => (owns_base hO3 j e).1))
                    have hlen : out.length + X.size = (out ++ (x.shown A)).length := by rw [List.length_append, HXS.out]
                    have HO5 : Hid (w4.ownsRow w.heap.size 5 1 (.slice a4 (out ++ (x.shown A)).length c4) (out ++ (x.shown A)).length ((out ++ (x.shown A)).map bv)) := by
                      have q := hO4
                      rw [strCells_bv, HXD.out, ← List.map_append, hlen] at q
                      exact q
                    have hR3 := HR2.out
                    rw [List.drop_drop] at hR3
                    try rw [List.drop_drop] at hR3
                    have HR3 : Hid (fmtF (s.size - (k + n)) (s.data.toList.drop (k + n)) (aa.drop (u + 1)) (k + n) (out ++ (x.shown A)) = R) := by
                      refine Eq.trans ?_ hR3
                      have hq : (s.data.toList.drop (k + n)).length = s.size - (k + n) := by rw [drop_len]; rw [show s.data.toList.length = s.size by rw [Array.length_toList]; rfl]
                      exact fmtF_fuel _ _ _ _ _ _ (by omega) (by omega)
                    have HLE := hide hlen
                    have hlen2 : (out ++ (x.shown A)).length ≤ 65536 := by rw [List.length_append]; omega
                    have HLE2 := hide hlen2
                    clear hO4 hR3 HR2 hlen hlen2 hI4 hO3
                    go_wp2
                    refine ⟨⟨k + n, u + 1, out ++ (x.shown A), a4, c4, by omega, by omega, by omega, by go_num, by go_num, by rw [← HLE.out], HO5, HLE2.out, HB4, HR3⟩, ?_⟩
                    simp [intOf]; omega
              · have hq1 : (A.kind != kv) = true := by simpa using q1
                rw [if_neg (fun h => q1 (hio.1 h).1)] at hr
                simp only [ne_eq] at hr
                rw [if_pos (by decide)] at hr
                subst hr
                clear hio q1 h99 hxl HOne
                go_upto_region 11 with (first | (go_at_call 25; refine HRd.out.mono ?_; rintro _ w2 ⟨rfl, hB2⟩) | fail)
                have hN := heap_alloc_new w2 (.cells #[.bool (x.has 1), .bool (x.has 2), .bool (x.has 4), .bool (x.has 8), .int .i64 (x.wd : Int), .int .i64 x.prI, .int .u8 (x.verb.toNat : Int), .int .i64 ((k : Int) + (n : Int))] 55)
                have hB3 := hB2.trans ((fm_below w2 (.cells #[.bool (x.has 1), .bool (x.has 2), .bool (x.has 4), .bool (x.has 8), .int .i64 (x.wd : Int), .int .i64 x.prI, .int .u8 (x.verb.toNat : Int), .int .i64 ((k : Int) + (n : Int))] 55)).mono hB2.size)
                have HB3 := hide (HB.out.trans (hB3.mono HB.out.size))
                have HO3 := hide (owns_below HO.out hB3)
                have HW3 := hide hB3
                have HD := hide (show DB (w2.alloc _) w2.heap.size ⟨x.has 1, x.has 2, x.has 4, x.has 8, x.wd, x.prI, x.verb.toNat, ((k : Int) + (n : Int))⟩ from hN)
                clear hN hB3
                generalize w2.alloc (.cells #[.bool (x.has 1), .bool (x.has 2), .bool (x.has 4), .bool (x.has 8), .int .i64 (x.wd : Int), .int .i64 x.prI, .int .u8 (x.verb.toNat : Int), .int .i64 ((k : Int) + (n : Int))] 55) = w3 at *
                clear hB2
                obtain ⟨c0, c1, c2, c3, c4, c5, c6, c7⟩ := HD.out.cs
                simp only at c0 c1 c2 c3 c4 c5 c6 c7
                have HA3 := hide (HA2.out.below HW3.out)
                obtain ⟨b0, b1, b2, b3⟩ := HA3.out
                go_upto_region 20 with fail
                have hC := AgAt.new w3 A
                have hBn := fm_below w3 (.cells #[.int .i64 A.kind, .int .i64 A.int, .int .u64 A.uint, .string A.text] 37)
                have HB4 := hide (HB3.out.trans (hBn.mono HB3.out.size))
                have HO4 := hide (owns_below HO3.out hBn)
                have HD4 := hide (HD.out.below hBn)
                have HA4 := hide hC
                clear c0 c1 c2 c3 c4 c5 c6 c7 b0 b1 b2 b3 hBn hC
                generalize w3.alloc (.cells #[.int .i64 A.kind, .int .i64 A.int, .int .u64 A.uint, .string A.text] 37) = w4 at *
                have hS : w4.drew.cell? ⟨w2.heap.size, 6, none⟩ = some (.int .u8 (x.verb.toNat : Int)) ∧ w4.drew.cell? ⟨w3.heap.size, 0, none⟩ = some (.int .i64 A.kind) ∧ w4.drew.cell? ⟨w3.heap.size, 2, none⟩ = some (.int .u64 A.uint) := ⟨HD4.out.cs.2.2.2.2.2.2.1, HA4.out.c0, HA4.out.c2⟩
                have HS := hide hS
                clear hS
                refine wp_region_noPanic ?_
                refine wp_region_held_drew (S := fun W => W.cell? ⟨w2.heap.size, 6, none⟩ = some (.int .u8 (x.verb.toNat : Int)) ∧ W.cell? ⟨w3.heap.size, 0, none⟩ = some (.int .i64 A.kind) ∧ W.cell? ⟨w3.heap.size, 2, none⟩ = some (.int .u64 A.uint)) (by kernel_rfl) (HS.out) (fun hHeld => ?_)
                refine wpAnyH_take (i := 0) (oi := ?_) (v := ?_) ?_ (by kernel_rfl) (by kernel_rfl) (by kernel_rfl) (fun _ _ _ h => (h : False).elim) (Or.inl ⟨?_, ?_⟩) hHeld ?_
                rotate_left 2
                · (simp only [List.getElem?_toArray, List.getElem?_cons_zero]; rfl)
                · rfl
                · (intro W hSw; obtain ⟨m0, m1, m2⟩ := hSw; go_simp <;> with_reducible rfl)
                try simp only [Act.put, List.setIfInBounds_toArray, List.set_cons_zero, List.set_cons_succ]
                refine wpAnyH_take (i := 1) (oi := ?_) (v := ?_) ?_ (by kernel_rfl) (by kernel_rfl) (by kernel_rfl) (fun _ _ _ h => (h : False).elim) (Or.inl ⟨?_, ?_⟩) hHeld ?_
                rotate_left 2
                · (simp only [List.getElem?_toArray, List.getElem?_cons_zero, List.getElem?_cons_succ]; rfl)
                · rfl
                · (intro W hSw; obtain ⟨m0, m1, m2⟩ := hSw; go_simp <;> with_reducible rfl)
                try simp only [Act.put, List.setIfInBounds_toArray, List.set_cons_zero, List.set_cons_succ]
                refine wpAnyH_take (i := 2) (oi := ?_) (v := ?_) ?_ (by kernel_rfl) (by kernel_rfl) (by kernel_rfl) (fun _ _ _ h => (h : False).elim) (Or.inl ⟨?_, ?_⟩) hHeld ?_
                rotate_left 2
                · (simp only [List.getElem?_toArray, List.getElem?_cons_zero, List.getElem?_cons_succ]; rfl)
                · rfl
                · (intro W hSw; obtain ⟨m0, m1, m2⟩ := hSw; go_simp <;> with_reducible rfl)
                try simp only [Act.put, List.setIfInBounds_toArray, List.set_cons_zero, List.set_cons_succ]
                refine wpAnyH_take (i := 3) (oi := ?_) (v := ?_) ?_ (by kernel_rfl) (by kernel_rfl) (by kernel_rfl) (fun _ _ _ h => (h : False).elim) (Or.inl ⟨?_, ?_⟩) hHeld ?_
                rotate_left 2
                · (simp only [List.getElem?_toArray, List.getElem?_cons_zero, List.getElem?_cons_succ]; rfl)
                · rfl
                · (intro W hSw; obtain ⟨m0, m1, m2⟩ := hSw; go_simp <;> with_reducible rfl)
                try simp only [Act.put, List.setIfInBounds_toArray, List.set_cons_zero, List.set_cons_succ]
                refine wpAnyH_ready (rs := [4]) (by kernel_rfl) (by simp) ?_
                refine AllReadyH.cons (o := ?_) ?_ (fun K' hK => ?_) AllReadyH.nil
                rotate_left 1
                · (simp only [List.getElem?_toArray, List.getElem?_cons_zero, List.getElem?_cons_succ]; rfl)
                go_simp
                go_at_call 26; refine (rkind _ _).mono ?_; rintro _ _ ⟨rfl, rfl⟩; rw [HKV.out]
                refine hK.out _ _ (HS.out) (fun hHeld2 => ?_)
                clear hK K' hHeld
                have hHeld := hHeld2
                clear hHeld2
                try simp only [Act.put, List.setIfInBounds_toArray, List.set_cons_zero, List.set_cons_succ]
                refine wpAnyH_take (i := 5) (oi := ?_) (v := ?_) ?_ (by kernel_rfl) (by kernel_rfl) (by kernel_rfl) (fun _ _ _ h => (h : False).elim) (Or.inl ⟨?_, ?_⟩) hHeld ?_
                rotate_left 2
                · (simp only [List.getElem?_toArray, List.getElem?_cons_zero, List.getElem?_cons_succ]; rfl)
                · rfl
                · (intro W hSw; obtain ⟨m0, m1, m2⟩ := hSw; go_simp <;> with_reducible rfl)
                try simp only [Act.put, List.setIfInBounds_toArray, List.set_cons_zero, List.set_cons_succ]
                refine wpAnyH_take (i := 6) (oi := ?_) (v := ?_) ?_ (by kernel_rfl) (by kernel_rfl) (by kernel_rfl) (fun _ _ _ h => (h : False).elim) (Or.inl ⟨?_, ?_⟩) hHeld ?_
                rotate_left 2
                · (simp only [List.getElem?_toArray, List.getElem?_cons_zero, List.getElem?_cons_succ]; rfl)
                · rfl
                · (intro W hSw; obtain ⟨m0, m1, m2⟩ := hSw; go_simp <;> with_reducible rfl)
                try simp only [Act.put, List.setIfInBounds_toArray, List.set_cons_zero, List.set_cons_succ]
                refine wpAnyH_take (i := 7) (oi := ?_) (v := undef) ?_ (by kernel_rfl) (by kernel_rfl) (by kernel_rfl) (fun _ _ _ h => (h : False).elim) (Or.inr ⟨?_, rfl⟩) hHeld ?_
                rotate_left 1
                · (simp only [List.getElem?_toArray, List.getElem?_cons_zero, List.getElem?_cons_succ]; rfl)
                · rfl
                try simp only [Act.put, List.setIfInBounds_toArray, List.set_cons_zero, List.set_cons_succ]
                refine wpAnyH_take (i := 8) (oi := ?_) (v := undef) ?_ (by kernel_rfl) (by kernel_rfl) (by kernel_rfl) (fun _ _ _ h => (h : False).elim) (Or.inr ⟨?_, rfl⟩) hHeld ?_
                rotate_left 1
                · (simp only [List.getElem?_toArray, List.getElem?_cons_zero, List.getElem?_cons_succ]; rfl)
                · rfl
                try simp only [Act.put, List.setIfInBounds_toArray, List.set_cons_zero, List.set_cons_succ]
                refine wpAnyH_take (i := 9) (oi := ?_) (v := undef) ?_ (by kernel_rfl) (by kernel_rfl) (by kernel_rfl) (fun _ _ _ h => (h : False).elim) (Or.inr ⟨?_, rfl⟩) hHeld ?_
                rotate_left 1
                · (simp only [List.getElem?_toArray, List.getElem?_cons_zero, List.getElem?_cons_succ]; rfl)
                · rfl
                try simp only [Act.put, List.setIfInBounds_toArray, List.set_cons_zero, List.set_cons_succ]
                refine wpAnyH_take (i := 10) (oi := ?_) (v := undef) ?_ (by kernel_rfl) (by kernel_rfl) (by kernel_rfl) (fun _ _ _ h => (h : False).elim) (Or.inr ⟨?_, rfl⟩) hHeld ?_
                rotate_left 1
                · (simp only [List.getElem?_toArray, List.getElem?_cons_zero, List.getElem?_cons_succ]; rfl)
                · rfl
                try simp only [Act.put, List.setIfInBounds_toArray, List.set_cons_zero, List.set_cons_succ]
                refine wpAnyH_take (i := 11) (oi := ?_) (v := undef) ?_ (by kernel_rfl) (by kernel_rfl) (by kernel_rfl) (fun _ _ _ h => (h : False).elim) (Or.inr ⟨?_, rfl⟩) hHeld ?_
                rotate_left 1
                · (simp only [List.getElem?_toArray, List.getElem?_cons_zero, List.getElem?_cons_succ]; rfl)
                · rfl
                try simp only [Act.put, List.setIfInBounds_toArray, List.set_cons_zero, List.set_cons_succ]
                refine wpAnyH_take (i := 12) (oi := ?_) (v := undef) ?_ (by kernel_rfl) (by kernel_rfl) (by kernel_rfl) (fun _ _ _ h => (h : False).elim) (Or.inr ⟨?_, rfl⟩) hHeld ?_
                rotate_left 1
                · (simp only [List.getElem?_toArray, List.getElem?_cons_zero, List.getElem?_cons_succ]; rfl)
                · rfl
                try simp only [Act.put, List.setIfInBounds_toArray, List.set_cons_zero, List.set_cons_succ]
                refine wpAnyH_take (i := 13) (oi := ?_) (v := undef) ?_ (by kernel_rfl) (by kernel_rfl) (by kernel_rfl) (fun _ _ _ h => (h : False).elim) (Or.inr ⟨?_, rfl⟩) hHeld ?_
                rotate_left 1
                · (simp only [List.getElem?_toArray, List.getElem?_cons_zero, List.getElem?_cons_succ]; rfl)
                · rfl
                try simp only [Act.put, List.setIfInBounds_toArray, List.set_cons_zero, List.set_cons_succ]
                refine wpAnyH_take (i := 14) (oi := ?_) (v := undef) ?_ (by kernel_rfl) (by kernel_rfl) (by kernel_rfl) (fun _ _ _ h => (h : False).elim) (Or.inr ⟨?_, rfl⟩) hHeld ?_
                rotate_left 1
                · (simp only [List.getElem?_toArray, List.getElem?_cons_zero, List.getElem?_cons_succ]; rfl)
                · rfl
                try simp only [Act.put, List.setIfInBounds_toArray, List.set_cons_zero, List.set_cons_succ]
                refine wpAnyH_take (i := 15) (oi := ?_) (v := ?_) ?_ (by kernel_rfl) (by kernel_rfl) (by kernel_rfl) (fun _ _ _ h => (h : False).elim) (Or.inl ⟨?_, ?_⟩) hHeld ?_
                rotate_left 2
                · (simp only [List.getElem?_toArray, List.getElem?_cons_zero, List.getElem?_cons_succ]; rfl)
                · rfl
                · (intro W hSw; obtain ⟨m0, m1, m2⟩ := hSw; go_simp <;> with_reducible rfl)
                try simp only [Act.put, List.setIfInBounds_toArray, List.set_cons_zero, List.set_cons_succ]
                refine wpAnyH_done (by kernel_rfl) ?_ _
                refine NoPanic.normal ?_
                have HB5 := hide (HB4.out.drew)
                have HD5 := hide (HD4.out.below (Below.refl w4.heap.size w4).drew)
                have HA5 := hide (HA4.out.below (Below.refl w4.heap.size w4).drew)
                have HO5 := hide (owns_below HO4.out (Below.refl w4.heap.size w4).drew)
                clear HB4 HD4 HA4 HO4 HS HB3 HO3 HD HA3
                obtain ⟨c0, c1, c2, c3, c4, c5, c6, c7⟩ := HD5.out.cs
                obtain ⟨b0, b1, b2, b3⟩ := HA5.out
                simp only at c0 c1 c2 c3 c4 c5 c6 c7
                generalize w4.drew = w5 at *
                go_wp2
                go_ret3
                exact ⟨_, rfl, World.ownsRow_nil _ _ _ _, HB5.out⟩
    · have hlt' : ¬ ((k : Nat) : Int) < (s.size : Int) := by omega
      have hr := HF.out
      rw [drop_end s k (by omega), fmtF_nil] at hr
      obtain rfl : k = s.size := by omega
      by_cases hu : u = aa.length
      · rw [if_pos (List.drop_eq_nil_of_le (by omega))] at hr
        subst hr
        have hu' : ¬ ((u : Int) < (aa.length : Int)) := by omega
        clear HF
        go_wp2
        go_ret3
        exact ⟨_, rfl, HO.out, HB.out⟩
      · rw [if_neg (by intro h; have := congrArg List.length h; rw [List.length_drop] at this; simp at this; omega)] at hr
        subst hr
        have hu' : ((u : Int) < (aa.length : Int)) := by omega
        clear HF
        go_wp2
        go_ret3
        exact ⟨_, rfl, World.ownsRow_nil _ _ _ _, HB.out⟩
end Go.Proofs.YtpcchaciomeckaaDoor

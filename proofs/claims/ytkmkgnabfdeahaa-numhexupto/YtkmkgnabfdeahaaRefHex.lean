/- What the reference's Hex and Unhex answer, for every input of at most 2^46 bytes: the same. -/
import Derived.Test.YtkmkgnabfdeahaaUnhex
import Derived.Test.YtkmkgnabfdeahaaHex
namespace Go.Proofs.Ytkmkgnabfdeahaa
open Go.RowKit

set_option maxRecDepth 100000 in
set_option maxHeartbeats 2000000 in
theorem rhex_any (v : Value) (l : List UInt8) (w : World) (h : Bys w v l) (hs : l.length ≤ 70368744177664) :
    Calls Try.prog 21 #[v] w fun e w' => e = .returned (.string ⟨(hexF l).toArray⟩) ∧ Below w.heap.size w w' := by
  obtain ⟨i0, hi, hz0, hz1, hz2⟩ := info_parts Try.infoB
  obtain ⟨a1, c1, rfl, hc1⟩ := bys_form h
  have HC1 := hide hc1
  clear hc1 h
  go_enter Try.func21, Try.ntmps21
  go_wp2
  go_loopw [3, 4] (fun t i wr => ∃ k : Nat, k ≤ l.length ∧ i = .int .i64 k ∧ wr.ownsRow w.heap.size 5 1 t (2 * k) ((hexF (l.take k)).map bv) ∧ Below w.heap.size w wr) (fun _ i _ => l.length - (intOf i).toNat)
  case atStart => exact ⟨0, Nat.zero_le _, rfl, World.ownsRow_nil _ _ _ _, Below.refl _ _⟩
  case round =>
    obtain ⟨k, hk, rfl, hown, hB⟩ := hrel
    by_cases hlt : k < l.length
    · obtain ⟨b1, o1, rfl, hc1⟩ := HC1.out (by omega)
      have g0 := hc1 k hlt
      have hb1 : b1 < w.heap.size := World.block_lt_of_cell? w _ g0
      have g1 := (hB.cell (p := ⟨b1, o1 + k, none⟩) hb1).trans g0
      clear hc1 HC1 g0
      have hk1 : (0 : Int) ≤ (k : Int) := by omega
      have hk2 : (k : Int) < (l.length : Int) := by omega
      generalize hc : l.getD k 0 = c at g1
      have HC := hide hc
      clear hc
      have e1 := hi_eq c
      have e2 := lo_eq c
      generalize hX : hiD c = X at e1
      generalize hY : loD c = Y at e2
      have HX := hide hX
      have HY := hide hY
      clear hX hY
      have hXb : ((X.val : Nat) : Int) < 16 := by have := X.isLt; omega
      have hYb : ((Y.val : Nat) : Int) < 16 := by have := Y.isLt; omega
      have hsz := hB.size
      have hfar : ∀ j, u3.ownBlock = some j → w.heap.size ≤ j := fun j e => (hown.lt j e).1
      go_wp2_with fail
      go_region_held3 (fun w' => w'.cell? ⟨b1, o1 + k, none⟩ = some (.int .u8 (c.toNat : Int)))
        (first | go_keep | (rw [hgrow2.cell_far _ (by simp; omega) (by intro e; have h2 := hfar b1 e.symm; omega)]; assumption))
        ((refine step_append_lies _ (by rfl) _ _ 39 (by rfl) w.heap.size 5 i0 (.int .u8 0) 1 1 Try.underlying39 hi hz0 hz1 hz2 rfl (by decide) _ (2 * k) _ (by rfl) ((hown.alloc _).drew) ⟨wr.heap.size, 0, none⟩ 2 2 [bv (sgn X), bv (sgn Y)] (by rfl) (by rfl) (by exact World.news_of_block (w := wr.alloc (.cells #[bv (sgn X), bv (sgn Y)] 5)) (cs := #[bv (sgn X), bv (sgn Y)]) (t := 5) (fr := (0, 0)) (heap_alloc_new wr _)) (by simp [bv, Value.oneCell']) (by omega) (by unfold maxLen; omega) (by omega) (by simp; omega) (wr.heap.size + 1) (by simp) ?_; intro gg cap w2 hown2 hgrow2 hat2 hlt2))
      all_goals
        go_wp2
        go_roundw
        case rel =>
          refine ⟨k + 1, by omega, by go_num, ?_, ?_⟩
          · rw [show 2 * (k + 1) = 2 * k + 2 by omega, List.take_succ_eq_append_getElem hlt, hexF_append, List.map_append]
            have hg : l[k] = c := by rw [← HC.out, List.getD_eq_getElem?_getD, List.getElem?_eq_getElem hlt]; rfl
            rw [hg]
            show World.ownsRow _ _ _ _ _ _ (_ ++ [bv (sgn (hiD c)), bv (sgn (loD c))])
            rw [HX.out, HY.out]
            exact hown2
          · exact (hB.alloc hB.size _).grown (w := wr.alloc (.cells #[bv (sgn X), bv (sgn Y)] 5)) ⟨hgrow2.os, hgrow2.tape, hgrow2.output, hgrow2.size, hgrow2.block⟩ (by simp; omega) (fun j e => hfar j e)
        case measure => simp [intOf]; omega
    · obtain rfl : k = l.length := by omega
      rw [List.take_length] at hown
      have hst := owns_string (l := hexF l) (by rw [hexF_length]; exact hown)
      go_wp2
      go_ret
      exact ⟨rfl, hB⟩

theorem bits_oct64 (a b : Fin 16) : IntKind.u8.wrap (bits .or .i64 (((a.val : Nat) : Int) * 16) ((b.val : Nat) : Int)) = ((a.val * 16 + b.val : Nat) : Int) := by
  revert a b; decide +kernel

theorem oct_cell64 (a b : UInt8) (x v : Int) (hx1 : 0 ≤ x) (hx2 : x ≤ 15) (hv1 : 0 ≤ v) (hv2 : v ≤ 15) (hx : x = valI a.toNat) (hv : v = valI b.toNat) : Value.int .u8 (IntKind.u8.wrap (bits .or .i64 (IntKind.i64.wrap (x * 16)) v)) = bv (oct a b) := by
  have h := bits_oct64 ⟨x.toNat, by omega⟩ ⟨v.toNat, by omega⟩
  simp only [Int.toNat_of_nonneg hx1, Int.toNat_of_nonneg hv1] at h
  have hw : IntKind.i64.wrap (x * 16) = x * 16 := by simp [IntKind.wrap, IntKind.bits, IntKind.signed]; omega
  rw [hw, h, bv, oct, ← hx, ← hv, UInt8.toNat_ofNat_of_lt' (by show _ < 256; omega)]

set_option maxRecDepth 100000 in
set_option maxHeartbeats 2000000 in
theorem runhex_any (s : ByteArray) (w : World) (hs : s.size ≤ 140737488351232) :
    Calls Try.prog 19 #[.string s] w fun e w' => ∃ v, e = .returned (.tuple #[v, .int .i64 (uh s.data.toList).2.1, .int .i64 (uh s.data.toList).2.2]) ∧ w'.ownsRow w.heap.size 5 1 v (uh s.data.toList).1.length ((uh s.data.toList).1.map bv) ∧ Below w.heap.size w w' := by
  obtain ⟨i0, hi, hz0, hz1, hz2⟩ := info_parts Try.infoB
  go_enter Try.func19, Try.ntmps19
  go_wp2
  go_loop [5] (fun i => ∃ k : Nat, k ≤ s.size ∧ i = .int .i64 k ∧ (∀ j (hj : j < s.data.toList.length), j < k → valI s.data.toList[j].toNat ≠ 16)) (fun i => s.size - (intOf i).toNat)
  case atStart => exact ⟨0, Nat.zero_le _, rfl, fun _ _ h => by omega⟩
  case round =>
    obtain ⟨k, hk, rfl, hall⟩ := hrel
    have HA := hide hall
    clear hall
    by_cases hlt : k < s.size
    · have hbv := valI_bd (s[k].toNat : Int)
      have hby : ((s[k].toNat : Nat) : Int) ≤ 255 := by have := s[k].toNat_lt; omega
      generalize hv : valI (s[k].toNat : Int) = v at hbv
      have HV := hide hv
      clear hv
      by_cases h16 : v = 16
      · have hge : (v == 16) = true := by simpa using h16
        have HU := hide (uh_bad s.data.toList k (by simpa using hlt) (HV.out.trans h16) (fun j hj hjk => HA.out j hj hjk))
        clear h16
        go_wp2_with (go_at_call 28; refine (rvalue_any _ (by omega) hby _).mono ?_; rintro e w' ⟨rfl, rfl⟩; rw [HV.out])
        go_ret3
        rw [HU.out]
        exact ⟨_, rfl, World.ownsRow_nil _ _ _ _, Below.refl _ _⟩
      · have hne : (v == 16) = false := by simpa using h16
        go_wp2_with (go_at_call 28; refine (rvalue_any _ (by omega) hby _).mono ?_; rintro e w' ⟨rfl, rfl⟩; rw [HV.out])
        go_round
        case rel =>
          refine ⟨k + 1, by omega, by go_num, ?_⟩
          intro j hj hjk
          rcases Nat.lt_or_ge j k with h | h
          · exact HA.out j hj h
          · obtain rfl : j = k := by omega
            intro h2
            exact h16 (HV.out.symm.trans h2)
        case measure => simp [intOf]; omega
    · obtain rfl : k = s.size := by omega
      have HU := hide (uh_good s.data.toList (fun j hj => HA.out j hj (by simpa using hj)))
      by_cases hpar : s.size % 2 = 1
      · go_wp2
        go_ret3
        rw [HU.out, if_pos (by simpa using hpar)]
        exact ⟨_, by simp, World.ownsRow_nil _ _ _ _, Below.refl _ _⟩
      · go_wp2
        go_loopw [6, 7] (fun o i wr => ∃ m K : Nat, Hid (K = 2 * m) ∧ K ≤ s.size ∧ i = .int .i64 (K : Int) ∧ wr.ownsRow w.heap.size 5 1 o m ((prs s.data.toList m).map bv) ∧ Below w.heap.size w wr) (fun _ i _ => s.size - (intOf i).toNat)
        case atStart => exact ⟨0, 0, rfl, by omega, rfl, World.ownsRow_nil _ _ _ _, Below.refl _ _⟩
        case round =>
          obtain ⟨m, K, HK, hm, rfl, hown, hB⟩ := hrel
          by_cases hlt : K < s.size
          · have hlt1 : K + 1 < s.size := by have := HK.out; omega
            have hbv1 := valI_bd (s[K].toNat : Int)
            have hbv2 := valI_bd (s[K + 1].toNat : Int)
            have hd1 : valI (s[K].toNat : Int) ≠ 16 := HA.out K (by simpa using hlt) hlt
            have hd2 : valI (s[K + 1].toNat : Int) ≠ 16 := HA.out (K + 1) (by simpa using hlt1) hlt1
            have hby1 : ((s[K].toNat : Nat) : Int) ≤ 255 := by have := s[K].toNat_lt; omega
            have hby2 : ((s[K + 1].toNat : Nat) : Int) ≤ 255 := by have := s[K + 1].toNat_lt; omega
            generalize hv1 : valI (s[K].toNat : Int) = x at hbv1 hd1
            generalize hv2 : valI (s[K + 1].toNat : Int) = y at hbv2 hd2
            have HV1 := hide hv1
            have HV2 := hide hv2
            have hx0 : 0 ≤ x := hbv1.1
            have hx1 : x ≤ 15 := by omega
            have hy0 : 0 ≤ y := hbv2.1
            have hy1 : y ≤ 15 := by omega
            have hsz := hB.size
            have hml : m ≤ 140737488351232 := by have := HK.out; omega
            have hfar : ∀ j, u6.ownBlock = some j → w.heap.size ≤ j := fun j e => (hown.lt j e).1
            clear hv1 hv2 hbv1 hbv2 hd1 hd2
            have hkk : (0 : Int) ≤ (K : Int) := by omega
            have hkk1 : (K : Int) < (s.size : Int) := by omega
            have hkk2 : (K : Int) + 1 < (s.size : Int) := by omega
            have hw1 : IntKind.i64.wrap ((K : Int) + 1) = (K : Int) + 1 := by simp [IntKind.wrap, IntKind.bits, IntKind.signed]; omega
            have HO : Hid (Value.int .u8 (IntKind.u8.wrap (bits .or .i64 (IntKind.i64.wrap (x * 16)) y)) = bv (oct (s.data.toList.getD (2 * m) 0) (s.data.toList.getD (2 * m + 1) 0))) := by
              show _ = _
              rw [← HK.out, getD_at s K hlt, getD_at s (K + 1) hlt1]
              exact oct_cell64 _ _ _ _ hx0 hx1 hy0 hy1 HV1.out.symm HV2.out.symm
            generalize hZ : IntKind.u8.wrap (bits .or .i64 (IntKind.i64.wrap (x * 16)) y) = Z at HO
            go_wp2_with fail
            go_region_held3 (fun _ => True) (trivial)
              (first | (go_at_call 28; refine (rvalue_any _ (by omega) (by omega) _).mono ?_; rintro e w' ⟨rfl, rfl⟩; first | rw [HV1.out] | rw [HV2.out]) | (refine step_append_lies _ (by rfl) _ _ 39 (by rfl) w.heap.size 5 i0 (.int .u8 0) 1 1 Try.underlying39 hi hz0 hz1 hz2 rfl (by decide) _ m _ (by rfl) ((hown.alloc _).drew) ⟨_, 0, none⟩ 1 1 [.int .u8 Z] (by rfl) (by rfl) (by exact cell_one_new _ (.int .u8 Z) 5) (by simp [Value.oneCell']) (by omega) (by unfold maxLen; omega) (by omega) (by simp; omega) _ rfl ?_; intro gg cap w2 hown2 hgrow2 hat2 hlt2))
            all_goals
              go_wp2
              go_roundw
              case rel =>
                refine ⟨m + 1, K + 2, (by have := HK.out; show K + 2 = 2 * (m + 1); omega), by omega, by go_num, ?_, ?_⟩
                · rw [prs_succ, List.map_append]
                  rw [HO.out] at hown2
                  exact hown2
                · exact (hB.alloc hB.size (.cells #[.int .u8 Z] 5)).grown ⟨hgrow2.os, hgrow2.tape, hgrow2.output, hgrow2.size, hgrow2.block⟩ (by simp; omega) (fun j e => hfar j e)
              case measure => simp [intOf]; omega
          · obtain rfl : K = s.size := by omega
            have hm2 : s.size / 2 = m := by have := HK.out; omega
            go_wp2
            go_ret3
            rw [HU.out, if_neg (by simpa using hpar)]
            exact ⟨u6, by simp, by simpa [prs_length, hm2] using hown, hB⟩
end Go.Proofs.Ytkmkgnabfdeahaa

/- TerminalOwn: the walk. -/
import Derived.Test.YtoihblhhifcpnaaTeLists
namespace Go.Proofs.Ytoihblhhifcpnaa
open Go.RowKit

set_option maxRecDepth 100000 in
set_option maxHeartbeats 1000000 in
theorem spoil_turn (base : Nat) (v : Value) (n : Nat) (xs : List Value) (w : World) (h : w.ownsRow base 5 1 v n xs) (hx : ∀ u ∈ xs, ∃ c, u = .int .u8 c) (hs : n ≤ maxLen) :
    Calls Try.prog 22 #[v] w fun e w' => e = .returned (.tuple #[]) ∧ Turned (fun k => v.ownBlock = some k) w w' := by
  unfold maxLen at hs
  rcases h.2 with ⟨rfl, h0⟩ | ⟨g, cap, cur, rfl, hbg, -⟩
  · go_enter Try.func22, Try.ntmps22
    go_wp2
    go_loopw [2] (fun i wr => i = .int .i64 0 ∧ wr = w) (fun _ _ => 0)
    case atStart => exact ⟨rfl, rfl⟩
    case round =>
      obtain ⟨rfl, rfl⟩ := hrel
      go_wp2
      go_end0
      exact ⟨rfl, Turned.refl _ _⟩
  · have HO := hide h
    have HX := hide hx
    have hlen : xs.length = n := by have := h.1; omega
    clear h hx
    go_enter Try.func22, Try.ntmps22
    go_wp2
    go_loopw [2] (fun i wr => ∃ (k : Nat) (ys : List Value), k ≤ n ∧ i = .int .i64 k ∧ ys.length = n ∧ (∀ u ∈ ys, ∃ c, u = .int .u8 c) ∧ wr.ownsRow base 5 1 (.slice (some ⟨g, 0, none⟩) n cap) n ys ∧ Turned (fun k => (Value.slice (some ⟨g, 0, none⟩) n cap).ownBlock = some k) w wr) (fun i _ => n - (intOf i).toNat)
    case atStart => exact ⟨0, xs, Nat.zero_le _, rfl, hlen, HX.out, HO.out, Turned.refl _ _⟩
    case round =>
      clear HO HX hlen
      obtain ⟨k, ys, hk, rfl, hlen, hys, hown, hT⟩ := hrel
      have HT := hide hT
      clear hT
      by_cases hlt : k < n
      · obtain ⟨c, hc⟩ := hys ys[k] (List.getElem_mem _)
        have hcell := hown.cellAt k (by omega)
        rw [List.getElem?_eq_getElem (by omega), hc] at hcell
        have hfr := hown.frozenAt k
        have HY := hide hys
        have HO := hide hown
        have HL := hide hlen
        clear hys hown hc hlen
        go_wp2
        go_roundw
        case rel =>
          obtain ⟨hst, hgr⟩ := HO.out.stored k (Value.int .u8 (bits .xor .u8 c 85))
          refine ⟨k + 1, _, by omega, by go_num, ?_, ?_, hst, HT.out.set (.inl rfl)⟩
          · rw [List.length_set]; exact HL.out
          · intro u hu
            rcases List.mem_or_eq_of_mem_set hu with h | h
            · exact HY.out u h
            · exact ⟨_, h⟩
        case measure => simp [intOf]; omega
      · go_wp2
        go_end0
        exact ⟨rfl, HT.out⟩
theorem bv_ints (l : List UInt8) : ∀ u ∈ l.map bv, ∃ c, u = .int .u8 c := by
  intro u hu
  obtain ⟨c, _, rfl⟩ := List.mem_map.1 hu
  exact ⟨_, rfl⟩
theorem zero_cell (w : World) : (w.alloc (Obj.cells #[.bool false, .slice none 0 0, .slice none 0 0] 54)).cell? ⟨w.heap.size, 0, none⟩ = some (.bool false) := by simp only [World.cell?, heap_alloc_new]; rfl

set_option maxRecDepth 100000 in
set_option maxHeartbeats 4000000 in
theorem own_walk (v vx : Value) (ls : List (List UInt8)) (x : List UInt8) (w : World) (h : Lns w v ls) (hx : Bys w vx x) (hs : ls.length * 24 ≤ 140737488351232) (hs2 : ∀ j (hj : j < ls.length), ls[j].length ≤ 140737488351232) (hxs : x.length ≤ 140737488351232) :
    Calls Try.prog 5 #[v, vx] w fun e w' => e = .returned (.bool true) ∧ Below w.heap.size w w' := by
  have H0 := hide h
  have HX0 := hide hx
  have HS2 := hide hs2
  obtain ⟨a1, c1, rfl⟩ := h.form
  obtain ⟨ax, cx, rfl, -⟩ := bys_form hx
  clear h hx hs2
  go_enter Try.func5, Try.ntmps5
  go_wp2_with fail
  refine (alive_any _).mono ?_
  rintro e w1 ⟨rfl, hB1⟩
  go_wp2_with fail
  refine (nothing_any _ _ (isMade_nil _)).mono ?_
  rintro e w2 ⟨rfl, rfl⟩
  go_wp2_with fail
  refine (nothing_any _ _ (isMade_no w2.heap.size _ (zero_cell w2))).mono ?_
  rintro e w3 ⟨rfl, rfl⟩
  have hB2 : Below w.heap.size w (w2.alloc (Obj.cells #[.bool false, .slice none 0 0, .slice none 0 0] 54)) := hB1.alloc hB1.size _
  generalize w2.alloc (Obj.cells #[.bool false, .slice none 0 0, .slice none 0 0] 54) = w3 at *
  clear hB1
  go_wp2_with fail
  refine (copyLists_any _ ls _ (H0.out.below hB2) hs HS2.out).mono ?_
  rintro e w4 ⟨vo, xs, rfl, hown, hLC, hB4⟩
  obtain ⟨oa, oc, rfl⟩ := owns_slice hown
  have HO := hide hown
  have HLC := hide hLC
  have hB04 := hB2.trans (hB4.mono hB2.size)
  have hz2 := hB2.size
  have hz4 := hB4.size
  clear hown hLC hB4
  by_cases hE : newE ls = 0
  · obtain ⟨hfew, hshort⟩ := newE_small hE
    have HSh := hide hshort
    clear hshort
    go_wp2_with fail
    refine (new_good _ ls _ (HLC.out.lns rfl HO.out) hE).mono ?_
    rintro e w5 ⟨t, O, rfl, hP, hB5⟩
    have HP := hide hP
    have HO5 := hide (owns_below HO.out hB5)
    have HLC5 := hide (HLC.out.below hB5)
    have hB05 := hB04.trans (hB5.mono hB04.size)
    have HBl : Hid (∀ (j : Nat) (v : Value) (i : Nat), xs[j]? = some v → v.ownBlock = some i → ¬ O i) := hide fun j v i h1 e ho => by
      obtain ⟨v', h2, h3⟩ := HLC.out.2.1 j (by have := (List.getElem?_eq_some_iff.1 h1).1; have := HLC.out.1; omega)
      rw [h1] at h2
      cases h2
      have := (h3.lt i e).2
      have := (hP.lt i ho).1
      omega
    have HOl := hide hP.lt
    have hz5 := hB5.size
    have HD := hide HLC.out.2.2
    clear hP hB5 HO HLC
    go_wp2_with fail
    refine (num_any _ _).mono ?_
    rintro e w6 ⟨rfl, rfl⟩
    go_wp2
    go_loopw [9] (fun i wr => ∃ k : Nat, k ≤ ls.length ∧ i = .int .i64 k ∧ Hid (PTerm wr w4.heap.size t O ls []) ∧ Hid (wr.ownsRow w3.heap.size 33 1 (.slice oa ls.length oc) ls.length xs) ∧ Hid (∀ j (hj : j < ls.length), k ≤ j → ∃ v, xs[j]? = some v ∧ wr.ownsRow w3.heap.size 5 1 v ls[j].length (ls[j].map bv)) ∧ w6.heap.size ≤ wr.heap.size ∧ Below w.heap.size w wr) (fun i _ => ls.length - (intOf i).toNat)
    case atStart => exact ⟨0, Nat.zero_le _, rfl, HP, HO5, (fun j hj _ => HLC5.out.2.1 j hj), Nat.le_refl _, hB05⟩
    case round =>
      clear HP HO5 HLC5 hB05
      obtain ⟨k, hk, rfl, HP, HO, HL, hzw, hB⟩ := hrel
      by_cases hlt : k < ls.length
      · obtain ⟨u, hu, hou⟩ := HL.out k hlt (Nat.le_refl _)
        obtain ⟨ua, uc, rfl⟩ := owns_slice hou
        obtain ⟨g, cap, he, -, -⟩ := HO.out.form (by omega)
        cases he
        have hc := (HO.out.cellAt k (by omega)).trans hu
        have HU := hide hou
        have hk1 : (0 : Int) ≤ (k : Int) := by omega
        have hk2 : (k : Int) < (ls.length : Int) := by omega
        have hlk := HS2.out k hlt
        obtain ⟨L, hL⟩ : ∃ L, L = ls[k] := ⟨_, rfl⟩
        rw [← hL] at hc HU hlk hu
        clear hL hou
        have HUu := hide hu
        clear hu
        go_wp2_with fail
        refine (spoil_turn _ _ _ _ _ HU.out (bv_ints _) (by unfold maxLen; omega)).mono ?_
        rintro e w7 ⟨rfl, hT7⟩
        have HT7 := hide hT7
        clear hT7
        go_wp2
        go_roundw
        case rel =>
          have hT7 := HT7.out
          refine ⟨k + 1, by omega, by go_num, HP.out.turned hT7 fun j ho e => HBl.out k _ j HUu.out e ho, owns_turned HO.out hT7 fun j e e' => owns_apart HU.out HO.out (by decide) j e' e, fun j hj hkj => ?_, by have := hT7.size; omega, hB.trans (hT7.below (fun j e => by have := (HU.out.lt j e).1; omega) hB.size)⟩
          obtain ⟨v', h1, h2⟩ := HL.out j hj (by omega)
          exact ⟨v', h1, owns_turned h2 hT7 fun i e e' => HD.out k j _ _ i (by omega) HUu.out h1 e' e⟩
        case measure => simp [intOf]; omega
      · clear HO HL HBl HD
        have hxB := hide (HX0.out.below hB)
        have hzB := hB.size
        have hd0 : decide ((1048576 : Int) < 0) = false := by simp
        go_wp2_with fail
        refine (copy_any _ x _ hxB.out hxs).mono ?_
        rintro e w7 ⟨vd, rfl, hownd, hB7⟩
        obtain ⟨da, dc, rfl⟩ := owns_slice hownd
        have HP7 := hide (HP.out.below hB7)
        have HOd := hide hownd
        have hB07 := hB.trans (hB7.mono hB.size)
        have hz7 := hB7.size
        clear hownd HP
        go_wp2_with fail
        refine (write_any w4.heap.size t O ls [] _ x _ HP7.out (Bys.of_owns HOd.out)).mono ?_
        rintro e w8 ⟨rfl, O8, hP8, hO8, hT8⟩
        have HP8 := hide hP8
        have HOd8 := hide (owns_turned HOd.out hT8 fun j e ho => by have := (HOd.out.lt j e).1; have := (HOl.out j ho).2; omega)
        have hB08 := hB07.trans (hT8.below (fun j e => by have := (HOl.out j e).1; omega) hB07.size)
        have hz8 := hT8.size
        have HNd : Hid (∀ j, O8 j → ¬ (Value.slice da x.length dc).ownBlock = some j) := hide fun j ho e => by
          rcases hO8 j ho with h1 | h1
          · have := (HOd.out.lt j e).1; have := (HOl.out j h1).2; omega
          · have := (HOd.out.lt j e).2; omega
        clear hP8 hT8 HP7
        have hwe : (wrE ([] : List UInt8).length x.length = 0 ∧ wrS [] x = x) ∨ (wrE ([] : List UInt8).length x.length = 31) := by
          unfold wrE wrS
          by_cases h : 1048576 < ([] : List UInt8).length + x.length
          · right; rw [if_pos h]
          · left; rw [if_neg h, if_neg h]; exact ⟨rfl, by simp⟩
        have HWE := hide hwe
        have hrm := HP8.out.room
        generalize wrE ([] : List UInt8).length x.length = E at *
        generalize wrS [] x = sc at *
        clear hwe hO8
        go_wp2_with fail
        refine (spoil_turn _ _ _ _ _ HOd8.out (bv_ints _) (by unfold maxLen; omega)).mono ?_
        rintro e w9 ⟨rfl, hT9⟩
        have HP9 := hide (HP8.out.turned hT9 HNd.out)
        have hB09 := hB08.trans (hT9.below (fun j e => by have := (HOd8.out.lt j e).1; omega) hB08.size)
        clear hT9 HP8 HOd8 HOd HNd
        go_wp2_with fail
        refine (screen_any _ t O8 ls sc _ HP9.out).mono ?_
        rintro e wa ⟨rfl, howna, hBa⟩
        have HPa := hide (HP9.out.below hBa)
        have HOa := hide howna
        have HNa : Hid (∀ j, O8 j → ¬ (Value.slice (some ⟨w9.heap.size, 0, none⟩) sc.length sc.length).ownBlock = some j) := hide fun j ho e => by
          have := (HP9.out.lt j ho).2
          simp only [Value.ownBlock, Option.some.injEq] at e
          omega
        have hB0a := hB09.trans (hBa.mono hB09.size)
        have hz9 := hB09.size
        clear howna HP9
        go_wp2_with fail
        refine (spoil_turn _ _ _ _ _ HOa.out (bv_ints _) (by unfold maxLen; omega)).mono ?_
        rintro e wb ⟨rfl, hTb⟩
        have HPb := hide (HPa.out.turned hTb HNa.out)
        have hB0b := hB0a.trans (hTb.below (fun j e => by have := (HOa.out.lt j e).1; omega) hB0a.size)
        clear hTb HPa HOa HNa hB0a hB09 hBa
        go_wp2_with fail
        refine (read_bad _ t O8 ls sc 0 _ HPb.out (by omega)).mono ?_
        rintro e wc ⟨rfl, rfl⟩
        go_wp2_with fail
        refine (num_any _ _).mono ?_
        rintro e wd ⟨rfl, rfl⟩
        go_wp2_with fail
        refine (left_any _ t O8 ls sc _ HPb.out).mono ?_
        rintro e we ⟨rfl, rfl⟩
        go_wp2_with fail
        refine (num_any _ _).mono ?_
        rintro e wf ⟨rfl, rfl⟩
        rcases HWE.out with ⟨hE0, hsc⟩ | hE0
        case' inl =>
          subst hE0
          subst hsc
          go_wp2_with fail
          refine (screen_any _ t O8 ls sc _ HPb.out).mono ?_
          rintro e wg ⟨rfl, hown, hBg⟩
          have HOg := hide hown
          have HPz := hide (HPb.out.below hBg)
          have hB0g := hB0b.trans (hBg.mono hB0b.size)
          clear hown
          go_wp2_with fail
          refine (same_any _ _ sc _ (Bys.of_owns HOg.out) (HX0.out.below hB0g) (by unfold maxLen; omega)).mono ?_
          rintro e wz ⟨rfl, hBz⟩
          have hB0z := hB0g.trans (hBz.mono hB0g.size)
          have HPy := hide (HPz.out.below hBz)
          clear HOg HPz HPb hB0g hBg hBz
        case' inr =>
          subst hE0
          have hB0z := hB0b
          have HPy := HPb
        all_goals
          clear HWE
          by_cases hl0 : ls.length = 0
          · obtain rfl : ls = [] := List.length_eq_zero_iff.1 hl0
            simp only [List.length_nil]
            go_wp2
            go_ret
            exact ⟨rfl, hB0z⟩
          · have hz : ((ls.length : Int) == 0) = false := by simp; intro e; rw [e] at hl0; simp at hl0
            have hz2 : ¬ (ls.length : Int) = 0 := by omega
            go_wp2_with fail
            refine (read_good _ t O8 ls _ 1048576 _ HPy.out (by omega) (by omega)).mono ?_
            rintro e wj ⟨vj, rfl, hownj, hPj, hTj⟩
            obtain ⟨ja, jc, rfl⟩ := owns_slice hownj
            have hB0j := hB0z.trans (hTj.below (fun j e => by have := (HPy.out.lt j e).1; omega) hB0z.size)
            obtain ⟨b, off, va, vc, rfl, hc, hby⟩ := H0.out.at 0 (by omega)
            have hbl := World.block_lt_of_cell? w _ hc
            have hcj := (hB0j.cell (p := ⟨b, off + 0, none⟩) hbl).trans hc
            have hhd : headL ls 1048576 = ls[0] := by
              cases ls with
              | nil => simp at hl0
              | cons l r => exact List.take_of_length_le (by have := HSh.out 0 (by simp); simp only [List.getElem_cons_zero] at this; omega)
            have hsh0 := HSh.out 0 (by omega)
            rw [hhd] at hownj ⊢
            have HOj := hide hownj
            have HBj := hide (hby.below hB0j)
            generalize ls[0] = l at *
            have hk2 : (0 : Int) < (ls.length : Int) := by omega
            simp only [Nat.add_zero] at hcj
            clear hownj hPj hTj hc hby hhd HPy
            go_wp2_with fail
            refine (num_any _ _).mono ?_
            rintro e wk ⟨rfl, rfl⟩
            go_wp2_with fail
            refine (same_any _ _ l _ (Bys.of_owns HOj.out) HBj.out (by unfold maxLen; omega)).mono ?_
            rintro e wl ⟨rfl, hBl⟩
            go_wp2
            go_ret
            exact ⟨rfl, hB0j.trans (hBl.mono hB0j.size)⟩
  · have hE2 : (newE ls != 0) = true := by simpa using hE
    have HN := hide (fun W h => new_bad (.slice oa ls.length oc) ls W h hE)
    have HLn := hide (HLC.out.lns rfl HO.out)
    clear HLC HO
    generalize newE ls = E at *
    go_wp2_with fail
    refine (HN.out _ HLn.out).mono ?_
    rintro e w5 ⟨rfl, rfl⟩
    go_wp2_with fail
    refine (num_any _ _).mono ?_
    rintro e w6 ⟨rfl, rfl⟩
    go_wp2
    all_goals
      go_ret
      exact ⟨rfl, hB04⟩
end Go.Proofs.Ytoihblhhifcpnaa

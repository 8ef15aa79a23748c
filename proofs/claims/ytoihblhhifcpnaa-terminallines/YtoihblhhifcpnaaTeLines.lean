/- TerminalLines: the walk. -/
import Derived.Test.YtoihblhhifcpnaaTeAlive
import Derived.IntWalk
namespace Go.Proofs.Ytoihblhhifcpnaa
open Go.RowKit

/-- The size of a piece. -/
theorem piece_size (n : Int) : ∃ N : Nat, 1 ≤ N ∧ N ≤ 64 ∧ wrap64 (1 + (wrap64 (n.tmod 64 + 64)).tmod 64) = (N : Int) := by
  have h1 : -64 < n.tmod 64 ∧ n.tmod 64 < 64 := by
    have := Int.tmod_lt_of_pos n (b := 64) (by decide)
    have := Int.lt_tmod_of_pos n (b := 64) (by decide)
    omega
  generalize n.tmod 64 = a at h1
  have h2 : wrap64 (a + 64) = a + 64 := IntWalk.wrap64_in _ (by omega)
  rw [h2, Int.tmod_eq_emod_of_nonneg (by omega)]
  have h3 : 0 ≤ (a + 64) % 64 ∧ (a + 64) % 64 < 64 := by omega
  rw [IntWalk.wrap64_in _ (by omega)]
  exact ⟨(1 + (a + 64) % 64).toNat, by omega, by omega, by omega⟩

/-- How many lines the terminal at t has left, read off its cell. -/
def leftOf (W : World) (t : Nat) : Nat := match W.cell? ⟨t, 1, none⟩ with | some (.slice _ n _) => n | _ => 0
theorem leftOf_eq {W : World} {B t : Nat} {O : Nat → Prop} {ls : List (List UInt8)} {scr : List UInt8} (h : PTerm W B t O ls scr) : leftOf W t = ls.length := by
  obtain ⟨la, lc, s, hT⟩ := h.term
  unfold leftOf
  rw [hT.lines]
def lenOf (v : Value) : Nat := match v with | .slice _ n _ => n | _ => 0

/-- Within a line: what is got of it, and what is left. -/
def Mid (l : List UInt8) (rest left : List (List UInt8)) (m : List UInt8) : Prop :=
  (∃ k, m = l.take k ∧ left = l.drop k :: rest ∧ (k < l.length ∨ k = 0) ∧ k ≤ l.length) ∨ (m = l ∧ left = rest)
theorem mid_step {l : List UInt8} {rest : List (List UInt8)} (k N : Nat) (hN : 1 ≤ N) (hk : k < l.length ∨ k = 0) (hk2 : k ≤ l.length) : Mid l rest (restL (l.drop k :: rest) N) (l.take k ++ headL (l.drop k :: rest) N) ∧ ((headL (l.drop k :: rest) N).length = 0 → l.length = 0) ∧ ((restL (l.drop k :: rest) N).length + (l.length - (l.take k ++ headL (l.drop k :: rest) N).length) < (l.drop k :: rest).length + (l.length - (l.take k).length)) := by
  have hh : headL (l.drop k :: rest) N = (l.drop k).take N := rfl
  have e1 : l.take k ++ (l.drop k).take N = l.take (k + N) := by rw [← List.take_add]
  rw [hh, e1]
  by_cases h : N < (l.drop k).length
  · rw [restL, if_pos h, List.drop_drop]
    have h' : N < l.length - k := by simpa using h
    refine ⟨.inl ⟨k + N, rfl, rfl, .inl (by omega), by omega⟩, fun h0 => ?_, ?_⟩
    · simp at h0; omega
    · simp; omega
  · rw [restL, if_neg h]
    have h' : l.length - k ≤ N := by simpa using h
    refine ⟨.inr ⟨List.take_of_length_le (by omega), rfl⟩, fun h0 => ?_, ?_⟩
    · simp at h0; omega
    · simp; omega

set_option maxRecDepth 100000 in
set_option maxHeartbeats 4000000 in
theorem lines_walk (v : Value) (ls : List (List UInt8)) (n : Int) (w : World) (h : Lns w v ls) :
    Calls Try.prog 4 #[v, .int .i64 n] w fun e w' => e = .returned (.bool true) ∧ Below w.heap.size w w' := by
  have H0 := hide h
  obtain ⟨a1, c1, rfl⟩ := h.form
  clear h
  by_cases hE : newE ls = 0
  · obtain ⟨hfew, hshort⟩ := newE_small hE
    have HSh := hide hshort
    clear hshort
    go_enter Try.func4, Try.ntmps4
    go_wp2_with fail
    refine (alive_any _).mono ?_
    rintro e w1 ⟨rfl, hB1⟩
    go_wp2_with fail
    refine (new_good _ ls _ (H0.out.below hB1) hE).mono ?_
    rintro e w2 ⟨t, O, rfl, hP, hB2⟩
    have hB02 := hB1.trans (hB2.mono hB1.size)
    have HP := hide hP
    have HOl := hide hP.lt
    have hzB := hB1.size
    have hz3 := hB02.size
    generalize w1.heap.size = B at *
    clear hP hB1 hB2
    go_wp2_with fail
    refine (num_any _ _).mono ?_
    rintro e w3 ⟨rfl, rfl⟩
    go_wp2
    obtain ⟨N, hN1, hN2, hN⟩ := piece_size n
    rw [hN]
    clear hN
    go_loopw [7, 8, 9, 10] (fun i _ _ _ wr => ∃ k : Nat, k ≤ ls.length ∧ i = .int .i64 k ∧ Hid (PTerm wr B t O (ls.drop k) []) ∧ w3.heap.size ≤ wr.heap.size ∧ Below w.heap.size w wr) (fun i _ _ _ _ => ls.length - (intOf i).toNat)
    case atStart => exact ⟨0, Nat.zero_le _, rfl, HP, Nat.le_refl _, hB02⟩
    case round =>
      clear HP hB02
      obtain ⟨k, hk, rfl, HP, hzw, hB⟩ := hrel
      by_cases hlt : k < ls.length
      · obtain ⟨b, off, va, vc, rfl, hc, hby⟩ := H0.out.at k hlt
        have hbl := World.block_lt_of_cell? w _ hc
        have HC := hide hc
        have HBy := hide hby
        have hk1 : (0 : Int) ≤ (k : Int) := by omega
        have hk2 : (k : Int) < (ls.length : Int) := by omega
        have hx := HSh.out k hlt
        have hdr : ls.drop k = ls[k] :: ls.drop (k + 1) := List.drop_eq_getElem_cons hlt
        have hrl : (ls.drop (k + 1)).length = ls.length - (k + 1) := by simp
        rw [hdr] at HP
        obtain ⟨R, hR⟩ : ∃ R, R = ls.drop (k + 1) := ⟨_, rfl⟩
        rw [← hR] at HP hrl
        have HR := hide hR
        generalize ls[k] = l at *
        clear hc hby hdr hR
        go_wp2
        go_loopw [8, 9, 10] (fun gv _ _ wq => ∃ (m : List UInt8) (left : List (List UInt8)), Hid (Mid l R left m) ∧ Hid (wq.ownsRow w3.heap.size 5 1 gv m.length (m.map bv)) ∧ Hid (PTerm wq B t O left []) ∧ Hid (∀ j, gv.ownBlock = some j → ¬ O j) ∧ w3.heap.size ≤ wq.heap.size ∧ Below w.heap.size w wq) (fun gv _ _ wq => leftOf wq t + (l.length - lenOf gv))
        case atStart => exact ⟨[], l :: R, .inl ⟨0, by simp, by simp, .inr rfl, Nat.zero_le _⟩, World.ownsRow_nil _ _ _ _, HP, (fun j e => by cases e), hzw, hB⟩
        case round =>
          clear HP hB hzw
          obtain ⟨m, left, HM, HO, HP, HN, hzw, hB⟩ := hrel
          obtain ⟨ga, gc, rfl⟩ := owns_slice HO.out
          rcases HM.out with ⟨q, rfl, rfl, hq, hq2⟩ | ⟨rfl, rfl⟩
          · have HS := hide (mid_step (rest := R) q N hN1 hq hq2)
            have hll : ((l.drop q :: R).length : Int) = (ls.length : Int) - (k : Int) := by simp; omega
            have hml : (l.take q).length ≤ 4096 := by simp; omega
            have hlo := leftOf_eq HP.out
            have HLo := hide hlo
            clear HM hlo
            generalize hm : l.take q = m at *
            generalize hlf : l.drop q :: R = left at *
            clear hm hlf
            go_wp2_with fail
            refine (left_any B t O left [] _ HP.out).mono ?_
            rintro e w4 ⟨rfl, rfl⟩
            rw [hll]
            go_wp2_with fail
            refine (read_good B t O left [] N _ HP.out hN1 (by omega)).mono ?_
            rintro e w5 ⟨v5, rfl, hown5, hP5, hT5⟩
            have hhl := headL_len left N
            have HLo5 := hide (leftOf_eq hP5)
            obtain ⟨a5, c5, rfl⟩ := owns_slice hown5
            have hB5 := hB.trans (hT5.below (fun j e => by have := (HOl.out j e).1; omega) hB.size)
            have HO5 := hide (owns_turned HO.out hT5 HN.out)
            have hc5 := (hB5.cell (p := ⟨b, off + k, none⟩) hbl).trans HC.out
            have hz5 := hT5.size
            have HP5 := hide hP5
            have HW5 := hide hown5
            generalize headL left N = H at *
            generalize restL left N = left' at *
            obtain ⟨s', w7, hrun, HO7, hg7, hb7⟩ := run_append_bytes w5 33 w3.heap.size _ _ m H HO5.out (Bys.of_owns HW5.out) (by omega) (by omega)
            have HRun := hide hrun
            have HP7 := hide (HP5.out.keep (W' := w7) (fun j h => hg7.block j (HP5.out.lt j h).2 (fun e => HN.out j e.symm h)) hg7.size)
            have HLo7 := hide (leftOf_eq HP7.out)
            have HN7 : Hid (∀ j, s'.ownBlock = some j → ¬ O j) := hide fun j e h => by
              rcases hb7 with h1 | h1
              · rw [h1] at e; exact HN.out j e h
              · rw [h1] at e; cases e; have := (HP5.out.lt _ h).2; omega
            have hB7 := hB5.grown hg7 hB5.size (fun j e => by have := (HO5.out.lt j e).1; omega)
            have hz7 := hg7.size
            obtain ⟨sa', sc', rfl⟩ := owns_slice HO7.out
            have HMe : Hid (leftOf w7 t + (l.length - (m ++ H).length) < leftOf w4 t + (l.length - m.length)) := hide (by rw [HLo7.out, HLo.out]; exact HS.out.2.2)
            generalize hM : m ++ H = M at *
            clear hM
            clear hrun hown5 hP5 hT5 HLo HLo5 HLo7 hb7 hg7 HP5
            go_wp2_with fail
            refine (num_any _ _).mono ?_
            rintro e w6 ⟨rfl, rfl⟩
            have hHN : ¬ ((N : Int) < (H.length : Int)) := by omega
            have hHd : decide ((N : Int) < (H.length : Int)) = false := by simp; omega
            by_cases hH0 : H.length = 0
            case' pos =>
              have hl0 := HS.out.2.1 hH0
              obtain rfl := List.length_eq_zero_iff.1 hl0
              obtain rfl := List.length_eq_zero_iff.1 hH0
              simp only [List.length_nil] at hc5
            case' neg =>
              have hHz : ((H.length : Int) == 0) = false := by simp; intro e; rw [e] at hH0; simp at hH0
              have hHy : ¬ (H.length : Int) = 0 := by omega
            all_goals
              go_wp2_with (at_builtin; refine Lib.wpList_append_run _ rfl _ _ _ _ rfl _ _ rfl rfl _ _ HRun.out ?_)
              all_goals first
                | (exfalso; omega)
                | (go_roundw
                   case rel => exact ⟨_, left', hide HS.out.1, HO7, HP7, HN7, by omega, hB7⟩
                   case measure => exact HMe.out)
          · have hll : (left.length : Int) = (ls.length : Int) - (k : Int) - 1 := by omega
            have hne : ((left.length : Int) == (ls.length : Int) - (k : Int)) = false := by simp; omega
            have hne2 : ¬ (left.length : Int) = (ls.length : Int) - (k : Int) := by omega
            have hc5 := (hB.cell (p := ⟨b, off + k, none⟩) hbl).trans HC.out
            clear HM
            go_wp2_with fail
            refine (left_any B t O left [] _ HP.out).mono ?_
            rintro e w4 ⟨rfl, rfl⟩
            go_wp2_with fail
            refine (same_any _ _ m _ (Bys.of_owns HO.out) (HBy.out.below hB) (by unfold maxLen; omega)).mono ?_
            rintro e w5 ⟨rfl, hB5⟩
            have HP5 := hide (HP.out.below hB5)
            have hB05 := hB.trans (hB5.mono hB.size)
            have hz5 := hB5.size
            clear HP HO HN
            go_wp2_with fail
            refine (left_any B t O left [] _ HP5.out).mono ?_
            rintro e w6 ⟨rfl, rfl⟩
            rw [hll]
            go_wp2
            go_roundw
            case rel => exact ⟨k + 1, by omega, by go_num, by rw [← HR.out]; exact HP5, by omega, hB05⟩
            case measure => simp [intOf]; omega
      · have hke : k = ls.length := by omega
        subst hke
        rw [List.drop_length] at HP
        go_wp2_with fail
        refine (read_good B t O [] [] N _ HP.out hN1 (by omega)).mono ?_
        rintro e w5 ⟨v5, rfl, hown5, hP5, hT5⟩
        obtain ⟨a5, c5, rfl⟩ := owns_slice hown5
        have hB5 := hB.trans (hT5.below (fun j e => by have := (HOl.out j e).1; omega) hB.size)
        rw [show headL [] N = [] from rfl]
        simp only [List.length_nil]
        clear hown5 hP5 hT5
        go_wp2_with fail
        refine (num_any _ _).mono ?_
        rintro e w6 ⟨rfl, rfl⟩
        go_wp2
        go_ret
        exact ⟨rfl, hB5⟩
  · have hE2 : (newE ls != 0) = true := by simpa using hE
    have HN := hide (fun W h => new_bad (.slice a1 ls.length c1) ls W h hE)
    generalize newE ls = E at *
    go_enter Try.func4, Try.ntmps4
    go_wp2_with fail
    refine (alive_any _).mono ?_
    rintro e w1 ⟨rfl, hB1⟩
    go_wp2_with fail
    refine (HN.out _ (H0.out.below hB1)).mono ?_
    rintro e w2 ⟨rfl, rfl⟩
    go_wp2_with fail
    refine (num_any _ _).mono ?_
    rintro e w3 ⟨rfl, rfl⟩
    go_wp2
    all_goals
      go_ret
      exact ⟨rfl, hB1⟩
end Go.Proofs.Ytoihblhhifcpnaa

/- TerminalScreen: the walk. -/
import Derived.Test.YtoihblhhifcpnaaTeAlive
namespace Go.Proofs.Ytoihblhhifcpnaa
open Go.RowKit

set_option maxRecDepth 100000 in
set_option maxHeartbeats 4000000 in
theorem screen_walk (v vt : Value) (ls ts : List (List UInt8)) (w : World) (h : Lns w v ls) (ht : Lns w vt ts) (hts : ∀ j (hj : j < ts.length), ts[j].length ≤ 140737488351232) (htl : ts.length * 24 ≤ 140737488351232) :
    Calls Try.prog 6 #[v, vt] w fun e w' => e = .returned (.bool true) ∧ Below w.heap.size w w' := by
  have H0 := hide h
  have HT := hide ht
  have HTS := hide hts
  obtain ⟨a1, c1, rfl⟩ := h.form
  obtain ⟨a2, c2, rfl⟩ := ht.form
  clear h ht hts
  by_cases hE : newE ls = 0
  · go_enter Try.func6, Try.ntmps6
    go_wp2_with fail
    refine (alive_any _).mono ?_
    rintro e w1 ⟨rfl, hB1⟩
    go_wp2_with fail
    refine (new_good _ ls _ (H0.out.below hB1) hE).mono ?_
    rintro e w2 ⟨t, O, rfl, hP, hB2⟩
    have hB02 := hB1.trans (hB2.mono hB1.size)
    have HP := hide hP
    have hzB := hB1.size
    have hz3 := hB02.size
    generalize w1.heap.size = B at *
    clear hP hB1 hB2 H0
    go_wp2_with fail
    refine (num_any _ _).mono ?_
    rintro e w3 ⟨rfl, rfl⟩
    go_wp2
    go_loopw [7, 8, 9, 10] (fun wv i _ _ wr => ∃ (k : Nat) (O : Nat → Prop) (ls' : List (List UInt8)) (m : List UInt8), k ≤ ts.length ∧ i = .int .i64 k ∧ Hid (wr.ownsRow w3.heap.size 5 1 wv m.length (m.map bv)) ∧ Hid (PTerm wr B t O ls' m) ∧ Hid (∀ j, wv.ownBlock = some j → ¬ O j) ∧ m.length ≤ 1048576 ∧ w3.heap.size ≤ wr.heap.size ∧ Below w.heap.size w wr) (fun _ i _ _ _ => ts.length - (intOf i).toNat)
    case atStart => exact ⟨0, O, ls, [], Nat.zero_le _, rfl, World.ownsRow_nil _ _ _ _, HP, (fun j e => by cases e), by simp, Nat.le_refl _, hB02⟩
    case round =>
      clear HP hB02
      obtain ⟨k, O, ls', m, hk, rfl, HO, HP, HN, hm, hzw, hB⟩ := hrel
      obtain ⟨wa, wc, rfl⟩ := owns_slice HO.out
      by_cases hlt : k < ts.length
      · obtain ⟨b, off, va, vc, rfl, hc, hby⟩ := HT.out.at k hlt
        have hbl := World.block_lt_of_cell? w _ hc
        have HC := hide hc
        have HBy := hide hby
        have hk1 : (0 : Int) ≤ (k : Int) := by omega
        have hk2 : (k : Int) < (ts.length : Int) := by omega
        have hx := HTS.out k hlt
        generalize ts[k] = x at *
        clear hc hby
        go_wp2_with fail
        refine (read_any B t O ls' m _ _ HP.out).mono ?_
        rintro e w4 ⟨v4, rfl, hown4, hP4, hT4⟩
        obtain ⟨a4, c4, rfl⟩ := owns_slice hown4
        have HP4 := hide hP4
        have hB4 := hB.trans (hT4.below (fun j e => by have := (HP.out.lt j e).1; omega) hB.size)
        have HO4 := hide (owns_turned HO.out hT4 HN.out)
        have hc4 := (hB4.cell (p := ⟨b, off + k, none⟩) hbl).trans HC.out
        have hz4 := hT4.size
        have hO4 := hide (fun j h => (HP.out.lt j h).2)
        clear hown4 hP4 hT4 HP hB
        generalize rdR ls' _ = ls4 at *
        go_wp2_with fail
        refine (write_any B t O ls4 m _ x _ HP4.out (HBy.out.below hB4)).mono ?_
        rintro e w5 ⟨rfl, O5, hP5, hO5, hT5⟩
        have HP5 := hide hP5
        have hB5 := hB4.trans (hT5.below (fun j e => by have := (HP4.out.lt j e).1; omega) hB4.size)
        have HO5 := hide (owns_turned HO4.out hT5 HN.out)
        have hc5 := (hB5.cell (p := ⟨b, off + k, none⟩) hbl).trans HC.out
        have hz5 := hT5.size
        have HN5 : Hid (∀ j, (Value.slice wa m.length wc).ownBlock = some j → ¬ O5 j) := hide fun j e h => by
          rcases hO5 j h with h1 | h1
          · exact HN.out j e h1
          · have := (HO4.out.lt j e).2; omega
        clear hP5 hT5 HP4 hB4 HO4 hc4
        by_cases hf : 1048576 < m.length + x.length
        · have hd : decide ((1048576 : Int) < (m.length : Int) + (x.length : Int)) = true := by simp; omega
          rw [show wrE m.length x.length = 31 by unfold wrE; rw [if_pos hf]]
          rw [show wrS m x = m by unfold wrS; rw [if_pos hf]] at HP5
          go_wp2_with fail
          refine (num_any _ _).mono ?_
          rintro e w6 ⟨rfl, rfl⟩
          go_wp2
          all_goals first
            | (exfalso; omega)
            | (go_roundw
               case rel => exact ⟨k + 1, O5, ls4, m, by omega, by go_num, HO5, HP5, HN5, hm, by omega, hB5⟩
               case measure => simp [intOf]; omega)
        · have hd : decide ((1048576 : Int) < (m.length : Int) + (x.length : Int)) = false := by simp; omega
          rw [show wrE m.length x.length = 0 by unfold wrE; rw [if_neg hf]]
          rw [show wrS m x = m ++ x by unfold wrS; rw [if_neg hf]] at HP5
          obtain ⟨s', w7, hrun, HO7, hg7, hb7⟩ := run_append_bytes w5 33 w3.heap.size _ _ m x HO5.out (HBy.out.below hB5) (by omega) (by omega)
          have HR := hide hrun
          clear hrun
          go_wp2_with fail
          refine (num_any _ _).mono ?_
          rintro e w6 ⟨rfl, rfl⟩
          go_wp2_with (at_builtin; refine Lib.wpList_append_run _ rfl _ _ _ _ rfl _ _ rfl rfl _ _ HR.out ?_)
          all_goals first
            | (exfalso; omega)
            | (go_roundw
               case rel =>
                 refine ⟨k + 1, O5, ls4, m ++ x, by omega, by go_num, HO7, HP5.out.keep (fun j h => hg7.block j (HP5.out.lt j h).2 (fun e => HN5.out j e.symm h)) hg7.size, fun j e h => ?_, by simp; omega, by have := hg7.size; omega, hB5.grown hg7 hB5.size (fun j e => by have := (HO5.out.lt j e).1; omega)⟩
                 rcases hb7 with h1 | h1
                 · rw [h1] at e; exact HN5.out j e h
                 · rw [h1] at e; cases e; have := (HP5.out.lt _ h).2; omega
               case measure => simp [intOf]; omega)
      · go_wp2_with fail
        refine (screen_any B t O ls' m _ HP.out).mono ?_
        rintro e w4 ⟨rfl, hown4, hB4⟩
        have HO4 := hide hown4
        clear hown4
        go_wp2_with fail
        refine (same_any _ _ m _ (Bys.of_owns HO4.out) ((Bys.of_owns HO.out).below hB4) (by unfold maxLen; omega)).mono ?_
        rintro e w5 ⟨rfl, hB5⟩
        go_wp2
        go_ret
        have hB04 := hB.trans (hB4.mono hB.size)
        exact ⟨rfl, hB04.trans (hB5.mono hB04.size)⟩
  · have hE2 : (newE ls != 0) = true := by simpa using hE
    have HN := hide (fun W h => new_bad (.slice a1 ls.length c1) ls W h hE)
    generalize newE ls = E at *
    go_enter Try.func6, Try.ntmps6
    go_wp2_with fail
    refine (alive_any _).mono ?_
    rintro e w1 ⟨rfl, hB1⟩
    go_wp2_with fail
    refine (HN.out _ (H0.out.below hB1)).mono ?_
    rintro e w2 ⟨rfl, rfl⟩
    go_wp2_with fail
    refine (num_any _ _).mono ?_
    rintro e w3 ⟨rfl, rfl⟩
    go_wp2
    all_goals
      go_ret
      exact ⟨rfl, hB1⟩
end Go.Proofs.Ytoihblhhifcpnaa

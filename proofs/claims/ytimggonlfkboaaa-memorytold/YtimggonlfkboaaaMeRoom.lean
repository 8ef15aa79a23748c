/- MemoryRoom, walked. -/
import Derived.Test.YtimggonlfkboaaaMeAlive
import Derived.Test.YtimggonlfkboaaaMeFrame
namespace Go.Proofs.Ytimggonlfkboaaa
open Go.RowKit

theorem lay_end (l x : List UInt8) : lay l l.length x = l ++ x := by
  unfold lay
  split
  · rename_i h; subst h; simp
  · have h1 : grow l (l.length + x.length) = l ++ List.replicate x.length 0 := by
      unfold grow
      rw [show l.length + x.length - l.length = x.length by omega]
    rw [h1, List.take_left, List.drop_eq_nil_of_le (by simp), List.append_nil]
/-- A row of bytes of one's own. -/
def RowO (v : Value) (l : List UInt8) (w : World) (P : Nat → Prop) : Prop := w.ownsRow 0 5 1 v l.length (l.map bv) ∧ ∀ k, v.ownBlock = some k → P k
theorem row_o (v : Value) (l : List UInt8) : OAt (RowO v l) := ⟨fun h hk _ => ⟨owns_keep h.1 fun k e => hk k (h.2 k e) (h.1.lt k e).2, h.2⟩, fun h => ⟨h.1, fun k e => ⟨h.2 k e, (h.1.lt k e).2⟩⟩⟩
theorem row_nil (w : World) (P : Nat → Prop) : RowO (.slice none 0 0) [] w P := ⟨World.ownsRow_nil _ _ _ _, fun k e => by cases e⟩
/-- An append to a row of one's own, beside another thing. -/
theorem Both.append {A : World → (Nat → Prop) → Prop} {v : Value} {L t : List UInt8} {x : Value} {w : World} {Q : Nat → Prop} (hA : OAt A) (h : Both A (RowO v L) w Q) (ty : TypeId) (hx : Bys w x t) (hn : L.length + t.length ≤ 140737488351232) :
    ∃ sa sc w', (Builtin.append_ #[22, 22] ty #[v, x]).run Try.prog w = .ok (.slice sa (L ++ t).length sc) w' ∧ Both A (RowO (.slice sa (L ++ t).length sc) (L ++ t)) w' (fun j => Q j ∨ w.heap.size ≤ j) ∧ Turned Q w w' := by
  obtain ⟨P, h1, h2, h3, -⟩ := h.two hA
  obtain ⟨s', w', hrun, HO, hgr, hbl⟩ := run_append_bytes w ty 0 v x L t h1.1 hx hn (Nat.zero_le _)
  obtain ⟨sa, sc, rfl⟩ := owns_slice HO.out
  have hTu : Turned P w w' := ⟨hgr.os, hgr.tape, hgr.output, hgr.size, fun k hk hn => hgr.block k hk (fun e => hn (h1.2 k e.symm))⟩
  obtain ⟨q1, q2⟩ := h3 (RowO (.slice sa (L ++ t).length sc) (L ++ t)) w w' (Below.refl _ _) (row_o _ _) ⟨fun k => (Value.slice sa (L ++ t).length sc).ownBlock = some k, ⟨HO.out, fun k e => e⟩, fun k e => by
    rcases hbl with e' | e'
    · exact .inl (h1.2 k (by rw [← e', e]))
    · rw [e'] at e
      exact .inr (by have := Option.some.inj e; omega), hTu⟩
  exact ⟨sa, sc, w', hrun, q1, q2⟩
theorem bys_first {W : World} {va : Option Addr} {vc : Nat} {t : List UInt8} (h : Bys W (.slice va t.length vc) t) (m : Nat) (hm : m ≤ t.length) : Bys W (.slice va m vc) (t.take m) := by
  by_cases h0 : 0 < t.length
  · obtain ⟨_, yb, yo, rfl, _, _⟩ := bys_block h h0
    simpa using bys_cut h 0 m vc (by omega)
  · obtain rfl : m = t.length := by omega
    rw [List.take_of_length_le (Nat.le_refl _)]
    exact h
set_option maxRecDepth 100000 in
set_option maxHeartbeats 4000000 in
theorem mroom_any (size : Int) (a : Option Addr) (c : Nat) (ls : List (List UInt8)) (w : World) (h : MLns w (.slice a ls.length c) ls) (z1 : ls.length * 24 ≤ 140737488351232) (z2 : ∀ j (hj : j < ls.length), ls[j].length ≤ 140737488351232) :
    Calls Try.prog 7 #[.int .i64 size, .slice a ls.length c] w fun e w' => e = .returned (.bool true) ∧ Below w.heap.size w w' := by
  have HL := hide h
  have HZ := hide z2
  clear h z2
  by_cases hs : size < 0 ∨ 1048576 < size
  · have hN := hide fun w => newFixed_range size none 0 0 w hs
    rcases (show size < 0 ∨ (¬ size < 0 ∧ 1048576 < size) by omega) with h1 | ⟨h1, h2⟩
    all_goals
      clear hs
      go_enter Try.func7, Try.ntmps7
      go_wp2_with (first | (go_at_call 18; refine (malive_any _).mono ?_; rintro _ w1 ⟨rfl, hB1⟩) | (go_at_call 8; refine (hN.out _).mono ?_; rintro _ _ ⟨rfl, rfl⟩) | (go_at_call 17; refine (num_me _ _).mono ?_; rintro _ _ ⟨rfl, rfl⟩) | fail)
      go_ret
      exact ⟨rfl, hB1⟩
  obtain ⟨R, rfl⟩ : ∃ R : Nat, size = R := ⟨size.toNat, by omega⟩
  have hR : R ≤ 1048576 := by omega
  clear hs
  go_enter Try.func7, Try.ntmps7
  go_wp2_with (first | (go_at_call 18; refine (malive_any _).mono ?_; rintro _ w1 ⟨rfl, hB1⟩) | (go_at_call 8; refine (newFixed_good R (.slice none 0 0) [] _ (.inl ⟨rfl, rfl⟩) hR (Nat.zero_le _)).mono ?_; rintro _ w2 ⟨x, rfl, hX, hB2⟩; have HX := hide hX; clear hX) | (go_at_call 17; refine (num_me _ _).mono ?_; rintro _ _ ⟨rfl, rfl⟩) | fail)
  have hz1 := hB1.size
  have hz2 := hB2.size
  have HB2 := hide (hB1.trans (hB2.mono hB1.size))
  have HP0 : Hid (Both (fun w O => MemAt w O x ⟨[], R, 0⟩) (RowO (.slice none 0 0) []) w2 (fun j => w1.heap.size ≤ j)) :=
    hide ⟨fun k => w1.heap.size ≤ k ∧ k < w2.heap.size, fun _ => False, HX.out.trim, row_nil _ _, fun j e => ⟨e.1, e.2, fun e => e⟩, fun j e => e.elim⟩
  clear HX
  go_loopw [7, 8, 9, 10, 11] (fun wv i _ _ _ wr => ∃ (k : Nat) (L : List UInt8), k ≤ ls.length ∧ i = .int .i64 k ∧ L.length ≤ R ∧ (∃ wa wc, wv = .slice wa L.length wc) ∧ Hid (Both (fun w O => MemAt w O x ⟨L, R, L.length⟩) (RowO wv L) wr (fun j => w1.heap.size ≤ j)) ∧ Hid (Below w1.heap.size w1 wr)) (fun _ i _ _ _ _ => ls.length - (intOf i).toNat)
  case atStart => exact ⟨0, [], Nat.zero_le _, rfl, Nat.zero_le _, ⟨none, 0, rfl⟩, HP0, hB2⟩
  case round =>
    clear HP0
    obtain ⟨k, L, hk, rfl, hL, ⟨wa, wc, rfl⟩, HP, HB⟩ := hrel
    have hz := HB.out.size
    have HBw := hide (hB1.trans (HB.out.mono hB1.size))
    by_cases hlt : k < ls.length
    · obtain ⟨b, off, va, vc, rfl, q0, hby, hcap, hbl⟩ := HL.out.at HBw.out k hlt
      have hk1 : (0 : Int) ≤ (k : Int) := by omega
      have hk2 : (k : Int) < (ls.length : Int) := by omega
      have HBy := hide (hby.below HBw.out)
      have hcell : ∀ w4, Turned (fun j => w1.heap.size ≤ j) wr w4 → w4.cell? ⟨b, off + k, none⟩ = some (.slice va ls[k].length vc) := fun w4 hT => hT.cell q0 (fun e => by have e' : w1.heap.size ≤ b := e; omega)
      have hbound := HZ.out k hlt
      have hlow : 0 < ls[k].length → ∀ j, (Value.slice va ls[k].length vc).ownBlock = some j → j < w.heap.size := fun h0 j hj => by
        obtain ⟨_, yb, yo, rfl, yl, _⟩ := bys_block hby h0
        obtain rfl : yb = j := by simpa [Value.ownBlock] using hj
        exact yl
      have HLow := hide hlow
      generalize ls[k] = t at *
      clear hby hlow
      have hWr : Calls Try.prog 22 #[.pointer (some ⟨x, 0, none⟩), .slice va t.length vc] wr fun e w' => e = .returned (.tuple #[.int .i64 ((⟨L, R, L.length⟩ : MS).write t).1, .int .i64 ((⟨L, R, L.length⟩ : MS).write t).2.1]) ∧ Hid (Both (fun w O => MemAt w O x ((⟨L, R, L.length⟩ : MS).write t).2.2) (RowO (.slice wa L.length wc) L) w' (fun j => w1.heap.size ≤ j)) ∧ Turned (fun j => w1.heap.size ≤ j) wr w' := by
        obtain ⟨O, h1, h2, h3, -⟩ := HP.out.one (row_o _ _)
        refine (fmwrite_any O x _ t va vc wr h1 HBy.out hcap (fun h0 j hj e => ?_)).mono ?_
        · have := HLow.out h0 j hj
          have e' : w1.heap.size ≤ j := (h2 j e).1
          omega
        · rintro e w4 ⟨rfl, hS⟩
          obtain ⟨q1, q2⟩ := h3 (fun w O => MemAt w O x ((⟨L, R, L.length⟩ : MS).write t).2.2) wr w4 (Below.refl _ _) (mem_o _ _) hS
          exact ⟨rfl, q1.mono (fun j e => by rcases e with e | e; exact e; exact Nat.le_trans hz e), q2⟩
      have HW := hide hWr
      clear hWr
      by_cases h1 : 1048576 < t.length
      · have h1' : (1048576 : Int) < (t.length : Int) := by omega
        rw [MS.write_long h1] at HW
        clear HP HL HZ HBy HLow
        go_wp2_with (first | (go_at_call 22; refine HW.out.mono ?_; rintro _ w4 ⟨rfl, HP4, hT4⟩; have HT4 := hide hT4; have hc4 := hcell w4 hT4; clear hT4) | (go_at_call 17; refine (num_me _ _).mono ?_; rintro _ _ ⟨rfl, rfl⟩) | fail)
        exact ⟨⟨k + 1, L, by omega, by go_num, hL, ⟨wa, wc, rfl⟩, HP4, hide (HB.out.trans (HT4.out.below (fun _ e => e) hz))⟩, by simp [intOf]; omega⟩
      have h1' : ¬ (1048576 : Int) < (t.length : Int) := by omega
      by_cases h4 : 0 < t.length ∧ L.length = R
      · rw [MS.write_full (by omega) (List.length_pos_iff.1 h4.1) h4.2] at HW
        have h3 : (0 : Int) < (t.length : Int) := by omega
        have h5 : ((R : Int) - (L.length : Int) == 0) = true := by simp; omega
        have H4 := hide h4
        clear HP HL HZ HBy HLow h4
        go_wp2_with (first | (go_at_call 22; refine HW.out.mono ?_; rintro _ w4 ⟨rfl, HP4, hT4⟩; have HT4 := hide hT4; have hc4 := hcell w4 hT4; clear hT4) | (go_at_call 17; refine (num_me _ _).mono ?_; rintro _ _ ⟨rfl, rfl⟩) | fail)
        exact ⟨⟨k + 1, L, by omega, by go_num, hL, ⟨wa, wc, rfl⟩, HP4, hide (HB.out.trans (HT4.out.below (fun _ e => e) hz))⟩, by simp [intOf]; omega⟩
      obtain ⟨m, hm⟩ : ∃ m, m = min t.length (R - L.length) := ⟨_, rfl⟩
      have hmt : m ≤ t.length := by omega
      have hmR : L.length + m ≤ R := by omega
      have hWm : (⟨L, R, L.length⟩ : MS).write t = ((m : Int), 0, ⟨L ++ t.take m, R, (L ++ t.take m).length⟩) := by
        by_cases h2 : t = []
        · subst h2
          obtain rfl : m = 0 := by simpa using hm
          rw [MS.write_none]; simp
        · rw [MS.write_some (by omega) h2 (fun e => h4 ⟨List.length_pos_iff.2 h2, e⟩) (m := m) hm, lay_end, List.length_append, List.length_take, Nat.min_eq_left hmt]
      rw [hWm] at HW
      have hmi : min ((R : Int) - (L.length : Int)) (t.length : Int) = (m : Int) := by omega
      have H4 := hide h4
      have Hm := hide hm
      have HByT : Hid (∀ w4, Turned (fun j => w1.heap.size ≤ j) wr w4 → Bys w4 (.slice va t.length vc) t) := hide fun w4 hT => by
        by_cases h0 : 0 < t.length
        · exact HBy.out.turned hT (fun j hj _ e => by have := HLow.out h0 j hj; have e' : w1.heap.size ≤ j := e; omega)
        · exact bys_void2 HBy.out h0
      clear HP HL HZ hWm hm h4 HBy HLow
      have hmc : m ≤ vc := by omega
      by_cases h3 : 0 < t.length
      · have h3' : (0 : Int) < (t.length : Int) := by omega
        have h5 : ((R : Int) - (L.length : Int) == 0) = false := by simp; have := H4.out; omega
        go_wp2_with (first | (at_builtin; refine Lib.wpList_append_run _ rfl _ _ _ _ rfl _ _ rfl rfl _ _ HR.out ?_) | (go_at_call 22; refine HW.out.mono ?_; rintro _ w4 ⟨rfl, HP4, hT4⟩; have hc4 := hcell w4 hT4; have Hz4 := hide hT4.size; obtain ⟨sa, sc, w5, hrun, hP5, hT5⟩ := HP4.out.append (mem_o _ _) 22 (bys_first (HByT.out w4 hT4) m hmt) (by rw [List.length_take, Nat.min_eq_left hmt]; omega); have HR := hide hrun; have HP5 := hide hP5; have HT5 := hide (hT4.trans hT5 (fun _ _ e => e)); clear hrun hP5 hT5 hT4 HP4) | (go_at_call 17; refine (num_me _ _).mono ?_; rintro _ _ ⟨rfl, rfl⟩) | fail)
        have hlen : L.length + m = (L ++ t.take m).length := by rw [List.length_append, List.length_take]; omega
        rw [hlen]
        refine ⟨⟨k + 1, L ++ t.take m, by omega, by go_num, by rw [List.length_append, List.length_take]; omega, ⟨sa, sc, rfl⟩, hide (HP5.out.mono (fun j e => ?_)), hide (HB.out.trans (HT5.out.below (fun _ e => e) hz))⟩, by simp [intOf]; omega⟩
        rcases e with e | e
        · exact e
        · exact Nat.le_trans hz (Nat.le_trans Hz4.out e)

      · have h3' : ¬ (0 : Int) < (t.length : Int) := by omega
        go_wp2_with (first | (at_builtin; refine Lib.wpList_append_run _ rfl _ _ _ _ rfl _ _ rfl rfl _ _ HR.out ?_) | (go_at_call 22; refine HW.out.mono ?_; rintro _ w4 ⟨rfl, HP4, hT4⟩; have hc4 := hcell w4 hT4; have Hz4 := hide hT4.size; obtain ⟨sa, sc, w5, hrun, hP5, hT5⟩ := HP4.out.append (mem_o _ _) 22 (bys_first (HByT.out w4 hT4) m hmt) (by rw [List.length_take, Nat.min_eq_left hmt]; omega); have HR := hide hrun; have HP5 := hide hP5; have HT5 := hide (hT4.trans hT5 (fun _ _ e => e)); clear hrun hP5 hT5 hT4 HP4) | (go_at_call 17; refine (num_me _ _).mono ?_; rintro _ _ ⟨rfl, rfl⟩) | fail)
        have hlen : L.length + m = (L ++ t.take m).length := by rw [List.length_append, List.length_take]; omega
        rw [hlen]
        refine ⟨⟨k + 1, L ++ t.take m, by omega, by go_num, by rw [List.length_append, List.length_take]; omega, ⟨sa, sc, rfl⟩, hide (HP5.out.mono (fun j e => ?_)), hide (HB.out.trans (HT5.out.below (fun _ e => e) hz))⟩, by simp [intOf]; omega⟩
        rcases e with e | e
        · exact e
        · exact Nat.le_trans hz (Nat.le_trans Hz4.out e)

    · have hB := hide (hB1.trans (HB.out.mono hB1.size))
      go_wp2_with (first | (go_at_call 26; obtain ⟨O, P, h1, h2, -⟩ := HP.out; refine (fmbytes_any O x _ _ h1).mono ?_; rintro _ w4 ⟨v, rfl, k1, k2⟩; have K1 := hide (Bys.of_owns k1); have K2 := hide ((Bys.of_owns h2.1).below k2); have K3 := hide k2; clear k1 k2 h1 h2) | (go_at_call 21; refine (same_any _ _ L _ K1.out K2.out (by unfold maxLen; omega)).mono ?_; rintro _ w6 ⟨rfl, hB6⟩) | fail)
      go_ret
      have hB4 := hB.out.trans (K3.out.mono hB.out.size)
      exact ⟨rfl, hB4.trans (hB6.mono hB4.size)⟩
end Go.Proofs.Ytimggonlfkboaaa

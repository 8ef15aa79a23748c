/- MemoryTold, walked. -/
import Derived.Test.YtimggonlfkboaaaMeTold
import Derived.IntWalk
namespace Go.Proofs.Ytimggonlfkboaaa
open Go.RowKit

theorem told_size (n : Int) : ∃ N : Nat, 1 ≤ N ∧ N ≤ 50 ∧ wrap64 (1 + (wrap64 (n.tmod 50 + 50)).tmod 50) = (N : Int) := by
  have h1 : -50 < n.tmod 50 ∧ n.tmod 50 < 50 := by
    have := Int.tmod_lt_of_pos n (b := 50) (by decide)
    have := Int.lt_tmod_of_pos n (b := 50) (by decide)
    omega
  generalize n.tmod 50 = a at h1
  have h2 : wrap64 (a + 50) = a + 50 := IntWalk.wrap64_in _ (by omega)
  rw [h2, Int.tmod_eq_emod_of_nonneg (by omega)]
  have h3 : 0 ≤ (a + 50) % 50 ∧ (a + 50) % 50 < 50 := by omega
  rw [IntWalk.wrap64_in _ (by omega)]
  exact ⟨(1 + (a + 50) % 50).toNat, by omega, by omega, by omega⟩
theorem flat_le (ls : List (List UInt8)) (h : ∀ j (hj : j < ls.length), ls[j].length ≤ 1048576) : ls.flatten.length ≤ ls.length * 1048576 := by
  induction ls with
  | nil => simp
  | cons t r ih =>
    have h1 := h 0 (by simp)
    have h2 := ih (fun j hj => by have := h (j + 1) (by simpa using hj); simpa using this)
    simp only [List.flatten_cons, List.length_append, List.length_cons]
    simp at h1
    omega
set_option maxRecDepth 100000 in
set_option maxHeartbeats 8000000 in
theorem mtold_any (a : Option Addr) (c : Nat) (ls : List (List UInt8)) (n : Int) (w : World) (h : MLns w (.slice a ls.length c) ls) (z1 : ls.length ≤ 1048576) (z2 : ∀ j (hj : j < ls.length), ls[j].length ≤ 1048576) :
    Calls Try.prog 5 #[.slice a ls.length c, .int .i64 n] w fun e w' => e = .returned (.bool true) ∧ Below w.heap.size w w' := by
  have HL := hide h
  have HZ := hide z2
  clear h z2
  go_enter Try.func5, Try.ntmps5
  go_wp2_with fail
  refine (malive_any _).mono ?_
  rintro _ w1 ⟨rfl, hB1⟩
  have HB1 := hide hB1
  have hz1 := hB1.size
  clear hB1
  go_wp2
  have HP0 : Hid (Both (RowO (.slice none 0 0) []) (AnsO w (.slice none 0 0) []) w1 (fun j => w1.heap.size ≤ j)) := hide ⟨fun _ => False, fun _ => False, row_nil _ _, ans_nil _ _ _, fun j e => e.elim, fun j e => e.elim⟩
  go_loopg [5, 6, 7] ls.length (fun gq s5 s6 s7 wx => ∃ k : Nat, k + gq = ls.length ∧ s7 = .int .i64 k ∧ (∃ la lc, s5 = .slice la k lc) ∧ (∃ aa ac, s6 = .slice aa (ls.take k).flatten.length ac) ∧ Hid (Both (RowO s6 (ls.take k).flatten) (AnsO w s5 (ls.take k)) wx (fun j => w1.heap.size ≤ j)) ∧ Hid (Below w1.heap.size w1 wx))
  case atStart => exact ⟨0, by omega, rfl, ⟨none, 0, rfl⟩, ⟨none, 0, by simp⟩, by simpa using HP0, hide (Below.refl _ _)⟩
  case round =>
    clear HP0
    obtain ⟨k, hkg, rfl, ⟨la, lc, rfl⟩, ⟨aa, ac, rfl⟩, HP, HBx⟩ := hrel
    have HBw := hide (HB1.out.trans (HBx.out.mono HB1.out.size))
    have hBz := HBx.out.size
    by_cases hlt : k < ls.length
    · obtain ⟨gq, rfl⟩ : ∃ gq, gk = gq + 1 := ⟨gk - 1, by omega⟩
      obtain ⟨b, off, va, vc, rfl, q0, hby, hcap, hbl⟩ := MLns.at HL.out HBw.out k hlt
      have hk1 : (0 : Int) ≤ (k : Int) := by omega
      have hk2 : (k : Int) < (ls.length : Int) := by omega
      have hbound := HZ.out k hlt
      have hBa := recv4 wr (Obj.cells #[.slice va ls[k].length vc, .int .i64 0] 64)
      have c0 : (wr.alloc (Obj.cells #[.slice va ls[k].length vc, .int .i64 0] 64)).cell? ⟨wr.heap.size, 0, none⟩ = some (.slice va ls[k].length vc) := by simp only [World.cell?, heap_alloc_new]; rfl
      have c1 : (wr.alloc (Obj.cells #[.slice va ls[k].length vc, .int .i64 0] 64)).cell? ⟨wr.heap.size, 1, none⟩ = some (.int .i64 0) := by simp only [World.cell?, heap_alloc_new]; rfl
      have htk : (ls.take k).length = k := by rw [List.length_take]; omega
      have hfl : (ls.take k).flatten.length ≤ k * 1048576 := by
        have := flat_le (ls.take k) (fun j hj => by rw [List.getElem_take]; exact HZ.out j (by simp at hj; omega))
        rw [htk] at this
        exact this
      have hPa := (HP.out.below (row_o _ _) (ans_o _ _ _) hBa).mono (fun j e => e.1)
      obtain ⟨sa, sc, w4, hrun, hP4, hT4⟩ := AnsO.more (row_o _ _) hPa 46 c0 c1 hby hcap (by rw [htk]; omega)
      rw [htk] at hrun hP4
      have hz4 := hT4.size
      have hza := hBa.size
      have hTa : Turned (fun j => w1.heap.size ≤ j) wr w4 := (Turned.of_below (S := fun j => w1.heap.size ≤ j) hBa).trans hT4 (fun _ _ e => e)
      have hP4' := hP4.mono (Q' := fun j => w1.heap.size ≤ j) (fun j e => by rcases e with e | e; exact e; show w1.heap.size ≤ j; omega)
      have hb4 : Bys w4 (.slice va ls[k].length vc) ls[k] := by
        by_cases h0 : 0 < ls[k].length
        · refine (hby.below HBw.out).turned hTa (fun j hj _ e => ?_)
          obtain ⟨_, yb, yo, rfl, yl, _⟩ := bys_block hby h0
          obtain rfl : yb = j := by simpa [Value.ownBlock] using hj
          have e' : w1.heap.size ≤ yb := e
          omega
        · exact bys_void2 hby h0
      obtain ⟨sa2, sc2, w5, hrun2, hP5, hT5⟩ := hP4'.swap.append (ans_o _ _ _) 22 hb4 (by omega)
      have q0' : w4.cell? ⟨b, off + k, none⟩ = some (.slice va ls[k].length vc) := hTa.cell q0 (fun e => by have e' : w1.heap.size ≤ b := e; omega)
      have hz5 := hT5.size
      have HR := hide hrun
      have HR2 := hide hrun2
      have HE : Hid (ls.take (k + 1) = ls.take k ++ [ls[k]]) := hide (List.take_succ_eq_append_getElem hlt)
      have HP5 : Hid (Both (RowO (.slice sa2 ((ls.take k).flatten ++ ls[k]).length sc2) ((ls.take k).flatten ++ ls[k])) (AnsO w (.slice sa (k + 1) sc) (ls.take k ++ [ls[k]])) w5 (fun j => w1.heap.size ≤ j)) := hide (hP5.swap.mono (fun j e => by rcases e with e | e; exact e; show w1.heap.size ≤ j; omega))
      have HT5 := hide (hTa.trans hT5 (fun _ _ e => e))
      generalize hG : (ls.take k).flatten = G at *
      have HGe := hide hG
      generalize hlk : ls[k] = t at *
      clear hG hlk hrun hrun2 hP4 hP4' hP5 hPa hT4 hTa hT5 hb4 c0 c1 hBa hby HP
      generalize hzn : (G ++ t).length = zn at *
      have Hzn := hide hzn
      clear hzn
      go_wp2_with (first | (at_builtin; refine Lib.wpList_append_run _ rfl _ _ _ _ rfl _ _ rfl rfl _ _ HR.out ?_) | (at_builtin; refine Lib.wpList_append_run _ rfl _ _ _ _ rfl _ _ rfl rfl _ _ HR2.out ?_))
      go_roundg gq
      case measure => omega
      case rel =>
        have hfe : (ls.take (k + 1)).flatten = G ++ t := by rw [HE.out, List.flatten_append, HGe.out]; simp
        refine ⟨k + 1, by omega, by go_num, ⟨sa, sc, rfl⟩, ⟨sa2, sc2, by rw [hfe, Hzn.out]⟩, ?_, hide (HBx.out.trans (HT5.out.below (fun _ e => e) hBz))⟩
        rw [hfe, HE.out]
        exact HP5
    · obtain rfl : k = ls.length := by omega
      rw [List.take_of_length_le (Nat.le_refl _)] at HP
      have hfl := flat_le ls HZ.out
      have hal : Bys wr (.slice aa ls.flatten.length ac) ls.flatten ∧ AnsR wr (.slice la ls.length lc) (ls.map fun t => (t, (0 : Int))) := by
        obtain ⟨O, P, p1, p2, _⟩ := HP.out
        exact ⟨Bys.of_owns p1.1, p2.ansR HBw.out⟩
      rw [List.take_of_length_le (Nat.le_refl _)]
      have HAl := hide hal
      generalize hG : ls.flatten = G at *
      have HGe := hide hG
      clear hal hG HP HL
      by_cases hc : 4096 < ls.length
      · go_wp2_with fail
        refine (newCustom_count la none ls.length 0 lc 0 wr (.inl hc)).mono ?_
        rintro _ _ ⟨rfl, rfl⟩
        go_wp2_with (first | (go_at_call 17; refine (num_me _ _).mono ?_; rintro _ _ ⟨rfl, rfl⟩) | fail)
        go_ret
        exact ⟨rfl, HBw.out⟩
      go_wp2_with fail
      refine (newCustom_any _ _ (ls.map fun t => (t, (0 : Int))) [] wr HAl.out.2 (.inl ⟨rfl, rfl⟩) (by rw [List.length_map]; omega) (by decide)).mono ?_
      rintro e w4 (⟨⟨y, hy, hy2⟩, -⟩ | ⟨-, x, rfl, hC, hB4⟩)
      · exfalso
        obtain ⟨t, ht, rfl⟩ := List.mem_map.1 hy
        obtain ⟨j, hj, rfl⟩ := List.getElem_of_mem ht
        have := HZ.out j hj
        simp at hy2
        omega
      obtain ⟨N, hN1, hN2, hN⟩ := told_size n
      have HC := hide hC
      have HB4 := hide hB4
      have hz4 := hB4.size
      have HC4 : Hid (Both (fun w O => CusAt w O x ⟨ls.map fun t => (t, (0 : Int)), [], []⟩) (RowO (.slice none 0 0) []) w4 (fun j => wr.heap.size ≤ j)) :=
        hide ⟨fun k => wr.heap.size ≤ k ∧ k < w4.heap.size, fun _ => False, hC.trim, row_nil _ _, fun j e => ⟨e.1, e.2, fun e => e⟩, fun j e => e.elim⟩
      have HI0 : Hid (noErr (ls.map fun t => (t, (0 : Int))) ∧ joinR (ls.map fun t => (t, (0 : Int))) = G ∧ potR (ls.map fun t => (t, (0 : Int))) = G.length + ls.length) := hide ⟨fun y hy => by obtain ⟨t, _, rfl⟩ := List.mem_map.1 hy; rfl, by rw [joinR_texts, HGe.out], by rw [potR_texts, HGe.out]⟩
      have HAl4 := hide (HAl.out.1.below hB4)
      have HAlb : Hid (0 < G.length → ∀ j, (Value.slice aa G.length ac).ownBlock = some j → j < wr.heap.size) := hide fun h0 j hj => by
        obtain ⟨_, yb, yo, rfl, yl, _⟩ := bys_block HAl.out.1 h0
        obtain rfl : yb = j := by simpa [Value.ownBlock] using hj
        exact yl
      have HN := hide hN
      clear hC hB4 HC HAl HGe hN HZ
      go_wp2_with (first | (go_at_call 17; refine (num_me _ _).mono ?_; rintro _ _ ⟨rfl, rfl⟩) | fail)
      rw [HN.out]
      clear HN
      generalize (ls.map fun t => (t, (0 : Int))) = R0 at *
      generalize hrz : wr.heap.size = rz at *
      have Hrz := hide hrz
      clear hrz
      go_loopg [10, 11, 12, 13] (G.length + ls.length + 1) (fun gq s10 s11 _ _ wx => ∃ (i : Nat) (g : List UInt8) (C : CS), i + gq = G.length + ls.length + 1 ∧ s11 = .int .i64 i ∧ (∃ ga gc, s10 = .slice ga g.length gc) ∧ g.length ≤ G.length ∧ Hid (noErr C.reads ∧ g ++ joinR C.reads = G ∧ potR C.reads ≤ G.length + ls.length - i) ∧ Hid (Both (fun w O => CusAt w O x C) (RowO s10 g) wx (fun j => rz ≤ j)) ∧ Hid (Turned (fun j => rz ≤ j) w4 wx))
      case atStart => exact ⟨0, [], _, by omega, rfl, ⟨none, 0, rfl⟩, Nat.zero_le _, hide ⟨HI0.out.1, by simpa using HI0.out.2.1, by have := HI0.out.2.2; show potR R0 ≤ _; omega⟩, HC4, hide (Turned.refl _ _)⟩
      case round =>
        clear HC4 HI0
        obtain ⟨i, g, C, hig, rfl, ⟨ga, gc, rfl⟩, hgl, HI, HP, HT⟩ := hrel
        have hzx := HT.out.size
        by_cases hle : i ≤ G.length + ls.length
        · obtain ⟨gq, rfl⟩ : ∃ gq, gk = gq + 1 := ⟨gk - 1, by omega⟩
          have hi2 : (i : Int) ≤ (G.length : Int) + (ls.length : Int) := by omega
          have hRd : Calls Try.prog 28 #[.pointer (some ⟨x, 0, none⟩), .int .i64 (N : Int)] wr fun e w' => ∃ ya yc, e = .returned (.tuple #[.slice ya (C.read (N : Int)).1.length yc, .int .i64 (C.read (N : Int)).2.1]) ∧ Bys w' (.slice ya (C.read (N : Int)).1.length yc) (C.read (N : Int)).1 ∧ Both (fun w O => CusAt w O x (C.read (N : Int)).2.2) (RowO (.slice ga g.length gc) g) w' (fun j => rz ≤ j) ∧ Turned (fun j => rz ≤ j) wr w' := by
            obtain ⟨O, h1, h2, -, h4⟩ := HP.out.one (row_o _ _)
            refine (cread_any O x C N wr h1).mono ?_
            rintro e w' ⟨v, rfl, ho, hM, hTT⟩
            obtain ⟨ya, yc, rfl⟩ := owns_slice ho
            obtain ⟨q1, q2⟩ := h4 (fun w O => CusAt w O x (C.read (N : Int)).2.2) w' hM hTT
            exact ⟨ya, yc, rfl, Bys.of_owns ho, q1.mono (fun j e => e.1), q2⟩
          have hst := told_step C N hN1 (by omega) HI.out.1
          have HRd := hide hRd
          clear hRd
          generalize hRR : C.read (N : Int) = RR at *
          obtain ⟨Y, E, C'⟩ := RR
          simp only at hst HRd
          obtain ⟨rfl, hYl, hj, hp, hE⟩ := hst
          have hgY : g.length + Y.length ≤ G.length := by
            have h1 := congrArg List.length HI.out.2.1
            rw [← hj, List.length_append, List.length_append] at h1
            omega
          have HI' : Hid (noErr C'.reads ∧ (g ++ Y) ++ joinR C'.reads = G ∧ potR C'.reads ≤ G.length + ls.length - (i + 1)) := hide ⟨hE, by rw [List.append_assoc, hj]; exact HI.out.2.1, by have := HI.out.2.2; omega⟩
          have hYl' : ¬ (N : Int) < (Y.length : Int) := by omega
          clear hRR hj hp hE HP HI
          go_wp2_with (first
            | (at_builtin; refine Lib.wpList_append_run _ rfl _ _ _ _ rfl _ _ rfl rfl _ _ HR.out ?_)
            | (go_at_call 28; refine HRd.out.mono ?_; rintro _ w5 ⟨ya, yc, rfl, hY, hP5, hT5⟩; have hz5 := hT5.size; obtain ⟨sa, sc, w6, hrun, hP6, hT6⟩ := hP5.append (cus_o _ _) 22 hY (by omega); have HR := hide hrun; have HP6 := hide (hP6.mono (Q' := fun j => rz ≤ j) (fun j e => by rcases e with e | e; exact e; show rz ≤ j; omega)); have HT6 := hide ((HT.out.trans hT5 (fun _ _ e => e)).trans hT6 (fun _ _ e => e)); clear hrun hP6 hT6 hP5 hT5 hY)
            | (go_at_call 17; refine (num_me _ _).mono ?_; rintro _ _ ⟨rfl, rfl⟩) | fail)
          rw [show g.length + Y.length = (g ++ Y).length by rw [List.length_append]]
          go_roundg gq
          case measure => omega
          case rel => exact ⟨i + 1, g ++ Y, C', by omega, by go_num, ⟨sa, sc, rfl⟩, by rw [List.length_append]; omega, HI', HP6, HT6⟩
        · have hi2 : ¬ (i : Int) ≤ (G.length : Int) + (ls.length : Int) := by omega
          have hp0 : C.reads = [] := pot_none (by have := HI.out.2.2; omega)
          have hgG : g = G := by have := HI.out.2.1; rw [hp0] at this; simpa [joinR] using this
          subst hgG
          have hgb : Bys wr (.slice ga g.length gc) g := by
            obtain ⟨O, P, _, p2, _⟩ := HP.out
            exact Bys.of_owns p2.1
          have hab : Bys wr (.slice aa g.length ac) g := by
            by_cases h0 : 0 < g.length
            · refine HAl4.out.turned HT.out (fun j hj _ e => ?_)
              have := HAlb.out h0 j hj
              have e' : rz ≤ j := e
              omega
            · exact bys_void2 HAl4.out h0
          have HS := hide (same_any _ _ g wr hgb hab (by unfold maxLen; omega))
          have HBf : Hid (Below w.heap.size w wr) := hide (by
            have h1 := HBw.out.trans (HB4.out.mono (by have := HBw.out.size; have := Hrz.out; omega))
            exact h1.trans (HT.out.below (B := w.heap.size) (fun j e => by have e' : rz ≤ j := e; have := Hrz.out; have := HBw.out.size; omega) h1.size))
          clear hgb hab
          go_wp2_with (first | (go_at_call 21; refine HS.out.mono ?_; rintro _ w8 ⟨rfl, hB8⟩) | fail)
          go_ret
          exact ⟨rfl, HBf.out.trans (hB8.mono HBf.out.size)⟩
end Go.Proofs.Ytimggonlfkboaaa

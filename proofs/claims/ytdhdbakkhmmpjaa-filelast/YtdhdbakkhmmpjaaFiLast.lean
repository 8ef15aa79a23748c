/- FileLast: the walk. -/
import Derived.Test.YtdhdbakkhmmpjaaFiSteps
namespace Go.Proofs.Ytdhdbakkhmmpjaa
open Go.RowKit

set_option maxRecDepth 100000 in
set_option maxHeartbeats 4000000 in
theorem last_walk (v vs : Value) (l : List UInt8) (ss : List Stp) (at_ : Int) (w : World) (h : Bys w v l) (hss : Stps w vs ss) (hs : l.length ≤ 140737488351232) (hs2 : ss.length * 48 ≤ 140737488351232) (hs3 : ∀ i (hi : i < ss.length), ss[i].2.2.2.length ≤ 140737488351232) :
    Calls Try.prog 4 #[v, vs, .int .i64 at_] w fun e w' => e = .returned (.bool true) ∧ Below w.heap.size w w' := by
  have H0 := hide h
  have HS := hide hss
  have HS3 := hide hs3
  obtain ⟨a1, c1, rfl, hc1⟩ := bys_form h
  have HC1 := hide hc1
  obtain ⟨sa, sc, rfl, -⟩ := hss
  clear h hs3 hc1
  by_cases hl : l.length ≤ 1048576
  · go_enter Try.func4, Try.ntmps4
    go_wp2_with fail
    refine (alive_any _).mono ?_
    rintro e w1 ⟨rfl, hB1⟩
    go_wp2_with fail
    refine (new_good _ l _ (H0.out.below hB1) hl).mono ?_
    rintro e w2 ⟨g, rfl, hF, hg, hB2⟩
    have hB02 := hB1.trans (hB2.mono hB1.size)
    have HF := hide hF
    have hz1 := hB1.size
    clear hF hB2
    go_wp2_with fail
    refine (num_any _ _).mono ?_
    rintro e w3 ⟨rfl, rfl⟩
    obtain ⟨x0, hx0⟩ : ∃ x0, x0 = l.getD at_.toNat 0 := ⟨_, rfl⟩
    have HX0 := hide hx0
    rcases (show at_ < 0 ∨ (0 ≤ at_ ∧ (l.length : Int) ≤ at_) ∨ (0 ≤ at_ ∧ at_ < (l.length : Int)) by omega) with ht | ⟨ht, ht2⟩ | ⟨ht, ht2⟩
    case' inl =>
      have hd : decide (0 ≤ at_) = false := by simp; omega
      have HW : Hid (∃ x : UInt8, Value.int .u8 0 = .int .u8 (x.toNat : Int) ∧ (0 ≤ at_ → x = l.getD at_.toNat 0)) := hide ⟨0, rfl, fun h0 => by omega⟩
      clear hx0 HX0 HC1
      go_wp2
    case' inr.inl =>
      have hd : decide (0 ≤ at_) = true := by simp; omega
      have hd2 : decide (at_ < (l.length : Int)) = false := by simp; omega
      have HW : Hid (∃ x : UInt8, Value.int .u8 0 = .int .u8 (x.toNat : Int) ∧ (0 ≤ at_ → x = l.getD at_.toNat 0)) := hide ⟨0, rfl, fun h0 => by
        rw [List.getD_eq_getElem?_getD, List.getElem?_eq_none (by omega)]; rfl⟩
      clear hx0 HX0 HC1
      go_wp2
    case' inr.inr =>
      have hd : decide (0 ≤ at_) = true := by simp; omega
      have hd2 : decide (at_ < (l.length : Int)) = true := by simp; omega
      obtain ⟨bb, oo, rfl, hc1⟩ := HC1.out (by omega)
      have hcl := hc1 at_.toNat (by omega)
      have hcl2 := (hB02.cell (p := ⟨bb, oo + at_.toNat, none⟩) (by exact World.block_lt_of_cell? w _ hcl)).trans hcl
      rw [← hx0] at hcl2
      have HW : Hid (∃ x : UInt8, Value.int .u8 (x0.toNat : Int) = .int .u8 (x.toNat : Int) ∧ (0 ≤ at_ → x = l.getD at_.toNat 0)) := hide ⟨x0, rfl, fun _ => HX0.out⟩
      clear hc1 hcl hx0 HX0 HC1
      go_wp2
    all_goals
      try clear hcl2
      try clear hd2 ht2
      clear hd ht
      go_loopw [9, 10, 11, 12] (fun wv sz i _ wr => ∃ (k b cap : Nat) (x : UInt8) (L : List UInt8), k ≤ ss.length ∧ i = .int .i64 k ∧ wv = .int .u8 (x.toNat : Int) ∧ sz = .int .i64 L.length ∧ L.length ≤ 1048576 ∧ Hid (0 ≤ at_ → x = L.getD at_.toNat 0) ∧ Hid (FileAt wr g b cap L) ∧ w.heap.size ≤ b ∧ Below w.heap.size w wr) (fun _ _ i _ _ => ss.length - (intOf i).toNat)
      case atStart =>
        obtain ⟨x, hx, hx2⟩ := HW.out
        exact ⟨0, w1.heap.size, l.length, x, l, Nat.zero_le _, rfl, hx, rfl, hl, hx2, HF, hz1, hB02⟩
      case round =>
        clear HW HF
        obtain ⟨k, b, cap, x, L, hk, rfl, rfl, rfl, hL, HX, HF, hbb, hB⟩ := hrel
        by_cases hlt : k < ss.length
        · obtain ⟨sb, so, sc', va, vc, heq, hsb, q0, q1, q2, q3, hby, hbx⟩ := stps_at HS.out hB k hlt
          cases heq
          have HBy := hide hby
          have HBx := hide hbx
          have hk1 : (0 : Int) ≤ (k : Int) := by omega
          have hk2 : (k : Int) < (ss.length : Int) := by omega
          generalize ss[k].1 = xa at *
          generalize ss[k].2.1 = xo at *
          generalize ss[k].2.2.1 = xn at *
          generalize ss[k].2.2.2 = X at *
          clear hby hbx
          have hgw := HF.out.lt
          have hbw := HF.out.row.lt
          have hzB := hB.size
          have hBa : Below wr.heap.size wr (wr.alloc (Obj.cells #[.int .i64 xa, .int .i64 xo, .int .i64 xn, .slice va X.length vc] 34)) := (Below.refl _ _).alloc (Nat.le_refl _) _
          have hc1 : (wr.alloc (Obj.cells #[.int .i64 xa, .int .i64 xo, .int .i64 xn, .slice va X.length vc] 34)).cell? ⟨wr.heap.size, 1, none⟩ = some (.int .i64 xo) := by simp only [World.cell?, heap_alloc_new]; rfl
          have hc3 : (wr.alloc (Obj.cells #[.int .i64 xa, .int .i64 xo, .int .i64 xn, .slice va X.length vc] 34)).cell? ⟨wr.heap.size, 3, none⟩ = some (.slice va X.length vc) := by simp only [World.cell?, heap_alloc_new]; rfl
          have hsn := size_new wr (Obj.cells #[.int .i64 xa, .int .i64 xo, .int .i64 xn, .slice va X.length vc] 34)
          have HC1' := hide hc1
          have HC3' := hide hc3
          clear hc1 hc3
          go_wp2_with fail
          generalize wr.alloc (Obj.cells #[.int .i64 xa, .int .i64 xo, .int .i64 xn, .slice va X.length vc] 34) = wb at *
          have hB0b := hB.trans (hBa.mono hB.size)
          refine (writeAt_any g b cap L xo _ X _ (HF.out.below hBa) (HBy.out.below hB0b) (fun h0 k e => by
            obtain ⟨bx, ox, rfl, hbx⟩ := HBx.out h0
            cases e
            dsimp only
            omega)).mono ?_
          rintro e w5 ⟨rfl, b', cap', hF5, hb5, hT5⟩
          have hc1 := (World.cell?_of_block (w := wb) (a := ⟨wr.heap.size, 1, none⟩) (hT5.block wr.heap.size hsn (by omega))).trans HC1'.out
          have hc3 := (World.cell?_of_block (w := wb) (a := ⟨wr.heap.size, 3, none⟩) (hT5.block wr.heap.size hsn (by omega))).trans HC3'.out
          have hB05 := hB0b.trans (hT5.below (B := w.heap.size) (fun k e => by omega) hB0b.size)
          have hbb' : w.heap.size ≤ b' := by omega
          have hL5 := wrL_len (off := xo) (x := X) hL
          have HWC := hide (wr_cases L xo X)
          have HF5 := hide hF5
          clear hF5 HF HC1' HC3' hT5 hB0b q0 q1 q2 q3 hB hBa
          generalize wrE xo X.length = E at *
          generalize hL' : wrL L xo X = L' at *
          clear hL'
          go_wp2_with fail
          refine (num_any _ _).mono ?_
          rintro e w6 ⟨rfl, rfl⟩
          rcases HWC.out with ⟨hE, hLL⟩ | ⟨hE, o, rfl, ho, hLL⟩
          · have hE1 : (E != 0) = true := by simpa using hE
            have hE2 : ¬ E = 0 := hE
            subst hLL
            clear HWC
            go_wp2
            go_roundw
            case rel => exact ⟨k + 1, b', cap', x, L', by omega, by go_num, rfl, rfl, hL, HX, HF5, hbb', hB05⟩
            case measure => simp [intOf]; omega
          · subst hE
            clear HWC
            by_cases hX0 : X = []
            · subst hX0
              rw [lay, if_pos rfl] at hLL
              subst hLL
              simp only [List.length_nil] at *
              go_wp2
              go_roundw
              case rel => exact ⟨k + 1, b', cap', x, L', by omega, by go_num, rfl, rfl, hL, HX, HF5, hbb', hB05⟩
              case measure => simp [intOf]; omega
            · have hXp := List.length_pos_iff.2 hX0
              have hx1 : ¬ (X.length : Int) = 0 := by omega
              have hx2 : ((X.length : Int) == 0) = false := by simpa using hx1
              have hLl : L'.length = max L.length (o + X.length) := by rw [hLL, lay_len, if_neg hX0]
              have HIn : Hid ((o : Int) ≤ at_ → at_ < (o : Int) + (X.length : Int) → ∃ bx ox, va = some ⟨bx, ox, none⟩ ∧ w6.cell? ⟨bx, ox + (at_.toNat - o), none⟩ = some (.int .u8 ((X.getD (at_.toNat - o) 0).toNat : Int))) := hide fun h1 h2 => by
                obtain ⟨a', c', he, hf⟩ := bys_form HBy.out
                cases he
                obtain ⟨bx, ox, rfl, hd⟩ := hf hXp
                have h3 := hd (at_.toNat - o) (by omega)
                exact ⟨bx, ox, rfl, (hB05.cell (p := ⟨bx, ox + (at_.toNat - o), none⟩) (by exact World.block_lt_of_cell? w _ h3)).trans h3⟩
              have HOut : Hid (at_ < (o : Int) ∨ (o : Int) + (X.length : Int) ≤ at_ → 0 ≤ at_ → x = L'.getD at_.toNat 0) := hide fun h => by rw [hLL]; exact last_out hX0 HX.out h
              have HIn2 : Hid ((o : Int) ≤ at_ → at_ < (o : Int) + (X.length : Int) → X.getD (at_.toNat - o) 0 = L'.getD at_.toNat 0) := hide fun h1 h2 => by rw [hLL]; exact last_in hX0 h1 h2
              have HLl : Hid (L.length < o + X.length ∧ L'.length = o + X.length ∨ ¬ L.length < o + X.length ∧ L'.length = L.length) := hide (by omega)
              clear hLL hLl hX0 HX HBy HBx
              rcases HLl.out with ⟨hm, hm2⟩ | ⟨hm, hm2⟩
              case' inl =>
                have hm3 : (L.length : Int) < (o : Int) + (X.length : Int) := by omega
                have HZ : Hid (Value.int .i64 ((o : Int) + (X.length : Int)) = .int .i64 (L'.length : Int)) := hide (by rw [hm2]; simp)
              case' inr =>
                have hm3 : ¬ (L.length : Int) < (o : Int) + (X.length : Int) := by omega
                have HZ : Hid (Value.int .i64 (L.length : Int) = .int .i64 (L'.length : Int)) := hide (by rw [hm2])
              all_goals
                clear hm2 HLl
                rcases (show at_ < (o : Int) ∨ ((o : Int) ≤ at_ ∧ (o : Int) + (X.length : Int) ≤ at_) ∨ ((o : Int) ≤ at_ ∧ at_ < (o : Int) + (X.length : Int)) by omega) with hu | ⟨hu, hu2⟩ | ⟨hu, hu2⟩
                · have hd8 : decide ((o : Int) ≤ at_) = false := by simp; omega
                  go_wp2
                  go_roundw
                  case rel => exact ⟨k + 1, b', cap', x, L', by omega, by go_num, rfl, HZ.out, hL5, hide (HOut.out (.inl hu)), HF5, hbb', hB05⟩
                  case measure => simp [intOf]; omega
                · have hd8 : decide ((o : Int) ≤ at_) = true := by simp; omega
                  have hd9 : decide (at_ < (o : Int) + (X.length : Int)) = false := by simp; omega
                  go_wp2
                  go_roundw
                  case rel => exact ⟨k + 1, b', cap', x, L', by omega, by go_num, rfl, HZ.out, hL5, hide (HOut.out (.inr hu2)), HF5, hbb', hB05⟩
                  case measure => simp [intOf]; omega
                · have hd8 : decide ((o : Int) ≤ at_) = true := by simp; omega
                  have hd9 : decide (at_ < (o : Int) + (X.length : Int)) = true := by simp; omega
                  obtain ⟨bx, ox, rfl, hcx⟩ := HIn.out hu hu2
                  have hi0 : (0 : Int) ≤ at_ - (o : Int) := by omega
                  have hi1 : at_ - (o : Int) < (X.length : Int) := by omega
                  have HE := hide (HIn2.out hu hu2)
                  generalize X.getD (at_.toNat - o) 0 = x' at *
                  go_wp2
                  go_roundw
                  case rel => exact ⟨k + 1, b', cap', x', L', by omega, by go_num, rfl, HZ.out, hL5, hide (fun _ => HE.out), HF5, hbb', hB05⟩
                  case measure => simp [intOf]; omega
        · have hBx := hide hB
          clear hB
          go_wp2_with fail
          refine (size_any g b cap L _ HF.out).mono ?_
          rintro e w5 ⟨rfl, rfl⟩
          rcases (show (at_ < 0 ∨ 1048576 < at_) ∨ (0 ≤ at_ ∧ at_ ≤ 1048576) by omega) with hu | ⟨hu, hu2⟩
          · go_wp2_with fail
            refine (readAt_bad g b cap L at_ 1 _ HF.out (by rw [inR_no (by omega)]; rfl)).mono ?_
            rintro e w6 ⟨rfl, hB6⟩
            have hB06 := hBx.out.trans (hB6.mono hBx.out.size)
            by_cases hu3 : at_ < 0
            · have hd8 : decide (at_ < 0) = true := by simp; omega
              go_wp2_with fail
              refine (num_any _ _).mono ?_
              rintro e w7 ⟨rfl, rfl⟩
              go_wp2
              go_ret
              exact ⟨rfl, hB06⟩
            · have hd8 : decide (at_ < 0) = false := by simp; omega
              have hd9 : decide (1048576 < at_) = true := by simp; omega
              go_wp2_with fail
              refine (num_any _ _).mono ?_
              rintro e w7 ⟨rfl, rfl⟩
              go_wp2
              go_ret
              exact ⟨rfl, hB06⟩
          · have hd8 : decide (at_ < 0) = false := by simp; omega
            have hd9 : decide (1048576 < at_) = false := by simp; omega
            have HP : Hid (Calls Try.prog 11 #[.pointer (some ⟨g, 0, none⟩), .int .i64 at_, .int .i64 1] w5 fun e w' => ∃ q, e = .returned (.tuple #[.slice (some ⟨q, 0, none⟩) (piece L at_.toNat 1).length (piece L at_.toNat 1).length, .int .i64 0]) ∧ w'.ownsRow w5.heap.size 5 1 (.slice (some ⟨q, 0, none⟩) (piece L at_.toNat 1).length (piece L at_.toNat 1).length) (piece L at_.toNat 1).length ((piece L at_.toNat 1).map bv) ∧ Below w5.heap.size w5 w') := hide (by
              have h1 := readAt_good g b cap L at_.toNat 1 w5 HF.out hL (by omega) (by omega)
              rw [Int.toNat_of_nonneg hu] at h1
              exact h1)
            by_cases hu3 : (L.length : Int) ≤ at_
            · rw [piece_end L at_.toNat 1 (by omega)] at HP
              have hda : decide ((L.length : Int) ≤ at_) = true := by simp; omega
              go_wp2_with fail
              refine HP.out.mono ?_
              rintro e w6 ⟨q, rfl, -, hB6⟩
              have hB06 := hBx.out.trans (hB6.mono hBx.out.size)
              simp only [List.length_nil]
              go_wp2_with fail
              refine (num_any _ _).mono ?_
              rintro e w7 ⟨rfl, rfl⟩
              go_wp2
              go_ret
              exact ⟨rfl, hB06⟩
            · rw [piece_one L at_.toNat (by omega), ← HX.out hu] at HP
              have hda : decide ((L.length : Int) ≤ at_) = false := by simp; omega
              go_wp2_with fail
              refine HP.out.mono ?_
              rintro e w6 ⟨q, rfl, hown6, hB6⟩
              have hB06 := hBx.out.trans (hB6.mono hBx.out.size)
              have hc6 := hown6.cellAt 0 (by simp)
              simp only [List.map_cons, List.map_nil, List.getElem?_cons_zero, bv] at hc6
              simp only [List.length_cons, List.length_nil]
              clear hown6
              go_wp2_with fail
              refine (num_any _ _).mono ?_
              rintro e w7 ⟨rfl, rfl⟩
              go_wp2
              go_ret
              exact ⟨ret_bool (by simp), hB06⟩
  · clear HC1
    go_enter Try.func4, Try.ntmps4
    go_wp2_with fail
    refine (alive_any _).mono ?_
    rintro e w1 ⟨rfl, hB1⟩
    go_wp2_with fail
    refine (new_bad _ l _ (H0.out.below hB1) (by omega)).mono ?_
    rintro e w2 ⟨rfl, rfl⟩
    go_wp2_with fail
    refine (num_any _ _).mono ?_
    rintro e w3 ⟨rfl, rfl⟩
    go_wp2
    all_goals
      go_ret
      exact ⟨rfl, hB1⟩
end Go.Proofs.Ytdhdbakkhmmpjaa

/- TerminalPlays: the walk. -/
import Derived.Test.YtoihblhhifcpnaaTePlaysBad
namespace Go.Proofs.Ytoihblhhifcpnaa
open Go.RowKit

theorem rdH_len (ls : List (List UInt8)) (n : Int) : (rdH ls n).length ≤ 1048576 := by
  unfold rdH
  split
  · rename_i h
    have := headL_len ls n.toNat
    simp only [rOk, decide_eq_true_eq] at h
    omega
  · simp

set_option maxRecDepth 100000 in
set_option maxHeartbeats 4000000 in
theorem plays_walk (v vs : Value) (l : List (List UInt8)) (ss : List Stp) (w : World) (h : Lns w v l) (hss : Stps w vs ss) (hs : l.length * 24 ≤ 140737488351232) (hs2 : ∀ j (hj : j < l.length), l[j].length ≤ 140737488351232) (hss2 : ss.length * 40 ≤ 140737488351232) (hss3 : ∀ j (hj : j < ss.length), ss[j].2.2.length ≤ 140737488351232) :
    Calls Try.prog 3 #[v, vs] w fun e w' => e = .returned (.bool true) ∧ Below w.heap.size w w' := by
  by_cases hE : newE l = 0
  · have H0 := hide h
    have HS := hide hss
    have HS2 := hide hs2
    have HS3 := hide hss3
    obtain ⟨a1, c1, rfl⟩ := h.form
    obtain ⟨sa, sc, rfl, -⟩ := hss
    clear h hs2 hss3
    go_enter Try.func3, Try.ntmps3
    go_wp2_with fail
    refine (copyLists_any _ l _ H0.out hs HS2.out).mono ?_
    rintro e w1 ⟨vo, xs, rfl, hown, hLC, hB1⟩
    obtain ⟨oa, oc, rfl⟩ := owns_slice hown
    have HLn := hide (hLC.lns rfl hown)
    clear hown hLC
    go_wp2_with fail
    refine (new_good _ l _ HLn.out hE).mono ?_
    rintro e w2 ⟨t, O, rfl, hP2, hB2⟩
    have hB02 := hB1.trans (hB2.mono hB1.size)
    have HP2 := hide hP2
    clear hP2 HLn
    go_wp2_with fail
    refine (rnew_good _ l _ (H0.out.below hB02) hs hE).mono ?_
    rintro e w3 ⟨rfl, ⟨la, lc, hR⟩, hB3⟩
    have hz1 := hB1.size
    have hz2 := hB2.size
    have hP : Pr w w3 t w2.heap.size w1.heap.size w2.heap.size O (fun k => w2.heap.size ≤ k ∧ k < w3.heap.size) la lc (.slice none 0 0) l [] := ⟨HP2.out.below hB3, hR, fun k h1 h2 => by have := (HP2.out.lt k h1).2; omega, by omega, by omega, hB02.trans (hB3.mono hB02.size)⟩
    have HP := hide hP
    clear hP hR HP2 hB3 hB2 hB02 hB1 H0 HS2 hz1 hz2
    generalize w2.heap.size = r at *
    generalize w1.heap.size = b0 at *
    generalize (fun k => r ≤ k ∧ k < w3.heap.size) = O2 at *
    go_wp2_with fail
    refine (num_any _ _).mono ?_
    rintro e w4 ⟨rfl, rfl⟩
    go_wp2
    go_loopw [5, 9, 10, 11, 12, 13, 14] (fun tp i _ _ _ _ _ wr => ∃ (k tz B1 B2 : Nat) (O1 O2 : Nat → Prop) (la : Option Addr) (lc : Nat) (s : Value) (ls : List (List UInt8)) (scr : List UInt8), k ≤ ss.length ∧ tp = .pointer (some ⟨tz, 0, none⟩) ∧ i = .int .i64 k ∧ Hid (Pr w wr tz r B1 B2 O1 O2 la lc s ls scr)) (fun _ i _ _ _ _ _ _ => ss.length - (intOf i).toNat)
    case atStart => exact ⟨0, _, _, _, _, _, _, _, _, _, _, Nat.zero_le _, rfl, rfl, HP⟩
    case round =>
      clear HP
      obtain ⟨k, tz, B1, B2, O1, O2, la, lc, s, ls, scr, hk, rfl, rfl, HP⟩ := hrel
      by_cases hlt : k < ss.length
      · obtain ⟨sb, so, sc', va, vc, heq, hsb, q0, q1, q2, hby⟩ := stps_at HS.out HP.out.below k hlt
        cases heq
        have hxs := HS3.out k hlt
        have HBy := hide hby
        have hk1 : (0 : Int) ≤ (k : Int) := by omega
        have hk2 : (k : Int) < (ss.length : Int) := by omega
        generalize ss[k].1 = xa at *
        generalize ss[k].2.1 = xn at *
        generalize ss[k].2.2 = X at *
        clear hby
        have hzB := HP.out.below.size
        have hsw : sb < wr.heap.size := by omega
        rcases (show xa = 0 ∨ xa = 1 ∨ xa = 2 ∨ (xa ≠ 0 ∧ xa ≠ 1 ∧ xa ≠ 2) by omega) with rfl | rfl | rfl | ⟨hx0, hx1, hx2⟩
        case' inl =>
          clear q2
          go_wp2_with fail
          refine (read_any B1 tz O1 ls scr xn _ HP.out.prog).mono ?_
          rintro e w5 ⟨v5, rfl, hown5, hP5, hT5⟩
          obtain ⟨a5, c5, rfl⟩ := owns_slice hown5
          have HO5 := hide hown5
          have HP5 := hide hP5
          have HR5 := hide (HP.out.mid hT5)
          have e1 := ((HP.out.midBelow hT5).cell (p := ⟨sb, so + k * 3 + 1, none⟩) hsb).trans ((HP.out.below.cell (p := ⟨sb, so + k * 3 + 1, none⟩) hsb).symm.trans q1)
          clear hown5 hP5 q0 q1
          go_wp2_with fail
          refine (rread_any B2 r O2 la lc s ls scr xn _ HR5.out HP.out.prog.few HP.out.prog.short).mono ?_
          rintro e w6 ⟨v6, rfl, hb6, ⟨la6, lc6, hR6⟩, hT6⟩
          obtain ⟨a6, c6, rfl, -⟩ := bys_form hb6
          have HB6 := hide hb6
          have HO6 := hide (owns_turned HO5.out hT6 fun j e h2 => by have := (HO5.out.lt j e).1; have := (HP.out.ref.lt j h2).2; omega)
          have HP6 := hide (HP.out.step HP5.out (fun _ h => .inl h) hT5 hR6 (fun _ h => .inl h) hT6)
          have hrl := rdH_len ls xn
          clear hb6 hR6 hT5 hT6 HO5 HP5 HR5 e1
          generalize rdH ls xn = Q at *
          generalize rdE xn = E at *
          generalize rdR ls xn = ls6 at *
          go_wp2_with fail
          refine (same_any _ _ Q _ (Bys.of_owns HO6.out) HB6.out (by unfold maxLen; omega)).mono ?_
          rintro e w7 ⟨rfl, hB7⟩
          have HP7 := hide (HP6.out.on hB7)
          clear HO6 HB6 HP6 hB7
          go_wp2_with fail
          refine (num_any _ _).mono ?_
          rintro e wz ⟨rfl, rfl⟩
          obtain ⟨tw, B1, B2, O1, O2, la, lc, s, ls, scr, GZ, htw⟩ : ∃ (tw B1 B2 : Nat) (O1 O2 : Nat → Prop) (la : Option Addr) (lc : Nat) (s : Value) (ls : List (List UInt8)) (scr : List UInt8), Hid (Pr w wz tw r B1 B2 O1 O2 la lc s ls scr) ∧ tz = tw := ⟨_, _, _, _, _, _, _, _, _, _, HP7, rfl⟩
          subst htw
          clear HP7 HP
          go_wp2_with fail
        case' inr.inl =>
          clear q1
          go_wp2_with fail
          clear q0
          have HA := hide (fun vd W h1 h2 => write_any B1 tz O1 ls scr vd X W h1 h2)
          have HA2 := hide (fun vd W h1 h2 => rwrite_any B2 r O2 la lc s ls scr vd X W h1 h2 HP.out.prog.room hxs)
          generalize wrE scr.length X.length = E at *
          generalize wrS scr X = scr' at *
          go_region_held3 (fun w' => w'.cell? ⟨sb, so + k * 3 + 2, none⟩ = some (.slice va X.length vc))
            (first | exact Kz | exact K5 | exact Kc | go_keep)
            (first
              | (go_at_call 15; refine (copy_any _ X _ (HBy.out.below HP.out.below.drew) hxs).mono ?_; rintro e wc ⟨vd, rfl, hownd, hBd⟩; obtain ⟨ad, cd, rfl⟩ := owns_slice hownd; have Kc : wc.cell? ⟨sb, so + k * 3 + 2, none⟩ = some (.slice va X.length vc) := (hBd.cell (p := ⟨sb, so + k * 3 + 2, none⟩) hsw).trans q2; have HPc := hide (HP.out.on ((Below.refl _ wr).drew.trans hBd)))
              | (go_at_call 14; refine (HA.out _ _ HPc.out.prog (Bys.of_owns hownd)).mono ?_; rintro e w5 ⟨rfl, O5, hP5, hO5, hT5⟩; have K5 : w5.cell? ⟨sb, so + k * 3 + 2, none⟩ = some (.slice va X.length vc) := ((HPc.out.midBelow hT5).cell (p := ⟨sb, so + k * 3 + 2, none⟩) hsb).trans ((HPc.out.below.cell (p := ⟨sb, so + k * 3 + 2, none⟩) hsb).symm.trans Kc))
              | (go_at_call 10; refine (num_any _ _).mono ?_; rintro e w5 ⟨rfl, rfl⟩)
              | (go_at_call 16; refine (HA2.out _ _ (HPc.out.mid hT5) (HBy.out.below (HPc.out.midBelow hT5))).mono ?_; rintro e wz ⟨rfl, O6, s6, hR6, hO6, hT6⟩; have HPz := hide (HPc.out.step hP5 hO5 hT5 hR6 hO6 hT6); have Kz : wz.cell? ⟨sb, so + k * 3 + 2, none⟩ = some (.slice va X.length vc) := (HPz.out.below.cell (p := ⟨sb, so + k * 3 + 2, none⟩) hsb).trans ((HPc.out.below.cell (p := ⟨sb, so + k * 3 + 2, none⟩) hsb).symm.trans Kc)))
          obtain ⟨tw, B1, B2, O1, O2, la, lc, s, ls, scr, GZ, htw⟩ : ∃ (tw B1 B2 : Nat) (O1 O2 : Nat → Prop) (la : Option Addr) (lc : Nat) (s : Value) (ls : List (List UInt8)) (scr : List UInt8), Hid (Pr w wz tw r B1 B2 O1 O2 la lc s ls scr) ∧ tz = tw := ⟨_, _, _, _, _, _, _, _, _, _, HPz, rfl⟩
          subst htw
          clear HPz hR6 hP5 hownd HPc HA HA2 Kz K5 Kc hT5 hT6 HP
          go_wp2_with fail
        case' inr.inr.inl =>
          clear q1 q2
          go_wp2_with fail
          refine (copy_term B1 tz O1 ls scr _ HP.out.prog).mono ?_
          rintro e w5 ⟨t5, O5, rfl, hP5, hB5⟩
          have HP5 := hide hP5
          have HQ5 := hide (HP.out.on hB5)
          clear hP5 q0
          go_wp2_with fail
          refine (read_any B1 tz O1 ls scr 1 _ HQ5.out.prog).mono ?_
          rintro e w6 ⟨v6, rfl, hown6, hP6, hT6⟩
          obtain ⟨a6, c6, rfl⟩ := owns_slice hown6
          have HP6 := hide hP6
          clear hown6 hP6
          have cv := conv_lit w6 #[.int .u8 103, .int .u8 111, .int .u8 110, .int .u8 101] 4 w6.heap.size 4 rfl rfl
          simp only [Nat.reduceAdd] at cv
          go_wp2_with fail
          have hBa : Below w6.heap.size w6 (w6.alloc (Obj.cells #[.int .u8 103, .int .u8 111, .int .u8 110, .int .u8 101] 5 (4, 5))) := (Below.refl _ _).alloc (Nat.le_refl _) _
          have Hb := hide (lit_bys w6 [103, 111, 110, 101] #[.int .u8 103, .int .u8 111, .int .u8 110, .int .u8 101] 4 w6.heap.size (4, 5) rfl rfl rfl)
          generalize w6.alloc (Obj.cells #[.int .u8 103, .int .u8 111, .int .u8 110, .int .u8 101] 5 (4, 5)) = wa at *
          refine (write_any B1 tz O1 _ scr _ [103, 111, 110, 101] _ (HP6.out.below hBa) Hb.out).mono ?_
          rintro e wz ⟨rfl, Oz, -, -, hTz⟩
          have hT5z : Turned O1 w5 wz := (hT6.trans (Turned.of_below (S := O1) hBa) (fun _ _ h => h)).trans hTz (fun _ _ h => h)
          obtain ⟨tw, B1, B2, O1, O2, la, lc, s, ls, scr, GZ, htw⟩ : ∃ (tw B1 B2 : Nat) (O1 O2 : Nat → Prop) (la : Option Addr) (lc : Nat) (s : Value) (ls : List (List UInt8)) (scr : List UInt8), Hid (Pr w wz tw r B1 B2 O1 O2 la lc s ls scr) ∧ t5 = tw := ⟨_, _, _, _, _, _, _, _, _, _, hide (HP.out.copied HP5.out hB5 hT5z), rfl⟩
          subst htw
          clear HP5 HQ5 HP6 Hb hTz hT6 hT5z hBa hB5 cv HP
          go_wp2_with fail
        case' inr.inr.inr =>
          have hy0 : (xa == 0) = false := by simpa using hx0
          have hy1 : (xa == 1) = false := by simpa using hx1
          have hy2 : (xa == 2) = false := by simpa using hx2
          go_wp2_with fail
          obtain ⟨wz, hwz⟩ : ∃ wz, wz = wr := ⟨_, rfl⟩
          rw [← hwz] at HP ⊢
          obtain ⟨tw, B1, B2, O1, O2, la, lc, s, ls, scr, GZ, htw⟩ : ∃ (tw B1 B2 : Nat) (O1 O2 : Nat → Prop) (la : Option Addr) (lc : Nat) (s : Value) (ls : List (List UInt8)) (scr : List UInt8), Hid (Pr w wz tw r B1 B2 O1 O2 la lc s ls scr) ∧ tz = tw := ⟨_, _, _, _, _, _, _, _, _, _, HP, rfl⟩
          subst htw
          clear HP hwz
        all_goals
          obtain ⟨az, cz, hez⟩ := owns_slice GZ.out.ref.scr
          subst hez
          have hcz : wz.cell? ⟨r, 0, none⟩ = some (.slice la ls.length lc) := GZ.out.ref.lines
          have hsz : wz.cell? ⟨r, 1, none⟩ = some (.slice az scr.length cz) := GZ.out.ref.screen
          have hrm := GZ.out.prog.room
          have hrl : r < wz.heap.size := (GZ.out.ref.lt r GZ.out.ref.ot).2
          have GD := hide (GZ.out.on (Below.refl _ wz).drew)
          go_region_held3 (fun w' => w'.cell? ⟨r, 0, none⟩ = some (.slice la ls.length lc) ∧ w'.cell? ⟨r, 1, none⟩ = some (.slice az scr.length cz))
            (first | exact K6 | exact K5 | go_keep)
            (first
              | (go_at_call 18; refine (left_any _ _ _ _ _ _ GD.out.prog).mono ?_; rintro e w' ⟨rfl, rfl⟩)
              | (go_at_call 19; refine (screen_any _ _ _ _ _ _ GD.out.prog).mono ?_; rintro e w5 ⟨rfl, hown5, hB5⟩; have K5 : w5.cell? ⟨r, 0, none⟩ = some (.slice la ls.length lc) ∧ w5.cell? ⟨r, 1, none⟩ = some (.slice az scr.length cz) := ⟨(hB5.cell (p := ⟨r, 0, none⟩) hrl).trans hcz, (hB5.cell (p := ⟨r, 1, none⟩) hrl).trans hsz⟩; have G5 := hide (GD.out.on hB5); have hs5 : wz.heap.size ≤ w5.heap.size := hB5.size)
              | (go_at_call 13; refine (same_any _ _ scr _ (Bys.of_owns hown5) (Bys.of_owns G5.out.ref.scr) (by unfold maxLen; omega)).mono ?_; rintro e w6 ⟨rfl, hB6⟩; have K6 : w6.cell? ⟨r, 0, none⟩ = some (.slice la ls.length lc) ∧ w6.cell? ⟨r, 1, none⟩ = some (.slice az scr.length cz) := ⟨(hB6.cell (p := ⟨r, 0, none⟩) (by show r < _; omega)).trans K5.1, (hB6.cell (p := ⟨r, 1, none⟩) (by show r < _; omega)).trans K5.2⟩; have G6 := hide (G5.out.on hB6)))
          go_wp2
          go_roundw
          case rel => exact ⟨k + 1, _, _, _, _, _, _, _, _, _, _, by omega, rfl, by go_num, G6⟩
          case measure => simp [intOf]; omega
      · go_wp2_with fail
        refine (alive_any _).mono ?_
        rintro e w5 ⟨rfl, hB5⟩
        go_wp2
        go_ret
        exact ⟨rfl, (HP.out.on hB5).below⟩
  · exact plays_bad _ _ l ss w h hss hs hs2 hE
end Go.Proofs.Ytoihblhhifcpnaa

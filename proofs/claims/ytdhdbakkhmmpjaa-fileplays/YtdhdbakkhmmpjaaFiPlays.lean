/- FilePlays: the walk. -/
import Derived.Test.YtdhdbakkhmmpjaaFiPlaysBad
namespace Go.Proofs.Ytdhdbakkhmmpjaa
open Go.RowKit

set_option maxRecDepth 100000 in
set_option maxHeartbeats 4000000 in
theorem plays_walk (v vs : Value) (l : List UInt8) (ss : List Stp) (w : World) (h : Bys w v l) (hss : Stps w vs ss) (hs : l.length ≤ 140737488351232) (hs2 : ss.length * 48 ≤ 140737488351232) (hs3 : ∀ i (hi : i < ss.length), ss[i].2.2.2.length ≤ 140737488351232) :
    Calls Try.prog 3 #[v, vs] w fun e w' => e = .returned (.bool true) ∧ Below w.heap.size w w' := by
  have H0 := hide h
  have HS := hide hss
  have HS3 := hide hs3
  obtain ⟨a1, c1, rfl, -⟩ := bys_form h
  obtain ⟨sa, sc, rfl, -⟩ := hss
  clear h hs3
  by_cases hl : l.length ≤ 1048576
  · go_enter Try.func3, Try.ntmps3
    go_wp2_with fail
    refine (copy_any _ l _ H0.out hs).mono ?_
    rintro e w1 ⟨vo, rfl, hown, hB1⟩
    obtain ⟨ao, co, rfl⟩ := owns_slice hown
    have HO := hide hown
    clear hown
    go_wp2_with fail
    refine (new_good _ l _ (Bys.of_owns HO.out) hl).mono ?_
    rintro e w2 ⟨g, rfl, hF, hg, hB2⟩
    have hB02 := hB1.trans (hB2.mono hB1.size)
    have HF := hide hF
    have hgl := hF.lt
    have hz1 := hB1.size
    have hz2 := hB2.size
    have hbl := hF.row.lt
    clear hF HO
    go_wp2_with fail
    refine (rnew_good _ l _ (H0.out.below hB02) hl).mono ?_
    rintro e w3 ⟨rfl, ⟨u, hR⟩, hB3⟩
    have hP : Pair w w3 (w2.heap.size + 1) w2.heap.size g w1.heap.size l.length u l := ⟨HF.out.below hB3, hR, by omega, by omega, fun e => by have := (hR.row.lt _ e).1; omega, fun e => by have := (hR.row.lt _ e).1; omega, by omega, by omega, by omega, by omega, by have := hR.lt; omega, hl, hB02.trans (hB3.mono hB02.size)⟩
    have HP := hide hP
    clear hP hR HF hB3 hB2 hB02 hB1
    generalize w2.heap.size + 1 = B at *
    generalize w2.heap.size = r at *
    generalize w1.heap.size = b0 at *
    go_wp2_with fail
    refine (num_any _ _).mono ?_
    rintro e w4 ⟨rfl, rfl⟩
    clear hg hgl hz1 hz2 hbl
    go_wp2
    go_loopw [5, 9, 10, 11, 12, 13, 14, 15] (fun fp i _ _ _ _ _ _ wr => ∃ (k gz bz capz : Nat) (uz : Value) (Lz : List UInt8), k ≤ ss.length ∧ fp = .pointer (some ⟨gz, 0, none⟩) ∧ i = .int .i64 k ∧ Hid (Pair w wr B r gz bz capz uz Lz)) (fun _ i _ _ _ _ _ _ _ => ss.length - (intOf i).toNat)
    case atStart => exact ⟨0, g, b0, l.length, u, l, Nat.zero_le _, rfl, rfl, HP⟩
    case round =>
      clear HP
      obtain ⟨k, gz, bz, capz, uz, Lz, hk, rfl, rfl, HP⟩ := hrel
      by_cases hlt : k < ss.length
      · obtain ⟨sb, so, sc', va, vc, heq, hsb, q0, q1, q2, q3, hby, hbx⟩ := stps_at HS.out HP.out.below k hlt
        cases heq
        have hxs := HS3.out k hlt
        have HBy := hide hby
        have HBx := hide hbx
        have hk1 : (0 : Int) ≤ (k : Int) := by omega
        have hk2 : (k : Int) < (ss.length : Int) := by omega
        generalize ss[k].1 = xa at *
        generalize ss[k].2.1 = xo at *
        generalize ss[k].2.2.1 = xn at *
        generalize ss[k].2.2.2 = X at *
        clear hby hbx
        have hzB := HP.out.below.size
        have hBa : Below wr.heap.size wr (wr.alloc (Obj.cells #[.int .i64 xa, .int .i64 xo, .int .i64 xn, .slice va X.length vc] 34)) := (Below.refl _ _).alloc (Nat.le_refl _) _
        have hc0 : (wr.alloc (Obj.cells #[.int .i64 xa, .int .i64 xo, .int .i64 xn, .slice va X.length vc] 34)).cell? ⟨wr.heap.size, 0, none⟩ = some (.int .i64 xa) := by simp only [World.cell?, heap_alloc_new]; rfl
        have hc1 : (wr.alloc (Obj.cells #[.int .i64 xa, .int .i64 xo, .int .i64 xn, .slice va X.length vc] 34)).cell? ⟨wr.heap.size, 1, none⟩ = some (.int .i64 xo) := by simp only [World.cell?, heap_alloc_new]; rfl
        have hc2 : (wr.alloc (Obj.cells #[.int .i64 xa, .int .i64 xo, .int .i64 xn, .slice va X.length vc] 34)).cell? ⟨wr.heap.size, 2, none⟩ = some (.int .i64 xn) := by simp only [World.cell?, heap_alloc_new]; rfl
        have hc3 : (wr.alloc (Obj.cells #[.int .i64 xa, .int .i64 xo, .int .i64 xn, .slice va X.length vc] 34)).cell? ⟨wr.heap.size, 3, none⟩ = some (.slice va X.length vc) := by simp only [World.cell?, heap_alloc_new]; rfl
        have hsn := size_new wr (Obj.cells #[.int .i64 xa, .int .i64 xo, .int .i64 xn, .slice va X.length vc] 34)
        have HPb := hide (HP.out.on hBa)
        have hgX : gz < wr.heap.size := HP.out.file.lt
        have hbX : bz < wr.heap.size := HP.out.file.row.lt
        have hrX : r < wr.heap.size := HP.out.ref.lt
        have huX : ∀ j, uz.ownBlock = some j → j < wr.heap.size := fun j e => (HP.out.ref.row.lt j e).2
        rcases (show xa = 0 ∨ xa = 1 ∨ xa = 2 ∨ xa = 3 ∨ (xa ≠ 0 ∧ xa ≠ 1 ∧ xa ≠ 2 ∧ xa ≠ 3) by omega) with rfl | rfl | rfl | rfl | ⟨hx0, hx1, hx2, hx3⟩
        case' inl =>
          go_wp2_with fail
          generalize wr.alloc (Obj.cells #[.int .i64 0, .int .i64 xo, .int .i64 xn, .slice va X.length vc] 34) = wb at *
          refine (readAt_any gz bz capz Lz xo xn _ HPb.out.file HPb.out.len).mono ?_
          rintro e w5 ⟨v5, rfl, hown5, hB5⟩
          obtain ⟨a5, c5, rfl⟩ := owns_slice hown5
          have HO5 := hide hown5
          have HP5 := hide (HPb.out.on hB5)
          have e1 := (hB5.cell (p := ⟨wr.heap.size, 1, none⟩) hsn).trans hc1
          have e2 := (hB5.cell (p := ⟨wr.heap.size, 2, none⟩) hsn).trans hc2
          clear hown5 hc0 hc1 hc2 hc3 q0 q1 q2 q3
          go_wp2_with fail
          refine (rreadAt_any B r uz Lz xo xn _ HP5.out.ref HP5.out.len).mono ?_
          rintro e w6 ⟨v6, rfl, hown6, hB6⟩
          obtain ⟨a6, c6, rfl⟩ := owns_slice hown6
          have HO6 := hide hown6
          have HO56 := hide (owns_below HO5.out hB6)
          have HP6 := hide (HP5.out.on hB6)
          have hrl := rdL_len Lz xo xn
          have hll := HP6.out.len
          clear hown6 e1 e2 HO5 HP5
          generalize rdL Lz xo xn = Q at *
          generalize rdE xo xn = E at *
          go_wp2_with fail
          refine (same_any _ _ Q _ (Bys.of_owns HO56.out) (Bys.of_owns HO6.out) (by unfold maxLen; omega)).mono ?_
          rintro e w7 ⟨rfl, hB7⟩
          have HP7 := hide (HP6.out.on hB7)
          clear HO56 HO6 HP6 hB5 hB6 hB7
          go_wp2_with fail
          refine (num_any _ _).mono ?_
          rintro e wz ⟨rfl, rfl⟩
          obtain ⟨bz, capz, uz, Lz, GZ⟩ : ∃ bz capz uz Lz, Hid (Pair w wz B r gz bz capz uz Lz) := ⟨_, _, _, _, HP7⟩
          clear HP7 HPb
          go_wp2_with fail
        case' inr.inl =>
          go_wp2_with fail
          generalize wr.alloc (Obj.cells #[.int .i64 1, .int .i64 xo, .int .i64 xn, .slice va X.length vc] 34) = wb at *
          have HA := hide (fun vd W h1 h2 h3 => writeAt_any gz bz capz Lz xo vd X W h1 h2 h3)
          have HA2 := hide (fun vd W h1 h2 h3 h4 => rwriteAt_any B r uz Lz xo vd X W h1 h2 h3 HPb.out.len h4)
          have hL5 := wrL_len (off := xo) (x := X) HPb.out.len
          generalize wrE xo X.length = E at *
          generalize wrL Lz xo X = Lz' at *
          clear hc0 hc2 q0 q1 q2 q3
          go_region_held3 (fun w' => w'.cell? ⟨wr.heap.size, 1, none⟩ = some (.int .i64 xo) ∧ w'.cell? ⟨wr.heap.size, 3, none⟩ = some (.slice va X.length vc))
            (first | exact Kz | exact K5 | exact Kc | go_keep)
            (first
              | (go_at_call 8; refine (copy_any _ X _ (HBy.out.below HPb.out.below.drew) hxs).mono ?_; rintro e wc ⟨vd, rfl, hownd, hBd⟩; obtain ⟨ad, cd, rfl⟩ := owns_slice hownd; have Kc : wc.cell? ⟨wr.heap.size, 1, none⟩ = some (.int .i64 xo) ∧ wc.cell? ⟨wr.heap.size, 3, none⟩ = some (.slice va X.length vc) := ⟨(hBd.cell (p := ⟨wr.heap.size, 1, none⟩) hsn).trans hc1, (hBd.cell (p := ⟨wr.heap.size, 3, none⟩) hsn).trans hc3⟩; have HPc := hide (HPb.out.on ((Below.refl _ wb).drew.trans hBd)); have hzc : wb.heap.size ≤ wc.heap.size := hBd.size; have hld : ∀ j, (Value.slice ad X.length cd).ownBlock = some j → wb.heap.size ≤ j := fun j e => (hownd.lt j e).1)
              | (go_at_call 14; refine (HA.out _ _ HPc.out.file (Bys.of_owns hownd) (fun _ j e => by have := hld j e; omega)).mono ?_; rintro e w5 ⟨rfl, b5, cap5, hF5, hb5, hT5⟩; have K5 : w5.cell? ⟨wr.heap.size, 1, none⟩ = some (.int .i64 xo) ∧ w5.cell? ⟨wr.heap.size, 3, none⟩ = some (.slice va X.length vc) := ⟨(World.cell?_of_block (w := wc) (a := ⟨wr.heap.size, 1, none⟩) (hT5.block wr.heap.size (by omega) (by omega))).trans Kc.1, (World.cell?_of_block (w := wc) (a := ⟨wr.heap.size, 3, none⟩) (hT5.block wr.heap.size (by omega) (by omega))).trans Kc.2⟩)
              | (go_at_call 10; refine (num_any _ _).mono ?_; rintro e w5 ⟨rfl, rfl⟩)
              | (go_at_call 15; refine (HA2.out _ _ (HPc.out.mid hT5) (HBy.out.below (HPc.out.below.trans (hT5.below (fun j e => by have := HPc.out.hg; have := HPc.out.hb; omega) HPc.out.below.size))) (fun h0 j e hu => by obtain ⟨bx, ox, rfl, hbx⟩ := HBx.out h0; cases e; have h7 : B ≤ bx := (HPc.out.ref.row.lt _ hu).1; have := HPc.out.hB; omega) (Nat.le_trans HPc.out.hBW hT5.size)).mono ?_; rintro e wz ⟨rfl, u6, hR6, hu6, hT6⟩; have Kz : wz.cell? ⟨wr.heap.size, 1, none⟩ = some (.int .i64 xo) ∧ wz.cell? ⟨wr.heap.size, 3, none⟩ = some (.slice va X.length vc) := ⟨(World.cell?_of_block (w := w5) (a := ⟨wr.heap.size, 1, none⟩) (hT6.block wr.heap.size (by have := hT5.size; omega) (fun e => by rcases e with e | e; omega; have := huX _ e; omega))).trans K5.1, (World.cell?_of_block (w := w5) (a := ⟨wr.heap.size, 3, none⟩) (hT6.block wr.heap.size (by have := hT5.size; omega) (fun e => by rcases e with e | e; omega; have := huX _ e; omega))).trans K5.2⟩))
          obtain ⟨bz, capz, uz, Lz, GZ⟩ : ∃ bz capz uz Lz, Hid (Pair w wz B r gz bz capz uz Lz) := ⟨_, _, _, _, hide (HPc.out.step hF5 hb5 hT5 hR6 hu6 hT6 hL5)⟩
          clear hR6 hF5 hownd HPc HPb HA HA2 Kz K5 Kc hT5 hT6 hu6 hc1 hc3
          go_wp2_with fail
        case' inr.inr.inl =>
          go_wp2_with fail
          generalize wr.alloc (Obj.cells #[.int .i64 2, .int .i64 xo, .int .i64 xn, .slice va X.length vc] 34) = wb at *
          have HA := hide (fun W h1 => truncate_any gz bz capz Lz xn W h1)
          have HA2 := hide (fun W h1 h4 => rtruncate_any B r uz Lz xn W h1 HPb.out.len h4)
          have hL5 := trL_len (n := xn) HPb.out.len
          have HPd := hide (HPb.out.on (Below.refl _ wb).drew)
          generalize trE xn = E at *
          generalize trL Lz xn = Lz' at *
          clear hc0 hc1 hc3 q0 q1 q2 q3
          go_region_held3 (fun w' => w'.cell? ⟨wr.heap.size, 2, none⟩ = some (.int .i64 xn))
            (first | exact Kz | exact K5 | go_keep)
            (first
              | (go_at_call 16; refine (HA.out _ HPd.out.file).mono ?_; rintro e w5 ⟨rfl, b5, cap5, hF5, hb5, hT5⟩; have hs5 : wb.heap.size ≤ w5.heap.size := hT5.size; have K5 : w5.cell? ⟨wr.heap.size, 2, none⟩ = some (.int .i64 xn) := (World.cell?_of_block (w := wb) (a := ⟨wr.heap.size, 2, none⟩) (hT5.block wr.heap.size hsn (by omega))).trans hc2)
              | (go_at_call 10; refine (num_any _ _).mono ?_; rintro e w5 ⟨rfl, rfl⟩)
              | (go_at_call 17; refine (HA2.out _ (HPd.out.mid hT5) (Nat.le_trans HPd.out.hBW hT5.size)).mono ?_; rintro e wz ⟨rfl, u6, hR6, hu6, hT6⟩; have Kz : wz.cell? ⟨wr.heap.size, 2, none⟩ = some (.int .i64 xn) := (World.cell?_of_block (w := w5) (a := ⟨wr.heap.size, 2, none⟩) (hT6.block wr.heap.size (by omega) (fun e => by rcases e with e | e; omega; have := huX _ e; omega))).trans K5))
          obtain ⟨bz, capz, uz, Lz, GZ⟩ : ∃ bz capz uz Lz, Hid (Pair w wz B r gz bz capz uz Lz) := ⟨_, _, _, _, hide (HPd.out.step hF5 hb5 hT5 hR6 hu6 hT6 hL5)⟩
          clear hR6 hF5 HPd HPb HA HA2 Kz K5 hT5 hT6 hu6 hc2
          go_wp2_with fail
        case' inr.inr.inr.inl =>
          go_wp2_with fail
          generalize wr.alloc (Obj.cells #[.int .i64 3, .int .i64 xo, .int .i64 xn, .slice va X.length vc] 34) = wb at *
          clear hc0 hc1 hc2 hc3 q0 q1 q2 q3
          refine (copy_file gz bz capz Lz _ HPb.out.file HPb.out.len).mono ?_
          rintro e w5 ⟨g5, rfl, hF5, hg5, hB5⟩
          have HF5 := hide hF5
          have HP5 := hide (HPb.out.on hB5)
          clear hF5
          go_wp2_with fail
          refine (truncate_any gz bz capz Lz 0 _ HP5.out.file).mono ?_
          rintro e wz ⟨rfl, b6, cap6, -, -, hT6⟩
          obtain ⟨bz, capz, uz, Lz, GZ⟩ : ∃ bz capz uz Lz, Hid (Pair w wz B r g5 bz capz uz Lz) := ⟨_, _, _, _, hide (HPb.out.copied HF5.out (Nat.le_of_lt hg5) (Nat.le_refl _) hB5 hT6)⟩
          clear HF5 HP5 HPb hB5 hT6
          go_wp2_with fail
        case' inr.inr.inr.inr =>
          have hy0 : (xa == 0) = false := by simpa using hx0
          have hy1 : (xa == 1) = false := by simpa using hx1
          have hy2 : (xa == 2) = false := by simpa using hx2
          have hy3 : (xa == 3) = false := by simpa using hx3
          go_wp2_with fail
          generalize wr.alloc (Obj.cells #[.int .i64 xa, .int .i64 xo, .int .i64 xn, .slice va X.length vc] 34) = wz at *
          obtain ⟨bz, capz, uz, Lz, GZ⟩ : ∃ bz capz uz Lz, Hid (Pair w wz B r gz bz capz uz Lz) := ⟨_, _, _, _, HPb⟩
          clear HPb
        all_goals
          have hcz := GZ.out.ref.data
          obtain ⟨az, cz, hez⟩ := owns_slice GZ.out.ref.row
          subst hez
          go_region_held3 (fun w' => w'.cell? ⟨r, 0, none⟩ = some (.slice az Lz.length cz)) (go_keep)
            (first | (go_at_call 19; refine (size_any _ _ _ _ _ (GZ.out.on (Below.refl _ wz).drew).file).mono ?_; rintro e w' ⟨rfl, rfl⟩))
          go_wp2
          go_roundw
          case rel => exact ⟨k + 1, _, _, _, _, _, by omega, rfl, by go_num, hide (GZ.out.on (Below.refl _ wz).drew)⟩
          case measure => simp [intOf]; omega
      · have hcz := HP.out.ref.data
        obtain ⟨az, cz, hez⟩ := owns_slice HP.out.ref.row
        subst hez
        have hrl := HP.out.ref.lt
        have hll := HP.out.len
        have HPd := hide (HP.out.on (Below.refl _ wr).drew)
        go_wp2_with fail
        go_region_held3 (fun w' => w'.cell? ⟨r, 0, none⟩ = some (.slice az Lz.length cz))
          (first | exact K7 | exact K6 | exact K5 | go_keep)
          (first
            | (go_at_call 20; refine (bytes_any _ _ _ _ _ HPd.out.file hll).mono ?_; rintro e w5 ⟨rfl, hown5, hB5⟩; have hs5 : wr.heap.size ≤ w5.heap.size := hB5.size; have K5 : w5.cell? ⟨r, 0, none⟩ = some (.slice az Lz.length cz) := (hB5.cell (p := ⟨r, 0, none⟩) hrl).trans hcz; have HP5 := hide (HPd.out.on hB5))
            | (go_at_call 13; refine (same_any _ _ Lz _ (Bys.of_owns hown5) (Bys.of_owns HP5.out.ref.row) (by unfold maxLen; omega)).mono ?_; rintro e w6 ⟨rfl, hB6⟩; have hs6 := hB6.size; have K6 : w6.cell? ⟨r, 0, none⟩ = some (.slice az Lz.length cz) := (hB6.cell (p := ⟨r, 0, none⟩) (by show r < _; omega)).trans K5; have HP6 := hide (HP5.out.on hB6))
            | (go_at_call 21; refine (alive_any _).mono ?_; rintro e w7 ⟨rfl, hB7⟩; have K7 : w7.cell? ⟨r, 0, none⟩ = some (.slice az Lz.length cz) := (hB7.cell (p := ⟨r, 0, none⟩) (by show r < _; omega)).trans K6))
        have HP7 := hide (HP6.out.on hB7)
        go_wp2
        go_ret
        exact ⟨rfl, HP7.out.below⟩
  · exact plays_bad _ _ l ss w H0.out HS.out hs (by omega)
end Go.Proofs.Ytdhdbakkhmmpjaa

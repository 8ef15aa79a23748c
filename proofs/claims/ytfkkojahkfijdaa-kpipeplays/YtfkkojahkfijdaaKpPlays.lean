/- The law KpipePlays: the walk. -/
import Derived.Test.YtfkkojahkfijdaaKpPair
namespace Go.Proofs.Ytfkkojahkfijdaa
open Go.RowKit

set_option maxRecDepth 100000 in
set_option maxHeartbeats 8000000 in
theorem plays_walk (a0 : Option Addr) (n0 c0 : Nat) (l : List Stp) (w : World) (h : Stps w (.slice a0 n0 c0) l) (hs1 : l.length * 48 ≤ 140737488351232) (hs2 : ∀ i (hi : i < l.length), l[i].2.2.2.length ≤ 140737488351232) :
    Calls Try.prog 3 #[.slice a0 n0 c0] w fun e w' => e = .returned (.bool true) ∧ Below w.heap.size w w' := by
  obtain ⟨a1, c1, he1⟩ := stps_form h
  obtain ⟨rfl, rfl, rfl⟩ : a0 = a1 ∧ n0 = l.length ∧ c0 = c1 := by simpa using he1
  have HS := hide h
  have HS2 := hide hs2
  clear h he1 hs2
  go_enter Try.func3, Try.ntmps3
  go_wp2_with fail
  refine (new_any w).mono ?_
  rintro e w1 ⟨rfl, hP, hB1⟩
  have hg1 := hP.lt
  generalize hg : w.heap.size = g at *
  have HP := hide hP
  clear hP
  go_wp2
  have hBa : Below w1.heap.size w1 (w1.alloc (Obj.cells #[.slice none 0 0, .int .i64 0, .int .i64 0] 28)) := (Below.refl _ _).alloc (Nat.le_refl _) _
  have hblk := heap_alloc_new w1 (Obj.cells #[.slice none 0 0, .int .i64 0, .int .i64 0] 28)
  have hsn := size_new w1 (Obj.cells #[.slice none 0 0, .int .i64 0, .int .i64 0] 28)
  generalize w1.alloc (Obj.cells #[.slice none 0 0, .int .i64 0, .int .i64 0] 28) = w2 at *
  obtain ⟨t, ht⟩ : ∃ t, t = w1.heap.size := ⟨_, rfl⟩
  rw [← ht] at hblk hsn ⊢
  have HPr : Hid (Pr w w2 w2.heap.size g t none 0 [] 0 0) := hide ⟨HP.out.below hBa, ⟨hblk, .inl ⟨rfl, rfl⟩, by simp, by simp, by omega, by omega, .inl ⟨rfl, rfl, rfl⟩⟩, by omega, by omega, by omega, by omega, by omega, Nat.le_refl _, by rw [hg]; exact hB1.trans (hBa.mono (by omega))⟩
  generalize w2.heap.size = B at HPr
  have HT0 := hide ht
  have HG0 := hide hg
  clear HP hBa hblk hsn hB1 hg1 ht hg
  go_loopw [5, 6, 7, 8, 9, 10, 11, 12, 13, 14, 15, 16, 17] (fun i _ _ _ _ _ _ _ _ _ _ _ _ wr => ∃ (k : Nat) (a : Option Addr) (c : Nat) (q : List UInt8) (rd wt : Nat), k ≤ l.length ∧ i = .int .i64 k ∧ Hid (Pr w wr B g t a c q rd wt)) (fun i _ _ _ _ _ _ _ _ _ _ _ _ _ => l.length - (intOf i).toNat)
  case atStart => exact ⟨0, _, _, _, _, _, Nat.zero_le _, rfl, HPr⟩
  case round =>
    clear HPr
    obtain ⟨k, a, c, q, rd, wt, hk, rfl, HP⟩ := hrel
    by_cases hlt : k < l.length
    · obtain ⟨sb, so, va, vc, rfl, hsb, q0, q1, q2, q3, hby, hvc⟩ := stps_at HS.out HP.out.below k hlt
      have hxs := HS2.out k hlt
      generalize l[k] = s at q0 q1 q2 q3 hby hvc hxs
      obtain ⟨xa, xn, xs, X⟩ := s
      simp only at q0 q1 q2 q3 hby hvc hxs
      have HBy := hide hby
      clear hby
      have hk1 : (0 : Int) ≤ (k : Int) := by omega
      have hk2 : (k : Int) < (l.length : Int) := by omega
      have hzB := HP.out.sz
      have hgB := HP.out.gB
      have htB := HP.out.tB
      have hgt := HP.out.gt
      have hwg := HP.out.wg
      have hwt := HP.out.wt
      have hBa : Below wr.heap.size wr (wr.alloc (Obj.cells #[.int .i64 xa, .int .i64 xn, .bool xs, .slice va X.length vc] 30)) := (Below.refl _ _).alloc (Nat.le_refl _) _
      have hc0 : (wr.alloc (Obj.cells #[.int .i64 xa, .int .i64 xn, .bool xs, .slice va X.length vc] 30)).cell? ⟨wr.heap.size, 0, none⟩ = some (.int .i64 xa) := by simp only [World.cell?, heap_alloc_new]; rfl
      have hc1 : (wr.alloc (Obj.cells #[.int .i64 xa, .int .i64 xn, .bool xs, .slice va X.length vc] 30)).cell? ⟨wr.heap.size, 1, none⟩ = some (.int .i64 xn) := by simp only [World.cell?, heap_alloc_new]; rfl
      have hc2 : (wr.alloc (Obj.cells #[.int .i64 xa, .int .i64 xn, .bool xs, .slice va X.length vc] 30)).cell? ⟨wr.heap.size, 2, none⟩ = some (.bool xs) := by simp only [World.cell?, heap_alloc_new]; rfl
      have hc3 : (wr.alloc (Obj.cells #[.int .i64 xa, .int .i64 xn, .bool xs, .slice va X.length vc] 30)).cell? ⟨wr.heap.size, 3, none⟩ = some (.slice va X.length vc) := by simp only [World.cell?, heap_alloc_new]; rfl
      have hsn := size_new wr (Obj.cells #[.int .i64 xa, .int .i64 xn, .bool xs, .slice va X.length vc] 30)
      have HPb := hide (HP.out.on hBa)
      obtain ⟨xb, hxb⟩ : ∃ xb, xb = wr.heap.size := ⟨_, rfl⟩
      rw [← hxb] at hc0 hc1 hc2 hc3 hsn
      have hxB : B ≤ xb := by omega
      have hxg : ¬ xb = g := by omega
      have hxt : ¬ xb = t := by omega
      rcases (show xa = 0 ∨ xa = 1 ∨ xa = 2 ∨ xa = 3 ∨ (xa ≠ 0 ∧ xa ≠ 1 ∧ xa ≠ 2 ∧ xa ≠ 3) by omega) with rfl | rfl | rfl | rfl | ⟨hx0, hx1, hx2, hx3⟩
      case' inl =>
        go_wp2_with fail
        rw [← hxb]
        have HXb := hide hxb
        clear hxb
        generalize wr.alloc (Obj.cells #[.int .i64 0, .int .i64 xn, .bool xs, .slice va X.length vc] 30) = wb at *
        refine (read_any xn g q rd wt _ HPb.out.prog).mono ?_
        rintro e w5 ⟨v5, rfl, hown5, hP5, hT5⟩
        obtain ⟨a5, c5, rfl⟩ := owns_slice hown5
        have HO5 := hide hown5
        have HR5 := hide (HPb.out.mid hT5)
        have e1 := hT5.cell hc1 hxg
        clear hown5 hc0 hc1 hc2 hc3 q0 q1 q2 q3
        go_wp2_with fail
        refine (rread_any xn B t a c q rd wt _ HR5.out).mono ?_
        rintro e w6 ⟨v6, a6, c6, rfl, hb6, hR6, hT6, -⟩
        obtain ⟨av, cv, rfl, -⟩ := bys_form hb6
        have HB6 := hide hb6
        have HO6 := hide (owns_turned HO5.out hT6 (fun j hj hj2 => by have := (HO5.out.lt j hj).1; omega))
        have HP6 := hide (HPb.out.step hP5 hT5 hR6 hT6)
        have e2 := hT6.cell e1 hxt
        have hql := HPb.out.prog.len
        have hrl : (rdB xn q rd wt).length ≤ q.length := by unfold rdB; split <;> simp; omega
        clear hb6 hR6 hT5 hT6 HO5 HR5 e1 hP5
        generalize rdB xn q rd wt = Q at *
        generalize rdE xn q.length rd wt = E at *
        generalize rdQ xn q rd wt = q6 at *
        go_wp2_with fail
        refine (same_any _ _ Q _ (Bys.of_owns HO6.out) HB6.out (by unfold maxLen; omega)).mono ?_
        rintro e w7 ⟨rfl, hB7⟩
        have HP7 := hide (HP6.out.on hB7)
        have hcz := (hB7.cell (p := ⟨xb, 1, none⟩) (World.block_lt_of_cell? w6 _ e2)).trans e2
        clear HO6 HB6 HP6 hB7 e2
        go_wp2_with fail
        refine (num_any _ _).mono ?_
        rintro e wz ⟨rfl, rfl⟩
        obtain ⟨a, c, q, rd, wt, GZ⟩ : ∃ a c q rd wt, Hid (Pr w wz B g t a c q rd wt) := ⟨_, _, _, _, _, HP7⟩
        clear HP7 HPb HP
        go_wp2_with fail
      case' inr.inl =>
        go_wp2_with fail
        rw [← hxb]
        have HXb := hide hxb
        clear hxb
        generalize wr.alloc (Obj.cells #[.int .i64 1, .int .i64 xn, .bool xs, .slice va X.length vc] 30) = wb at *
        refine (copy_any _ X _ (HBy.out.below HPb.out.below) hxs).mono ?_
        rintro e wc ⟨vd, rfl, hownd, hBd⟩
        obtain ⟨ad, cd, rfl⟩ := owns_slice hownd
        have HOd := hide hownd
        have HPc := hide (HPb.out.on hBd)
        have f1 := (hBd.cell (p := ⟨xb, 1, none⟩) hsn).trans hc1
        have f3 := (hBd.cell (p := ⟨xb, 3, none⟩) hsn).trans hc3
        have hzd := hBd.size
        have hsd := HPb.out.sz
        clear hownd hc0 hc1 hc2 hc3 q0 q1 q2 q3
        go_wp2_with fail
        refine (write_any xn g q X ad X.length cd rd wt _ HPc.out.prog (Bys.of_owns HOd.out) (owns_cap HOd.out) hxs (fun _ e => by have := (HOd.out.lt g e).1; omega)).mono ?_
        rintro e w5 ⟨rfl, hP5, hT5⟩
        have f1 := hT5.cell f1 hxg
        have f3 := hT5.cell f3 hxg
        have HR5 := hide (HPc.out.mid hT5)
        have HOd5 := hide (owns_turned HOd.out hT5 (fun j hj hj2 => by have := (HOd.out.lt j hj).1; omega))
        have hz5 := hT5.size
        go_wp2_with fail
        refine (rwrite_any xn B t a c q X va X.length vc rd wt _ HR5.out (by omega) (HBy.out.below (HPc.out.midBelow hT5)) hvc hxs).mono ?_
        rintro e w6 ⟨a6, c6, rfl, hR6, hT6, hb6⟩
        have f3 := hT6.cell f3 hxt
        have f1 := hT6.cell f1 hxt
        have HOd6 := hide (owns_turned HOd5.out hT6 (fun j hj hj2 => by have := (HOd5.out.lt j hj).1; omega))
        have HP6 := hide (HPc.out.step hP5 hT5 hR6 hT6)
        have HN6 : Hid (∀ b, (Value.slice a6 (q ++ X.take (wrN X.length xn q.length rd wt)).length c6).ownBlock = some b → (Value.slice ad X.length cd).ownBlock ≠ some b) := hide fun b hb1 hb2 => by
          have h1 := HOd.out.lt b hb2
          rcases hb6 b hb1 with h2 | h2
          · rcases HPb.out.ref.ad with ⟨h3, _⟩ | ⟨b', o', h3, _, _, h4⟩
            · rw [h3] at h2; cases h2
            · rw [h3] at h2
              have : b' = b := by simpa [Value.ownBlock] using h2
              omega
          · omega
        clear hP5 hR6 hT5 hT6 hb6 HR5 HOd HOd5
        generalize q ++ X.take (wrN X.length xn q.length rd wt) = q6 at *
        generalize wrN X.length xn q.length rd wt = N at *
        generalize wrE X.length xn q.length rd wt = E at *
        go_wp2_with fail
        refine (num_any _ _).mono ?_
        rintro e w7 ⟨rfl, rfl⟩
        go_wp2_with fail
        refine (same_any _ _ X _ (Bys.of_owns HOd6.out) (HBy.out.below HP6.out.below) (by unfold maxLen; omega)).mono ?_
        rintro e w8 ⟨rfl, hB8⟩
        have HOd8 := hide (owns_below HOd6.out hB8)
        have HP8 := hide (HP6.out.on hB8)
        have f1 := (hB8.cell (p := ⟨xb, 1, none⟩) (World.block_lt_of_cell? _ _ f1)).trans f1
        clear HOd6 HP6 hB8 f3
        go_wp2_with fail
        refine (spoil_turn _ _ _ _ _ HOd8.out (bv_ints _) (by unfold maxLen; omega)).mono ?_
        rintro e wz ⟨rfl, hT9⟩
        have HL8 : Hid (∀ j, (Value.slice ad X.length cd).ownBlock = some j → wb.heap.size ≤ j) := hide fun j e => (HOd8.out.lt j e).1
        have hcz := hT9.cell f1 (fun e => by have h1 := HL8.out _ e; have h2 : xb < wb.heap.size := hsn; change wb.heap.size ≤ xb at h1; omega)
        have HP9 := hide (HP8.out.other hT9 (fun e => by have := HL8.out g e; omega) (fun e => by have := HL8.out t e; omega) HN6.out (fun j e => by have := HL8.out j e; omega))
        obtain ⟨a, c, q, rd, wt, GZ⟩ : ∃ a c q rd wt, Hid (Pr w wz B g t a c q rd wt) := ⟨_, _, _, _, _, HP9⟩
        clear HP9 HP8 HOd8 HL8 HN6 hT9 HPc HPb HP f1 hBd
        go_wp2_with fail
      case' inr.inr.inl =>
        go_wp2_with fail
        rw [← hxb]
        have HXb := hide hxb
        clear hxb
        generalize wr.alloc (Obj.cells #[.int .i64 2, .int .i64 xn, .bool xs, .slice va X.length vc] 30) = wb at *
        have HA := hide (fun W h1 => join_any xs g q rd wt W h1)
        have HA2 := hide (fun W h1 => rjoin_any xs B t a c q rd wt W h1)
        have HPd := hide (HPb.out.on (Below.refl _ wb).drew)
        generalize joinE xs rd wt = E at *
        generalize joinR xs rd wt = rd' at *
        generalize joinW xs rd wt = wt' at *
        clear hc0 hc3 q0 q1 q2 q3
        go_region_held3 (fun w' => w'.cell? ⟨xb, 2, none⟩ = some (.bool xs))
          (first | exact Kz | exact K5 | go_keep)
          (first
            | (go_at_call 17; refine (HA.out _ HPd.out.prog).mono ?_; rintro e w5 ⟨rfl, hP5, hT5⟩; have K5 : w5.cell? ⟨xb, 2, none⟩ = some (.bool xs) := hT5.cell hc2 hxg)
            | (go_at_call 12; refine (num_any _ _).mono ?_; rintro e w5 ⟨rfl, rfl⟩)
            | (go_at_call 18; refine (HA2.out _ (HPd.out.mid hT5)).mono ?_; rintro e wz ⟨rfl, hR6, hT6⟩; have Kz : wz.cell? ⟨xb, 2, none⟩ = some (.bool xs) := hT6.cell K5 hxt)
            | fail)
        have hcz : wz.cell? ⟨xb, 1, none⟩ = some (.int .i64 xn) := hT6.cell (hT5.cell hc1 hxg) hxt
        have HP6 := hide (HPd.out.step hP5 hT5 hR6 hT6)
        obtain ⟨a, c, q, rd, wt, GZ⟩ : ∃ a c q rd wt, Hid (Pr w wz B g t a c q rd wt) := ⟨_, _, _, _, _, HP6⟩
        clear HP6 HPb HPd HP HA HA2 Kz K5 hT5 hT6 hP5 hR6 hc1 hc2
        go_wp2_with fail
      case' inr.inr.inr.inl =>
        go_wp2_with fail
        rw [← hxb]
        have HXb := hide hxb
        clear hxb
        generalize wr.alloc (Obj.cells #[.int .i64 3, .int .i64 xn, .bool xs, .slice va X.length vc] 30) = wb at *
        have HA := hide (fun W h1 => leave_any xs g q rd wt W h1)
        have HA2 := hide (fun W h1 => rleave_any xs B t a c q rd wt W h1)
        have HPd := hide (HPb.out.on (Below.refl _ wb).drew)
        generalize leaveE xs rd wt = E at *
        generalize leaveR xs rd wt = rd' at *
        generalize leaveW xs rd wt = wt' at *
        clear hc0 hc3 q0 q1 q2 q3
        go_region_held3 (fun w' => w'.cell? ⟨xb, 2, none⟩ = some (.bool xs))
          (first | exact Kz | exact K5 | go_keep)
          (first
            | (go_at_call 19; refine (HA.out _ HPd.out.prog).mono ?_; rintro e w5 ⟨rfl, hP5, hT5⟩; have K5 : w5.cell? ⟨xb, 2, none⟩ = some (.bool xs) := hT5.cell hc2 hxg)
            | (go_at_call 12; refine (num_any _ _).mono ?_; rintro e w5 ⟨rfl, rfl⟩)
            | (go_at_call 20; refine (HA2.out _ (HPd.out.mid hT5)).mono ?_; rintro e wz ⟨rfl, hR6, hT6⟩; have Kz : wz.cell? ⟨xb, 2, none⟩ = some (.bool xs) := hT6.cell K5 hxt)
            | fail)
        have hcz : wz.cell? ⟨xb, 1, none⟩ = some (.int .i64 xn) := hT6.cell (hT5.cell hc1 hxg) hxt
        have HP6 := hide (HPd.out.step hP5 hT5 hR6 hT6)
        obtain ⟨a, c, q, rd, wt, GZ⟩ : ∃ a c q rd wt, Hid (Pr w wz B g t a c q rd wt) := ⟨_, _, _, _, _, HP6⟩
        clear HP6 HPb HPd HP HA HA2 Kz K5 hT5 hT6 hP5 hR6 hc1 hc2
        go_wp2_with fail
      case' inr.inr.inr.inr =>
        have hy0 : (xa == 0) = false := by simpa using hx0
        have hy1 : (xa == 1) = false := by simpa using hx1
        have hy2 : (xa == 2) = false := by simpa using hx2
        have hy3 : (xa == 3) = false := by simpa using hx3
        go_wp2_with fail
        rw [← hxb]
        have HXb := hide hxb
        clear hxb
        generalize wr.alloc (Obj.cells #[.int .i64 xa, .int .i64 xn, .bool xs, .slice va X.length vc] 30) = wb at *
        obtain ⟨wz, hwz⟩ : ∃ wz, wz = wb := ⟨_, rfl⟩
        rw [← hwz] at HPb hc1 ⊢
        have hcz := hc1
        obtain ⟨a, c, q, rd, wt, GZ⟩ : ∃ a c q rd wt, Hid (Pr w wz B g t a c q rd wt) := ⟨_, _, _, _, _, HPb⟩
        clear HPb HP hwz hc0 hc1 hc2 hc3
      all_goals
        (try clear HBy hvc hxs)
        go_wp2_with fail
        refine (ends_any g q rd wt _ GZ.out.prog).mono ?_
        rintro e we ⟨rfl, hBe⟩
        have hxl : xb < wz.heap.size := World.block_lt_of_cell? wz _ hcz
        have htl : t < wz.heap.size := GZ.out.ref.lt
        have hse := hBe.size
        have GD := hide ((GZ.out.on hBe).on (Below.refl _ we).drew)
        have k0 : we.cell? ⟨t, 0, none⟩ = some (.slice a q.length c) := GD.out.ref.c0
        have k1 : we.cell? ⟨t, 1, none⟩ = some (.int .i64 rd) := GD.out.ref.c1
        have k2 : we.cell? ⟨t, 2, none⟩ = some (.int .i64 wt) := GD.out.ref.c2
        have k3 : we.cell? ⟨xb, 1, none⟩ = some (.int .i64 xn) := (hBe.cell (p := ⟨xb, 1, none⟩) hxl).trans hcz
        have hql := GD.out.prog.len
        have HA := hide (fun W h1 => canRead_any g q rd wt W h1)
        have HA2 := hide (fun W h1 => rcanRead_any B t a c q rd wt W h1)
        have HC := hide (fun W h1 => canWrite_any xn g q rd wt W h1)
        have HC2 := hide (fun W h1 => rcanWrite_any xn B t a c q rd wt W h1)
        generalize canR q.length rd wt = y1 at *
        generalize canW xn q.length rd wt = y2 at *
        clear GZ hcz hBe
        go_wp2_with fail
        go_region_held3 (fun w' => w'.cell? ⟨t, 0, none⟩ = some (.slice a q.length c) ∧ w'.cell? ⟨t, 1, none⟩ = some (.int .i64 rd) ∧ w'.cell? ⟨t, 2, none⟩ = some (.int .i64 wt) ∧ w'.cell? ⟨xb, 1, none⟩ = some (.int .i64 xn))
          (first | exact K6 | exact K5 | go_keep)
          (first
            | (go_at_call 22; refine (held_any g q rd wt _ GD.out.prog).mono ?_; rintro e w5 ⟨rfl, hown5, hB5⟩; have hs5 : we.heap.size ≤ w5.heap.size := hB5.size; have G5 := hide (GD.out.on hB5); have K5 : w5.cell? ⟨t, 0, none⟩ = some (.slice a q.length c) ∧ w5.cell? ⟨t, 1, none⟩ = some (.int .i64 rd) ∧ w5.cell? ⟨t, 2, none⟩ = some (.int .i64 wt) ∧ w5.cell? ⟨xb, 1, none⟩ = some (.int .i64 xn) := ⟨G5.out.ref.c0, G5.out.ref.c1, G5.out.ref.c2, (hB5.cell (p := ⟨xb, 1, none⟩) (by show xb < we.heap.size; omega)).trans k3⟩)
            | (go_at_call 11; refine (same_any _ _ q _ (Bys.of_owns hown5) G5.out.ref.bys (by unfold maxLen; omega)).mono ?_; rintro e w6 ⟨rfl, hB6⟩; have G6 := hide (G5.out.on hB6); have K6 : w6.cell? ⟨t, 0, none⟩ = some (.slice a q.length c) ∧ w6.cell? ⟨t, 1, none⟩ = some (.int .i64 rd) ∧ w6.cell? ⟨t, 2, none⟩ = some (.int .i64 wt) ∧ w6.cell? ⟨xb, 1, none⟩ = some (.int .i64 xn) := ⟨G6.out.ref.c0, G6.out.ref.c1, G6.out.ref.c2, (hB6.cell (p := ⟨xb, 1, none⟩) (by show xb < w5.heap.size; omega)).trans K5.2.2.2⟩)
            | (go_at_call 23; refine (HA.out _ G6.out.prog).mono ?_; rintro e w7 ⟨rfl, rfl⟩)
            | (go_at_call 24; refine (HA2.out _ G6.out.ref).mono ?_; rintro e w7 ⟨rfl, rfl⟩)
            | (go_at_call 25; refine (HC.out _ G6.out.prog).mono ?_; rintro e w7 ⟨rfl, rfl⟩)
            | (go_at_call 26; refine (HC2.out _ G6.out.ref).mono ?_; rintro e w7 ⟨rfl, rfl⟩)
            | fail)
        go_wp2
        all_goals
          go_roundw
          case rel => exact ⟨k + 1, _, _, _, _, _, by omega, by go_num, G6⟩
          case measure => simp [intOf]; omega
    · go_wp2_with fail
      refine (alive_any _).mono ?_
      rintro e w5 ⟨rfl, hB5⟩
      go_wp2
      go_ret
      exact ⟨rfl, (HP.out.on hB5).below⟩
end Go.Proofs.Ytfkkojahkfijdaa

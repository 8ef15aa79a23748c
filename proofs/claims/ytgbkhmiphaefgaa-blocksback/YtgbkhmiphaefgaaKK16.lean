/- What the proof stands on, part 16: the contracts of the program's calls that it reaches. -/
import Derived.Test.YtgbkhmiphaefgaaKK15
import Derived.Deep.DeepCutAuto
/- BlocksBack: the walk. -/
namespace Go.Proofs.Ytgbkhmiphaefgaa
open Go.RowKit

def Vk (gt : Nat) (y : SS) (W : World) (P : Nat → Prop) (_ : Unit) : Prop := StAt W gt y (.slice none 0 0) (.slice none 0 0) (.slice none 0 0) ∧ P gt
theorem vk_o (gt : Nat) (y : SS) (s : Unit) : OAt (fun W P => Vk gt y W P s) := ⟨fun h hk _ => ⟨(hk gt h.2 h.1.lt).trans h.1, h.2⟩, fun h => ⟨h.1, ⟨h.2, h.1.lt⟩⟩⟩
theorem Thr.bwrite {x : SS} {S : MS} (h : Thr x S) (t : List UInt8) (Z Q : Nat) (hZ : 0 < Z) (ht : t.length = Z * Q) (hr : S.l.length + x.out.length + t.length ≤ 1048576) : ∃ x' S', x.bwrite msR S t Z Q = (x', (Q : Int), 0, S') ∧ Thr x' S' ∧ S'.l ++ x'.out = S.l ++ x.out ++ t := by
  obtain ⟨x', S', h1, h2, h3⟩ := thr_aput h t hr
  have hw : x.bwant true Z Q = (((Z * Q : Nat) : Int), 0) := by
    unfold SS.bwant
    rw [if_neg (by simp [h.refuse]), bytesV_small hZ (by omega)]
  refine ⟨x', S', ?_, h2, h3⟩
  unfold SS.bwrite
  rw [hw, if_neg (by simp), if_neg (by rw [← ht]; simp), h1]
  have hv : wholeV t.length Z = (Q : Int) := by
    unfold wholeV
    by_cases h0 : t.length = 0
    · rw [if_pos h0]
      have : Q = 0 := by
        rcases Nat.mul_eq_zero.1 (ht.symm.trans h0) with h | h
        · omega
        · exact h
      rw [this]; rfl
    · rw [if_neg h0, ht, Int.natCast_mul, Int.mul_ediv_cancel_left _ (by omega)]
  simp only [hv]
set_option linter.unusedSimpArgs false in
set_option maxRecDepth 100000 in
set_option maxHeartbeats 8000000 in
theorem lbackb_any (ta : Option Addr) (tc : Nat) (t0 : List UInt8) (size other mode buffer : Int) (w : World) (hX : Bys w (.slice ta t0.length tc) t0) (htc : t0.length ≤ tc) :
    Calls Try.prog 4 #[.slice ta t0.length tc, .int .i64 size, .int .i64 other, .int .i64 mode, .int .i64 buffer] w fun e w' => e = .returned (.bool true) ∧ Below w.heap.size w w' := by
  have HX := hide hX
  have HTc0 := hide htc
  clear hX htc
  go_enter Try.func4, Try.ntmps4
  go_wp2_with fail
  refine (alive16 _).mono ?_
  rintro _ w1 ⟨rfl, hB1⟩
  have HB1 := hide hB1
  clear hB1
  go_upto_if 31 with fail
  go_cut [0] (fun tv wx => ∃ l : List UInt8, tv = .slice ta l.length tc ∧ l.length ≤ 1000 ∧ l.length ≤ tc ∧ Hid (Bys w (.slice ta l.length tc) l) ∧ wx = w1)
  case first =>
    have hc := HTc0.out
    by_cases h3 : 1000 < t0.length
    · have h4 : (1000 : Int) < (t0.length : Int) := by omega
      have q1 : (1000 : Int) ≤ (tc : Int) := by omega
      have hb5 : (t0.take 1000).length = 1000 := by rw [List.length_take]; omega
      have HBy : Hid (Bys w (.slice ta (t0.take 1000).length tc) (t0.take 1000)) := hide (by rw [hb5]; exact bys_first15 HX.out 1000 (by omega))
      go_wp2
      go_meet
      exact ⟨t0.take 1000, by rw [hb5], by omega, by omega, HBy, rfl⟩
    · have h4 : ¬ (1000 : Int) < (t0.length : Int) := by omega
      go_wp2
      go_meet
      exact ⟨t0, rfl, by omega, hc, HX, rfl⟩
  case rest =>
  obtain ⟨l, rfl, hll, hlc, HBl, hwc⟩ := hcut
  rw [hwc]
  clear hwc HX HTc0
  obtain ⟨m0, hm, hm9⟩ := rem15 size 9 (by decide) (by decide)
  obtain ⟨n0, hn, hn9⟩ := rem15 other 9 (by decide) (by decide)
  obtain ⟨Z, hZ⟩ : ∃ Z, Z = m0 + 1 := ⟨_, rfl⟩
  obtain ⟨Y, hY⟩ : ∃ Y, Y = n0 + 1 := ⟨_, rfl⟩
  have hm1 : wrap64 (1 + (m0 : Int)) = (Z : Int) := by rw [hZ]; unfold wrap64; omega
  have hn1 : wrap64 (1 + (n0 : Int)) = (Y : Int) := by rw [hY]; unfold wrap64; omega
  have hZ1 : 1 ≤ Z ∧ Z ≤ 9 := by omega
  have hY1 : 1 ≤ Y ∧ Y ≤ 9 := by omega
  clear hZ hY hm9 hn9
  go_upto_region 6 with fail
  simp only [hm1, hn1]
  clear hm hm1 hn hn1
  obtain ⟨D, hD⟩ : ∃ D, D = Z * Y := ⟨_, rfl⟩
  have hD1 : 1 ≤ D := by rw [hD]; exact Nat.mul_le_mul hZ1.1 hY1.1
  have hD2 : D ≤ 81 := by rw [hD]; exact Nat.mul_le_mul hZ1.2 hY1.2
  obtain ⟨q, hq⟩ : ∃ q, q = l.length / D := ⟨_, rfl⟩
  obtain ⟨M, hM⟩ : ∃ M, M = q * D := ⟨_, rfl⟩
  have hMl : M ≤ l.length := by rw [hM, hq]; exact Nat.div_mul_le_self _ _
  have E1 : Hid (wrap64 ((Z : Int) * (Y : Int)) = (D : Int)) := hide (by rw [← Int.natCast_mul, ← hD]; unfold wrap64; omega)
  have e2 : ((D : Int) == 0) = false := by rw [beq_eq_false_iff_ne]; omega
  have e2' : ¬ (D : Int) = 0 := by omega
  have hql : q ≤ l.length := by rw [hq]; exact Nat.div_le_self _ _
  have E3 : Hid (wrap64 ((l.length : Int) / (D : Int)) = (q : Int)) := hide (by rw [← Int.natCast_ediv, ← hq]; unfold wrap64; omega)
  have E4 : Hid (wrap64 ((q : Int) * (D : Int)) = (M : Int)) := hide (by rw [← Int.natCast_mul, ← hM]; unfold wrap64; omega)
  have e5 : (M : Int) ≤ (tc : Int) := by omega
  have e6 : 0 ≤ (M : Int) := by omega
  obtain ⟨t, ht⟩ : ∃ t, t = l.take M := ⟨_, rfl⟩
  have htl : t.length = M := by rw [ht, List.length_take]; omega
  have HBt : Hid (Bys w (.slice ta M tc) t) := hide (by rw [ht]; exact bys_first15 HBl.out M hMl)
  obtain ⟨Q1, hQ1⟩ : ∃ Q1, Q1 = q * Y := ⟨_, rfl⟩
  obtain ⟨Q2, hQ2⟩ : ∃ Q2, Q2 = q * Z := ⟨_, rfl⟩
  have hZQ : M = Z * Q1 := by rw [hM, hD, hQ1, ← Nat.mul_assoc, Nat.mul_comm q Z, Nat.mul_assoc, Nat.mul_comm q Y]; try rw [Nat.mul_assoc]
  have hYQ : M = Y * Q2 := by rw [hM, hD, hQ2, Nat.mul_comm Z Y, ← Nat.mul_assoc, Nat.mul_comm q Y, Nat.mul_assoc]
  have HD : Hid (M ≤ 1000 ∧ M ≤ tc ∧ t.length = M ∧ M = Z * Q1 ∧ M = Y * Q2 ∧ (1 ≤ Z ∧ Z ≤ 9) ∧ (1 ≤ Y ∧ Y ≤ 9)) := hide ⟨by omega, by omega, htl, hZQ, hYQ, hZ1, hY1⟩
  clear hD hD1 hD2 hq hM hql ht htl hQ1 hQ2 hZQ hYQ hZ1 hY1 hMl hll
  have e1 := E1.out
  have e3 := E3.out
  have e4 := E4.out
  go_upto_region 7 with fail
  clear e1 e2 e2' e3 e4 e5 e6 hlc HBl E1 E3 E4
  go_wp2_with fail
  refine (newGrowing_good _ [] w1 (.inl ⟨rfl, rfl⟩) (by simp)).mono ?_
  rintro _ w2 ⟨g, rfl, hM2, hB2⟩
  have HM2 := hide hM2
  have HB2 := hide (HB1.out.trans (hB2.mono HB1.out.size))
  have hz1 := HB1.out.size
  have hz2 := hB2.size
  clear hM2 hB2
  have hN := fun W => sNew_any moW mode buffer W
  have hN2 := fun W => sNew_any moR mode buffer W
  rw [new_W] at hN
  rw [new_R] at hN2
  unfold mv at hN hN2
  by_cases hok : (1 ≤ mode ∧ mode ≤ 3) ∧ (1 ≤ buffer ∧ buffer ≤ 65536)
  case neg =>
    obtain ⟨p, hp, hp0⟩ : ∃ p : SS × Int, (if 1 ≤ mode ∧ mode ≤ 3 then (if 1 ≤ buffer ∧ buffer ≤ 65536 then (xR mode buffer, 0) else (ss0, 4)) else (ss0, 1)) = p ∧ p.2 ≠ 0 := by
      refine ⟨_, rfl, ?_⟩
      by_cases h1 : 1 ≤ mode ∧ mode ≤ 3
      · rw [if_pos h1, if_neg (fun h2 => hok ⟨h1, h2⟩)]; decide
      · rw [if_neg h1]; decide
    obtain ⟨q, hq, hq0⟩ : ∃ q : SS × Int, (if 1 ≤ mode ∧ mode ≤ 3 then (if 1 ≤ buffer ∧ buffer ≤ 65536 then (xW mode buffer, 0) else (ss0, 4)) else (ss0, 1)) = q ∧ q.2 ≠ 0 := by
      refine ⟨_, rfl, ?_⟩
      by_cases h1 : 1 ≤ mode ∧ mode ≤ 3
      · rw [if_pos h1, if_neg (fun h2 => hok ⟨h1, h2⟩)]; decide
      · rw [if_neg h1]; decide
    rw [hq] at hN
    rw [hp] at hN2
    obtain ⟨qx, qe⟩ := q
    obtain ⟨px, pe⟩ := p
    simp only at hN hN2 hq0
    have HN := hide hN
    have HN2 := hide hN2
    have hb1 : (qe == 0) = false := by simp [hq0]
    have hb2 : (qe != 0) = true := by simp [hq0]
    clear hN hN2 hq hq0 hp hp0 hok
    go_wp2_with fail
    refine (HN.out _).mono ?_
    rintro _ w3 ⟨rfl, hB3⟩
    have HB3 := hide (HB2.out.trans (hB3.mono HB2.out.size))
    clear hB3
    go_wp2_with fail
    have HB3' := hide (HB3.out.trans ((recv_below w3 (Obj.cells #[.bool qx.rd, .bool qx.wt, .int .i64 qx.mode, .int .i64 qx.size, .slice none 0 0, .slice none 0 0, .slice none 0 0, .int .i64 qx.dir, .bool qx.fin, .bool qx.bad, .bool qx.closed] 35)).mono HB3.out.size))
    refine (HN2.out _).mono ?_
    rintro _ w4 ⟨rfl, hB4⟩
    have HB4 := hide (HB3'.out.trans (hB4.mono HB3'.out.size))
    clear hB4
    go_wp2_with (first | (go_at_call 8; refine (num16 _ _).mono ?_; rintro _ _ ⟨rfl, rfl⟩) | fail)
    go_ret
    exact ⟨rfl, HB4.out.trans ((recv_below w4 _).mono HB4.out.size)⟩
  rw [if_pos hok.1, if_pos hok.2] at hN hN2
  simp only at hN hN2
  have HN := hide hN
  have HN2 := hide hN2
  clear hN hN2
  go_wp2_with fail
  refine (HN.out _).mono ?_
  rintro _ w3 ⟨rfl, hB3⟩
  have HB3 := hide hB3
  clear hB3
  go_wp2_with fail
  refine (HN2.out _).mono ?_
  rintro _ w4 ⟨rfl, hB4⟩
  have HB4 := hide hB4
  clear hB4
  have hzX : (w3.alloc (Obj.cells #[.bool (xW mode buffer).rd, .bool (xW mode buffer).wt, .int .i64 (xW mode buffer).mode, .int .i64 (xW mode buffer).size, .slice none 0 0, .slice none 0 0, .slice none 0 0, .int .i64 (xW mode buffer).dir, .bool (xW mode buffer).fin, .bool (xW mode buffer).bad, .bool (xW mode buffer).closed] 35)).heap.size = w3.heap.size + 1 := Array.size_push ..
  have HS4 := hide ((StAt.new w3 (xW mode buffer) (.slice none 0 0) (.slice none 0 0) (.slice none 0 0)).below HB4.out)
  have HB34 : Hid (Below w2.heap.size w2 w4) := hide ((HB3.out.trans ((recv_below w3 (Obj.cells #[.bool (xW mode buffer).rd, .bool (xW mode buffer).wt, .int .i64 (xW mode buffer).mode, .int .i64 (xW mode buffer).size, .slice none 0 0, .slice none 0 0, .slice none 0 0, .int .i64 (xW mode buffer).dir, .bool (xW mode buffer).fin, .bool (xW mode buffer).bad, .bool (xW mode buffer).closed] 35)).mono HB3.out.size)).trans (HB4.out.mono (by have := HB3.out.size; omega)))
  have HB5 := hide (recv_below w4 (Obj.cells #[.bool (xR mode buffer).rd, .bool (xR mode buffer).wt, .int .i64 (xR mode buffer).mode, .int .i64 (xR mode buffer).size, .slice none 0 0, .slice none 0 0, .slice none 0 0, .int .i64 (xR mode buffer).dir, .bool (xR mode buffer).fin, .bool (xR mode buffer).bad, .bool (xR mode buffer).closed] 35))
  have HT5 := hide (StAt.new w4 (xR mode buffer) (.slice none 0 0) (.slice none 0 0) (.slice none 0 0))
  have HSb := hide (HS4.out.below HB5.out)
  have HM5 := hide ((HM2.out.trim.below HB34.out).below HB5.out)
  have HBf : Hid (Below w.heap.size w (w4.alloc (Obj.cells #[.bool (xR mode buffer).rd, .bool (xR mode buffer).wt, .int .i64 (xR mode buffer).mode, .int .i64 (xR mode buffer).size, .slice none 0 0, .slice none 0 0, .slice none 0 0, .int .i64 (xR mode buffer).dir, .bool (xR mode buffer).fin, .bool (xR mode buffer).bad, .bool (xR mode buffer).closed] 35))) := hide ((HB2.out.trans (HB34.out.mono HB2.out.size)).trans (HB5.out.mono (HB2.out.trans (HB34.out.mono HB2.out.size)).size))
  have hsz : w1.heap.size ≤ w2.heap.size ∧ w2.heap.size ≤ w3.heap.size ∧ w3.heap.size < w4.heap.size ∧ (w4.alloc (Obj.cells #[.bool (xR mode buffer).rd, .bool (xR mode buffer).wt, .int .i64 (xR mode buffer).mode, .int .i64 (xR mode buffer).size, .slice none 0 0, .slice none 0 0, .slice none 0 0, .int .i64 (xR mode buffer).dir, .bool (xR mode buffer).fin, .bool (xR mode buffer).bad, .bool (xR mode buffer).closed] 35)).heap.size = w4.heap.size + 1 := ⟨hz2, HB3.out.size, by have := HB4.out.size; omega, Array.size_push ..⟩
  go_upto_region 12 with (first | (go_at_call 8; refine (num16 _ _).mono ?_; rintro _ _ ⟨rfl, rfl⟩) | fail)
  clear HN HN2 HB3 HB4 HS4 HB34 HB5 HM2 hzX
  generalize w4.alloc (Obj.cells #[.bool (xR mode buffer).rd, .bool (xR mode buffer).wt, .int .i64 (xR mode buffer).mode, .int .i64 (xR mode buffer).size, .slice none 0 0, .slice none 0 0, .slice none 0 0, .int .i64 (xR mode buffer).dir, .bool (xR mode buffer).fin, .bool (xR mode buffer).bad, .bool (xR mode buffer).closed] 35) = w5 at *
  obtain ⟨gs, hgs⟩ : ∃ gs, gs = w3.heap.size := ⟨_, rfl⟩
  obtain ⟨gt, hgt⟩ : ∃ gt, gt = w4.heap.size := ⟨_, rfl⟩
  rw [← hgs] at HSb
  rw [← hgt] at HT5
  rw [← hgs, ← hgt]
  have hno : ∀ k, (Value.slice none 0 0).ownBlock = some k → False := fun k e => by simp [Value.ownBlock] at e
  have HLVd : Hid (LV (fun w O S => MemAt w O g S) w5.drew w.heap.size gs (fun k => w1.heap.size ≤ k ∧ k < w2.heap.size) (xW mode buffer) ⟨[], 1048576, 0⟩ (.slice none 0 0) (.slice none 0 0) (.slice none 0 0)) := hide
    ⟨HSb.out, SIn.nils rfl rfl rfl, (gmem_o g _).keep HM5.out (fun _ _ _ => rfl) (Nat.le_refl _), fun j e => by show j < w5.heap.size; have := e.2; omega, fun j e => by have := e.1; omega, fun e => by have := e.2; omega, by omega⟩
  have HKd : Hid (Vk gt (xR mode buffer) w5.drew (fun k => k = gt) () ∧ (∀ k, Us gs (fun k => w1.heap.size ≤ k ∧ k < w2.heap.size) (.slice none 0 0) (.slice none 0 0) (.slice none 0 0) k → ¬ k = gt) ∧ ∀ k, k = gt → k < w5.drew.heap.size) := hide
    ⟨⟨HT5.out, rfl⟩, fun k e e2 => by
      rcases e with e | e | e | e | e
      · omega
      · have := e.2; omega
      · exact hno k e
      · exact hno k e
      · exact hno k e, fun k e => by show k < w5.heap.size; omega⟩
  have hth : Thr (xW mode buffer) ⟨[], 1048576, 0⟩ := ⟨rfl, rfl, hok.1.1, hok.1.2, hok.2.1, hok.2.2, by show (0 : Int) < buffer; omega, fun _ => rfl, rfl, rfl, rfl, rfl, rfl, .inr ⟨rfl, rfl⟩, rfl, rfl⟩
  have HTd : Hid (Turned (fun k => w.heap.size ≤ k) w w5.drew) := hide (Turned.of_below HBf.out.drew)
  have HSZ := hide HTd.out.size
  have HMo := hide hok
  have HGt0 : Hid (w.heap.size ≤ gt) := hide (by omega)
  obtain ⟨dM, dtc, dtl, dZ, dY, dZ1, dY1⟩ := HD.out
  obtain ⟨x2, S2, hbw, hth2, hall⟩ := hth.bwrite t Z Q1 (by omega) (by omega) (by show [].length + ([] : List UInt8).length + t.length ≤ _; simp only [List.length_nil]; omega)
  have hl1 : (xW mode buffer).out.length ≤ 140737488351232 := Nat.zero_le _
  have hl2 : (xW mode buffer).inn.length ≤ 140737488351232 := Nat.zero_le _
  have hl3 : (xW mode buffer).back.length ≤ 140737488351232 := Nat.zero_le _
  have hbt : Bys w5.drew (.slice ta t.length tc) t := by rw [dtl]; exact HBt.out.below (HTd.out.below (B := w.heap.size) (fun _ e => e) (Nat.le_refl _))
  have hap : 0 < t.length → ∀ k, (Value.slice ta t.length tc).ownBlock = some k → ¬ (w1.heap.size ≤ k ∧ k < w2.heap.size) := fun h0 k e e2 => by
    have hbw := HBt.out
    rw [← dtl] at hbw
    obtain ⟨-, qb, qo, e3, hq, -⟩ := bys_block hbw h0
    subst e3
    have e5 : qb = k := by simpa [Value.ownBlock] using e
    omega
  have hp := bwrite_any (gro_raw g) (fun s => gmem_o g s) (bears_true msR) _ _ _ _ _ _ t ta tc (Z : Int) (Q1 : Int) HLVd.out.ls HLVd.out.raw HLVd.out.ol (fun k e => e.2.1) trivial (fun _ _ => putOk_true msR t _ _ _ _) hl1 hl2 hl3 hbt (by omega) hap
  clear hl1 hl2 hl3 hbt hap
  rw [hbw] at hp
  simp only at hp
  rw [dtl] at hp
  have HPw := hide hp
  have HTh2 := hide hth2
  have HAll : Hid (S2.l ++ x2.out = t) := hide (hall.trans rfl)
  have e1 : wrap64 ((M : Int) / (Z : Int)) = (Q1 : Int) := by rw [← Int.natCast_ediv, dZ, Nat.mul_div_cancel_left _ (by omega)]; unfold wrap64; have := Nat.le_mul_of_pos_left Q1 (show 0 < Z by omega); omega
  have e2 : ((Z : Int) == 0) = false := by rw [beq_eq_false_iff_ne]; omega
  have e2' : ¬ (Z : Int) = 0 := by omega
  have e3 : IntKind.i64.wrap ((M : Int) / (Z : Int)) = (Q1 : Int) := by rw [IntKind.wrap_i64]; rw [← Int.natCast_ediv, dZ, Nat.mul_div_cancel_left _ (by omega)]; have := Nat.le_mul_of_pos_left Q1 (show 0 < Z by omega); omega
  have e4 : ¬ Z = 0 := by omega
  have HE1 := hide (And.intro e1 (And.intro e2 e2'))
  have HMo2 := HMo
  clear HSb HT5 HM5 HBf hsz hgs hgt hno hok HB1 HB2 hz1 hz2 hbw hth hth2 hall hp dM dtc dtl dZ dY dZ1 dY1
  go_cut [17, 18] (fun p17 p18 wx => p17 = .int .i64 (Q1 : Int) ∧ p18 = .int .i64 0 ∧ ∃ (o' i' b' : Value) (O' : Nat → Prop), Hid (LV (fun w O S => MemAt w O g S) wx w.heap.size gs O' x2 S2 o' i' b') ∧ Hid (StAt wx gt (xR mode buffer) (.slice none 0 0) (.slice none 0 0) (.slice none 0 0)) ∧ Hid (¬ O' gt) ∧ Hid (Turned (fun k => w.heap.size ≤ k) w wx))
  case first =>
    refine wp_region_noPanic ?_
    refine wp_region_held_drew (S := fun _ => True) (by kernel_rfl) (trivial) (fun hHeld => ?_)
    refine wpAnyH_take (i := 1) (oi := ?_) (v := ?_) ?_ (by kernel_rfl) (by kernel_rfl) (by kernel_rfl) (fun _ _ _ h => (h : False).elim) (Or.inl ⟨?_, ?_⟩) hHeld ?_
    rotate_left 2
    · (simp only [List.getElem?_toArray, List.getElem?_cons_zero, List.getElem?_cons_succ]; rfl)
    · rfl
    · (intro W _; go_simp <;> with_reducible rfl)
    try simp only [Act.put, List.setIfInBounds_toArray, List.set_cons_zero, List.set_cons_succ]
    refine wpAnyH_take (i := 2) (oi := ?_) (v := ?_) ?_ (by kernel_rfl) (by kernel_rfl) (by kernel_rfl) (fun _ _ _ h => (h : False).elim) (Or.inl ⟨?_, ?_⟩) hHeld ?_
    rotate_left 2
    · (simp only [List.getElem?_toArray, List.getElem?_cons_zero, List.getElem?_cons_succ]; rfl)
    · rfl
    · (intro W _; go_simp <;> with_reducible rfl)
    try simp only [Act.put, List.setIfInBounds_toArray, List.set_cons_zero, List.set_cons_succ]
    refine wpAnyH_take (i := 3) (oi := ?_) (v := ?_) ?_ (by kernel_rfl) (by kernel_rfl) (by kernel_rfl) (fun _ _ _ h => (h : False).elim) (Or.inl ⟨?_, ?_⟩) hHeld ?_
    rotate_left 2
    · (simp only [List.getElem?_toArray, List.getElem?_cons_zero, List.getElem?_cons_succ]; rfl)
    · rfl
    · (intro W _; go_simp <;> with_reducible rfl)
    try simp only [Act.put, List.setIfInBounds_toArray, List.set_cons_zero, List.set_cons_succ]
    refine wpAnyH_take (i := 4) (oi := ?_) (v := ?_) ?_ (by kernel_rfl) (by kernel_rfl) (by kernel_rfl) (fun _ _ _ h => (h : False).elim) (Or.inl ⟨?_, ?_⟩) hHeld ?_
    rotate_left 2
    · (simp only [List.getElem?_toArray, List.getElem?_cons_zero, List.getElem?_cons_succ]; rfl)
    · rfl
    · (intro W _; go_simp <;> with_reducible rfl)
    try simp only [Act.put, List.setIfInBounds_toArray, List.set_cons_zero, List.set_cons_succ]
    refine wpAnyH_take (i := 5) (oi := ?_) (v := ?_) ?_ (by kernel_rfl) (by kernel_rfl) (by kernel_rfl) (fun _ _ _ h => (h : False).elim) (Or.inl ⟨?_, ?_⟩) hHeld ?_
    rotate_left 2
    · (simp only [List.getElem?_toArray, List.getElem?_cons_zero, List.getElem?_cons_succ]; rfl)
    · rfl
    · (intro W _; go_simp <;> with_reducible rfl)
    try simp only [Act.put, List.setIfInBounds_toArray, List.set_cons_zero, List.set_cons_succ]
    refine wpAnyH_take (i := 6) (oi := ?_) (v := ?_) ?_ (by kernel_rfl) (by kernel_rfl) (by kernel_rfl) (fun _ _ _ h => (h : False).elim) (Or.inl ⟨?_, ?_⟩) hHeld ?_
    rotate_left 2
    · (simp only [List.getElem?_toArray, List.getElem?_cons_zero, List.getElem?_cons_succ]; rfl)
    · rfl
    · (intro W _; go_simp <;> with_reducible rfl)
    try simp only [Act.put, List.setIfInBounds_toArray, List.set_cons_zero, List.set_cons_succ]
    refine wpAnyH_take (i := 7) (oi := ?_) (v := ?_) ?_ (by kernel_rfl) (by kernel_rfl) (by kernel_rfl) (fun _ _ _ h => (h : False).elim) (Or.inl ⟨?_, ?_⟩) hHeld ?_
    rotate_left 2
    · (simp only [List.getElem?_toArray, List.getElem?_cons_zero, List.getElem?_cons_succ]; rfl)
    · rfl
    · (intro W _; go_simp <;> with_reducible rfl)
    try simp only [Act.put, List.setIfInBounds_toArray, List.set_cons_zero, List.set_cons_succ]
    refine wpAnyH_take (i := 8) (oi := ?_) (v := ?_) ?_ (by kernel_rfl) (by kernel_rfl) (by kernel_rfl) (fun _ _ _ h => (h : False).elim) (Or.inl ⟨?_, ?_⟩) hHeld ?_
    rotate_left 2
    · (simp only [List.getElem?_toArray, List.getElem?_cons_zero, List.getElem?_cons_succ]; rfl)
    · rfl
    · (intro W _; go_simp <;> with_reducible rfl)
    try simp only [Act.put, List.setIfInBounds_toArray, List.set_cons_zero, List.set_cons_succ]
    obtain ⟨c0, c1, c2, c3, c4, c5, c6, c7, c8, c9, c10⟩ := HLVd.out.st.cs
    refine wpAnyH_ready (rs := [0]) (by kernel_rfl) (by simp) ?_
    refine AllReadyH.cons (o := ?_) ?_ (fun K' hK => ?_) AllReadyH.nil
    rotate_left 1
    · (simp only [List.getElem?_toArray, List.getElem?_cons_zero]; rfl)
    go_simp
    refine hK.out _ _ (trivial) (fun hHeld2 => ?_)
    clear hK K' hHeld
    have hHeld := hHeld2
    clear hHeld2
    try simp only [Act.put, List.setIfInBounds_toArray, List.set_cons_zero, List.set_cons_succ]
    clear c0 c1 c2 c3 c4 c5 c6 c7 c8 c9 c10
    refine wpAnyH_ready (rs := [9]) (by kernel_rfl) (by simp) ?_
    refine AllReadyH.cons (o := ?_) ?_ (fun K' hK => ?_) AllReadyH.nil
    rotate_left 1
    · (simp only [List.getElem?_toArray, List.getElem?_cons_zero, List.getElem?_cons_succ]; rfl)
    go_simp
    go_at_call 12
    refine HPw.out.mono ?_
    rintro _ w6 ⟨o', i', b'', rfl, hS⟩
    obtain ⟨a1, a4, rfl, -⟩ := hS.choose_spec.1.so
    obtain ⟨a2, a5, rfl, -⟩ := hS.choose_spec.1.si
    obtain ⟨a3, a6, rfl, -⟩ := hS.choose_spec.1.sb
    obtain ⟨hst, ⟨O6, s1, s2, s3, s4⟩, s5⟩ := LV.by15 (vk_o gt (xR mode buffer)) (fun s => gmem_o g s) HLVd.out HKd.out.1 HKd.out.2.1 HKd.out.2.2 HSZ.out hS
    obtain ⟨c0, c1, c2, c3, c4, c5, c6, c7, c8, c9, c10⟩ := hst.cs
    have f0 := hst.soft 0
    have f1 := hst.soft 1
    have f2 := hst.soft 2
    have f3 := hst.soft 3
    have f4 := hst.soft 4
    have f5 := hst.soft 5
    have f6 := hst.soft 6
    have f7 := hst.soft 7
    have f8 := hst.soft 8
    have f9 := hst.soft 9
    have f10 := hst.soft 10
    have HL6 := hide s1
    have HK6 := hide s2.1
    have HN6 : Hid (¬ O6 gt) := hide (fun e => s3 gt (.inr (.inl e)) rfl)
    have HT6 := hide (HTd.out.trans s5 (fun _ _ e => e))
    clear hS hst s1 s2 s3 s4 s5
    unfold filled at HL6 HK6 HT6
    refine hK.out _ _ (trivial) (fun hHeld2 => ?_)
    clear hK K' hHeld
    have hHeld := hHeld2
    clear hHeld2
    try simp only [Act.put, List.setIfInBounds_toArray, List.set_cons_zero, List.set_cons_succ]
    refine wpAnyH_take (i := 10) (oi := ?_) (v := ?_) ?_ (by kernel_rfl) (by kernel_rfl) (by kernel_rfl) (fun _ _ _ h => (h : False).elim) (Or.inl ⟨?_, ?_⟩) hHeld ?_
    rotate_left 2
    · (simp only [List.getElem?_toArray, List.getElem?_cons_zero, List.getElem?_cons_succ]; rfl)
    · rfl
    · (intro W _; go_simp <;> with_reducible rfl)
    try simp only [Act.put, List.setIfInBounds_toArray, List.set_cons_zero, List.set_cons_succ]
    refine wpAnyH_take (i := 11) (oi := ?_) (v := ?_) ?_ (by kernel_rfl) (by kernel_rfl) (by kernel_rfl) (fun _ _ _ h => (h : False).elim) (Or.inl ⟨?_, ?_⟩) hHeld ?_
    rotate_left 2
    · (simp only [List.getElem?_toArray, List.getElem?_cons_zero, List.getElem?_cons_succ]; rfl)
    · rfl
    · (intro W _; go_simp <;> with_reducible rfl)
    try simp only [Act.put, List.setIfInBounds_toArray, List.set_cons_zero, List.set_cons_succ]
    refine wpAnyH_take (i := 12) (oi := ?_) (v := ?_) ?_ (by kernel_rfl) (by kernel_rfl) (by kernel_rfl) (fun _ _ _ h => (h : False).elim) (Or.inl ⟨?_, ?_⟩) hHeld ?_
    rotate_left 2
    · (simp only [List.getElem?_toArray, List.getElem?_cons_zero, List.getElem?_cons_succ]; rfl)
    · rfl
    · (intro W _; go_simp <;> with_reducible rfl)
    try simp only [Act.put, List.setIfInBounds_toArray, List.set_cons_zero, List.set_cons_succ]
    refine wpAnyH_take (i := 13) (oi := ?_) (v := ?_) ?_ (by kernel_rfl) (by kernel_rfl) (by kernel_rfl) (fun _ _ _ h => (h : False).elim) (Or.inl ⟨?_, ?_⟩) hHeld ?_
    rotate_left 2
    · (simp only [List.getElem?_toArray, List.getElem?_cons_zero, List.getElem?_cons_succ]; rfl)
    · rfl
    · (intro W _; go_simp <;> with_reducible rfl)
    try simp only [Act.put, List.setIfInBounds_toArray, List.set_cons_zero, List.set_cons_succ]
    refine wpAnyH_ready (rs := [14]) (by kernel_rfl) (by simp) ?_
    refine AllReadyH.cons (o := ?_) ?_ (fun K' hK => ?_) AllReadyH.nil
    rotate_left 1
    · (simp only [List.getElem?_toArray, List.getElem?_cons_zero, List.getElem?_cons_succ]; rfl)
    go_simp
    refine hK.out _ _ (trivial) (fun hHeld2 => ?_)
    clear hK K' hHeld
    have hHeld := hHeld2
    clear hHeld2
    try simp only [Act.put, List.setIfInBounds_toArray, List.set_cons_zero, List.set_cons_succ]
    clear c0 c1 c2 c3 c4 c5 c6 c7 c8 c9 c10 f0 f1 f2 f3 f4 f5 f6 f7 f8 f9 f10
    refine wpAnyH_take (i := 15) (oi := ?_) (v := ?_) ?_ (by kernel_rfl) (by kernel_rfl) (by kernel_rfl) (fun _ _ _ h => (h : False).elim) (Or.inl ⟨?_, ?_⟩) hHeld ?_
    rotate_left 2
    · (simp only [List.getElem?_toArray, List.getElem?_cons_zero, List.getElem?_cons_succ]; rfl)
    · rfl
    · (intro W _; go_simp <;> with_reducible rfl)
    try simp only [Act.put, List.setIfInBounds_toArray, List.set_cons_zero, List.set_cons_succ]
    refine wpAnyH_take (i := 16) (oi := ?_) (v := ?_) ?_ (by kernel_rfl) (by kernel_rfl) (by kernel_rfl) (fun _ _ _ h => (h : False).elim) (Or.inl ⟨?_, ?_⟩) hHeld ?_
    rotate_left 2
    · (simp only [List.getElem?_toArray, List.getElem?_cons_zero, List.getElem?_cons_succ]; rfl)
    · rfl
    · (intro W _; go_simp <;> with_reducible rfl)
    try simp only [Act.put, List.setIfInBounds_toArray, List.set_cons_zero, List.set_cons_succ]
    refine wpAnyH_done (by kernel_rfl) ?_ _
    refine NoPanic.normal ?_
    clear hHeld
    go_wp2
    go_meet
    exact ⟨rfl, rfl, _, _, _, _, HL6, HK6, HN6, HT6⟩
  case rest =>
    obtain ⟨rfl, rfl, o', i', b', O', HLV, HK, HNo, HTT⟩ := hcut
    clear HPw HLVd HKd HTd HSZ e1 e2 e2' e3 e4
    have hth := HTh2.out
    have hol := hth.ol
    have hos := hth.s2
    have hSl : S2.l.length + x2.out.length ≤ 1048576 := by
      have h1 := congrArg List.length HAll.out
      rw [List.length_append] at h1
      have := HD.out
      omega
    obtain ⟨z1, -, z3⟩ := thr_close hth hSl
    have hp := sClose_any (gro_raw g) (fun s => gmem_o g s) (bears_true msR) HLV.out.ls HLV.out.raw HLV.out.ol trivial (by omega) (by rw [hth.inn]; simp) (by rw [hth.back]; simp)
    have hz9 : (x2.close msR S2).2.2.l = t := z3.trans HAll.out
    generalize x2.close msR S2 = X at *
    obtain ⟨x', e', S'⟩ := X
    simp only at hp z1 hz9
    subst z1
    have HP := hide hp
    have HS9 := hide hz9
    clear hp z3 hz9 hth hol hos hSl HTh2 HAll
    obtain ⟨c0, c1, c2, c3, c4, c5, c6, c7, c8, c9, c10⟩ := HLV.out.st.cs
    go_wp2_with fail
    clear c0 c1 c2 c3 c4 c5 c6 c7 c8 c9 c10
    refine HP.out.mono ?_
    rintro _ w6 ⟨o6, i6, b6, rfl, hS⟩
    obtain ⟨O6, s1, s2, s3, s4, s5⟩ := hS
    obtain ⟨a1, a4, rfl, -⟩ := s1.so
    obtain ⟨a2, a5, rfl, -⟩ := s1.si
    obtain ⟨a3, a6, rfl, -⟩ := s1.sb
    have k6 := HK.out.turned s5 HNo.out
    have hBu := recv_below w6 (Obj.cells #[.bool x'.rd, .bool x'.wt, .int .i64 x'.mode, .int .i64 x'.size, .slice a1 x'.out.length a4, .slice a2 x'.inn.length a5, .slice a3 x'.back.length a6, .int .i64 x'.dir, .bool x'.fin, .bool x'.bad, .bool x'.closed] 35)
    have HM7 := hide (s2.below hBu)
    have HK7 := hide (k6.below hBu)
    have HT7 := hide ((HTT.out.trans (s5.mono fun k e => HLV.out.ob k e) (fun _ _ e => e)).trans (Turned.of_below (S := fun k => w.heap.size ≤ k) hBu) (fun _ _ e => e))
    clear s1 s2 s3 s4 s5 k6 hBu HP HLV HK HTT HNo
    go_upto_region 14 with fail
    generalize w6.alloc (Obj.cells #[.bool x'.rd, .bool x'.wt, .int .i64 x'.mode, .int .i64 x'.size, .slice a1 x'.out.length a4, .slice a2 x'.inn.length a5, .slice a3 x'.back.length a6, .int .i64 x'.dir, .bool x'.fin, .bool x'.bad, .bool x'.closed] 35) = w7 at *
    have hgb := gmbytes_any _ g S' w7 HM7.out
    rw [HS9.out] at hgb
    have HP2 := hide hgb
    clear hgb
    go_wp2_with fail
    refine HP2.out.mono ?_
    rintro _ w8 ⟨v8, rfl, hO8, hB8⟩
    obtain ⟨la, lc, rfl⟩ := owns_slice hO8
    have HNr := hide (newReader_good _ t w8 (Bys.of_owns hO8) (by have := HD.out; omega))
    have HK8 := hide (HK7.out.below hB8)
    have HT8 := hide (HT7.out.trans (Turned.of_below (S := fun k => w.heap.size ≤ k) hB8) (fun _ _ e => e))
    clear hO8 hB8 HP2 HM7 HK7 HT7
    go_wp2_with fail
    refine HNr.out.mono ?_
    rintro _ w9 ⟨g2, rfl, hM9, hB9⟩
    have HK9 := hide (HK8.out.below hB9)
    have HT9 := hide (HT8.out.trans (Turned.of_below (S := fun k => w.heap.size ≤ k) hB9) (fun _ _ e => e))
    have HM9 := hide hM9.trim
    have hz89 := hB9.size
    have hz8 := HT8.out.size
    have hgt8 := HK8.out.lt
    have HOl : Hid (∀ j, (w8.heap.size ≤ j ∧ j < w9.heap.size) → j < w9.heap.size) := hide (fun j e => e.2)
    have HOb : Hid (∀ k, (w8.heap.size ≤ k ∧ k < w9.heap.size) → w.heap.size ≤ k) := hide (fun k e => by have := e.1; omega)
    have HOg : Hid (¬ (w8.heap.size ≤ gt ∧ gt < w9.heap.size)) := hide (fun e => by have := e.1; omega)
    have HZ9 : Hid (w.heap.size ≤ w9.heap.size) := hide (by omega)
    have HGt : Hid (gt < w9.heap.size) := hide (by omega)
    have HSd : Hid (∀ W, Below w9.heap.size w9 W → StAt W gt (xR mode buffer) (.slice none 0 0) (.slice none 0 0) (.slice none 0 0)) := hide (fun W h => HK9.out.below h)
    clear HNr HK8 HT8 hM9 hB9 hz89 hz8 hgt8
    obtain ⟨e1, e2, e2'⟩ := HE1.out
    obtain ⟨d1, d2, d3, d4, d5, d6, d7⟩ := HD.out
    have e8 : ((Q1 : Int) != (Q1 : Int)) = false := by simp
    clear d1 d2 d3 d4 d5 d6 d7
    go_upto_region 17 with (first | (go_at_call 8; refine (num16 _ _).mono ?_; rintro _ _ ⟨rfl, rfl⟩) | fail)
    clear e1 e2 e2' e8
    obtain ⟨d1, d2, d3, d4, d5, d6, d7⟩ := HD.out
    obtain ⟨b1, b2, b3⟩ := (rr_new mode buffer t HMo.out (by omega)).bread (size := Y) (count := Q2) (by omega) (by omega)
    have hPr : ∀ W, Below w9.heap.size w9 W → _ := fun W hW => bread_any (rdr_raw g2) (fun s => gmem_o g2 s) (bears_true rdRm) (w := W) (O := fun k => w8.heap.size ≤ k ∧ k < w9.heap.size) (P := fun _ => True) (s := ⟨t, t.length, 0⟩) (x := xR mode buffer) none none none 0 0 0 (Y : Int) (Q2 : Int) (SIn.nils rfl rfl rfl) ((gmem_o g2 _).keep HM9.out (fun j e hj => hW.block j hj) hW.size) (fun j e => Nat.lt_of_lt_of_le (HOl.out j e) hW.size) trivial (Nat.zero_le _) (Nat.zero_le _) (Nat.zero_le _)
    have hv : wholeV (min (Y * Q2) t.length) Y = (Q2 : Int) := by
      rw [← d5, d3, Nat.min_self]
      unfold wholeV
      by_cases h0 : M = 0
      · rw [if_pos h0]
        rcases Nat.mul_eq_zero.1 (d5.symm.trans h0) with h | h
        · omega
        · rw [h]; rfl
      · rw [if_neg h0, d5, Int.natCast_mul, Int.mul_ediv_cancel_left _ (by omega)]
    rw [hv] at b2
    rw [← d5, ← d3, List.take_length] at b1
    rw [if_pos (by omega)] at b3
    generalize (xR mode buffer).bread rdRm ⟨t, t.length, 0⟩ (Y : Int) (Q2 : Int) = q9 at *
    obtain ⟨x', acc, V, E, s'⟩ := q9
    simp only at b1 b2 b3 hPr
    subst b1 b2 b3
    have HPr := hide (hPr _ (Below.refl _ w9).drew)
    have HPz := hide (hPr _ ((recv_below w9 (Obj.cells #[.bool false, .bool false, .int .i64 0, .int .i64 0, .slice none 0 0, .slice none 0 0, .slice none 0 0, .int .i64 0, .bool false, .bool false, .bool false] 35)).trans (Below.refl _ _).drew))
    have e1 : wrap64 ((M : Int) / (Y : Int)) = (Q2 : Int) := by rw [← Int.natCast_ediv, d5, Nat.mul_div_cancel_left _ (by omega)]; unfold wrap64; have := Nat.le_mul_of_pos_left Q2 (show 0 < Y by omega); omega
    have e2 : ((Y : Int) == 0) = false := by rw [beq_eq_false_iff_ne]; omega
    have e2' : ¬ (Y : Int) = 0 := by omega
    have e3 : IntKind.i64.wrap ((M : Int) / (Y : Int)) = (Q2 : Int) := by rw [IntKind.wrap_i64]; rw [← Int.natCast_ediv, d5, Nat.mul_div_cancel_left _ (by omega)]; have := Nat.le_mul_of_pos_left Q2 (show 0 < Y by omega); omega
    have e4 : ¬ Y = 0 := by omega
    clear hPr hv d1 d2 d3 d4 d5 d6 d7
    have HE2 := hide (And.intro e1 (And.intro e2 e2'))
    go_cut [24, 25, 26] (fun p24 p25 p26 wx => ∃ (ua : Option Addr) (uc : Nat), p24 = .slice ua acc.length uc ∧ p25 = .int .i64 (Q2 : Int) ∧ p26 = .int .i64 0 ∧ Hid (Bys wx (.slice ua acc.length uc) acc) ∧ Hid (Turned (fun k => w.heap.size ≤ k) w wx))
    case first =>
      refine wp_region_noPanic ?_
      refine wp_region_held_drew (S := fun W => StAt W gt (xR mode buffer) (.slice none 0 0) (.slice none 0 0) (.slice none 0 0)) (by kernel_rfl) (HSd.out _ (Below.refl _ w9).drew) (fun hHeld => ?_)
      refine wpAnyH_take (i := 0) (oi := ?_) (v := ?_) ?_ (by kernel_rfl) (by kernel_rfl) (by kernel_rfl) (fun _ _ _ h => (h : False).elim) (Or.inl ⟨?_, ?_⟩) hHeld ?_
      rotate_left 2
      · (simp only [List.getElem?_toArray, List.getElem?_cons_zero]; rfl)
      · rfl
      · (intro W hSw; obtain ⟨m0, m1, m2, m3, m4, m5, m6, m7, m8, m9, m10⟩ := StAt.cs hSw; go_simp <;> with_reducible rfl)
      try simp only [Act.put, List.setIfInBounds_toArray, List.set_cons_zero, List.set_cons_succ]
      refine wpAnyH_take (i := 1) (oi := ?_) (v := ?_) ?_ (by kernel_rfl) (by kernel_rfl) (by kernel_rfl) (fun _ _ _ h => (h : False).elim) (Or.inl ⟨?_, ?_⟩) hHeld ?_
      rotate_left 2
      · (simp only [List.getElem?_toArray, List.getElem?_cons_zero, List.getElem?_cons_succ]; rfl)
      · rfl
      · (intro W hSw; obtain ⟨m0, m1, m2, m3, m4, m5, m6, m7, m8, m9, m10⟩ := StAt.cs hSw; go_simp <;> with_reducible rfl)
      try simp only [Act.put, List.setIfInBounds_toArray, List.set_cons_zero, List.set_cons_succ]
      refine wpAnyH_take (i := 2) (oi := ?_) (v := ?_) ?_ (by kernel_rfl) (by kernel_rfl) (by kernel_rfl) (fun _ _ _ h => (h : False).elim) (Or.inl ⟨?_, ?_⟩) hHeld ?_
      rotate_left 2
      · (simp only [List.getElem?_toArray, List.getElem?_cons_zero, List.getElem?_cons_succ]; rfl)
      · rfl
      · (intro W hSw; obtain ⟨m0, m1, m2, m3, m4, m5, m6, m7, m8, m9, m10⟩ := StAt.cs hSw; go_simp <;> with_reducible rfl)
      try simp only [Act.put, List.setIfInBounds_toArray, List.set_cons_zero, List.set_cons_succ]
      refine wpAnyH_take (i := 3) (oi := ?_) (v := ?_) ?_ (by kernel_rfl) (by kernel_rfl) (by kernel_rfl) (fun _ _ _ h => (h : False).elim) (Or.inl ⟨?_, ?_⟩) hHeld ?_
      rotate_left 2
      · (simp only [List.getElem?_toArray, List.getElem?_cons_zero, List.getElem?_cons_succ]; rfl)
      · rfl
      · (intro W hSw; obtain ⟨m0, m1, m2, m3, m4, m5, m6, m7, m8, m9, m10⟩ := StAt.cs hSw; go_simp <;> with_reducible rfl)
      try simp only [Act.put, List.setIfInBounds_toArray, List.set_cons_zero, List.set_cons_succ]
      refine wpAnyH_take (i := 4) (oi := ?_) (v := ?_) ?_ (by kernel_rfl) (by kernel_rfl) (by kernel_rfl) (fun _ _ _ h => (h : False).elim) (Or.inl ⟨?_, ?_⟩) hHeld ?_
      rotate_left 2
      · (simp only [List.getElem?_toArray, List.getElem?_cons_zero, List.getElem?_cons_succ]; rfl)
      · rfl
      · (intro W hSw; obtain ⟨m0, m1, m2, m3, m4, m5, m6, m7, m8, m9, m10⟩ := StAt.cs hSw; go_simp <;> with_reducible rfl)
      try simp only [Act.put, List.setIfInBounds_toArray, List.set_cons_zero, List.set_cons_succ]
      refine wpAnyH_take (i := 5) (oi := ?_) (v := ?_) ?_ (by kernel_rfl) (by kernel_rfl) (by kernel_rfl) (fun _ _ _ h => (h : False).elim) (Or.inl ⟨?_, ?_⟩) hHeld ?_
      rotate_left 2
      · (simp only [List.getElem?_toArray, List.getElem?_cons_zero, List.getElem?_cons_succ]; rfl)
      · rfl
      · (intro W hSw; obtain ⟨m0, m1, m2, m3, m4, m5, m6, m7, m8, m9, m10⟩ := StAt.cs hSw; go_simp <;> with_reducible rfl)
      try simp only [Act.put, List.setIfInBounds_toArray, List.set_cons_zero, List.set_cons_succ]
      refine wpAnyH_take (i := 6) (oi := ?_) (v := ?_) ?_ (by kernel_rfl) (by kernel_rfl) (by kernel_rfl) (fun _ _ _ h => (h : False).elim) (Or.inl ⟨?_, ?_⟩) hHeld ?_
      rotate_left 2
      · (simp only [List.getElem?_toArray, List.getElem?_cons_zero, List.getElem?_cons_succ]; rfl)
      · rfl
      · (intro W hSw; obtain ⟨m0, m1, m2, m3, m4, m5, m6, m7, m8, m9, m10⟩ := StAt.cs hSw; go_simp <;> with_reducible rfl)
      try simp only [Act.put, List.setIfInBounds_toArray, List.set_cons_zero, List.set_cons_succ]
      refine wpAnyH_take (i := 7) (oi := ?_) (v := ?_) ?_ (by kernel_rfl) (by kernel_rfl) (by kernel_rfl) (fun _ _ _ h => (h : False).elim) (Or.inl ⟨?_, ?_⟩) hHeld ?_
      rotate_left 2
      · (simp only [List.getElem?_toArray, List.getElem?_cons_zero, List.getElem?_cons_succ]; rfl)
      · rfl
      · (intro W hSw; obtain ⟨m0, m1, m2, m3, m4, m5, m6, m7, m8, m9, m10⟩ := StAt.cs hSw; go_simp <;> with_reducible rfl)
      try simp only [Act.put, List.setIfInBounds_toArray, List.set_cons_zero, List.set_cons_succ]
      refine wpAnyH_ready (rs := [8, 14]) (by kernel_rfl) (by simp) ?_
      refine AllReadyH.cons (o := ?_) ?_ (fun K' hK => ?_) (AllReadyH.cons (o := ?_) ?_ (fun K' hK => ?_) AllReadyH.nil)
      rotate_left 1
      · (simp only [List.getElem?_toArray, List.getElem?_cons_zero, List.getElem?_cons_succ]; rfl)
      · go_simp
        go_at_call 16
        refine HPr.out.mono ?_
        rintro _ wA ⟨o', i', b'', u, rfl, hS⟩
        obtain ⟨a1, a4, rfl, -⟩ := hS.choose_spec.1.1.so
        obtain ⟨a2, a5, rfl, -⟩ := hS.choose_spec.1.1.si
        obtain ⟨a3, a6, rfl, -⟩ := hS.choose_spec.1.1.sb
        obtain ⟨ua, uc, rfl⟩ := owns_slice hS.choose_spec.2.1
        have hTA := hS.choose_spec.1.2.2.2.2
        have HUA := hide hS.choose_spec.2.1
        clear hS
        have h9 := (HSd.out _ (Below.refl _ w9).drew).turned hTA (HOg.out)
        have HBA := hide ((Turned.of_below (S := fun k => w.heap.size ≤ k) (Below.refl _ w9).drew).trans (hTA.mono HOb.out) (fun _ _ e => e))
        clear hTA
        refine hK.out _ _ (h9) (fun hHeld2 => ?_)
        clear hK K' hHeld
        have hHeld := hHeld2
        clear hHeld2
        try simp only [Act.put, List.setIfInBounds_toArray, List.set_cons_zero, List.set_cons_succ]
        refine wpAnyH_take (i := 9) (oi := ?_) (v := ?_) ?_ (by kernel_rfl) (by kernel_rfl) (by kernel_rfl) (fun _ _ _ h => (h : False).elim) (Or.inl ⟨?_, ?_⟩) hHeld ?_
        rotate_left 2
        · (simp only [List.getElem?_toArray, List.getElem?_cons_zero, List.getElem?_cons_succ]; rfl)
        · rfl
        · (intro W hSw; obtain ⟨m0, m1, m2, m3, m4, m5, m6, m7, m8, m9, m10⟩ := StAt.cs hSw; go_simp <;> with_reducible rfl)
        try simp only [Act.put, List.setIfInBounds_toArray, List.set_cons_zero, List.set_cons_succ]
        refine wpAnyH_take (i := 10) (oi := ?_) (v := ?_) ?_ (by kernel_rfl) (by kernel_rfl) (by kernel_rfl) (fun _ _ _ h => (h : False).elim) (Or.inl ⟨?_, ?_⟩) hHeld ?_
        rotate_left 2
        · (simp only [List.getElem?_toArray, List.getElem?_cons_zero, List.getElem?_cons_succ]; rfl)
        · rfl
        · (intro W hSw; obtain ⟨m0, m1, m2, m3, m4, m5, m6, m7, m8, m9, m10⟩ := StAt.cs hSw; go_simp <;> with_reducible rfl)
        try simp only [Act.put, List.setIfInBounds_toArray, List.set_cons_zero, List.set_cons_succ]
        refine wpAnyH_take (i := 11) (oi := ?_) (v := ?_) ?_ (by kernel_rfl) (by kernel_rfl) (by kernel_rfl) (fun _ _ _ h => (h : False).elim) (Or.inl ⟨?_, ?_⟩) hHeld ?_
        rotate_left 2
        · (simp only [List.getElem?_toArray, List.getElem?_cons_zero, List.getElem?_cons_succ]; rfl)
        · rfl
        · (intro W hSw; obtain ⟨m0, m1, m2, m3, m4, m5, m6, m7, m8, m9, m10⟩ := StAt.cs hSw; go_simp <;> with_reducible rfl)
        try simp only [Act.put, List.setIfInBounds_toArray, List.set_cons_zero, List.set_cons_succ]
        refine wpAnyH_take (i := 12) (oi := ?_) (v := ?_) ?_ (by kernel_rfl) (by kernel_rfl) (by kernel_rfl) (fun _ _ _ h => (h : False).elim) (Or.inl ⟨?_, ?_⟩) hHeld ?_
        rotate_left 2
        · (simp only [List.getElem?_toArray, List.getElem?_cons_zero, List.getElem?_cons_succ]; rfl)
        · rfl
        · (intro W hSw; obtain ⟨m0, m1, m2, m3, m4, m5, m6, m7, m8, m9, m10⟩ := StAt.cs hSw; go_simp <;> with_reducible rfl)
        try simp only [Act.put, List.setIfInBounds_toArray, List.set_cons_zero, List.set_cons_succ]
        refine wpAnyH_take (i := 13) (oi := ?_) (v := ?_) ?_ (by kernel_rfl) (by kernel_rfl) (by kernel_rfl) (fun _ _ _ h => (h : False).elim) (Or.inl ⟨?_, ?_⟩) hHeld ?_
        rotate_left 2
        · (simp only [List.getElem?_toArray, List.getElem?_cons_zero, List.getElem?_cons_succ]; rfl)
        · rfl
        · (intro W hSw; obtain ⟨m0, m1, m2, m3, m4, m5, m6, m7, m8, m9, m10⟩ := StAt.cs hSw; go_simp <;> with_reducible rfl)
        try simp only [Act.put, List.setIfInBounds_toArray, List.set_cons_zero, List.set_cons_succ]
        refine wpAnyH_ready (rs := [14]) (by kernel_rfl) (by simp) ?_
        refine AllReadyH.cons (o := ?_) ?_ (fun K' hK => ?_) AllReadyH.nil
        rotate_left 1
        · (simp only [List.getElem?_toArray, List.getElem?_cons_zero, List.getElem?_cons_succ]; rfl)
        go_simp
        refine hK.out _ _ (StAt.below h9 (recv_below wA (Obj.cells #[.bool false, .bool false, .int .i64 0, .int .i64 0, .slice none 0 0, .slice none 0 0, .slice none 0 0, .int .i64 0, .bool false, .bool false, .bool false] 35))) (fun hHeld2 => ?_)
        clear hK K' hHeld
        have hHeld := hHeld2
        clear hHeld2
        try simp only [Act.put, List.setIfInBounds_toArray, List.set_cons_zero, List.set_cons_succ]
        refine wpAnyH_ready (rs := [15]) (by kernel_rfl) (by simp) ?_
        refine AllReadyH.cons (o := ?_) ?_ (fun K' hK => ?_) AllReadyH.nil
        rotate_left 1
        · (simp only [List.getElem?_toArray, List.getElem?_cons_zero, List.getElem?_cons_succ]; rfl)
        go_simp
        refine hK.out _ _ (StAt.below h9 (recv_below wA (Obj.cells #[.bool x'.rd, .bool x'.wt, .int .i64 x'.mode, .int .i64 x'.size, .slice a1 x'.out.length a4, .slice a2 x'.inn.length a5, .slice a3 x'.back.length a6, .int .i64 x'.dir, .bool x'.fin, .bool x'.bad, .bool x'.closed] 35))) (fun hHeld2 => ?_)
        clear hK K' hHeld
        have hHeld := hHeld2
        clear hHeld2
        try simp only [Act.put, List.setIfInBounds_toArray, List.set_cons_zero, List.set_cons_succ]
        refine wpAnyH_take (i := 16) (oi := ?_) (v := ?_) ?_ (by kernel_rfl) (by kernel_rfl) (by kernel_rfl) (fun _ _ _ h => (h : False).elim) (Or.inl ⟨?_, ?_⟩) hHeld ?_
        rotate_left 2
        · (simp only [List.getElem?_toArray, List.getElem?_cons_zero, List.getElem?_cons_succ]; rfl)
        · rfl
        · (intro W hSw; obtain ⟨m0, m1, m2, m3, m4, m5, m6, m7, m8, m9, m10⟩ := StAt.cs hSw; go_simp <;> with_reducible rfl)
        try simp only [Act.put, List.setIfInBounds_toArray, List.set_cons_zero, List.set_cons_succ]
        refine wpAnyH_take (i := 17) (oi := ?_) (v := ?_) ?_ (by kernel_rfl) (by kernel_rfl) (by kernel_rfl) (fun _ _ _ h => (h : False).elim) (Or.inl ⟨?_, ?_⟩) hHeld ?_
        rotate_left 2
        · (simp only [List.getElem?_toArray, List.getElem?_cons_zero, List.getElem?_cons_succ]; rfl)
        · rfl
        · (intro W hSw; obtain ⟨m0, m1, m2, m3, m4, m5, m6, m7, m8, m9, m10⟩ := StAt.cs hSw; go_simp <;> with_reducible rfl)
        try simp only [Act.put, List.setIfInBounds_toArray, List.set_cons_zero, List.set_cons_succ]
        refine wpAnyH_take (i := 18) (oi := ?_) (v := ?_) ?_ (by kernel_rfl) (by kernel_rfl) (by kernel_rfl) (fun _ _ _ h => (h : False).elim) (Or.inl ⟨?_, ?_⟩) hHeld ?_
        rotate_left 2
        · (simp only [List.getElem?_toArray, List.getElem?_cons_zero, List.getElem?_cons_succ]; rfl)
        · rfl
        · (intro W hSw; obtain ⟨m0, m1, m2, m3, m4, m5, m6, m7, m8, m9, m10⟩ := StAt.cs hSw; go_simp <;> with_reducible rfl)
        try simp only [Act.put, List.setIfInBounds_toArray, List.set_cons_zero, List.set_cons_succ]
        refine wpAnyH_done (by kernel_rfl) ?_ _
        refine NoPanic.normal ?_
        clear hHeld h9
        go_wp2
        go_meet
        exact ⟨ua, uc, rfl, rfl, rfl, hide (Bys.of_owns (owns_below HUA.out (recv_below wA (Obj.cells #[.bool x'.rd, .bool x'.wt, .int .i64 x'.mode, .int .i64 x'.size, .slice a1 x'.out.length a4, .slice a2 x'.inn.length a5, .slice a3 x'.back.length a6, .int .i64 x'.dir, .bool x'.fin, .bool x'.bad, .bool x'.closed] 35)))), hide ((HT9.out.trans HBA.out (fun _ _ e => e)).trans (Turned.of_below (S := fun k => w.heap.size ≤ k) (recv_below wA (Obj.cells #[.bool x'.rd, .bool x'.wt, .int .i64 x'.mode, .int .i64 x'.size, .slice a1 x'.out.length a4, .slice a2 x'.inn.length a5, .slice a3 x'.back.length a6, .int .i64 x'.dir, .bool x'.fin, .bool x'.bad, .bool x'.closed] 35))) (fun _ _ e => e))⟩
      rotate_left 1
      · (simp only [List.getElem?_toArray, List.getElem?_cons_zero, List.getElem?_cons_succ]; rfl)
      · go_simp
        refine hK.out _ _ (HSd.out _ ((recv_below w9 (Obj.cells #[.bool false, .bool false, .int .i64 0, .int .i64 0, .slice none 0 0, .slice none 0 0, .slice none 0 0, .int .i64 0, .bool false, .bool false, .bool false] 35)).trans (Below.refl _ _).drew)) (fun hHeld2 => ?_)
        clear hK K' hHeld
        have hHeld := hHeld2
        clear hHeld2
        try simp only [Act.put, List.setIfInBounds_toArray, List.set_cons_zero, List.set_cons_succ]
        refine wpAnyH_ready (rs := [8]) (by kernel_rfl) (by simp) ?_
        refine AllReadyH.cons (o := ?_) ?_ (fun K' hK => ?_) AllReadyH.nil
        rotate_left 1
        · (simp only [List.getElem?_toArray, List.getElem?_cons_zero, List.getElem?_cons_succ]; rfl)
        go_simp
        go_at_call 16
        refine HPz.out.mono ?_
        rintro _ wA ⟨o', i', b'', u, rfl, hS⟩
        obtain ⟨a1, a4, rfl, -⟩ := hS.choose_spec.1.1.so
        obtain ⟨a2, a5, rfl, -⟩ := hS.choose_spec.1.1.si
        obtain ⟨a3, a6, rfl, -⟩ := hS.choose_spec.1.1.sb
        obtain ⟨ua, uc, rfl⟩ := owns_slice hS.choose_spec.2.1
        have hTA := hS.choose_spec.1.2.2.2.2
        have HUA := hide hS.choose_spec.2.1
        clear hS
        have h9 := (HSd.out _ ((recv_below w9 (Obj.cells #[.bool false, .bool false, .int .i64 0, .int .i64 0, .slice none 0 0, .slice none 0 0, .slice none 0 0, .int .i64 0, .bool false, .bool false, .bool false] 35)).trans (Below.refl _ _).drew)).turned hTA (HOg.out)
        have HBA := hide ((Turned.of_below (S := fun k => w.heap.size ≤ k) ((recv_below w9 (Obj.cells #[.bool false, .bool false, .int .i64 0, .int .i64 0, .slice none 0 0, .slice none 0 0, .slice none 0 0, .int .i64 0, .bool false, .bool false, .bool false] 35)).trans (Below.refl _ _).drew)).trans (hTA.mono HOb.out) (fun _ _ e => e))
        have hz9 : wA.heap[w9.heap.size]? = some (Obj.cells #[.bool false, .bool false, .int .i64 0, .int .i64 0, .slice none 0 0, .slice none 0 0, .slice none 0 0, .int .i64 0, .bool false, .bool false, .bool false] 35) := (hTA.block w9.heap.size (by show _ < (w9.alloc (Obj.cells #[.bool false, .bool false, .int .i64 0, .int .i64 0, .slice none 0 0, .slice none 0 0, .slice none 0 0, .int .i64 0, .bool false, .bool false, .bool false] 35)).heap.size; rw [show (w9.alloc (Obj.cells #[.bool false, .bool false, .int .i64 0, .int .i64 0, .slice none 0 0, .slice none 0 0, .slice none 0 0, .int .i64 0, .bool false, .bool false, .bool false] 35)).heap.size = w9.heap.size + 1 from Array.size_push ..]; omega) (fun e => by have := HOl.out _ e; omega)).trans (heap_alloc_new w9 (Obj.cells #[.bool false, .bool false, .int .i64 0, .int .i64 0, .slice none 0 0, .slice none 0 0, .slice none 0 0, .int .i64 0, .bool false, .bool false, .bool false] 35))
        clear hTA
        refine hK.out _ _ (h9) (fun hHeld2 => ?_)
        clear hK K' hHeld
        have hHeld := hHeld2
        clear hHeld2
        try simp only [Act.put, List.setIfInBounds_toArray, List.set_cons_zero, List.set_cons_succ]
        refine wpAnyH_take (i := 9) (oi := ?_) (v := ?_) ?_ (by kernel_rfl) (by kernel_rfl) (by kernel_rfl) (fun _ _ _ h => (h : False).elim) (Or.inl ⟨?_, ?_⟩) hHeld ?_
        rotate_left 2
        · (simp only [List.getElem?_toArray, List.getElem?_cons_zero, List.getElem?_cons_succ]; rfl)
        · rfl
        · (intro W hSw; obtain ⟨m0, m1, m2, m3, m4, m5, m6, m7, m8, m9, m10⟩ := StAt.cs hSw; go_simp <;> with_reducible rfl)
        try simp only [Act.put, List.setIfInBounds_toArray, List.set_cons_zero, List.set_cons_succ]
        refine wpAnyH_take (i := 10) (oi := ?_) (v := ?_) ?_ (by kernel_rfl) (by kernel_rfl) (by kernel_rfl) (fun _ _ _ h => (h : False).elim) (Or.inl ⟨?_, ?_⟩) hHeld ?_
        rotate_left 2
        · (simp only [List.getElem?_toArray, List.getElem?_cons_zero, List.getElem?_cons_succ]; rfl)
        · rfl
        · (intro W hSw; obtain ⟨m0, m1, m2, m3, m4, m5, m6, m7, m8, m9, m10⟩ := StAt.cs hSw; go_simp <;> with_reducible rfl)
        try simp only [Act.put, List.setIfInBounds_toArray, List.set_cons_zero, List.set_cons_succ]
        refine wpAnyH_take (i := 11) (oi := ?_) (v := ?_) ?_ (by kernel_rfl) (by kernel_rfl) (by kernel_rfl) (fun _ _ _ h => (h : False).elim) (Or.inl ⟨?_, ?_⟩) hHeld ?_
        rotate_left 2
        · (simp only [List.getElem?_toArray, List.getElem?_cons_zero, List.getElem?_cons_succ]; rfl)
        · rfl
        · (intro W hSw; obtain ⟨m0, m1, m2, m3, m4, m5, m6, m7, m8, m9, m10⟩ := StAt.cs hSw; go_simp <;> with_reducible rfl)
        try simp only [Act.put, List.setIfInBounds_toArray, List.set_cons_zero, List.set_cons_succ]
        refine wpAnyH_take (i := 12) (oi := ?_) (v := ?_) ?_ (by kernel_rfl) (by kernel_rfl) (by kernel_rfl) (fun _ _ _ h => (h : False).elim) (Or.inl ⟨?_, ?_⟩) hHeld ?_
        rotate_left 2
        · (simp only [List.getElem?_toArray, List.getElem?_cons_zero, List.getElem?_cons_succ]; rfl)
        · rfl
        · (intro W hSw; obtain ⟨m0, m1, m2, m3, m4, m5, m6, m7, m8, m9, m10⟩ := StAt.cs hSw; go_simp <;> with_reducible rfl)
        try simp only [Act.put, List.setIfInBounds_toArray, List.set_cons_zero, List.set_cons_succ]
        refine wpAnyH_take (i := 13) (oi := ?_) (v := ?_) ?_ (by kernel_rfl) (by kernel_rfl) (by kernel_rfl) (fun _ _ _ h => (h : False).elim) (Or.inl ⟨?_, ?_⟩) hHeld ?_
        rotate_left 2
        · (simp only [List.getElem?_toArray, List.getElem?_cons_zero, List.getElem?_cons_succ]; rfl)
        · rfl
        · (intro W hSw; obtain ⟨m0, m1, m2, m3, m4, m5, m6, m7, m8, m9, m10⟩ := StAt.cs hSw; go_simp <;> with_reducible rfl)
        try simp only [Act.put, List.setIfInBounds_toArray, List.set_cons_zero, List.set_cons_succ]
        obtain ⟨e1, e2⟩ := st_fill wA w9.heap.size x' (.slice a1 x'.out.length a4) (.slice a2 x'.inn.length a5) (.slice a3 x'.back.length a6) hz9
        have HS9 := hide (StAt.turned h9 e2 (by have := HGt.out; omega))
        have HEx := hide e2
        have u0' := frozen_of_row wA w9.heap.size 0 _ _ hz9
        have u1' := frozen_of_row wA w9.heap.size 1 _ _ hz9
        have u2' := frozen_of_row wA w9.heap.size 2 _ _ hz9
        have u3' := frozen_of_row wA w9.heap.size 3 _ _ hz9
        have u4' := frozen_of_row wA w9.heap.size 4 _ _ hz9
        have u5' := frozen_of_row wA w9.heap.size 5 _ _ hz9
        have u6' := frozen_of_row wA w9.heap.size 6 _ _ hz9
        have u7' := frozen_of_row wA w9.heap.size 7 _ _ hz9
        have u8' := frozen_of_row wA w9.heap.size 8 _ _ hz9
        have u9' := frozen_of_row wA w9.heap.size 9 _ _ hz9
        have u10' := frozen_of_row wA w9.heap.size 10 _ _ hz9
        have z0' := cell_of_row wA w9.heap.size 0 _ _ _ hz9
        have z1' := cell_of_row wA w9.heap.size 1 _ _ _ hz9
        have z2' := cell_of_row wA w9.heap.size 2 _ _ _ hz9
        have z3' := cell_of_row wA w9.heap.size 3 _ _ _ hz9
        have z4' := cell_of_row wA w9.heap.size 4 _ _ _ hz9
        have z5' := cell_of_row wA w9.heap.size 5 _ _ _ hz9
        have z6' := cell_of_row wA w9.heap.size 6 _ _ _ hz9
        have z7' := cell_of_row wA w9.heap.size 7 _ _ _ hz9
        have z8' := cell_of_row wA w9.heap.size 8 _ _ _ hz9
        have z9' := cell_of_row wA w9.heap.size 9 _ _ _ hz9
        have z10' := cell_of_row wA w9.heap.size 10 _ _ _ hz9
        simp at z0' z1' z2' z3' z4' z5' z6' z7' z8' z9' z10'
        clear e1 e2 hz9
        refine wpAnyH_ready (rs := [15]) (by kernel_rfl) (by simp) ?_
        refine AllReadyH.cons (o := ?_) ?_ (fun K' hK => ?_) AllReadyH.nil
        rotate_left 1
        · (simp only [List.getElem?_toArray, List.getElem?_cons_zero, List.getElem?_cons_succ]; rfl)
        go_simp
        refine hK.out _ _ (HS9.out) (fun hHeld2 => ?_)
        clear hK K' hHeld
        have hHeld := hHeld2
        clear hHeld2
        try simp only [Act.put, List.setIfInBounds_toArray, List.set_cons_zero, List.set_cons_succ]
        clear u0' z0' u1' z1' u2' z2' u3' z3' u4' z4' u5' z5' u6' z6' u7' z7' u8' z8' u9' z9' u10' z10'
        refine wpAnyH_take (i := 16) (oi := ?_) (v := ?_) ?_ (by kernel_rfl) (by kernel_rfl) (by kernel_rfl) (fun _ _ _ h => (h : False).elim) (Or.inl ⟨?_, ?_⟩) hHeld ?_
        rotate_left 2
        · (simp only [List.getElem?_toArray, List.getElem?_cons_zero, List.getElem?_cons_succ]; rfl)
        · rfl
        · (intro W hSw; obtain ⟨m0, m1, m2, m3, m4, m5, m6, m7, m8, m9, m10⟩ := StAt.cs hSw; go_simp <;> with_reducible rfl)
        try simp only [Act.put, List.setIfInBounds_toArray, List.set_cons_zero, List.set_cons_succ]
        refine wpAnyH_take (i := 17) (oi := ?_) (v := ?_) ?_ (by kernel_rfl) (by kernel_rfl) (by kernel_rfl) (fun _ _ _ h => (h : False).elim) (Or.inl ⟨?_, ?_⟩) hHeld ?_
        rotate_left 2
        · (simp only [List.getElem?_toArray, List.getElem?_cons_zero, List.getElem?_cons_succ]; rfl)
        · rfl
        · (intro W hSw; obtain ⟨m0, m1, m2, m3, m4, m5, m6, m7, m8, m9, m10⟩ := StAt.cs hSw; go_simp <;> with_reducible rfl)
        try simp only [Act.put, List.setIfInBounds_toArray, List.set_cons_zero, List.set_cons_succ]
        refine wpAnyH_take (i := 18) (oi := ?_) (v := ?_) ?_ (by kernel_rfl) (by kernel_rfl) (by kernel_rfl) (fun _ _ _ h => (h : False).elim) (Or.inl ⟨?_, ?_⟩) hHeld ?_
        rotate_left 2
        · (simp only [List.getElem?_toArray, List.getElem?_cons_zero, List.getElem?_cons_succ]; rfl)
        · rfl
        · (intro W hSw; obtain ⟨m0, m1, m2, m3, m4, m5, m6, m7, m8, m9, m10⟩ := StAt.cs hSw; go_simp <;> with_reducible rfl)
        try simp only [Act.put, List.setIfInBounds_toArray, List.set_cons_zero, List.set_cons_succ]
        refine wpAnyH_done (by kernel_rfl) ?_ _
        refine NoPanic.normal ?_
        clear hHeld h9
        go_wp2
        go_meet
        exact ⟨ua, uc, rfl, rfl, rfl, hide (Bys.of_owns (owns_turned HUA.out HEx.out (fun k e e2 => by have e2 : k = w9.heap.size := e2; have h1 := (HUA.out.lt k e).1; have h2 : w9.heap.size < (w9.alloc (Obj.cells #[.bool false, .bool false, .int .i64 0, .int .i64 0, .slice none 0 0, .slice none 0 0, .slice none 0 0, .int .i64 0, .bool false, .bool false, .bool false] 35)).heap.size := (Array.getElem?_eq_some_iff.1 (heap_alloc_new w9 (Obj.cells #[.bool false, .bool false, .int .i64 0, .int .i64 0, .slice none 0 0, .slice none 0 0, .slice none 0 0, .int .i64 0, .bool false, .bool false, .bool false] 35))).1; have h3 : (w9.alloc (Obj.cells #[.bool false, .bool false, .int .i64 0, .int .i64 0, .slice none 0 0, .slice none 0 0, .slice none 0 0, .int .i64 0, .bool false, .bool false, .bool false] 35)).drew.heap.size = (w9.alloc (Obj.cells #[.bool false, .bool false, .int .i64 0, .int .i64 0, .slice none 0 0, .slice none 0 0, .slice none 0 0, .int .i64 0, .bool false, .bool false, .bool false] 35)).heap.size := rfl; omega))), hide ((HT9.out.trans HBA.out (fun _ _ e => e)).trans (HEx.out.mono fun k e => (by have e : k = w9.heap.size := e; have := HZ9.out; omega : w.heap.size ≤ k)) (fun _ _ e => e))⟩
    case rest =>
      obtain ⟨ua, uc, rfl, rfl, rfl, HBc, HTc⟩ := hcut
      clear e3 e4 HPr HPz HSd
      have HSm := hide (same_any (.slice ua acc.length uc) (.slice ta M tc) acc wc HBc.out (HBt.out.below (HTc.out.below (B := w.heap.size) (fun _ e => e) (Nat.le_refl _))) (by have := HD.out; unfold maxLen; omega))
      have e9 : ((Q2 : Int) == (Q2 : Int)) = true := by simp
      go_wp2_with (first | (go_at_call 8; refine (num16 _ _).mono ?_; rintro _ _ ⟨rfl, rfl⟩) | (go_at_call 17; refine HSm.out.mono ?_; rintro _ wz ⟨rfl, hBz⟩) | fail)
      go_ret
      exact ⟨rfl, (HTc.out.below (B := w.heap.size) (fun _ e => e) (Nat.le_refl _)).trans (hBz.mono HTc.out.size)⟩
theorem lbackb_fr (ta : Option Addr) (tn tc : Nat) (t0 : List UInt8) (size other mode buffer : Int) (w : World) (hX : Bys w (.slice ta tn tc) t0) (htc : t0.length ≤ tc) :
    Calls Try.prog 4 #[.slice ta tn tc, .int .i64 size, .int .i64 other, .int .i64 mode, .int .i64 buffer] w fun e w' => e = .returned (.bool true) ∧ Below w.heap.size w w' := by
  obtain rfl := bys_len15 hX
  exact lbackb_any ta tc t0 size other mode buffer w hX htc
end Go.Proofs.Ytgbkhmiphaefgaa

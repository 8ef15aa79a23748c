/- What the proof stands on, part 19: the contracts of the program's calls that it reaches. -/
import Derived.Test.YtejcfhjhjplcnaaGreatKM18
/- A table's calls: New, Open, Install, Dup, DupTo. -/
namespace Go.Proofs.YtejcfhjhjplcnaaGreat
open Go.RowKit Go.Maps

def zslots : Nat → List Value
  | 0 => []
  | n + 1 => .int .i64 0 :: .bool false :: zslots n
theorem zslots_at : ∀ (n i : Nat), i < n → (zslots n)[i * 2]? = some (.int .i64 0) ∧ (zslots n)[i * 2 + 1]? = some (.bool false)
  | 0, i, h => absurd h (Nat.not_lt_zero _)
  | n + 1, 0, _ => ⟨rfl, rfl⟩
  | n + 1, i + 1, h => by
    have := zslots_at n i (by omega)
    rw [show (i + 1) * 2 = i * 2 + 1 + 1 by omega]
    simp only [zslots, List.getElem?_cons_succ]
    exact this
theorem tb_new {W : World} {t kb : Nat} (h : W.heap[t]? = some (.cells (.pointer (some ⟨kb, 0, none⟩) :: zslots 64).toArray 176 (0, 0))) : Tb W t kb (fun _ => 0) (fun _ => false) := by
  refine ⟨⟨_, h⟩, ?_, fun i hi => ?_, fun i hi => ?_, fun i => ⟨by decide, by decide⟩⟩
  · rw [cell_of_row W t 0 _ _ _ h, List.getElem?_toArray, List.getElem?_cons_zero]
  · rw [cell_of_row W t _ _ _ _ h, List.getElem?_toArray, Nat.add_comm, List.getElem?_cons_succ]
    exact (zslots_at 64 i hi).1
  · rw [cell_of_row W t _ _ _ _ h, List.getElem?_toArray, show 1 + i * 2 + 1 = (i * 2 + 1) + 1 by omega, List.getElem?_cons_succ]
    exact (zslots_at 64 i hi).2
set_option maxRecDepth 100000 in
set_option maxHeartbeats 2000000 in
theorem tnew_any (kb : Nat) (w : World) :
    Calls Tryz.prog 18 #[.pointer (some ⟨kb, 0, none⟩)] w fun e w' => e = .returned (.pointer (some ⟨w.heap.size, 0, none⟩)) ∧ Tb w' w.heap.size kb (fun _ => 0) (fun _ => false) ∧ Below w.heap.size w w' ∧ w'.heap.size = w.heap.size + 1 := by
  have HT : Hid (Tb (w.alloc (.cells (.pointer (some ⟨kb, 0, none⟩) :: zslots 64).toArray 176 (0, 0))) w.heap.size kb (fun _ => 0) (fun _ => false)) := hide (tb_new (heap_alloc_new w _))
  have HB := hide (recv_below w (.cells (.pointer (some ⟨kb, 0, none⟩) :: zslots 64).toArray 176 (0, 0)))
  have HS := hide (World.size_alloc w (.cells (.pointer (some ⟨kb, 0, none⟩) :: zslots 64).toArray 176 (0, 0)))
  go_enter Tryz.func18, Tryz.ntmps18
  go_wp2_with fail
  go_ret
  exact ⟨rfl, HT.out, HB.out, HS.out⟩
theorem open_i64 {K : KS} (h : K.next < 9223372036854775807) (s : ByteArray) (f : Int) : I64 (K.open s f).1 := by
  have h0 : I64 0 := ⟨by decide, by decide⟩
  have h1 : I64 (K.next : Int) := ⟨by omega, by omega⟩
  unfold KS.open
  split
  · exact h0
  · split
    · exact h0
    · split
      · exact h0
      · split
        · split
          · exact h1
          · exact h0
        · split
          · exact h0
          · split
            · exact h0
            · exact h1
set_option maxRecDepth 100000 in
set_option maxHeartbeats 2000000 in
theorem topen_any (t kb : Nat) (O : Nat → Prop) (S : TS) (s : ByteArray) (f : Int) (w : World) (h : TW w O t kb S) (hs : s.size ≤ maxLen) (hl : S.K.next < 9223372036854775807) :
    Calls Tryz.prog 90 #[.pointer (some ⟨t, 0, none⟩), .string s, .int .i64 f] w fun e w' => e = .returned (.tuple #[.int .i64 (S.open s f).1, .int .i64 (S.open s f).2.1]) ∧ TStep w O t kb (S.open s f).2.2 w' := by
  have HL := hide (lowest_any t kb S.ds w h.tb.ck h.tb.sl)
  have HW := hide h
  have HD := hide (open_i64 hl s f)
  cases hlow : S.low with
  | none =>
    rw [lowV_none hlow] at HL
    have HE : Hid (S.open s f = (0, 31, S)) := hide (by unfold TS.open; rw [hlow])
    clear h hlow
    rw [HE.out]
    go_enter Tryz.func90, Tryz.ntmps90
    go_wp2_with fail
    refine HL.out.mono ?_
    rintro e w1 ⟨rfl, hB⟩
    have HB := hide hB
    clear hB
    go_wp2
    go_ret2
    exact ⟨rfl, TStep.below HW.out HB.out⟩
  | some x =>
    rw [lowV_some hlow] at HL
    have hx : x < 64 := by
      have : x ∈ frees S.ds 64 := List.mem_of_mem_head? hlow
      exact List.mem_range.1 (List.mem_filter.1 this).1
    have h1 : (0 : Int) ≤ (x : Int) := by omega
    have h2 : (x : Int) < 64 := by omega
    have HO : Hid (S.open s f = if (S.K.open s f).2.1 = 0 then ((x : Int), 0, ⟨(S.K.open s f).2.2, tset S.ds x (S.K.open s f).1, tset S.ms x false⟩) else (0, (S.K.open s f).2.1, ⟨(S.K.open s f).2.2, S.ds, S.ms⟩)) := hide (by unfold TS.open; rw [hlow])
    clear h hlow
    obtain ⟨r, hr⟩ : ∃ r, S.K.open s f = r := ⟨_, rfl⟩
    rw [hr] at HO HD
    have HR := hide hr
    clear hr
    by_cases hE : r.2.1 = 0
    · rw [HO.out, if_pos hE]
      have HEq := hide hE
      clear hE
      go_enter Tryz.func90, Tryz.ntmps90
      go_wp2_with fail
      refine HL.out.mono ?_
      rintro e w1 ⟨rfl, hB⟩
      have hW1 := HW.out.below hB
      have HB := hide hB
      have hck1 := hW1.tb.ck
      have HKo := hide (hW1.k.open s f hs hl)
      rw [HR.out, HEq.out] at HKo
      have HW1 := hide hW1
      clear hB hW1
      go_wp2_with fail
      refine HKo.out.mono ?_
      rintro e w2 ⟨rfl, hS⟩
      have hT := HW1.out.kstep hS
      have HF := hide (fun O1 (h1 : TW w2 O1 t kb ⟨r.2.2, S.ds, S.ms⟩) => h1.put hx r.1 false HD.out)
      have HT := hide ((hT.trans HW1.out.tb.lt HF.out).behind HB.out)
      obtain ⟨O1, a1, a2, a3⟩ := hT
      have hc1 := a1.tb.sl x hx
      have hm1 := a1.tb.mks x hx
      have g1 := a1.tb.soft (1 + x * 2)
      have g2 := a1.tb.soft (1 + x * 2 + 1)
      clear hS a1 a2 a3 HF
      go_wp2_with fail
      go_ret2
      exact ⟨rfl, HT.out⟩
    · rw [HO.out, if_neg hE]
      go_enter Tryz.func90, Tryz.ntmps90
      go_wp2_with fail
      refine HL.out.mono ?_
      rintro e w1 ⟨rfl, hB⟩
      have hW1 := HW.out.below hB
      have HB := hide hB
      have hck1 := hW1.tb.ck
      have HKo := hide (hW1.k.open s f hs hl)
      rw [HR.out] at HKo
      have HW1 := hide hW1
      clear hB hW1
      go_wp2_with fail
      refine HKo.out.mono ?_
      rintro e w2 ⟨rfl, hS⟩
      have HT := hide ((HW1.out.kstep hS).behind HB.out)
      clear hS
      go_wp2_with fail
      go_ret2
      exact ⟨rfl, HT.out⟩
set_option maxRecDepth 100000 in
set_option maxHeartbeats 2000000 in
theorem tinstall_any (t kb : Nat) (O : Nat → Prop) (S : TS) (d : Int) (w : World) (h : TW w O t kb S) (hd : I64 d) :
    Calls Tryz.prog 99 #[.pointer (some ⟨t, 0, none⟩), .int .i64 d] w fun e w' => e = .returned (.tuple #[.int .i64 (S.install d).1, .int .i64 (S.install d).2.1]) ∧ TStep w O t kb (S.install d).2.2 w' := by
  have HL := hide (lowest_any t kb S.ds w h.tb.ck h.tb.sl)
  have HW := hide h
  cases hlow : S.low with
  | none =>
    rw [lowV_none hlow] at HL
    have HE : Hid (S.install d = (0, 31, S)) := hide (by unfold TS.install; rw [hlow])
    clear h hlow
    rw [HE.out]
    go_enter Tryz.func99, Tryz.ntmps99
    go_wp2_with fail
    refine HL.out.mono ?_
    rintro e w1 ⟨rfl, hB⟩
    have HB := hide hB
    clear hB
    go_wp2
    go_ret2
    exact ⟨rfl, TStep.below HW.out HB.out⟩
  | some x =>
    rw [lowV_some hlow] at HL
    have hx : x < 64 := by
      have : x ∈ frees S.ds 64 := List.mem_of_mem_head? hlow
      exact List.mem_range.1 (List.mem_filter.1 this).1
    have h1 : (0 : Int) ≤ (x : Int) := by omega
    have h2 : (x : Int) < 64 := by omega
    have HO : Hid (S.install d = if S.K.keepE d = 0 then ((x : Int), 0, ⟨S.K.keepK d, tset S.ds x d, tset S.ms x false⟩) else (0, S.K.keepE d, ⟨S.K.keepK d, S.ds, S.ms⟩)) := hide (by unfold TS.install; rw [hlow])
    clear h hlow
    obtain ⟨E, hr⟩ : ∃ E, S.K.keepE d = E := ⟨_, rfl⟩
    rw [hr] at HO
    have HR := hide hr
    clear hr
    by_cases hE : E = 0
    · rw [HO.out, if_pos hE]
      have HEq := hide hE
      clear hE
      go_enter Tryz.func99, Tryz.ntmps99
      go_wp2_with fail
      refine HL.out.mono ?_
      rintro e w1 ⟨rfl, hB⟩
      have hW1 := HW.out.below hB
      have HB := hide hB
      have hck1 := hW1.tb.ck
      have HKo := hide (hW1.k.keeps d hd)
      rw [HR.out, HEq.out] at HKo
      have HW1 := hide hW1
      clear hB hW1
      go_wp2_with fail
      refine HKo.out.mono ?_
      rintro e w2 ⟨rfl, hS⟩
      have hT := HW1.out.kstep hS
      have HF := hide (fun O1 (h1 : TW w2 O1 t kb ⟨S.K.keepK d, S.ds, S.ms⟩) => h1.put hx d false hd)
      have HT := hide ((hT.trans HW1.out.tb.lt HF.out).behind HB.out)
      obtain ⟨O1, a1, a2, a3⟩ := hT
      have hc1 := a1.tb.sl x hx
      have hm1 := a1.tb.mks x hx
      have g1 := a1.tb.soft (1 + x * 2)
      have g2 := a1.tb.soft (1 + x * 2 + 1)
      clear hS a1 a2 a3 HF
      go_wp2_with fail
      go_ret2
      exact ⟨rfl, HT.out⟩
    · rw [HO.out, if_neg hE]
      go_enter Tryz.func99, Tryz.ntmps99
      go_wp2_with fail
      refine HL.out.mono ?_
      rintro e w1 ⟨rfl, hB⟩
      have hW1 := HW.out.below hB
      have HB := hide hB
      have hck1 := hW1.tb.ck
      have HKo := hide (hW1.k.keeps d hd)
      rw [HR.out] at HKo
      have HW1 := hide hW1
      clear hB hW1
      go_wp2_with fail
      refine HKo.out.mono ?_
      rintro e w2 ⟨rfl, hS⟩
      have HT := hide ((HW1.out.kstep hS).behind HB.out)
      clear hS
      go_wp2_with fail
      go_ret2
      exact ⟨rfl, HT.out⟩
set_option maxRecDepth 100000 in
set_option maxHeartbeats 2000000 in
theorem tdup_any (t kb : Nat) (O : Nat → Prop) (S : TS) (fd : Int) (w : World) (h : TW w O t kb S) :
    Calls Tryz.prog 91 #[.pointer (some ⟨t, 0, none⟩), .int .i64 fd] w fun e w' => e = .returned (.tuple #[.int .i64 (S.dup fd).1, .int .i64 (S.dup fd).2.1]) ∧ TStep w O t kb (S.dup fd).2.2 w' := by
  by_cases hu : S.uses fd = true
  · obtain ⟨i, rfl, hi, hz⟩ := uses_yes hu
    have HU := hide (used_yes t kb S i w h.tb hi hz)
    have HI := hide (tinstall_any t kb O S (S.ds i) w h (h.tb.i64 i))
    have hc := h.tb.sl i hi
    have HE : Hid (S.dup (i : Int) = S.install (S.ds i)) := hide (by unfold TS.dup; rw [if_pos hu]; rfl)
    clear h hu
    rw [HE.out]
    generalize S.ds i = d at *
    generalize S.install d = r at *
    go_enter Tryz.func91, Tryz.ntmps91
    go_wp2_with fail
    refine HU.out.mono ?_
    rintro e w1 ⟨rfl, rfl⟩
    go_wp2_with fail
    refine HI.out.mono ?_
    rintro e w1 ⟨rfl, hT⟩
    have HT := hide hT
    clear hT
    go_wp2
    go_ret2
    exact ⟨rfl, HT.out⟩
  · have hu' : S.uses fd = false := by simpa using hu
    have HU := hide (used_no t kb S fd w h.tb hu')
    have HE : Hid (S.dup fd = (0, 71, S)) := hide (by unfold TS.dup; rw [if_neg hu])
    have HW := hide h
    clear h hu hu'
    rw [HE.out]
    go_enter Tryz.func91, Tryz.ntmps91
    go_wp2_with fail
    refine HU.out.mono ?_
    rintro e w1 ⟨rfl, rfl⟩
    go_wp2_with fail
    go_ret2
    exact ⟨rfl, TStep.below HW.out (Below.refl _ _)⟩
end Go.Proofs.YtejcfhjhjplcnaaGreat

/- A table's calls: DupTo. -/
namespace Go.Proofs.YtejcfhjhjplcnaaGreat
open Go.RowKit Go.Maps

theorem tset_twice {α : Type} (f : Nat → α) (i : Nat) (a b : α) : tset (tset f i a) i b = tset f i b := by
  funext j
  unfold tset
  split <;> rfl
set_option maxRecDepth 100000 in
set_option maxHeartbeats 2000000 in
theorem tdupTo_any (t kb : Nat) (O : Nat → Prop) (S : TS) (fd to : Int) (w : World) (h : TW w O t kb S) :
    Calls Tryz.prog 93 #[.pointer (some ⟨t, 0, none⟩), .int .i64 fd, .int .i64 to] w fun e w' => e = .returned (.int .i64 (S.dupTo fd to).1) ∧ TStep w O t kb (S.dupTo fd to).2 w' := by
  have HW := hide h
  by_cases hu : S.uses fd = true
  · obtain ⟨i, rfl, hi, hz⟩ := uses_yes hu
    have HU := hide (used_yes t kb S i w h.tb hi hz)
    have HM := hide (tmayBe_any to w)
    by_cases hr : 0 ≤ to ∧ to < 64
    · rw [decide_eq_true hr] at HM
      obtain ⟨j, rfl⟩ := Int.eq_ofNat_of_zero_le hr.1
      by_cases hij : j = i
      · subst hij
        have HE : Hid (S.dupTo (j : Int) (j : Int) = (0, S)) := hide (by unfold TS.dupTo; rw [if_pos hu, if_pos hr, if_pos rfl])
        clear h hu hr
        rw [HE.out]
        go_enter Tryz.func93, Tryz.ntmps93
        go_wp2_with fail
        refine HU.out.mono ?_
        rintro e w1 ⟨rfl, rfl⟩
        go_wp2_with fail
        refine HM.out.mono ?_
        rintro e w1 ⟨rfl, rfl⟩
        go_wp2_with fail
        go_ret
        exact ⟨rfl, TStep.below HW.out (Below.refl _ _)⟩
      · have hj : j < 64 := by omega
        have hji : ¬ (j : Int) = (i : Int) := by omega
        have HO : Hid (S.dupTo (i : Int) (j : Int) = if S.K.keepE (S.ds i) = 0 then (0, ⟨((⟨S.K.keepK (S.ds i), S.ds, S.ms⟩ : TS).release j).K, tset S.ds j (S.ds i), tset S.ms j false⟩) else (S.K.keepE (S.ds i), ⟨S.K.keepK (S.ds i), S.ds, S.ms⟩)) := hide (by unfold TS.dupTo; rw [if_pos hu, if_pos hr, if_neg hji]; rfl)
        have hBd : Below w.heap.size w w.drew := (Below.refl _ w).drew
        have hD := h.below hBd
        have HK := hide (hD.k.keeps (S.ds i) (h.tb.i64 i))
        have hc := h.tb.sl i hi
        have hck := h.tb.ck
        have hcd := hD.tb.sl i hi
        have hckd := hD.tb.ck
        have HWd := hide hD
        have HB := hide hBd
        have HI := hide (h.tb.i64 i)
        have hap := h.apart
        have h1 : (0 : Int) ≤ (j : Int) := hr.1
        have h2 : (j : Int) < 64 := hr.2
        clear h hu hr hBd hD
        obtain ⟨d, hd⟩ : ∃ d, S.ds i = d := ⟨_, rfl⟩
        rw [hd] at HO HK hc hcd HI hz
        have HDi := hide hd
        clear hd
        obtain ⟨E, hE⟩ : ∃ E, S.K.keepE d = E := ⟨_, rfl⟩
        rw [hE] at HO HK
        clear hE
        by_cases hE : E = 0
        · rw [HO.out, if_pos hE]
          subst hE
          go_enter Tryz.func93, Tryz.ntmps93
          go_wp2_with fail
          refine HU.out.mono ?_
          rintro e w1 ⟨rfl, rfl⟩
          go_wp2_with fail
          refine HM.out.mono ?_
          rintro e w1 ⟨rfl, rfl⟩
          go_wp2_with fail
          go_region_held3 (fun w' => w'.cell? ⟨t, 0, none⟩ = some (.pointer (some ⟨kb, 0, none⟩)) ∧ w'.cell? ⟨t, 1 + i * 2, none⟩ = some (.int .i64 d))
            (first | exact K5 | go_keep)
            (first
              | (go_at_call 69; refine HK.out.mono ?_; rintro e w5 ⟨rfl, hS⟩; have K5 : w5.cell? ⟨t, 0, none⟩ = some (.pointer (some ⟨kb, 0, none⟩)) ∧ w5.cell? ⟨t, 1 + i * 2, none⟩ = some (.int .i64 d) := by (obtain ⟨_, _, _, h3⟩ := hS; exact ⟨h3.cell hckd hap, h3.cell hcd hap⟩))
              | fail)
          obtain ⟨O1, a1, a2, a3⟩ := HWd.out.kstep hS
          have HR := hide (trelease_any t kb O1 _ j w5 a1 hj)
          have HS5 : Hid (TStep w O t kb ⟨S.K.keepK d, S.ds, S.ms⟩ w5) := hide ((HWd.out.kstep hS).behind HB.out)
          have HA5 : Hid ((∀ k, O1 k → O k ∨ w.heap.size ≤ k) ∧ Turned (fun k => O k ∨ k = t) w w5) := hide ⟨fun k e => (a2 k e), (Turned.of_below HB.out).trans a3 (fun _ _ e => e)⟩
          have HL5 := hide a1.tb.lt
          clear hS a1 a2 a3
          go_wp2_with fail
          refine HR.out.mono ?_
          rintro e w6 ⟨⟨v, rfl⟩, hT⟩
          obtain ⟨O2, b1, b2, b3⟩ := hT
          have b1d := b1.below ((Below.refl _ w6).drew)
          have c6 : w6.drew.cell? ⟨t, 1 + i * 2, none⟩ = some (.int .i64 d) := by
            have := b1d.tb.sl i hi
            rw [this]
            simp only [TS.release]
            rw [tset_other _ _ (fun e => hij e.symm), HDi.out]
          have c7 := b1d.tb.sl j hj
          have c8 := b1d.tb.mks j hj
          have g1 := b1d.tb.soft (1 + j * 2)
          have g2 := b1d.tb.soft (1 + j * 2 + 1)
          have c7' := b1.tb.sl j hj
          have c8' := b1.tb.mks j hj
          have g1' := b1.tb.soft (1 + j * 2)
          have g2' := b1.tb.soft (1 + j * 2 + 1)
          have HB4 : Hid (TStep w O t kb ⟨((⟨S.K.keepK d, S.ds, S.ms⟩ : TS).release j).K, tset S.ds j d, tset S.ms j false⟩ ((w6.drew.setCell ⟨t, 1 + j * 2, none⟩ (.int .i64 d)).setCell ⟨t, 1 + j * 2 + 1, none⟩ (.bool false))) := hide (by
            have b4 := b1d.put hj d false HI.out
            simp only [TS.release, tset_twice] at b4 ⊢
            exact ((b4.behind ((Below.refl _ w6).drew)).join b2 b3).join HA5.out.1 HA5.out.2)
          generalize ((⟨S.K.keepK d, S.ds, S.ms⟩ : TS).release j).ds j = x7 at c7 c7'
          generalize ((⟨S.K.keepK d, S.ds, S.ms⟩ : TS).release j).ms j = x8 at c8 c8'
          clear b1 b2 b3 K5 b1d
          go_wp2_with fail
          go_region
          go_wp2_with fail
          go_ret
          exact ⟨rfl, HB4.out⟩
        · rw [HO.out, if_neg hE]
          go_enter Tryz.func93, Tryz.ntmps93
          go_wp2_with fail
          refine HU.out.mono ?_
          rintro e w1 ⟨rfl, rfl⟩
          go_wp2_with fail
          refine HM.out.mono ?_
          rintro e w1 ⟨rfl, rfl⟩
          go_wp2_with fail
          go_region_held3 (fun w' => w'.cell? ⟨t, 0, none⟩ = some (.pointer (some ⟨kb, 0, none⟩)) ∧ w'.cell? ⟨t, 1 + i * 2, none⟩ = some (.int .i64 d))
            (first | exact K5 | go_keep)
            (first
              | (go_at_call 69; refine HK.out.mono ?_; rintro e w5 ⟨rfl, hS⟩; have K5 : w5.cell? ⟨t, 0, none⟩ = some (.pointer (some ⟨kb, 0, none⟩)) ∧ w5.cell? ⟨t, 1 + i * 2, none⟩ = some (.int .i64 d) := by (obtain ⟨_, _, _, h3⟩ := hS; exact ⟨h3.cell hckd hap, h3.cell hcd hap⟩))
              | fail)
          have HT := hide ((HWd.out.kstep hS).behind HB.out)
          clear hS K5
          go_wp2
          go_ret
          exact ⟨rfl, HT.out⟩
    · rw [decide_eq_false hr] at HM
      have HE : Hid (S.dupTo (i : Int) to = (71, S)) := hide (by unfold TS.dupTo; rw [if_pos hu, if_neg hr])
      clear h hu hr
      rw [HE.out]
      go_enter Tryz.func93, Tryz.ntmps93
      go_wp2_with fail
      refine HU.out.mono ?_
      rintro e w1 ⟨rfl, rfl⟩
      go_wp2_with fail
      refine HM.out.mono ?_
      rintro e w1 ⟨rfl, rfl⟩
      go_wp2_with fail
      go_ret
      exact ⟨rfl, TStep.below HW.out (Below.refl _ _)⟩
  · have hu' : S.uses fd = false := by simpa using hu
    have HU := hide (used_no t kb S fd w h.tb hu')
    have HE : Hid (S.dupTo fd to = (71, S)) := hide (by unfold TS.dupTo; rw [if_neg hu])
    clear h hu hu'
    rw [HE.out]
    go_enter Tryz.func93, Tryz.ntmps93
    go_wp2_with fail
    refine HU.out.mono ?_
    rintro e w1 ⟨rfl, rfl⟩
    go_wp2_with fail
    go_ret
    exact ⟨rfl, TStep.below HW.out (Below.refl _ _)⟩
end Go.Proofs.YtejcfhjhjplcnaaGreat

/- A table's calls: List, CloseAll. -/
namespace Go.Proofs.YtejcfhjhjplcnaaGreat
open Go.RowKit Go.Maps

def slotA (ds : Nat → Int) (ms : Nat → Bool) : Array Value := ((List.range 128).map fun j => if j % 2 = 0 then Value.int .i64 (ds (j / 2)) else Value.bool (ms (j / 2))).toArray
theorem slotA_at (ds : Nat → Int) (ms : Nat → Bool) (k : Nat) (hk : k < 64) : (slotA ds ms).extract (k * 2) (k * 2 + 2) = #[.int .i64 (ds k), .bool (ms k)] := by
  apply Array.ext_getElem?
  intro i
  rw [Array.getElem?_extract]
  unfold slotA
  by_cases h0 : i = 0
  · subst h0
    rw [if_pos (by simp; omega), List.getElem?_toArray, List.getElem?_map, List.getElem?_range (by omega)]
    simp
  · by_cases h1 : i = 1
    · subst h1
      rw [if_pos (by simp; omega), List.getElem?_toArray, List.getElem?_map, List.getElem?_range (by omega)]
      simp only [Option.map_some, List.getElem?_toArray]
      rw [if_neg (by omega), show (k * 2 + 1) / 2 = k by omega]
      rfl
    · rw [if_neg (by simp; omega)]
      simp only [List.getElem?_toArray]
      match i, h0, h1 with
      | i + 2, _, _ => rfl
theorem Tb.all {W : World} {t kb : Nat} {ds : Nat → Int} {ms : Nat → Bool} (h : Tb W t kb ds ms) : (loadVar 174 ⟨t, 1, none⟩).run Tryz.prog W = .ok (.agg (slotA ds ms)) W := by
  have hl := run_loadCells (P := Tryz.prog) W ⟨t, 1, none⟩ 128 (fun j => if j % 2 = 0 then Value.int .i64 (ds (j / 2)) else Value.bool (ms (j / 2))) (fun j hj => by
    have hadd : (⟨t, 1, none⟩ : Addr).add j = ⟨t, 1 + j, none⟩ := by unfold Addr.add; split <;> simp_all
    rw [hadd]
    by_cases e : j % 2 = 0
    · rw [if_pos e]
      have := h.sl (j / 2) (by omega)
      rw [show 1 + j / 2 * 2 = 1 + j by omega] at this
      exact this
    · rw [if_neg e]
      have := h.mks (j / 2) (by omega)
      rw [show 1 + j / 2 * 2 + 1 = 1 + j by omega] at this
      exact this)
  have hu := Tryz.underlying174
  have hi : (Tryz.prog.info? 174).map (fun i => i.size) = some 128 := by kernel_rfl
  cases hq : Tryz.prog.info? 174 with
  | none => rw [hq] at hi; cases hi
  | some i =>
    rw [hq] at hi
    have hs : i.size = 128 := by simpa using hi
    have hagg : (isAgg 174).run Tryz.prog W = .ok true W := by
      unfold isAgg
      rw [Sem.run_bind, run_underlying hu W]
      rfl
    simp only [loadVar, Sem.run_bind, hagg, sizeOf, typeInfo, Result.andThen_ok]
    simp [hq, hs, hl, slotA]
theorem list_load_all {ops : Array Oper} {rest : List Oper} {o : Oper} {a : Act} {w : World} {Q : Exit → Act → World → Prop} (hgd : o.guard = none) (x : Operand) (ho : o.op = .load 174 x)
    (t kb : Nat) (hx : a.eval x = .pointer (some ⟨t, 1, none⟩)) (ds : Nat → Int) (ms : Nat → Bool) (ht : Tb w t kb ds ms)
    (h : wpList Tryz.prog ops Q rest (a.put o.dst (.agg (slotA ds ms))) w) : wpList Tryz.prog ops Q (o :: rest) a w :=
  wpList_plain hgd fun _ hK => by
    unfold Oper.wp execOp
    simp only [ho, hx, Instr.loadAt, Instr.sureAddr, Sem.run_bind, Sem.run_pure, Result.andThen_ok, ht.all]
    exact hK _ _ h
theorem slot_info : (Tryz.prog.info? 173).map (fun i => i.size) = some 2 := by kernel_rfl
theorem index_slot (A : Array Value) (k : Nat) (hk : k < 64) (x y : Value) (hA : A.extract (k * 2) (k * 2 + 2) = #[x, y]) (W : World) : (Instr.index 174 (.agg A) (.int .i64 (k : Int))).run Tryz.prog W = .ok (.agg #[x, y]) W := by
  have hu := Tryz.underlying174
  have hi := slot_info
  cases hq : Tryz.prog.info? 173 with
  | none => rw [hq] at hi; cases hi
  | some i =>
    rw [hq] at hi
    have hs : i.size = 2 := by simpa using hi
    have h1 : (0 : Int) ≤ (k : Int) ∧ (k : Int) < 64 := ⟨by omega, by omega⟩
    unfold Instr.index
    simp [asIntOf, Sem.run_bind, run_underlying hu W, part, sizeOf, typeInfo, hq, hs, hA]
    omega
def useds (ds : Nat → Int) (n : Nat) : List Nat := (List.range n).filter fun i => decide (ds i ≠ 0)
theorem useds_succ (ds : Nat → Int) (n : Nat) : useds ds (n + 1) = useds ds n ++ (if ds n = 0 then [] else [n]) := by
  unfold useds
  rw [List.range_succ, List.filter_append]
  by_cases h : ds n = 0 <;> simp [h]
theorem useds_len (ds : Nat → Int) (n : Nat) : (useds ds n).length ≤ n := by
  unfold useds
  exact Nat.le_trans (List.length_filter_le _ _) (by rw [List.length_range]; exact Nat.le_refl _)
def ivs (l : List Nat) : List Value := l.map fun i : Nat => Value.int .i64 (i : Int)
theorem Tryz.infoI : (Tryz.prog.info? 3).map (fun i => (i.zero, i.size, i.bytes)) = some (some (.int .i64 0), 1, 8) := by kernel_rfl
theorem run_append_int (w : World) (ty : TypeId) (base : Nat) (s : Value) (n : Nat) (xs : List Value) (g c : Nat) (u : Value) (hs : w.ownsRow base 3 1 s n xs) (hx : w.cell? ⟨g, 0, none⟩ = some u) (hu : u.oneCell' = true) (hn : n < 1000000) (hb : base ≤ w.heap.size) :
    ∃ s' w', (Builtin.append_ #[57, 57] ty #[s, .slice (some ⟨g, 0, none⟩) 1 c]).run Tryz.prog w = .ok s' w' ∧ Hid (w'.ownsRow base 3 1 s' (n + 1) (xs ++ [u])) ∧ w.grownBy w' s.ownBlock := by
  refine (?_ : ∃ s' w', (Builtin.append_ #[57, 57] ty #[s, .slice (some ⟨g, 0, none⟩) 1 c]).run Tryz.prog w = .ok s' w' ∧ w'.ownsRow base 3 1 s' (n + 1) (xs ++ [u]) ∧ w.grownBy w' s.ownBlock)
  obtain ⟨i0, hi, hz0, hz1, hz2⟩ := info_parts Tryz.infoI
  obtain ⟨v', w', h1, h2, h3, _, h5⟩ := run_append_own_at (P := Tryz.prog) w base 57 ty 3 i0 (.int .i64 0) 1 8 Tryz.underlying57 hi hz0 hz1 hz2 rfl (by decide) s _ _ hs ⟨g, 0, none⟩ 1 c [u] rfl (fun j v hj => by
    match j, hj with
    | 0, hj => 
      obtain rfl : u = v := by simpa using hj
      have hadd : (⟨g, 0, none⟩ : Addr).add 0 = ⟨g, 0, none⟩ := by unfold Addr.add; split <;> simp_all
      rw [hadd]; exact hx) (by simpa using hu) (by unfold maxLen; omega) (by omega) hb
  exact ⟨v', w', h1, h2, h3⟩
set_option maxRecDepth 100000 in
set_option maxHeartbeats 2000000 in
theorem tlist_any (t kb : Nat) (S : TS) (w : World) (h : Tb w t kb S.ds S.ms) :
    Calls Tryz.prog 24 #[.pointer (some ⟨t, 0, none⟩)] w fun e w' => ∃ v, e = .returned v ∧ w'.ownsRow w.heap.size 3 1 v (useds S.ds 64).length (ivs (useds S.ds 64)) ∧ Below w.heap.size w w' := by
  have HM := hide (tmade_any t kb w h.ck)
  have HT := hide h
  have hck := h.ck
  have HAt := hide (slotA_at S.ds S.ms)
  go_enter Tryz.func24, Tryz.ntmps24
  go_wp2_with fail
  refine HM.out.mono ?_
  rintro e w1 ⟨rfl, rfl⟩
  go_wp2_with (first | (refine list_load_all rfl _ rfl t kb rfl _ _ h ?_) | fail)
  clear h
  generalize slotA S.ds S.ms = A at *
  go_loopw [3, 13] (fun v i wr => ∃ k : Nat, k ≤ 64 ∧ i = .int .i64 k ∧ Hid (wr.ownsRow w.heap.size 3 1 v (useds S.ds k).length (ivs (useds S.ds k))) ∧ Below w.heap.size w wr) (fun _ i _ => 64 - (intOf i).toNat)
  case atStart => exact ⟨0, Nat.zero_le _, rfl, hide (show w.ownsRow w.heap.size 3 1 (.slice none 0 0) 0 [] from World.ownsRow_nil _ _ _ _), Below.refl _ _⟩
  case round =>
    obtain ⟨k, hk, rfl, HO, hB⟩ := hrel
    by_cases hlt : k < 64
    · have hA := HAt.out k hlt
      have hk1 : (0 : Int) ≤ (k : Int) := by omega
      have hk2 : (k : Int) < 64 := by omega
      have HS := hide (useds_succ S.ds k)
      generalize S.ds k = d at *
      generalize S.ms k = m at *
      have hix := index_slot A k hlt _ _ hA wr
      have hBs := recv_below wr (Obj.cells #[.int .i64 d, .bool m] 173)
      have hB1 := hB.trans (hBs.mono hB.size)
      by_cases hd : d = 0
      · subst hd
        rw [if_pos rfl, List.append_nil] at HS
        have HO1 : Hid ((wr.alloc (Obj.cells #[.int .i64 0, .bool m] 173)).ownsRow w.heap.size 3 1 u3 (useds S.ds (k + 1)).length (ivs (useds S.ds (k + 1)))) := hide (by rw [HS.out]; exact HO.out.alloc _)
        clear hBs
        go_wp2_with fail
        go_roundw
        case rel => exact ⟨k + 1, by omega, by go_num, HO1, hB1⟩
        case measure => simp [intOf]; omega
      · rw [if_neg hd] at HS
        have hd' : (d != 0) = true := by simpa using hd
        obtain ⟨va, vc, rfl⟩ := owns_slice HO.out
        have hBt := recv_below (wr.alloc (Obj.cells #[.int .i64 d, .bool m] 173)) (Obj.cells #[.int .i64 (k : Int)] 3)
        have hs1 : (wr.alloc (Obj.cells #[.int .i64 d, .bool m] 173)).heap.size = wr.heap.size + 1 := by simp
        have hs2 : ((wr.alloc (Obj.cells #[.int .i64 d, .bool m] 173)).alloc (Obj.cells #[.int .i64 (k : Int)] 3)).heap.size = wr.heap.size + 1 + 1 := by simp
        have hcell := recv_cell (wr.alloc (Obj.cells #[.int .i64 d, .bool m] 173)) (.int .i64 (k : Int)) 3
        rw [hs1] at hcell
        have hB2 := hB1.trans (hBt.mono hB1.size)
        obtain ⟨s', w7, hrun, HO7, hg7⟩ := run_append_int ((wr.alloc (Obj.cells #[.int .i64 d, .bool m] 173)).alloc (Obj.cells #[.int .i64 (k : Int)] 3)) 57 w.heap.size _ _ _ (wr.heap.size + 1) 1 (.int .i64 (k : Int)) ((HO.out.alloc _).alloc _) hcell rfl (by have := useds_len S.ds k; omega) hB2.size
        have HRun := hide hrun
        have HO8 : Hid (w7.ownsRow w.heap.size 3 1 s' (useds S.ds (k + 1)).length (ivs (useds S.ds (k + 1)))) := hide (by rw [HS.out]; simpa [ivs] using HO7.out)
        have hB8 : Below w.heap.size w w7 := hB2.grown hg7 hB2.size (fun j e => (HO.out.lt j e).1)
        clear hrun hBs hBt hB1 hB2 hg7 HO7
        go_wp2_with (first | (at_builtin; refine Lib.wpList_append_run _ rfl _ _ _ _ rfl _ _ rfl rfl _ _ HRun.out ?_) | fail)
        go_roundw
        case rel => exact ⟨k + 1, by omega, by go_num, HO8, hB8⟩
        case measure => simp [intOf]; omega
    · obtain rfl : k = 64 := by omega
      go_wp2
      go_ret
      exact ⟨_, rfl, HO.out, hB⟩
def TS.closeAll (S : TS) : TS := (useds S.ds 64).foldl TS.release S
theorem TW.trim {w : World} {O : Nat → Prop} {t kb : Nat} {S : TS} (h : TW w O t kb S) : TW w (fun k => O k ∧ k < w.heap.size) t kb S := ⟨h.k.trim, h.tb, fun e => h.apart e.1⟩
theorem TStep.mono {w w' : World} {O O' : Nat → Prop} {t kb : Nat} {S : TS} (h : TStep w O t kb S w') (hO : ∀ k, O k → O' k) : TStep w O' t kb S w' := by
  obtain ⟨O1, a1, a2, a3⟩ := h
  exact ⟨O1, a1, fun k e => (a2 k e).imp (hO k) id, a3.mono fun k e => e.imp (hO k) id⟩
theorem ints_cell {W : World} {B : Nat} {va : Option Addr} {vc N k : Nat} {xs : List Value} {u : Value} (h : W.ownsRow B 3 1 (.slice va N vc) N xs) (hk : k < N) (hs : xs[k]? = some u) : ∃ vb, va = some ⟨vb, 0, none⟩ ∧ W.cell? ⟨vb, k, none⟩ = some u := by
  have hx := h
  rcases h.2 with ⟨e, _⟩ | ⟨g, cap, cur, e, _⟩
  · simp only [Value.slice.injEq] at e; omega
  · simp only [Value.slice.injEq] at e
    obtain ⟨rfl, _, rfl⟩ := e
    refine ⟨g, rfl, ?_⟩
    rw [hx.cellAt k (by omega), hs]
theorem ivs_at (l : List Nat) (k : Nat) (h : k < l.length) : (ivs l)[k]? = some (.int .i64 ((l[k] : Nat) : Int)) := by simp [ivs, h]
set_option maxRecDepth 100000 in
set_option maxHeartbeats 2000000 in
theorem tcloseAll_any (t kb : Nat) (O : Nat → Prop) (S : TS) (w : World) (h : TW w O t kb S) :
    Calls Tryz.prog 111 #[.pointer (some ⟨t, 0, none⟩)] w fun e w' => (∃ v, e = .returned v) ∧ TStep w O t kb S.closeAll w' := by
  have HL := hide (tlist_any t kb S w h.tb)
  have HW := hide h.trim
  have hlen := useds_len S.ds 64
  have HIn : Hid (∀ x ∈ useds S.ds 64, x < 64) := hide (fun x hx => List.mem_range.1 (List.mem_filter.1 hx).1)
  clear h
  unfold TS.closeAll
  generalize useds S.ds 64 = L at *
  go_enter Tryz.func111, Tryz.ntmps111
  go_wp2_with fail
  refine HL.out.mono ?_
  rintro e w1 ⟨v, rfl, hO, hB⟩
  obtain ⟨va, vc, rfl⟩ := owns_slice hO
  have HO := hide hO
  have HB := hide hB
  have HW1 := hide (HW.out.below hB)
  clear hO hB
  go_wp2_with fail
  go_loopw [7] (fun i wr => ∃ k : Nat, k ≤ L.length ∧ i = .int .i64 k ∧ Hid (TStep w1 (fun k => O k ∧ k < w.heap.size) t kb ((L.take k).foldl TS.release S) wr)) (fun i _ => L.length - (intOf i).toNat)
  case atStart => exact ⟨0, Nat.zero_le _, rfl, hide (TStep.below HW1.out (Below.refl _ _))⟩
  case round =>
    obtain ⟨k, hk, rfl, HT⟩ := hrel
    by_cases hlt : k < L.length
    · obtain ⟨O1, a1, a2, a3⟩ := HT.out
      have hrow := owns_turned HO.out a3 (fun j hj hj2 => by
        have h1 := (HO.out.lt j hj).1
        rcases hj2 with hj2 | hj2
        · omega
        · have := HW.out.tb.lt; omega)
      have hx : L[k] < 64 := HIn.out _ (List.getElem_mem hlt)
      obtain ⟨b, rfl, hcell⟩ := ints_cell hrow hlt (ivs_at L k hlt)
      have HR := hide (trelease_any t kb O1 _ L[k] wr a1 hx)
      have HA : Hid ((∀ j, O1 j → (O j ∧ j < w.heap.size) ∨ w1.heap.size ≤ j) ∧ Turned (fun j => (O j ∧ j < w.heap.size) ∨ j = t) w1 wr) := hide ⟨a2, a3⟩
      have HE : Hid ((L.take (k + 1)).foldl TS.release S = ((L.take k).foldl TS.release S).release L[k]) := hide (by rw [List.take_succ_eq_append_getElem hlt, List.foldl_append]; rfl)
      have hk1 : (0 : Int) ≤ (k : Int) := by omega
      have hk2 : (k : Int) < (L.length : Int) := by omega
      generalize L[k] = x at *
      clear a1 a2 a3 hrow hx
      go_wp2_with fail
      refine HR.out.mono ?_
      rintro e w2 ⟨⟨v, rfl⟩, hT⟩
      have HT2 := hide (hT.join HA.out.1 HA.out.2)
      rw [← HE.out] at HT2
      clear hT
      go_wp2_with fail
      go_roundw
      case rel => exact ⟨k + 1, by omega, by go_num, HT2⟩
      case measure => simp [intOf]; omega
    · obtain rfl : k = L.length := by omega
      go_wp2
      go_end0
      rw [List.take_length] at HT
      exact ⟨⟨_, rfl⟩, (HT.out.behind HB.out).mono fun _ e => e.1⟩
end Go.Proofs.YtejcfhjhjplcnaaGreat

/- A table's calls: Fork. -/
namespace Go.Proofs.YtejcfhjhjplcnaaGreat
open Go.RowKit Go.Maps

def TS.fork (S : TS) : Nat → KS × (Nat → Int)
  | 0 => (S.K, fun _ => 0)
  | n + 1 => if S.ds n = 0 ∨ S.ms n = true then S.fork n else
    ((S.fork n).1.keepK (S.ds n), if (S.fork n).1.keepE (S.ds n) = 0 then tset (S.fork n).2 n (S.ds n) else (S.fork n).2)
theorem fork_skip {S : TS} {n : Nat} (h : S.ds n = 0 ∨ S.ms n = true) : S.fork (n + 1) = S.fork n := by
  show (if S.ds n = 0 ∨ S.ms n = true then S.fork n else _) = _
  rw [if_pos h]
theorem fork_take {S : TS} {n : Nat} (h1 : S.ds n ≠ 0) (h2 : S.ms n = false) : S.fork (n + 1) = ((S.fork n).1.keepK (S.ds n), if (S.fork n).1.keepE (S.ds n) = 0 then tset (S.fork n).2 n (S.ds n) else (S.fork n).2) := by
  show (if S.ds n = 0 ∨ S.ms n = true then S.fork n else _) = _
  rw [if_neg (by rw [h2]; simp [h1])]
def TFork (w : World) (O : Nat → Prop) (t c kb : Nat) (S : TS) (n : Nat) (w' : World) : Prop := ∃ O', TW w' O' t kb ⟨(S.fork n).1, S.ds, S.ms⟩ ∧ Tb w' c kb (S.fork n).2 (fun _ => false) ∧ ¬ O' c ∧ (∀ k, O' k → O k ∨ c < k) ∧ Turned O w w'
def Kept (w : World) (Ot : Nat → Prop) (t c kb : Nat) (S : TS) (k : Nat) (B : Nat) (W2 w5 : World) : Prop := ∃ O5, TW w5 O5 t kb ⟨(S.fork k).1.keepK (S.ds k), S.ds, S.ms⟩ ∧ Tb w5 c kb (S.fork k).2 (fun _ => false) ∧ ¬ O5 c ∧ (∀ j, O5 j → Ot j ∨ c < j) ∧ Turned Ot w w5 ∧ ∀ j, B ≤ j → j < W2.heap.size → w5.heap[j]? = W2.heap[j]?
theorem fork_keep {w : World} {Ot : Nat → Prop} {t c kb : Nat} {S : TS} {k : Nat} {wr W2 : World} (hF : TFork w Ot t c kb S k wr) (hc : w.heap.size ≤ c) (hI : I64 (S.ds k)) (hB : Below wr.heap.size wr W2) :
    Calls Tryz.prog 69 #[.pointer (some ⟨kb, 0, none⟩), .int .i64 (S.ds k)] W2 fun e w5 => e = .returned (.int .i64 ((S.fork k).1.keepE (S.ds k))) ∧ Kept w Ot t c kb S k wr.heap.size W2 w5 := by
  obtain ⟨O', a1, a2, a3, a4, a5⟩ := hF
  have b1 := a1.trim.below hB
  refine (b1.k.keeps (S.ds k) hI).mono fun e w5 ⟨h1, h2⟩ => ⟨h1, ?_⟩
  obtain ⟨O5, c1, c2, c3⟩ := b1.kstep h2
  obtain ⟨_, _, _, hT⟩ := h2
  have hcl := a2.lt
  refine ⟨O5, c1, (a2.below hB).turned hT (fun e => a3 e.1), fun e => ?_, fun j e => ?_, ?_, fun j h3 h4 => hT.block j h4 (fun e => by have := e.2; omega)⟩
  · rcases c2 c e with e | e
    · exact a3 e.1
    · have := hB.size; omega
  · rcases c2 j e with e | e
    · exact a4 j e.1
    · have := hB.size; exact .inr (by omega)
  · refine (a5.trans (Turned.of_below (S := Ot) hB) (fun _ _ e => e)).trans hT (fun j hj e => ?_)
    rcases a4 j e.1 with e | e
    · exact e
    · omega
theorem Kept.no {w : World} {Ot : Nat → Prop} {t c kb : Nat} {S : TS} {k B : Nat} {W2 w5 : World} (h : Kept w Ot t c kb S k B W2 w5) (h1 : S.ds k ≠ 0) (h2 : S.ms k = false) (hE : (S.fork k).1.keepE (S.ds k) ≠ 0) : TFork w Ot t c kb S (k + 1) w5 := by
  obtain ⟨O5, c1, c2, c3, c4, c5, _⟩ := h
  unfold TFork
  rw [fork_take h1 h2, if_neg hE]
  exact ⟨O5, c1, c2, c3, c4, c5⟩
theorem Kept.yes {w : World} {Ot : Nat → Prop} {t c kb : Nat} {S : TS} {k B : Nat} {W2 w5 w6 : World} (h : Kept w Ot t c kb S k B W2 w5) (hw : w.heap.size ≤ c) (hI : I64 (S.ds k)) (hk : k < 64) (h1 : S.ds k ≠ 0) (h2 : S.ms k = false) (hE : (S.fork k).1.keepE (S.ds k) = 0) (htc : t ≠ c) (hB : Below w5.heap.size w5 w6) : TFork w Ot t c kb S (k + 1) ((w6.setCell ⟨c, 1 + k * 2, none⟩ (.int .i64 (S.ds k))).setCell ⟨c, 1 + k * 2 + 1, none⟩ (.bool false)) := by
  obtain ⟨O5, c1, c2, c3, c4, c5, _⟩ := h
  have hT : Turned (fun j => j = c) w6 ((w6.setCell ⟨c, 1 + k * 2, none⟩ (.int .i64 (S.ds k))).setCell ⟨c, 1 + k * 2 + 1, none⟩ (.bool false)) := ((Turned.refl (fun j => j = c) w6).set (.inl rfl)).set (.inl rfl)
  unfold TFork
  rw [fork_take h1 h2, if_pos hE]
  have d1 := c1.below hB
  refine ⟨O5, ⟨d1.k.keep (fun j hj hl => hT.block j hl (fun e => c3 (e ▸ hj))) hT.size, d1.tb.turned hT htc, d1.apart⟩, ?_, c3, c4, (c5.trans (Turned.of_below (S := Ot) hB) (fun _ _ e => e)).trans hT (fun j hj e => by subst e; omega)⟩
  have e1 := ((c2.below hB).desc hk (S.ds k) hI).mark hk false
  have e2 : tset (fun _ : Nat => false) k false = fun _ => false := by funext j; unfold tset; split <;> rfl
  rw [e2] at e1
  exact e1
set_option maxRecDepth 100000 in
set_option maxHeartbeats 4000000 in
theorem tfork_any (t kb : Nat) (O : Nat → Prop) (S : TS) (w : World) (h : TW w O t kb S) :
    Calls Tryz.prog 20 #[.pointer (some ⟨t, 0, none⟩)] w fun e w' => e = .returned (.pointer (some ⟨w.heap.size, 0, none⟩)) ∧ TFork w (fun k => O k ∧ k < w.heap.size) t w.heap.size kb S 64 w' := by
  have HM := hide (tmade_any t kb w h.tb.ck)
  have HN := hide (tnew_any kb w)
  have HW := hide h.trim
  have hck := h.tb.ck
  have HAt := hide (slotA_at S.ds S.ms)
  have htl := h.tb.lt
  clear h
  go_enter Tryz.func20, Tryz.ntmps20
  go_wp2_with fail
  refine HM.out.mono ?_
  rintro e w1 ⟨rfl, rfl⟩
  go_wp2_with fail
  refine HN.out.mono ?_
  rintro e w1 ⟨rfl, hC, hB, hs1⟩
  have hW1 := HW.out.below hB
  have hT1 := hW1.tb
  have HF0 : Hid (TFork w (fun k => O k ∧ k < w.heap.size) t w.heap.size kb S 0 w1) := hide ⟨_, hW1, hC, fun e => by omega, fun k e => .inl e, Turned.of_below hB⟩
  go_wp2_with (first | (refine list_load_all rfl _ rfl t kb rfl _ _ hT1 ?_) | fail)
  clear hC hB hW1 hT1
  generalize slotA S.ds S.ms = A at *
  go_loopw [18] (fun i wr => ∃ k : Nat, k ≤ 64 ∧ i = .int .i64 k ∧ Hid (TFork w (fun k => O k ∧ k < w.heap.size) t w.heap.size kb S k wr)) (fun i _ => 64 - (intOf i).toNat)
  case atStart => exact ⟨0, Nat.zero_le _, rfl, HF0⟩
  case round =>
    obtain ⟨k, hk, rfl, HF⟩ := hrel
    clear HF0
    by_cases hlt : k < 64
    · have hA := HAt.out k hlt
      have hk1 : (0 : Int) ≤ (k : Int) := by omega
      have hk2 : (k : Int) < 64 := by omega
      have hix := index_slot A k hlt _ _ hA wr
      have hBs := recv_below wr (Obj.cells #[.int .i64 (S.ds k), .bool (S.ms k)] 173)
      by_cases hd : S.ds k = 0 ∨ S.ms k = true
      · have HE := hide (fork_skip hd)
        have HF1 : Hid (TFork w (fun k => O k ∧ k < w.heap.size) t w.heap.size kb S (k + 1) (wr.alloc (Obj.cells #[.int .i64 (S.ds k), .bool (S.ms k)] 173))) := hide (by
          obtain ⟨O', a1, a2, a3, a4, a5⟩ := HF.out
          unfold TFork
          rw [HE.out]
          exact ⟨O', a1.below hBs, a2.below hBs, a3, a4, a5.trans (Turned.of_below (S := fun k => O k ∧ k < w.heap.size) hBs) (fun _ _ e => e)⟩)
        generalize S.ds k = d at *
        generalize S.ms k = m at *
        clear hBs
        by_cases hd0 : d = 0
        · subst hd0
          go_wp2_with fail
          go_roundw
          case rel => exact ⟨k + 1, by omega, by go_num, HF1⟩
          case measure => simp [intOf]; omega
        · obtain rfl : m = true := hd.resolve_left hd0
          have hd0' : (d == 0) = false := by simpa using hd0
          go_wp2_with fail
          go_roundw
          case rel => exact ⟨k + 1, by omega, by go_num, HF1⟩
          case measure => simp [intOf]; omega
      · have hd0 : S.ds k ≠ 0 := fun e => hd (.inl e)
        have hm0 : S.ms k = false := by cases hm : S.ms k with
          | false => rfl
          | true => exact absurd (.inr hm) hd
        have HI := hide (HW.out.tb.i64 k)
        rw [hm0] at hA hix hBs
        have hBd : Below wr.heap.size wr (wr.alloc (Obj.cells #[.int .i64 (S.ds k), .bool false] 173)).drew := hBs.trans ((Below.refl _ _).drew.mono hBs.size)
        have HKp := hide (fork_keep HF.out (Nat.le_refl _) HI.out hBd)
        obtain ⟨p0, p1⟩ := pair_cells wr (.int .i64 (S.ds k)) (.bool false) 173
        obtain ⟨O', a1, a2, -⟩ := HF.out
        have t0 := (a1.below hBs).tb.ck
        have t1 := (a1.below hBd).tb.ck
        have HAft : Hid (∀ w5, Kept w (fun k => O k ∧ k < w.heap.size) t w.heap.size kb S k wr.heap.size (wr.alloc (Obj.cells #[.int .i64 (S.ds k), .bool false] 173)).drew w5 → w5.cell? ⟨wr.heap.size, 0, none⟩ = some (.int .i64 (S.ds k)) ∧ w5.cell? ⟨t, 0, none⟩ = some (.pointer (some ⟨kb, 0, none⟩)) ∧ ∃ x y, w5.cell? ⟨w.heap.size, 1 + k * 2, none⟩ = some x ∧ w5.cell? ⟨w.heap.size, 1 + k * 2 + 1, none⟩ = some y ∧ w5.frozen? ⟨w.heap.size, 1 + k * 2, none⟩ = false ∧ w5.frozen? ⟨w.heap.size, 1 + k * 2 + 1, none⟩ = false) := hide (by
          rintro w5 ⟨O5, c1, c2, -, -, -, c6⟩
          refine ⟨?_, c1.tb.ck, _, _, c2.sl k hlt, c2.mks k hlt, c2.soft _, c2.soft _⟩
          have := c6 wr.heap.size (Nat.le_refl _) (by show wr.heap.size < (wr.alloc (Obj.cells #[.int .i64 (S.ds k), .bool false] 173)).heap.size; simp)
          rw [tcell_same this]
          exact p0)
        have HYes : Hid (∀ w5, (S.fork k).1.keepE (S.ds k) = 0 → Kept w (fun k => O k ∧ k < w.heap.size) t w.heap.size kb S k wr.heap.size (wr.alloc (Obj.cells #[.int .i64 (S.ds k), .bool false] 173)).drew w5 → TFork w (fun k => O k ∧ k < w.heap.size) t w.heap.size kb S (k + 1) ((w5.drew.setCell ⟨w.heap.size, 1 + k * 2, none⟩ (.int .i64 (S.ds k))).setCell ⟨w.heap.size, 1 + k * 2 + 1, none⟩ (.bool false))) := hide (fun w5 hE h => h.yes (Nat.le_refl _) HI.out hlt hd0 hm0 hE (by omega) ((Below.refl _ w5).drew))
        have HNo : Hid (∀ w5, (S.fork k).1.keepE (S.ds k) ≠ 0 → Kept w (fun k => O k ∧ k < w.heap.size) t w.heap.size kb S k wr.heap.size (wr.alloc (Obj.cells #[.int .i64 (S.ds k), .bool false] 173)).drew w5 → TFork w (fun k => O k ∧ k < w.heap.size) t w.heap.size kb S (k + 1) w5) := hide (fun w5 hE h => h.no hd0 hm0 hE)
        have hd0' : (S.ds k == 0) = false := by simpa using hd0
        generalize (S.fork k).1.keepE (S.ds k) = E at *
        generalize Kept w (fun k => O k ∧ k < w.heap.size) t w.heap.size kb S k wr.heap.size (wr.alloc (Obj.cells #[.int .i64 (S.ds k), .bool false] 173)).drew = KP at *
        generalize S.ds k = d at *
        clear a1 a2 hd hBs hBd hm0
        by_cases hE : E = 0
        · subst hE
          have HY2 := hide (fun w5 h => HYes.out w5 rfl h)
          clear HYes HNo
          go_wp2_with fail
          go_region_held3 (fun w' => w'.cell? ⟨t, 0, none⟩ = some (.pointer (some ⟨kb, 0, none⟩)) ∧ w'.cell? ⟨wr.heap.size, 0, none⟩ = some (.int .i64 d))
            (first | exact K5 | go_keep)
            (first
              | (go_at_call 69; refine HKp.out.mono ?_; rintro e w5 ⟨rfl, hS⟩; obtain ⟨k1, k2, x, y, k3, k4, k5, k6⟩ := HAft.out _ hS; have K5 : w5.cell? ⟨t, 0, none⟩ = some (.pointer (some ⟨kb, 0, none⟩)) ∧ w5.cell? ⟨wr.heap.size, 0, none⟩ = some (.int .i64 d) := ⟨k2, k1⟩)
              | fail)
          have HF5 := hide (HY2.out w5 hS)
          have k1d : w5.drew.cell? ⟨wr.heap.size, 0, none⟩ = some (.int .i64 d) := k1
          have k3d : w5.drew.cell? ⟨w.heap.size, 1 + k * 2, none⟩ = some x := k3
          have k4d : w5.drew.cell? ⟨w.heap.size, 1 + k * 2 + 1, none⟩ = some y := k4
          have k5d : w5.drew.frozen? ⟨w.heap.size, 1 + k * 2, none⟩ = false := k5
          have k6d : w5.drew.frozen? ⟨w.heap.size, 1 + k * 2 + 1, none⟩ = false := k6
          clear hS
          go_wp2_with fail
          go_region
          go_wp2_with fail
          go_roundw
          case rel => exact ⟨k + 1, by omega, by go_num, HF5⟩
          case measure => simp [intOf]; omega
        · have hE' : (E == 0) = false := by simpa using hE
          have HN2 := hide (fun w5 h => HNo.out w5 hE h)
          clear HYes HNo
          go_wp2_with fail
          go_region_held3 (fun w' => w'.cell? ⟨t, 0, none⟩ = some (.pointer (some ⟨kb, 0, none⟩)) ∧ w'.cell? ⟨wr.heap.size, 0, none⟩ = some (.int .i64 d))
            (first | exact K5 | go_keep)
            (first
              | (go_at_call 69; refine HKp.out.mono ?_; rintro e w5 ⟨rfl, hS⟩; obtain ⟨k1, k2, x, y, k3, k4, k5, k6⟩ := HAft.out _ hS; have K5 : w5.cell? ⟨t, 0, none⟩ = some (.pointer (some ⟨kb, 0, none⟩)) ∧ w5.cell? ⟨wr.heap.size, 0, none⟩ = some (.int .i64 d) := ⟨k2, k1⟩)
              | fail)
          have HF5 := hide (HN2.out w5 hS)
          clear hS
          go_wp2_with fail
          go_roundw
          case rel => exact ⟨k + 1, by omega, by go_num, HF5⟩
          case measure => simp [intOf]; omega
    · obtain rfl : k = 64 := by omega
      go_wp2
      go_ret
      exact ⟨rfl, HF.out⟩
end Go.Proofs.YtejcfhjhjplcnaaGreat

/- Tables over one kernel, all above a base: what each call answers and leaves. -/
namespace Go.Proofs.YtejcfhjhjplcnaaGreat
open Go.RowKit Go.Maps

structure Tab where
  t : Nat
  ds : Nat → Int
  ms : Nat → Bool
def TM (B : Nat) (P : Nat → Prop) (w : World) (kb : Nat) (K : KS) (L : List Tab) : Prop := ∃ O, KAt w O kb K ∧ (∀ k, O k → B ≤ k ∧ k < w.heap.size ∧ ¬ P k) ∧ (∀ x ∈ L, Tb w x.t kb x.ds x.ms ∧ ¬ O x.t ∧ B ≤ x.t ∧ ¬ P x.t) ∧ (L.map Tab.t).Nodup ∧ ∀ k, P k → k < w.heap.size
def Held (P : Nat → Prop) (w w' : World) : Prop := ∀ k, P k → w'.heap[k]? = w.heap[k]?
theorem TM.base {B : Nat} {P : Nat → Prop} {w : World} {kb : Nat} {K : KS} {L : List Tab} (h : TM B P w kb K L) : B ≤ w.heap.size := by
  obtain ⟨O, h1, h2, _⟩ := h
  have := h1.lt
  exact Nat.le_trans (h2 kb this.1).1 (Nat.le_of_lt this.2)
theorem TM.claim {B : Nat} {P : Nat → Prop} {w w' : World} {kb : Nat} {K : KS} {L : List Tab} (h : TM B P w kb K L) (hB : Below w.heap.size w w') (Q : Nat → Prop) (hQ : ∀ k, Q k → P k ∨ (w.heap.size ≤ k ∧ k < w'.heap.size)) : TM B Q w' kb K L := by
  obtain ⟨O, h1, h2, h3, h4, h5⟩ := h
  have hs := hB.size
  refine ⟨O, h1.below hB, fun k e => ⟨(h2 k e).1, Nat.lt_of_lt_of_le (h2 k e).2.1 hs, fun q => ?_⟩, fun x hx => ⟨(h3 x hx).1.below hB, (h3 x hx).2.1, (h3 x hx).2.2.1, fun q => ?_⟩, h4, fun k q => ?_⟩
  · rcases hQ k q with q | q
    · exact (h2 k e).2.2 q
    · have := (h2 k e).2.1; omega
  · rcases hQ _ q with q | q
    · exact (h3 x hx).2.2.2 q
    · have := (h3 x hx).1.lt; omega
  · rcases hQ k q with q | q
    · exact Nat.lt_of_lt_of_le (h5 k q) hs
    · exact q.2
theorem TM.below {B : Nat} {P : Nat → Prop} {w w' : World} {kb : Nat} {K : KS} {L : List Tab} (h : TM B P w kb K L) (hB : Below w.heap.size w w') : TM B P w' kb K L := h.claim hB P fun _ q => .inl q
theorem TM.held {B : Nat} {P : Nat → Prop} {w w' : World} {kb : Nat} {K : KS} {L : List Tab} (h : TM B P w kb K L) (hB : Below w.heap.size w w') : Held P w w' := by
  obtain ⟨O, h1, h2, h3, h4, h5⟩ := h
  exact fun k q => hB.block k (h5 k q)
theorem TM.turned {B : Nat} {P : Nat → Prop} {w w' : World} {kb : Nat} {K : KS} {L : List Tab} {S : Nat → Prop} (h : TM B P w kb K L) (hT : Turned S w w') (hS : ∀ k, S k → P k ∨ w.heap.size ≤ k) : TM B P w' kb K L := by
  obtain ⟨O, h1, h2, h3, h4, h5⟩ := h
  refine ⟨O, h1.keep (fun k e hk => hT.block k hk (fun e' => ?_)) hT.size, fun k e => ⟨(h2 k e).1, Nat.lt_of_lt_of_le (h2 k e).2.1 hT.size, (h2 k e).2.2⟩, fun x hx => ⟨(h3 x hx).1.turned hT (fun e' => ?_), (h3 x hx).2⟩, h4, fun k q => Nat.lt_of_lt_of_le (h5 k q) hT.size⟩
  · rcases hS k e' with q | q
    · exact (h2 k e).2.2 q
    · omega
  · rcases hS _ e' with q | q
    · exact (h3 x hx).2.2.2 q
    · have := (h3 x hx).1.lt; omega
theorem TM.take {B : Nat} {P : Nat → Prop} {w w' : World} {kb : Nat} {K : KS} {L : List Tab} {S : Nat → Prop} (h : TM B P w kb K L) (hT : Turned S w w') (hS : ∀ k, S k → P k ∨ w.heap.size ≤ k) (Q : Nat → Prop) (hQ : ∀ k, Q k → P k ∨ (w.heap.size ≤ k ∧ k < w'.heap.size)) : TM B Q w' kb K L := by
  obtain ⟨O, h1, h2, h3, h4, h5⟩ := h
  refine ⟨O, h1.keep (fun k e hk => hT.block k hk (fun e' => ?_)) hT.size, fun k e => ⟨(h2 k e).1, Nat.lt_of_lt_of_le (h2 k e).2.1 hT.size, fun q => ?_⟩, fun x hx => ⟨(h3 x hx).1.turned hT (fun e' => ?_), (h3 x hx).2.1, (h3 x hx).2.2.1, fun q => ?_⟩, h4, fun k q => ?_⟩
  · rcases hS k e' with q | q
    · exact (h2 k e).2.2 q
    · omega
  · rcases hQ k q with q | q
    · exact (h2 k e).2.2 q
    · have := (h2 k e).2.1; omega
  · rcases hS _ e' with q | q
    · exact (h3 x hx).2.2.2 q
    · have := (h3 x hx).1.lt; omega
  · rcases hQ _ q with q | q
    · exact (h3 x hx).2.2.2 q
    · have := (h3 x hx).1.lt; omega
  · rcases hQ k q with q | q
    · exact Nat.lt_of_lt_of_le (h5 k q) hT.size
    · exact q.2
theorem TM.tb {B : Nat} {P : Nat → Prop} {w : World} {kb : Nat} {K : KS} {L : List Tab} (h : TM B P w kb K L) (x : Tab) (hx : x ∈ L) : Tb w x.t kb x.ds x.ms := by
  obtain ⟨O, h1, h2, h3, h4⟩ := h
  exact (h3 x hx).1
theorem TM.step {B : Nat} {P : Nat → Prop} {w : World} {kb : Nat} {K : KS} {L1 L2 : List Tab} {x : Tab} (h : TM B P w kb K (L1 ++ x :: L2)) :
    ∃ O, TW w O x.t kb ⟨K, x.ds, x.ms⟩ ∧ (∀ k, O k → k < w.heap.size) ∧ ∀ S' w', TStep w O x.t kb S' w' → TM B P w' kb S'.K (L1 ++ ⟨x.t, S'.ds, S'.ms⟩ :: L2) ∧ Below B w w' ∧ Held P w w' := by
  have hb := h.base
  obtain ⟨O, h1, h2, h3, h4, h5⟩ := h
  have hx := h3 x (List.mem_append.2 (.inr (List.mem_cons_self ..)))
  refine ⟨O, ⟨h1, hx.1, hx.2.1⟩, fun k e => (h2 k e).2.1, fun S' w' ⟨O', a1, a2, a3⟩ => ⟨⟨fun k => O' k ∧ k < w'.heap.size, a1.k.trim, fun k e => ⟨?_, e.2, fun q => ?_⟩, fun y hy => ?_, ?_, fun k q => Nat.lt_of_lt_of_le (h5 k q) a3.size⟩, a3.below (fun k e => ?_) hb, fun k q => a3.block k (h5 k q) (fun e => ?_)⟩⟩
  · rcases a2 k e.1 with e | e
    · exact (h2 k e).1
    · exact Nat.le_trans hb e
  · rcases a2 k e.1 with e | e
    · exact (h2 k e).2.2 q
    · have := h5 k q; omega
  · have key : y ∈ L1 ++ L2 → Tb w' y.t kb y.ds y.ms ∧ ¬ (O' y.t ∧ y.t < w'.heap.size) ∧ B ≤ y.t ∧ ¬ P y.t := fun hy => by
      have hyL : y ∈ L1 ++ x :: L2 := by
        rcases List.mem_append.1 hy with e | e
        · exact List.mem_append.2 (.inl e)
        · exact List.mem_append.2 (.inr (List.mem_cons_of_mem _ e))
      have hne : y.t ≠ x.t := fun e => by
        rw [List.map_append, List.map_cons] at h4
        have h5 := List.nodup_append.1 h4
        rcases List.mem_append.1 hy with e' | e'
        · exact h5.2.2 y.t (List.mem_map.2 ⟨y, e', rfl⟩) x.t (by simp) e
        · exact (List.nodup_cons.1 h5.2.1).1 (e ▸ List.mem_map.2 ⟨y, e', rfl⟩)
      have hy3 := h3 y hyL
      refine ⟨hy3.1.turned a3 (fun e => e.elim hy3.2.1 hne), fun e => ?_, hy3.2.2⟩
      rcases a2 _ e.1 with e | e
      · exact hy3.2.1 e
      · have := hy3.1.lt; omega
    rcases List.mem_append.1 hy with e | e
    · exact key (List.mem_append.2 (.inl e))
    · rcases List.mem_cons.1 e with e | e
      · subst e
        exact ⟨a1.tb, fun e => a1.apart e.1, hx.2.2⟩
      · exact key (List.mem_append.2 (.inr e))
  · rw [List.map_append, List.map_cons] at h4 ⊢
    exact h4
  · rcases e with e | e
    · exact (h2 k e).1
    · rw [e]; exact hx.2.2.1
  · rcases e with e | e
    · exact (h2 k e).2.2 q
    · exact hx.2.2.2 (e ▸ q)
theorem TM.open {B : Nat} {P : Nat → Prop} {w : World} {kb : Nat} {K : KS} {L1 L2 : List Tab} {x : Tab} (h : TM B P w kb K (L1 ++ x :: L2)) (s : ByteArray) (f : Int) (hs : s.size ≤ maxLen) (hl : K.next < 9223372036854775807) (r : Int × Int × TS) (hr : (⟨K, x.ds, x.ms⟩ : TS).open s f = r) :
    Calls Tryz.prog 90 #[.pointer (some ⟨x.t, 0, none⟩), .string s, .int .i64 f] w fun e w' => e = .returned (.tuple #[.int .i64 r.1, .int .i64 r.2.1]) ∧ TM B P w' kb r.2.2.K (L1 ++ ⟨x.t, r.2.2.ds, r.2.2.ms⟩ :: L2) ∧ Below B w w' ∧ Held P w w' := by
  obtain ⟨O, h1, _, h2⟩ := h.step
  subst hr
  exact (topen_any x.t kb O _ s f w h1 hs hl).mono fun e w' ⟨a, b⟩ => ⟨a, h2 _ _ b⟩
theorem TM.install {B : Nat} {P : Nat → Prop} {w : World} {kb : Nat} {K : KS} {L1 L2 : List Tab} {x : Tab} (h : TM B P w kb K (L1 ++ x :: L2)) (d : Int) (hd : I64 d) (r : Int × Int × TS) (hr : (⟨K, x.ds, x.ms⟩ : TS).install d = r) :
    Calls Tryz.prog 99 #[.pointer (some ⟨x.t, 0, none⟩), .int .i64 d] w fun e w' => e = .returned (.tuple #[.int .i64 r.1, .int .i64 r.2.1]) ∧ TM B P w' kb r.2.2.K (L1 ++ ⟨x.t, r.2.2.ds, r.2.2.ms⟩ :: L2) ∧ Below B w w' ∧ Held P w w' := by
  obtain ⟨O, h1, _, h2⟩ := h.step
  subst hr
  exact (tinstall_any x.t kb O _ d w h1 hd).mono fun e w' ⟨a, b⟩ => ⟨a, h2 _ _ b⟩
theorem TM.dup {B : Nat} {P : Nat → Prop} {w : World} {kb : Nat} {K : KS} {L1 L2 : List Tab} {x : Tab} (h : TM B P w kb K (L1 ++ x :: L2)) (fd : Int) (r : Int × Int × TS) (hr : (⟨K, x.ds, x.ms⟩ : TS).dup fd = r) :
    Calls Tryz.prog 91 #[.pointer (some ⟨x.t, 0, none⟩), .int .i64 fd] w fun e w' => e = .returned (.tuple #[.int .i64 r.1, .int .i64 r.2.1]) ∧ TM B P w' kb r.2.2.K (L1 ++ ⟨x.t, r.2.2.ds, r.2.2.ms⟩ :: L2) ∧ Below B w w' ∧ Held P w w' := by
  obtain ⟨O, h1, _, h2⟩ := h.step
  subst hr
  exact (tdup_any x.t kb O _ fd w h1).mono fun e w' ⟨a, b⟩ => ⟨a, h2 _ _ b⟩
theorem TM.close {B : Nat} {P : Nat → Prop} {w : World} {kb : Nat} {K : KS} {L1 L2 : List Tab} {x : Tab} (h : TM B P w kb K (L1 ++ x :: L2)) (fd : Int) (r : Int × TS) (hr : (⟨K, x.ds, x.ms⟩ : TS).close fd = r) :
    Calls Tryz.prog 92 #[.pointer (some ⟨x.t, 0, none⟩), .int .i64 fd] w fun e w' => e = .returned (.int .i64 r.1) ∧ TM B P w' kb r.2.K (L1 ++ ⟨x.t, r.2.ds, r.2.ms⟩ :: L2) ∧ Below B w w' ∧ Held P w w' := by
  obtain ⟨O, h1, _, h2⟩ := h.step
  subst hr
  exact (tclose_any x.t kb O _ fd w h1).mono fun e w' ⟨a, b⟩ => ⟨a, h2 _ _ b⟩
theorem TM.dupTo {B : Nat} {P : Nat → Prop} {w : World} {kb : Nat} {K : KS} {L1 L2 : List Tab} {x : Tab} (h : TM B P w kb K (L1 ++ x :: L2)) (fd to : Int) (r : Int × TS) (hr : (⟨K, x.ds, x.ms⟩ : TS).dupTo fd to = r) :
    Calls Tryz.prog 93 #[.pointer (some ⟨x.t, 0, none⟩), .int .i64 fd, .int .i64 to] w fun e w' => e = .returned (.int .i64 r.1) ∧ TM B P w' kb r.2.K (L1 ++ ⟨x.t, r.2.ds, r.2.ms⟩ :: L2) ∧ Below B w w' ∧ Held P w w' := by
  obtain ⟨O, h1, _, h2⟩ := h.step
  subst hr
  exact (tdupTo_any x.t kb O _ fd to w h1).mono fun e w' ⟨a, b⟩ => ⟨a, h2 _ _ b⟩
theorem TM.mark {B : Nat} {P : Nat → Prop} {w : World} {kb : Nat} {K : KS} {L1 L2 : List Tab} {x : Tab} (h : TM B P w kb K (L1 ++ x :: L2)) (fd : Int) (m : Bool) (r : Int × TS) (hr : (⟨K, x.ds, x.ms⟩ : TS).mark fd m = r) :
    Calls Tryz.prog 94 #[.pointer (some ⟨x.t, 0, none⟩), .int .i64 fd, .bool m] w fun e w' => e = .returned (.int .i64 r.1) ∧ TM B P w' kb r.2.K (L1 ++ ⟨x.t, r.2.ds, r.2.ms⟩ :: L2) ∧ Below B w w' ∧ Held P w w' := by
  obtain ⟨O, h1, _, h2⟩ := h.step
  subst hr
  exact (tmark_any x.t kb O _ fd m w h1).mono fun e w' ⟨a, b⟩ => ⟨a, h2 _ _ b⟩
theorem TM.closeAll {B : Nat} {P : Nat → Prop} {w : World} {kb : Nat} {K : KS} {L1 L2 : List Tab} {x : Tab} (h : TM B P w kb K (L1 ++ x :: L2)) (r : TS) (hr : (⟨K, x.ds, x.ms⟩ : TS).closeAll = r) :
    Calls Tryz.prog 111 #[.pointer (some ⟨x.t, 0, none⟩)] w fun e w' => (∃ v, e = .returned v) ∧ TM B P w' kb r.K (L1 ++ ⟨x.t, r.ds, r.ms⟩ :: L2) ∧ Below B w w' ∧ Held P w w' := by
  obtain ⟨O, h1, _, h2⟩ := h.step
  subst hr
  exact (tcloseAll_any x.t kb O _ w h1).mono fun e w' ⟨a, b⟩ => ⟨a, h2 _ _ b⟩
theorem TM.read {B : Nat} {P : Nat → Prop} {w : World} {kb : Nat} {K : KS} {L1 L2 : List Tab} {x : Tab} (h : TM B P w kb K (L1 ++ x :: L2)) (i : Nat) (n : Int) (hi : i < 64) (hz : x.ds i ≠ 0) (hr : K.reads < 9223372036854775807) (r : List UInt8 × Int × KS) (he : K.read (x.ds i) n = r) :
    Calls Tryz.prog 105 #[.pointer (some ⟨x.t, 0, none⟩), .int .i64 (i : Int), .int .i64 n] w fun e w' => ∃ v, e = .returned (.tuple #[v, .int .i64 r.2.1]) ∧ w'.ownsRow w.heap.size 5 1 v r.1.length (r.1.map bv) ∧ TM B P w' kb r.2.2 (L1 ++ x :: L2) ∧ Below B w w' ∧ Held P w w' := by
  obtain ⟨O, h1, h0, h2⟩ := h.step
  subst he
  refine (tread_yes x.t kb O _ i n w h1 hi hz hr).mono fun e w' ⟨v, a, b, c, d⟩ => ⟨v, a, b, ?_⟩
  exact h2 ⟨(K.read (x.ds i) n).2.2, x.ds, x.ms⟩ w' ⟨O, c, fun k e => .inl e, d.mono fun k e => .inl e⟩
theorem TM.list {B : Nat} {P : Nat → Prop} {w : World} {kb : Nat} {K : KS} {L : List Tab} {x : Tab} (h : TM B P w kb K L) (hx : x ∈ L) (r : List Nat) (hr : useds x.ds 64 = r) :
    Calls Tryz.prog 24 #[.pointer (some ⟨x.t, 0, none⟩)] w fun e w' => ∃ v, e = .returned v ∧ w'.ownsRow w.heap.size 3 1 v r.length (ivs r) ∧ Below w.heap.size w w' := by
  subst hr
  exact tlist_any x.t kb ⟨K, x.ds, x.ms⟩ w (h.tb x hx)
theorem TM.fork {B : Nat} {P : Nat → Prop} {w : World} {kb : Nat} {K : KS} {L1 L2 : List Tab} {x : Tab} (h : TM B P w kb K (L1 ++ x :: L2)) (r : KS × (Nat → Int)) (hr : (⟨K, x.ds, x.ms⟩ : TS).fork 64 = r) :
    Calls Tryz.prog 20 #[.pointer (some ⟨x.t, 0, none⟩)] w fun e w' => ∃ c, e = .returned (.pointer (some ⟨c, 0, none⟩)) ∧ TM B P w' kb r.1 (L1 ++ x :: L2 ++ [⟨c, r.2, fun _ => false⟩]) ∧ Below B w w' ∧ Held P w w' := by
  have hb := h.base
  obtain ⟨O, k1, k2, k3, k4, k5⟩ := h
  have hx := k3 x (List.mem_append.2 (.inr (List.mem_cons_self ..)))
  subst hr
  refine (tfork_any x.t kb O _ w ⟨k1, hx.1, hx.2.1⟩).mono fun e w' ⟨a, O', c1, c2, c3, c4, c5⟩ => ⟨w.heap.size, a, ⟨fun k => O' k ∧ k < w'.heap.size, c1.k.trim, fun k e => ⟨?_, e.2, fun q => ?_⟩, fun y hy => ?_, ?_, fun k q => Nat.lt_of_lt_of_le (k5 k q) c5.size⟩, c5.below (fun k e => (k2 k e.1).1) hb, fun k q => c5.block k (k5 k q) (fun e => (k2 k e.1).2.2 q)⟩
  · rcases c4 k e.1 with e' | e'
    · exact (k2 k e'.1).1
    · omega
  · rcases c4 k e.1 with e' | e'
    · exact (k2 k e'.1).2.2 q
    · have := k5 k q; omega
  · rcases List.mem_append.1 hy with e | e
    · have hy3 := k3 y e
      have hyl := hy3.1.lt
      refine ⟨hy3.1.turned c5 (fun e => hy3.2.1 e.1), fun e => ?_, hy3.2.2⟩
      rcases c4 _ e.1 with e | e
      · exact hy3.2.1 e.1
      · omega
    · simp only [List.mem_singleton] at e
      subst e
      exact ⟨c2, fun e => c3 e.1, hb, fun q => Nat.lt_irrefl _ (k5 _ q)⟩
  · rw [List.map_append, List.nodup_append]
    refine ⟨k4, by simp, fun p hp q hq => ?_⟩
    obtain ⟨y, hy, rfl⟩ := List.mem_map.1 hp
    simp only [List.map_cons, List.map_nil, List.mem_singleton] at hq
    have := (k3 y hy).1.lt
    omega
abbrev noOne : Nat → Prop := fun _ => False
theorem TM.make {B : Nat} {w : World} {O : Nat → Prop} {kb : Nat} {K : KS} (h : KAt w O kb K) (hO : ∀ k, O k → B ≤ k) : TM B noOne w kb K [] :=
  ⟨fun k => O k ∧ k < w.heap.size, h.trim, fun k e => ⟨hO k e.1, e.2, id⟩, fun _ hx => absurd hx (List.not_mem_nil), List.nodup_nil, fun _ q => q.elim⟩
theorem TM.new {B : Nat} {P : Nat → Prop} {w : World} {kb : Nat} {K : KS} {L : List Tab} (h : TM B P w kb K L) :
    Calls Tryz.prog 18 #[.pointer (some ⟨kb, 0, none⟩)] w fun e w' => ∃ c, e = .returned (.pointer (some ⟨c, 0, none⟩)) ∧ TM B P w' kb K (L ++ [⟨c, fun _ => 0, fun _ => false⟩]) ∧ Below B w w' ∧ Held P w w' := by
  have hb := h.base
  refine (tnew_any kb w).mono fun e w' ⟨a, b, c, d⟩ => ⟨_, a, ?_, c.mono hb, h.held c⟩
  obtain ⟨O0, j1, j2, j3, j4, j5⟩ := h
  refine ⟨O0, j1.below c, fun k e => ⟨(j2 k e).1, by have := (j2 k e).2.1; omega, (j2 k e).2.2⟩, fun y hy => ?_, ?_, fun k q => by have := j5 k q; omega⟩
  · rcases List.mem_append.1 hy with e | e
    · exact ⟨(j3 y e).1.below c, (j3 y e).2⟩
    · simp only [List.mem_singleton] at e
      subst e
      exact ⟨b, fun e => Nat.lt_irrefl _ (j2 _ e).2.1, hb, fun q => Nat.lt_irrefl _ (j5 _ q)⟩
  · rw [List.map_append, List.nodup_append]
    refine ⟨j4, by simp, fun p hp q hq => ?_⟩
    obtain ⟨y, hy, rfl⟩ := List.mem_map.1 hp
    simp only [List.map_cons, List.map_nil, List.mem_singleton] at hq
    have := (j3 y hy).1.lt
    omega
theorem TM.kind {B : Nat} {P : Nat → Prop} {w : World} {kb : Nat} {K : KS} {L : List Tab} (h : TM B P w kb K L) (d : Int) (hd : I64 d) (r : Int) (hr : K.kindOf d = r) :
    Calls Tryz.prog 81 #[.pointer (some ⟨kb, 0, none⟩), .int .i64 d] w fun e w' => e = .returned (.int .i64 r) ∧ TM B P w' kb K L ∧ Below B w w' ∧ Held P w w' := by
  have hb := h.base
  have hx := h
  obtain ⟨O, h1, h2, h3, h4⟩ := h
  subst hr
  exact (h1.kinds d hd).mono fun e w' ⟨a, b⟩ => ⟨a, hx.below b, b.mono hb, hx.held b⟩
theorem TM.desc {B : Nat} {P : Nat → Prop} {w : World} {kb : Nat} {K : KS} {L : List Tab} {x : Tab} (h : TM B P w kb K L) (hx : x ∈ L) (i : Nat) (hi : i < 64) (hz : x.ds i ≠ 0) (d : Int) (hd : x.ds i = d) :
    Calls Tryz.prog 115 #[.pointer (some ⟨x.t, 0, none⟩), .int .i64 (i : Int)] w fun e w' => e = .returned (.tuple #[.int .i64 d, .int .i64 0]) ∧ w = w' := by
  subst hd
  exact tdesc_yes x.t kb ⟨K, x.ds, x.ms⟩ i w (h.tb x hx) hi hz
end Go.Proofs.YtejcfhjhjplcnaaGreat

/- What the proof stands on, part 12: the contracts of the program's calls that it reaches. -/
import Derived.Test.YtanbiinomagdbaaGreatKM11
/- The reference's kernel: Write, to a terminal. -/
namespace Go.Proofs.YtanbiinomagdbaaGreat
open Go.RowKit

theorem tho_setOb (K : KS) (x : De) (ob : Ob) (h : x.th < K.th.length) : (K.setOb x.th ob).tho x = ob := by
  unfold KS.tho KS.setOb
  simp [h]
theorem term_ok_w {ls : List (List UInt8)} {scr : List UInt8} (h : (Ob.term ls scr).ok) (x : List UInt8) : (Ob.term ls (wrS scr x)).ok := ⟨h.1, h.2.1, wrS_room h.2.2⟩
theorem wrS_fits {scr x : List UInt8} (h : scr.length + x.length ≤ 1048576) : wrS scr x = scr ++ x := by unfold wrS; rw [if_neg (by omega)]
set_option maxRecDepth 100000 in
set_option maxHeartbeats 2000000 in
theorem rkwrite_term (B : Nat → Prop) (ρ : Nat → Option Tag) (I : RI) (K : KS) (d : Int) (b : List UInt8) (a1 : Option Addr) (cx : Nat) (w : World) (h : RK w B ρ I K) (hr : K.writes < 9223372036854775807) (hb : Bys w (.slice a1 b.length cx) b) (hcap : b.length ≤ cx) (hap : ∀ k, (Value.slice a1 b.length cx).ownBlock = some k → ¬ B k)
    {x : De} (hx : K.find d = some x) (h1 : fbit x.flags 2 ≠ 0) (h2 : ¬ 1048576 < b.length) (h3 : ¬ b.length = 0) {ls : List (List UInt8)} {scr : List UInt8} (ho : K.tho x = .term ls scr) :
    Calls Tryz.prog 62 #[.pointer (some ⟨I.kb, 0, none⟩), .int .i64 d, .slice a1 b.length cx] w (RKNum w B I.kb (K.write d b)) := by
  have HF := hide (rfind_any B ρ I K d w h)
  have HX := hide fun E => RKNum.refused h 0 E
  have HW := hide (And.intro hx (And.intro h1 (And.intro h2 h3)))
  rw [hx] at HF
  have hm := (KS.find_some hx).1
  have hd := h.de hm
  have c1 := hd.t
  have c2 := hd.kind
  have c3 := hd.f
  have hlt := hd.lt
  rw [ho] at c2
  simp only [Ob.kind] at c2
  have c4 := (h.ptr hm).2.1 ls scr ho
  have hO := h.robj hm
  rw [ho] at hO
  have hsl : scr.length ≤ 1048576 := hO.2.2.2
  have HO := hide hO
  have HB := hide hb
  have HK := hide h
  have m2 : ¬ (1048576 : Int) < (b.length : Int) := by omega
  have m3 : ¬ (b.length : Int) = 0 := by omega
  have m4 : ((b.length : Int) == 0) = false := by rw [beq_eq_false_iff_ne]; exact m3
  obtain ⟨v, hv⟩ : ∃ v, bits .and .i64 x.flags 2 = v := ⟨_, rfl⟩
  have k0 : ¬ v = 0 := by rw [← hv]; exact h1
  have m0 : (v == 0) = false := by simpa using k0
  have HRo := hide (rroom_any B ρ I K x w h hm (by rw [ho]; simp [Ob.kind]))
  rw [ho, show roomOf (.term ls scr) x.flags x.pos = 1048576 - scr.length from rfl] at HRo
  by_cases hfull : scr.length = 1048576
  · have hrf : refusal (.term ls scr) x.flags x.pos b.length = 31 := by show (if scr.length = 1048576 then (31 : Int) else 0) = 31; rw [if_pos hfull]
    have hW := rkw_refused (b := b) hx h1 h2 h3 (by rw [ho, hrf]; decide)
    rw [ho, hrf] at hW
    rw [hW]
    rw [hfull] at HRo
    clear h hd hb hO hW hrf hfull hsl
    go_enter Tryz.func62, Tryz.ntmps62
    go_wp2_with fail
    refine HF.out.mono ?_
    rintro e w1 ⟨rfl, rfl⟩
    simp only [Option.map_some]
    go_wp2_with fail
    refine HRo.out.mono ?_
    rintro e w1 ⟨rfl, rfl⟩
    go_wp2
    go_ret2
    exact HX.out 31
  have hrf : refusal (.term ls scr) x.flags x.pos b.length = 0 := by show (if scr.length = 1048576 then (31 : Int) else 0) = 0; rw [if_neg hfull]
  obtain ⟨R, hR⟩ : ∃ R, R = 1048576 - scr.length := ⟨_, rfl⟩
  have hR0 : ¬ (R : Int) = 0 := by omega
  have hR1 : ((R : Int) == 0) = false := by rw [beq_eq_false_iff_ne]; exact hR0
  rw [← hR] at HRo
  have HRr := hide hR
  obtain ⟨q5, q5s, q3, HN⟩ := h.wup (b.length : Int) (by omega) (by omega)
  by_cases hE : (nxt K.plan (b.length : Int)).2 = 0
  · have hg := nxt_good (l := K.plan) (want := (b.length : Int)) h.ok.plan (by omega) (by omega) hE
    have hW : K.write d b = (((min (nxt K.plan b.length).1.toNat (1048576 - scr.length) : Nat) : Int), 0, K.writeUp.setOb x.th (.term ls (scr ++ b.take (min (nxt K.plan b.length).1.toNat (1048576 - scr.length))))) := by
      unfold KS.write
      rw [hx]
      simp only
      rw [if_neg h1, if_neg h2, if_neg h3, if_pos (by rw [ho]; exact hrf), if_pos hE, ho]
    rw [hW]
    rw [hE] at HN
    generalize (nxt K.plan (b.length : Int)).1 = m at *
    obtain ⟨mm, hmm⟩ : ∃ mm : Nat, mm = min m.toNat (1048576 - scr.length) := ⟨_, rfl⟩
    rw [← hmm]
    have hmin : min m (R : Int) = (mm : Int) := by omega
    have hmb : mm ≤ b.length := by omega
    have hm1 : 1 ≤ mm := by omega
    have HMr : Hid (scr.length + mm ≤ 1048576) := hide (by omega)
    have s0 : (0 : Int) ≤ (mm : Int) := by omega
    have s1 : (mm : Int) ≤ (cx : Int) := by omega
    have HF1 : Hid (scr.length + (b.take mm).length ≤ 1048576) := hide (by rw [List.length_take]; omega)
    clear h hd hb hO hW hrf hE hfull hR hmm hg hsl HMr
    go_enter Tryz.func62, Tryz.ntmps62
    go_wp2_with fail
    refine HF.out.mono ?_
    rintro e w1 ⟨rfl, rfl⟩
    simp only [Option.map_some]
    go_wp2_with fail
    refine HRo.out.mono ?_
    rintro e w1 ⟨rfl, rfl⟩
    go_wp2_with fail
    refine HN.out.mono ?_
    rintro e w2 ⟨rfl, v', hK2, hT2⟩
    have HT2 := hide hT2
    have HK2 := hide hK2
    clear c1 c2 c3 c4 q5 q5s q3
    have hd2 := hK2.de (x := x) hm
    have c1 := hd2.t
    have c2 : w2.cell? ⟨I.tb x.th, 1, none⟩ = some (.int .i64 2) := by have := hd2.kind; rw [show K.writeUp.tho x = .term ls scr from ho] at this; exact this
    have c4 := (hK2.ptr (x := x) hm).2.1 ls scr ho
    have hO2 := hK2.robj (x := x) hm
    rw [show K.writeUp.tho x = .term ls scr from ho] at hO2
    have HO2 := hide (And.intro (hO2.1.keep (W' := w2.drew) (fun _ _ _ => rfl) (Nat.le_refl _)) hO2.2)
    have HKd := hide (hK2.below (Below.refl _ w2).drew)
    have HRo2 := hide (rroom_any B ρ { I with pv := v' } K.writeUp x w2 hK2 hm (by rw [show K.writeUp.tho x = .term ls scr from ho]; simp [Ob.kind]))
    rw [show K.writeUp.tho x = .term ls scr from ho, show roomOf (.term ls scr) x.flags x.pos = 1048576 - scr.length from rfl, ← HRr.out] at HRo2
    have hB2 := HB.out.turned HT2.out (fun k hk _ e => by exact hap k hk e)
    obtain ⟨-, xb, xo, rfl, -, -⟩ := bys_block hB2 (by omega)
    have HB2 : Hid (Bys w2 (.slice (some ⟨xb, xo, none⟩) mm cx) (b.take mm)) := hide (by have := bys_cut hB2 0 mm cx (by omega); rw [List.drop_zero, Nat.add_zero] at this; exact this)
    clear hd2 hO2 hK2 hT2 hB2
    go_wp2_with (first | (go_at_call 158; refine HRo2.out.mono ?_; rintro _ w2 ⟨rfl, rfl⟩) | fail)
    go_region_held3 (fun w' => w'.cell? ⟨I.db x.n, 1, none⟩ = some (.pointer (some ⟨I.tb x.th, 0, none⟩)) ∧ w'.cell? ⟨I.tb x.th, 3, none⟩ = some (.pointer (some ⟨I.ob x.th, 0, none⟩)))
      (first | exact K5 | trivial | go_keep)
      (first
        | (go_at_call 160; refine (ob_twrite _ _ ls scr (b.take mm) _ _ HO2.out.1 HO2.out.2 (HB2.out.below (Below.refl _ w2).drew) (by rw [List.length_take]; omega)).mono ?_; rintro e w3 ⟨rfl, hs3⟩; obtain ⟨ρ', hK3, -, hT3⟩ := HKd.out.setOb (i := x.th) hlt hs3 (by show _ = K.th[x.th].ob.kind; rw [show K.th[x.th].ob = .term ls scr by rw [← KS.tho_eq hlt]; exact ho]; rfl) (term_ok_w HO2.out.2 (b.take mm)); have K5 : w3.cell? ⟨I.db x.n, 1, none⟩ = some (.pointer (some ⟨I.tb x.th, 0, none⟩)) ∧ w3.cell? ⟨I.tb x.th, 3, none⟩ = some (.pointer (some ⟨I.ob x.th, 0, none⟩)) := ⟨(hK3.de (x := x) hm).t, (hK3.ptr (x := x) hm).2.1 ls (wrS scr (b.take mm)) (tho_setOb _ x _ hlt)⟩; rw [wrS_fits HF1.out] at hK3; have HK3 := hide hK3; have HT3 := hide (HT2.out.trans ((Turned.of_below (Below.refl _ w2).drew).trans hT3 (fun _ _ e => e)) (fun _ _ e => e)); clear hK3 hT3 hs3)
        | fail)
    go_wp2
    go_ret2
    exact ⟨_, _, rfl, HK3.out, rfl, HT3.out⟩
  · rw [rkw_fault hx h1 h2 h3 (by rw [ho]; exact hrf) hE]
    have hE1 : ((nxt K.plan (b.length : Int)).2 != 0) = true := by simpa using hE
    generalize nxt K.plan (b.length : Int) = mE at *
    obtain ⟨m, E⟩ := mE
    simp only at HN hE hE1 ⊢
    clear h hd hb hO hrf hfull hR hsl
    go_enter Tryz.func62, Tryz.ntmps62
    go_wp2_with fail
    refine HF.out.mono ?_
    rintro e w1 ⟨rfl, rfl⟩
    simp only [Option.map_some]
    go_wp2_with fail
    refine HRo.out.mono ?_
    rintro e w1 ⟨rfl, rfl⟩
    go_wp2_with fail
    refine HN.out.mono ?_
    rintro e w2 ⟨rfl, v', hK2, hT2⟩
    have HT2 := hide hT2
    have HK2 := hide hK2
    clear hK2 hT2 c1 c2 c3 c4 q5 q5s q3
    go_wp2
    go_ret2
    exact ⟨ρ, _, rfl, HK2.out, rfl, HT2.out⟩
end Go.Proofs.YtanbiinomagdbaaGreat

/- The reference's kernel: Write, to a file. -/
namespace Go.Proofs.YtanbiinomagdbaaGreat
open Go.RowKit

theorem mem_new_de {K : KS} {x y : De} (h : x ∈ K.de) (hn : y.n = x.n) : y ∈ (K.setDe y).de := by
  unfold KS.setDe
  exact List.mem_map.2 ⟨x, h, by rw [if_pos hn.symm]⟩
set_option maxRecDepth 100000 in
set_option maxHeartbeats 2000000 in
theorem rkwrite_file (B : Nat → Prop) (ρ : Nat → Option Tag) (I : RI) (K : KS) (d : Int) (b : List UInt8) (a1 : Option Addr) (cx : Nat) (w : World) (h : RK w B ρ I K) (hr : K.writes < 9223372036854775807) (hb : Bys w (.slice a1 b.length cx) b) (hcap : b.length ≤ cx) (hap : ∀ k, (Value.slice a1 b.length cx).ownBlock = some k → ¬ B k)
    {x : De} (hx : K.find d = some x) (h1 : fbit x.flags 2 ≠ 0) (h2 : ¬ 1048576 < b.length) (h3 : ¬ b.length = 0) {f : List UInt8} (ho : K.tho x = .file f) :
    Calls Tryz.prog 62 #[.pointer (some ⟨I.kb, 0, none⟩), .int .i64 d, .slice a1 b.length cx] w (RKNum w B I.kb (K.write d b)) := by
  have HF := hide (rfind_any B ρ I K d w h)
  have HX := hide fun E => RKNum.refused h 0 E
  have HW := hide (And.intro hx (And.intro h1 (And.intro h2 h3)))
  rw [hx] at HF
  have hm := (KS.find_some hx).1
  have hd := h.de hm
  have c1 := hd.t
  have c2 := hd.kind
  have c3 := hd.f
  have hlt := hd.lt
  rw [ho] at c2
  simp only [Ob.kind] at c2
  have c4 := (h.ptr hm).1 f ho
  have hO := h.robj hm
  rw [ho] at hO
  have hfl : f.length ≤ 1048576 := hO.2
  obtain ⟨P, hP⟩ : ∃ P, P = placeOf f x.flags x.pos := ⟨_, rfl⟩
  have hPl : P ≤ 1048576 := by
    have := h.ok.pos x hm
    rw [hP]; unfold placeOf; split <;> omega
  have HO := hide hO
  have HB := hide hb
  have HK := hide h
  have m2 : ¬ (1048576 : Int) < (b.length : Int) := by omega
  have m3 : ¬ (b.length : Int) = 0 := by omega
  have m4 : ((b.length : Int) == 0) = false := by rw [beq_eq_false_iff_ne]; exact m3
  obtain ⟨v, hv⟩ : ∃ v, bits .and .i64 x.flags 2 = v := ⟨_, rfl⟩
  have k0 : ¬ v = 0 := by rw [← hv]; exact h1
  have m0 : (v == 0) = false := by simpa using k0
  have HRo := hide (rroom_any B ρ I K x w h hm (by rw [ho]; simp [Ob.kind]))
  rw [ho, room_place, ← hP] at HRo
  by_cases hfull : P = 1048576
  · have hrf : refusal (.file f) x.flags x.pos b.length = 31 := by show (if placeOf f x.flags x.pos = 1048576 then (31 : Int) else 0) = 31; rw [← hP, if_pos hfull]
    have hW := rkw_refused (b := b) hx h1 h2 h3 (by rw [ho, hrf]; decide)
    rw [ho, hrf] at hW
    rw [hW]
    rw [hfull] at HRo
    clear h hd hb hO hW hrf hfull hPl hP
    go_enter Tryz.func62, Tryz.ntmps62
    go_wp2_with fail
    refine HF.out.mono ?_
    rintro e w1 ⟨rfl, rfl⟩
    simp only [Option.map_some]
    go_wp2_with fail
    refine HRo.out.mono ?_
    rintro e w1 ⟨rfl, rfl⟩
    go_wp2
    go_ret2
    exact HX.out 31
  have hrf : refusal (.file f) x.flags x.pos b.length = 0 := by show (if placeOf f x.flags x.pos = 1048576 then (31 : Int) else 0) = 0; rw [← hP, if_neg hfull]
  obtain ⟨R, hR⟩ : ∃ R, R = 1048576 - P := ⟨_, rfl⟩
  have hR0 : ¬ (R : Int) = 0 := by omega
  have hR1 : ((R : Int) == 0) = false := by rw [beq_eq_false_iff_ne]; exact hR0
  rw [← hR] at HRo
  obtain ⟨q5, q5s, q3, HN⟩ := h.wup (b.length : Int) (by omega) (by omega)
  by_cases hE : (nxt K.plan (b.length : Int)).2 = 0
  · have hg := nxt_good (l := K.plan) (want := (b.length : Int)) h.ok.plan (by omega) (by omega) hE
    have hW : K.write d b = (((min (nxt K.plan b.length).1.toNat (1048576 - placeOf f x.flags x.pos) : Nat) : Int), 0, (K.writeUp.setOb x.th (.file (wrL f (placeOf f x.flags x.pos) (b.take (min (nxt K.plan b.length).1.toNat (1048576 - placeOf f x.flags x.pos)))))).setDe { x with pos := placeOf f x.flags x.pos + min (nxt K.plan b.length).1.toNat (1048576 - placeOf f x.flags x.pos) }) := by
      unfold KS.write
      rw [hx]
      simp only
      rw [if_neg h1, if_neg h2, if_neg h3, if_pos (by rw [ho]; exact hrf), if_pos hE, ho]
    rw [hW, ← hP]
    rw [hE] at HN
    generalize (nxt K.plan (b.length : Int)).1 = m at *
    obtain ⟨mm, hmm⟩ : ∃ mm : Nat, mm = min m.toNat (1048576 - P) := ⟨_, rfl⟩
    rw [← hmm]
    have hmin : min m (R : Int) = (mm : Int) := by omega
    have hmb : mm ≤ b.length := by omega
    have hm1 : 1 ≤ mm := by omega
    have HF1 : Hid (P + mm ≤ 1048576) := hide (by omega)
    have s0 : (0 : Int) ≤ (mm : Int) := by omega
    have s1 : (mm : Int) ≤ (cx : Int) := by omega
    have HPl := hide hP
    have HRr := hide hR
    have hPl' := hPl
    obtain ⟨v4, hv4⟩ : ∃ v4, bits .and .i64 x.flags 4 = v4 := ⟨_, rfl⟩
    clear h hd hb hO hW hrf hE hfull hR hmm hg hP hPl
    have HV4 : Hid ((v4 = 0 → P = x.pos) ∧ (¬ v4 = 0 → P = f.length)) := hide (by
      rw [HPl.out]
      unfold placeOf bit
      rw [show fbit x.flags 4 = v4 from hv4]
      refine ⟨fun e => ?_, fun e => ?_⟩
      · rw [e]; rfl
      · rw [if_pos (by simpa using e)])
    have hvc : v4 = 0 ∨ (¬ v4 = 0 ∧ (v4 == 0) = false ∧ (v4 != 0) = true) := by
      by_cases e : v4 = 0
      · exact .inl e
      · exact .inr ⟨e, by simpa using e, by simpa using e⟩
    go_enter Tryz.func62, Tryz.ntmps62
    go_wp2_with fail
    refine HF.out.mono ?_
    rintro e w1 ⟨rfl, rfl⟩
    simp only [Option.map_some]
    go_wp2_with fail
    refine HRo.out.mono ?_
    rintro e w1 ⟨rfl, rfl⟩
    go_wp2_with fail
    refine HN.out.mono ?_
    rintro e w2 ⟨rfl, v', hK2, hT2⟩
    have HT2 := hide hT2
    have HK2 := hide hK2
    clear c1 c2 c3 c4 q5 q5s q3
    have hd2 := hK2.de (x := x) hm
    have c1 := hd2.t
    have c3 := hd2.f
    have c5 := hd2.p
    have c5s := hd2.soft 3
    have c2 : w2.cell? ⟨I.tb x.th, 1, none⟩ = some (.int .i64 1) := by have := hd2.kind; rw [show K.writeUp.tho x = .file f from ho] at this; exact this
    have c4 := (hK2.ptr (x := x) hm).1 f ho
    have hO2 := hK2.robj (x := x) hm
    rw [show K.writeUp.tho x = .file f from ho] at hO2
    obtain ⟨u, Bu, hF2, -⟩ := hO2.1
    have c6 := hF2.data
    obtain ⟨ua, uc, hu⟩ := owns_slice hF2.row
    rw [hu] at c6
    have HRo2 := hide (rroom_any B ρ { I with pv := v' } K.writeUp x w2 hK2 hm (by rw [show K.writeUp.tho x = .file f from ho]; simp [Ob.kind]))
    rw [show K.writeUp.tho x = .file f from ho, room_place, ← HPl.out, ← HRr.out] at HRo2
    have hB2 := HB.out.turned HT2.out (fun k hk _ e => by exact hap k hk e)
    obtain ⟨-, xb, xo, rfl, -, -⟩ := bys_block hB2 (by omega)
    have hxB : ¬ B xb := hap xb rfl
    have HB2 : Hid (Bys w2 (.slice (some ⟨xb, xo, none⟩) mm cx) (b.take mm)) := hide (by have := bys_cut hB2 0 mm cx (by omega); rw [List.drop_zero, Nat.add_zero] at this; exact this)
    have HOw : Hid (∀ k, (Value.slice (some ⟨xb, xo, none⟩) mm cx).ownBlock = some k → ¬ B k) := hide (fun k hk => by
      have h5 : xb = k := by simpa [Value.ownBlock] using hk
      subst h5
      exact hxB)
    clear hd2 hO2 hK2 hT2 hB2 hF2 hu
    rcases hvc with rfl | ⟨g1, g2, g3⟩
    · obtain rfl := HV4.out.1 rfl
      go_wp2_with (first | (go_at_call 158; refine HRo2.out.mono ?_; rintro _ w2 ⟨rfl, rfl⟩) | fail)
      have hmx : x ∈ K.writeUp.de := hm
      have HB3 := HB2
      have HT3 := HT2
      have hlo := HK2.out.lt
      have hOx := HK2.out.robj (x := x) hmx
      rw [show (K.writeUp).tho x = .file f from ho] at hOx
      have HOd := hide (hOx.1.keep (W' := (w2).drew) (fun _ _ _ => rfl) (Nat.le_refl _))
      have HKd := hide (HK2.out.below (Below.refl _ (w2)).drew)
      have HBd := hide (HB3.out.below (Below.refl _ (w2)).drew)
      have c1 := (HK2.out.de (x := x) hmx).t
      have c5 := (HK2.out.de (x := x) hmx).p
      have c4 := (HK2.out.ptr (x := x) hmx).1 f ho
      simp only at c1 c4 c5
      clear hOx
      have HNo : Hid (∀ k, (Value.slice (some ⟨xb, xo, none⟩) mm cx).ownBlock = some k → ¬ ρ k = some (.obj x.th)) := hide (fun k hk e => by exact HOw.out k hk (hlo k _ e).1)
      go_region_held3 (fun w' => w'.cell? ⟨I.db x.n, 1, none⟩ = some (.pointer (some ⟨I.tb x.th, 0, none⟩)) ∧ w'.cell? ⟨I.tb x.th, 2, none⟩ = some (.pointer (some ⟨I.ob x.th, 0, none⟩)) ∧ w'.cell? ⟨I.db x.n, 3, none⟩ = some (.int .i64 (x.pos : Nat)))
        (first | exact K5 | go_keep)
        (first
          | (go_at_call 161; refine (ob_fwrite _ _ f (b.take mm) _ _ _ HOd.out hfl HBd.out (fun _ k hk e => HNo.out k hk e)).mono ?_; rintro e w3 ⟨rfl, hs3⟩; obtain ⟨ρ', hK3, -, hT3⟩ := HKd.out.setOb (i := x.th) hlt hs3 (by show _ = K.th[x.th].ob.kind; rw [show K.th[x.th].ob = .file f by rw [← KS.tho_eq hlt]; exact ho]; rfl) (wrL_len hfl); have K5 : w3.cell? ⟨I.db x.n, 1, none⟩ = some (.pointer (some ⟨I.tb x.th, 0, none⟩)) ∧ w3.cell? ⟨I.tb x.th, 2, none⟩ = some (.pointer (some ⟨I.ob x.th, 0, none⟩)) ∧ w3.cell? ⟨I.db x.n, 3, none⟩ = some (.int .i64 (x.pos : Nat)) := ⟨(hK3.de (x := x) hmx).t, (hK3.ptr (x := x) hmx).1 _ (tho_setOb _ x _ hlt), (hK3.de (x := x) hmx).p⟩)
          | fail)
      have c7 := K5.2.2
      have c7s := (hK3.de (x := x) hmx).soft 3
      obtain ⟨hK6, hT6⟩ := hK3.setDe (x := x) (x' := { x with pos := x.pos + mm }) hmx rfl rfl rfl HF1.out (hK3.ok.held x hmx) 3 (.int .i64 ((x.pos + mm : Nat) : Int)) (by simp)
      have HK6 := hide hK6
      have hlo3 := hK3.lt
      have HT6 := hide ((HT3.out.trans ((Turned.of_below (S := B) (Below.refl _ (w2)).drew).trans hT3 (fun _ _ e => e)) (fun _ _ e => e)).trans hT6 (fun k _ e => (hlo3 _ _ e).1))
      clear hK6 hT6 hK3 K5 hlo hlo3 hT3 hs3
      go_wp2
      go_ret2
      rw [show (x.pos : Int) + (mm : Int) = ((x.pos + mm : Nat) : Int) by omega]
      exact ⟨ρ', _, rfl, HK6.out, rfl, HT6.out⟩
    · obtain rfl := HV4.out.2 g1
      obtain ⟨hKS, hTS⟩ := HK2.out.setDe (x := x) (x' := { x with pos := f.length }) hm rfl rfl rfl hfl (HK2.out.ok.held x hm) 3 (.int .i64 f.length) (by simp)
      have hlo2 := HK2.out.lt
      have HTS := hide hTS
      have HKS := hide hKS
      have HTS2 : Hid (Turned B w2 (w2.setCell ⟨I.db x.n, 3, none⟩ (.int .i64 f.length))) := hide (hTS.mono fun k e => (hlo2 k _ e).1)
      clear hKS hTS
      go_wp2_with (first | (go_at_call 158; refine HRo2.out.mono ?_; rintro _ w2 ⟨rfl, rfl⟩) | fail)
      generalize w2.setCell ⟨I.db x.n, 3, none⟩ (.int .i64 f.length) = wS at *
      have hmx : ({ x with pos := f.length } : De) ∈ (K.writeUp.setDe ({ x with pos := f.length } : De)).de := mem_new_de (x := x) hm rfl
      have HT3 := hide (HT2.out.trans HTS2.out (fun _ _ e => e))
      have HB3 := hide (HB2.out.turned HTS2.out (fun k hk _ e => by exact HOw.out k hk e))
      have hlo := HKS.out.lt
      have hOx := HKS.out.robj (x := ({ x with pos := f.length } : De)) hmx
      rw [show ((K.writeUp.setDe ({ x with pos := f.length } : De))).tho ({ x with pos := f.length } : De) = .file f from ho] at hOx
      have HOd := hide (hOx.1.keep (W' := (wS).drew) (fun _ _ _ => rfl) (Nat.le_refl _))
      have HKd := hide (HKS.out.below (Below.refl _ (wS)).drew)
      have HBd := hide (HB3.out.below (Below.refl _ (wS)).drew)
      have c1 := (HKS.out.de (x := ({ x with pos := f.length } : De)) hmx).t
      have c5 := (HKS.out.de (x := ({ x with pos := f.length } : De)) hmx).p
      have c4 := (HKS.out.ptr (x := ({ x with pos := f.length } : De)) hmx).1 f ho
      simp only at c1 c4 c5
      clear hOx
      have HNo : Hid (∀ k, (Value.slice (some ⟨xb, xo, none⟩) mm cx).ownBlock = some k → ¬ ρ k = some (.obj x.th)) := hide (fun k hk e => by exact HOw.out k hk (hlo k _ e).1)
      go_region_held3 (fun w' => w'.cell? ⟨I.db x.n, 1, none⟩ = some (.pointer (some ⟨I.tb x.th, 0, none⟩)) ∧ w'.cell? ⟨I.tb x.th, 2, none⟩ = some (.pointer (some ⟨I.ob x.th, 0, none⟩)) ∧ w'.cell? ⟨I.db x.n, 3, none⟩ = some (.int .i64 (f.length : Nat)))
        (first | exact K5 | go_keep)
        (first
          | (go_at_call 161; refine (ob_fwrite _ _ f (b.take mm) _ _ _ HOd.out hfl HBd.out (fun _ k hk e => HNo.out k hk e)).mono ?_; rintro e w3 ⟨rfl, hs3⟩; obtain ⟨ρ', hK3, -, hT3⟩ := HKd.out.setOb (i := x.th) hlt hs3 (by show _ = K.th[x.th].ob.kind; rw [show K.th[x.th].ob = .file f by rw [← KS.tho_eq hlt]; exact ho]; rfl) (wrL_len hfl); have K5 : w3.cell? ⟨I.db x.n, 1, none⟩ = some (.pointer (some ⟨I.tb x.th, 0, none⟩)) ∧ w3.cell? ⟨I.tb x.th, 2, none⟩ = some (.pointer (some ⟨I.ob x.th, 0, none⟩)) ∧ w3.cell? ⟨I.db x.n, 3, none⟩ = some (.int .i64 (f.length : Nat)) := ⟨(hK3.de (x := ({ x with pos := f.length } : De)) hmx).t, (hK3.ptr (x := ({ x with pos := f.length } : De)) hmx).1 _ (tho_setOb _ ({ x with pos := f.length } : De) _ hlt), (hK3.de (x := ({ x with pos := f.length } : De)) hmx).p⟩)
          | fail)
      have c7 := K5.2.2
      have c7s := (hK3.de (x := ({ x with pos := f.length } : De)) hmx).soft 3
      obtain ⟨hK6, hT6⟩ := hK3.setDe (x := ({ x with pos := f.length } : De)) (x' := { x with pos := f.length + mm }) hmx rfl rfl rfl HF1.out (hK3.ok.held ({ x with pos := f.length } : De) hmx) 3 (.int .i64 ((f.length + mm : Nat) : Int)) (by simp)
      have HK6 := hide hK6
      have hlo3 := hK3.lt
      have HT6 := hide ((HT3.out.trans ((Turned.of_below (S := B) (Below.refl _ (wS)).drew).trans hT3 (fun _ _ e => e)) (fun _ _ e => e)).trans hT6 (fun k _ e => (hlo3 _ _ e).1))
      clear hK6 hT6 hK3 K5 hlo hlo3 hT3 hs3
      go_wp2
      go_ret2
      rw [show (f.length : Int) + (mm : Int) = ((f.length + mm : Nat) : Int) by omega]
      have hfin := HK6.out
      rw [setDe_setOb, setDe_twice _ (x := { x with pos := f.length }) (y := { x with pos := f.length + mm }) rfl] at hfin
      exact ⟨ρ', _, rfl, hfin, rfl, HT6.out⟩
  · rw [rkw_fault hx h1 h2 h3 (by rw [ho]; exact hrf) hE]
    have hE1 : ((nxt K.plan (b.length : Int)).2 != 0) = true := by simpa using hE
    generalize nxt K.plan (b.length : Int) = mE at *
    obtain ⟨m, E⟩ := mE
    simp only at HN hE hE1 ⊢
    clear h hd hb hO hrf hfull hR hP hPl
    go_enter Tryz.func62, Tryz.ntmps62
    go_wp2_with fail
    refine HF.out.mono ?_
    rintro e w1 ⟨rfl, rfl⟩
    simp only [Option.map_some]
    go_wp2_with fail
    refine HRo.out.mono ?_
    rintro e w1 ⟨rfl, rfl⟩
    go_wp2_with fail
    refine HN.out.mono ?_
    rintro e w2 ⟨rfl, v', hK2, hT2⟩
    have HT2 := hide hT2
    have HK2 := hide hK2
    clear hK2 hT2 c1 c2 c3 c4 q5 q5s q3
    go_wp2
    go_ret2
    exact ⟨ρ, _, rfl, HK2.out, rfl, HT2.out⟩
theorem rkwrite_any (B : Nat → Prop) (ρ : Nat → Option Tag) (I : RI) (K : KS) (d : Int) (b : List UInt8) (a1 : Option Addr) (cx : Nat) (w : World) (h : RK w B ρ I K) (hr : K.writes < 9223372036854775807) (hb : Bys w (.slice a1 b.length cx) b) (hcap : b.length ≤ cx) (hap : ∀ k, (Value.slice a1 b.length cx).ownBlock = some k → ¬ B k) :
    Calls Tryz.prog 62 #[.pointer (some ⟨I.kb, 0, none⟩), .int .i64 d, .slice a1 b.length cx] w (RKNum w B I.kb (K.write d b)) := by
  cases hx : K.find d with
  | none => exact rkwrite_head B ρ I K d b a1 cx w h (.inl hx)
  | some x =>
    by_cases hh : fbit x.flags 2 = 0 ∨ 1048576 < b.length ∨ b.length = 0
    · exact rkwrite_head B ρ I K d b a1 cx w h (.inr ⟨x, hx, hh⟩)
    · have h1 : fbit x.flags 2 ≠ 0 := fun e => hh (.inl e)
      have h2 : ¬ 1048576 < b.length := fun e => hh (.inr (.inl e))
      have h3 : ¬ b.length = 0 := fun e => hh (.inr (.inr e))
      cases ho : K.tho x with
      | file f => exact rkwrite_file B ρ I K d b a1 cx w h hr hb hcap hap hx h1 h2 h3 ho
      | term ls scr => exact rkwrite_term B ρ I K d b a1 cx w h hr hb hcap hap hx h1 h2 h3 ho
      | pipe q rd wt => exact rkwrite_pipe B ρ I K d b a1 cx w h hr hb hcap hap hx h1 h2 h3 ho
end Go.Proofs.YtanbiinomagdbaaGreat

/- The reference's kernel: a new description. -/
namespace Go.Proofs.YtanbiinomagdbaaGreat
open Go.RowKit

theorem Tryz.infoDp : (Tryz.prog.info? 257).map (fun i => (i.zero, i.size, i.bytes)) = some (some (.pointer none), 1, 8) := by kernel_rfl
theorem Tryz.infoTp : (Tryz.prog.info? 228).map (fun i => (i.zero, i.size, i.bytes)) = some (some (.pointer none), 1, 8) := by kernel_rfl
theorem run_append_dptr (w : World) (ty : TypeId) (base : Nat) (s : Value) (n : Nat) (xs : List Value) (g c : Nat) (p : Value) (hp : p.oneCell' = true) (hs : w.ownsRow base 257 1 s n xs) (hx : w.cell? ⟨g, 0, none⟩ = some p) (hn : (n + 1) * 8 ≤ 140737488355328) (hb : base ≤ w.heap.size) :
    ∃ s' w', (Builtin.append_ #[154, 154] ty #[s, .slice (some ⟨g, 0, none⟩) 1 c]).run Tryz.prog w = .ok s' w' ∧ Hid (w'.ownsRow base 257 1 s' (n + 1) (xs ++ [p])) ∧ w.grownBy w' s.ownBlock ∧ (s'.ownBlock = s.ownBlock ∨ s'.ownBlock = some w.heap.size) := by
  refine (?_ : ∃ s' w', (Builtin.append_ #[154, 154] ty #[s, .slice (some ⟨g, 0, none⟩) 1 c]).run Tryz.prog w = .ok s' w' ∧ w'.ownsRow base 257 1 s' (n + 1) (xs ++ [p]) ∧ w.grownBy w' s.ownBlock ∧ (s'.ownBlock = s.ownBlock ∨ s'.ownBlock = some w.heap.size))
  obtain ⟨i0, hi, hz0, hz1, hz2⟩ := info_parts Tryz.infoDp
  obtain ⟨v', w', h1, h2, h3, _, h5⟩ := run_append_own_at (P := Tryz.prog) w base 154 ty 257 i0 (.pointer none) 1 8 Tryz.underlying154 hi hz0 hz1 hz2 rfl (by decide) s _ _ hs ⟨g, 0, none⟩ 1 c [p] rfl (fun j v hj => by
    match j, hj with
    | 0, hj =>
      obtain rfl : p = v := by simpa using hj
      have hadd : (⟨g, 0, none⟩ : Addr).add 0 = ⟨g, 0, none⟩ := by unfold Addr.add; split <;> simp_all
      rw [hadd]; exact hx) (by intro v hv; simp at hv; subst hv; exact hp) (by unfold maxLen; omega) (by omega) hb
  exact ⟨v', w', h1, h2, h3, h5⟩
theorem run_append_tptr (w : World) (ty : TypeId) (base : Nat) (s : Value) (n : Nat) (xs : List Value) (g c : Nat) (p : Value) (hp : p.oneCell' = true) (hs : w.ownsRow base 228 1 s n xs) (hx : w.cell? ⟨g, 0, none⟩ = some p) (hn : (n + 1) * 8 ≤ 140737488355328) (hb : base ≤ w.heap.size) :
    ∃ s' w', (Builtin.append_ #[153, 153] ty #[s, .slice (some ⟨g, 0, none⟩) 1 c]).run Tryz.prog w = .ok s' w' ∧ Hid (w'.ownsRow base 228 1 s' (n + 1) (xs ++ [p])) ∧ w.grownBy w' s.ownBlock ∧ (s'.ownBlock = s.ownBlock ∨ s'.ownBlock = some w.heap.size) := by
  refine (?_ : ∃ s' w', (Builtin.append_ #[153, 153] ty #[s, .slice (some ⟨g, 0, none⟩) 1 c]).run Tryz.prog w = .ok s' w' ∧ w'.ownsRow base 228 1 s' (n + 1) (xs ++ [p]) ∧ w.grownBy w' s.ownBlock ∧ (s'.ownBlock = s.ownBlock ∨ s'.ownBlock = some w.heap.size))
  obtain ⟨i0, hi, hz0, hz1, hz2⟩ := info_parts Tryz.infoTp
  obtain ⟨v', w', h1, h2, h3, _, h5⟩ := run_append_own_at (P := Tryz.prog) w base 153 ty 228 i0 (.pointer none) 1 8 Tryz.underlying153 hi hz0 hz1 hz2 rfl (by decide) s _ _ hs ⟨g, 0, none⟩ 1 c [p] rfl (fun j v hj => by
    match j, hj with
    | 0, hj =>
      obtain rfl : p = v := by simpa using hj
      have hadd : (⟨g, 0, none⟩ : Addr).add 0 = ⟨g, 0, none⟩ := by unfold Addr.add; split <;> simp_all
      rw [hadd]; exact hx) (by intro v hv; simp at hv; subst hv; exact hp) (by unfold maxLen; omega) (by omega) hb
  exact ⟨v', w', h1, h2, h3, h5⟩
theorem KOk.newDe2 {K : KS} (h : KOk K) {i : Nat} (hi : i < K.th.length) {flags : Int} (hf : flagsOk flags = true) (hd : K.de.length < 256) (hn : 1 ≤ K.next) : KOk (K.newDe i flags) := by
  have el : ∀ d ∈ (K.newDe i flags).de, d ∈ K.de ∨ d = ⟨K.next, i, flags, 0, 1⟩ := fun d hd => by
    rcases List.mem_append.1 hd with e | e
    · exact .inl e
    · exact .inr (by simpa using e)
  refine ⟨?_, h.named, fun d hd => ?_, h.nm, fun d hd => ?_, fun d hd d' hd' e => ?_, fun d hd => ?_, fun d hd => ?_, fun d hd => ?_, h.plan⟩
  · show (K.de ++ [_]).length ≤ 256
    rw [List.length_append]; simp; omega
  · rcases el d hd with e | rfl
    · exact h.th d e
    · exact hi
  · rcases el d hd with e | rfl
    · have := h.num d e; exact ⟨this.1, Nat.lt_succ_of_lt this.2⟩
    · exact ⟨hn, Nat.lt_succ_self _⟩
  · rcases el d hd with e1 | rfl
    · rcases el d' hd' with e2 | rfl
      · exact h.once d e1 d' e2 e
      · have h9 := (h.num d e1).2; have h8 : d.n = K.next := e; omega
    · rcases el d' hd' with e2 | rfl
      · have h9 := (h.num d' e2).2; have h8 : K.next = d'.n := e; omega
      · rfl
  · rcases el d hd with e | rfl
    · exact h.flags d e
    · exact hf
  · rcases el d hd with e | rfl
    · exact h.pos d e
    · exact Nat.zero_le _
  · rcases el d hd with e | rfl
    · exact h.held d e
    · exact ⟨Nat.le_refl _, show (1 : Nat) ≤ 1024 by decide⟩
theorem RK.newDe {W W' : World} {B : Nat → Prop} {ρ : Nat → Option Tag} {I : RI} {K : KS} (h : RK W B ρ I K) {i : Nat} (hi : i < K.th.length) {flags : Int} (hf : flagsOk flags = true) (hd : K.de.length < 256) (hn1 : 1 ≤ K.next) {nb : Nat} {v' : Value}
    (h1 : W'.heap[I.kb]? = some (.cells ([I.vT, v', .int .i64 ((K.next + 1 : Nat) : Int), .pointer (some ⟨I.pb, 0, none⟩), .int .i64 K.reads, .int .i64 K.writes] : List Value).toArray 157 (0, 0)))
    (h2 : W'.ownsRow 0 257 1 v' (K.de.length + 1) (K.de.map (fun d => .pointer (some ⟨I.db d.n, 0, none⟩)) ++ [.pointer (some ⟨nb, 0, none⟩)]))
    (h3 : W'.heap[nb]? = some (.cells ([.int .i64 K.next, .pointer (some ⟨I.tb i, 0, none⟩), .int .i64 flags, .int .i64 0, .int .i64 1] : List Value).toArray 260 (0, 0)))
    (h4 : ∀ k, v'.ownBlock = some k → I.vD.ownBlock = some k ∨ (W.heap.size ≤ k ∧ k ≠ nb)) (h5 : W.heap.size ≤ nb)
    (hk : ∀ k, k < W.heap.size → k ≠ I.kb → I.vD.ownBlock ≠ some k → W'.heap[k]? = W.heap[k]?) (hs : W.heap.size ≤ W'.heap.size) :
    ∃ ρ', RK W' B ρ' { I with vD := v', db := fun n => if n = K.next then nb else I.db n } (K.newDe i flags) := by
  have hnb : nb < W'.heap.size := (Array.getElem?_eq_some_iff.1 h3).1
  obtain ⟨ρ', hρ⟩ : ∃ ρ' : Nat → Option Tag, ∀ k, (k < W.heap.size → ρ' k = ρ k) ∧ (¬ k < W.heap.size → (k = nb → ρ' k = some (.desc K.next)) ∧ (k ≠ nb → (v'.ownBlock = some k → ρ' k = some .drow) ∧ (v'.ownBlock ≠ some k → ρ' k = none))) :=
    ⟨fun k => if k < W.heap.size then ρ k else if k = nb then some (.desc K.next) else if v'.ownBlock = some k then some .drow else none, fun k => ⟨fun hk => if_pos hk, fun hk => ⟨fun e => (if_neg hk).trans (if_pos e), fun e => ⟨fun e' => (if_neg hk).trans ((if_neg e).trans (if_pos e')), fun e' => (if_neg hk).trans ((if_neg e).trans (if_neg e'))⟩⟩⟩⟩
  have old : ∀ k t, ρ k = some t → ρ' k = some t := fun k t e => by rw [(hρ k).1 (h.lt k t e).2]; exact e
  have kr := (h.comp .kern).2
  have dr := (h.comp .drow).2
  have keep : ∀ t, t ≠ .kern → t ≠ .drow → RComp W' B ρ I K t := fun t n1 n2 => (h.comp t).keep (fun k e hlt => hk k hlt (fun e' => by subst e'; rw [kr] at e; exact n1 (Option.some.inj e).symm) (fun e' => by have := dr k e'; rw [e] at this; exact n2 (Option.some.inj this))) hs
  refine ⟨ρ', ⟨fun t => ?_, fun k t e => ?_, ?_, fun k e => h.up k (Nat.le_trans hs e)⟩⟩
  · cases t with
    | kern => exact ⟨h1, old _ _ kr⟩
    | trow => have := keep .trow (by simp) (by simp); exact ⟨this.1, fun k e => old _ _ (this.2 k e)⟩
    | drow =>
      refine ⟨?_, fun k e => ?_⟩
      · have e : (K.newDe i flags).de.map (fun d => Value.pointer (some ⟨(if d.n = K.next then nb else I.db d.n), 0, none⟩)) = K.de.map (fun d => Value.pointer (some ⟨I.db d.n, 0, none⟩)) ++ [.pointer (some ⟨nb, 0, none⟩)] := by
          show (K.de ++ [(⟨K.next, i, flags, 0, 1⟩ : De)]).map _ = _
          rw [List.map_append]
          congr 1
          · apply List.map_congr_left
            intro d hd
            have := (h.ok.num d hd).2
            rw [if_neg (by omega)]
          · simp
        show W'.ownsRow 0 _ 1 v' (K.de ++ [(⟨K.next, i, flags, 0, 1⟩ : De)]).length ((K.newDe i flags).de.map _)
        rw [e, List.length_append]
        exact h2
      · rcases h4 k e with h6 | ⟨h6, h7⟩
        · exact old _ _ (dr k h6)
        · exact (((hρ k).2 (by omega)).2 h7).1 e
    | plan => have := keep .plan (by simp) (by simp); exact ⟨this.1, old _ _ this.2.1, fun k e => old _ _ (this.2.2 k e)⟩
    | thing j => intro hj; have := keep (.thing j) (by simp) (by simp) hj; exact ⟨this.1, old _ _ this.2⟩
    | obj j => intro hj; have := keep (.obj j) (by simp) (by simp) hj; exact ⟨this.1.mono fun k e => old _ _ e, this.2⟩
    | desc n =>
      intro d hd' e
      rcases List.mem_append.1 hd' with hm | hm
      · have hlt := (h.ok.num d hm).2
        have := keep (.desc n) (by simp) (by simp) d hm e
        have hne : ¬ n = K.next := by omega
        refine ⟨?_, ?_⟩
        · show W'.heap[if n = K.next then nb else I.db n]? = _
          rw [if_neg hne]; exact this.1
        · show ρ' (if n = K.next then nb else I.db n) = _
          rw [if_neg hne]; exact old _ _ this.2
      · obtain rfl : d = ⟨K.next, i, flags, 0, 1⟩ := by simpa using hm
        obtain rfl : K.next = n := e
        refine ⟨?_, ?_⟩
        · show W'.heap[if K.next = K.next then nb else I.db K.next]? = _
          rw [if_pos rfl]; exact h3
        · show ρ' (if K.next = K.next then nb else I.db K.next) = _
          rw [if_pos rfl]; exact ((hρ nb).2 (by omega)).1 rfl
  · by_cases hlt : k < W.heap.size
    · rw [(hρ k).1 hlt] at e; exact ⟨(h.lt k t e).1, Nat.lt_of_lt_of_le (h.lt k t e).2 hs⟩
    · by_cases hn : k = nb
      · exact ⟨h.up k (by omega), by omega⟩
      · by_cases hv : v'.ownBlock = some k
        · exact ⟨h.up k (by omega), (h2.lt k hv).2⟩
        · rw [(((hρ k).2 hlt).2 hn).2 hv] at e; cases e
  · exact KOk.newDe2 h.ok hi hf hd hn1
end Go.Proofs.YtanbiinomagdbaaGreat

/- The reference's kernel: desc. -/
namespace Go.Proofs.YtanbiinomagdbaaGreat
open Go.RowKit

def RKAdd (w : World) (B : Nat → Prop) (I : RI) (n : Nat) (K' : KS) (w' : World) : Prop := ∃ ρ' I', RK w' B ρ' I' K' ∧ I'.kb = I.kb ∧ (∀ j, j < n → I'.tb j = I.tb j ∧ I'.ob j = I.ob j) ∧ Turned B w w'
set_option maxRecDepth 100000 in
set_option maxHeartbeats 4000000 in
theorem rdesc_any (B : Nat → Prop) (ρ : Nat → Option Tag) (I : RI) (K : KS) (i : Nat) (flags : Int) (w : World) (h : RK w B ρ I K) (hi : i < K.th.length) (hf : flagsOk flags = true) (hd : K.de.length < 256) (hn1 : 1 ≤ K.next) (hn : K.next < 9223372036854775807) :
    Calls Tryz.prog 148 #[.pointer (some ⟨I.kb, 0, none⟩), .pointer (some ⟨I.tb i, 0, none⟩), .int .i64 flags] w fun e w' => e = .returned (.int .i64 K.next) ∧ RKAdd w B I K.th.length (K.newDe i flags) w' := by
  have hb := (h.comp .kern).1
  have hkl : I.kb < w.heap.size := (Array.getElem?_eq_some_iff.1 hb).1
  have hrow := (h.comp .drow).1
  have hdr := (h.comp .drow).2
  have hkr := (h.comp .kern).2
  have c1 : w.cell? ⟨I.kb, 1, none⟩ = some I.vD := by rw [cell_of_row w I.kb 1 _ _ _ hb]; rfl
  have c2 : w.cell? ⟨I.kb, 2, none⟩ = some (.int .i64 K.next) := by rw [cell_of_row w I.kb 2 _ _ _ hb]; rfl
  obtain ⟨da, dc, hdv⟩ := owns_slice hrow
  rw [hdv] at c1
  obtain ⟨o1, ho1⟩ : ∃ o1, o1 = Obj.cells #[.int .i64 K.next, .pointer (some ⟨I.tb i, 0, none⟩), .int .i64 flags, .int .i64 0, .int .i64 1] 260 := ⟨_, rfl⟩
  obtain ⟨o2, ho2⟩ : ∃ o2, o2 = Obj.cells #[.pointer (some ⟨w.heap.size, 0, none⟩)] 257 := ⟨_, rfl⟩
  have hB1 := recv_below w o1
  have hB2 := recv_below (w.alloc o1) o2
  have hs1 : (w.alloc o1).heap.size = w.heap.size + 1 := by simp
  have hs2 : ((w.alloc o1).alloc o2).heap.size = w.heap.size + 2 := by simp
  have hB12 : Below w.heap.size w ((w.alloc o1).alloc o2).drew := (hB1.trans (hB2.mono (by omega))).drew
  have hx2 : ((w.alloc o1).alloc o2).drew.cell? ⟨w.heap.size + 1, 0, none⟩ = some (.pointer (some ⟨w.heap.size, 0, none⟩)) := by
    have := heap_alloc_new (w.alloc o1) o2
    rw [hs1] at this
    show ((w.alloc o1).alloc o2).cell? ⟨w.heap.size + 1, 0, none⟩ = _
    rw [World.cell?, this, ho2]
    rfl
  obtain ⟨s', w3, hrun, HO3, hg3, hb3⟩ := run_append_dptr ((w.alloc o1).alloc o2).drew 154 0 I.vD K.de.length _ (w.heap.size + 1) 1 (.pointer (some ⟨w.heap.size, 0, none⟩)) rfl (owns_keep hrow (fun k e => hB12.block k (hrow.lt k e).2)) hx2 (by omega) (by have := hB12.size; omega)
  rw [hdv] at hrun
  have HR := hide hrun
  have d1 : ∀ W, Below w.heap.size w W → W.cell? ⟨I.kb, 1, none⟩ = some (.slice da K.de.length dc) ∧ W.cell? ⟨I.kb, 2, none⟩ = some (.int .i64 K.next) := fun W hW => ⟨(hW.cell (p := ⟨I.kb, 1, none⟩) hkl).trans c1, (hW.cell (p := ⟨I.kb, 2, none⟩) hkl).trans c2⟩
  have e0 := d1 w.drew (Below.refl _ w).drew
  have e1 := d1 (w.alloc o1).drew hB1.drew
  have e2 := d1 ((w.alloc o1).alloc o2).drew hB12
  obtain ⟨sa, sc, rfl⟩ := owns_slice HO3.out
  -- where the kernel is behind it
  have hkb3 : w3.heap[I.kb]? = w.heap[I.kb]? := (hg3.block I.kb (by show I.kb < ((w.alloc o1).alloc o2).heap.size; omega) (fun e => by
    have h9 := hdr I.kb e.symm
    rw [hkr] at h9
    cases h9)).trans (hB12.block I.kb hkl)
  have hb3' : w3.heap[I.kb]? = some (.cells ([I.vT, I.vD, .int .i64 K.next, .pointer (some ⟨I.pb, 0, none⟩), .int .i64 K.reads, .int .i64 K.writes] : List Value).toArray 157 (0, 0)) := hkb3.trans hb
  have f1 : w3.frozen? ⟨I.kb, 1, none⟩ = false := frozen_of_row w3 I.kb 1 _ _ hb3'
  have f1c : w3.cell? ⟨I.kb, 1, none⟩ = some (.slice da K.de.length dc) := by rw [cell_of_row w3 I.kb 1 _ _ _ hb3', ← hdv]; rfl
  have hb4 := heap_setCell_same 1 (.slice sa (K.de.length + 1) sc) hb3'
  simp only [List.set_cons_succ, List.set_cons_zero] at hb4
  have f2 : (w3.setCell ⟨I.kb, 1, none⟩ (.slice sa (K.de.length + 1) sc)).frozen? ⟨I.kb, 2, none⟩ = false := frozen_of_row _ I.kb 2 _ _ hb4
  have f2c : (w3.setCell ⟨I.kb, 1, none⟩ (.slice sa (K.de.length + 1) sc)).cell? ⟨I.kb, 2, none⟩ = some (.int .i64 K.next) := by rw [cell_of_row _ I.kb 2 _ _ _ hb4]; rfl
  have hb5 := heap_setCell_same 2 (.int .i64 ((K.next : Int) + 1)) hb4
  simp only [List.set_cons_succ, List.set_cons_zero] at hb5
  have f5c : ((w3.setCell ⟨I.kb, 1, none⟩ (.slice sa (K.de.length + 1) sc)).setCell ⟨I.kb, 2, none⟩ (.int .i64 ((K.next : Int) + 1))).cell? ⟨I.kb, 2, none⟩ = some (.int .i64 ((K.next : Int) + 1)) := by rw [cell_of_row _ I.kb 2 _ _ _ hb5]; rfl
  have HE : Hid (RKAdd w B I K.th.length (K.newDe i flags) ((w3.setCell ⟨I.kb, 1, none⟩ (.slice sa (K.de.length + 1) sc)).setCell ⟨I.kb, 2, none⟩ (.int .i64 ((K.next : Int) + 1)))) := hide (by
    have hlt3 : ((w.alloc o1).alloc o2).drew.heap.size ≤ w3.heap.size := hg3.size
    have hs2' : ((w.alloc o1).alloc o2).drew.heap.size = w.heap.size + 2 := hs2
    have hne : ∀ k, k < w.heap.size → I.vD.ownBlock ≠ some k → w3.heap[k]? = w.heap[k]? := fun k hk hv => (hg3.block k (by omega) (fun e => hv e.symm)).trans (hB12.block k hk)
    have hsz : ((w3.setCell ⟨I.kb, 1, none⟩ (.slice sa (K.de.length + 1) sc)).setCell ⟨I.kb, 2, none⟩ (.int .i64 ((K.next : Int) + 1))).heap.size = w3.heap.size := by simp [World.setCell]
    have hoth : ∀ k, k ≠ I.kb → ((w3.setCell ⟨I.kb, 1, none⟩ (.slice sa (K.de.length + 1) sc)).setCell ⟨I.kb, 2, none⟩ (.int .i64 ((K.next : Int) + 1))).heap[k]? = w3.heap[k]? := fun k hk => (Below.heap_setCell _ _ _ _ hk).trans (Below.heap_setCell _ _ _ _ hk)
    have hsl : ∀ k, (Value.slice sa (K.de.length + 1) sc).ownBlock = some k → k ≠ I.kb ∧ (I.vD.ownBlock = some k ∨ (w.heap.size ≤ k ∧ k ≠ w.heap.size)) := fun k hk => by
      rcases hb3 with e | e
      · rw [e] at hk
        refine ⟨fun e' => ?_, .inl hk⟩
        have h9 := hdr k hk
        rw [e', hkr] at h9
        cases h9
      · rw [e] at hk
        have h7 := Option.some.inj hk
        exact ⟨by omega, .inr ⟨by omega, by omega⟩⟩
    obtain ⟨ρ', hK'⟩ := h.newDe (W' := (w3.setCell ⟨I.kb, 1, none⟩ (.slice sa (K.de.length + 1) sc)).setCell ⟨I.kb, 2, none⟩ (.int .i64 ((K.next : Int) + 1))) hi hf hd hn1 (nb := w.heap.size) (v' := .slice sa (K.de.length + 1) sc)
      (by rw [show ((K.next + 1 : Nat) : Int) = (K.next : Int) + 1 by omega]; exact hb5)
      (owns_keep HO3.out (fun k e => hoth k (hsl k e).1))
      (by
        rw [hoth _ (by omega), hg3.block w.heap.size (by omega) (fun e => by have := (hrow.lt _ e.symm).2; omega)]
        show ((w.alloc o1).alloc o2).heap[w.heap.size]? = _
        rw [Below.heap_alloc (w.alloc o1) o2 w.heap.size (by omega), heap_alloc_new, ho1])
      (fun k e => (hsl k e).2) (Nat.le_refl _)
      (fun k hk n1 n2 => (hoth k n1).trans (hne k hk n2)) (by omega)
    exact ⟨ρ', _, hK', rfl, fun j _ => ⟨rfl, rfl⟩, ⟨hg3.os.trans hB12.os, hg3.tape.trans hB12.tape, hg3.output.trans hB12.output, by omega, fun k hk hnb => (hoth k (fun e => hnb (e ▸ (h.lt _ _ hkr).1))).trans (hne k hk (fun e => hnb (h.lt _ _ ((h.comp .drow).2 k e)).1))⟩⟩)
  subst ho1
  subst ho2
  have HX := hide (And.intro hB1 (And.intro hB2 (And.intro hB12 hx2)))
  clear h hb hrow hdr hkr hB1 hB2 hB12 hx2 hrun HO3 hg3 hb3 hkb3 hb3' hb4 hb5 hdv d1 HX hs1 hs2
  obtain ⟨e01, e02⟩ := e0
  obtain ⟨e11, e12⟩ := e1
  obtain ⟨e21, e22⟩ := e2
  go_enter Tryz.func148, Tryz.ntmps148
  go_wp2_with fail
  go_region_law (first | (refine step_append_run _ (by rfl) _ _ _ _ (by rfl) _ _ (by rfl) (by rfl) _ _ HR.out ?_) | fail)
  all_goals
    go_wp2
    go_ret
    exact ⟨ret_int (by omega), HE.out⟩
end Go.Proofs.YtanbiinomagdbaaGreat

/- The reference's kernel: one thing more; Pipe. -/
namespace Go.Proofs.YtanbiinomagdbaaGreat
open Go.RowKit

def KS.more (K : KS) (t : Th) : KS := { K with th := K.th ++ [t] }
def updT (f : Nat → Nat) (n v : Nat) : Nat → Nat := fun j => if j = n then v else f j
theorem updT_old {f : Nat → Nat} {n v j : Nat} (h : j < n) : updT f n v j = f j := by unfold updT; rw [if_neg (by omega)]
theorem updT_new {f : Nat → Nat} {n v : Nat} : updT f n v n = v := by unfold updT; rw [if_pos rfl]
theorem RK.more {W W' : World} {B : Nat → Prop} {ρ : Nat → Option Tag} {I : RI} {K : KS} (h : RK W B ρ I K) (t : Th) {nb ob : Nat} {O : Nat → Prop} (hk : ∀ k, k < W.heap.size → W'.heap[k]? = W.heap[k]?) (hs : W.heap.size ≤ W'.heap.size) (hnb : W.heap.size ≤ nb)
    (hth : W'.heap[nb]? = some (.cells (tcells t ob).toArray 232 (0, 0))) (hO : RObj W' O ob t.ob) (hOn : ∀ k, O k → W.heap.size ≤ k ∧ k ≠ nb) (hok : t.ob.ok) :
    ∃ ρ', RK W' B ρ' { I with tb := updT I.tb K.th.length nb, ob := updT I.ob K.th.length ob } (K.more t) := by
  have hnl : nb < W'.heap.size := (Array.getElem?_eq_some_iff.1 hth).1
  have hOt := hO.trim
  obtain ⟨ρ', hρ⟩ : ∃ ρ' : Nat → Option Tag, ∀ k, (k < W.heap.size → ρ' k = ρ k) ∧ (¬ k < W.heap.size → (k = nb → ρ' k = some (.thing K.th.length)) ∧ (k ≠ nb → (O k ∧ k < W'.heap.size → ρ' k = some (.obj K.th.length)) ∧ (¬ (O k ∧ k < W'.heap.size) → ρ' k = none))) :=
    ⟨fun k => if k < W.heap.size then ρ k else if k = nb then some (.thing K.th.length) else @ite _ (O k ∧ k < W'.heap.size) (Classical.propDecidable _) (some (.obj K.th.length)) none, fun k => ⟨fun hk => if_pos hk, fun hk => ⟨fun e => (if_neg hk).trans (if_pos e), fun e => ⟨fun e' => (if_neg hk).trans ((if_neg e).trans (@if_pos _ (Classical.propDecidable _) e' _ _ _)), fun e' => (if_neg hk).trans ((if_neg e).trans (@if_neg _ (Classical.propDecidable _) e' _ _ _))⟩⟩⟩⟩
  have old : ∀ k t, ρ k = some t → ρ' k = some t := fun k t e => by rw [(hρ k).1 (h.lt k t e).2]; exact e
  have keep : ∀ t, RComp W' B ρ I K t := fun t => (h.comp t).keep (fun k _ hlt => hk k hlt) hs
  have hlen : (K.more t).th.length = K.th.length + 1 := by show (K.th ++ [t]).length = _; simp
  have hget : ∀ j (hj : j < K.th.length) (hj' : j < (K.more t).th.length), (K.more t).th[j] = K.th[j] := fun j hj hj' => by simp [KS.more, hj]
  have hgetn : ∀ (hj' : K.th.length < (K.more t).th.length), (K.more t).th[K.th.length] = t := fun hj' => by simp [KS.more]
  refine ⟨ρ', ⟨fun t' => ?_, fun k t' e => ?_, ?_, fun k e => h.up k (Nat.le_trans hs e)⟩⟩
  · cases t' with
    | kern => have := keep .kern; exact ⟨this.1, old _ _ this.2⟩
    | trow =>
      have := keep .trow
      refine ⟨?_, fun k e => old _ _ (this.2 k e)⟩
      show W'.ownsRow 0 _ 1 I.vT K.nm.length (K.nm.map fun i => Value.pointer (some ⟨updT I.tb K.th.length nb i, 0, none⟩))
      rw [show (K.nm.map fun i => Value.pointer (some ⟨updT I.tb K.th.length nb i, 0, none⟩)) = K.nm.map fun i => Value.pointer (some ⟨I.tb i, 0, none⟩) from List.map_congr_left fun i hi => by rw [updT_old (h.ok.nm i hi)]]
      exact this.1
    | drow => have := keep .drow; exact ⟨this.1, fun k e => old _ _ (this.2 k e)⟩
    | plan => have := keep .plan; exact ⟨this.1, old _ _ this.2.1, fun k e => old _ _ (this.2.2 k e)⟩
    | thing j =>
      intro hj
      by_cases e : j < K.th.length
      · have := keep (.thing j) e
        show W'.heap[updT I.tb K.th.length nb j]? = some (.cells (tcells (K.more t).th[j] (updT I.ob K.th.length ob j)).toArray _ _) ∧ ρ' (updT I.tb K.th.length nb j) = _
        rw [updT_old e, updT_old e, hget j e hj]
        exact ⟨this.1, old _ _ this.2⟩
      · obtain rfl : j = K.th.length := by omega
        show W'.heap[updT I.tb K.th.length nb K.th.length]? = some (.cells (tcells (K.more t).th[K.th.length] (updT I.ob K.th.length ob K.th.length)).toArray _ _) ∧ ρ' (updT I.tb K.th.length nb K.th.length) = _
        rw [updT_new, updT_new, hgetn hj]
        exact ⟨hth, ((hρ nb).2 (by omega)).1 rfl⟩
    | obj j =>
      intro hj
      by_cases e : j < K.th.length
      · have := keep (.obj j) e
        show RObj W' _ (updT I.ob K.th.length ob j) (K.more t).th[j].ob ∧ (K.more t).th[j].ob.ok
        rw [updT_old e, hget j e hj]
        exact ⟨this.1.mono fun k e => old _ _ e, this.2⟩
      · obtain rfl : j = K.th.length := by omega
        show RObj W' _ (updT I.ob K.th.length ob K.th.length) (K.more t).th[K.th.length].ob ∧ (K.more t).th[K.th.length].ob.ok
        rw [updT_new, hgetn hj]
        refine ⟨hOt.mono fun k e => ?_, hok⟩
        have := hOn k e.1
        exact (((hρ k).2 (by omega)).2 this.2).1 e
    | desc n =>
      intro d hd e
      have := keep (.desc n) d hd e
      show W'.heap[I.db n]? = some (.cells ([.int .i64 n, .pointer (some ⟨updT I.tb K.th.length nb d.th, 0, none⟩), .int .i64 d.flags, .int .i64 d.pos, .int .i64 d.held] : List Value).toArray _ _) ∧ _
      rw [updT_old (h.ok.th d hd)]
      exact ⟨this.1, old _ _ this.2⟩
  · by_cases hlt : k < W.heap.size
    · rw [(hρ k).1 hlt] at e; exact ⟨(h.lt k t' e).1, Nat.lt_of_lt_of_le (h.lt k t' e).2 hs⟩
    · by_cases hn : k = nb
      · exact ⟨h.up k (by omega), by omega⟩
      · by_cases ho : O k ∧ k < W'.heap.size
        · exact ⟨h.up k (by omega), ho.2⟩
        · rw [(((hρ k).2 hlt).2 hn).2 ho] at e; cases e
  · exact ⟨h.ok.few, h.ok.named, fun d hd => by rw [hlen]; exact Nat.lt_succ_of_lt (h.ok.th d hd), fun i hi => by rw [hlen]; exact Nat.lt_succ_of_lt (h.ok.nm i hi), h.ok.num, h.ok.once, h.ok.flags, h.ok.pos, h.ok.held, h.ok.plan⟩
end Go.Proofs.YtanbiinomagdbaaGreat

/- The reference's kernel: a thing by its name. -/
namespace Go.Proofs.YtanbiinomagdbaaGreat
open Go.RowKit

theorem RK.tcell {W : World} {B : Nat → Prop} {ρ : Nat → Option Tag} {I : RI} {K : KS} (h : RK W B ρ I K) {i : Nat} (hi : i < K.th.length) : W.cell? ⟨I.tb i, 0, none⟩ = some (.string (K.nameOf i)) ∧ W.cell? ⟨I.tb i, 1, none⟩ = some (.int .i64 (K.obOf i).kind) ∧
    (∀ b, K.obOf i = .file b → W.cell? ⟨I.tb i, 2, none⟩ = some (.pointer (some ⟨I.ob i, 0, none⟩))) ∧ (∀ ls scr, K.obOf i = .term ls scr → W.cell? ⟨I.tb i, 3, none⟩ = some (.pointer (some ⟨I.ob i, 0, none⟩))) := by
  have h2 := (h.comp (.thing i) hi).1
  have hn : K.nameOf i = K.th[i].name := by simp [KS.nameOf, hi]
  rw [KS.obOf_eq hi, hn]
  refine ⟨?_, ?_, fun b e => ?_, fun ls scr e => ?_⟩
  · rw [cell_of_row W _ 0 _ _ _ h2]
    cases h3 : K.th[i].ob <;> simp [tcells, h3]
  · rw [cell_of_row W _ 1 _ _ _ h2]
    cases h3 : K.th[i].ob <;> simp [tcells, h3, Ob.kind]
  · rw [cell_of_row W _ 2 _ _ _ h2]; simp [tcells, e]
  · rw [cell_of_row W _ 3 _ _ _ h2]; simp [tcells, e]
set_option maxRecDepth 100000 in
set_option maxHeartbeats 2000000 in
theorem rthing_any (B : Nat → Prop) (ρ : Nat → Option Tag) (I : RI) (K : KS) (s : ByteArray) (w : World) (h : RK w B ρ I K) :
    Calls Tryz.prog 147 #[.pointer (some ⟨I.kb, 0, none⟩), .string s] w fun e w' => e = .returned (.pointer ((K.byName s).map fun i => ⟨I.tb i, 0, none⟩)) ∧ w' = w := by
  have hb := (h.comp .kern).1
  have c1 : w.cell? ⟨I.kb, 0, none⟩ = some I.vT := by rw [cell_of_row w I.kb 0 _ _ _ hb]; rfl
  have HD := hide (h.comp .trow).1
  have HC := hide fun i (hi : i ∈ K.nm) => (h.tcell (h.ok.nm i hi)).1
  have hfew := h.ok.named
  obtain ⟨va, vc, hv⟩ := owns_slice (h.comp .trow).1
  rw [hv] at c1 HD
  clear h hb hv
  obtain ⟨R, hR⟩ : ∃ R, R = (K.byName s).map fun i => (⟨I.tb i, 0, none⟩ : Addr) := ⟨_, rfl⟩
  rw [← hR]
  have HR := hide hR
  clear hR
  go_enter Tryz.func147, Tryz.ntmps147
  go_wp2
  go_loop [5] (fun i => ∃ k : Nat, k ≤ K.nm.length ∧ i = .int .i64 k ∧ Hid (∀ j (hj : j < K.nm.length), j < k → K.nameOf K.nm[j] ≠ s)) (fun i => K.nm.length - (intOf i).toNat)
  case atStart => exact ⟨0, Nat.zero_le _, rfl, fun _ _ h => by omega⟩
  case round =>
    obtain ⟨k, hk, rfl, HA⟩ := hrel
    by_cases hlt : k < K.nm.length
    · obtain ⟨b, rfl⟩ : ∃ b, va = some ⟨b, 0, none⟩ := by
        rcases HD.out.2 with ⟨h0, _⟩ | ⟨g, cap, cur, h1, _⟩
        · simp only [Value.slice.injEq] at h0; omega
        · simp only [Value.slice.injEq] at h1; exact ⟨g, h1.1⟩
      have hcell := HD.out.cellAt k (by simpa using hlt)
      rw [List.getElem?_map, List.getElem?_eq_getElem hlt] at hcell
      simp only [Option.map_some] at hcell
      have hn := HC.out K.nm[k] (List.getElem_mem _)
      have hk1 : (0 : Int) ≤ (k : Int) := by omega
      have hk2 : (k : Int) < (K.nm.length : Int) := by omega
      obtain ⟨x, hx⟩ : ∃ x, x = K.nm[k] := ⟨_, rfl⟩
      rw [← hx] at hcell hn
      have HX := hide hx
      clear hx
      obtain ⟨nx, hnx⟩ : ∃ nx, nx = K.nameOf x := ⟨_, rfl⟩
      rw [← hnx] at hn
      have HNx := hide hnx
      clear hnx
      by_cases he : nx = s
      · have HF : Hid (R = some ⟨I.tb x, 0, none⟩) := hide (by
          rw [HR.out, show K.byName s = some x by
            unfold KS.byName
            rw [List.find?_eq_some_iff_getElem]
            exact ⟨by rw [← HNx.out]; simpa using he, k, hlt, HX.out.symm, fun j hj => by simpa using HA.out j (by omega) hj⟩]
          rfl)
        subst he
        go_wp2
        go_ret
        exact ⟨by rw [HF.out]; rfl, rfl⟩
      · have he2 : (nx.toList == s.toList) = false := by rw [ByteArray.toList_eq, ByteArray.toList_eq, beq_eq_false_iff_ne]; exact bytes_ne he
        have he3 : ¬ nx.toList = s.toList := by rw [ByteArray.toList_eq, ByteArray.toList_eq]; exact bytes_ne he
        go_wp2
        all_goals
          go_round
          case rel =>
            refine ⟨k + 1, by omega, by go_num, fun j hj hjk => ?_⟩
            rcases Nat.lt_or_ge j k with h | h
            · exact HA.out j hj h
            · obtain rfl : j = k := by omega
              rw [← HX.out, ← HNx.out]
              exact he
          case measure => simp [intOf]; omega
    · have HF : Hid (R = none) := hide (by
        rw [HR.out, show K.byName s = none by
          unfold KS.byName
          rw [List.find?_eq_none]
          intro x hx
          obtain ⟨j, hj, rfl⟩ := List.getElem_of_mem hx
          simpa using HA.out j hj (by omega)]
        rfl)
      go_wp2
      go_ret
      exact ⟨by rw [HF.out]; rfl, rfl⟩
end Go.Proofs.YtanbiinomagdbaaGreat

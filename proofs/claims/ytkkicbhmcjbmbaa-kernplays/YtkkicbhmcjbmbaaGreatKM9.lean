/- What the proof stands on, part 9: the contracts of the program's calls that it reaches. -/
import Derived.Test.YtkkicbhmcjbmbaaGreatKM8
import Derived.Maps.OwnSet
import Derived.Sort.KeysCollected
/- The reference's kernel: Write, to a file. -/
namespace Go.Proofs.YtkkicbhmcjbmbaaGreat
open Go.RowKit

theorem mem_new_de {K : KS} {x y : De} (h : x ∈ K.de) (hn : y.n = x.n) : y ∈ (K.setDe y).de := by
  unfold KS.setDe
  exact List.mem_map.2 ⟨x, h, by rw [if_pos hn.symm]⟩
set_option maxRecDepth 100000 in
set_option maxHeartbeats 2000000 in
theorem rkwrite_file (B : Nat → Prop) (ρ : Nat → Option Tag) (I : RI) (K : KS) (d : Int) (b : List UInt8) (a1 : Option Addr) (cx : Nat) (w : World) (h : RK w B ρ I K) (hr : K.writes < 9223372036854775807) (hb : Bys w (.slice a1 b.length cx) b) (hcap : b.length ≤ cx) (hap : ∀ k, (Value.slice a1 b.length cx).ownBlock = some k → ¬ B k)
    {x : De} (hx : K.find d = some x) (h1 : fbit x.flags 2 ≠ 0) (h2 : ¬ 1048576 < b.length) (h3 : ¬ b.length = 0) {f : List UInt8} (ho : K.tho x = .file f) :
    Calls Tryz.prog 56 #[.pointer (some ⟨I.kb, 0, none⟩), .int .i64 d, .slice a1 b.length cx] w (RKNum w B I.kb (K.write d b)) := by
  have HF := hide (rfind_any B ρ I K d w h)
  have HX := hide fun E => RKNum.refused h 0 E
  have HW := hide (And.intro hx (And.intro h1 (And.intro h2 h3)))
  rw [hx] at HF
  have hm := (KS.find_some hx).1
  have hd := h.de hm
  have c1 := hd.t
  have c2 := hd.kind
  have c3 := hd.f
  have hlt := hd.lt
  rw [ho] at c2
  simp only [Ob.kind] at c2
  have c4 := (h.ptr hm).1 f ho
  have hO := h.robj hm
  rw [ho] at hO
  have hfl : f.length ≤ 1048576 := hO.2
  obtain ⟨P, hP⟩ : ∃ P, P = placeOf f x.flags x.pos := ⟨_, rfl⟩
  have hPl : P ≤ 1048576 := by
    have := h.ok.pos x hm
    rw [hP]; unfold placeOf; split <;> omega
  have HO := hide hO
  have HB := hide hb
  have HK := hide h
  have m2 : ¬ (1048576 : Int) < (b.length : Int) := by omega
  have m3 : ¬ (b.length : Int) = 0 := by omega
  have m4 : ((b.length : Int) == 0) = false := by rw [beq_eq_false_iff_ne]; exact m3
  obtain ⟨v, hv⟩ : ∃ v, bits .and .i64 x.flags 2 = v := ⟨_, rfl⟩
  have k0 : ¬ v = 0 := by rw [← hv]; exact h1
  have m0 : (v == 0) = false := by simpa using k0
  have HRo := hide (rroom_any B ρ I K x w h hm (by rw [ho]; simp [Ob.kind]))
  rw [ho, room_place, ← hP] at HRo
  by_cases hfull : P = 1048576
  · have hrf : refusal (.file f) x.flags x.pos b.length = 31 := by show (if placeOf f x.flags x.pos = 1048576 then (31 : Int) else 0) = 31; rw [← hP, if_pos hfull]
    have hW := rkw_refused (b := b) hx h1 h2 h3 (by rw [ho, hrf]; decide)
    rw [ho, hrf] at hW
    rw [hW]
    rw [hfull] at HRo
    clear h hd hb hO hW hrf hfull hPl hP
    go_enter Tryz.func56, Tryz.ntmps56
    go_wp2_with fail
    refine HF.out.mono ?_
    rintro e w1 ⟨rfl, rfl⟩
    simp only [Option.map_some]
    go_wp2_with fail
    refine HRo.out.mono ?_
    rintro e w1 ⟨rfl, rfl⟩
    go_wp2
    go_ret2
    exact HX.out 31
  have hrf : refusal (.file f) x.flags x.pos b.length = 0 := by show (if placeOf f x.flags x.pos = 1048576 then (31 : Int) else 0) = 0; rw [← hP, if_neg hfull]
  obtain ⟨R, hR⟩ : ∃ R, R = 1048576 - P := ⟨_, rfl⟩
  have hR0 : ¬ (R : Int) = 0 := by omega
  have hR1 : ((R : Int) == 0) = false := by rw [beq_eq_false_iff_ne]; exact hR0
  rw [← hR] at HRo
  obtain ⟨q5, q5s, q3, HN⟩ := h.wup (b.length : Int) (by omega) (by omega)
  by_cases hE : (nxt K.plan (b.length : Int)).2 = 0
  · have hg := nxt_good (l := K.plan) (want := (b.length : Int)) h.ok.plan (by omega) (by omega) hE
    have hW : K.write d b = (((min (nxt K.plan b.length).1.toNat (1048576 - placeOf f x.flags x.pos) : Nat) : Int), 0, (K.writeUp.setOb x.th (.file (wrL f (placeOf f x.flags x.pos) (b.take (min (nxt K.plan b.length).1.toNat (1048576 - placeOf f x.flags x.pos)))))).setDe { x with pos := placeOf f x.flags x.pos + min (nxt K.plan b.length).1.toNat (1048576 - placeOf f x.flags x.pos) }) := by
      unfold KS.write
      rw [hx]
      simp only
      rw [if_neg h1, if_neg h2, if_neg h3, if_pos (by rw [ho]; exact hrf), if_pos hE, ho]
    rw [hW, ← hP]
    rw [hE] at HN
    generalize (nxt K.plan (b.length : Int)).1 = m at *
    obtain ⟨mm, hmm⟩ : ∃ mm : Nat, mm = min m.toNat (1048576 - P) := ⟨_, rfl⟩
    rw [← hmm]
    have hmin : min m (R : Int) = (mm : Int) := by omega
    have hmb : mm ≤ b.length := by omega
    have hm1 : 1 ≤ mm := by omega
    have HF1 : Hid (P + mm ≤ 1048576) := hide (by omega)
    have s0 : (0 : Int) ≤ (mm : Int) := by omega
    have s1 : (mm : Int) ≤ (cx : Int) := by omega
    have HPl := hide hP
    have HRr := hide hR
    have hPl' := hPl
    obtain ⟨v4, hv4⟩ : ∃ v4, bits .and .i64 x.flags 4 = v4 := ⟨_, rfl⟩
    clear h hd hb hO hW hrf hE hfull hR hmm hg hP hPl
    have HV4 : Hid ((v4 = 0 → P = x.pos) ∧ (¬ v4 = 0 → P = f.length)) := hide (by
      rw [HPl.out]
      unfold placeOf bit
      rw [show fbit x.flags 4 = v4 from hv4]
      refine ⟨fun e => ?_, fun e => ?_⟩
      · rw [e]; rfl
      · rw [if_pos (by simpa using e)])
    have hvc : v4 = 0 ∨ (¬ v4 = 0 ∧ (v4 == 0) = false ∧ (v4 != 0) = true) := by
      by_cases e : v4 = 0
      · exact .inl e
      · exact .inr ⟨e, by simpa using e, by simpa using e⟩
    go_enter Tryz.func56, Tryz.ntmps56
    go_wp2_with fail
    refine HF.out.mono ?_
    rintro e w1 ⟨rfl, rfl⟩
    simp only [Option.map_some]
    go_wp2_with fail
    refine HRo.out.mono ?_
    rintro e w1 ⟨rfl, rfl⟩
    go_wp2_with fail
    refine HN.out.mono ?_
    rintro e w2 ⟨rfl, v', hK2, hT2⟩
    have HT2 := hide hT2
    have HK2 := hide hK2
    clear c1 c2 c3 c4 q5 q5s q3
    have hd2 := hK2.de (x := x) hm
    have c1 := hd2.t
    have c3 := hd2.f
    have c5 := hd2.p
    have c5s := hd2.soft 3
    have c2 : w2.cell? ⟨I.tb x.th, 1, none⟩ = some (.int .i64 1) := by have := hd2.kind; rw [show K.writeUp.tho x = .file f from ho] at this; exact this
    have c4 := (hK2.ptr (x := x) hm).1 f ho
    have hO2 := hK2.robj (x := x) hm
    rw [show K.writeUp.tho x = .file f from ho] at hO2
    obtain ⟨u, Bu, hF2, -⟩ := hO2.1
    have c6 := hF2.data
    obtain ⟨ua, uc, hu⟩ := owns_slice hF2.row
    rw [hu] at c6
    have HRo2 := hide (rroom_any B ρ { I with pv := v' } K.writeUp x w2 hK2 hm (by rw [show K.writeUp.tho x = .file f from ho]; simp [Ob.kind]))
    rw [show K.writeUp.tho x = .file f from ho, room_place, ← HPl.out, ← HRr.out] at HRo2
    have hB2 := HB.out.turned HT2.out (fun k hk _ e => by exact hap k hk e)
    obtain ⟨-, xb, xo, rfl, -, -⟩ := bys_block hB2 (by omega)
    have hxB : ¬ B xb := hap xb rfl
    have HB2 : Hid (Bys w2 (.slice (some ⟨xb, xo, none⟩) mm cx) (b.take mm)) := hide (by have := bys_cut hB2 0 mm cx (by omega); rw [List.drop_zero, Nat.add_zero] at this; exact this)
    have HOw : Hid (∀ k, (Value.slice (some ⟨xb, xo, none⟩) mm cx).ownBlock = some k → ¬ B k) := hide (fun k hk => by
      have h5 : xb = k := by simpa [Value.ownBlock] using hk
      subst h5
      exact hxB)
    clear hd2 hO2 hK2 hT2 hB2 hF2 hu
    rcases hvc with rfl | ⟨g1, g2, g3⟩
    · obtain rfl := HV4.out.1 rfl
      go_wp2_with (first | (go_at_call 143; refine HRo2.out.mono ?_; rintro _ w2 ⟨rfl, rfl⟩) | fail)
      have hmx : x ∈ K.writeUp.de := hm
      have HB3 := HB2
      have HT3 := HT2
      have hlo := HK2.out.lt
      have hOx := HK2.out.robj (x := x) hmx
      rw [show (K.writeUp).tho x = .file f from ho] at hOx
      have HOd := hide (hOx.1.keep (W' := (w2).drew) (fun _ _ _ => rfl) (Nat.le_refl _))
      have HKd := hide (HK2.out.below (Below.refl _ (w2)).drew)
      have HBd := hide (HB3.out.below (Below.refl _ (w2)).drew)
      have c1 := (HK2.out.de (x := x) hmx).t
      have c5 := (HK2.out.de (x := x) hmx).p
      have c4 := (HK2.out.ptr (x := x) hmx).1 f ho
      simp only at c1 c4 c5
      clear hOx
      have HNo : Hid (∀ k, (Value.slice (some ⟨xb, xo, none⟩) mm cx).ownBlock = some k → ¬ ρ k = some (.obj x.th)) := hide (fun k hk e => by exact HOw.out k hk (hlo k _ e).1)
      go_region_held3 (fun w' => w'.cell? ⟨I.db x.n, 1, none⟩ = some (.pointer (some ⟨I.tb x.th, 0, none⟩)) ∧ w'.cell? ⟨I.tb x.th, 2, none⟩ = some (.pointer (some ⟨I.ob x.th, 0, none⟩)) ∧ w'.cell? ⟨I.db x.n, 3, none⟩ = some (.int .i64 (x.pos : Nat)))
        (first | exact K5 | go_keep)
        (first
          | (go_at_call 146; refine (ob_fwrite _ _ f (b.take mm) _ _ _ HOd.out hfl HBd.out (fun _ k hk e => HNo.out k hk e)).mono ?_; rintro e w3 ⟨rfl, hs3⟩; obtain ⟨ρ', hK3, -, hT3⟩ := HKd.out.setOb (i := x.th) hlt hs3 (by show _ = K.th[x.th].ob.kind; rw [show K.th[x.th].ob = .file f by rw [← KS.tho_eq hlt]; exact ho]; rfl) (wrL_len hfl); have K5 : w3.cell? ⟨I.db x.n, 1, none⟩ = some (.pointer (some ⟨I.tb x.th, 0, none⟩)) ∧ w3.cell? ⟨I.tb x.th, 2, none⟩ = some (.pointer (some ⟨I.ob x.th, 0, none⟩)) ∧ w3.cell? ⟨I.db x.n, 3, none⟩ = some (.int .i64 (x.pos : Nat)) := ⟨(hK3.de (x := x) hmx).t, (hK3.ptr (x := x) hmx).1 _ (tho_setOb _ x _ hlt), (hK3.de (x := x) hmx).p⟩)
          | fail)
      have c7 := K5.2.2
      have c7s := (hK3.de (x := x) hmx).soft 3
      obtain ⟨hK6, hT6⟩ := hK3.setDe (x := x) (x' := { x with pos := x.pos + mm }) hmx rfl rfl rfl HF1.out (hK3.ok.held x hmx) 3 (.int .i64 ((x.pos + mm : Nat) : Int)) (by simp)
      have HK6 := hide hK6
      have hlo3 := hK3.lt
      have HT6 := hide ((HT3.out.trans ((Turned.of_below (S := B) (Below.refl _ (w2)).drew).trans hT3 (fun _ _ e => e)) (fun _ _ e => e)).trans hT6 (fun k _ e => (hlo3 _ _ e).1))
      clear hK6 hT6 hK3 K5 hlo hlo3 hT3 hs3
      go_wp2
      go_ret2
      rw [show (x.pos : Int) + (mm : Int) = ((x.pos + mm : Nat) : Int) by omega]
      exact ⟨ρ', _, rfl, HK6.out, rfl, HT6.out⟩
    · obtain rfl := HV4.out.2 g1
      obtain ⟨hKS, hTS⟩ := HK2.out.setDe (x := x) (x' := { x with pos := f.length }) hm rfl rfl rfl hfl (HK2.out.ok.held x hm) 3 (.int .i64 f.length) (by simp)
      have hlo2 := HK2.out.lt
      have HTS := hide hTS
      have HKS := hide hKS
      have HTS2 : Hid (Turned B w2 (w2.setCell ⟨I.db x.n, 3, none⟩ (.int .i64 f.length))) := hide (hTS.mono fun k e => (hlo2 k _ e).1)
      clear hKS hTS
      go_wp2_with (first | (go_at_call 143; refine HRo2.out.mono ?_; rintro _ w2 ⟨rfl, rfl⟩) | fail)
      generalize w2.setCell ⟨I.db x.n, 3, none⟩ (.int .i64 f.length) = wS at *
      have hmx : ({ x with pos := f.length } : De) ∈ (K.writeUp.setDe ({ x with pos := f.length } : De)).de := mem_new_de (x := x) hm rfl
      have HT3 := hide (HT2.out.trans HTS2.out (fun _ _ e => e))
      have HB3 := hide (HB2.out.turned HTS2.out (fun k hk _ e => by exact HOw.out k hk e))
      have hlo := HKS.out.lt
      have hOx := HKS.out.robj (x := ({ x with pos := f.length } : De)) hmx
      rw [show ((K.writeUp.setDe ({ x with pos := f.length } : De))).tho ({ x with pos := f.length } : De) = .file f from ho] at hOx
      have HOd := hide (hOx.1.keep (W' := (wS).drew) (fun _ _ _ => rfl) (Nat.le_refl _))
      have HKd := hide (HKS.out.below (Below.refl _ (wS)).drew)
      have HBd := hide (HB3.out.below (Below.refl _ (wS)).drew)
      have c1 := (HKS.out.de (x := ({ x with pos := f.length } : De)) hmx).t
      have c5 := (HKS.out.de (x := ({ x with pos := f.length } : De)) hmx).p
      have c4 := (HKS.out.ptr (x := ({ x with pos := f.length } : De)) hmx).1 f ho
      simp only at c1 c4 c5
      clear hOx
      have HNo : Hid (∀ k, (Value.slice (some ⟨xb, xo, none⟩) mm cx).ownBlock = some k → ¬ ρ k = some (.obj x.th)) := hide (fun k hk e => by exact HOw.out k hk (hlo k _ e).1)
      go_region_held3 (fun w' => w'.cell? ⟨I.db x.n, 1, none⟩ = some (.pointer (some ⟨I.tb x.th, 0, none⟩)) ∧ w'.cell? ⟨I.tb x.th, 2, none⟩ = some (.pointer (some ⟨I.ob x.th, 0, none⟩)) ∧ w'.cell? ⟨I.db x.n, 3, none⟩ = some (.int .i64 (f.length : Nat)))
        (first | exact K5 | go_keep)
        (first
          | (go_at_call 146; refine (ob_fwrite _ _ f (b.take mm) _ _ _ HOd.out hfl HBd.out (fun _ k hk e => HNo.out k hk e)).mono ?_; rintro e w3 ⟨rfl, hs3⟩; obtain ⟨ρ', hK3, -, hT3⟩ := HKd.out.setOb (i := x.th) hlt hs3 (by show _ = K.th[x.th].ob.kind; rw [show K.th[x.th].ob = .file f by rw [← KS.tho_eq hlt]; exact ho]; rfl) (wrL_len hfl); have K5 : w3.cell? ⟨I.db x.n, 1, none⟩ = some (.pointer (some ⟨I.tb x.th, 0, none⟩)) ∧ w3.cell? ⟨I.tb x.th, 2, none⟩ = some (.pointer (some ⟨I.ob x.th, 0, none⟩)) ∧ w3.cell? ⟨I.db x.n, 3, none⟩ = some (.int .i64 (f.length : Nat)) := ⟨(hK3.de (x := ({ x with pos := f.length } : De)) hmx).t, (hK3.ptr (x := ({ x with pos := f.length } : De)) hmx).1 _ (tho_setOb _ ({ x with pos := f.length } : De) _ hlt), (hK3.de (x := ({ x with pos := f.length } : De)) hmx).p⟩)
          | fail)
      have c7 := K5.2.2
      have c7s := (hK3.de (x := ({ x with pos := f.length } : De)) hmx).soft 3
      obtain ⟨hK6, hT6⟩ := hK3.setDe (x := ({ x with pos := f.length } : De)) (x' := { x with pos := f.length + mm }) hmx rfl rfl rfl HF1.out (hK3.ok.held ({ x with pos := f.length } : De) hmx) 3 (.int .i64 ((f.length + mm : Nat) : Int)) (by simp)
      have HK6 := hide hK6
      have hlo3 := hK3.lt
      have HT6 := hide ((HT3.out.trans ((Turned.of_below (S := B) (Below.refl _ (wS)).drew).trans hT3 (fun _ _ e => e)) (fun _ _ e => e)).trans hT6 (fun k _ e => (hlo3 _ _ e).1))
      clear hK6 hT6 hK3 K5 hlo hlo3 hT3 hs3
      go_wp2
      go_ret2
      rw [show (f.length : Int) + (mm : Int) = ((f.length + mm : Nat) : Int) by omega]
      have hfin := HK6.out
      rw [setDe_setOb, setDe_twice _ (x := { x with pos := f.length }) (y := { x with pos := f.length + mm }) rfl] at hfin
      exact ⟨ρ', _, rfl, hfin, rfl, HT6.out⟩
  · rw [rkw_fault hx h1 h2 h3 (by rw [ho]; exact hrf) hE]
    have hE1 : ((nxt K.plan (b.length : Int)).2 != 0) = true := by simpa using hE
    generalize nxt K.plan (b.length : Int) = mE at *
    obtain ⟨m, E⟩ := mE
    simp only at HN hE hE1 ⊢
    clear h hd hb hO hrf hfull hR hP hPl
    go_enter Tryz.func56, Tryz.ntmps56
    go_wp2_with fail
    refine HF.out.mono ?_
    rintro e w1 ⟨rfl, rfl⟩
    simp only [Option.map_some]
    go_wp2_with fail
    refine HRo.out.mono ?_
    rintro e w1 ⟨rfl, rfl⟩
    go_wp2_with fail
    refine HN.out.mono ?_
    rintro e w2 ⟨rfl, v', hK2, hT2⟩
    have HT2 := hide hT2
    have HK2 := hide hK2
    clear hK2 hT2 c1 c2 c3 c4 q5 q5s q3
    go_wp2
    go_ret2
    exact ⟨ρ, _, rfl, HK2.out, rfl, HT2.out⟩
theorem rkwrite_any (B : Nat → Prop) (ρ : Nat → Option Tag) (I : RI) (K : KS) (d : Int) (b : List UInt8) (a1 : Option Addr) (cx : Nat) (w : World) (h : RK w B ρ I K) (hr : K.writes < 9223372036854775807) (hb : Bys w (.slice a1 b.length cx) b) (hcap : b.length ≤ cx) (hap : ∀ k, (Value.slice a1 b.length cx).ownBlock = some k → ¬ B k) :
    Calls Tryz.prog 56 #[.pointer (some ⟨I.kb, 0, none⟩), .int .i64 d, .slice a1 b.length cx] w (RKNum w B I.kb (K.write d b)) := by
  cases hx : K.find d with
  | none => exact rkwrite_head B ρ I K d b a1 cx w h (.inl hx)
  | some x =>
    by_cases hh : fbit x.flags 2 = 0 ∨ 1048576 < b.length ∨ b.length = 0
    · exact rkwrite_head B ρ I K d b a1 cx w h (.inr ⟨x, hx, hh⟩)
    · have h1 : fbit x.flags 2 ≠ 0 := fun e => hh (.inl e)
      have h2 : ¬ 1048576 < b.length := fun e => hh (.inr (.inl e))
      have h3 : ¬ b.length = 0 := fun e => hh (.inr (.inr e))
      cases ho : K.tho x with
      | file f => exact rkwrite_file B ρ I K d b a1 cx w h hr hb hcap hap hx h1 h2 h3 ho
      | term ls scr => exact rkwrite_term B ρ I K d b a1 cx w h hr hb hcap hap hx h1 h2 h3 ho
      | pipe q rd wt => exact rkwrite_pipe B ρ I K d b a1 cx w h hr hb hcap hap hx h1 h2 h3 ho
end Go.Proofs.YtkkicbhmcjbmbaaGreat

/- The reference's kernel: a new description. -/
namespace Go.Proofs.YtkkicbhmcjbmbaaGreat
open Go.RowKit

theorem Tryz.infoDp : (Tryz.prog.info? 219).map (fun i => (i.zero, i.size, i.bytes)) = some (some (.pointer none), 1, 8) := by kernel_rfl
theorem Tryz.infoTp : (Tryz.prog.info? 173).map (fun i => (i.zero, i.size, i.bytes)) = some (some (.pointer none), 1, 8) := by kernel_rfl
theorem run_append_dptr (w : World) (ty : TypeId) (base : Nat) (s : Value) (n : Nat) (xs : List Value) (g c : Nat) (p : Value) (hp : p.oneCell' = true) (hs : w.ownsRow base 219 1 s n xs) (hx : w.cell? ⟨g, 0, none⟩ = some p) (hn : (n + 1) * 8 ≤ 140737488355328) (hb : base ≤ w.heap.size) :
    ∃ s' w', (Builtin.append_ #[130, 130] ty #[s, .slice (some ⟨g, 0, none⟩) 1 c]).run Tryz.prog w = .ok s' w' ∧ Hid (w'.ownsRow base 219 1 s' (n + 1) (xs ++ [p])) ∧ w.grownBy w' s.ownBlock ∧ (s'.ownBlock = s.ownBlock ∨ s'.ownBlock = some w.heap.size) := by
  refine (?_ : ∃ s' w', (Builtin.append_ #[130, 130] ty #[s, .slice (some ⟨g, 0, none⟩) 1 c]).run Tryz.prog w = .ok s' w' ∧ w'.ownsRow base 219 1 s' (n + 1) (xs ++ [p]) ∧ w.grownBy w' s.ownBlock ∧ (s'.ownBlock = s.ownBlock ∨ s'.ownBlock = some w.heap.size))
  obtain ⟨i0, hi, hz0, hz1, hz2⟩ := info_parts Tryz.infoDp
  obtain ⟨v', w', h1, h2, h3, _, h5⟩ := run_append_own_at (P := Tryz.prog) w base 130 ty 219 i0 (.pointer none) 1 8 Tryz.underlying130 hi hz0 hz1 hz2 rfl (by decide) s _ _ hs ⟨g, 0, none⟩ 1 c [p] rfl (fun j v hj => by
    match j, hj with
    | 0, hj =>
      obtain rfl : p = v := by simpa using hj
      have hadd : (⟨g, 0, none⟩ : Addr).add 0 = ⟨g, 0, none⟩ := by unfold Addr.add; split <;> simp_all
      rw [hadd]; exact hx) (by intro v hv; simp at hv; subst hv; exact hp) (by unfold maxLen; omega) (by omega) hb
  exact ⟨v', w', h1, h2, h3, h5⟩
theorem run_append_tptr (w : World) (ty : TypeId) (base : Nat) (s : Value) (n : Nat) (xs : List Value) (g c : Nat) (p : Value) (hp : p.oneCell' = true) (hs : w.ownsRow base 173 1 s n xs) (hx : w.cell? ⟨g, 0, none⟩ = some p) (hn : (n + 1) * 8 ≤ 140737488355328) (hb : base ≤ w.heap.size) :
    ∃ s' w', (Builtin.append_ #[129, 129] ty #[s, .slice (some ⟨g, 0, none⟩) 1 c]).run Tryz.prog w = .ok s' w' ∧ Hid (w'.ownsRow base 173 1 s' (n + 1) (xs ++ [p])) ∧ w.grownBy w' s.ownBlock ∧ (s'.ownBlock = s.ownBlock ∨ s'.ownBlock = some w.heap.size) := by
  refine (?_ : ∃ s' w', (Builtin.append_ #[129, 129] ty #[s, .slice (some ⟨g, 0, none⟩) 1 c]).run Tryz.prog w = .ok s' w' ∧ w'.ownsRow base 173 1 s' (n + 1) (xs ++ [p]) ∧ w.grownBy w' s.ownBlock ∧ (s'.ownBlock = s.ownBlock ∨ s'.ownBlock = some w.heap.size))
  obtain ⟨i0, hi, hz0, hz1, hz2⟩ := info_parts Tryz.infoTp
  obtain ⟨v', w', h1, h2, h3, _, h5⟩ := run_append_own_at (P := Tryz.prog) w base 129 ty 173 i0 (.pointer none) 1 8 Tryz.underlying129 hi hz0 hz1 hz2 rfl (by decide) s _ _ hs ⟨g, 0, none⟩ 1 c [p] rfl (fun j v hj => by
    match j, hj with
    | 0, hj =>
      obtain rfl : p = v := by simpa using hj
      have hadd : (⟨g, 0, none⟩ : Addr).add 0 = ⟨g, 0, none⟩ := by unfold Addr.add; split <;> simp_all
      rw [hadd]; exact hx) (by intro v hv; simp at hv; subst hv; exact hp) (by unfold maxLen; omega) (by omega) hb
  exact ⟨v', w', h1, h2, h3, h5⟩
theorem KOk.newDe2 {K : KS} (h : KOk K) {i : Nat} (hi : i < K.th.length) {flags : Int} (hf : flagsOk flags = true) (hd : K.de.length < 256) (hn : 1 ≤ K.next) : KOk (K.newDe i flags) := by
  have el : ∀ d ∈ (K.newDe i flags).de, d ∈ K.de ∨ d = ⟨K.next, i, flags, 0, 1⟩ := fun d hd => by
    rcases List.mem_append.1 hd with e | e
    · exact .inl e
    · exact .inr (by simpa using e)
  refine ⟨?_, h.named, fun d hd => ?_, h.nm, fun d hd => ?_, fun d hd d' hd' e => ?_, fun d hd => ?_, fun d hd => ?_, fun d hd => ?_, h.plan⟩
  · show (K.de ++ [_]).length ≤ 256
    rw [List.length_append]; simp; omega
  · rcases el d hd with e | rfl
    · exact h.th d e
    · exact hi
  · rcases el d hd with e | rfl
    · have := h.num d e; exact ⟨this.1, Nat.lt_succ_of_lt this.2⟩
    · exact ⟨hn, Nat.lt_succ_self _⟩
  · rcases el d hd with e1 | rfl
    · rcases el d' hd' with e2 | rfl
      · exact h.once d e1 d' e2 e
      · have h9 := (h.num d e1).2; have h8 : d.n = K.next := e; omega
    · rcases el d' hd' with e2 | rfl
      · have h9 := (h.num d' e2).2; have h8 : K.next = d'.n := e; omega
      · rfl
  · rcases el d hd with e | rfl
    · exact h.flags d e
    · exact hf
  · rcases el d hd with e | rfl
    · exact h.pos d e
    · exact Nat.zero_le _
  · rcases el d hd with e | rfl
    · exact h.held d e
    · exact ⟨Nat.le_refl _, show (1 : Nat) ≤ 1024 by decide⟩
/-- A description is new: its block, the row that it is put into, the number of the next. -/
theorem RK.newDe {W W' : World} {B : Nat → Prop} {ρ : Nat → Option Tag} {I : RI} {K : KS} (h : RK W B ρ I K) {i : Nat} (hi : i < K.th.length) {flags : Int} (hf : flagsOk flags = true) (hd : K.de.length < 256) (hn1 : 1 ≤ K.next) {nb : Nat} {v' : Value}
    (h1 : W'.heap[I.kb]? = some (.cells ([I.vT, v', .int .i64 ((K.next + 1 : Nat) : Int), .pointer (some ⟨I.pb, 0, none⟩), .int .i64 K.reads, .int .i64 K.writes] : List Value).toArray 133 (0, 0)))
    (h2 : W'.ownsRow 0 219 1 v' (K.de.length + 1) (K.de.map (fun d => .pointer (some ⟨I.db d.n, 0, none⟩)) ++ [.pointer (some ⟨nb, 0, none⟩)]))
    (h3 : W'.heap[nb]? = some (.cells ([.int .i64 K.next, .pointer (some ⟨I.tb i, 0, none⟩), .int .i64 flags, .int .i64 0, .int .i64 1] : List Value).toArray 222 (0, 0)))
    (h4 : ∀ k, v'.ownBlock = some k → I.vD.ownBlock = some k ∨ (W.heap.size ≤ k ∧ k ≠ nb)) (h5 : W.heap.size ≤ nb)
    (hk : ∀ k, k < W.heap.size → k ≠ I.kb → I.vD.ownBlock ≠ some k → W'.heap[k]? = W.heap[k]?) (hs : W.heap.size ≤ W'.heap.size) :
    ∃ ρ', RK W' B ρ' { I with vD := v', db := fun n => if n = K.next then nb else I.db n } (K.newDe i flags) := by
  have hnb : nb < W'.heap.size := (Array.getElem?_eq_some_iff.1 h3).1
  obtain ⟨ρ', hρ⟩ : ∃ ρ' : Nat → Option Tag, ∀ k, (k < W.heap.size → ρ' k = ρ k) ∧ (¬ k < W.heap.size → (k = nb → ρ' k = some (.desc K.next)) ∧ (k ≠ nb → (v'.ownBlock = some k → ρ' k = some .drow) ∧ (v'.ownBlock ≠ some k → ρ' k = none))) :=
    ⟨fun k => if k < W.heap.size then ρ k else if k = nb then some (.desc K.next) else if v'.ownBlock = some k then some .drow else none, fun k => ⟨fun hk => if_pos hk, fun hk => ⟨fun e => (if_neg hk).trans (if_pos e), fun e => ⟨fun e' => (if_neg hk).trans ((if_neg e).trans (if_pos e')), fun e' => (if_neg hk).trans ((if_neg e).trans (if_neg e'))⟩⟩⟩⟩
  have old : ∀ k t, ρ k = some t → ρ' k = some t := fun k t e => by rw [(hρ k).1 (h.lt k t e).2]; exact e
  have kr := (h.comp .kern).2
  have dr := (h.comp .drow).2
  have keep : ∀ t, t ≠ .kern → t ≠ .drow → RComp W' B ρ I K t := fun t n1 n2 => (h.comp t).keep (fun k e hlt => hk k hlt (fun e' => by subst e'; rw [kr] at e; exact n1 (Option.some.inj e).symm) (fun e' => by have := dr k e'; rw [e] at this; exact n2 (Option.some.inj this))) hs
  refine ⟨ρ', ⟨fun t => ?_, fun k t e => ?_, ?_, fun k e => h.up k (Nat.le_trans hs e)⟩⟩
  · cases t with
    | kern => exact ⟨h1, old _ _ kr⟩
    | trow => have := keep .trow (by simp) (by simp); exact ⟨this.1, fun k e => old _ _ (this.2 k e)⟩
    | drow =>
      refine ⟨?_, fun k e => ?_⟩
      · have e : (K.newDe i flags).de.map (fun d => Value.pointer (some ⟨(if d.n = K.next then nb else I.db d.n), 0, none⟩)) = K.de.map (fun d => Value.pointer (some ⟨I.db d.n, 0, none⟩)) ++ [.pointer (some ⟨nb, 0, none⟩)] := by
          show (K.de ++ [(⟨K.next, i, flags, 0, 1⟩ : De)]).map _ = _
          rw [List.map_append]
          congr 1
          · apply List.map_congr_left
            intro d hd
            have := (h.ok.num d hd).2
            rw [if_neg (by omega)]
          · simp
        show W'.ownsRow 0 _ 1 v' (K.de ++ [(⟨K.next, i, flags, 0, 1⟩ : De)]).length ((K.newDe i flags).de.map _)
        rw [e, List.length_append]
        exact h2
      · rcases h4 k e with h6 | ⟨h6, h7⟩
        · exact old _ _ (dr k h6)
        · exact (((hρ k).2 (by omega)).2 h7).1 e
    | plan => have := keep .plan (by simp) (by simp); exact ⟨this.1, old _ _ this.2.1, fun k e => old _ _ (this.2.2 k e)⟩
    | thing j => intro hj; have := keep (.thing j) (by simp) (by simp) hj; exact ⟨this.1, old _ _ this.2⟩
    | obj j => intro hj; have := keep (.obj j) (by simp) (by simp) hj; exact ⟨this.1.mono fun k e => old _ _ e, this.2⟩
    | desc n =>
      intro d hd' e
      rcases List.mem_append.1 hd' with hm | hm
      · have hlt := (h.ok.num d hm).2
        have := keep (.desc n) (by simp) (by simp) d hm e
        have hne : ¬ n = K.next := by omega
        refine ⟨?_, ?_⟩
        · show W'.heap[if n = K.next then nb else I.db n]? = _
          rw [if_neg hne]; exact this.1
        · show ρ' (if n = K.next then nb else I.db n) = _
          rw [if_neg hne]; exact old _ _ this.2
      · obtain rfl : d = ⟨K.next, i, flags, 0, 1⟩ := by simpa using hm
        obtain rfl : K.next = n := e
        refine ⟨?_, ?_⟩
        · show W'.heap[if K.next = K.next then nb else I.db K.next]? = _
          rw [if_pos rfl]; exact h3
        · show ρ' (if K.next = K.next then nb else I.db K.next) = _
          rw [if_pos rfl]; exact ((hρ nb).2 (by omega)).1 rfl
  · by_cases hlt : k < W.heap.size
    · rw [(hρ k).1 hlt] at e; exact ⟨(h.lt k t e).1, Nat.lt_of_lt_of_le (h.lt k t e).2 hs⟩
    · by_cases hn : k = nb
      · exact ⟨h.up k (by omega), by omega⟩
      · by_cases hv : v'.ownBlock = some k
        · exact ⟨h.up k (by omega), (h2.lt k hv).2⟩
        · rw [(((hρ k).2 hlt).2 hn).2 hv] at e; cases e
  · exact KOk.newDe2 h.ok hi hf hd hn1
end Go.Proofs.YtkkicbhmcjbmbaaGreat

/- Spoil turns the block of its slice, and no other. -/
namespace Go.Proofs.YtkkicbhmcjbmbaaGreat
open Go.RowKit

set_option maxRecDepth 100000 in
set_option maxHeartbeats 1000000 in
theorem Kp_spoil_turn (base : Nat) (v : Value) (n : Nat) (xs : List Value) (w : World) (h : w.ownsRow base 5 1 v n xs) (hx : ∀ u ∈ xs, ∃ c, u = .int .u8 c) (hs : n ≤ maxLen) :
    Calls Tryz.prog 57 #[v] w fun e w' => e = .returned (.tuple #[]) ∧ Turned (fun k => v.ownBlock = some k) w w' := by
  unfold maxLen at hs
  rcases h.2 with ⟨rfl, h0⟩ | ⟨g, cap, cur, rfl, hbg, -⟩
  · go_enter Tryz.func57, Tryz.ntmps57
    go_wp2
    go_loopw [2] (fun i wr => i = .int .i64 0 ∧ wr = w) (fun _ _ => 0)
    case atStart => exact ⟨rfl, rfl⟩
    case round =>
      obtain ⟨rfl, rfl⟩ := hrel
      go_wp2
      go_end0
      exact ⟨rfl, Turned.refl _ _⟩
  · have HO := hide h
    have HX := hide hx
    have hlen : xs.length = n := by have := h.1; omega
    clear h hx
    go_enter Tryz.func57, Tryz.ntmps57
    go_wp2
    go_loopw [2] (fun i wr => ∃ (k : Nat) (ys : List Value), k ≤ n ∧ i = .int .i64 k ∧ ys.length = n ∧ (∀ u ∈ ys, ∃ c, u = .int .u8 c) ∧ wr.ownsRow base 5 1 (.slice (some ⟨g, 0, none⟩) n cap) n ys ∧ Turned (fun k => (Value.slice (some ⟨g, 0, none⟩) n cap).ownBlock = some k) w wr) (fun i _ => n - (intOf i).toNat)
    case atStart => exact ⟨0, xs, Nat.zero_le _, rfl, hlen, HX.out, HO.out, Turned.refl _ _⟩
    case round =>
      clear HO HX hlen
      obtain ⟨k, ys, hk, rfl, hlen, hys, hown, hT⟩ := hrel
      have HT := hide hT
      clear hT
      by_cases hlt : k < n
      · obtain ⟨c, hc⟩ := hys ys[k] (List.getElem_mem _)
        have hcell := hown.cellAt k (by omega)
        rw [List.getElem?_eq_getElem (by omega), hc] at hcell
        have hfr := hown.frozenAt k
        have HY := hide hys
        have HO := hide hown
        have HL := hide hlen
        clear hys hown hc hlen
        go_wp2
        go_roundw
        case rel =>
          obtain ⟨hst, hgr⟩ := HO.out.stored k (Value.int .u8 (bits .xor .u8 c 85))
          refine ⟨k + 1, _, by omega, by go_num, ?_, ?_, hst, HT.out.set (.inl rfl)⟩
          · rw [List.length_set]; exact HL.out
          · intro u hu
            rcases List.mem_or_eq_of_mem_set hu with h | h
            · exact HY.out u h
            · exact ⟨_, h⟩
        case measure => simp [intOf]; omega
      · go_wp2
        go_end0
        exact ⟨rfl, HT.out⟩
theorem Kp_bv_ints (l : List UInt8) : ∀ u ∈ l.map bv, ∃ c, u = .int .u8 c := by
  intro u hu
  obtain ⟨c, _, rfl⟩ := List.mem_map.1 hu
  exact ⟨_, rfl⟩
end Go.Proofs.YtkkicbhmcjbmbaaGreat

/- The program's files, terminals and pipes in one notion, each within a set of blocks of its own. -/
namespace Go.Proofs.YtkkicbhmcjbmbaaGreat
open Go.RowKit

/-- The program's object at block p, all of whose blocks are O's. -/
def PObj (W : World) (O : Nat → Prop) (p : Nat) : Ob → Prop
  | .file b => b.length ≤ 1048576 ∧ ∃ r cap, FileAt W p r cap b ∧ O p ∧ O r
  | .term ls scr => ∃ B O1, PTerm W B p O1 ls scr ∧ ∀ k, O1 k → O k
  | .pipe q rd wt => PipeAt W p q rd wt ∧ O p
theorem PObj.ok {W : World} {O : Nat → Prop} {p : Nat} {ob : Ob} (h : PObj W O p ob) : ob.ok := by
  cases ob with
  | file b => exact h.1
  | term ls scr => obtain ⟨B, O1, h1, _⟩ := h; exact ⟨h1.few, h1.short, h1.room⟩
  | pipe q rd wt => obtain ⟨⟨R, f, h1, _⟩, _⟩ := h; exact ⟨h1.lc, h1.lr, h1.lw⟩
theorem PObj.at {W : World} {O : Nat → Prop} {p : Nat} {ob : Ob} (h : PObj W O p ob) : O p ∧ p < W.heap.size := by
  cases ob with
  | file b => obtain ⟨_, r, cap, h1, h2, _⟩ := h; exact ⟨h2, h1.lt⟩
  | term ls scr => obtain ⟨B, O1, h1, h2⟩ := h; obtain ⟨la, lc, s, h3⟩ := h1.term; exact ⟨h2 _ h3.ot, (h3.lt _ h3.ot).2⟩
  | pipe q rd wt => exact ⟨h.2, h.1.lt⟩
theorem PObj.mono {W : World} {O O' : Nat → Prop} {p : Nat} {ob : Ob} (h : PObj W O p ob) (hO : ∀ k, O k → O' k) : PObj W O' p ob := by
  cases ob with
  | file b => obtain ⟨h0, r, cap, h1, h2, h3⟩ := h; exact ⟨h0, r, cap, h1, hO _ h2, hO _ h3⟩
  | term ls scr => obtain ⟨B, O1, h1, h2⟩ := h; exact ⟨B, O1, h1, fun k e => hO _ (h2 k e)⟩
  | pipe q rd wt => exact ⟨h.1, hO _ h.2⟩
theorem PObj.keep {W W' : World} {O : Nat → Prop} {p : Nat} {ob : Ob} (h : PObj W O p ob) (hk : ∀ k, O k → k < W.heap.size → W'.heap[k]? = W.heap[k]?) (hs : W.heap.size ≤ W'.heap.size) : PObj W' O p ob := by
  cases ob with
  | file b =>
    obtain ⟨h0, r, cap, h1, h2, h3⟩ := h
    have hp := hk p h2 h1.lt
    exact ⟨h0, r, cap, ⟨(World.cell?_of_block (w := W) hp).trans h1.made, (World.cell?_of_block (w := W) hp).trans h1.data, (World.frozen?_of_block (w := W) hp).trans h1.soft, h1.row.keep (hk r h3 h1.row.lt), h1.apart⟩, h2, h3⟩
  | term ls scr =>
    obtain ⟨B, O1, h1, h2⟩ := h
    obtain ⟨la, lc, s, h3⟩ := h1.term
    have hp := hk p (h2 _ h3.ot) (h3.lt _ h3.ot).2
    exact ⟨B, O1, ⟨(World.cell?_of_block (w := W) hp).trans h1.made, ⟨la, lc, s, h3.keep (fun k e => hk k (h2 k e) (h3.lt k e).2) hs⟩, h1.few, h1.short, h1.room⟩, h2⟩
  | pipe q rd wt => exact ⟨h.1.keep (hk p h.2 h.1.lt), h.2⟩
/-- What a call leaves of an object of the program. -/
def PStep (w : World) (O : Nat → Prop) (p : Nat) (ob' : Ob) (w' : World) : Prop := ∃ O', PObj w' O' p ob' ∧ (∀ k, O' k → O k ∨ w.heap.size ≤ k) ∧ Turned O w w'
theorem PStep.same {w : World} {O : Nat → Prop} {p : Nat} {ob : Ob} (h : PObj w O p ob) : PStep w O p ob w := ⟨O, h, fun _ e => .inl e, Turned.refl _ _⟩

theorem po_fread (O : Nat → Prop) (p : Nat) (b : List UInt8) (off n : Int) (w : World) (h : PObj w O p (.file b)) :
    Calls Tryz.prog 242 #[.pointer (some ⟨p, 0, none⟩), .int .i64 off, .int .i64 n] w fun e w' => ∃ v, e = .returned (.tuple #[v, .int .i64 (Fi_rdE off n)]) ∧ w'.ownsRow w.heap.size 5 1 v (rdL b off n).length ((rdL b off n).map bv) ∧ Below w.heap.size w w' := by
  obtain ⟨h0, r, cap, h1, h2, h3⟩ := h
  exact readAt_any p r cap b off n w h1 h0
theorem po_fsize (O : Nat → Prop) (p : Nat) (b : List UInt8) (w : World) (h : PObj w O p (.file b)) :
    Calls Tryz.prog 148 #[.pointer (some ⟨p, 0, none⟩)] w fun e w' => e = .returned (.int .i64 b.length) ∧ w' = w := by
  obtain ⟨h0, r, cap, h1, h2, h3⟩ := h
  exact size_any p r cap b w h1
theorem po_fbytes (O : Nat → Prop) (p : Nat) (b : List UInt8) (w : World) (h : PObj w O p (.file b)) :
    Calls Tryz.prog 155 #[.pointer (some ⟨p, 0, none⟩)] w fun e w' => e = .returned (.slice (some ⟨w.heap.size, 0, none⟩) b.length b.length) ∧ w'.ownsRow w.heap.size 5 1 (.slice (some ⟨w.heap.size, 0, none⟩) b.length b.length) b.length (b.map bv) ∧ Below w.heap.size w w' := by
  obtain ⟨h0, r, cap, h1, h2, h3⟩ := h
  exact bytes_any p r cap b w h1 h0
theorem po_fwrite (O : Nat → Prop) (p : Nat) (b x : List UInt8) (off : Int) (vx : Value) (w : World) (h : PObj w O p (.file b)) (hx : Bys w vx x) (hd : 0 < x.length → ∀ k, vx.ownBlock = some k → ¬ O k) :
    Calls Tryz.prog 244 #[.pointer (some ⟨p, 0, none⟩), .int .i64 off, vx] w fun e w' => e = .returned (.int .i64 (Fi_wrE off x.length)) ∧ PStep w O p (.file (wrL b off x)) w' := by
  obtain ⟨h0, r, cap, h1, h2, h3⟩ := h
  refine (writeAt_any p r cap b off vx x w h1 hx (fun h0 k e => ⟨fun e' => hd h0 k e (by rw [e']; exact h2), fun e' => hd h0 k e (by rw [e']; exact h3)⟩)).mono ?_
  rintro e w' ⟨rfl, r', cap', h4, h5, h6⟩
  refine ⟨rfl, fun k => O k ∨ k = r', ⟨wrL_len h0, r', cap', h4, .inl h2, .inr rfl⟩, fun k e => ?_, h6.mono fun k e => ?_⟩
  · rcases e with e | rfl
    · exact .inl e
    · rcases h5 with h5 | h5
      · left; rw [h5]; exact h3
      · exact .inr h5
  · rcases e with rfl | rfl
    · exact h2
    · exact h3
theorem po_ftrunc (O : Nat → Prop) (p : Nat) (b : List UInt8) (n : Int) (w : World) (h : PObj w O p (.file b)) (hl : (trL b n).length ≤ 1048576) :
    Calls Tryz.prog 168 #[.pointer (some ⟨p, 0, none⟩), .int .i64 n] w fun e w' => e = .returned (.int .i64 (trE n)) ∧ PStep w O p (.file (trL b n)) w' := by
  obtain ⟨h0, r, cap, h1, h2, h3⟩ := h
  refine (truncate_any p r cap b n w h1).mono ?_
  rintro e w' ⟨rfl, r', cap', h4, h5, h6⟩
  refine ⟨rfl, fun k => O k ∨ k = r', ⟨hl, r', cap', h4, .inl h2, .inr rfl⟩, fun k e => ?_, h6.mono fun k e => ?_⟩
  · rcases e with e | rfl
    · exact .inl e
    · rcases h5 with h5 | h5
      · left; rw [h5]; exact h3
      · exact .inr h5
  · rcases e with rfl | rfl
    · exact h2
    · exact h3
theorem po_tread (O : Nat → Prop) (p : Nat) (ls : List (List UInt8)) (scr : List UInt8) (n : Int) (w : World) (h : PObj w O p (.term ls scr)) :
    Calls Tryz.prog 227 #[.pointer (some ⟨p, 0, none⟩), .int .i64 n] w fun e w' => ∃ v, e = .returned (.tuple #[v, .int .i64 (Te_rdE n)]) ∧ w'.ownsRow w.heap.size 5 1 v (rdH ls n).length ((rdH ls n).map bv) ∧ PObj w' O p (.term (rdR ls n) scr) ∧ Turned O w w' := by
  obtain ⟨B, O1, h1, h2⟩ := h
  refine (Te_read_any B p O1 ls scr n w h1).mono ?_
  rintro e w' ⟨v, rfl, h3, h4, h5⟩
  exact ⟨v, rfl, h3, ⟨B, O1, h4, h2⟩, h5.mono h2⟩
theorem po_twrite (O : Nat → Prop) (p : Nat) (ls : List (List UInt8)) (scr x : List UInt8) (vx : Value) (w : World) (h : PObj w O p (.term ls scr)) (hx : Bys w vx x) :
    Calls Tryz.prog 228 #[.pointer (some ⟨p, 0, none⟩), vx] w fun e w' => e = .returned (.int .i64 (Te_wrE scr.length x.length)) ∧ PStep w O p (.term ls (wrS scr x)) w' := by
  obtain ⟨B, O1, h1, h2⟩ := h
  refine (Te_write_any B p O1 ls scr vx x w h1 hx).mono ?_
  rintro e w' ⟨rfl, O2, h3, h4, h5⟩
  refine ⟨rfl, fun k => O k ∨ O2 k, ⟨B, O2, h3, fun k e => .inr e⟩, fun k e => ?_, h5.mono h2⟩
  rcases e with e | e
  · exact .inl e
  · exact (h4 k e).imp (h2 k) id
theorem po_tscreen (O : Nat → Prop) (p : Nat) (ls : List (List UInt8)) (scr : List UInt8) (w : World) (h : PObj w O p (.term ls scr)) :
    Calls Tryz.prog 157 #[.pointer (some ⟨p, 0, none⟩)] w fun e w' => e = .returned (.slice (some ⟨w.heap.size, 0, none⟩) scr.length scr.length) ∧ w'.ownsRow w.heap.size 5 1 (.slice (some ⟨w.heap.size, 0, none⟩) scr.length scr.length) scr.length (scr.map bv) ∧ Below w.heap.size w w' := by
  obtain ⟨B, O1, h1, h2⟩ := h
  exact screen_any B p O1 ls scr w h1
theorem po_pread (O : Nat → Prop) (p : Nat) (q : List UInt8) (rd wt : Nat) (n : Int) (w : World) (h : PObj w O p (.pipe q rd wt)) :
    Calls Tryz.prog 246 #[.pointer (some ⟨p, 0, none⟩), .int .i64 n] w fun e w' => ∃ v, e = .returned (.tuple #[v, .int .i64 (Kp_rdE n q.length rd wt)]) ∧ w'.ownsRow w.heap.size 5 1 v (rdB n q rd wt).length ((rdB n q rd wt).map bv) ∧ PObj w' O p (.pipe (rdQ n q rd wt) rd wt) ∧ Turned O w w' := by
  refine (Kp_read_any n p q rd wt w h.1).mono ?_
  rintro e w' ⟨v, rfl, h3, h4, h5⟩
  exact ⟨v, rfl, h3, ⟨h4, h.2⟩, h5.mono fun k e => by rw [e]; exact h.2⟩
theorem po_pwrite (O : Nat → Prop) (p : Nat) (q x : List UInt8) (rd wt : Nat) (most : Int) (a1 : Option Addr) (n cx : Nat) (w : World) (h : PObj w O p (.pipe q rd wt)) (hx : Bys w (.slice a1 n cx) x) (hcx : x.length ≤ cx) (hxs : x.length ≤ 140737488351232) (hd : 0 < x.length → ∀ k, (Value.slice a1 n cx).ownBlock = some k → ¬ O k) :
    Calls Tryz.prog 247 #[.pointer (some ⟨p, 0, none⟩), .slice a1 n cx, .int .i64 most] w fun e w' => e = .returned (.tuple #[.int .i64 (wrN x.length most q.length rd wt : Nat), .int .i64 (Kp_wrE x.length most q.length rd wt)]) ∧ PStep w O p (.pipe (q ++ x.take (wrN x.length most q.length rd wt)) rd wt) w' := by
  refine (Kp_write_any most p q x a1 n cx rd wt w h.1 hx hcx hxs (fun h0 e => hd h0 p e h.2)).mono ?_
  rintro e w' ⟨rfl, h4, h5⟩
  exact ⟨rfl, O, ⟨h4, h.2⟩, fun _ e => .inl e, h5.mono fun k e => by rw [e]; exact h.2⟩
theorem po_pjoin (O : Nat → Prop) (p : Nat) (q : List UInt8) (rd wt : Nat) (x : Bool) (w : World) (h : PObj w O p (.pipe q rd wt)) :
    Calls Tryz.prog 167 #[.pointer (some ⟨p, 0, none⟩), .bool x] w fun e w' => e = .returned (.int .i64 (joinE x rd wt)) ∧ PStep w O p (.pipe q (joinR x rd wt) (joinW x rd wt)) w' := by
  refine (join_any x p q rd wt w h.1).mono ?_
  rintro e w' ⟨rfl, h4, h5⟩
  exact ⟨rfl, O, ⟨h4, h.2⟩, fun _ e => .inl e, h5.mono fun k e => by rw [e]; exact h.2⟩
theorem po_pleave (O : Nat → Prop) (p : Nat) (q : List UInt8) (rd wt : Nat) (x : Bool) (w : World) (h : PObj w O p (.pipe q rd wt)) :
    Calls Tryz.prog 151 #[.pointer (some ⟨p, 0, none⟩), .bool x] w fun e w' => e = .returned (.int .i64 (leaveE x rd wt)) ∧ PStep w O p (.pipe q (leaveR x rd wt) (leaveW x rd wt)) w' := by
  refine (leave_any x p q rd wt w h.1).mono ?_
  rintro e w' ⟨rfl, h4, h5⟩
  exact ⟨rfl, O, ⟨h4, h.2⟩, fun _ e => .inl e, h5.mono fun k e => by rw [e]; exact h.2⟩
theorem po_new_file (v : Value) (b : List UInt8) (w : World) (hv : Bys w v b) (hl : b.length ≤ 1048576) :
    Calls Tryz.prog 126 #[v] w fun e w' => ∃ p, e = .returned (.tuple #[.pointer (some ⟨p, 0, none⟩), .int .i64 0]) ∧ PObj w' (fun k => w.heap.size ≤ k ∧ k < w'.heap.size) p (.file b) ∧ Below w.heap.size w w' := by
  refine (Fi_new_good v b w hv hl).mono ?_
  rintro e w' ⟨p, rfl, h1, h2, h3⟩
  exact ⟨p, rfl, ⟨hl, _, _, h1, ⟨by omega, h1.lt⟩, ⟨Nat.le_refl _, h1.row.lt⟩⟩, h3⟩
theorem po_new_term (v : Value) (ls : List (List UInt8)) (w : World) (hv : Lns w v ls) (hl : newE ls = 0) :
    Calls Tryz.prog 43 #[v] w fun e w' => ∃ p, e = .returned (.tuple #[.pointer (some ⟨p, 0, none⟩), .int .i64 0]) ∧ PObj w' (fun k => w.heap.size ≤ k ∧ k < w'.heap.size) p (.term ls []) ∧ Below w.heap.size w w' := by
  refine (Te_new_good v ls w hv hl).mono ?_
  rintro e w' ⟨p, O, rfl, h1, h2⟩
  obtain ⟨la, lc, s, h3⟩ := h1.term
  exact ⟨p, rfl, ⟨_, O, h1, fun k e => h3.lt k e⟩, h2⟩
theorem po_new_pipe (w : World) :
    Calls Tryz.prog 166 #[] w fun e w' => ∃ p, e = .returned (.pointer (some ⟨p, 0, none⟩)) ∧ PObj w' (fun k => w.heap.size ≤ k ∧ k < w'.heap.size) p (.pipe [] 0 0) ∧ Below w.heap.size w w' := by
  refine (new_any w).mono ?_
  rintro e w' ⟨rfl, h1, h2⟩
  exact ⟨_, rfl, ⟨h1, Nat.le_refl _, h1.lt⟩, h2⟩
end Go.Proofs.YtkkicbhmcjbmbaaGreat

/- Maps whose values are pointers to blocks: what they hold, as a list of keys and blocks in any order. -/
namespace Go.Proofs.YtkkicbhmcjbmbaaGreat
open Go.RowKit Go.Maps

/-- How a pointer to a block's head reads. -/
def ptrElem : Value → Option (DataW Unit × List MemPlace)
  | .pointer (some ⟨g, 0, none⟩) => some (.lit (.int .i64 g), [])
  | .pointer none => some (.nil, [])
  | _ => none
theorem ptrElem_inv {v : Value} {g : Nat} {ps : List MemPlace} (h : ptrElem v = some (.lit (.int .i64 g), ps)) : v = .pointer (some ⟨g, 0, none⟩) := by
  unfold ptrElem at h
  split at h
  · simp at h; obtain ⟨h, _⟩ := h; obtain rfl := Int.ofNat_inj.1 h; rfl
  · simp at h
  · cases h
theorem tight {w : World} {P : Program} {k : TypeId} {R : Value → Option (DataW Unit × List MemPlace)} {b n : Nat} {D : DataW Unit} (h : w.ownsMap P k R b n D) : w.ownsMap P k R b (Maps.size D) D := by
  obtain ⟨es, clock, hb, F, hs, hD⟩ := h
  have e1 : Maps.size D = es.size := by rw [hD]; simp [Maps.size, length_sorted]
  exact ⟨es, clock, hb, F, by rw [e1]; exact Nat.le_refl _, hD⟩
/-- Block b is a map that holds just these keys, each with its block. -/
structure PMap (W : World) (P : Program) (k : TypeId) (b : Nat) (l : List (Lit × Nat)) : Prop where
  own : ∃ D : DataW Unit, W.ownsMap P k ptrElem b l.length D ∧ Maps.size D = l.length ∧ (∀ p ∈ l, ∀ z, D.atKey p.1 z = .lit (.int .i64 p.2)) ∧ ∀ kl, Maps.has D kl = true → ∃ p ∈ l, p.1 = kl
  nodup : l.Pairwise (fun p q => p.1 ≠ q.1)
theorem PMap.lt {W : World} {P : Program} {k : TypeId} {b : Nat} {l : List (Lit × Nat)} (h : PMap W P k b l) : b < W.heap.size := by
  obtain ⟨D, h1, _⟩ := h.own; exact h1.lt
theorem PMap.keep {W W' : World} {P : Program} {k : TypeId} {b : Nat} {l : List (Lit × Nat)} (h : PMap W P k b l) (hk : W'.heap[b]? = W.heap[b]?) : PMap W' P k b l := by
  obtain ⟨D, ⟨es, clock, hb, F, hs, hD⟩, h2, h3⟩ := h.own
  exact ⟨⟨D, ⟨es, clock, hk.trans hb, F, hs, hD⟩, h2, h3⟩, h.nodup⟩
theorem PMap.perm {W : World} {P : Program} {k : TypeId} {b : Nat} {l l' : List (Lit × Nat)} (h : PMap W P k b l) (hp : l.Perm l') : PMap W P k b l' := by
  obtain ⟨D, h1, h2, h3, h4⟩ := h.own
  refine ⟨⟨D, by rw [← hp.length_eq]; exact h1, by rw [← hp.length_eq]; exact h2, fun p hm => h3 p (hp.mem_iff.2 hm), fun kl hh => ?_⟩, ?_⟩
  · obtain ⟨p, hm, e⟩ := h4 kl hh
    exact ⟨p, hp.mem_iff.1 hm, e⟩
  · exact hp.pairwise h.nodup (fun {a b} hab => Ne.symm hab)
theorem PMap.made (w : World) (P : Program) (k : TypeId) : PMap (w.alloc (.map #[] 0)) P k w.heap.size [] :=
  ⟨⟨.map [], World.ownsMap_made w P k ptrElem, rfl, fun _ h => by simp at h, fun kl h => by simp [Maps.has] at h⟩, List.Pairwise.nil⟩
theorem PMap.hit {W : World} {P : Program} {k t e : TypeId} {b : Nat} {l : List (Lit × Nat)} (h : PMap W P k b l) (K : Keyed P k) (ht : P.underlying t = some (.map k e)) (hz : (zeroValue e).run P W = .ok (.pointer none) W)
    {key : Value} {kl : Lit} {g : Nat} (hkey : keyOf P k key = some kl) (hm : (kl, g) ∈ l) (c : Bool) : (Instr.lookup t (.map (some b)) key c).run P W = .ok (if c then .tuple #[.pointer (some ⟨g, 0, none⟩), .bool true] else .pointer (some ⟨g, 0, none⟩)) W := by
  obtain ⟨D, ⟨es, clock, hb, F, hs, hD⟩, h2, h3, h4⟩ := h.own
  rcases Maps.fit_look c K ht hz hb F hkey with ⟨_, _, hat⟩ | ⟨e0, y, _, _, hrun, hRv, hat, _⟩
  · have := h3 _ hm .nil
    rw [hD] at this
    rw [hat] at this
    cases this
  · have := h3 _ hm .nil
    rw [hD] at this
    rw [hat] at this
    obtain ⟨y1, y2⟩ := y
    simp only at this
    subst this
    rw [hrun, ptrElem_inv hRv]
theorem PMap.miss {W : World} {P : Program} {k t e : TypeId} {b : Nat} {l : List (Lit × Nat)} (h : PMap W P k b l) (K : Keyed P k) (ht : P.underlying t = some (.map k e)) (hz : (zeroValue e).run P W = .ok (.pointer none) W)
    {key : Value} {kl : Lit} (hkey : keyOf P k key = some kl) (hm : ∀ p ∈ l, p.1 ≠ kl) (c : Bool) : (Instr.lookup t (.map (some b)) key c).run P W = .ok (if c then .tuple #[.pointer none, .bool false] else .pointer none) W := by
  obtain ⟨D, ⟨es, clock, hb, F, hs, hD⟩, h2, h3, h4⟩ := h.own
  rcases Maps.fit_look c K ht hz hb F hkey with ⟨hrun, _, hat⟩ | ⟨e0, y, _, _, hrun, hRv, hat, _⟩
  · exact hrun
  · have : Maps.has D kl = true := by rw [hD]; exact Maps.has_true_of_atKey hat
    obtain ⟨p, hp, e⟩ := h4 kl this
    exact absurd e (hm p hp)
theorem PMap.len {W : World} {P : Program} {k t e : TypeId} {b : Nat} {l : List (Lit × Nat)} (h : PMap W P k b l) (ht : P.underlying t = some (.map k e)) (ty : TypeId) : (Builtin.len_ #[t] ty #[.map (some b)]).run P W = .ok (.int .i64 l.length) W := by
  obtain ⟨D, h1, h2, _⟩ := h.own
  rw [h1.len ht ty, h2]
/-- What a map's store or delete leaves of the rest. -/
theorem mapTurned_turned {w w' : World} {b : Nat} (h : w.mapTurned w' b) : Turned (fun k => k = b) w w' := (Turned.refl _ w).grown h.grown (fun k e => by cases e; exact .inl rfl)
theorem PMap.store {W : World} {P : Program} {k t e : TypeId} {b : Nat} {l : List (Lit × Nat)} (h : PMap W P k b l) (K : Keyed P k) (ht : P.underlying t = some (.map k e)) (hn : l.length < maxLen)
    {key : Value} {kl : Lit} (g : Nat) (hkey : keyOf P k key = some kl) (hm : ∀ p ∈ l, p.1 ≠ kl) : ∃ w', (Instr.mapUpdate t (.map (some b)) key (.pointer (some ⟨g, 0, none⟩))).run P W = .ok () w' ∧ PMap w' P k b ((kl, g) :: l) ∧ W.mapTurned w' b := by
  obtain ⟨D, h1, h2, h3, h4⟩ := h.own
  have hno : Maps.has D kl = false := by
    rcases hh : Maps.has D kl with _ | _
    · rfl
    · obtain ⟨p, hp, e⟩ := h4 kl hh
      exact absurd e (hm p hp)
  obtain ⟨w', hrun, ho, hT⟩ := h1.store K ht hn hkey (d := .lit (.int .i64 g)) (ps := []) (val := .pointer (some ⟨g, 0, none⟩)) rfl
  refine ⟨w', hrun, ⟨⟨_, ho, ?_, ?_, ?_⟩, List.pairwise_cons.2 ⟨fun p hp e => hm p hp e.symm, h.nodup⟩⟩, hT⟩
  · rw [Maps.size_put (h1.tidy K), hno, h2]; rfl
  · intro p hp z
    rcases List.mem_cons.1 hp with rfl | hp
    · exact Maps.atKey_put_same h1.isMap (K.key hkey) _ _
    · rw [Maps.atKey_put_other (hm p hp)]; exact h3 p hp z
  · intro kl' hh
    by_cases e : kl' = kl
    · exact ⟨(kl, g), by simp, e.symm⟩
    · rw [Maps.has_put_other e] at hh
      obtain ⟨p, hp, e2⟩ := h4 kl' hh
      exact ⟨p, List.mem_cons_of_mem _ hp, e2⟩
theorem PMap.drop {W : World} {P : Program} {k t e : TypeId} {b : Nat} {l : List (Lit × Nat)} {key : Value} {kl : Lit} {g : Nat} (h : PMap W P k b ((kl, g) :: l)) (K : Keyed P k) (ht : P.underlying t = some (.map k e))
    (hkey : keyOf P k key = some kl) (ty : TypeId) : ∃ w', (Builtin.delete_ #[t, k] ty #[.map (some b), key]).run P W = .ok (.tuple #[]) w' ∧ PMap w' P k b l ∧ W.mapTurned w' b := by
  obtain ⟨D, h1, h2, h3, h4⟩ := h.own
  have hyes : Maps.has D kl = true := Maps.has_true_of_atKey (h3 (kl, g) (by simp))
  have hap := List.pairwise_cons.1 h.nodup
  obtain ⟨w', hrun, ho, hT⟩ := h1.drop K ht hkey ty
  have hsz : Maps.size (D.del kl) = l.length := by
    have := Maps.size_del (k := kl) (h1.tidy K)
    rw [hyes, h2] at this
    simpa using this
  refine ⟨w', hrun, ⟨⟨_, by rw [← hsz]; exact tight ho, hsz, ?_, ?_⟩, hap.2⟩, hT⟩
  · intro p hp z
    rw [Maps.atKey_del_other (fun e => hap.1 p hp e.symm)]
    exact h3 p (List.mem_cons_of_mem _ hp) z
  · intro kl' hh
    by_cases e : kl' = kl
    · rw [e, Maps.has_del_same] at hh; cases hh
    · rw [Maps.has_del_other e] at hh
      obtain ⟨p, hp, e2⟩ := h4 kl' hh
      rcases List.mem_cons.1 hp with rfl | hp
      · exact absurd e2.symm e
      · exact ⟨p, hp, e2⟩
/-- The keys of a map that is keyed by strings. -/
theorem PMap.keys {W : World} {P : Program} {k : TypeId} {b : Nat} {l : List (Lit × Nat)} (h : PMap W P k b l) (K : Keyed P k) (hk : P.underlying k = some .string) :
    ∃ D : DataW Unit, W.ownsMap P k ptrElem b l.length D ∧ Maps.size D = l.length ∧ (strKeys D).Perm (l.map fun p => strOf p.1) := by
  obtain ⟨D, h1, h2, h3, h4⟩ := h.own
  refine ⟨D, h1, h2, ?_⟩
  have key : ∀ p ∈ l, ∃ x, p.1 = .string x := by
    intro p hp
    obtain ⟨es, rfl, hko⟩ := h1.keysOf
    have hh : Maps.has (DataW.map es) p.1 = true := Maps.has_true_of_atKey (h3 p hp)
    rw [Maps.has_eq, List.any_eq_true] at hh
    obtain ⟨q, hq, hs⟩ := hh
    obtain ⟨v, hv⟩ := hko q hq
    obtain ⟨y, _, hy, _⟩ := Maps.keyOf_str hk hv
    rw [hy] at hs
    exact ⟨y, by cases hp1 : p.1 <;> rw [hp1] at hs <;> simp [Lit.sameKey] at hs; rw [hs]⟩
  obtain ⟨es, hD, hpw, _⟩ := h1.entries K
  obtain ⟨es', hD', hko⟩ := h1.keysOf
  obtain rfl : es = es' := by rw [hD] at hD'; simpa using hD'
  subst hD
  refine (perm_strKeys hpw (fun p hp => by obtain ⟨v, hv⟩ := hko p hp; obtain ⟨x, _, hx, _⟩ := Maps.keyOf_str hk hv; exact ⟨x, hx⟩) ?_ ?_).symm
  · refine List.pairwise_map.2 (h.nodup.imp_of_mem fun {p q} hp hq hne e => hne ?_)
    obtain ⟨a, ha⟩ := key p hp
    obtain ⟨c, hc⟩ := key q hq
    rw [ha, hc] at e ⊢
    exact congrArg _ e
  · intro x
    constructor
    · intro hx
      obtain ⟨p, hp, rfl⟩ := List.mem_map.1 hx
      obtain ⟨a, ha⟩ := key p hp
      have := Maps.has_true_of_atKey (h3 p hp)
      rw [ha] at this ⊢
      exact this
    · intro hh
      obtain ⟨p, hp, e⟩ := h4 _ hh
      exact List.mem_map.2 ⟨p, hp, by rw [e]; rfl⟩
end Go.Proofs.YtkkicbhmcjbmbaaGreat

/- The program's kernel: what lies in memory for it; isMade, described. -/
namespace Go.Proofs.YtkkicbhmcjbmbaaGreat
open Go.RowKit Go.Maps

inductive PTag where
  | kern
  | fmap
  | tmap
  | omap
  | plan
  | obj (i : Nat)
  | cons (i : Nat)
  | desc (n : Nat)
  | ofile (n : Nat)
/-- Where the program's kernel lies: its block, its maps, its plan and that one's list; the blocks of files, terminals and pipes, of consoles, of descriptions, of open files; the number given last. -/
structure PI where
  kb : Nat
  fm : Nat
  tm : Nat
  om : Nat
  pb : Nat
  pv : Value
  ob : Nat → Nat
  cb : Nat → Nat
  db : Nat → Nat
  xb : Nat → Nat
  last : Nat
def nkey (s : ByteArray) : Lit := .string s.data.toList
def dkey (n : Nat) : Lit := .int .i64 n
/-- The files, and the terminals, that have names, in the names' order. -/
def KS.fidx (K : KS) : List Nat := K.nm.filter fun i => (K.obOf i).kind == 1
def KS.tidx (K : KS) : List Nat := K.nm.filter fun i => (K.obOf i).kind == 2
def KS.fl (K : KS) (I : PI) : List (Lit × Nat) := K.fidx.map fun i => (nkey (K.nameOf i), I.ob i)
def KS.tl (K : KS) (I : PI) : List (Lit × Nat) := K.tidx.map fun i => (nkey (K.nameOf i), I.cb i)
def KS.dl (K : KS) (I : PI) : List (Lit × Nat) := K.de.map fun d => (dkey d.n, I.db d.n)
/-- What a description is of, as the program holds it. -/
def thingV (I : PI) (K : KS) (d : De) : Value := match K.tho d with
  | .file _ => .iface 229 (.pointer (some ⟨I.xb d.n, 0, none⟩))
  | .term _ _ => .iface 102 (.pointer (some ⟨I.cb d.th, 0, none⟩))
  | .pipe _ _ _ => .iface 239 (.agg #[.pointer (some ⟨I.ob d.th, 0, none⟩)])
/-- What each part of the program's kernel is; its blocks bear its mark. -/
def PComp (W : World) (ρ : Nat → Option PTag) (I : PI) (K : KS) : PTag → Prop
  | .kern => W.heap[I.kb]? = some (.cells ([.bool true, .map (some I.fm), .map (some I.tm), .map (some I.om), .int .i64 I.last, .pointer (some ⟨I.pb, 0, none⟩), .int .i64 K.reads, .int .i64 K.writes] : List Value).toArray 91 (0, 0)) ∧ ρ I.kb = some .kern ∧ K.next = I.last + 1
  | .fmap => PMap W Tryz.prog 9 I.fm (K.fl I) ∧ ρ I.fm = some .fmap
  | .tmap => PMap W Tryz.prog 9 I.tm (K.tl I) ∧ ρ I.tm = some .tmap
  | .omap => PMap W Tryz.prog 3 I.om (K.dl I) ∧ ρ I.om = some .omap
  | .plan => PlanAt W I.pb I.pv K.plan ∧ ρ I.pb = some .plan ∧ ∀ k, I.pv.ownBlock = some k → ρ k = some .plan
  | .obj i => ∀ (h : i < K.th.length), PObj W (fun k => ρ k = some (.obj i)) (I.ob i) K.th[i].ob
  | .cons i => ∀ (h : i < K.th.length), ∀ ls scr, K.th[i].ob = .term ls scr → W.heap[I.cb i]? = some (.cells ([.pointer (some ⟨I.ob i, 0, none⟩), .int .i64 scr.length] : List Value).toArray 104 (0, 0)) ∧ ρ (I.cb i) = some (.cons i)
  | .desc n => ∀ d ∈ K.de, d.n = n → W.heap[I.db n]? = some (.cells ([thingV I K d, .bool (bit d.flags 1), .bool (bit d.flags 2), .int .i64 d.held] : List Value).toArray 218 (0, 0)) ∧ ρ (I.db n) = some (.desc n)
  | .ofile n => ∀ d ∈ K.de, d.n = n → ∀ b, K.tho d = .file b → W.heap[I.xb n]? = some (.cells ([.pointer (some ⟨I.ob d.th, 0, none⟩), .int .i64 d.pos, .bool (bit d.flags 4)] : List Value).toArray 233 (0, 0)) ∧ ρ (I.xb n) = some (.ofile n)
theorem PComp.keep {W W' : World} {ρ : Nat → Option PTag} {I : PI} {K : KS} {t : PTag} (h : PComp W ρ I K t) (hk : ∀ k, ρ k = some t → k < W.heap.size → W'.heap[k]? = W.heap[k]?) (hs : W.heap.size ≤ W'.heap.size) : PComp W' ρ I K t := by
  have lt : ∀ {k o}, W.heap[k]? = some o → k < W.heap.size := fun e => (Array.getElem?_eq_some_iff.1 e).1
  cases t with
  | kern => exact ⟨(hk _ h.2.1 (lt h.1)).trans h.1, h.2⟩
  | fmap => exact ⟨h.1.keep (hk _ h.2 h.1.lt), h.2⟩
  | tmap => exact ⟨h.1.keep (hk _ h.2 h.1.lt), h.2⟩
  | omap => exact ⟨h.1.keep (hk _ h.2 h.1.lt), h.2⟩
  | plan => exact ⟨h.1.keep fun k hlt e => by
      rcases e with rfl | e
      · exact hk _ h.2.1 hlt
      · exact hk k (h.2.2 k e) hlt, h.2⟩
  | obj i => exact fun hi => (h hi).keep (fun k e hlt => hk k e hlt) hs
  | cons i => exact fun hi ls scr e => ⟨(hk _ (h hi ls scr e).2 (lt (h hi ls scr e).1)).trans (h hi ls scr e).1, (h hi ls scr e).2⟩
  | desc n => exact fun d hd e => ⟨(hk _ (h d hd e).2 (lt (h d hd e).1)).trans (h d hd e).1, (h d hd e).2⟩
  | ofile n => exact fun d hd e b eb => ⟨(hk _ (h d hd e b eb).2 (lt (h d hd e b eb).1)).trans (h d hd e b eb).1, (h d hd e b eb).2⟩
/-- The program's kernel K lies in memory. -/
structure PK (W : World) (ρ : Nat → Option PTag) (I : PI) (K : KS) : Prop where
  comp : ∀ t, PComp W ρ I K t
  lt : ∀ k t, ρ k = some t → k < W.heap.size
  ok : KOk K
  nm : KNm K
theorem PK.keep {W W' : World} {ρ : Nat → Option PTag} {I : PI} {K : KS} (h : PK W ρ I K) (hk : ∀ k t, ρ k = some t → W'.heap[k]? = W.heap[k]?) (hs : W.heap.size ≤ W'.heap.size) : PK W' ρ I K :=
  ⟨fun t => (h.comp t).keep (fun k e _ => hk k t e) hs, fun k t e => Nat.lt_of_lt_of_le (h.lt k t e) hs, h.ok, h.nm⟩
/-- The program's kernel at block kb, all of whose blocks are O's. -/
def KAt (W : World) (O : Nat → Prop) (kb : Nat) (K : KS) : Prop := ∃ ρ I, PK W ρ I K ∧ I.kb = kb ∧ ∀ k t, ρ k = some t → O k
theorem KAt.keep {W W' : World} {O : Nat → Prop} {kb : Nat} {K : KS} (h : KAt W O kb K) (hk : ∀ k, O k → k < W.heap.size → W'.heap[k]? = W.heap[k]?) (hs : W.heap.size ≤ W'.heap.size) : KAt W' O kb K := by
  obtain ⟨ρ, I, h1, h2, h3⟩ := h
  exact ⟨ρ, I, h1.keep (fun k t e => hk k (h3 k t e) (h1.lt k t e)) hs, h2, h3⟩
theorem KAt.below {W W' : World} {O : Nat → Prop} {kb : Nat} {K : KS} (h : KAt W O kb K) (hB : Below W.heap.size W W') : KAt W' O kb K := h.keep (fun k _ hlt => hB.block k hlt) hB.size
theorem KAt.mono {W : World} {O O' : Nat → Prop} {kb : Nat} {K : KS} (h : KAt W O kb K) (hO : ∀ k, O k → O' k) : KAt W O' kb K := by
  obtain ⟨ρ, I, h1, h2, h3⟩ := h
  exact ⟨ρ, I, h1, h2, fun k t e => hO k (h3 k t e)⟩
theorem KAt.ok {W : World} {O : Nat → Prop} {kb : Nat} {K : KS} (h : KAt W O kb K) : KOk K ∧ KNm K := by
  obtain ⟨ρ, I, h1, h2, h3⟩ := h
  exact ⟨h1.ok, h1.nm⟩
theorem KAt.lt {W : World} {O : Nat → Prop} {kb : Nat} {K : KS} (h : KAt W O kb K) : O kb ∧ kb < W.heap.size := by
  obtain ⟨ρ, I, h1, rfl, h3⟩ := h
  have := (h1.comp .kern).2.1
  exact ⟨h3 _ _ this, h1.lt _ _ this⟩
/-- What a call leaves of a kernel of the program. -/
def KStep (w : World) (O : Nat → Prop) (kb : Nat) (K' : KS) (w' : World) : Prop := ∃ O', KAt w' O' kb K' ∧ (∀ k, O' k → O k ∨ w.heap.size ≤ k) ∧ Turned O w w'
theorem KStep.same {w : World} {O : Nat → Prop} {kb : Nat} {K : KS} (h : KAt w O kb K) : KStep w O kb K w := ⟨O, h, fun _ e => .inl e, Turned.refl _ _⟩
theorem KStep.below {w w' : World} {O : Nat → Prop} {kb : Nat} {K : KS} (h : KAt w O kb K) (hB : Below w.heap.size w w') : KStep w O kb K w' := ⟨O, h.below hB, fun _ e => .inl e, Turned.of_below hB⟩

theorem string_key (s : ByteArray) (hs : s.size ≤ maxLen) : keyOf Tryz.prog 9 (.string s) = some (nkey s) := by
  have hu := Tryz.underlying9
  simp [keyOf, hu, mapKey, nkey, hs]
theorem int_key (d : Int) (hd : (Lit.int .i64 d).wf = true) : keyOf Tryz.prog 3 (.int .i64 d) = some (.int .i64 d) := keyOf_int_mk Tryz.underlying3 hd
theorem skeyed : Keyed Tryz.prog 9 := string_keyed Tryz.underlying9
theorem ikeyed : Keyed Tryz.prog 3 := int_keyed Tryz.underlying3

/-- The cells of a kernel. -/
structure KCells (W : World) (ρ : Nat → Option PTag) (I : PI) (K : KS) : Prop where
  made : W.cell? ⟨I.kb, 0, none⟩ = some (.bool true)
  files : W.cell? ⟨I.kb, 1, none⟩ = some (.map (some I.fm))
  terms : W.cell? ⟨I.kb, 2, none⟩ = some (.map (some I.tm))
  opens : W.cell? ⟨I.kb, 3, none⟩ = some (.map (some I.om))
  last : W.cell? ⟨I.kb, 4, none⟩ = some (.int .i64 I.last)
  plan : W.cell? ⟨I.kb, 5, none⟩ = some (.pointer (some ⟨I.pb, 0, none⟩))
  reads : W.cell? ⟨I.kb, 6, none⟩ = some (.int .i64 K.reads)
  writes : W.cell? ⟨I.kb, 7, none⟩ = some (.int .i64 K.writes)
theorem PK.cells {W : World} {ρ : Nat → Option PTag} {I : PI} {K : KS} (h : PK W ρ I K) : KCells W ρ I K := by
  have hb := (h.comp .kern).1
  constructor <;> (rw [cell_of_row W I.kb _ _ _ _ hb]; rfl)
set_option maxRecDepth 100000 in
theorem kmade_any (kb : Nat) (w : World) (h : w.cell? ⟨kb, 0, none⟩ = some (.bool true)) :
    Calls Tryz.prog 108 #[.pointer (some ⟨kb, 0, none⟩)] w fun e w' => e = .returned (.bool true) ∧ w' = w := by
  go_enter Tryz.func108, Tryz.ntmps108
  go_wp2
  go_ret
  exact ⟨rfl, rfl⟩
set_option maxRecDepth 100000 in
theorem kmade_nil (w : World) :
    Calls Tryz.prog 108 #[.pointer none] w fun e w' => e = .returned (.bool false) ∧ w' = w := by
  go_enter Tryz.func108, Tryz.ntmps108
  go_wp2
  go_ret
  exact ⟨rfl, rfl⟩
end Go.Proofs.YtkkicbhmcjbmbaaGreat

/- The program's kernel: described, Kind. -/
namespace Go.Proofs.YtkkicbhmcjbmbaaGreat
open Go.RowKit Go.Maps

theorem zero_desc (w : World) : (zeroValue 214).run Tryz.prog w = .ok (.pointer none) w := by kernel_rfl
/-- What 'described' answers. -/
def descV (I : PI) : Option De → Value
  | none => .tuple #[.pointer none, .int .i64 64]
  | some x => .tuple #[.pointer (some ⟨I.db x.n, 0, none⟩), .int .i64 0]
theorem look_desc {w : World} {ρ : Nat → Option PTag} {I : PI} {K : KS} (h : PK w ρ I K) {d : Int} (hd : I64 d) :
    (Instr.lookup 88 (.map (some I.om)) (.int .i64 d) true).run Tryz.prog w = .ok (.tuple #[.pointer ((K.find d).map fun x => ⟨I.db x.n, 0, none⟩), .bool (K.find d).isSome]) w := by
  have hm := (h.comp .omap).1
  cases hx : K.find d with
  | none =>
    rw [hm.miss ikeyed Tryz.underlying88 (zero_desc w) (int_key d hd.wf) (fun p hp e => ?_) true]
    · rfl
    · obtain ⟨x, hx1, rfl⟩ := List.mem_map.1 hp
      have := List.find?_eq_none.1 hx x hx1
      simp only [dkey, Lit.int.injEq] at e
      simp [e.2] at this
  | some x =>
    obtain ⟨h1, h2⟩ := KS.find_some hx
    rw [hm.hit ikeyed Tryz.underlying88 (zero_desc w) (int_key d hd.wf) (g := I.db x.n) (List.mem_map.2 ⟨x, h1, by simp [dkey, h2]⟩) true]
    rfl
set_option maxRecDepth 100000 in
set_option maxHeartbeats 1000000 in
theorem described_any (ρ : Nat → Option PTag) (I : PI) (K : KS) (d : Int) (w : World) (h : PK w ρ I K) (hd : I64 d) :
    Calls Tryz.prog 134 #[.pointer (some ⟨I.kb, 0, none⟩), .int .i64 d] w fun e w' => e = .returned (descV I (K.find d)) ∧ w' = w := by
  have hm := hide (kmade_any I.kb w h.cells.made)
  have c3 := h.cells.opens
  have hl := look_desc h hd
  cases hx : K.find d with
  | none =>
    rw [hx] at hl
    simp only [Option.map_none, Option.isSome_none] at hl
    clear h
    go_enter Tryz.func134, Tryz.ntmps134
    go_wp2_with fail
    refine hm.out.mono ?_
    rintro e w1 ⟨rfl, rfl⟩
    go_wp2
    go_ret2
    exact ⟨rfl, rfl⟩
  | some x =>
    rw [hx] at hl
    simp only [Option.map_some, Option.isSome_some] at hl
    clear h
    go_enter Tryz.func134, Tryz.ntmps134
    go_wp2_with fail
    refine hm.out.mono ?_
    rintro e w1 ⟨rfl, rfl⟩
    go_wp2
    go_ret2
    exact ⟨rfl, rfl⟩
/-- The cells of a description. -/
structure DCells (W : World) (I : PI) (K : KS) (x : De) : Prop where
  thing : W.cell? ⟨I.db x.n, 0, none⟩ = some (thingV I K x)
  reads : W.cell? ⟨I.db x.n, 1, none⟩ = some (.bool (bit x.flags 1))
  writes : W.cell? ⟨I.db x.n, 2, none⟩ = some (.bool (bit x.flags 2))
  held : W.cell? ⟨I.db x.n, 3, none⟩ = some (.int .i64 x.held)
theorem PK.desc {W : World} {ρ : Nat → Option PTag} {I : PI} {K : KS} (h : PK W ρ I K) {x : De} (hx : x ∈ K.de) : DCells W I K x := by
  have hb := (h.comp (.desc x.n) x hx rfl).1
  constructor <;> (rw [cell_of_row W _ _ _ _ _ hb]; rfl)
theorem thing_file {I : PI} {K : KS} {x : De} {b : List UInt8} (h : K.tho x = .file b) : thingV I K x = .iface 229 (.pointer (some ⟨I.xb x.n, 0, none⟩)) := by unfold thingV; rw [h]
theorem thing_term {I : PI} {K : KS} {x : De} {ls : List (List UInt8)} {scr : List UInt8} (h : K.tho x = .term ls scr) : thingV I K x = .iface 102 (.pointer (some ⟨I.cb x.th, 0, none⟩)) := by unfold thingV; rw [h]
theorem thing_pipe {I : PI} {K : KS} {x : De} {q : List UInt8} {rd wt : Nat} (h : K.tho x = .pipe q rd wt) : thingV I K x = .iface 239 (.agg #[.pointer (some ⟨I.ob x.th, 0, none⟩)]) := by unfold thingV; rw [h]
theorem mf_kind (p : Nat) (w : World) : (method 422 229 (.pointer (some ⟨p, 0, none⟩)) "millrace/kern.kind").run Tryz.prog w = .ok (237, .pointer (some ⟨p, 0, none⟩)) w := by kernel_rfl
theorem mt_kind (p : Nat) (w : World) : (method 422 102 (.pointer (some ⟨p, 0, none⟩)) "millrace/kern.kind").run Tryz.prog w = .ok (231, .pointer (some ⟨p, 0, none⟩)) w := by kernel_rfl
theorem mp_kind (p : Nat) (w : World) : (method 422 239 (.agg #[.pointer (some ⟨p, 0, none⟩)]) "millrace/kern.kind").run Tryz.prog w = .ok (256, .agg #[.pointer (some ⟨p, 0, none⟩)]) w := by kernel_rfl
theorem mf_readWaits (p : Nat) (w : World) : (method 422 229 (.pointer (some ⟨p, 0, none⟩)) "millrace/kern.readWaits").run Tryz.prog w = .ok (239, .pointer (some ⟨p, 0, none⟩)) w := by kernel_rfl
theorem mt_readWaits (p : Nat) (w : World) : (method 422 102 (.pointer (some ⟨p, 0, none⟩)) "millrace/kern.readWaits").run Tryz.prog w = .ok (233, .pointer (some ⟨p, 0, none⟩)) w := by kernel_rfl
theorem mp_readWaits (p : Nat) (w : World) : (method 422 239 (.agg #[.pointer (some ⟨p, 0, none⟩)]) "millrace/kern.readWaits").run Tryz.prog w = .ok (258, .agg #[.pointer (some ⟨p, 0, none⟩)]) w := by kernel_rfl
theorem mf_refuses (p : Nat) (w : World) : (method 422 229 (.pointer (some ⟨p, 0, none⟩)) "millrace/kern.refuses").run Tryz.prog w = .ok (240, .pointer (some ⟨p, 0, none⟩)) w := by kernel_rfl
theorem mt_refuses (p : Nat) (w : World) : (method 422 102 (.pointer (some ⟨p, 0, none⟩)) "millrace/kern.refuses").run Tryz.prog w = .ok (234, .pointer (some ⟨p, 0, none⟩)) w := by kernel_rfl
theorem mp_refuses (p : Nat) (w : World) : (method 422 239 (.agg #[.pointer (some ⟨p, 0, none⟩)]) "millrace/kern.refuses").run Tryz.prog w = .ok (259, .agg #[.pointer (some ⟨p, 0, none⟩)]) w := by kernel_rfl
theorem mf_read (p : Nat) (w : World) : (method 422 229 (.pointer (some ⟨p, 0, none⟩)) "millrace/kern.read").run Tryz.prog w = .ok (238, .pointer (some ⟨p, 0, none⟩)) w := by kernel_rfl
theorem mt_read (p : Nat) (w : World) : (method 422 102 (.pointer (some ⟨p, 0, none⟩)) "millrace/kern.read").run Tryz.prog w = .ok (232, .pointer (some ⟨p, 0, none⟩)) w := by kernel_rfl
theorem mp_read (p : Nat) (w : World) : (method 422 239 (.agg #[.pointer (some ⟨p, 0, none⟩)]) "millrace/kern.read").run Tryz.prog w = .ok (257, .agg #[.pointer (some ⟨p, 0, none⟩)]) w := by kernel_rfl
theorem mf_write (p : Nat) (w : World) : (method 422 229 (.pointer (some ⟨p, 0, none⟩)) "millrace/kern.write").run Tryz.prog w = .ok (241, .pointer (some ⟨p, 0, none⟩)) w := by kernel_rfl
theorem mt_write (p : Nat) (w : World) : (method 422 102 (.pointer (some ⟨p, 0, none⟩)) "millrace/kern.write").run Tryz.prog w = .ok (235, .pointer (some ⟨p, 0, none⟩)) w := by kernel_rfl
theorem mp_write (p : Nat) (w : World) : (method 422 239 (.agg #[.pointer (some ⟨p, 0, none⟩)]) "millrace/kern.write").run Tryz.prog w = .ok (260, .agg #[.pointer (some ⟨p, 0, none⟩)]) w := by kernel_rfl
set_option maxRecDepth 100000 in
set_option maxHeartbeats 1000000 in
theorem kkind_any (ρ : Nat → Option PTag) (I : PI) (K : KS) (d : Int) (w : World) (h : PK w ρ I K) (hd : I64 d) :
    Calls Tryz.prog 72 #[.pointer (some ⟨I.kb, 0, none⟩), .int .i64 d] w fun e w' => e = .returned (.int .i64 (K.kindOf d)) ∧ Below w.heap.size w w' := by
  have HF := hide (described_any ρ I K d w h hd)
  cases hx : K.find d with
  | none =>
    rw [hx] at HF
    rw [show K.kindOf d = 0 by unfold KS.kindOf; rw [hx]]
    clear h
    go_enter Tryz.func72, Tryz.ntmps72
    go_wp2_with fail
    refine HF.out.mono ?_
    rintro e w1 ⟨rfl, rfl⟩
    unfold descV
    go_wp2
    go_ret
    exact ⟨rfl, Below.refl _ _⟩
  | some x =>
    rw [hx] at HF
    have c0 := (h.desc (KS.find_some hx).1).thing
    rw [show K.kindOf d = (K.tho x).kind by unfold KS.kindOf; rw [hx]]
    cases ho : K.tho x with
    | file b =>
      rw [thing_file ho] at c0
      have hm := mf_kind (I.xb x.n)
      clear h
      go_enter Tryz.func72, Tryz.ntmps72
      go_wp2_with fail
      refine HF.out.mono ?_
      rintro e w1 ⟨rfl, rfl⟩
      unfold descV
      go_wp2
      go_ret
      exact ⟨rfl, Below.refl _ _⟩
    | term ls scr =>
      rw [thing_term ho] at c0
      have hm := mt_kind (I.cb x.th)
      clear h
      go_enter Tryz.func72, Tryz.ntmps72
      go_wp2_with fail
      refine HF.out.mono ?_
      rintro e w1 ⟨rfl, rfl⟩
      unfold descV
      go_wp2
      go_ret
      exact ⟨rfl, Below.refl _ _⟩
    | pipe q rd wt =>
      rw [thing_pipe ho] at c0
      have hm := mp_kind (I.ob x.th)
      clear h
      go_enter Tryz.func72, Tryz.ntmps72
      go_wp2_with fail
      refine HF.out.mono ?_
      rintro e w1 ⟨rfl, rfl⟩
      unfold descV
      go_wp2
      go_ret
      exact ⟨rfl, (Below.refl _ _).alloc (Nat.le_refl _) _⟩
end Go.Proofs.YtkkicbhmcjbmbaaGreat

/- What the proof stands on, part 7: the contracts of the program's calls that it reaches. -/
import Derived.Test.YtdmkjbdlidadiaaGreatKP6
import Derived.Lib.MinMax
import Derived.Maps.OwnSet
import Derived.Sort.KeysCollected
/- The reference's kernel: Write. -/
namespace Go.Proofs.YtdmkjbdlidadiaaGreat
open Go.RowKit

theorem setDe_setOb (K : KS) (x : De) (i : Nat) (o : Ob) : (K.setDe x).setOb i o = (K.setOb i o).setDe x := rfl
theorem setDe_twice (K : KS) {x y : De} (h : x.n = y.n) : (K.setDe x).setDe y = K.setDe y := by
  unfold KS.setDe
  simp only [List.map_map]
  congr 1
  apply List.map_congr_left
  intro z _
  simp only [Function.comp]
  by_cases hz : z.n = x.n
  · rw [if_pos hz, if_pos h, if_pos (hz.trans h)]
  · rw [if_neg hz]
theorem room_place (f : List UInt8) (flags : Int) (pos : Nat) : roomOf (.file f) flags pos = 1048576 - placeOf f flags pos := by
  unfold roomOf placeOf bit
  simp only
  by_cases h : fbit flags 4 = 0
  · rw [if_pos h, h]; rfl
  · rw [if_neg h]
    have : (!(fbit flags 4 == 0)) = true := by simpa using h
    rw [if_pos this]
theorem rkw_refused {K : KS} {d : Int} {b : List UInt8} {x : De} (hx : K.find d = some x) (h1 : fbit x.flags 2 ≠ 0) (h2 : ¬ 1048576 < b.length) (h3 : ¬ b.length = 0) (h4 : refusal (K.tho x) x.flags x.pos b.length ≠ 0) : K.write d b = (0, refusal (K.tho x) x.flags x.pos b.length, K) := by
  unfold KS.write
  rw [hx]
  simp only
  rw [if_neg h1, if_neg h2, if_neg h3, if_neg h4]
theorem rkw_fault {K : KS} {d : Int} {b : List UInt8} {x : De} (hx : K.find d = some x) (h1 : fbit x.flags 2 ≠ 0) (h2 : ¬ 1048576 < b.length) (h3 : ¬ b.length = 0) (h4 : refusal (K.tho x) x.flags x.pos b.length = 0) (h5 : (nxt K.plan b.length).2 ≠ 0) : K.write d b = (0, (nxt K.plan b.length).2, K.writeUp) := by
  unfold KS.write
  rw [hx]
  simp only
  rw [if_neg h1, if_neg h2, if_neg h3, if_pos h4, if_neg h5]
set_option maxRecDepth 100000 in
set_option maxHeartbeats 1000000 in
theorem rkwrite_head (B : Nat → Prop) (ρ : Nat → Option Tag) (I : RI) (K : KS) (d : Int) (b : List UInt8) (a1 : Option Addr) (cx : Nat) (w : World) (h : RK w B ρ I K)
    (hh : K.find d = none ∨ ∃ x, K.find d = some x ∧ (fbit x.flags 2 = 0 ∨ 1048576 < b.length ∨ b.length = 0)) :
    Calls Tryz.prog 67 #[.pointer (some ⟨I.kb, 0, none⟩), .int .i64 d, .slice a1 b.length cx] w (RKNum w B I.kb (K.write d b)) := by
  have HF := hide (rfind_any B ρ I K d w h)
  have HX := hide fun E => RKNum.refused h 0 E
  rcases hh with hx | ⟨x, hx, hh⟩
  · rw [hx] at HF
    rw [show K.write d b = (0, 64, K) by unfold KS.write; rw [hx]]
    clear h
    go_enter Tryz.func67, Tryz.ntmps67
    go_wp2_with fail
    refine HF.out.mono ?_
    rintro e w1 ⟨rfl, rfl⟩
    go_wp2
    go_ret2
    exact HX.out 64
  · rw [hx] at HF
    have hm := (KS.find_some hx).1
    have c3 := (h.de hm).f
    have hR : K.write d b = if fbit x.flags 2 = 0 then (0, 65, K) else if 1048576 < b.length then (0, 5, K) else if b.length = 0 then (0, 0, K) else K.write d b := by
      by_cases k1 : fbit x.flags 2 = 0
      · rw [if_pos k1]; unfold KS.write; rw [hx]; simp only; rw [if_pos k1]
      · rw [if_neg k1]
        by_cases k2 : 1048576 < b.length
        · rw [if_pos k2]; unfold KS.write; rw [hx]; simp only; rw [if_neg k1, if_pos k2]
        · rw [if_neg k2]
          by_cases k3 : b.length = 0
          · rw [if_pos k3]; unfold KS.write; rw [hx]; simp only; rw [if_neg k1, if_neg k2, if_pos k3]
          · rw [if_neg k3]
    obtain ⟨v, hv⟩ : ∃ v, bits .and .i64 x.flags 2 = v := ⟨_, rfl⟩
    rw [show fbit x.flags 2 = v from hv] at hR hh
    by_cases k0 : v = 0
    · subst k0
      rw [if_pos rfl] at hR
      rw [hR]
      clear h hR hh
      go_enter Tryz.func67, Tryz.ntmps67
      go_wp2_with fail
      refine HF.out.mono ?_
      rintro e w1 ⟨rfl, rfl⟩
      simp only [Option.map_some]
      go_wp2
      go_ret2
      exact HX.out 65
    · have m0 : (v == 0) = false := by simpa using k0
      rw [if_neg k0] at hR
      by_cases k1 : 1048576 < b.length
      · rw [if_pos k1] at hR
        rw [hR]
        have k2 : (1048576 : Int) < (b.length : Int) := by omega
        clear h hR hh
        go_enter Tryz.func67, Tryz.ntmps67
        go_wp2_with fail
        refine HF.out.mono ?_
        rintro e w1 ⟨rfl, rfl⟩
        simp only [Option.map_some]
        go_wp2
        go_ret2
        exact HX.out 5
      · rw [if_neg k1] at hR
        have k3 : b.length = 0 := by rcases hh with e | e | e; exact absurd e k0; exact absurd e k1; exact e
        rw [if_pos k3] at hR
        rw [hR]
        rw [k3]
        clear h hR hh k1
        go_enter Tryz.func67, Tryz.ntmps67
        go_wp2_with fail
        refine HF.out.mono ?_
        rintro e w1 ⟨rfl, rfl⟩
        simp only [Option.map_some]
        go_wp2
        go_ret2
        exact HX.out 0
theorem RK.wup {w : World} {B : Nat → Prop} {ρ : Nat → Option Tag} {I : RI} {K : KS} (h : RK w B ρ I K) (n : Int) (h1 : 1 ≤ n) (h2 : n ≤ 1048576) :
    w.cell? ⟨I.kb, 5, none⟩ = some (.int .i64 K.writes) ∧ w.frozen? ⟨I.kb, 5, none⟩ = false ∧ (w.setCell ⟨I.kb, 5, none⟩ (.int .i64 ((K.writes : Int) + 1))).cell? ⟨I.kb, 3, none⟩ = some (.pointer (some ⟨I.pb, 0, none⟩)) ∧
    Hid (Calls Tryz.prog 163 #[.pointer (some ⟨I.pb, 0, none⟩), .int .i64 n] (w.setCell ⟨I.kb, 5, none⟩ (.int .i64 ((K.writes : Int) + 1))) fun e w' => e = .returned (.tuple #[.int .i64 (nxt K.plan n).1, .int .i64 (nxt K.plan n).2]) ∧ ∃ v', RK w' B ρ { I with pv := v' } K.writeUp ∧ Turned B w w') := by
  have hb := (h.comp .kern).1
  obtain ⟨hU, hTU⟩ := h.setKern (K' := { K with writes := K.writes + 1 }) rfl rfl rfl rfl (Nat.le_refl _) 5 (.int .i64 ((K.writes + 1 : Nat) : Int)) (by simp)
  have hb1 := (hU.comp .kern).1
  have hN := rknext_any B ρ I _ n _ hU h1 h2
  have hrv : ((K.writes + 1 : Nat) : Int) = (K.writes : Int) + 1 := by omega
  rw [hrv] at hb1 hN hTU
  refine ⟨by rw [cell_of_row w I.kb 5 _ _ _ hb]; rfl, frozen_of_row w I.kb 5 _ _ hb, by rw [cell_of_row _ I.kb 3 _ _ _ hb1]; rfl, hide (hN.mono ?_)⟩
  rintro e w' ⟨rfl, v', h3, h4⟩
  exact ⟨rfl, v', h3, hTU.trans h4 (fun _ _ e => e)⟩
end Go.Proofs.YtdmkjbdlidadiaaGreat

/- The reference's kernel: Write, to a terminal and to a pipe. -/
namespace Go.Proofs.YtdmkjbdlidadiaaGreat
open Go.RowKit

theorem pipe_ok_w {q b : List UInt8} {rd wt : Nat} {m : Int} (h : (Ob.pipe q rd wt).ok) : (Ob.pipe (q ++ b.take (wrN b.length m q.length rd wt)) rd wt).ok := by
  have h1 := wrN_le b.length m q.length rd wt
  refine ⟨?_, h.2⟩
  have h2 := h1.2 h.1
  rw [List.length_append, List.length_take]
  omega
set_option maxRecDepth 100000 in
set_option maxHeartbeats 2000000 in
theorem rkwrite_pipe (B : Nat → Prop) (ρ : Nat → Option Tag) (I : RI) (K : KS) (d : Int) (b : List UInt8) (a1 : Option Addr) (cx : Nat) (w : World) (h : RK w B ρ I K) (hr : K.writes < 9223372036854775807) (hb : Bys w (.slice a1 b.length cx) b) (hcap : b.length ≤ cx) (hap : ∀ k, (Value.slice a1 b.length cx).ownBlock = some k → ¬ B k)
    {x : De} (hx : K.find d = some x) (h1 : fbit x.flags 2 ≠ 0) (h2 : ¬ 1048576 < b.length) (h3 : ¬ b.length = 0) {q : List UInt8} {rd wt : Nat} (ho : K.tho x = .pipe q rd wt) :
    Calls Tryz.prog 67 #[.pointer (some ⟨I.kb, 0, none⟩), .int .i64 d, .slice a1 b.length cx] w (RKNum w B I.kb (K.write d b)) := by
  have HF := hide (rfind_any B ρ I K d w h)
  have HX := hide fun E => RKNum.refused h 0 E
  have HW := hide (And.intro hx (And.intro h1 (And.intro h2 h3)))
  rw [hx] at HF
  have hm := (KS.find_some hx).1
  have hd := h.de hm
  have c1 := hd.t
  have c2 := hd.kind
  have c3 := hd.f
  have hlt := hd.lt
  rw [ho] at c2
  simp only [Ob.kind] at c2
  have c4 := (h.ptr hm).2.2 q rd wt ho
  have hO := h.robj hm
  rw [ho] at hO
  obtain ⟨pa, pc, Bp, hP, -⟩ := hO.1
  have c5 := hP.c1
  have HO := hide hO
  have HB := hide hb
  have HK := hide h
  have m2 : ¬ (1048576 : Int) < (b.length : Int) := by omega
  have m3 : ¬ (b.length : Int) = 0 := by omega
  have m4 : ((b.length : Int) == 0) = false := by rw [beq_eq_false_iff_ne]; exact m3
  obtain ⟨v, hv⟩ : ∃ v, bits .and .i64 x.flags 2 = v := ⟨_, rfl⟩
  have k0 : ¬ v = 0 := by rw [← hv]; exact h1
  have m0 : (v == 0) = false := by simpa using k0
  by_cases hrd : rd = 0
  · subst hrd
    have hW := rkw_refused (b := b) hx h1 h2 h3 (by rw [ho]; simp [refusal])
    rw [ho, show refusal (.pipe q 0 wt) x.flags x.pos b.length = 53 from rfl] at hW
    rw [hW]
    have c6 : w.cell? ⟨I.ob x.th, 1, none⟩ = some (.int .i64 0) := c5
    clear c5
    clear h hd hP hb hO hW
    go_enter Tryz.func67, Tryz.ntmps67
    go_wp2_with fail
    refine HF.out.mono ?_
    rintro e w1 ⟨rfl, rfl⟩
    simp only [Option.map_some]
    go_wp2
    go_ret2
    exact HX.out 53
  have mr : ¬ (rd : Int) = 0 := by omega
  have mr2 : ((rd : Int) == 0) = false := by rw [beq_eq_false_iff_ne]; exact mr
  have HC := hide (ob_pcanWrite _ _ q rd wt (b.length : Int) w hO.1)
  by_cases hcw : canW (b.length : Int) q.length rd wt = false
  · have hrf : refusal (.pipe q rd wt) x.flags x.pos b.length = 52 := by show (if rd = 0 then (53 : Int) else if canW (b.length : Int) q.length rd wt = false then 52 else 0) = 52; rw [if_neg hrd, if_pos hcw]
    have hW := rkw_refused (b := b) hx h1 h2 h3 (by rw [ho, hrf]; decide)
    rw [ho, hrf] at hW
    rw [hW]
    rw [hcw] at HC
    clear h hd hP hb hO hW hrf
    go_enter Tryz.func67, Tryz.ntmps67
    go_wp2_with fail
    refine HF.out.mono ?_
    rintro e w1 ⟨rfl, rfl⟩
    simp only [Option.map_some]
    go_wp2_with fail
    refine HC.out.mono ?_
    rintro e w1 ⟨rfl, rfl⟩
    go_wp2
    go_ret2
    exact HX.out 52
  have hct : canW (b.length : Int) q.length rd wt = true := by simpa using hcw
  rw [hct] at HC
  have hrf : refusal (.pipe q rd wt) x.flags x.pos b.length = 0 := by show (if rd = 0 then (53 : Int) else if canW (b.length : Int) q.length rd wt = false then 52 else 0) = 0; rw [if_neg hrd, if_neg hcw]
  obtain ⟨q5, q5s, q3, HN⟩ := h.wup (b.length : Int) (by omega) (by omega)
  by_cases hE : (nxt K.plan (b.length : Int)).2 = 0
  · have hW : K.write d b = (((wrN b.length (nxt K.plan b.length).1 q.length rd wt : Nat) : Int), Kp_wrE b.length (nxt K.plan b.length).1 q.length rd wt, K.writeUp.setOb x.th (.pipe (q ++ b.take (wrN b.length (nxt K.plan b.length).1 q.length rd wt)) rd wt)) := by
      unfold KS.write
      rw [hx]
      simp only
      rw [if_neg h1, if_neg h2, if_neg h3, if_pos (by rw [ho]; exact hrf), if_pos hE, ho]
    rw [hW]
    rw [hE] at HN
    generalize (nxt K.plan (b.length : Int)).1 = m at *
    clear h hd hP hb hO hW hrf hcw hE
    go_enter Tryz.func67, Tryz.ntmps67
    go_wp2_with fail
    refine HF.out.mono ?_
    rintro e w1 ⟨rfl, rfl⟩
    simp only [Option.map_some]
    go_wp2_with fail
    refine HC.out.mono ?_
    rintro e w1 ⟨rfl, rfl⟩
    go_wp2_with fail
    refine HN.out.mono ?_
    rintro e w2 ⟨rfl, v', hK2, hT2⟩
    have HT2 := hide hT2
    have HK2 := hide hK2
    clear c1 c2 c3 c4 c5 q5 q5s q3
    have hd2 := hK2.de (x := x) hm
    have c1 := hd2.t
    have c2 : w2.cell? ⟨I.tb x.th, 1, none⟩ = some (.int .i64 3) := by have := hd2.kind; rw [show K.writeUp.tho x = .pipe q rd wt from ho] at this; exact this
    have c4 := (hK2.ptr (x := x) hm).2.2 q rd wt ho
    have hO2 := hK2.robj (x := x) hm
    rw [show K.writeUp.tho x = .pipe q rd wt from ho] at hO2
    have HO2 := hide hO2
    have HB2 := hide (HB.out.turned HT2.out (fun k hk _ e => by exact hap k hk e))
    clear hd2 hO2 hK2 hT2
    go_wp2_with fail
    refine (ob_pwrite _ _ q b rd wt m a1 b.length cx _ HO2.out.1 HB2.out hcap (by omega)).mono ?_
    rintro e w3 ⟨rfl, hs3⟩
    obtain ⟨ρ', hK3, -, hT3⟩ := HK2.out.setOb (i := x.th) hlt hs3 (by show _ = K.th[x.th].ob.kind; rw [show K.th[x.th].ob = .pipe q rd wt by rw [← KS.tho_eq hlt]; exact ho]; rfl) (pipe_ok_w HO2.out.2)
    have HK3 := hide hK3
    have HT3 := hide (HT2.out.trans hT3 (fun _ _ e => e))
    clear hK3 hT3 hs3
    go_wp2
    go_ret2
    exact ⟨ρ', _, rfl, HK3.out, rfl, HT3.out⟩
  · rw [rkw_fault hx h1 h2 h3 (by rw [ho]; exact hrf) hE]
    have hE1 : ((nxt K.plan (b.length : Int)).2 != 0) = true := by simpa using hE
    generalize nxt K.plan (b.length : Int) = mE at *
    obtain ⟨m, E⟩ := mE
    simp only at HN hE hE1 ⊢
    clear h hd hP hb hO hrf hcw
    go_enter Tryz.func67, Tryz.ntmps67
    go_wp2_with fail
    refine HF.out.mono ?_
    rintro e w1 ⟨rfl, rfl⟩
    simp only [Option.map_some]
    go_wp2_with fail
    refine HC.out.mono ?_
    rintro e w1 ⟨rfl, rfl⟩
    go_wp2_with fail
    refine HN.out.mono ?_
    rintro e w2 ⟨rfl, v', hK2, hT2⟩
    have HT2 := hide hT2
    have HK2 := hide hK2
    clear hK2 hT2 c1 c2 c3 c4 c5 q5 q5s q3
    go_wp2
    go_ret2
    exact ⟨ρ, _, rfl, HK2.out, rfl, HT2.out⟩
end Go.Proofs.YtdmkjbdlidadiaaGreat

/- The reference's kernel: Write, to a terminal. -/
namespace Go.Proofs.YtdmkjbdlidadiaaGreat
open Go.RowKit

theorem tho_setOb (K : KS) (x : De) (ob : Ob) (h : x.th < K.th.length) : (K.setOb x.th ob).tho x = ob := by
  unfold KS.tho KS.setOb
  simp [h]
theorem term_ok_w {ls : List (List UInt8)} {scr : List UInt8} (h : (Ob.term ls scr).ok) (x : List UInt8) : (Ob.term ls (wrS scr x)).ok := ⟨h.1, h.2.1, wrS_room h.2.2⟩
theorem wrS_fits {scr x : List UInt8} (h : scr.length + x.length ≤ 1048576) : wrS scr x = scr ++ x := by unfold wrS; rw [if_neg (by omega)]
set_option maxRecDepth 100000 in
set_option maxHeartbeats 2000000 in
theorem rkwrite_term (B : Nat → Prop) (ρ : Nat → Option Tag) (I : RI) (K : KS) (d : Int) (b : List UInt8) (a1 : Option Addr) (cx : Nat) (w : World) (h : RK w B ρ I K) (hr : K.writes < 9223372036854775807) (hb : Bys w (.slice a1 b.length cx) b) (hcap : b.length ≤ cx) (hap : ∀ k, (Value.slice a1 b.length cx).ownBlock = some k → ¬ B k)
    {x : De} (hx : K.find d = some x) (h1 : fbit x.flags 2 ≠ 0) (h2 : ¬ 1048576 < b.length) (h3 : ¬ b.length = 0) {ls : List (List UInt8)} {scr : List UInt8} (ho : K.tho x = .term ls scr) :
    Calls Tryz.prog 67 #[.pointer (some ⟨I.kb, 0, none⟩), .int .i64 d, .slice a1 b.length cx] w (RKNum w B I.kb (K.write d b)) := by
  have HF := hide (rfind_any B ρ I K d w h)
  have HX := hide fun E => RKNum.refused h 0 E
  have HW := hide (And.intro hx (And.intro h1 (And.intro h2 h3)))
  rw [hx] at HF
  have hm := (KS.find_some hx).1
  have hd := h.de hm
  have c1 := hd.t
  have c2 := hd.kind
  have c3 := hd.f
  have hlt := hd.lt
  rw [ho] at c2
  simp only [Ob.kind] at c2
  have c4 := (h.ptr hm).2.1 ls scr ho
  have hO := h.robj hm
  rw [ho] at hO
  have hsl : scr.length ≤ 1048576 := hO.2.2.2
  have HO := hide hO
  have HB := hide hb
  have HK := hide h
  have m2 : ¬ (1048576 : Int) < (b.length : Int) := by omega
  have m3 : ¬ (b.length : Int) = 0 := by omega
  have m4 : ((b.length : Int) == 0) = false := by rw [beq_eq_false_iff_ne]; exact m3
  obtain ⟨v, hv⟩ : ∃ v, bits .and .i64 x.flags 2 = v := ⟨_, rfl⟩
  have k0 : ¬ v = 0 := by rw [← hv]; exact h1
  have m0 : (v == 0) = false := by simpa using k0
  have HRo := hide (rroom_any B ρ I K x w h hm (by rw [ho]; simp [Ob.kind]))
  rw [ho, show roomOf (.term ls scr) x.flags x.pos = 1048576 - scr.length from rfl] at HRo
  by_cases hfull : scr.length = 1048576
  · have hrf : refusal (.term ls scr) x.flags x.pos b.length = 31 := by show (if scr.length = 1048576 then (31 : Int) else 0) = 31; rw [if_pos hfull]
    have hW := rkw_refused (b := b) hx h1 h2 h3 (by rw [ho, hrf]; decide)
    rw [ho, hrf] at hW
    rw [hW]
    rw [hfull] at HRo
    clear h hd hb hO hW hrf hfull hsl
    go_enter Tryz.func67, Tryz.ntmps67
    go_wp2_with fail
    refine HF.out.mono ?_
    rintro e w1 ⟨rfl, rfl⟩
    simp only [Option.map_some]
    go_wp2_with fail
    refine HRo.out.mono ?_
    rintro e w1 ⟨rfl, rfl⟩
    go_wp2
    go_ret2
    exact HX.out 31
  have hrf : refusal (.term ls scr) x.flags x.pos b.length = 0 := by show (if scr.length = 1048576 then (31 : Int) else 0) = 0; rw [if_neg hfull]
  obtain ⟨R, hR⟩ : ∃ R, R = 1048576 - scr.length := ⟨_, rfl⟩
  have hR0 : ¬ (R : Int) = 0 := by omega
  have hR1 : ((R : Int) == 0) = false := by rw [beq_eq_false_iff_ne]; exact hR0
  rw [← hR] at HRo
  have HRr := hide hR
  obtain ⟨q5, q5s, q3, HN⟩ := h.wup (b.length : Int) (by omega) (by omega)
  by_cases hE : (nxt K.plan (b.length : Int)).2 = 0
  · have hg := nxt_good (l := K.plan) (want := (b.length : Int)) h.ok.plan (by omega) (by omega) hE
    have hW : K.write d b = (((min (nxt K.plan b.length).1.toNat (1048576 - scr.length) : Nat) : Int), 0, K.writeUp.setOb x.th (.term ls (scr ++ b.take (min (nxt K.plan b.length).1.toNat (1048576 - scr.length))))) := by
      unfold KS.write
      rw [hx]
      simp only
      rw [if_neg h1, if_neg h2, if_neg h3, if_pos (by rw [ho]; exact hrf), if_pos hE, ho]
    rw [hW]
    rw [hE] at HN
    generalize (nxt K.plan (b.length : Int)).1 = m at *
    obtain ⟨mm, hmm⟩ : ∃ mm : Nat, mm = min m.toNat (1048576 - scr.length) := ⟨_, rfl⟩
    rw [← hmm]
    have hmin : min m (R : Int) = (mm : Int) := by omega
    have hmb : mm ≤ b.length := by omega
    have hm1 : 1 ≤ mm := by omega
    have HMr : Hid (scr.length + mm ≤ 1048576) := hide (by omega)
    have s0 : (0 : Int) ≤ (mm : Int) := by omega
    have s1 : (mm : Int) ≤ (cx : Int) := by omega
    have HF1 : Hid (scr.length + (b.take mm).length ≤ 1048576) := hide (by rw [List.length_take]; omega)
    clear h hd hb hO hW hrf hE hfull hR hmm hg hsl HMr
    go_enter Tryz.func67, Tryz.ntmps67
    go_wp2_with fail
    refine HF.out.mono ?_
    rintro e w1 ⟨rfl, rfl⟩
    simp only [Option.map_some]
    go_wp2_with fail
    refine HRo.out.mono ?_
    rintro e w1 ⟨rfl, rfl⟩
    go_wp2_with fail
    refine HN.out.mono ?_
    rintro e w2 ⟨rfl, v', hK2, hT2⟩
    have HT2 := hide hT2
    have HK2 := hide hK2
    clear c1 c2 c3 c4 q5 q5s q3
    have hd2 := hK2.de (x := x) hm
    have c1 := hd2.t
    have c2 : w2.cell? ⟨I.tb x.th, 1, none⟩ = some (.int .i64 2) := by have := hd2.kind; rw [show K.writeUp.tho x = .term ls scr from ho] at this; exact this
    have c4 := (hK2.ptr (x := x) hm).2.1 ls scr ho
    have hO2 := hK2.robj (x := x) hm
    rw [show K.writeUp.tho x = .term ls scr from ho] at hO2
    have HO2 := hide (And.intro (hO2.1.keep (W' := w2.drew) (fun _ _ _ => rfl) (Nat.le_refl _)) hO2.2)
    have HKd := hide (hK2.below (Below.refl _ w2).drew)
    have HRo2 := hide (rroom_any B ρ { I with pv := v' } K.writeUp x w2 hK2 hm (by rw [show K.writeUp.tho x = .term ls scr from ho]; simp [Ob.kind]))
    rw [show K.writeUp.tho x = .term ls scr from ho, show roomOf (.term ls scr) x.flags x.pos = 1048576 - scr.length from rfl, ← HRr.out] at HRo2
    have hB2 := HB.out.turned HT2.out (fun k hk _ e => by exact hap k hk e)
    obtain ⟨-, xb, xo, rfl, -, -⟩ := bys_block hB2 (by omega)
    have HB2 : Hid (Bys w2 (.slice (some ⟨xb, xo, none⟩) mm cx) (b.take mm)) := hide (by have := bys_cut hB2 0 mm cx (by omega); rw [List.drop_zero, Nat.add_zero] at this; exact this)
    clear hd2 hO2 hK2 hT2 hB2
    go_wp2_with (first | (go_at_call 168; refine HRo2.out.mono ?_; rintro _ w2 ⟨rfl, rfl⟩) | fail)
    go_region_held3 (fun w' => w'.cell? ⟨I.db x.n, 1, none⟩ = some (.pointer (some ⟨I.tb x.th, 0, none⟩)) ∧ w'.cell? ⟨I.tb x.th, 3, none⟩ = some (.pointer (some ⟨I.ob x.th, 0, none⟩)))
      (first | exact K5 | trivial | go_keep)
      (first
        | (go_at_call 170; refine (ob_twrite _ _ ls scr (b.take mm) _ _ HO2.out.1 HO2.out.2 (HB2.out.below (Below.refl _ w2).drew) (by rw [List.length_take]; omega)).mono ?_; rintro e w3 ⟨rfl, hs3⟩; obtain ⟨ρ', hK3, -, hT3⟩ := HKd.out.setOb (i := x.th) hlt hs3 (by show _ = K.th[x.th].ob.kind; rw [show K.th[x.th].ob = .term ls scr by rw [← KS.tho_eq hlt]; exact ho]; rfl) (term_ok_w HO2.out.2 (b.take mm)); have K5 : w3.cell? ⟨I.db x.n, 1, none⟩ = some (.pointer (some ⟨I.tb x.th, 0, none⟩)) ∧ w3.cell? ⟨I.tb x.th, 3, none⟩ = some (.pointer (some ⟨I.ob x.th, 0, none⟩)) := ⟨(hK3.de (x := x) hm).t, (hK3.ptr (x := x) hm).2.1 ls (wrS scr (b.take mm)) (tho_setOb _ x _ hlt)⟩; rw [wrS_fits HF1.out] at hK3; have HK3 := hide hK3; have HT3 := hide (HT2.out.trans ((Turned.of_below (Below.refl _ w2).drew).trans hT3 (fun _ _ e => e)) (fun _ _ e => e)); clear hK3 hT3 hs3)
        | fail)
    go_wp2
    go_ret2
    exact ⟨_, _, rfl, HK3.out, rfl, HT3.out⟩
  · rw [rkw_fault hx h1 h2 h3 (by rw [ho]; exact hrf) hE]
    have hE1 : ((nxt K.plan (b.length : Int)).2 != 0) = true := by simpa using hE
    generalize nxt K.plan (b.length : Int) = mE at *
    obtain ⟨m, E⟩ := mE
    simp only at HN hE hE1 ⊢
    clear h hd hb hO hrf hfull hR hsl
    go_enter Tryz.func67, Tryz.ntmps67
    go_wp2_with fail
    refine HF.out.mono ?_
    rintro e w1 ⟨rfl, rfl⟩
    simp only [Option.map_some]
    go_wp2_with fail
    refine HRo.out.mono ?_
    rintro e w1 ⟨rfl, rfl⟩
    go_wp2_with fail
    refine HN.out.mono ?_
    rintro e w2 ⟨rfl, v', hK2, hT2⟩
    have HT2 := hide hT2
    have HK2 := hide hK2
    clear hK2 hT2 c1 c2 c3 c4 q5 q5s q3
    go_wp2
    go_ret2
    exact ⟨ρ, _, rfl, HK2.out, rfl, HT2.out⟩
end Go.Proofs.YtdmkjbdlidadiaaGreat

/- The reference's kernel: Write, to a file. -/
namespace Go.Proofs.YtdmkjbdlidadiaaGreat
open Go.RowKit

theorem mem_new_de {K : KS} {x y : De} (h : x ∈ K.de) (hn : y.n = x.n) : y ∈ (K.setDe y).de := by
  unfold KS.setDe
  exact List.mem_map.2 ⟨x, h, by rw [if_pos hn.symm]⟩
set_option maxRecDepth 100000 in
set_option maxHeartbeats 2000000 in
theorem rkwrite_file (B : Nat → Prop) (ρ : Nat → Option Tag) (I : RI) (K : KS) (d : Int) (b : List UInt8) (a1 : Option Addr) (cx : Nat) (w : World) (h : RK w B ρ I K) (hr : K.writes < 9223372036854775807) (hb : Bys w (.slice a1 b.length cx) b) (hcap : b.length ≤ cx) (hap : ∀ k, (Value.slice a1 b.length cx).ownBlock = some k → ¬ B k)
    {x : De} (hx : K.find d = some x) (h1 : fbit x.flags 2 ≠ 0) (h2 : ¬ 1048576 < b.length) (h3 : ¬ b.length = 0) {f : List UInt8} (ho : K.tho x = .file f) :
    Calls Tryz.prog 67 #[.pointer (some ⟨I.kb, 0, none⟩), .int .i64 d, .slice a1 b.length cx] w (RKNum w B I.kb (K.write d b)) := by
  have HF := hide (rfind_any B ρ I K d w h)
  have HX := hide fun E => RKNum.refused h 0 E
  have HW := hide (And.intro hx (And.intro h1 (And.intro h2 h3)))
  rw [hx] at HF
  have hm := (KS.find_some hx).1
  have hd := h.de hm
  have c1 := hd.t
  have c2 := hd.kind
  have c3 := hd.f
  have hlt := hd.lt
  rw [ho] at c2
  simp only [Ob.kind] at c2
  have c4 := (h.ptr hm).1 f ho
  have hO := h.robj hm
  rw [ho] at hO
  have hfl : f.length ≤ 1048576 := hO.2
  obtain ⟨P, hP⟩ : ∃ P, P = placeOf f x.flags x.pos := ⟨_, rfl⟩
  have hPl : P ≤ 1048576 := by
    have := h.ok.pos x hm
    rw [hP]; unfold placeOf; split <;> omega
  have HO := hide hO
  have HB := hide hb
  have HK := hide h
  have m2 : ¬ (1048576 : Int) < (b.length : Int) := by omega
  have m3 : ¬ (b.length : Int) = 0 := by omega
  have m4 : ((b.length : Int) == 0) = false := by rw [beq_eq_false_iff_ne]; exact m3
  obtain ⟨v, hv⟩ : ∃ v, bits .and .i64 x.flags 2 = v := ⟨_, rfl⟩
  have k0 : ¬ v = 0 := by rw [← hv]; exact h1
  have m0 : (v == 0) = false := by simpa using k0
  have HRo := hide (rroom_any B ρ I K x w h hm (by rw [ho]; simp [Ob.kind]))
  rw [ho, room_place, ← hP] at HRo
  by_cases hfull : P = 1048576
  · have hrf : refusal (.file f) x.flags x.pos b.length = 31 := by show (if placeOf f x.flags x.pos = 1048576 then (31 : Int) else 0) = 31; rw [← hP, if_pos hfull]
    have hW := rkw_refused (b := b) hx h1 h2 h3 (by rw [ho, hrf]; decide)
    rw [ho, hrf] at hW
    rw [hW]
    rw [hfull] at HRo
    clear h hd hb hO hW hrf hfull hPl hP
    go_enter Tryz.func67, Tryz.ntmps67
    go_wp2_with fail
    refine HF.out.mono ?_
    rintro e w1 ⟨rfl, rfl⟩
    simp only [Option.map_some]
    go_wp2_with fail
    refine HRo.out.mono ?_
    rintro e w1 ⟨rfl, rfl⟩
    go_wp2
    go_ret2
    exact HX.out 31
  have hrf : refusal (.file f) x.flags x.pos b.length = 0 := by show (if placeOf f x.flags x.pos = 1048576 then (31 : Int) else 0) = 0; rw [← hP, if_neg hfull]
  obtain ⟨R, hR⟩ : ∃ R, R = 1048576 - P := ⟨_, rfl⟩
  have hR0 : ¬ (R : Int) = 0 := by omega
  have hR1 : ((R : Int) == 0) = false := by rw [beq_eq_false_iff_ne]; exact hR0
  rw [← hR] at HRo
  obtain ⟨q5, q5s, q3, HN⟩ := h.wup (b.length : Int) (by omega) (by omega)
  by_cases hE : (nxt K.plan (b.length : Int)).2 = 0
  · have hg := nxt_good (l := K.plan) (want := (b.length : Int)) h.ok.plan (by omega) (by omega) hE
    have hW : K.write d b = (((min (nxt K.plan b.length).1.toNat (1048576 - placeOf f x.flags x.pos) : Nat) : Int), 0, (K.writeUp.setOb x.th (.file (wrL f (placeOf f x.flags x.pos) (b.take (min (nxt K.plan b.length).1.toNat (1048576 - placeOf f x.flags x.pos)))))).setDe { x with pos := placeOf f x.flags x.pos + min (nxt K.plan b.length).1.toNat (1048576 - placeOf f x.flags x.pos) }) := by
      unfold KS.write
      rw [hx]
      simp only
      rw [if_neg h1, if_neg h2, if_neg h3, if_pos (by rw [ho]; exact hrf), if_pos hE, ho]
    rw [hW, ← hP]
    rw [hE] at HN
    generalize (nxt K.plan (b.length : Int)).1 = m at *
    obtain ⟨mm, hmm⟩ : ∃ mm : Nat, mm = min m.toNat (1048576 - P) := ⟨_, rfl⟩
    rw [← hmm]
    have hmin : min m (R : Int) = (mm : Int) := by omega
    have hmb : mm ≤ b.length := by omega
    have hm1 : 1 ≤ mm := by omega
    have HF1 : Hid (P + mm ≤ 1048576) := hide (by omega)
    have s0 : (0 : Int) ≤ (mm : Int) := by omega
    have s1 : (mm : Int) ≤ (cx : Int) := by omega
    have HPl := hide hP
    have HRr := hide hR
    have hPl' := hPl
    obtain ⟨v4, hv4⟩ : ∃ v4, bits .and .i64 x.flags 4 = v4 := ⟨_, rfl⟩
    clear h hd hb hO hW hrf hE hfull hR hmm hg hP hPl
    have HV4 : Hid ((v4 = 0 → P = x.pos) ∧ (¬ v4 = 0 → P = f.length)) := hide (by
      rw [HPl.out]
      unfold placeOf bit
      rw [show fbit x.flags 4 = v4 from hv4]
      refine ⟨fun e => ?_, fun e => ?_⟩
      · rw [e]; rfl
      · rw [if_pos (by simpa using e)])
    have hvc : v4 = 0 ∨ (¬ v4 = 0 ∧ (v4 == 0) = false ∧ (v4 != 0) = true) := by
      by_cases e : v4 = 0
      · exact .inl e
      · exact .inr ⟨e, by simpa using e, by simpa using e⟩
    go_enter Tryz.func67, Tryz.ntmps67
    go_wp2_with fail
    refine HF.out.mono ?_
    rintro e w1 ⟨rfl, rfl⟩
    simp only [Option.map_some]
    go_wp2_with fail
    refine HRo.out.mono ?_
    rintro e w1 ⟨rfl, rfl⟩
    go_wp2_with fail
    refine HN.out.mono ?_
    rintro e w2 ⟨rfl, v', hK2, hT2⟩
    have HT2 := hide hT2
    have HK2 := hide hK2
    clear c1 c2 c3 c4 q5 q5s q3
    have hd2 := hK2.de (x := x) hm
    have c1 := hd2.t
    have c3 := hd2.f
    have c5 := hd2.p
    have c5s := hd2.soft 3
    have c2 : w2.cell? ⟨I.tb x.th, 1, none⟩ = some (.int .i64 1) := by have := hd2.kind; rw [show K.writeUp.tho x = .file f from ho] at this; exact this
    have c4 := (hK2.ptr (x := x) hm).1 f ho
    have hO2 := hK2.robj (x := x) hm
    rw [show K.writeUp.tho x = .file f from ho] at hO2
    obtain ⟨u, Bu, hF2, -⟩ := hO2.1
    have c6 := hF2.data
    obtain ⟨ua, uc, hu⟩ := owns_slice hF2.row
    rw [hu] at c6
    have HRo2 := hide (rroom_any B ρ { I with pv := v' } K.writeUp x w2 hK2 hm (by rw [show K.writeUp.tho x = .file f from ho]; simp [Ob.kind]))
    rw [show K.writeUp.tho x = .file f from ho, room_place, ← HPl.out, ← HRr.out] at HRo2
    have hB2 := HB.out.turned HT2.out (fun k hk _ e => by exact hap k hk e)
    obtain ⟨-, xb, xo, rfl, -, -⟩ := bys_block hB2 (by omega)
    have hxB : ¬ B xb := hap xb rfl
    have HB2 : Hid (Bys w2 (.slice (some ⟨xb, xo, none⟩) mm cx) (b.take mm)) := hide (by have := bys_cut hB2 0 mm cx (by omega); rw [List.drop_zero, Nat.add_zero] at this; exact this)
    have HOw : Hid (∀ k, (Value.slice (some ⟨xb, xo, none⟩) mm cx).ownBlock = some k → ¬ B k) := hide (fun k hk => by
      have h5 : xb = k := by simpa [Value.ownBlock] using hk
      subst h5
      exact hxB)
    clear hd2 hO2 hK2 hT2 hB2 hF2 hu
    rcases hvc with rfl | ⟨g1, g2, g3⟩
    · obtain rfl := HV4.out.1 rfl
      go_wp2_with (first | (go_at_call 168; refine HRo2.out.mono ?_; rintro _ w2 ⟨rfl, rfl⟩) | fail)
      have hmx : x ∈ K.writeUp.de := hm
      have HB3 := HB2
      have HT3 := HT2
      have hlo := HK2.out.lt
      have hOx := HK2.out.robj (x := x) hmx
      rw [show (K.writeUp).tho x = .file f from ho] at hOx
      have HOd := hide (hOx.1.keep (W' := (w2).drew) (fun _ _ _ => rfl) (Nat.le_refl _))
      have HKd := hide (HK2.out.below (Below.refl _ (w2)).drew)
      have HBd := hide (HB3.out.below (Below.refl _ (w2)).drew)
      have c1 := (HK2.out.de (x := x) hmx).t
      have c5 := (HK2.out.de (x := x) hmx).p
      have c4 := (HK2.out.ptr (x := x) hmx).1 f ho
      simp only at c1 c4 c5
      clear hOx
      have HNo : Hid (∀ k, (Value.slice (some ⟨xb, xo, none⟩) mm cx).ownBlock = some k → ¬ ρ k = some (.obj x.th)) := hide (fun k hk e => by exact HOw.out k hk (hlo k _ e).1)
      go_region_held3 (fun w' => w'.cell? ⟨I.db x.n, 1, none⟩ = some (.pointer (some ⟨I.tb x.th, 0, none⟩)) ∧ w'.cell? ⟨I.tb x.th, 2, none⟩ = some (.pointer (some ⟨I.ob x.th, 0, none⟩)) ∧ w'.cell? ⟨I.db x.n, 3, none⟩ = some (.int .i64 (x.pos : Nat)))
        (first | exact K5 | go_keep)
        (first
          | (go_at_call 171; refine (ob_fwrite _ _ f (b.take mm) _ _ _ HOd.out hfl HBd.out (fun _ k hk e => HNo.out k hk e)).mono ?_; rintro e w3 ⟨rfl, hs3⟩; obtain ⟨ρ', hK3, -, hT3⟩ := HKd.out.setOb (i := x.th) hlt hs3 (by show _ = K.th[x.th].ob.kind; rw [show K.th[x.th].ob = .file f by rw [← KS.tho_eq hlt]; exact ho]; rfl) (wrL_len hfl); have K5 : w3.cell? ⟨I.db x.n, 1, none⟩ = some (.pointer (some ⟨I.tb x.th, 0, none⟩)) ∧ w3.cell? ⟨I.tb x.th, 2, none⟩ = some (.pointer (some ⟨I.ob x.th, 0, none⟩)) ∧ w3.cell? ⟨I.db x.n, 3, none⟩ = some (.int .i64 (x.pos : Nat)) := ⟨(hK3.de (x := x) hmx).t, (hK3.ptr (x := x) hmx).1 _ (tho_setOb _ x _ hlt), (hK3.de (x := x) hmx).p⟩)
          | fail)
      have c7 := K5.2.2
      have c7s := (hK3.de (x := x) hmx).soft 3
      obtain ⟨hK6, hT6⟩ := hK3.setDe (x := x) (x' := { x with pos := x.pos + mm }) hmx rfl rfl rfl HF1.out (hK3.ok.held x hmx) 3 (.int .i64 ((x.pos + mm : Nat) : Int)) (by simp)
      have HK6 := hide hK6
      have hlo3 := hK3.lt
      have HT6 := hide ((HT3.out.trans ((Turned.of_below (S := B) (Below.refl _ (w2)).drew).trans hT3 (fun _ _ e => e)) (fun _ _ e => e)).trans hT6 (fun k _ e => (hlo3 _ _ e).1))
      clear hK6 hT6 hK3 K5 hlo hlo3 hT3 hs3
      go_wp2
      go_ret2
      rw [show (x.pos : Int) + (mm : Int) = ((x.pos + mm : Nat) : Int) by omega]
      exact ⟨ρ', _, rfl, HK6.out, rfl, HT6.out⟩
    · obtain rfl := HV4.out.2 g1
      obtain ⟨hKS, hTS⟩ := HK2.out.setDe (x := x) (x' := { x with pos := f.length }) hm rfl rfl rfl hfl (HK2.out.ok.held x hm) 3 (.int .i64 f.length) (by simp)
      have hlo2 := HK2.out.lt
      have HTS := hide hTS
      have HKS := hide hKS
      have HTS2 : Hid (Turned B w2 (w2.setCell ⟨I.db x.n, 3, none⟩ (.int .i64 f.length))) := hide (hTS.mono fun k e => (hlo2 k _ e).1)
      clear hKS hTS
      go_wp2_with (first | (go_at_call 168; refine HRo2.out.mono ?_; rintro _ w2 ⟨rfl, rfl⟩) | fail)
      generalize w2.setCell ⟨I.db x.n, 3, none⟩ (.int .i64 f.length) = wS at *
      have hmx : ({ x with pos := f.length } : De) ∈ (K.writeUp.setDe ({ x with pos := f.length } : De)).de := mem_new_de (x := x) hm rfl
      have HT3 := hide (HT2.out.trans HTS2.out (fun _ _ e => e))
      have HB3 := hide (HB2.out.turned HTS2.out (fun k hk _ e => by exact HOw.out k hk e))
      have hlo := HKS.out.lt
      have hOx := HKS.out.robj (x := ({ x with pos := f.length } : De)) hmx
      rw [show ((K.writeUp.setDe ({ x with pos := f.length } : De))).tho ({ x with pos := f.length } : De) = .file f from ho] at hOx
      have HOd := hide (hOx.1.keep (W' := (wS).drew) (fun _ _ _ => rfl) (Nat.le_refl _))
      have HKd := hide (HKS.out.below (Below.refl _ (wS)).drew)
      have HBd := hide (HB3.out.below (Below.refl _ (wS)).drew)
      have c1 := (HKS.out.de (x := ({ x with pos := f.length } : De)) hmx).t
      have c5 := (HKS.out.de (x := ({ x with pos := f.length } : De)) hmx).p
      have c4 := (HKS.out.ptr (x := ({ x with pos := f.length } : De)) hmx).1 f ho
      simp only at c1 c4 c5
      clear hOx
      have HNo : Hid (∀ k, (Value.slice (some ⟨xb, xo, none⟩) mm cx).ownBlock = some k → ¬ ρ k = some (.obj x.th)) := hide (fun k hk e => by exact HOw.out k hk (hlo k _ e).1)
      go_region_held3 (fun w' => w'.cell? ⟨I.db x.n, 1, none⟩ = some (.pointer (some ⟨I.tb x.th, 0, none⟩)) ∧ w'.cell? ⟨I.tb x.th, 2, none⟩ = some (.pointer (some ⟨I.ob x.th, 0, none⟩)) ∧ w'.cell? ⟨I.db x.n, 3, none⟩ = some (.int .i64 (f.length : Nat)))
        (first | exact K5 | go_keep)
        (first
          | (go_at_call 171; refine (ob_fwrite _ _ f (b.take mm) _ _ _ HOd.out hfl HBd.out (fun _ k hk e => HNo.out k hk e)).mono ?_; rintro e w3 ⟨rfl, hs3⟩; obtain ⟨ρ', hK3, -, hT3⟩ := HKd.out.setOb (i := x.th) hlt hs3 (by show _ = K.th[x.th].ob.kind; rw [show K.th[x.th].ob = .file f by rw [← KS.tho_eq hlt]; exact ho]; rfl) (wrL_len hfl); have K5 : w3.cell? ⟨I.db x.n, 1, none⟩ = some (.pointer (some ⟨I.tb x.th, 0, none⟩)) ∧ w3.cell? ⟨I.tb x.th, 2, none⟩ = some (.pointer (some ⟨I.ob x.th, 0, none⟩)) ∧ w3.cell? ⟨I.db x.n, 3, none⟩ = some (.int .i64 (f.length : Nat)) := ⟨(hK3.de (x := ({ x with pos := f.length } : De)) hmx).t, (hK3.ptr (x := ({ x with pos := f.length } : De)) hmx).1 _ (tho_setOb _ ({ x with pos := f.length } : De) _ hlt), (hK3.de (x := ({ x with pos := f.length } : De)) hmx).p⟩)
          | fail)
      have c7 := K5.2.2
      have c7s := (hK3.de (x := ({ x with pos := f.length } : De)) hmx).soft 3
      obtain ⟨hK6, hT6⟩ := hK3.setDe (x := ({ x with pos := f.length } : De)) (x' := { x with pos := f.length + mm }) hmx rfl rfl rfl HF1.out (hK3.ok.held ({ x with pos := f.length } : De) hmx) 3 (.int .i64 ((f.length + mm : Nat) : Int)) (by simp)
      have HK6 := hide hK6
      have hlo3 := hK3.lt
      have HT6 := hide ((HT3.out.trans ((Turned.of_below (S := B) (Below.refl _ (wS)).drew).trans hT3 (fun _ _ e => e)) (fun _ _ e => e)).trans hT6 (fun k _ e => (hlo3 _ _ e).1))
      clear hK6 hT6 hK3 K5 hlo hlo3 hT3 hs3
      go_wp2
      go_ret2
      rw [show (f.length : Int) + (mm : Int) = ((f.length + mm : Nat) : Int) by omega]
      have hfin := HK6.out
      rw [setDe_setOb, setDe_twice _ (x := { x with pos := f.length }) (y := { x with pos := f.length + mm }) rfl] at hfin
      exact ⟨ρ', _, rfl, hfin, rfl, HT6.out⟩
  · rw [rkw_fault hx h1 h2 h3 (by rw [ho]; exact hrf) hE]
    have hE1 : ((nxt K.plan (b.length : Int)).2 != 0) = true := by simpa using hE
    generalize nxt K.plan (b.length : Int) = mE at *
    obtain ⟨m, E⟩ := mE
    simp only at HN hE hE1 ⊢
    clear h hd hb hO hrf hfull hR hP hPl
    go_enter Tryz.func67, Tryz.ntmps67
    go_wp2_with fail
    refine HF.out.mono ?_
    rintro e w1 ⟨rfl, rfl⟩
    simp only [Option.map_some]
    go_wp2_with fail
    refine HRo.out.mono ?_
    rintro e w1 ⟨rfl, rfl⟩
    go_wp2_with fail
    refine HN.out.mono ?_
    rintro e w2 ⟨rfl, v', hK2, hT2⟩
    have HT2 := hide hT2
    have HK2 := hide hK2
    clear hK2 hT2 c1 c2 c3 c4 q5 q5s q3
    go_wp2
    go_ret2
    exact ⟨ρ, _, rfl, HK2.out, rfl, HT2.out⟩
theorem rkwrite_any (B : Nat → Prop) (ρ : Nat → Option Tag) (I : RI) (K : KS) (d : Int) (b : List UInt8) (a1 : Option Addr) (cx : Nat) (w : World) (h : RK w B ρ I K) (hr : K.writes < 9223372036854775807) (hb : Bys w (.slice a1 b.length cx) b) (hcap : b.length ≤ cx) (hap : ∀ k, (Value.slice a1 b.length cx).ownBlock = some k → ¬ B k) :
    Calls Tryz.prog 67 #[.pointer (some ⟨I.kb, 0, none⟩), .int .i64 d, .slice a1 b.length cx] w (RKNum w B I.kb (K.write d b)) := by
  cases hx : K.find d with
  | none => exact rkwrite_head B ρ I K d b a1 cx w h (.inl hx)
  | some x =>
    by_cases hh : fbit x.flags 2 = 0 ∨ 1048576 < b.length ∨ b.length = 0
    · exact rkwrite_head B ρ I K d b a1 cx w h (.inr ⟨x, hx, hh⟩)
    · have h1 : fbit x.flags 2 ≠ 0 := fun e => hh (.inl e)
      have h2 : ¬ 1048576 < b.length := fun e => hh (.inr (.inl e))
      have h3 : ¬ b.length = 0 := fun e => hh (.inr (.inr e))
      cases ho : K.tho x with
      | file f => exact rkwrite_file B ρ I K d b a1 cx w h hr hb hcap hap hx h1 h2 h3 ho
      | term ls scr => exact rkwrite_term B ρ I K d b a1 cx w h hr hb hcap hap hx h1 h2 h3 ho
      | pipe q rd wt => exact rkwrite_pipe B ρ I K d b a1 cx w h hr hb hcap hap hx h1 h2 h3 ho
end Go.Proofs.YtdmkjbdlidadiaaGreat

/- The reference's kernel: a new description. -/
namespace Go.Proofs.YtdmkjbdlidadiaaGreat
open Go.RowKit

theorem Tryz.infoDp : (Tryz.prog.info? 262).map (fun i => (i.zero, i.size, i.bytes)) = some (some (.pointer none), 1, 8) := by kernel_rfl
theorem run_append_dptr (w : World) (ty : TypeId) (base : Nat) (s : Value) (n : Nat) (xs : List Value) (g c : Nat) (p : Value) (hp : p.oneCell' = true) (hs : w.ownsRow base 262 1 s n xs) (hx : w.cell? ⟨g, 0, none⟩ = some p) (hn : (n + 1) * 8 ≤ 140737488355328) (hb : base ≤ w.heap.size) :
    ∃ s' w', (Builtin.append_ #[150, 150] ty #[s, .slice (some ⟨g, 0, none⟩) 1 c]).run Tryz.prog w = .ok s' w' ∧ Hid (w'.ownsRow base 262 1 s' (n + 1) (xs ++ [p])) ∧ w.grownBy w' s.ownBlock ∧ (s'.ownBlock = s.ownBlock ∨ s'.ownBlock = some w.heap.size) := by
  refine (?_ : ∃ s' w', (Builtin.append_ #[150, 150] ty #[s, .slice (some ⟨g, 0, none⟩) 1 c]).run Tryz.prog w = .ok s' w' ∧ w'.ownsRow base 262 1 s' (n + 1) (xs ++ [p]) ∧ w.grownBy w' s.ownBlock ∧ (s'.ownBlock = s.ownBlock ∨ s'.ownBlock = some w.heap.size))
  obtain ⟨i0, hi, hz0, hz1, hz2⟩ := info_parts Tryz.infoDp
  obtain ⟨v', w', h1, h2, h3, _, h5⟩ := run_append_own_at (P := Tryz.prog) w base 150 ty 262 i0 (.pointer none) 1 8 Tryz.underlying150 hi hz0 hz1 hz2 rfl (by decide) s _ _ hs ⟨g, 0, none⟩ 1 c [p] rfl (fun j v hj => by
    match j, hj with
    | 0, hj =>
      obtain rfl : p = v := by simpa using hj
      have hadd : (⟨g, 0, none⟩ : Addr).add 0 = ⟨g, 0, none⟩ := by unfold Addr.add; split <;> simp_all
      rw [hadd]; exact hx) (by intro v hv; simp at hv; subst hv; exact hp) (by unfold maxLen; omega) (by omega) hb
  exact ⟨v', w', h1, h2, h3, h5⟩
theorem KOk.newDe2 {K : KS} (h : KOk K) {i : Nat} (hi : i < K.th.length) {flags : Int} (hf : flagsOk flags = true) (hd : K.de.length < 256) (hn : 1 ≤ K.next) : KOk (K.newDe i flags) := by
  have el : ∀ d ∈ (K.newDe i flags).de, d ∈ K.de ∨ d = ⟨K.next, i, flags, 0, 1⟩ := fun d hd => by
    rcases List.mem_append.1 hd with e | e
    · exact .inl e
    · exact .inr (by simpa using e)
  refine ⟨?_, h.named, fun d hd => ?_, h.nm, fun d hd => ?_, fun d hd d' hd' e => ?_, fun d hd => ?_, fun d hd => ?_, fun d hd => ?_, h.plan⟩
  · show (K.de ++ [_]).length ≤ 256
    rw [List.length_append]; simp; omega
  · rcases el d hd with e | rfl
    · exact h.th d e
    · exact hi
  · rcases el d hd with e | rfl
    · have := h.num d e; exact ⟨this.1, Nat.lt_succ_of_lt this.2⟩
    · exact ⟨hn, Nat.lt_succ_self _⟩
  · rcases el d hd with e1 | rfl
    · rcases el d' hd' with e2 | rfl
      · exact h.once d e1 d' e2 e
      · have h9 := (h.num d e1).2; have h8 : d.n = K.next := e; omega
    · rcases el d' hd' with e2 | rfl
      · have h9 := (h.num d' e2).2; have h8 : K.next = d'.n := e; omega
      · rfl
  · rcases el d hd with e | rfl
    · exact h.flags d e
    · exact hf
  · rcases el d hd with e | rfl
    · exact h.pos d e
    · exact Nat.zero_le _
  · rcases el d hd with e | rfl
    · exact h.held d e
    · exact ⟨Nat.le_refl _, show (1 : Nat) ≤ 1024 by decide⟩
theorem RK.newDe {W W' : World} {B : Nat → Prop} {ρ : Nat → Option Tag} {I : RI} {K : KS} (h : RK W B ρ I K) {i : Nat} (hi : i < K.th.length) {flags : Int} (hf : flagsOk flags = true) (hd : K.de.length < 256) (hn1 : 1 ≤ K.next) {nb : Nat} {v' : Value}
    (h1 : W'.heap[I.kb]? = some (.cells ([I.vT, v', .int .i64 ((K.next + 1 : Nat) : Int), .pointer (some ⟨I.pb, 0, none⟩), .int .i64 K.reads, .int .i64 K.writes] : List Value).toArray 153 (0, 0)))
    (h2 : W'.ownsRow 0 262 1 v' (K.de.length + 1) (K.de.map (fun d => .pointer (some ⟨I.db d.n, 0, none⟩)) ++ [.pointer (some ⟨nb, 0, none⟩)]))
    (h3 : W'.heap[nb]? = some (.cells ([.int .i64 K.next, .pointer (some ⟨I.tb i, 0, none⟩), .int .i64 flags, .int .i64 0, .int .i64 1] : List Value).toArray 265 (0, 0)))
    (h4 : ∀ k, v'.ownBlock = some k → I.vD.ownBlock = some k ∨ (W.heap.size ≤ k ∧ k ≠ nb)) (h5 : W.heap.size ≤ nb)
    (hk : ∀ k, k < W.heap.size → k ≠ I.kb → I.vD.ownBlock ≠ some k → W'.heap[k]? = W.heap[k]?) (hs : W.heap.size ≤ W'.heap.size) :
    ∃ ρ', RK W' B ρ' { I with vD := v', db := fun n => if n = K.next then nb else I.db n } (K.newDe i flags) := by
  have hnb : nb < W'.heap.size := (Array.getElem?_eq_some_iff.1 h3).1
  obtain ⟨ρ', hρ⟩ : ∃ ρ' : Nat → Option Tag, ∀ k, (k < W.heap.size → ρ' k = ρ k) ∧ (¬ k < W.heap.size → (k = nb → ρ' k = some (.desc K.next)) ∧ (k ≠ nb → (v'.ownBlock = some k → ρ' k = some .drow) ∧ (v'.ownBlock ≠ some k → ρ' k = none))) :=
    ⟨fun k => if k < W.heap.size then ρ k else if k = nb then some (.desc K.next) else if v'.ownBlock = some k then some .drow else none, fun k => ⟨fun hk => if_pos hk, fun hk => ⟨fun e => (if_neg hk).trans (if_pos e), fun e => ⟨fun e' => (if_neg hk).trans ((if_neg e).trans (if_pos e')), fun e' => (if_neg hk).trans ((if_neg e).trans (if_neg e'))⟩⟩⟩⟩
  have old : ∀ k t, ρ k = some t → ρ' k = some t := fun k t e => by rw [(hρ k).1 (h.lt k t e).2]; exact e
  have kr := (h.comp .kern).2
  have dr := (h.comp .drow).2
  have keep : ∀ t, t ≠ .kern → t ≠ .drow → RComp W' B ρ I K t := fun t n1 n2 => (h.comp t).keep (fun k e hlt => hk k hlt (fun e' => by subst e'; rw [kr] at e; exact n1 (Option.some.inj e).symm) (fun e' => by have := dr k e'; rw [e] at this; exact n2 (Option.some.inj this))) hs
  refine ⟨ρ', ⟨fun t => ?_, fun k t e => ?_, ?_, fun k e => h.up k (Nat.le_trans hs e)⟩⟩
  · cases t with
    | kern => exact ⟨h1, old _ _ kr⟩
    | trow => have := keep .trow (by simp) (by simp); exact ⟨this.1, fun k e => old _ _ (this.2 k e)⟩
    | drow =>
      refine ⟨?_, fun k e => ?_⟩
      · have e : (K.newDe i flags).de.map (fun d => Value.pointer (some ⟨(if d.n = K.next then nb else I.db d.n), 0, none⟩)) = K.de.map (fun d => Value.pointer (some ⟨I.db d.n, 0, none⟩)) ++ [.pointer (some ⟨nb, 0, none⟩)] := by
          show (K.de ++ [(⟨K.next, i, flags, 0, 1⟩ : De)]).map _ = _
          rw [List.map_append]
          congr 1
          · apply List.map_congr_left
            intro d hd
            have := (h.ok.num d hd).2
            rw [if_neg (by omega)]
          · simp
        show W'.ownsRow 0 _ 1 v' (K.de ++ [(⟨K.next, i, flags, 0, 1⟩ : De)]).length ((K.newDe i flags).de.map _)
        rw [e, List.length_append]
        exact h2
      · rcases h4 k e with h6 | ⟨h6, h7⟩
        · exact old _ _ (dr k h6)
        · exact (((hρ k).2 (by omega)).2 h7).1 e
    | plan => have := keep .plan (by simp) (by simp); exact ⟨this.1, old _ _ this.2.1, fun k e => old _ _ (this.2.2 k e)⟩
    | thing j => intro hj; have := keep (.thing j) (by simp) (by simp) hj; exact ⟨this.1, old _ _ this.2⟩
    | obj j => intro hj; have := keep (.obj j) (by simp) (by simp) hj; exact ⟨this.1.mono fun k e => old _ _ e, this.2⟩
    | desc n =>
      intro d hd' e
      rcases List.mem_append.1 hd' with hm | hm
      · have hlt := (h.ok.num d hm).2
        have := keep (.desc n) (by simp) (by simp) d hm e
        have hne : ¬ n = K.next := by omega
        refine ⟨?_, ?_⟩
        · show W'.heap[if n = K.next then nb else I.db n]? = _
          rw [if_neg hne]; exact this.1
        · show ρ' (if n = K.next then nb else I.db n) = _
          rw [if_neg hne]; exact old _ _ this.2
      · obtain rfl : d = ⟨K.next, i, flags, 0, 1⟩ := by simpa using hm
        obtain rfl : K.next = n := e
        refine ⟨?_, ?_⟩
        · show W'.heap[if K.next = K.next then nb else I.db K.next]? = _
          rw [if_pos rfl]; exact h3
        · show ρ' (if K.next = K.next then nb else I.db K.next) = _
          rw [if_pos rfl]; exact ((hρ nb).2 (by omega)).1 rfl
  · by_cases hlt : k < W.heap.size
    · rw [(hρ k).1 hlt] at e; exact ⟨(h.lt k t e).1, Nat.lt_of_lt_of_le (h.lt k t e).2 hs⟩
    · by_cases hn : k = nb
      · exact ⟨h.up k (by omega), by omega⟩
      · by_cases hv : v'.ownBlock = some k
        · exact ⟨h.up k (by omega), (h2.lt k hv).2⟩
        · rw [(((hρ k).2 hlt).2 hn).2 hv] at e; cases e
  · exact KOk.newDe2 h.ok hi hf hd hn1
end Go.Proofs.YtdmkjbdlidadiaaGreat

/- Spoil turns the block of its slice, and no other. -/
namespace Go.Proofs.YtdmkjbdlidadiaaGreat
open Go.RowKit

set_option maxRecDepth 100000 in
set_option maxHeartbeats 1000000 in
theorem Kp_spoil_turn (base : Nat) (v : Value) (n : Nat) (xs : List Value) (w : World) (h : w.ownsRow base 5 1 v n xs) (hx : ∀ u ∈ xs, ∃ c, u = .int .u8 c) (hs : n ≤ maxLen) :
    Calls Tryz.prog 32 #[v] w fun e w' => e = .returned (.tuple #[]) ∧ Turned (fun k => v.ownBlock = some k) w w' := by
  unfold maxLen at hs
  rcases h.2 with ⟨rfl, h0⟩ | ⟨g, cap, cur, rfl, hbg, -⟩
  · go_enter Tryz.func32, Tryz.ntmps32
    go_wp2
    go_loopw [2] (fun i wr => i = .int .i64 0 ∧ wr = w) (fun _ _ => 0)
    case atStart => exact ⟨rfl, rfl⟩
    case round =>
      obtain ⟨rfl, rfl⟩ := hrel
      go_wp2
      go_end0
      exact ⟨rfl, Turned.refl _ _⟩
  · have HO := hide h
    have HX := hide hx
    have hlen : xs.length = n := by have := h.1; omega
    clear h hx
    go_enter Tryz.func32, Tryz.ntmps32
    go_wp2
    go_loopw [2] (fun i wr => ∃ (k : Nat) (ys : List Value), k ≤ n ∧ i = .int .i64 k ∧ ys.length = n ∧ (∀ u ∈ ys, ∃ c, u = .int .u8 c) ∧ wr.ownsRow base 5 1 (.slice (some ⟨g, 0, none⟩) n cap) n ys ∧ Turned (fun k => (Value.slice (some ⟨g, 0, none⟩) n cap).ownBlock = some k) w wr) (fun i _ => n - (intOf i).toNat)
    case atStart => exact ⟨0, xs, Nat.zero_le _, rfl, hlen, HX.out, HO.out, Turned.refl _ _⟩
    case round =>
      clear HO HX hlen
      obtain ⟨k, ys, hk, rfl, hlen, hys, hown, hT⟩ := hrel
      have HT := hide hT
      clear hT
      by_cases hlt : k < n
      · obtain ⟨c, hc⟩ := hys ys[k] (List.getElem_mem _)
        have hcell := hown.cellAt k (by omega)
        rw [List.getElem?_eq_getElem (by omega), hc] at hcell
        have hfr := hown.frozenAt k
        have HY := hide hys
        have HO := hide hown
        have HL := hide hlen
        clear hys hown hc hlen
        go_wp2
        go_roundw
        case rel =>
          obtain ⟨hst, hgr⟩ := HO.out.stored k (Value.int .u8 (bits .xor .u8 c 85))
          refine ⟨k + 1, _, by omega, by go_num, ?_, ?_, hst, HT.out.set (.inl rfl)⟩
          · rw [List.length_set]; exact HL.out
          · intro u hu
            rcases List.mem_or_eq_of_mem_set hu with h | h
            · exact HY.out u h
            · exact ⟨_, h⟩
        case measure => simp [intOf]; omega
      · go_wp2
        go_end0
        exact ⟨rfl, HT.out⟩
theorem Kp_bv_ints (l : List UInt8) : ∀ u ∈ l.map bv, ∃ c, u = .int .u8 c := by
  intro u hu
  obtain ⟨c, _, rfl⟩ := List.mem_map.1 hu
  exact ⟨_, rfl⟩
end Go.Proofs.YtdmkjbdlidadiaaGreat

/- The program's files, terminals and pipes in one notion, each within a set of blocks of its own. -/
namespace Go.Proofs.YtdmkjbdlidadiaaGreat
open Go.RowKit

def PObj (W : World) (O : Nat → Prop) (p : Nat) : Ob → Prop
  | .file b => b.length ≤ 1048576 ∧ ∃ r cap, FileAt W p r cap b ∧ O p ∧ O r
  | .term ls scr => ∃ B O1, PTerm W B p O1 ls scr ∧ ∀ k, O1 k → O k
  | .pipe q rd wt => PipeAt W p q rd wt ∧ O p
theorem PObj.ok {W : World} {O : Nat → Prop} {p : Nat} {ob : Ob} (h : PObj W O p ob) : ob.ok := by
  cases ob with
  | file b => exact h.1
  | term ls scr => obtain ⟨B, O1, h1, _⟩ := h; exact ⟨h1.few, h1.short, h1.room⟩
  | pipe q rd wt => obtain ⟨⟨R, f, h1, _⟩, _⟩ := h; exact ⟨h1.lc, h1.lr, h1.lw⟩
theorem PObj.at {W : World} {O : Nat → Prop} {p : Nat} {ob : Ob} (h : PObj W O p ob) : O p ∧ p < W.heap.size := by
  cases ob with
  | file b => obtain ⟨_, r, cap, h1, h2, _⟩ := h; exact ⟨h2, h1.lt⟩
  | term ls scr => obtain ⟨B, O1, h1, h2⟩ := h; obtain ⟨la, lc, s, h3⟩ := h1.term; exact ⟨h2 _ h3.ot, (h3.lt _ h3.ot).2⟩
  | pipe q rd wt => exact ⟨h.2, h.1.lt⟩
theorem PObj.mono {W : World} {O O' : Nat → Prop} {p : Nat} {ob : Ob} (h : PObj W O p ob) (hO : ∀ k, O k → O' k) : PObj W O' p ob := by
  cases ob with
  | file b => obtain ⟨h0, r, cap, h1, h2, h3⟩ := h; exact ⟨h0, r, cap, h1, hO _ h2, hO _ h3⟩
  | term ls scr => obtain ⟨B, O1, h1, h2⟩ := h; exact ⟨B, O1, h1, fun k e => hO _ (h2 k e)⟩
  | pipe q rd wt => exact ⟨h.1, hO _ h.2⟩
theorem PObj.keep {W W' : World} {O : Nat → Prop} {p : Nat} {ob : Ob} (h : PObj W O p ob) (hk : ∀ k, O k → k < W.heap.size → W'.heap[k]? = W.heap[k]?) (hs : W.heap.size ≤ W'.heap.size) : PObj W' O p ob := by
  cases ob with
  | file b =>
    obtain ⟨h0, r, cap, h1, h2, h3⟩ := h
    have hp := hk p h2 h1.lt
    exact ⟨h0, r, cap, ⟨(World.cell?_of_block (w := W) hp).trans h1.made, (World.cell?_of_block (w := W) hp).trans h1.data, (World.frozen?_of_block (w := W) hp).trans h1.soft, h1.row.keep (hk r h3 h1.row.lt), h1.apart⟩, h2, h3⟩
  | term ls scr =>
    obtain ⟨B, O1, h1, h2⟩ := h
    obtain ⟨la, lc, s, h3⟩ := h1.term
    have hp := hk p (h2 _ h3.ot) (h3.lt _ h3.ot).2
    exact ⟨B, O1, ⟨(World.cell?_of_block (w := W) hp).trans h1.made, ⟨la, lc, s, h3.keep (fun k e => hk k (h2 k e) (h3.lt k e).2) hs⟩, h1.few, h1.short, h1.room⟩, h2⟩
  | pipe q rd wt => exact ⟨h.1.keep (hk p h.2 h.1.lt), h.2⟩
def PStep (w : World) (O : Nat → Prop) (p : Nat) (ob' : Ob) (w' : World) : Prop := ∃ O', PObj w' O' p ob' ∧ (∀ k, O' k → O k ∨ w.heap.size ≤ k) ∧ Turned O w w'
theorem PStep.same {w : World} {O : Nat → Prop} {p : Nat} {ob : Ob} (h : PObj w O p ob) : PStep w O p ob w := ⟨O, h, fun _ e => .inl e, Turned.refl _ _⟩

theorem po_fread (O : Nat → Prop) (p : Nat) (b : List UInt8) (off n : Int) (w : World) (h : PObj w O p (.file b)) :
    Calls Tryz.prog 308 #[.pointer (some ⟨p, 0, none⟩), .int .i64 off, .int .i64 n] w fun e w' => ∃ v, e = .returned (.tuple #[v, .int .i64 (Fi_rdE off n)]) ∧ w'.ownsRow w.heap.size 5 1 v (rdL b off n).length ((rdL b off n).map bv) ∧ Below w.heap.size w w' := by
  obtain ⟨h0, r, cap, h1, h2, h3⟩ := h
  exact readAt_any p r cap b off n w h1 h0
theorem po_fsize (O : Nat → Prop) (p : Nat) (b : List UInt8) (w : World) (h : PObj w O p (.file b)) :
    Calls Tryz.prog 173 #[.pointer (some ⟨p, 0, none⟩)] w fun e w' => e = .returned (.int .i64 b.length) ∧ w' = w := by
  obtain ⟨h0, r, cap, h1, h2, h3⟩ := h
  exact size_any p r cap b w h1
theorem po_fwrite (O : Nat → Prop) (p : Nat) (b x : List UInt8) (off : Int) (vx : Value) (w : World) (h : PObj w O p (.file b)) (hx : Bys w vx x) (hd : 0 < x.length → ∀ k, vx.ownBlock = some k → ¬ O k) :
    Calls Tryz.prog 309 #[.pointer (some ⟨p, 0, none⟩), .int .i64 off, vx] w fun e w' => e = .returned (.int .i64 (Fi_wrE off x.length)) ∧ PStep w O p (.file (wrL b off x)) w' := by
  obtain ⟨h0, r, cap, h1, h2, h3⟩ := h
  refine (writeAt_any p r cap b off vx x w h1 hx (fun h0 k e => ⟨fun e' => hd h0 k e (by rw [e']; exact h2), fun e' => hd h0 k e (by rw [e']; exact h3)⟩)).mono ?_
  rintro e w' ⟨rfl, r', cap', h4, h5, h6⟩
  refine ⟨rfl, fun k => O k ∨ k = r', ⟨wrL_len h0, r', cap', h4, .inl h2, .inr rfl⟩, fun k e => ?_, h6.mono fun k e => ?_⟩
  · rcases e with e | rfl
    · exact .inl e
    · rcases h5 with h5 | h5
      · left; rw [h5]; exact h3
      · exact .inr h5
  · rcases e with rfl | rfl
    · exact h2
    · exact h3
theorem po_tread (O : Nat → Prop) (p : Nat) (ls : List (List UInt8)) (scr : List UInt8) (n : Int) (w : World) (h : PObj w O p (.term ls scr)) :
    Calls Tryz.prog 319 #[.pointer (some ⟨p, 0, none⟩), .int .i64 n] w fun e w' => ∃ v, e = .returned (.tuple #[v, .int .i64 (Te_rdE n)]) ∧ w'.ownsRow w.heap.size 5 1 v (rdH ls n).length ((rdH ls n).map bv) ∧ PObj w' O p (.term (rdR ls n) scr) ∧ Turned O w w' := by
  obtain ⟨B, O1, h1, h2⟩ := h
  refine (Te_read_any B p O1 ls scr n w h1).mono ?_
  rintro e w' ⟨v, rfl, h3, h4, h5⟩
  exact ⟨v, rfl, h3, ⟨B, O1, h4, h2⟩, h5.mono h2⟩
theorem po_twrite (O : Nat → Prop) (p : Nat) (ls : List (List UInt8)) (scr x : List UInt8) (vx : Value) (w : World) (h : PObj w O p (.term ls scr)) (hx : Bys w vx x) :
    Calls Tryz.prog 320 #[.pointer (some ⟨p, 0, none⟩), vx] w fun e w' => e = .returned (.int .i64 (Te_wrE scr.length x.length)) ∧ PStep w O p (.term ls (wrS scr x)) w' := by
  obtain ⟨B, O1, h1, h2⟩ := h
  refine (Te_write_any B p O1 ls scr vx x w h1 hx).mono ?_
  rintro e w' ⟨rfl, O2, h3, h4, h5⟩
  refine ⟨rfl, fun k => O k ∨ O2 k, ⟨B, O2, h3, fun k e => .inr e⟩, fun k e => ?_, h5.mono h2⟩
  rcases e with e | e
  · exact .inl e
  · exact (h4 k e).imp (h2 k) id
theorem po_pread (O : Nat → Prop) (p : Nat) (q : List UInt8) (rd wt : Nat) (n : Int) (w : World) (h : PObj w O p (.pipe q rd wt)) :
    Calls Tryz.prog 339 #[.pointer (some ⟨p, 0, none⟩), .int .i64 n] w fun e w' => ∃ v, e = .returned (.tuple #[v, .int .i64 (Kp_rdE n q.length rd wt)]) ∧ w'.ownsRow w.heap.size 5 1 v (rdB n q rd wt).length ((rdB n q rd wt).map bv) ∧ PObj w' O p (.pipe (rdQ n q rd wt) rd wt) ∧ Turned O w w' := by
  refine (Kp_read_any n p q rd wt w h.1).mono ?_
  rintro e w' ⟨v, rfl, h3, h4, h5⟩
  exact ⟨v, rfl, h3, ⟨h4, h.2⟩, h5.mono fun k e => by rw [e]; exact h.2⟩
theorem po_pwrite (O : Nat → Prop) (p : Nat) (q x : List UInt8) (rd wt : Nat) (most : Int) (a1 : Option Addr) (n cx : Nat) (w : World) (h : PObj w O p (.pipe q rd wt)) (hx : Bys w (.slice a1 n cx) x) (hcx : x.length ≤ cx) (hxs : x.length ≤ 140737488351232) (hd : 0 < x.length → ∀ k, (Value.slice a1 n cx).ownBlock = some k → ¬ O k) :
    Calls Tryz.prog 340 #[.pointer (some ⟨p, 0, none⟩), .slice a1 n cx, .int .i64 most] w fun e w' => e = .returned (.tuple #[.int .i64 (wrN x.length most q.length rd wt : Nat), .int .i64 (Kp_wrE x.length most q.length rd wt)]) ∧ PStep w O p (.pipe (q ++ x.take (wrN x.length most q.length rd wt)) rd wt) w' := by
  refine (Kp_write_any most p q x a1 n cx rd wt w h.1 hx hcx hxs (fun h0 e => hd h0 p e h.2)).mono ?_
  rintro e w' ⟨rfl, h4, h5⟩
  exact ⟨rfl, O, ⟨h4, h.2⟩, fun _ e => .inl e, h5.mono fun k e => by rw [e]; exact h.2⟩
theorem po_pjoin (O : Nat → Prop) (p : Nat) (q : List UInt8) (rd wt : Nat) (x : Bool) (w : World) (h : PObj w O p (.pipe q rd wt)) :
    Calls Tryz.prog 218 #[.pointer (some ⟨p, 0, none⟩), .bool x] w fun e w' => e = .returned (.int .i64 (joinE x rd wt)) ∧ PStep w O p (.pipe q (joinR x rd wt) (joinW x rd wt)) w' := by
  refine (join_any x p q rd wt w h.1).mono ?_
  rintro e w' ⟨rfl, h4, h5⟩
  exact ⟨rfl, O, ⟨h4, h.2⟩, fun _ e => .inl e, h5.mono fun k e => by rw [e]; exact h.2⟩
theorem po_new_pipe (w : World) :
    Calls Tryz.prog 217 #[] w fun e w' => ∃ p, e = .returned (.pointer (some ⟨p, 0, none⟩)) ∧ PObj w' (fun k => w.heap.size ≤ k ∧ k < w'.heap.size) p (.pipe [] 0 0) ∧ Below w.heap.size w w' := by
  refine (new_any w).mono ?_
  rintro e w' ⟨rfl, h1, h2⟩
  exact ⟨_, rfl, ⟨h1, Nat.le_refl _, h1.lt⟩, h2⟩
end Go.Proofs.YtdmkjbdlidadiaaGreat

/- Maps whose values are pointers to blocks: what they hold, as a list of keys and blocks in any order. -/
namespace Go.Proofs.YtdmkjbdlidadiaaGreat
open Go.RowKit Go.Maps

def ptrElem : Value → Option (DataW Unit × List MemPlace)
  | .pointer (some ⟨g, 0, none⟩) => some (.lit (.int .i64 g), [])
  | .pointer none => some (.nil, [])
  | _ => none
theorem ptrElem_inv {v : Value} {g : Nat} {ps : List MemPlace} (h : ptrElem v = some (.lit (.int .i64 g), ps)) : v = .pointer (some ⟨g, 0, none⟩) := by
  unfold ptrElem at h
  split at h
  · simp at h; obtain ⟨h, _⟩ := h; obtain rfl := Int.ofNat_inj.1 h; rfl
  · simp at h
  · cases h
theorem tight {w : World} {P : Program} {k : TypeId} {R : Value → Option (DataW Unit × List MemPlace)} {b n : Nat} {D : DataW Unit} (h : w.ownsMap P k R b n D) : w.ownsMap P k R b (Maps.size D) D := by
  obtain ⟨es, clock, hb, F, hs, hD⟩ := h
  have e1 : Maps.size D = es.size := by rw [hD]; simp [Maps.size, length_sorted]
  exact ⟨es, clock, hb, F, by rw [e1]; exact Nat.le_refl _, hD⟩
structure PMap (W : World) (P : Program) (k : TypeId) (b : Nat) (l : List (Lit × Nat)) : Prop where
  own : ∃ D : DataW Unit, W.ownsMap P k ptrElem b l.length D ∧ Maps.size D = l.length ∧ (∀ p ∈ l, ∀ z, D.atKey p.1 z = .lit (.int .i64 p.2)) ∧ ∀ kl, Maps.has D kl = true → ∃ p ∈ l, p.1 = kl
  nodup : l.Pairwise (fun p q => p.1 ≠ q.1)
theorem PMap.lt {W : World} {P : Program} {k : TypeId} {b : Nat} {l : List (Lit × Nat)} (h : PMap W P k b l) : b < W.heap.size := by
  obtain ⟨D, h1, _⟩ := h.own; exact h1.lt
theorem PMap.keep {W W' : World} {P : Program} {k : TypeId} {b : Nat} {l : List (Lit × Nat)} (h : PMap W P k b l) (hk : W'.heap[b]? = W.heap[b]?) : PMap W' P k b l := by
  obtain ⟨D, ⟨es, clock, hb, F, hs, hD⟩, h2, h3⟩ := h.own
  exact ⟨⟨D, ⟨es, clock, hk.trans hb, F, hs, hD⟩, h2, h3⟩, h.nodup⟩
theorem PMap.perm {W : World} {P : Program} {k : TypeId} {b : Nat} {l l' : List (Lit × Nat)} (h : PMap W P k b l) (hp : l.Perm l') : PMap W P k b l' := by
  obtain ⟨D, h1, h2, h3, h4⟩ := h.own
  refine ⟨⟨D, by rw [← hp.length_eq]; exact h1, by rw [← hp.length_eq]; exact h2, fun p hm => h3 p (hp.mem_iff.2 hm), fun kl hh => ?_⟩, ?_⟩
  · obtain ⟨p, hm, e⟩ := h4 kl hh
    exact ⟨p, hp.mem_iff.1 hm, e⟩
  · exact hp.pairwise h.nodup (fun {a b} hab => Ne.symm hab)
theorem PMap.made (w : World) (P : Program) (k : TypeId) : PMap (w.alloc (.map #[] 0)) P k w.heap.size [] :=
  ⟨⟨.map [], World.ownsMap_made w P k ptrElem, rfl, fun _ h => by simp at h, fun kl h => by simp [Maps.has] at h⟩, List.Pairwise.nil⟩
theorem PMap.hit {W : World} {P : Program} {k t e : TypeId} {b : Nat} {l : List (Lit × Nat)} (h : PMap W P k b l) (K : Keyed P k) (ht : P.underlying t = some (.map k e)) (hz : (zeroValue e).run P W = .ok (.pointer none) W)
    {key : Value} {kl : Lit} {g : Nat} (hkey : keyOf P k key = some kl) (hm : (kl, g) ∈ l) (c : Bool) : (Instr.lookup t (.map (some b)) key c).run P W = .ok (if c then .tuple #[.pointer (some ⟨g, 0, none⟩), .bool true] else .pointer (some ⟨g, 0, none⟩)) W := by
  obtain ⟨D, ⟨es, clock, hb, F, hs, hD⟩, h2, h3, h4⟩ := h.own
  rcases Maps.fit_look c K ht hz hb F hkey with ⟨_, _, hat⟩ | ⟨e0, y, _, _, hrun, hRv, hat, _⟩
  · have := h3 _ hm .nil
    rw [hD] at this
    rw [hat] at this
    cases this
  · have := h3 _ hm .nil
    rw [hD] at this
    rw [hat] at this
    obtain ⟨y1, y2⟩ := y
    simp only at this
    subst this
    rw [hrun, ptrElem_inv hRv]
theorem PMap.miss {W : World} {P : Program} {k t e : TypeId} {b : Nat} {l : List (Lit × Nat)} (h : PMap W P k b l) (K : Keyed P k) (ht : P.underlying t = some (.map k e)) (hz : (zeroValue e).run P W = .ok (.pointer none) W)
    {key : Value} {kl : Lit} (hkey : keyOf P k key = some kl) (hm : ∀ p ∈ l, p.1 ≠ kl) (c : Bool) : (Instr.lookup t (.map (some b)) key c).run P W = .ok (if c then .tuple #[.pointer none, .bool false] else .pointer none) W := by
  obtain ⟨D, ⟨es, clock, hb, F, hs, hD⟩, h2, h3, h4⟩ := h.own
  rcases Maps.fit_look c K ht hz hb F hkey with ⟨hrun, _, hat⟩ | ⟨e0, y, _, _, hrun, hRv, hat, _⟩
  · exact hrun
  · have : Maps.has D kl = true := by rw [hD]; exact Maps.has_true_of_atKey hat
    obtain ⟨p, hp, e⟩ := h4 kl this
    exact absurd e (hm p hp)
theorem PMap.len {W : World} {P : Program} {k t e : TypeId} {b : Nat} {l : List (Lit × Nat)} (h : PMap W P k b l) (ht : P.underlying t = some (.map k e)) (ty : TypeId) : (Builtin.len_ #[t] ty #[.map (some b)]).run P W = .ok (.int .i64 l.length) W := by
  obtain ⟨D, h1, h2, _⟩ := h.own
  rw [h1.len ht ty, h2]
theorem mapTurned_turned {w w' : World} {b : Nat} (h : w.mapTurned w' b) : Turned (fun k => k = b) w w' := (Turned.refl _ w).grown h.grown (fun k e => by cases e; exact .inl rfl)
theorem PMap.store {W : World} {P : Program} {k t e : TypeId} {b : Nat} {l : List (Lit × Nat)} (h : PMap W P k b l) (K : Keyed P k) (ht : P.underlying t = some (.map k e)) (hn : l.length < maxLen)
    {key : Value} {kl : Lit} (g : Nat) (hkey : keyOf P k key = some kl) (hm : ∀ p ∈ l, p.1 ≠ kl) : ∃ w', (Instr.mapUpdate t (.map (some b)) key (.pointer (some ⟨g, 0, none⟩))).run P W = .ok () w' ∧ PMap w' P k b ((kl, g) :: l) ∧ W.mapTurned w' b := by
  obtain ⟨D, h1, h2, h3, h4⟩ := h.own
  have hno : Maps.has D kl = false := by
    rcases hh : Maps.has D kl with _ | _
    · rfl
    · obtain ⟨p, hp, e⟩ := h4 kl hh
      exact absurd e (hm p hp)
  obtain ⟨w', hrun, ho, hT⟩ := h1.store K ht hn hkey (d := .lit (.int .i64 g)) (ps := []) (val := .pointer (some ⟨g, 0, none⟩)) rfl
  refine ⟨w', hrun, ⟨⟨_, ho, ?_, ?_, ?_⟩, List.pairwise_cons.2 ⟨fun p hp e => hm p hp e.symm, h.nodup⟩⟩, hT⟩
  · rw [Maps.size_put (h1.tidy K), hno, h2]; rfl
  · intro p hp z
    rcases List.mem_cons.1 hp with rfl | hp
    · exact Maps.atKey_put_same h1.isMap (K.key hkey) _ _
    · rw [Maps.atKey_put_other (hm p hp)]; exact h3 p hp z
  · intro kl' hh
    by_cases e : kl' = kl
    · exact ⟨(kl, g), by simp, e.symm⟩
    · rw [Maps.has_put_other e] at hh
      obtain ⟨p, hp, e2⟩ := h4 kl' hh
      exact ⟨p, List.mem_cons_of_mem _ hp, e2⟩
theorem PMap.drop {W : World} {P : Program} {k t e : TypeId} {b : Nat} {l : List (Lit × Nat)} {key : Value} {kl : Lit} {g : Nat} (h : PMap W P k b ((kl, g) :: l)) (K : Keyed P k) (ht : P.underlying t = some (.map k e))
    (hkey : keyOf P k key = some kl) (ty : TypeId) : ∃ w', (Builtin.delete_ #[t, k] ty #[.map (some b), key]).run P W = .ok (.tuple #[]) w' ∧ PMap w' P k b l ∧ W.mapTurned w' b := by
  obtain ⟨D, h1, h2, h3, h4⟩ := h.own
  have hyes : Maps.has D kl = true := Maps.has_true_of_atKey (h3 (kl, g) (by simp))
  have hap := List.pairwise_cons.1 h.nodup
  obtain ⟨w', hrun, ho, hT⟩ := h1.drop K ht hkey ty
  have hsz : Maps.size (D.del kl) = l.length := by
    have := Maps.size_del (k := kl) (h1.tidy K)
    rw [hyes, h2] at this
    simpa using this
  refine ⟨w', hrun, ⟨⟨_, by rw [← hsz]; exact tight ho, hsz, ?_, ?_⟩, hap.2⟩, hT⟩
  · intro p hp z
    rw [Maps.atKey_del_other (fun e => hap.1 p hp e.symm)]
    exact h3 p (List.mem_cons_of_mem _ hp) z
  · intro kl' hh
    by_cases e : kl' = kl
    · rw [e, Maps.has_del_same] at hh; cases hh
    · rw [Maps.has_del_other e] at hh
      obtain ⟨p, hp, e2⟩ := h4 kl' hh
      rcases List.mem_cons.1 hp with rfl | hp
      · exact absurd e2.symm e
      · exact ⟨p, hp, e2⟩
end Go.Proofs.YtdmkjbdlidadiaaGreat

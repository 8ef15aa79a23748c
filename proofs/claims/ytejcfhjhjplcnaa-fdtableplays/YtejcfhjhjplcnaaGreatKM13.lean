/- What the proof stands on, part 13: the contracts of the program's calls that it reaches. -/
import Derived.Test.YtejcfhjhjplcnaaGreatKM12
import Derived.Lib.MinMax
/- The reference's kernel: Read. -/
namespace Go.Proofs.YtejcfhjhjplcnaaGreat
open Go.RowKit

def RKRead (w : World) (B : Nat → Prop) (kb : Nat) (r : List UInt8 × Int × KS) (e : Ending) (w' : World) : Prop :=
  ∃ v ρ' I', e = .returned (.tuple #[v, .int .i64 r.2.1]) ∧ Bys w' v r.1 ∧ RK w' B ρ' I' r.2.2 ∧ I'.kb = kb ∧ Turned B w w'
theorem RKRead.refused {w : World} {B : Nat → Prop} {ρ : Nat → Option Tag} {I : RI} {K : KS} (h : RK w B ρ I K) (E : Int) : RKRead w B I.kb ([], E, K) (.returned (.tuple #[.slice none 0 0, .int .i64 E])) w :=
  ⟨_, ρ, I, rfl, .inl ⟨rfl, rfl⟩, h, rfl, Turned.refl _ _⟩
set_option maxRecDepth 100000 in
set_option maxHeartbeats 4000000 in
theorem rkread_any (B : Nat → Prop) (ρ : Nat → Option Tag) (I : RI) (K : KS) (d n : Int) (w : World) (h : RK w B ρ I K) (hr : K.reads < 9223372036854775807) :
    Calls Tryz.prog 64 #[.pointer (some ⟨I.kb, 0, none⟩), .int .i64 d, .int .i64 n] w (RKRead w B I.kb (K.read d n)) := by
  have HF := hide (rfind_any B ρ I K d w h)
  have HK := hide h
  have HX := hide fun E => RKRead.refused h E
  cases hx : K.find d with
  | none =>
    rw [hx] at HF
    rw [show K.read d n = ([], 64, K) by unfold KS.read; rw [hx]]
    clear h
    go_enter Tryz.func64, Tryz.ntmps64
    go_wp2_with fail
    refine HF.out.mono ?_
    rintro e w1 ⟨rfl, rfl⟩
    go_wp2
    go_ret2
    exact HX.out 64
  | some x =>
    rw [hx] at HF
    have hm := (KS.find_some hx).1
    have hd := h.de hm
    have c1 := hd.t
    have c2 := hd.kind
    have c3 := hd.f
    have HP := hide (h.ptr hm)
    have HO := hide (h.robj hm)
    have hR : K.read d n = if fbit x.flags 1 = 0 then ([], 65, K) else if n < 0 ∨ 1048576 < n then ([], 4, K) else if n = 0 then ([], 0, K) else if (K.tho x).waits = true then ([], 52, K)
      else if (nxt K.plan n).2 = 0 then
        match K.tho x with
        | .file b => (piece b x.pos (nxt K.plan n).1.toNat, 0, K.readUp.setDe { x with pos := x.pos + (piece b x.pos (nxt K.plan n).1.toNat).length })
        | .term ls scr => (rdH ls (nxt K.plan n).1, Te_rdE (nxt K.plan n).1, K.readUp.setOb x.th (.term (rdR ls (nxt K.plan n).1) scr))
        | .pipe q rd wt => (rdB (nxt K.plan n).1 q rd wt, Kp_rdE (nxt K.plan n).1 q.length rd wt, K.readUp.setOb x.th (.pipe (rdQ (nxt K.plan n).1 q rd wt) rd wt))
      else ([], (nxt K.plan n).2, K.readUp) := by unfold KS.read; rw [hx]; first | done | rfl
    obtain ⟨v, hv⟩ : ∃ v, bits .and .i64 x.flags 1 = v := ⟨_, rfl⟩
    rw [show fbit x.flags 1 = v from hv] at hR
    by_cases k0 : v = 0
    · subst k0
      rw [if_pos rfl] at hR
      rw [hR]
      clear h hd hR
      go_enter Tryz.func64, Tryz.ntmps64
      go_wp2_with fail
      refine HF.out.mono ?_
      rintro e w1 ⟨rfl, rfl⟩
      simp only [Option.map_some]
      go_wp2
      go_ret2
      exact HX.out 65
    · have m0 : (v == 0) = false := by simpa using k0
      rw [if_neg k0] at hR
      by_cases k1 : n < 0 ∨ 1048576 < n
      · rw [if_pos k1] at hR
        rw [hR]
        clear h hd hR
        rcases (show n < 0 ∨ (¬ n < 0 ∧ 1048576 < n) by omega) with k2 | ⟨k2, k3⟩
        · go_enter Tryz.func64, Tryz.ntmps64
          go_wp2_with fail
          refine HF.out.mono ?_
          rintro e w1 ⟨rfl, rfl⟩
          simp only [Option.map_some]
          go_wp2
          go_ret2
          exact HX.out 4
        · go_enter Tryz.func64, Tryz.ntmps64
          go_wp2_with fail
          refine HF.out.mono ?_
          rintro e w1 ⟨rfl, rfl⟩
          simp only [Option.map_some]
          go_wp2
          go_ret2
          exact HX.out 4
      · rw [if_neg k1] at hR
        have k2 : ¬ n < 0 := by omega
        have k3 : ¬ 1048576 < n := by omega
        by_cases k4 : n = 0
        · subst k4
          rw [if_pos rfl] at hR
          rw [hR]
          clear h hd hR k1
          go_enter Tryz.func64, Tryz.ntmps64
          go_wp2_with fail
          refine HF.out.mono ?_
          rintro e w1 ⟨rfl, rfl⟩
          simp only [Option.map_some]
          go_wp2
          go_ret2
          exact HX.out 0
        · rw [if_neg k4] at hR
          have m4 : (n == 0) = false := by simpa using k4
          have hb := (h.comp .kern).1
          have q4 : w.cell? ⟨I.kb, 4, none⟩ = some (.int .i64 K.reads) := by rw [cell_of_row w I.kb 4 _ _ _ hb]; rfl
          have q4s : w.frozen? ⟨I.kb, 4, none⟩ = false := frozen_of_row w I.kb 4 _ _ hb
          obtain ⟨hU, hTU⟩ := h.setKern (K' := { K with reads := K.reads + 1 }) rfl rfl rfl rfl (Nat.le_refl _) 4 (.int .i64 ((K.reads + 1 : Nat) : Int)) (by simp)
          have HN := hide (rknext_any B ρ I _ n _ hU (by omega) (by omega))
          have HTU := hide hTU
          have hb1 := (hU.comp .kern).1
          have q3 : (w.setCell ⟨I.kb, 4, none⟩ (.int .i64 ((K.reads + 1 : Nat) : Int))).cell? ⟨I.kb, 3, none⟩ = some (.pointer (some ⟨I.pb, 0, none⟩)) := by rw [cell_of_row _ I.kb 3 _ _ _ hb1]; rfl
          have HG := hide (nxt_good (want := n) h.ok.plan (by omega) (by omega))
          have hrv : (K.reads : Int) + 1 = ((K.reads + 1 : Nat) : Int) := by omega
          have HRv := hide hrv
          rw [← hrv] at q3
          clear hb hb1 hU hTU h hrv
          obtain ⟨m, hm1⟩ : ∃ m, m = (nxt K.plan n).1 := ⟨_, rfl⟩
          obtain ⟨E, hE⟩ : ∃ E, E = (nxt K.plan n).2 := ⟨_, rfl⟩
          rw [← hm1, ← hE] at hR HG
          have HN : Hid (Calls Tryz.prog 168 #[.pointer (some ⟨I.pb, 0, none⟩), .int .i64 n] (w.setCell ⟨I.kb, 4, none⟩ (.int .i64 ((K.reads + 1 : Nat) : Int))) fun e w' => e = .returned (.tuple #[.int .i64 m, .int .i64 E]) ∧ ∃ v', RK w' B ρ { I with pv := v' } K.readUp ∧ Turned B (w.setCell ⟨I.kb, 4, none⟩ (.int .i64 ((K.reads + 1 : Nat) : Int))) w') := hide (by rw [hm1, hE]; exact HN.out)
          clear hm1 hE
          by_cases hwt : (K.tho x).waits = true
          · rw [if_pos hwt] at hR
            rw [hR]
            cases ho : K.tho x with
            | file b => rw [ho] at hwt; simp [Ob.waits] at hwt
            | term ls scr => rw [ho] at hwt; simp [Ob.waits] at hwt
            | pipe q rd wt =>
              rw [ho] at hwt c2 HO
              simp only [Ob.kind] at c2
              have c4 := HP.out.2.2 q rd wt ho
              have HC := hide (ob_pcanRead _ _ q rd wt w HO.out.1)
              have HCv : Hid (canR q.length rd wt = false) := hide (by simpa [Ob.waits] using hwt)
              clear hwt hR HN
              go_enter Tryz.func64, Tryz.ntmps64
              go_wp2_with fail
              refine HF.out.mono ?_
              rintro e w0 ⟨rfl, rfl⟩
              simp only [Option.map_some]
              go_wp2_with fail
              refine HC.out.mono ?_
              rintro e w0 ⟨rfl, rfl⟩
              rw [HCv.out]
              go_wp2
              go_ret2
              exact HX.out 52
          · rw [if_neg hwt] at hR
            by_cases hE0 : E = 0
            · subst hE0
              rw [if_pos rfl] at hR
              have hmg := HG.out rfl
              cases ho : K.tho x with
              | file b =>
                rw [ho] at c2 hR
                simp only [Ob.kind] at c2
                simp only at hR
                rw [hR]
                have hpos := HK.out.ok.pos x hm
                obtain ⟨mm, rfl, hm1, hm2⟩ := inN_nat (n := m) (by simp only [inN, Bool.and_eq_true, decide_eq_true_eq]; omega)
                simp only [Int.toNat_natCast]
                clear hR hwt
                go_enter Tryz.func64, Tryz.ntmps64
                go_wp2_with fail
                refine HF.out.mono ?_
                rintro e w0 ⟨rfl, rfl⟩
                simp only [Option.map_some]
                go_wp2_with fail
                rw [HRv.out]
                refine HN.out.mono ?_
                rintro e w2 ⟨rfl, v', hK2, hT2⟩
                have HT2 := hide (HTU.out.trans hT2 (fun _ _ e => e))
                have HK2 := hide hK2
                clear hK2 hT2 q3 q4 q4s c1 c2 c3
                have hd2 := HK2.out.de (x := x) hm
                have c1 := hd2.t
                have c5 := hd2.p
                have c5s := hd2.soft 3
                have c2 : w2.cell? ⟨I.tb x.th, 1, none⟩ = some (.int .i64 1) := by have := hd2.kind; rw [show K.readUp.tho x = .file b from ho] at this; exact this
                have c4 := (HK2.out.ptr (x := x) hm).1 b ho
                have hO2 := HK2.out.robj (x := x) hm
                rw [show K.readUp.tho x = .file b from ho] at hO2
                obtain ⟨⟨u, Bu, hF2, -⟩, hbl⟩ := hO2
                have hbl' : b.length ≤ 1048576 := hbl
                have c6 := hF2.data
                have HU := hide hF2.row
                obtain ⟨ua, uc, hu⟩ := owns_slice hF2.row
                rw [hu] at c6 HU
                have HPi := hide (piece_any Bu _ b x.pos mm w2.drew HU.out hbl' hpos hm2)
                have hpl := piece_len b x.pos mm
                have hpp : x.pos + (piece b x.pos mm).length ≤ 1048576 := by omega
                clear hpl
                generalize piece b x.pos mm = Y at *
                clear hd2 hF2 hu hbl
                have hlo := HK2.out.lt
                have hbd := World.block_lt_of_cell? w2 _ c1
                have hbt := World.block_lt_of_cell? w2 _ c4
                have hbo := World.block_lt_of_cell? w2 _ c6
                go_wp2_with fail
                go_region_held3 (fun w' => w'.cell? ⟨I.db x.n, 1, none⟩ = some (.pointer (some ⟨I.tb x.th, 0, none⟩)) ∧ w'.cell? ⟨I.tb x.th, 2, none⟩ = some (.pointer (some ⟨I.ob x.th, 0, none⟩)) ∧ w'.cell? ⟨I.ob x.th, 0, none⟩ = some (.slice ua b.length uc) ∧ w'.cell? ⟨I.db x.n, 3, none⟩ = some (.int .i64 x.pos))
                  (first | exact K5 | go_keep)
                  (first
                    | (go_at_call 148; refine HPi.out.mono ?_; rintro e w5 ⟨v5, rfl, hown5, hB5⟩; have K5 : w5.cell? ⟨I.db x.n, 1, none⟩ = some (.pointer (some ⟨I.tb x.th, 0, none⟩)) ∧ w5.cell? ⟨I.tb x.th, 2, none⟩ = some (.pointer (some ⟨I.ob x.th, 0, none⟩)) ∧ w5.cell? ⟨I.ob x.th, 0, none⟩ = some (.slice ua b.length uc) ∧ w5.cell? ⟨I.db x.n, 3, none⟩ = some (.int .i64 x.pos) := ⟨(hB5.cell (p := ⟨I.db x.n, 1, none⟩) hbd).trans c1, (hB5.cell (p := ⟨I.tb x.th, 2, none⟩) hbt).trans c4, (hB5.cell (p := ⟨I.ob x.th, 0, none⟩) hbo).trans c6, (hB5.cell (p := ⟨I.db x.n, 3, none⟩) hbd).trans c5⟩)
                    | fail)
                have hB25 : Below w2.heap.size w2 w5 := (Below.refl _ w2).drew.trans hB5
                obtain ⟨va5, vc5, rfl⟩ := owns_slice hown5
                have hK5 := HK2.out.below hB25
                have c7 := K5.2.2.2
                have c7s := (hK5.de (x := x) hm).soft 3
                obtain ⟨hK6, hT6⟩ := hK5.setDe (x := x) (x' := { x with pos := x.pos + Y.length }) hm rfl rfl rfl hpp (hK5.ok.held x hm) 3 (.int .i64 ((x.pos + Y.length : Nat) : Int)) (by simp)
                have HK6 := hide hK6
                have hnb : ¬ ρ w2.heap.size = some (.desc x.n) := fun e => by have := (hlo _ _ e).2; omega
                have HO5 := hide (owns_turned hown5 hT6 (fun k hk e => by have h1 : w2.heap.size ≤ k := (hown5.lt k hk).1; have := (hlo _ _ e).2; omega))
                have HT6 := hide ((HT2.out.trans (Turned.of_below (S := B) hB25) (fun _ _ e => e)).trans hT6 (fun k _ e => (hlo _ _ e).1))
                clear hK6 hT6 hK5 hown5 K5 HPi hlo
                go_wp2
                go_ret2
                rw [show (x.pos : Int) + (Y.length : Int) = ((x.pos + Y.length : Nat) : Int) by omega]
                exact ⟨_, ρ, _, rfl, Bys.of_owns HO5.out, HK6.out, rfl, HT6.out⟩
              | term ls scr =>
                rw [ho] at c2 hR
                simp only [Ob.kind] at c2
                simp only at hR
                rw [hR]
                have hlt := hd.lt
                have hth : K.th[x.th].ob = .term ls scr := by rw [← KS.tho_eq hlt]; exact ho
                clear hR hwt
                go_enter Tryz.func64, Tryz.ntmps64
                go_wp2_with fail
                refine HF.out.mono ?_
                rintro e w0 ⟨rfl, rfl⟩
                simp only [Option.map_some]
                go_wp2_with fail
                rw [HRv.out]
                refine HN.out.mono ?_
                rintro e w2 ⟨rfl, v', hK2, hT2⟩
                have HT2 := hide (HTU.out.trans hT2 (fun _ _ e => e))
                have HK2 := hide hK2
                clear hK2 hT2 q3 q4 q4s c1 c2 c3
                have hd2 := HK2.out.de (x := x) hm
                have c1 := hd2.t
                have c2 : w2.cell? ⟨I.tb x.th, 1, none⟩ = some (.int .i64 2) := by have := hd2.kind; rw [show K.readUp.tho x = .term ls scr from ho] at this; exact this
                have c4 := (HK2.out.ptr (x := x) hm).2.1 ls scr ho
                have hO2 := HK2.out.robj (x := x) hm
                rw [show K.readUp.tho x = .term ls scr from ho] at hO2
                have HO2 := hide hO2
                clear hd2 hO2
                go_wp2_with fail
                refine (ob_tread _ _ ls scr m _ HO2.out.1 HO2.out.2).mono ?_
                rintro e w3 ⟨v3, rfl, hb3, hs3⟩
                obtain ⟨ρ', hK3, -, hT3⟩ := HK2.out.setOb (i := x.th) hlt hs3 (by show _ = K.th[x.th].ob.kind; rw [hth]; rfl) (term_ok HO2.out.2)
                have HK3 := hide hK3
                have HB3 := hide hb3
                have HT3 := hide (HT2.out.trans hT3 (fun _ _ e => e))
                clear hK3 hb3 hT3 hs3
                go_wp2
                go_ret2
                exact ⟨_, ρ', _, rfl, HB3.out, HK3.out, rfl, HT3.out⟩
              | pipe q rd wt =>
                rw [ho] at c2 hR hwt
                simp only [Ob.kind] at c2
                simp only at hR
                rw [hR]
                have hlt := hd.lt
                have hth : K.th[x.th].ob = .pipe q rd wt := by rw [← KS.tho_eq hlt]; exact ho
                have c4 := HP.out.2.2 q rd wt ho
                have hO1 := HO.out.1
                rw [ho] at hO1
                have HC := hide (ob_pcanRead _ _ q rd wt w hO1)
                have HCv : Hid (canR q.length rd wt = true) := hide (by simpa [Ob.waits] using hwt)
                clear hR hwt hO1
                go_enter Tryz.func64, Tryz.ntmps64
                go_wp2_with fail
                refine HF.out.mono ?_
                rintro e w0 ⟨rfl, rfl⟩
                simp only [Option.map_some]
                go_wp2_with fail
                refine HC.out.mono ?_
                rintro e w0 ⟨rfl, rfl⟩
                rw [HCv.out]
                go_wp2_with fail
                rw [HRv.out]
                refine HN.out.mono ?_
                rintro e w2 ⟨rfl, v', hK2, hT2⟩
                have HT2 := hide (HTU.out.trans hT2 (fun _ _ e => e))
                have HK2 := hide hK2
                clear hK2 hT2 c4 q3 q4 q4s c1 c2 c3
                have hd2 := HK2.out.de (x := x) hm
                have c1 := hd2.t
                have c2 : w2.cell? ⟨I.tb x.th, 1, none⟩ = some (.int .i64 3) := by have := hd2.kind; rw [show K.readUp.tho x = .pipe q rd wt from ho] at this; exact this
                have c4 := (HK2.out.ptr (x := x) hm).2.2 q rd wt ho
                have hO2 := HK2.out.robj (x := x) hm
                rw [show K.readUp.tho x = .pipe q rd wt from ho] at hO2
                have HO2 := hide hO2
                clear hd2 hO2
                go_wp2_with fail
                refine (ob_pread _ _ q rd wt m _ HO2.out.1).mono ?_
                rintro e w3 ⟨v3, rfl, hb3, hs3⟩
                obtain ⟨ρ', hK3, -, hT3⟩ := HK2.out.setOb (i := x.th) hlt hs3 (by show _ = K.th[x.th].ob.kind; rw [hth]; rfl) (pipe_ok HO2.out.2)
                have HK3 := hide hK3
                have HB3 := hide hb3
                have HT3 := hide (HT2.out.trans hT3 (fun _ _ e => e))
                clear hK3 hb3 hT3 hs3
                go_wp2
                go_ret2
                exact ⟨_, ρ', _, rfl, HB3.out, HK3.out, rfl, HT3.out⟩
            · rw [if_neg hE0] at hR
              rw [hR]
              have hE1 : (E != 0) = true := by simpa using hE0
              cases ho : K.tho x with
              | file b =>
                rw [ho] at c2
                simp only [Ob.kind] at c2
                clear hR hwt
                go_enter Tryz.func64, Tryz.ntmps64
                go_wp2_with fail
                refine HF.out.mono ?_
                rintro e w0 ⟨rfl, rfl⟩
                simp only [Option.map_some]
                go_wp2_with fail
                rw [HRv.out]
                refine HN.out.mono ?_
                rintro e w2 ⟨rfl, v', hK2, hT2⟩
                have HT2 := hide (HTU.out.trans hT2 (fun _ _ e => e))
                have HK2 := hide hK2
                clear hK2 hT2 q3 q4 q4s c1 c2 c3
                go_wp2
                go_ret2
                exact ⟨_, ρ, _, rfl, .inl ⟨rfl, rfl⟩, HK2.out, rfl, HT2.out⟩
              | term ls scr =>
                rw [ho] at c2
                simp only [Ob.kind] at c2
                clear hR hwt
                go_enter Tryz.func64, Tryz.ntmps64
                go_wp2_with fail
                refine HF.out.mono ?_
                rintro e w0 ⟨rfl, rfl⟩
                simp only [Option.map_some]
                go_wp2_with fail
                rw [HRv.out]
                refine HN.out.mono ?_
                rintro e w2 ⟨rfl, v', hK2, hT2⟩
                have HT2 := hide (HTU.out.trans hT2 (fun _ _ e => e))
                have HK2 := hide hK2
                clear hK2 hT2 q3 q4 q4s c1 c2 c3
                go_wp2
                go_ret2
                exact ⟨_, ρ, _, rfl, .inl ⟨rfl, rfl⟩, HK2.out, rfl, HT2.out⟩
              | pipe q rd wt =>
                rw [ho] at c2 hwt
                simp only [Ob.kind] at c2
                have c4 := HP.out.2.2 q rd wt ho
                have hO1 := HO.out.1
                rw [ho] at hO1
                have HC := hide (ob_pcanRead _ _ q rd wt w hO1)
                have HCv : Hid (canR q.length rd wt = true) := hide (by simpa [Ob.waits] using hwt)
                clear hR hwt hO1
                go_enter Tryz.func64, Tryz.ntmps64
                go_wp2_with fail
                refine HF.out.mono ?_
                rintro e w0 ⟨rfl, rfl⟩
                simp only [Option.map_some]
                go_wp2_with fail
                refine HC.out.mono ?_
                rintro e w0 ⟨rfl, rfl⟩
                rw [HCv.out]
                go_wp2_with fail
                rw [HRv.out]
                refine HN.out.mono ?_
                rintro e w2 ⟨rfl, v', hK2, hT2⟩
                have HT2 := hide (HTU.out.trans hT2 (fun _ _ e => e))
                have HK2 := hide hK2
                clear hK2 hT2 q3 q4 q4s c1 c2 c3
                go_wp2
                go_ret2
                exact ⟨_, ρ, _, rfl, .inl ⟨rfl, rfl⟩, HK2.out, rfl, HT2.out⟩
end Go.Proofs.YtejcfhjhjplcnaaGreat

/- The reference's kernel: room, Seek. -/
namespace Go.Proofs.YtejcfhjhjplcnaaGreat
open Go.RowKit

set_option maxRecDepth 100000 in
set_option maxHeartbeats 1000000 in
theorem rroom_any (B : Nat → Prop) (ρ : Nat → Option Tag) (I : RI) (K : KS) (x : De) (w : World) (h : RK w B ρ I K) (hm : x ∈ K.de) (hk : (K.tho x).kind ≠ 3) :
    Calls Tryz.prog 172 #[.pointer (some ⟨I.db x.n, 0, none⟩)] w fun e w' => e = .returned (.int .i64 (roomOf (K.tho x) x.flags x.pos : Nat)) ∧ w' = w := by
  have hd := h.de hm
  have c1 := hd.t
  have c2 := hd.kind
  have c3 := hd.f
  have c4 := hd.p
  have hpos := h.ok.pos x hm
  have hp := h.ptr hm
  obtain ⟨hO, hok⟩ := h.robj hm
  clear hd h
  cases ho : K.tho x with
  | pipe q rd wt => rw [ho] at hk; exact absurd rfl hk
  | term ls scr =>
    rw [ho] at c2 hO hok
    simp only [Ob.kind] at c2
    have c5 := hp.2.1 ls scr ho
    obtain ⟨la, lc, s, B', O1, hT, -⟩ := hO
    have c6 := hT.screen
    obtain ⟨sa, sc, rfl⟩ := owns_slice hT.scr
    have hsl : scr.length ≤ 1048576 := hok.2.2
    show Calls _ _ _ _ fun e w' => e = .returned (.int .i64 ((1048576 - scr.length : Nat) : Int)) ∧ w' = w
    clear hp hT hok
    go_enter Tryz.func172, Tryz.ntmps172
    go_wp2
    go_ret
    exact ⟨ret_int (by omega), rfl⟩
  | file b =>
    rw [ho] at c2 hO hok
    simp only [Ob.kind] at c2
    have c5 := hp.1 b ho
    obtain ⟨u, B', hF, -⟩ := hO
    have c6 := hF.data
    obtain ⟨ua, uc, rfl⟩ := owns_slice hF.row
    have hbl : b.length ≤ 1048576 := hok
    obtain ⟨v, hv⟩ : ∃ v, bits .and .i64 x.flags 4 = v := ⟨_, rfl⟩
    show Calls _ _ _ _ fun e w' => e = .returned (.int .i64 ((if bits .and .i64 x.flags 4 = 0 then 1048576 - x.pos else 1048576 - b.length : Nat) : Int)) ∧ w' = w
    rw [hv]
    clear hp hF hok
    by_cases k0 : v = 0
    · subst k0
      rw [if_pos rfl]
      go_enter Tryz.func172, Tryz.ntmps172
      go_wp2
      go_ret
      exact ⟨ret_int (by omega), rfl⟩
    · rw [if_neg k0]
      have m0 : (v == 0) = false := by simpa using k0
      have m0' : (v != 0) = true := by simpa using k0
      go_enter Tryz.func172, Tryz.ntmps172
      go_wp2
      go_ret
      exact ⟨ret_int (by omega), rfl⟩

def RKNum (w : World) (B : Nat → Prop) (kb : Nat) (r : Int × Int × KS) (e : Ending) (w' : World) : Prop :=
  ∃ ρ' I', e = .returned (.tuple #[.int .i64 r.1, .int .i64 r.2.1]) ∧ RK w' B ρ' I' r.2.2 ∧ I'.kb = kb ∧ Turned B w w'
theorem RKNum.refused {w : World} {B : Nat → Prop} {ρ : Nat → Option Tag} {I : RI} {K : KS} (h : RK w B ρ I K) (a E : Int) : RKNum w B I.kb (a, E, K) (.returned (.tuple #[.int .i64 a, .int .i64 E])) w :=
  ⟨ρ, I, rfl, h, rfl, Turned.refl _ _⟩
set_option maxRecDepth 100000 in
set_option maxHeartbeats 4000000 in
theorem rkseek_any (B : Nat → Prop) (ρ : Nat → Option Tag) (I : RI) (K : KS) (d off wh : Int) (w : World) (h : RK w B ρ I K) :
    Calls Tryz.prog 68 #[.pointer (some ⟨I.kb, 0, none⟩), .int .i64 d, .int .i64 off, .int .i64 wh] w (RKNum w B I.kb (K.seek d off wh)) := by
  have HF := hide (rfind_any B ρ I K d w h)
  have HX := hide fun a E => RKNum.refused h a E
  cases hx : K.find d with
  | none =>
    rw [hx] at HF
    rw [show K.seek d off wh = (0, 64, K) by unfold KS.seek; rw [hx]]
    clear h
    go_enter Tryz.func68, Tryz.ntmps68
    go_wp2_with fail
    refine HF.out.mono ?_
    rintro e w1 ⟨rfl, rfl⟩
    go_wp2
    go_ret2
    exact HX.out 0 64
  | some x =>
    rw [hx] at HF
    have hm := (KS.find_some hx).1
    have hd := h.de hm
    have c1 := hd.t
    have c2 := hd.kind
    have c3 := hd.p
    have c3s := hd.soft 3
    have hpos := h.ok.pos x hm
    have hp := h.ptr hm
    have hO := h.robj hm
    cases ho : K.tho x with
    | pipe q rd wt =>
      rw [show K.seek d off wh = (0, 66, K) by unfold KS.seek; rw [hx]; simp only; rw [ho]]
      rw [ho] at c2
      simp only [Ob.kind] at c2
      clear h hd hp hO
      go_enter Tryz.func68, Tryz.ntmps68
      go_wp2_with fail
      refine HF.out.mono ?_
      rintro e w1 ⟨rfl, rfl⟩
      simp only [Option.map_some]
      go_wp2
      go_ret2
      exact HX.out 0 66
    | term ls scr =>
      rw [show K.seek d off wh = (0, 66, K) by unfold KS.seek; rw [hx]; simp only; rw [ho]]
      rw [ho] at c2
      simp only [Ob.kind] at c2
      clear h hd hp hO
      go_enter Tryz.func68, Tryz.ntmps68
      go_wp2_with fail
      refine HF.out.mono ?_
      rintro e w1 ⟨rfl, rfl⟩
      simp only [Option.map_some]
      go_wp2
      go_ret2
      exact HX.out 0 66
    | file b =>
      have hR : K.seek d off wh = if wh < 0 ∨ 2 < wh then (0, 1, K) else
        if 0 ≤ (if wh = 1 then (x.pos : Int) else if wh = 2 then (b.length : Int) else 0) + off ∧ (if wh = 1 then (x.pos : Int) else if wh = 2 then (b.length : Int) else 0) + off ≤ 1048576 then
          ((if wh = 1 then (x.pos : Int) else if wh = 2 then (b.length : Int) else 0) + off, 0, K.setDe { x with pos := ((if wh = 1 then (x.pos : Int) else if wh = 2 then (b.length : Int) else 0) + off).toNat })
        else (0, 4, K) := by unfold KS.seek; rw [hx]; simp only; rw [ho]
      rw [ho] at c2 hO
      simp only [Ob.kind] at c2
      have c5 := hp.1 b ho
      obtain ⟨⟨u, B', hF, -⟩, hbl⟩ := hO
      have hbl' : b.length ≤ 1048576 := hbl
      have c6 := hF.data
      obtain ⟨ua, uc, hu⟩ := owns_slice hF.row
      rw [hu] at c6
      clear hp hF hbl hu
      rcases (show wh < 0 ∨ (¬ wh < 0 ∧ 2 < wh) ∨ wh = 0 ∨ wh = 1 ∨ wh = 2 by omega) with k1 | ⟨k1, k2⟩ | rfl | rfl | rfl
      · rw [if_pos (.inl k1)] at hR
        rw [hR]
        clear h hd hR
        go_enter Tryz.func68, Tryz.ntmps68
        go_wp2_with fail
        refine HF.out.mono ?_
        rintro e w1 ⟨rfl, rfl⟩
        simp only [Option.map_some]
        go_wp2
        go_ret2
        exact HX.out 0 1
      · rw [if_pos (.inr k2)] at hR
        rw [hR]
        clear h hd hR
        go_enter Tryz.func68, Tryz.ntmps68
        go_wp2_with fail
        refine HF.out.mono ?_
        rintro e w1 ⟨rfl, rfl⟩
        simp only [Option.map_some]
        go_wp2
        go_ret2
        exact HX.out 0 1
      · rw [if_neg (by omega)] at hR
        have HM := hide (move_any 0 off 1048576 w (by omega) (by omega) (by omega) (by omega))
        simp only [show ¬ ((0 : Int) = 1) by decide, show ¬ ((0 : Int) = 2) by decide, if_false] at hR
        by_cases k3 : 0 ≤ (0 : Int) + off ∧ (0 : Int) + off ≤ 1048576
        · rw [if_pos k3] at hR HM
          obtain ⟨p, hp⟩ : ∃ p : Nat, (0 : Int) + off = (p : Int) := ⟨((0 : Int) + off).toNat, by omega⟩
          rw [hp] at hR HM
          simp only [Int.toNat_natCast] at hR
          rw [hR]
          obtain ⟨hK2, hT2⟩ := h.setDe (x := x) (x' := { x with pos := p }) hm rfl rfl rfl (by show p ≤ 1048576; omega) (h.ok.held x hm) 3 (.int .i64 (p : Int)) (by simp)
          have HK2 := hide hK2
          have HT2 := hide (hT2.mono (S' := B) fun k e => (h.lt k _ e).1)
          clear h hd hR hK2 hT2
          go_enter Tryz.func68, Tryz.ntmps68
          go_wp2_with fail
          refine HF.out.mono ?_
          rintro e w1 ⟨rfl, rfl⟩
          simp only [Option.map_some]
          go_wp2_with fail
          refine HM.out.mono ?_
          rintro e w1 ⟨rfl, rfl⟩
          go_wp2
          go_ret2
          exact ⟨_, _, rfl, HK2.out, rfl, HT2.out⟩
        · rw [if_neg k3] at hR HM
          rw [hR]
          clear h hd hR
          go_enter Tryz.func68, Tryz.ntmps68
          go_wp2_with fail
          refine HF.out.mono ?_
          rintro e w1 ⟨rfl, rfl⟩
          simp only [Option.map_some]
          go_wp2_with fail
          refine HM.out.mono ?_
          rintro e w1 ⟨rfl, rfl⟩
          go_wp2
          go_ret2
          exact HX.out 0 4
      · rw [if_neg (by omega)] at hR
        have HM := hide (move_any x.pos off 1048576 w (by omega) (by omega) (by omega) (by omega))
        simp only [if_true] at hR
        by_cases k3 : 0 ≤ (x.pos : Int) + off ∧ (x.pos : Int) + off ≤ 1048576
        · rw [if_pos k3] at hR HM
          obtain ⟨p, hp⟩ : ∃ p : Nat, (x.pos : Int) + off = (p : Int) := ⟨((x.pos : Int) + off).toNat, by omega⟩
          rw [hp] at hR HM
          simp only [Int.toNat_natCast] at hR
          rw [hR]
          obtain ⟨hK2, hT2⟩ := h.setDe (x := x) (x' := { x with pos := p }) hm rfl rfl rfl (by show p ≤ 1048576; omega) (h.ok.held x hm) 3 (.int .i64 (p : Int)) (by simp)
          have HK2 := hide hK2
          have HT2 := hide (hT2.mono (S' := B) fun k e => (h.lt k _ e).1)
          clear h hd hR hK2 hT2
          go_enter Tryz.func68, Tryz.ntmps68
          go_wp2_with fail
          refine HF.out.mono ?_
          rintro e w1 ⟨rfl, rfl⟩
          simp only [Option.map_some]
          go_wp2_with fail
          refine HM.out.mono ?_
          rintro e w1 ⟨rfl, rfl⟩
          go_wp2
          go_ret2
          exact ⟨_, _, rfl, HK2.out, rfl, HT2.out⟩
        · rw [if_neg k3] at hR HM
          rw [hR]
          clear h hd hR
          go_enter Tryz.func68, Tryz.ntmps68
          go_wp2_with fail
          refine HF.out.mono ?_
          rintro e w1 ⟨rfl, rfl⟩
          simp only [Option.map_some]
          go_wp2_with fail
          refine HM.out.mono ?_
          rintro e w1 ⟨rfl, rfl⟩
          go_wp2
          go_ret2
          exact HX.out 0 4
      · rw [if_neg (by omega)] at hR
        have HM := hide (move_any b.length off 1048576 w (by omega) (by omega) (by omega) (by omega))
        simp only [show ¬ ((2 : Int) = 1) by decide, if_false, if_true] at hR
        by_cases k3 : 0 ≤ (b.length : Int) + off ∧ (b.length : Int) + off ≤ 1048576
        · rw [if_pos k3] at hR HM
          obtain ⟨p, hp⟩ : ∃ p : Nat, (b.length : Int) + off = (p : Int) := ⟨((b.length : Int) + off).toNat, by omega⟩
          rw [hp] at hR HM
          simp only [Int.toNat_natCast] at hR
          rw [hR]
          obtain ⟨hK2, hT2⟩ := h.setDe (x := x) (x' := { x with pos := p }) hm rfl rfl rfl (by show p ≤ 1048576; omega) (h.ok.held x hm) 3 (.int .i64 (p : Int)) (by simp)
          have HK2 := hide hK2
          have HT2 := hide (hT2.mono (S' := B) fun k e => (h.lt k _ e).1)
          clear h hd hR hK2 hT2
          go_enter Tryz.func68, Tryz.ntmps68
          go_wp2_with fail
          refine HF.out.mono ?_
          rintro e w1 ⟨rfl, rfl⟩
          simp only [Option.map_some]
          go_wp2_with fail
          refine HM.out.mono ?_
          rintro e w1 ⟨rfl, rfl⟩
          go_wp2
          go_ret2
          exact ⟨_, _, rfl, HK2.out, rfl, HT2.out⟩
        · rw [if_neg k3] at hR HM
          rw [hR]
          clear h hd hR
          go_enter Tryz.func68, Tryz.ntmps68
          go_wp2_with fail
          refine HF.out.mono ?_
          rintro e w1 ⟨rfl, rfl⟩
          simp only [Option.map_some]
          go_wp2_with fail
          refine HM.out.mono ?_
          rintro e w1 ⟨rfl, rfl⟩
          go_wp2
          go_ret2
          exact HX.out 0 4
end Go.Proofs.YtejcfhjhjplcnaaGreat

/- The reference's kernel: Write. -/
namespace Go.Proofs.YtejcfhjhjplcnaaGreat
open Go.RowKit

theorem setDe_setOb (K : KS) (x : De) (i : Nat) (o : Ob) : (K.setDe x).setOb i o = (K.setOb i o).setDe x := rfl
theorem setDe_twice (K : KS) {x y : De} (h : x.n = y.n) : (K.setDe x).setDe y = K.setDe y := by
  unfold KS.setDe
  simp only [List.map_map]
  congr 1
  apply List.map_congr_left
  intro z _
  simp only [Function.comp]
  by_cases hz : z.n = x.n
  · rw [if_pos hz, if_pos h, if_pos (hz.trans h)]
  · rw [if_neg hz]
theorem room_place (f : List UInt8) (flags : Int) (pos : Nat) : roomOf (.file f) flags pos = 1048576 - placeOf f flags pos := by
  unfold roomOf placeOf bit
  simp only
  by_cases h : fbit flags 4 = 0
  · rw [if_pos h, h]; rfl
  · rw [if_neg h]
    have : (!(fbit flags 4 == 0)) = true := by simpa using h
    rw [if_pos this]
theorem rkw_refused {K : KS} {d : Int} {b : List UInt8} {x : De} (hx : K.find d = some x) (h1 : fbit x.flags 2 ≠ 0) (h2 : ¬ 1048576 < b.length) (h3 : ¬ b.length = 0) (h4 : refusal (K.tho x) x.flags x.pos b.length ≠ 0) : K.write d b = (0, refusal (K.tho x) x.flags x.pos b.length, K) := by
  unfold KS.write
  rw [hx]
  simp only
  rw [if_neg h1, if_neg h2, if_neg h3, if_neg h4]
theorem rkw_fault {K : KS} {d : Int} {b : List UInt8} {x : De} (hx : K.find d = some x) (h1 : fbit x.flags 2 ≠ 0) (h2 : ¬ 1048576 < b.length) (h3 : ¬ b.length = 0) (h4 : refusal (K.tho x) x.flags x.pos b.length = 0) (h5 : (nxt K.plan b.length).2 ≠ 0) : K.write d b = (0, (nxt K.plan b.length).2, K.writeUp) := by
  unfold KS.write
  rw [hx]
  simp only
  rw [if_neg h1, if_neg h2, if_neg h3, if_pos h4, if_neg h5]
set_option maxRecDepth 100000 in
set_option maxHeartbeats 1000000 in
theorem rkwrite_head (B : Nat → Prop) (ρ : Nat → Option Tag) (I : RI) (K : KS) (d : Int) (b : List UInt8) (a1 : Option Addr) (cx : Nat) (w : World) (h : RK w B ρ I K)
    (hh : K.find d = none ∨ ∃ x, K.find d = some x ∧ (fbit x.flags 2 = 0 ∨ 1048576 < b.length ∨ b.length = 0)) :
    Calls Tryz.prog 66 #[.pointer (some ⟨I.kb, 0, none⟩), .int .i64 d, .slice a1 b.length cx] w (RKNum w B I.kb (K.write d b)) := by
  have HF := hide (rfind_any B ρ I K d w h)
  have HX := hide fun E => RKNum.refused h 0 E
  rcases hh with hx | ⟨x, hx, hh⟩
  · rw [hx] at HF
    rw [show K.write d b = (0, 64, K) by unfold KS.write; rw [hx]]
    clear h
    go_enter Tryz.func66, Tryz.ntmps66
    go_wp2_with fail
    refine HF.out.mono ?_
    rintro e w1 ⟨rfl, rfl⟩
    go_wp2
    go_ret2
    exact HX.out 64
  · rw [hx] at HF
    have hm := (KS.find_some hx).1
    have c3 := (h.de hm).f
    have hR : K.write d b = if fbit x.flags 2 = 0 then (0, 65, K) else if 1048576 < b.length then (0, 5, K) else if b.length = 0 then (0, 0, K) else K.write d b := by
      by_cases k1 : fbit x.flags 2 = 0
      · rw [if_pos k1]; unfold KS.write; rw [hx]; simp only; rw [if_pos k1]
      · rw [if_neg k1]
        by_cases k2 : 1048576 < b.length
        · rw [if_pos k2]; unfold KS.write; rw [hx]; simp only; rw [if_neg k1, if_pos k2]
        · rw [if_neg k2]
          by_cases k3 : b.length = 0
          · rw [if_pos k3]; unfold KS.write; rw [hx]; simp only; rw [if_neg k1, if_neg k2, if_pos k3]
          · rw [if_neg k3]
    obtain ⟨v, hv⟩ : ∃ v, bits .and .i64 x.flags 2 = v := ⟨_, rfl⟩
    rw [show fbit x.flags 2 = v from hv] at hR hh
    by_cases k0 : v = 0
    · subst k0
      rw [if_pos rfl] at hR
      rw [hR]
      clear h hR hh
      go_enter Tryz.func66, Tryz.ntmps66
      go_wp2_with fail
      refine HF.out.mono ?_
      rintro e w1 ⟨rfl, rfl⟩
      simp only [Option.map_some]
      go_wp2
      go_ret2
      exact HX.out 65
    · have m0 : (v == 0) = false := by simpa using k0
      rw [if_neg k0] at hR
      by_cases k1 : 1048576 < b.length
      · rw [if_pos k1] at hR
        rw [hR]
        have k2 : (1048576 : Int) < (b.length : Int) := by omega
        clear h hR hh
        go_enter Tryz.func66, Tryz.ntmps66
        go_wp2_with fail
        refine HF.out.mono ?_
        rintro e w1 ⟨rfl, rfl⟩
        simp only [Option.map_some]
        go_wp2
        go_ret2
        exact HX.out 5
      · rw [if_neg k1] at hR
        have k3 : b.length = 0 := by rcases hh with e | e | e; exact absurd e k0; exact absurd e k1; exact e
        rw [if_pos k3] at hR
        rw [hR]
        rw [k3]
        clear h hR hh k1
        go_enter Tryz.func66, Tryz.ntmps66
        go_wp2_with fail
        refine HF.out.mono ?_
        rintro e w1 ⟨rfl, rfl⟩
        simp only [Option.map_some]
        go_wp2
        go_ret2
        exact HX.out 0
theorem RK.wup {w : World} {B : Nat → Prop} {ρ : Nat → Option Tag} {I : RI} {K : KS} (h : RK w B ρ I K) (n : Int) (h1 : 1 ≤ n) (h2 : n ≤ 1048576) :
    w.cell? ⟨I.kb, 5, none⟩ = some (.int .i64 K.writes) ∧ w.frozen? ⟨I.kb, 5, none⟩ = false ∧ (w.setCell ⟨I.kb, 5, none⟩ (.int .i64 ((K.writes : Int) + 1))).cell? ⟨I.kb, 3, none⟩ = some (.pointer (some ⟨I.pb, 0, none⟩)) ∧
    Hid (Calls Tryz.prog 168 #[.pointer (some ⟨I.pb, 0, none⟩), .int .i64 n] (w.setCell ⟨I.kb, 5, none⟩ (.int .i64 ((K.writes : Int) + 1))) fun e w' => e = .returned (.tuple #[.int .i64 (nxt K.plan n).1, .int .i64 (nxt K.plan n).2]) ∧ ∃ v', RK w' B ρ { I with pv := v' } K.writeUp ∧ Turned B w w') := by
  have hb := (h.comp .kern).1
  obtain ⟨hU, hTU⟩ := h.setKern (K' := { K with writes := K.writes + 1 }) rfl rfl rfl rfl (Nat.le_refl _) 5 (.int .i64 ((K.writes + 1 : Nat) : Int)) (by simp)
  have hb1 := (hU.comp .kern).1
  have hN := rknext_any B ρ I _ n _ hU h1 h2
  have hrv : ((K.writes + 1 : Nat) : Int) = (K.writes : Int) + 1 := by omega
  rw [hrv] at hb1 hN hTU
  refine ⟨by rw [cell_of_row w I.kb 5 _ _ _ hb]; rfl, frozen_of_row w I.kb 5 _ _ hb, by rw [cell_of_row _ I.kb 3 _ _ _ hb1]; rfl, hide (hN.mono ?_)⟩
  rintro e w' ⟨rfl, v', h3, h4⟩
  exact ⟨rfl, v', h3, hTU.trans h4 (fun _ _ e => e)⟩
end Go.Proofs.YtejcfhjhjplcnaaGreat

/- The reference's kernel: Write, to a terminal and to a pipe. -/
namespace Go.Proofs.YtejcfhjhjplcnaaGreat
open Go.RowKit

theorem pipe_ok_w {q b : List UInt8} {rd wt : Nat} {m : Int} (h : (Ob.pipe q rd wt).ok) : (Ob.pipe (q ++ b.take (wrN b.length m q.length rd wt)) rd wt).ok := by
  have h1 := wrN_le b.length m q.length rd wt
  refine ⟨?_, h.2⟩
  have h2 := h1.2 h.1
  rw [List.length_append, List.length_take]
  omega
set_option maxRecDepth 100000 in
set_option maxHeartbeats 2000000 in
theorem rkwrite_pipe (B : Nat → Prop) (ρ : Nat → Option Tag) (I : RI) (K : KS) (d : Int) (b : List UInt8) (a1 : Option Addr) (cx : Nat) (w : World) (h : RK w B ρ I K) (hr : K.writes < 9223372036854775807) (hb : Bys w (.slice a1 b.length cx) b) (hcap : b.length ≤ cx) (hap : ∀ k, (Value.slice a1 b.length cx).ownBlock = some k → ¬ B k)
    {x : De} (hx : K.find d = some x) (h1 : fbit x.flags 2 ≠ 0) (h2 : ¬ 1048576 < b.length) (h3 : ¬ b.length = 0) {q : List UInt8} {rd wt : Nat} (ho : K.tho x = .pipe q rd wt) :
    Calls Tryz.prog 66 #[.pointer (some ⟨I.kb, 0, none⟩), .int .i64 d, .slice a1 b.length cx] w (RKNum w B I.kb (K.write d b)) := by
  have HF := hide (rfind_any B ρ I K d w h)
  have HX := hide fun E => RKNum.refused h 0 E
  have HW := hide (And.intro hx (And.intro h1 (And.intro h2 h3)))
  rw [hx] at HF
  have hm := (KS.find_some hx).1
  have hd := h.de hm
  have c1 := hd.t
  have c2 := hd.kind
  have c3 := hd.f
  have hlt := hd.lt
  rw [ho] at c2
  simp only [Ob.kind] at c2
  have c4 := (h.ptr hm).2.2 q rd wt ho
  have hO := h.robj hm
  rw [ho] at hO
  obtain ⟨pa, pc, Bp, hP, -⟩ := hO.1
  have c5 := hP.c1
  have HO := hide hO
  have HB := hide hb
  have HK := hide h
  have m2 : ¬ (1048576 : Int) < (b.length : Int) := by omega
  have m3 : ¬ (b.length : Int) = 0 := by omega
  have m4 : ((b.length : Int) == 0) = false := by rw [beq_eq_false_iff_ne]; exact m3
  obtain ⟨v, hv⟩ : ∃ v, bits .and .i64 x.flags 2 = v := ⟨_, rfl⟩
  have k0 : ¬ v = 0 := by rw [← hv]; exact h1
  have m0 : (v == 0) = false := by simpa using k0
  by_cases hrd : rd = 0
  · subst hrd
    have hW := rkw_refused (b := b) hx h1 h2 h3 (by rw [ho]; simp [refusal])
    rw [ho, show refusal (.pipe q 0 wt) x.flags x.pos b.length = 53 from rfl] at hW
    rw [hW]
    have c6 : w.cell? ⟨I.ob x.th, 1, none⟩ = some (.int .i64 0) := c5
    clear c5
    clear h hd hP hb hO hW
    go_enter Tryz.func66, Tryz.ntmps66
    go_wp2_with fail
    refine HF.out.mono ?_
    rintro e w1 ⟨rfl, rfl⟩
    simp only [Option.map_some]
    go_wp2
    go_ret2
    exact HX.out 53
  have mr : ¬ (rd : Int) = 0 := by omega
  have mr2 : ((rd : Int) == 0) = false := by rw [beq_eq_false_iff_ne]; exact mr
  have HC := hide (ob_pcanWrite _ _ q rd wt (b.length : Int) w hO.1)
  by_cases hcw : canW (b.length : Int) q.length rd wt = false
  · have hrf : refusal (.pipe q rd wt) x.flags x.pos b.length = 52 := by show (if rd = 0 then (53 : Int) else if canW (b.length : Int) q.length rd wt = false then 52 else 0) = 52; rw [if_neg hrd, if_pos hcw]
    have hW := rkw_refused (b := b) hx h1 h2 h3 (by rw [ho, hrf]; decide)
    rw [ho, hrf] at hW
    rw [hW]
    rw [hcw] at HC
    clear h hd hP hb hO hW hrf
    go_enter Tryz.func66, Tryz.ntmps66
    go_wp2_with fail
    refine HF.out.mono ?_
    rintro e w1 ⟨rfl, rfl⟩
    simp only [Option.map_some]
    go_wp2_with fail
    refine HC.out.mono ?_
    rintro e w1 ⟨rfl, rfl⟩
    go_wp2
    go_ret2
    exact HX.out 52
  have hct : canW (b.length : Int) q.length rd wt = true := by simpa using hcw
  rw [hct] at HC
  have hrf : refusal (.pipe q rd wt) x.flags x.pos b.length = 0 := by show (if rd = 0 then (53 : Int) else if canW (b.length : Int) q.length rd wt = false then 52 else 0) = 0; rw [if_neg hrd, if_neg hcw]
  obtain ⟨q5, q5s, q3, HN⟩ := h.wup (b.length : Int) (by omega) (by omega)
  by_cases hE : (nxt K.plan (b.length : Int)).2 = 0
  · have hW : K.write d b = (((wrN b.length (nxt K.plan b.length).1 q.length rd wt : Nat) : Int), Kp_wrE b.length (nxt K.plan b.length).1 q.length rd wt, K.writeUp.setOb x.th (.pipe (q ++ b.take (wrN b.length (nxt K.plan b.length).1 q.length rd wt)) rd wt)) := by
      unfold KS.write
      rw [hx]
      simp only
      rw [if_neg h1, if_neg h2, if_neg h3, if_pos (by rw [ho]; exact hrf), if_pos hE, ho]
    rw [hW]
    rw [hE] at HN
    generalize (nxt K.plan (b.length : Int)).1 = m at *
    clear h hd hP hb hO hW hrf hcw hE
    go_enter Tryz.func66, Tryz.ntmps66
    go_wp2_with fail
    refine HF.out.mono ?_
    rintro e w1 ⟨rfl, rfl⟩
    simp only [Option.map_some]
    go_wp2_with fail
    refine HC.out.mono ?_
    rintro e w1 ⟨rfl, rfl⟩
    go_wp2_with fail
    refine HN.out.mono ?_
    rintro e w2 ⟨rfl, v', hK2, hT2⟩
    have HT2 := hide hT2
    have HK2 := hide hK2
    clear c1 c2 c3 c4 c5 q5 q5s q3
    have hd2 := hK2.de (x := x) hm
    have c1 := hd2.t
    have c2 : w2.cell? ⟨I.tb x.th, 1, none⟩ = some (.int .i64 3) := by have := hd2.kind; rw [show K.writeUp.tho x = .pipe q rd wt from ho] at this; exact this
    have c4 := (hK2.ptr (x := x) hm).2.2 q rd wt ho
    have hO2 := hK2.robj (x := x) hm
    rw [show K.writeUp.tho x = .pipe q rd wt from ho] at hO2
    have HO2 := hide hO2
    have HB2 := hide (HB.out.turned HT2.out (fun k hk _ e => by exact hap k hk e))
    clear hd2 hO2 hK2 hT2
    go_wp2_with fail
    refine (ob_pwrite _ _ q b rd wt m a1 b.length cx _ HO2.out.1 HB2.out hcap (by omega)).mono ?_
    rintro e w3 ⟨rfl, hs3⟩
    obtain ⟨ρ', hK3, -, hT3⟩ := HK2.out.setOb (i := x.th) hlt hs3 (by show _ = K.th[x.th].ob.kind; rw [show K.th[x.th].ob = .pipe q rd wt by rw [← KS.tho_eq hlt]; exact ho]; rfl) (pipe_ok_w HO2.out.2)
    have HK3 := hide hK3
    have HT3 := hide (HT2.out.trans hT3 (fun _ _ e => e))
    clear hK3 hT3 hs3
    go_wp2
    go_ret2
    exact ⟨ρ', _, rfl, HK3.out, rfl, HT3.out⟩
  · rw [rkw_fault hx h1 h2 h3 (by rw [ho]; exact hrf) hE]
    have hE1 : ((nxt K.plan (b.length : Int)).2 != 0) = true := by simpa using hE
    generalize nxt K.plan (b.length : Int) = mE at *
    obtain ⟨m, E⟩ := mE
    simp only at HN hE hE1 ⊢
    clear h hd hP hb hO hrf hcw
    go_enter Tryz.func66, Tryz.ntmps66
    go_wp2_with fail
    refine HF.out.mono ?_
    rintro e w1 ⟨rfl, rfl⟩
    simp only [Option.map_some]
    go_wp2_with fail
    refine HC.out.mono ?_
    rintro e w1 ⟨rfl, rfl⟩
    go_wp2_with fail
    refine HN.out.mono ?_
    rintro e w2 ⟨rfl, v', hK2, hT2⟩
    have HT2 := hide hT2
    have HK2 := hide hK2
    clear hK2 hT2 c1 c2 c3 c4 c5 q5 q5s q3
    go_wp2
    go_ret2
    exact ⟨ρ, _, rfl, HK2.out, rfl, HT2.out⟩
end Go.Proofs.YtejcfhjhjplcnaaGreat

/- The reference's kernel: Write, to a terminal. -/
namespace Go.Proofs.YtejcfhjhjplcnaaGreat
open Go.RowKit

theorem tho_setOb (K : KS) (x : De) (ob : Ob) (h : x.th < K.th.length) : (K.setOb x.th ob).tho x = ob := by
  unfold KS.tho KS.setOb
  simp [h]
theorem term_ok_w {ls : List (List UInt8)} {scr : List UInt8} (h : (Ob.term ls scr).ok) (x : List UInt8) : (Ob.term ls (wrS scr x)).ok := ⟨h.1, h.2.1, wrS_room h.2.2⟩
theorem wrS_fits {scr x : List UInt8} (h : scr.length + x.length ≤ 1048576) : wrS scr x = scr ++ x := by unfold wrS; rw [if_neg (by omega)]
set_option maxRecDepth 100000 in
set_option maxHeartbeats 2000000 in
theorem rkwrite_term (B : Nat → Prop) (ρ : Nat → Option Tag) (I : RI) (K : KS) (d : Int) (b : List UInt8) (a1 : Option Addr) (cx : Nat) (w : World) (h : RK w B ρ I K) (hr : K.writes < 9223372036854775807) (hb : Bys w (.slice a1 b.length cx) b) (hcap : b.length ≤ cx) (hap : ∀ k, (Value.slice a1 b.length cx).ownBlock = some k → ¬ B k)
    {x : De} (hx : K.find d = some x) (h1 : fbit x.flags 2 ≠ 0) (h2 : ¬ 1048576 < b.length) (h3 : ¬ b.length = 0) {ls : List (List UInt8)} {scr : List UInt8} (ho : K.tho x = .term ls scr) :
    Calls Tryz.prog 66 #[.pointer (some ⟨I.kb, 0, none⟩), .int .i64 d, .slice a1 b.length cx] w (RKNum w B I.kb (K.write d b)) := by
  have HF := hide (rfind_any B ρ I K d w h)
  have HX := hide fun E => RKNum.refused h 0 E
  have HW := hide (And.intro hx (And.intro h1 (And.intro h2 h3)))
  rw [hx] at HF
  have hm := (KS.find_some hx).1
  have hd := h.de hm
  have c1 := hd.t
  have c2 := hd.kind
  have c3 := hd.f
  have hlt := hd.lt
  rw [ho] at c2
  simp only [Ob.kind] at c2
  have c4 := (h.ptr hm).2.1 ls scr ho
  have hO := h.robj hm
  rw [ho] at hO
  have hsl : scr.length ≤ 1048576 := hO.2.2.2
  have HO := hide hO
  have HB := hide hb
  have HK := hide h
  have m2 : ¬ (1048576 : Int) < (b.length : Int) := by omega
  have m3 : ¬ (b.length : Int) = 0 := by omega
  have m4 : ((b.length : Int) == 0) = false := by rw [beq_eq_false_iff_ne]; exact m3
  obtain ⟨v, hv⟩ : ∃ v, bits .and .i64 x.flags 2 = v := ⟨_, rfl⟩
  have k0 : ¬ v = 0 := by rw [← hv]; exact h1
  have m0 : (v == 0) = false := by simpa using k0
  have HRo := hide (rroom_any B ρ I K x w h hm (by rw [ho]; simp [Ob.kind]))
  rw [ho, show roomOf (.term ls scr) x.flags x.pos = 1048576 - scr.length from rfl] at HRo
  by_cases hfull : scr.length = 1048576
  · have hrf : refusal (.term ls scr) x.flags x.pos b.length = 31 := by show (if scr.length = 1048576 then (31 : Int) else 0) = 31; rw [if_pos hfull]
    have hW := rkw_refused (b := b) hx h1 h2 h3 (by rw [ho, hrf]; decide)
    rw [ho, hrf] at hW
    rw [hW]
    rw [hfull] at HRo
    clear h hd hb hO hW hrf hfull hsl
    go_enter Tryz.func66, Tryz.ntmps66
    go_wp2_with fail
    refine HF.out.mono ?_
    rintro e w1 ⟨rfl, rfl⟩
    simp only [Option.map_some]
    go_wp2_with fail
    refine HRo.out.mono ?_
    rintro e w1 ⟨rfl, rfl⟩
    go_wp2
    go_ret2
    exact HX.out 31
  have hrf : refusal (.term ls scr) x.flags x.pos b.length = 0 := by show (if scr.length = 1048576 then (31 : Int) else 0) = 0; rw [if_neg hfull]
  obtain ⟨R, hR⟩ : ∃ R, R = 1048576 - scr.length := ⟨_, rfl⟩
  have hR0 : ¬ (R : Int) = 0 := by omega
  have hR1 : ((R : Int) == 0) = false := by rw [beq_eq_false_iff_ne]; exact hR0
  rw [← hR] at HRo
  have HRr := hide hR
  obtain ⟨q5, q5s, q3, HN⟩ := h.wup (b.length : Int) (by omega) (by omega)
  by_cases hE : (nxt K.plan (b.length : Int)).2 = 0
  · have hg := nxt_good (l := K.plan) (want := (b.length : Int)) h.ok.plan (by omega) (by omega) hE
    have hW : K.write d b = (((min (nxt K.plan b.length).1.toNat (1048576 - scr.length) : Nat) : Int), 0, K.writeUp.setOb x.th (.term ls (scr ++ b.take (min (nxt K.plan b.length).1.toNat (1048576 - scr.length))))) := by
      unfold KS.write
      rw [hx]
      simp only
      rw [if_neg h1, if_neg h2, if_neg h3, if_pos (by rw [ho]; exact hrf), if_pos hE, ho]
    rw [hW]
    rw [hE] at HN
    generalize (nxt K.plan (b.length : Int)).1 = m at *
    obtain ⟨mm, hmm⟩ : ∃ mm : Nat, mm = min m.toNat (1048576 - scr.length) := ⟨_, rfl⟩
    rw [← hmm]
    have hmin : min m (R : Int) = (mm : Int) := by omega
    have hmb : mm ≤ b.length := by omega
    have hm1 : 1 ≤ mm := by omega
    have HMr : Hid (scr.length + mm ≤ 1048576) := hide (by omega)
    have s0 : (0 : Int) ≤ (mm : Int) := by omega
    have s1 : (mm : Int) ≤ (cx : Int) := by omega
    have HF1 : Hid (scr.length + (b.take mm).length ≤ 1048576) := hide (by rw [List.length_take]; omega)
    clear h hd hb hO hW hrf hE hfull hR hmm hg hsl HMr
    go_enter Tryz.func66, Tryz.ntmps66
    go_wp2_with fail
    refine HF.out.mono ?_
    rintro e w1 ⟨rfl, rfl⟩
    simp only [Option.map_some]
    go_wp2_with fail
    refine HRo.out.mono ?_
    rintro e w1 ⟨rfl, rfl⟩
    go_wp2_with fail
    refine HN.out.mono ?_
    rintro e w2 ⟨rfl, v', hK2, hT2⟩
    have HT2 := hide hT2
    have HK2 := hide hK2
    clear c1 c2 c3 c4 q5 q5s q3
    have hd2 := hK2.de (x := x) hm
    have c1 := hd2.t
    have c2 : w2.cell? ⟨I.tb x.th, 1, none⟩ = some (.int .i64 2) := by have := hd2.kind; rw [show K.writeUp.tho x = .term ls scr from ho] at this; exact this
    have c4 := (hK2.ptr (x := x) hm).2.1 ls scr ho
    have hO2 := hK2.robj (x := x) hm
    rw [show K.writeUp.tho x = .term ls scr from ho] at hO2
    have HO2 := hide (And.intro (hO2.1.keep (W' := w2.drew) (fun _ _ _ => rfl) (Nat.le_refl _)) hO2.2)
    have HKd := hide (hK2.below (Below.refl _ w2).drew)
    have HRo2 := hide (rroom_any B ρ { I with pv := v' } K.writeUp x w2 hK2 hm (by rw [show K.writeUp.tho x = .term ls scr from ho]; simp [Ob.kind]))
    rw [show K.writeUp.tho x = .term ls scr from ho, show roomOf (.term ls scr) x.flags x.pos = 1048576 - scr.length from rfl, ← HRr.out] at HRo2
    have hB2 := HB.out.turned HT2.out (fun k hk _ e => by exact hap k hk e)
    obtain ⟨-, xb, xo, rfl, -, -⟩ := bys_block hB2 (by omega)
    have HB2 : Hid (Bys w2 (.slice (some ⟨xb, xo, none⟩) mm cx) (b.take mm)) := hide (by have := bys_cut hB2 0 mm cx (by omega); rw [List.drop_zero, Nat.add_zero] at this; exact this)
    clear hd2 hO2 hK2 hT2 hB2
    go_wp2_with (first | (go_at_call 172; refine HRo2.out.mono ?_; rintro _ w2 ⟨rfl, rfl⟩) | fail)
    go_region_held3 (fun w' => w'.cell? ⟨I.db x.n, 1, none⟩ = some (.pointer (some ⟨I.tb x.th, 0, none⟩)) ∧ w'.cell? ⟨I.tb x.th, 3, none⟩ = some (.pointer (some ⟨I.ob x.th, 0, none⟩)))
      (first | exact K5 | trivial | go_keep)
      (first
        | (go_at_call 174; refine (ob_twrite _ _ ls scr (b.take mm) _ _ HO2.out.1 HO2.out.2 (HB2.out.below (Below.refl _ w2).drew) (by rw [List.length_take]; omega)).mono ?_; rintro e w3 ⟨rfl, hs3⟩; obtain ⟨ρ', hK3, -, hT3⟩ := HKd.out.setOb (i := x.th) hlt hs3 (by show _ = K.th[x.th].ob.kind; rw [show K.th[x.th].ob = .term ls scr by rw [← KS.tho_eq hlt]; exact ho]; rfl) (term_ok_w HO2.out.2 (b.take mm)); have K5 : w3.cell? ⟨I.db x.n, 1, none⟩ = some (.pointer (some ⟨I.tb x.th, 0, none⟩)) ∧ w3.cell? ⟨I.tb x.th, 3, none⟩ = some (.pointer (some ⟨I.ob x.th, 0, none⟩)) := ⟨(hK3.de (x := x) hm).t, (hK3.ptr (x := x) hm).2.1 ls (wrS scr (b.take mm)) (tho_setOb _ x _ hlt)⟩; rw [wrS_fits HF1.out] at hK3; have HK3 := hide hK3; have HT3 := hide (HT2.out.trans ((Turned.of_below (Below.refl _ w2).drew).trans hT3 (fun _ _ e => e)) (fun _ _ e => e)); clear hK3 hT3 hs3)
        | fail)
    go_wp2
    go_ret2
    exact ⟨_, _, rfl, HK3.out, rfl, HT3.out⟩
  · rw [rkw_fault hx h1 h2 h3 (by rw [ho]; exact hrf) hE]
    have hE1 : ((nxt K.plan (b.length : Int)).2 != 0) = true := by simpa using hE
    generalize nxt K.plan (b.length : Int) = mE at *
    obtain ⟨m, E⟩ := mE
    simp only at HN hE hE1 ⊢
    clear h hd hb hO hrf hfull hR hsl
    go_enter Tryz.func66, Tryz.ntmps66
    go_wp2_with fail
    refine HF.out.mono ?_
    rintro e w1 ⟨rfl, rfl⟩
    simp only [Option.map_some]
    go_wp2_with fail
    refine HRo.out.mono ?_
    rintro e w1 ⟨rfl, rfl⟩
    go_wp2_with fail
    refine HN.out.mono ?_
    rintro e w2 ⟨rfl, v', hK2, hT2⟩
    have HT2 := hide hT2
    have HK2 := hide hK2
    clear hK2 hT2 c1 c2 c3 c4 q5 q5s q3
    go_wp2
    go_ret2
    exact ⟨ρ, _, rfl, HK2.out, rfl, HT2.out⟩
end Go.Proofs.YtejcfhjhjplcnaaGreat

/- The reference's kernel: Write, to a file. -/
namespace Go.Proofs.YtejcfhjhjplcnaaGreat
open Go.RowKit

theorem mem_new_de {K : KS} {x y : De} (h : x ∈ K.de) (hn : y.n = x.n) : y ∈ (K.setDe y).de := by
  unfold KS.setDe
  exact List.mem_map.2 ⟨x, h, by rw [if_pos hn.symm]⟩
set_option maxRecDepth 100000 in
set_option maxHeartbeats 2000000 in
theorem rkwrite_file (B : Nat → Prop) (ρ : Nat → Option Tag) (I : RI) (K : KS) (d : Int) (b : List UInt8) (a1 : Option Addr) (cx : Nat) (w : World) (h : RK w B ρ I K) (hr : K.writes < 9223372036854775807) (hb : Bys w (.slice a1 b.length cx) b) (hcap : b.length ≤ cx) (hap : ∀ k, (Value.slice a1 b.length cx).ownBlock = some k → ¬ B k)
    {x : De} (hx : K.find d = some x) (h1 : fbit x.flags 2 ≠ 0) (h2 : ¬ 1048576 < b.length) (h3 : ¬ b.length = 0) {f : List UInt8} (ho : K.tho x = .file f) :
    Calls Tryz.prog 66 #[.pointer (some ⟨I.kb, 0, none⟩), .int .i64 d, .slice a1 b.length cx] w (RKNum w B I.kb (K.write d b)) := by
  have HF := hide (rfind_any B ρ I K d w h)
  have HX := hide fun E => RKNum.refused h 0 E
  have HW := hide (And.intro hx (And.intro h1 (And.intro h2 h3)))
  rw [hx] at HF
  have hm := (KS.find_some hx).1
  have hd := h.de hm
  have c1 := hd.t
  have c2 := hd.kind
  have c3 := hd.f
  have hlt := hd.lt
  rw [ho] at c2
  simp only [Ob.kind] at c2
  have c4 := (h.ptr hm).1 f ho
  have hO := h.robj hm
  rw [ho] at hO
  have hfl : f.length ≤ 1048576 := hO.2
  obtain ⟨P, hP⟩ : ∃ P, P = placeOf f x.flags x.pos := ⟨_, rfl⟩
  have hPl : P ≤ 1048576 := by
    have := h.ok.pos x hm
    rw [hP]; unfold placeOf; split <;> omega
  have HO := hide hO
  have HB := hide hb
  have HK := hide h
  have m2 : ¬ (1048576 : Int) < (b.length : Int) := by omega
  have m3 : ¬ (b.length : Int) = 0 := by omega
  have m4 : ((b.length : Int) == 0) = false := by rw [beq_eq_false_iff_ne]; exact m3
  obtain ⟨v, hv⟩ : ∃ v, bits .and .i64 x.flags 2 = v := ⟨_, rfl⟩
  have k0 : ¬ v = 0 := by rw [← hv]; exact h1
  have m0 : (v == 0) = false := by simpa using k0
  have HRo := hide (rroom_any B ρ I K x w h hm (by rw [ho]; simp [Ob.kind]))
  rw [ho, room_place, ← hP] at HRo
  by_cases hfull : P = 1048576
  · have hrf : refusal (.file f) x.flags x.pos b.length = 31 := by show (if placeOf f x.flags x.pos = 1048576 then (31 : Int) else 0) = 31; rw [← hP, if_pos hfull]
    have hW := rkw_refused (b := b) hx h1 h2 h3 (by rw [ho, hrf]; decide)
    rw [ho, hrf] at hW
    rw [hW]
    rw [hfull] at HRo
    clear h hd hb hO hW hrf hfull hPl hP
    go_enter Tryz.func66, Tryz.ntmps66
    go_wp2_with fail
    refine HF.out.mono ?_
    rintro e w1 ⟨rfl, rfl⟩
    simp only [Option.map_some]
    go_wp2_with fail
    refine HRo.out.mono ?_
    rintro e w1 ⟨rfl, rfl⟩
    go_wp2
    go_ret2
    exact HX.out 31
  have hrf : refusal (.file f) x.flags x.pos b.length = 0 := by show (if placeOf f x.flags x.pos = 1048576 then (31 : Int) else 0) = 0; rw [← hP, if_neg hfull]
  obtain ⟨R, hR⟩ : ∃ R, R = 1048576 - P := ⟨_, rfl⟩
  have hR0 : ¬ (R : Int) = 0 := by omega
  have hR1 : ((R : Int) == 0) = false := by rw [beq_eq_false_iff_ne]; exact hR0
  rw [← hR] at HRo
  obtain ⟨q5, q5s, q3, HN⟩ := h.wup (b.length : Int) (by omega) (by omega)
  by_cases hE : (nxt K.plan (b.length : Int)).2 = 0
  · have hg := nxt_good (l := K.plan) (want := (b.length : Int)) h.ok.plan (by omega) (by omega) hE
    have hW : K.write d b = (((min (nxt K.plan b.length).1.toNat (1048576 - placeOf f x.flags x.pos) : Nat) : Int), 0, (K.writeUp.setOb x.th (.file (wrL f (placeOf f x.flags x.pos) (b.take (min (nxt K.plan b.length).1.toNat (1048576 - placeOf f x.flags x.pos)))))).setDe { x with pos := placeOf f x.flags x.pos + min (nxt K.plan b.length).1.toNat (1048576 - placeOf f x.flags x.pos) }) := by
      unfold KS.write
      rw [hx]
      simp only
      rw [if_neg h1, if_neg h2, if_neg h3, if_pos (by rw [ho]; exact hrf), if_pos hE, ho]
    rw [hW, ← hP]
    rw [hE] at HN
    generalize (nxt K.plan (b.length : Int)).1 = m at *
    obtain ⟨mm, hmm⟩ : ∃ mm : Nat, mm = min m.toNat (1048576 - P) := ⟨_, rfl⟩
    rw [← hmm]
    have hmin : min m (R : Int) = (mm : Int) := by omega
    have hmb : mm ≤ b.length := by omega
    have hm1 : 1 ≤ mm := by omega
    have HF1 : Hid (P + mm ≤ 1048576) := hide (by omega)
    have s0 : (0 : Int) ≤ (mm : Int) := by omega
    have s1 : (mm : Int) ≤ (cx : Int) := by omega
    have HPl := hide hP
    have HRr := hide hR
    have hPl' := hPl
    obtain ⟨v4, hv4⟩ : ∃ v4, bits .and .i64 x.flags 4 = v4 := ⟨_, rfl⟩
    clear h hd hb hO hW hrf hE hfull hR hmm hg hP hPl
    have HV4 : Hid ((v4 = 0 → P = x.pos) ∧ (¬ v4 = 0 → P = f.length)) := hide (by
      rw [HPl.out]
      unfold placeOf bit
      rw [show fbit x.flags 4 = v4 from hv4]
      refine ⟨fun e => ?_, fun e => ?_⟩
      · rw [e]; rfl
      · rw [if_pos (by simpa using e)])
    have hvc : v4 = 0 ∨ (¬ v4 = 0 ∧ (v4 == 0) = false ∧ (v4 != 0) = true) := by
      by_cases e : v4 = 0
      · exact .inl e
      · exact .inr ⟨e, by simpa using e, by simpa using e⟩
    go_enter Tryz.func66, Tryz.ntmps66
    go_wp2_with fail
    refine HF.out.mono ?_
    rintro e w1 ⟨rfl, rfl⟩
    simp only [Option.map_some]
    go_wp2_with fail
    refine HRo.out.mono ?_
    rintro e w1 ⟨rfl, rfl⟩
    go_wp2_with fail
    refine HN.out.mono ?_
    rintro e w2 ⟨rfl, v', hK2, hT2⟩
    have HT2 := hide hT2
    have HK2 := hide hK2
    clear c1 c2 c3 c4 q5 q5s q3
    have hd2 := hK2.de (x := x) hm
    have c1 := hd2.t
    have c3 := hd2.f
    have c5 := hd2.p
    have c5s := hd2.soft 3
    have c2 : w2.cell? ⟨I.tb x.th, 1, none⟩ = some (.int .i64 1) := by have := hd2.kind; rw [show K.writeUp.tho x = .file f from ho] at this; exact this
    have c4 := (hK2.ptr (x := x) hm).1 f ho
    have hO2 := hK2.robj (x := x) hm
    rw [show K.writeUp.tho x = .file f from ho] at hO2
    obtain ⟨u, Bu, hF2, -⟩ := hO2.1
    have c6 := hF2.data
    obtain ⟨ua, uc, hu⟩ := owns_slice hF2.row
    rw [hu] at c6
    have HRo2 := hide (rroom_any B ρ { I with pv := v' } K.writeUp x w2 hK2 hm (by rw [show K.writeUp.tho x = .file f from ho]; simp [Ob.kind]))
    rw [show K.writeUp.tho x = .file f from ho, room_place, ← HPl.out, ← HRr.out] at HRo2
    have hB2 := HB.out.turned HT2.out (fun k hk _ e => by exact hap k hk e)
    obtain ⟨-, xb, xo, rfl, -, -⟩ := bys_block hB2 (by omega)
    have hxB : ¬ B xb := hap xb rfl
    have HB2 : Hid (Bys w2 (.slice (some ⟨xb, xo, none⟩) mm cx) (b.take mm)) := hide (by have := bys_cut hB2 0 mm cx (by omega); rw [List.drop_zero, Nat.add_zero] at this; exact this)
    have HOw : Hid (∀ k, (Value.slice (some ⟨xb, xo, none⟩) mm cx).ownBlock = some k → ¬ B k) := hide (fun k hk => by
      have h5 : xb = k := by simpa [Value.ownBlock] using hk
      subst h5
      exact hxB)
    clear hd2 hO2 hK2 hT2 hB2 hF2 hu
    rcases hvc with rfl | ⟨g1, g2, g3⟩
    · obtain rfl := HV4.out.1 rfl
      go_wp2_with (first | (go_at_call 172; refine HRo2.out.mono ?_; rintro _ w2 ⟨rfl, rfl⟩) | fail)
      have hmx : x ∈ K.writeUp.de := hm
      have HB3 := HB2
      have HT3 := HT2
      have hlo := HK2.out.lt
      have hOx := HK2.out.robj (x := x) hmx
      rw [show (K.writeUp).tho x = .file f from ho] at hOx
      have HOd := hide (hOx.1.keep (W' := (w2).drew) (fun _ _ _ => rfl) (Nat.le_refl _))
      have HKd := hide (HK2.out.below (Below.refl _ (w2)).drew)
      have HBd := hide (HB3.out.below (Below.refl _ (w2)).drew)
      have c1 := (HK2.out.de (x := x) hmx).t
      have c5 := (HK2.out.de (x := x) hmx).p
      have c4 := (HK2.out.ptr (x := x) hmx).1 f ho
      simp only at c1 c4 c5
      clear hOx
      have HNo : Hid (∀ k, (Value.slice (some ⟨xb, xo, none⟩) mm cx).ownBlock = some k → ¬ ρ k = some (.obj x.th)) := hide (fun k hk e => by exact HOw.out k hk (hlo k _ e).1)
      go_region_held3 (fun w' => w'.cell? ⟨I.db x.n, 1, none⟩ = some (.pointer (some ⟨I.tb x.th, 0, none⟩)) ∧ w'.cell? ⟨I.tb x.th, 2, none⟩ = some (.pointer (some ⟨I.ob x.th, 0, none⟩)) ∧ w'.cell? ⟨I.db x.n, 3, none⟩ = some (.int .i64 (x.pos : Nat)))
        (first | exact K5 | go_keep)
        (first
          | (go_at_call 175; refine (ob_fwrite _ _ f (b.take mm) _ _ _ HOd.out hfl HBd.out (fun _ k hk e => HNo.out k hk e)).mono ?_; rintro e w3 ⟨rfl, hs3⟩; obtain ⟨ρ', hK3, -, hT3⟩ := HKd.out.setOb (i := x.th) hlt hs3 (by show _ = K.th[x.th].ob.kind; rw [show K.th[x.th].ob = .file f by rw [← KS.tho_eq hlt]; exact ho]; rfl) (wrL_len hfl); have K5 : w3.cell? ⟨I.db x.n, 1, none⟩ = some (.pointer (some ⟨I.tb x.th, 0, none⟩)) ∧ w3.cell? ⟨I.tb x.th, 2, none⟩ = some (.pointer (some ⟨I.ob x.th, 0, none⟩)) ∧ w3.cell? ⟨I.db x.n, 3, none⟩ = some (.int .i64 (x.pos : Nat)) := ⟨(hK3.de (x := x) hmx).t, (hK3.ptr (x := x) hmx).1 _ (tho_setOb _ x _ hlt), (hK3.de (x := x) hmx).p⟩)
          | fail)
      have c7 := K5.2.2
      have c7s := (hK3.de (x := x) hmx).soft 3
      obtain ⟨hK6, hT6⟩ := hK3.setDe (x := x) (x' := { x with pos := x.pos + mm }) hmx rfl rfl rfl HF1.out (hK3.ok.held x hmx) 3 (.int .i64 ((x.pos + mm : Nat) : Int)) (by simp)
      have HK6 := hide hK6
      have hlo3 := hK3.lt
      have HT6 := hide ((HT3.out.trans ((Turned.of_below (S := B) (Below.refl _ (w2)).drew).trans hT3 (fun _ _ e => e)) (fun _ _ e => e)).trans hT6 (fun k _ e => (hlo3 _ _ e).1))
      clear hK6 hT6 hK3 K5 hlo hlo3 hT3 hs3
      go_wp2
      go_ret2
      rw [show (x.pos : Int) + (mm : Int) = ((x.pos + mm : Nat) : Int) by omega]
      exact ⟨ρ', _, rfl, HK6.out, rfl, HT6.out⟩
    · obtain rfl := HV4.out.2 g1
      obtain ⟨hKS, hTS⟩ := HK2.out.setDe (x := x) (x' := { x with pos := f.length }) hm rfl rfl rfl hfl (HK2.out.ok.held x hm) 3 (.int .i64 f.length) (by simp)
      have hlo2 := HK2.out.lt
      have HTS := hide hTS
      have HKS := hide hKS
      have HTS2 : Hid (Turned B w2 (w2.setCell ⟨I.db x.n, 3, none⟩ (.int .i64 f.length))) := hide (hTS.mono fun k e => (hlo2 k _ e).1)
      clear hKS hTS
      go_wp2_with (first | (go_at_call 172; refine HRo2.out.mono ?_; rintro _ w2 ⟨rfl, rfl⟩) | fail)
      generalize w2.setCell ⟨I.db x.n, 3, none⟩ (.int .i64 f.length) = wS at *
      have hmx : ({ x with pos := f.length } : De) ∈ (K.writeUp.setDe ({ x with pos := f.length } : De)).de := mem_new_de (x := x) hm rfl
      have HT3 := hide (HT2.out.trans HTS2.out (fun _ _ e => e))
      have HB3 := hide (HB2.out.turned HTS2.out (fun k hk _ e => by exact HOw.out k hk e))
      have hlo := HKS.out.lt
      have hOx := HKS.out.robj (x := ({ x with pos := f.length } : De)) hmx
      rw [show ((K.writeUp.setDe ({ x with pos := f.length } : De))).tho ({ x with pos := f.length } : De) = .file f from ho] at hOx
      have HOd := hide (hOx.1.keep (W' := (wS).drew) (fun _ _ _ => rfl) (Nat.le_refl _))
      have HKd := hide (HKS.out.below (Below.refl _ (wS)).drew)
      have HBd := hide (HB3.out.below (Below.refl _ (wS)).drew)
      have c1 := (HKS.out.de (x := ({ x with pos := f.length } : De)) hmx).t
      have c5 := (HKS.out.de (x := ({ x with pos := f.length } : De)) hmx).p
      have c4 := (HKS.out.ptr (x := ({ x with pos := f.length } : De)) hmx).1 f ho
      simp only at c1 c4 c5
      clear hOx
      have HNo : Hid (∀ k, (Value.slice (some ⟨xb, xo, none⟩) mm cx).ownBlock = some k → ¬ ρ k = some (.obj x.th)) := hide (fun k hk e => by exact HOw.out k hk (hlo k _ e).1)
      go_region_held3 (fun w' => w'.cell? ⟨I.db x.n, 1, none⟩ = some (.pointer (some ⟨I.tb x.th, 0, none⟩)) ∧ w'.cell? ⟨I.tb x.th, 2, none⟩ = some (.pointer (some ⟨I.ob x.th, 0, none⟩)) ∧ w'.cell? ⟨I.db x.n, 3, none⟩ = some (.int .i64 (f.length : Nat)))
        (first | exact K5 | go_keep)
        (first
          | (go_at_call 175; refine (ob_fwrite _ _ f (b.take mm) _ _ _ HOd.out hfl HBd.out (fun _ k hk e => HNo.out k hk e)).mono ?_; rintro e w3 ⟨rfl, hs3⟩; obtain ⟨ρ', hK3, -, hT3⟩ := HKd.out.setOb (i := x.th) hlt hs3 (by show _ = K.th[x.th].ob.kind; rw [show K.th[x.th].ob = .file f by rw [← KS.tho_eq hlt]; exact ho]; rfl) (wrL_len hfl); have K5 : w3.cell? ⟨I.db x.n, 1, none⟩ = some (.pointer (some ⟨I.tb x.th, 0, none⟩)) ∧ w3.cell? ⟨I.tb x.th, 2, none⟩ = some (.pointer (some ⟨I.ob x.th, 0, none⟩)) ∧ w3.cell? ⟨I.db x.n, 3, none⟩ = some (.int .i64 (f.length : Nat)) := ⟨(hK3.de (x := ({ x with pos := f.length } : De)) hmx).t, (hK3.ptr (x := ({ x with pos := f.length } : De)) hmx).1 _ (tho_setOb _ ({ x with pos := f.length } : De) _ hlt), (hK3.de (x := ({ x with pos := f.length } : De)) hmx).p⟩)
          | fail)
      have c7 := K5.2.2
      have c7s := (hK3.de (x := ({ x with pos := f.length } : De)) hmx).soft 3
      obtain ⟨hK6, hT6⟩ := hK3.setDe (x := ({ x with pos := f.length } : De)) (x' := { x with pos := f.length + mm }) hmx rfl rfl rfl HF1.out (hK3.ok.held ({ x with pos := f.length } : De) hmx) 3 (.int .i64 ((f.length + mm : Nat) : Int)) (by simp)
      have HK6 := hide hK6
      have hlo3 := hK3.lt
      have HT6 := hide ((HT3.out.trans ((Turned.of_below (S := B) (Below.refl _ (wS)).drew).trans hT3 (fun _ _ e => e)) (fun _ _ e => e)).trans hT6 (fun k _ e => (hlo3 _ _ e).1))
      clear hK6 hT6 hK3 K5 hlo hlo3 hT3 hs3
      go_wp2
      go_ret2
      rw [show (f.length : Int) + (mm : Int) = ((f.length + mm : Nat) : Int) by omega]
      have hfin := HK6.out
      rw [setDe_setOb, setDe_twice _ (x := { x with pos := f.length }) (y := { x with pos := f.length + mm }) rfl] at hfin
      exact ⟨ρ', _, rfl, hfin, rfl, HT6.out⟩
  · rw [rkw_fault hx h1 h2 h3 (by rw [ho]; exact hrf) hE]
    have hE1 : ((nxt K.plan (b.length : Int)).2 != 0) = true := by simpa using hE
    generalize nxt K.plan (b.length : Int) = mE at *
    obtain ⟨m, E⟩ := mE
    simp only at HN hE hE1 ⊢
    clear h hd hb hO hrf hfull hR hP hPl
    go_enter Tryz.func66, Tryz.ntmps66
    go_wp2_with fail
    refine HF.out.mono ?_
    rintro e w1 ⟨rfl, rfl⟩
    simp only [Option.map_some]
    go_wp2_with fail
    refine HRo.out.mono ?_
    rintro e w1 ⟨rfl, rfl⟩
    go_wp2_with fail
    refine HN.out.mono ?_
    rintro e w2 ⟨rfl, v', hK2, hT2⟩
    have HT2 := hide hT2
    have HK2 := hide hK2
    clear hK2 hT2 c1 c2 c3 c4 q5 q5s q3
    go_wp2
    go_ret2
    exact ⟨ρ, _, rfl, HK2.out, rfl, HT2.out⟩
theorem rkwrite_any (B : Nat → Prop) (ρ : Nat → Option Tag) (I : RI) (K : KS) (d : Int) (b : List UInt8) (a1 : Option Addr) (cx : Nat) (w : World) (h : RK w B ρ I K) (hr : K.writes < 9223372036854775807) (hb : Bys w (.slice a1 b.length cx) b) (hcap : b.length ≤ cx) (hap : ∀ k, (Value.slice a1 b.length cx).ownBlock = some k → ¬ B k) :
    Calls Tryz.prog 66 #[.pointer (some ⟨I.kb, 0, none⟩), .int .i64 d, .slice a1 b.length cx] w (RKNum w B I.kb (K.write d b)) := by
  cases hx : K.find d with
  | none => exact rkwrite_head B ρ I K d b a1 cx w h (.inl hx)
  | some x =>
    by_cases hh : fbit x.flags 2 = 0 ∨ 1048576 < b.length ∨ b.length = 0
    · exact rkwrite_head B ρ I K d b a1 cx w h (.inr ⟨x, hx, hh⟩)
    · have h1 : fbit x.flags 2 ≠ 0 := fun e => hh (.inl e)
      have h2 : ¬ 1048576 < b.length := fun e => hh (.inr (.inl e))
      have h3 : ¬ b.length = 0 := fun e => hh (.inr (.inr e))
      cases ho : K.tho x with
      | file f => exact rkwrite_file B ρ I K d b a1 cx w h hr hb hcap hap hx h1 h2 h3 ho
      | term ls scr => exact rkwrite_term B ρ I K d b a1 cx w h hr hb hcap hap hx h1 h2 h3 ho
      | pipe q rd wt => exact rkwrite_pipe B ρ I K d b a1 cx w h hr hb hcap hap hx h1 h2 h3 ho
end Go.Proofs.YtejcfhjhjplcnaaGreat

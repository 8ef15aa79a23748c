/- What the proof stands on, part 21: the contracts of the program's calls that it reaches. -/
import Derived.Test.YtanbiinomagdbaaGreatKM20
import Derived.Deep.DeepCutAuto
/- Plant.kernel: a kernel's file or terminal, of both sides. -/
namespace Go.Proofs.YtanbiinomagdbaaGreat
open Go.RowKit Go.Maps

def kfs (x : Plt) (tm : Bool) : List Nm := if tm = true then [] else [(⟨#[102]⟩, x.data)]
def kts (x : Plt) (tm : Bool) : List Tp := if tm = true then [(⟨#[102]⟩, x.lines)] else []
def kfl (x : Plt) : Int := if x.app = true then 7 else 3
theorem rat_o (kb : Nat) (K : KS) : OAt (fun w O => RAt w O kb K) := ⟨fun h hk hs => h.keep hk hs, fun h => h.trim⟩
theorem flts_of_rows {W : World} {v : Value} {l : List (Int × Int)} (h : RowsR W 2 FCells v l) : Flts W v l := by
  rcases h with ⟨rfl, rfl⟩ | ⟨q, cap, rfl, h1, h2⟩
  · exact .inl ⟨rfl, rfl⟩
  · by_cases h0 : 0 < l.length
    · obtain ⟨b, off, rfl, hd⟩ := h2 h0
      refine .inr (.inr ⟨b, off, cap, rfl, h0, h1, fun j hj => ?_⟩)
      obtain ⟨cs, rfl, -, h3⟩ := hd j hj
      have e : l.getD j (0, 0) = l[j] := by rw [List.getD_eq_getElem?_getD, List.getElem?_eq_getElem hj]; rfl
      rw [e]
      exact ⟨h3 0 _ rfl, h3 1 _ rfl⟩
    · have e := List.length_eq_zero_iff.1 (show l.length = 0 by omega)
      subst e
      exact .inr (.inl ⟨_, _, rfl, rfl⟩)
theorem lns_of_rows {W : World} {v : Value} {l : List (List UInt8)} (h : MLns W v l) : Lns W v l := by
  rcases h with ⟨rfl, rfl⟩ | ⟨q, cap, rfl, h1, h2⟩
  · exact ⟨none, 0, rfl, fun h => absurd h (by decide)⟩
  · refine ⟨some q, cap, rfl, fun h0 => ?_⟩
    obtain ⟨b, off, rfl, hd⟩ := h2 h0
    refine ⟨b, off, rfl, fun j hj => ?_⟩
    obtain ⟨cs, ⟨u, rfl, va, vc, rfl, hb, -⟩, -, h3⟩ := hd j hj
    have := h3 0 _ rfl
    rw [Nat.mul_one, Nat.add_zero] at this
    exact ⟨va, vc, this, hb⟩
theorem nms_none (W : World) (a : Option Addr) (c : Nat) : Nms W (.slice a 0 c) [] := ⟨a, c, rfl, Nat.zero_le _, fun h => absurd h (by decide)⟩
theorem tps_none (W : World) (a : Option Addr) (c : Nat) : Tps W (.slice a 0 c) [] := ⟨a, c, rfl, Nat.zero_le _, fun h => absurd h (by decide)⟩
theorem nms_f {W : World} {g : Nat} {da : Option Addr} {dc : Nat} {d : List UInt8} (h : W.heap[g]? = some (.cells #[.string ⟨#[102]⟩, .slice da d.length dc] 114)) (hb : Bys W (.slice da d.length dc) d) (hc : d.length ≤ dc) : Nms W (.slice (some ⟨g, 0, none⟩) 1 1) [(⟨#[102]⟩, d)] := by
  refine ⟨_, _, rfl, Nat.le_refl _, fun _ => ⟨g, 0, rfl, fun j hj => ?_⟩⟩
  obtain rfl : j = 0 := by simp at hj; exact hj
  exact ⟨da, dc, cell_of_row W g 0 _ _ _ h, cell_of_row W g 1 _ _ _ h, hb, hc, show (1 : Nat) ≤ maxLen by decide⟩
theorem tps_f {W : World} {g : Nat} {la : Option Addr} {lc : Nat} {l : List (List UInt8)} (h : W.heap[g]? = some (.cells #[.string ⟨#[102]⟩, .slice la l.length lc] 118)) (hb : Lns W (.slice la l.length lc) l) : Tps W (.slice (some ⟨g, 0, none⟩) 1 1) [(⟨#[102]⟩, l)] := by
  refine ⟨_, _, rfl, Nat.le_refl _, fun _ => ⟨g, 0, rfl, fun j hj => ?_⟩⟩
  obtain rfl : j = 0 := by simp at hj; exact hj
  exact ⟨la, lc, cell_of_row W g 0 _ _ _ h, cell_of_row W g 1 _ _ _ h, hb, show (1 : Nat) ≤ maxLen by decide⟩
def mdZ : Array Value := #[.nilIface, .pointer none, .pointer none, .pointer none, .pointer none, .pointer none, .pointer none]
def KernOut (x : Plt) (tm : Bool) (mb : Nat) (w : World) (e : Ending) (w' : World) : Prop :=
  Turned (fun k => k = mb) w w' ∧ (e = .returned (.bool false) ∨ ∃ kb rb g : Nat, e = .returned (.bool true) ∧ checkE (kfs x tm) (kts x tm) x.fs = 0 ∧ ((KS.new (kfs x tm) (kts x tm) x.fs).open ⟨#[102]⟩ (kfl x)).2.1 = 0 ∧
    w'.heap[mb]? = some (.cells #[.iface 300 (.agg #[.pointer (some ⟨kb, 0, none⟩), .int .i64 ((KS.new (kfs x tm) (kts x tm) x.fs).open ⟨#[102]⟩ (kfl x)).1]), .pointer (some ⟨g, 0, none⟩), .pointer none, .pointer none, .pointer none, .pointer (some ⟨kb, 0, none⟩), .pointer (some ⟨rb, 0, none⟩)] 65) ∧
    Both (fun w O => KAt w O kb ((KS.new (kfs x tm) (kts x tm) x.fs).open ⟨#[102]⟩ (kfl x)).2.2) (fun w O => RwS g rb ((KS.new (kfs x tm) (kts x tm) x.fs).open ⟨#[102]⟩ (kfl x)).1 w O ((KS.new (kfs x tm) (kts x tm) x.fs).open ⟨#[102]⟩ (kfl x)).2.2) w' (fun j => w.heap.size ≤ j))
set_option maxRecDepth 100000 in
set_option maxHeartbeats 8000000 in
theorem mkern_any (x : Plt) (dv rv wv fv lv : Value) (mb : Nat) (tm : Bool) (w : World) (h : PltIn w x dv rv wv fv lv) (hm : w.heap[mb]? = some (.cells mdZ 65)) (zf : x.fs.length * 16 ≤ 140737488351232) (zl : x.lines.length * 24 ≤ 140737488351232) :
    Calls Tryz.prog 95 #[.agg #[.int .i64 x.kind, .int .i64 x.size, dv, rv, wv, fv, lv, .int .i64 x.place, .bool x.app], .pointer (some ⟨mb, 0, none⟩), .bool tm] w (KernOut x tm mb w) := by
  have HP := hide (pl_new w x dv rv wv fv lv h)
  obtain ⟨da, dc, rfl, -⟩ := h.d
  obtain ⟨ra, rc, rfl, -⟩ := h.r
  obtain ⟨wa, wc0, rfl⟩ := h.w.form
  obtain ⟨fa, fc, rfl, -⟩ := h.f.form
  obtain ⟨la, lc, rfl, -⟩ := RowsR.form h.l
  clear h
  have hml : mb < w.heap.size := (Array.getElem?_eq_some_iff.1 hm).1
  have HM := hide hm
  clear hm
  go_enter Tryz.func95, Tryz.ntmps95
  go_upto_region 1 with fail
  have HB0 := hide (recv4 w (Obj.cells #[.int .i64 x.kind, .int .i64 x.size, .slice da x.data.length dc, .slice ra x.reads.length rc, .slice wa x.writes.length wc0, .slice fa x.fs.length fc, .slice la x.lines.length lc, .int .i64 x.place, .bool x.app] 50))
  have HW0 := hide (heap_alloc_new w (Obj.cells #[.int .i64 x.kind, .int .i64 x.size, .slice da x.data.length dc, .slice ra x.reads.length rc, .slice wa x.writes.length wc0, .slice fa x.fs.length fc, .slice la x.lines.length lc, .int .i64 x.place, .bool x.app] 50))
  generalize w.alloc (Obj.cells #[.int .i64 x.kind, .int .i64 x.size, .slice da x.data.length dc, .slice ra x.reads.length rc, .slice wa x.writes.length wc0, .slice fa x.fs.length fc, .slice la x.lines.length lc, .int .i64 x.place, .bool x.app] 50) = w0 at *
  have hz0 : w.heap.size < w0.heap.size := (Array.getElem?_eq_some_iff.1 HW0.out).1
  have p2 := cell_of_row w0 w.heap.size 2 _ _ _ HW0.out
  simp at p2
  go_upto_if 21 with fail
  have hBN := recv4 w0 (Obj.cells #[.string ⟨#[102]⟩, .slice da x.data.length dc] 114)
  have hBT := recv4 (w0.alloc (Obj.cells #[.string ⟨#[102]⟩, .slice da x.data.length dc] 114)) (Obj.cells #[] 118)
  have hzN : (w0.alloc (Obj.cells #[.string ⟨#[102]⟩, .slice da x.data.length dc] 114)).heap.size = w0.heap.size + 1 := Array.size_push _
  have hN1 := (hBT.block w0.heap.size (by omega)).trans (heap_alloc_new w0 (Obj.cells #[.string ⟨#[102]⟩, .slice da x.data.length dc] 114))
  have HB1 := hide (hBN.trans (hBT.mono hBN.size))
  have HN1 := hide hN1
  clear hBN hBT hzN hN1 p2
  generalize (w0.alloc (Obj.cells #[.string ⟨#[102]⟩, .slice da x.data.length dc] 114)).alloc (Obj.cells #[] 118) = w1 at *
  have HW1 := hide ((HB1.out.block w.heap.size hz0).trans HW0.out)
  have hz1 := HB1.out.size
  go_cut [7, 8] (fun s7 s8 wx => ∃ (a1 a2 : Option Addr) (c1 c2 : Nat), s7 = .slice a1 (kfs x tm).length c1 ∧ s8 = .slice a2 (kts x tm).length c2 ∧ Hid (Nms wx (.slice a1 (kfs x tm).length c1) (kfs x tm)) ∧ Hid (Tps wx (.slice a2 (kts x tm).length c2) (kts x tm)) ∧ Hid (Below w0.heap.size w0 wx))
  case first =>
    cases tm with
    | false =>
      go_wp2
      go_meet
      obtain ⟨da', dc', e, hb, hc⟩ := (HP.out w1 (HB0.out.trans (HB1.out.mono HB0.out.size))).d
      cases e
      exact ⟨_, _, _, _, rfl, rfl, hide (nms_f HN1.out hb hc), hide (tps_none _ _ _), HB1⟩
    | true =>
      have p6 := cell_of_row w1 w.heap.size 6 _ _ _ HW1.out
      simp at p6
      have p6a : (w1.alloc (Obj.cells #[] 114)).cell? ⟨w.heap.size, 6, none⟩ = some (.slice la x.lines.length lc) := ((recv4 w1 (Obj.cells #[] 114)).cell (p := ⟨w.heap.size, 6, none⟩) (by show w.heap.size < _; omega)).trans p6
      go_wp2_with fail
      go_region
      all_goals
        go_wp2
        go_meet
        first
        | (have hA := recv4 w1 (Obj.cells #[] 114)
           have hC := recv4 (w1.alloc (Obj.cells #[] 114)) (Obj.cells #[.string ⟨#[102]⟩, .slice la x.lines.length lc] 118)
           have hz : (w1.alloc (Obj.cells #[] 114)).heap.size = w1.heap.size + 1 := Array.size_push _
           have hh := heap_alloc_new (w1.alloc (Obj.cells #[] 114)) (Obj.cells #[.string ⟨#[102]⟩, .slice la x.lines.length lc] 118)
           rw [hz] at hh
           have hB := HB1.out.trans (((hA.trans (hC.mono hA.size)).drew).mono HB1.out.size)
           exact ⟨_, _, _, _, rfl, rfl, hide (nms_none _ _ _), hide (tps_f (g := w1.heap.size + 1) hh (lns_of_rows (HP.out _ (HB0.out.trans (hB.mono HB0.out.size))).l)), hide hB⟩)
        | (have hA := recv4 w1 (Obj.cells #[.string ⟨#[102]⟩, .slice la x.lines.length lc] 118)
           have hC := recv4 (w1.alloc (Obj.cells #[.string ⟨#[102]⟩, .slice la x.lines.length lc] 118)) (Obj.cells #[] 114)
           have hz : (w1.alloc (Obj.cells #[.string ⟨#[102]⟩, .slice la x.lines.length lc] 118)).heap.size = w1.heap.size + 1 := Array.size_push _
           have hh := (hC.block w1.heap.size (by omega)).trans (heap_alloc_new w1 (Obj.cells #[.string ⟨#[102]⟩, .slice la x.lines.length lc] 118))
           have hB := HB1.out.trans (((hA.trans (hC.mono hA.size)).drew).mono HB1.out.size)
           exact ⟨_, _, _, _, rfl, rfl, hide (nms_none _ _ _), hide (tps_f (g := w1.heap.size) hh (lns_of_rows (HP.out _ (HB0.out.trans (hB.mono HB0.out.size))).l)), hide hB⟩)
  case rest =>
    obtain ⟨a1, a2, c1, c2, rfl, rfl, HNm, HTp, HBx⟩ := hcut
    obtain ⟨wq, hq⟩ : ∃ W, W = wc := ⟨_, rfl⟩
    subst hq
    have HBw := hide (HB0.out.trans (HBx.out.mono HB0.out.size))
    have hrow := (HBx.out.block w.heap.size hz0).trans HW0.out
    have p8 := cell_of_row wq w.heap.size 8 _ _ _ hrow
    have p5 := cell_of_row wq w.heap.size 5 _ _ _ hrow
    simp at p8 p5
    have hzx := HBx.out.size
    have HRow := hide hrow
    clear hrow HB1 HN1 HW1 hz1
    go_upto_if 28 with fail
    go_cut [9] (fun s9 wx => s9 = .int .i64 (kfl x) ∧ wx = wq)
    case first =>
      go_wp2
      all_goals
        go_meet
        first
        | exact ⟨by unfold kfl; rw [if_pos (by assumption)], rfl⟩
        | exact ⟨by unfold kfl; rw [if_neg (by simp_all)], rfl⟩
    case rest =>
      obtain ⟨rfl, hwc⟩ := hcut
      rw [hwc]
      clear hwc p8
      obtain ⟨fs, hfs⟩ : ∃ fs, fs = kfs x tm := ⟨_, rfl⟩
      obtain ⟨ts, hts⟩ : ∃ ts, ts = kts x tm := ⟨_, rfl⟩
      have hfl : fs.length ≤ 1 := by rw [hfs]; unfold kfs; split <;> simp
      have htl : ts.length ≤ 1 := by rw [hts]; unfold kts; split <;> simp
      have htj : ∀ j (hj : j < ts.length), ts[j].2.length * 24 ≤ 140737488351232 := by
        rw [hts]
        unfold kts
        intro j hj
        split at hj
        · obtain rfl : j = 0 := by simp at hj; exact hj
          simp only [*]
          exact zl
        · simp at hj
      obtain ⟨fl, hfg⟩ : ∃ fl, fl = kfl x := ⟨_, rfl⟩
      rw [← hfs] at HNm
      rw [← hts] at HTp
      rw [← hfs, ← hts, ← hfg]
      have HEq := hide (And.intro hfs (And.intro hts hfg))
      clear hfs hts hfg
      have HFt := hide (fun (W : World) (hW : Below w.heap.size w W) => flts_of_rows (HP.out W hW).f)
      go_wp2_with fail
      refine (rkcheck_any _ _ _ fs ts x.fs wq HNm.out HTp.out (HFt.out wq HBw.out) (by omega) (by omega) htj (by unfold maxLen; omega)).mono ?_
      rintro _ w2 ⟨rfl, hB2⟩
      have HB2 := hide hB2
      have hz2 := hB2.size
      have HBw2 := hide (HBw.out.trans (hB2.mono HBw.out.size))
      have HRow2 := hide ((hB2.block w.heap.size (by omega)).trans HRow.out)
      have q5 := cell_of_row w2 w.heap.size 5 _ _ _ HRow2.out
      simp at q5
      clear hB2 p5
      by_cases hE : checkE fs ts x.fs = 0
      case neg =>
        have hE2 : (checkE fs ts x.fs == 0) = false := by simpa using hE
        have hE3 : (checkE fs ts x.fs != 0) = true := by simpa using hE
        generalize checkE fs ts x.fs = E at *
        go_wp2
        go_ret
        exact ⟨Turned.of_below (S := fun k => k = mb) HBw2.out, .inl rfl⟩
      have HN := hide (knew_good a1 a2 fa c1 c2 fc fs ts x.fs w2 (HNm.out.below HB2.out) (HTp.out.below HB2.out) (HFt.out w2 HBw2.out) zf (by omega) (by omega) hE)
      have HE := hide hE
      rw [hE]
      clear hE
      go_wp2_with fail
      refine HN.out.mono ?_
      rintro _ w3 ⟨kb, rfl, hK, hB3⟩
      have hz3 := hB3.size
      have HK3 := hide hK
      have HB3 := hide hB3
      have HBw3 := hide (HBw2.out.trans (hB3.mono HBw2.out.size))
      have r5 := (hB3.cell (p := ⟨w.heap.size, 5, none⟩) (by show w.heap.size < _; omega)).trans q5
      clear hK hB3 HN q5
      go_wp2_with fail
      refine (copyf_any _ x.fs w3 (HFt.out w3 HBw3.out) zf).mono ?_
      rintro _ w4 ⟨v4, rfl, hO4, hB4⟩
      obtain ⟨xa, xc, rfl⟩ := owns_slice hO4
      have HN2 := hide (rknew_any a1 a2 xa c1 c2 xc fs ts x.fs w3 w4 hB4 ((HNm.out.below HB2.out).below HB3.out) ((HTp.out.below HB2.out).below HB3.out) (Flts.of_owns hO4) (fun k e => hO4.lt k e) HE.out)
      clear hO4 r5
      go_wp2_with fail
      refine HN2.out.mono ?_
      rintro _ w5 ⟨ρ, I, rfl, hRK, hB5⟩
      have hz5 := hB5.size
      have HR5 := hide (RAt.of_page (w := w3) (fun _ e => e) hRK)
      have HB35 := hide hB5
      generalize I.kb = rb at *
      have HM5 := hide ((hB5.block mb (by omega)).trans ((HBw3.out.block mb hml).trans HM.out))
      have HBw5 := hide (HBw3.out.trans (hB5.mono HBw3.out.size))
      clear hRK hB5 hB4 HN2
      unfold mdZ at HM5
      have m5 := cell_of_row w5 mb 5 _ _ _ HM5.out
      have f5 := frozen_of_row w5 mb 5 _ _ HM5.out
      have e5 := Go.heap_setCell_same w5 mb 5 _ _ (.pointer (some ⟨kb, 0, none⟩)) HM5.out
      have m6 := cell_of_row _ mb 6 _ _ _ e5
      have f6 := frozen_of_row _ mb 6 _ _ e5
      have m60 := cell_of_row w5 mb 6 _ _ _ HM5.out
      have f60 := frozen_of_row w5 mb 6 _ _ HM5.out
      have e6 := Go.heap_setCell_same _ mb 6 _ _ (.pointer (some ⟨rb, 0, none⟩)) e5
      simp at m5 m6 m60
      simp only [List.setIfInBounds_toArray, List.set_cons_zero, List.set_cons_succ] at e6
      have hT6 : Turned (fun k => k = mb) w5 ((w5.setCell ⟨mb, 5, none⟩ (.pointer (some ⟨kb, 0, none⟩))).setCell ⟨mb, 6, none⟩ (.pointer (some ⟨rb, 0, none⟩))) := ((Turned.refl (fun k => k = mb) w5).set (.inl rfl)).set (.inl rfl)
      have HT6 := hide hT6
      have HM6 := hide e6
      clear e5 e6 hT6
      go_upto_region 12 with fail
      generalize (w5.setCell ⟨mb, 5, none⟩ (.pointer (some ⟨kb, 0, none⟩))).setCell ⟨mb, 6, none⟩ (.pointer (some ⟨rb, 0, none⟩)) = w6 at *
      clear m5 m6 m60 f5 f6 f60
      have hQ : ∀ j, w.heap.size ≤ j → ¬ j = mb := fun j h e => by omega
      have HBo := hide (Both.turned (Q := fun j => w.heap.size ≤ j) (Both.make (kat_o kb (KS.new fs ts x.fs)) (rat_o rb (KS.new fs ts x.fs)) HK3.out (fun j e _ => (by have e2 : w2.heap.size ≤ j := e; omega : w.heap.size ≤ j)) (fun j e _ => (by omega : w.heap.size ≤ j)) HB35.out HR5.out) (kat_o _ _) (rat_o _ _) HT6.out hQ)
      have HTw6 := hide ((Turned.of_below (S := fun k => k = mb) HBw5.out).trans HT6.out (fun _ _ e => e))
      have HNn := new_nums fs ts x.fs
      have hok := HK3.out.ok
      have HNm0 := hide hok.2
      have HKo := hide (And.intro (pinv_open (pinv_new fs ts x.fs (new_de fs ts x.fs)) hok.1 hok.2 ⟨#[102]⟩ fl) HNn)
      have hz6 := HTw6.out.size
      clear HK3 HR5 HT6 hok
      generalize hK0 : KS.new fs ts x.fs = K0 at *
      have HK0 := hide hK0
      clear hK0
      obtain ⟨O, h1, h2, h3, -⟩ := HBo.out.one (rat_o _ _)
      have HOp := hide (KAt.open h1 ⟨#[102]⟩ fl (show (1 : Nat) ≤ maxLen by decide) (by have := HNn.1; omega))
      have H3 := hide h3
      clear h1 h2 h3
      go_wp2_with fail
      refine HOp.out.mono ?_
      rintro _ w7 ⟨rfl, hS7⟩
      obtain ⟨hb7, hT7⟩ := H3.out (fun w O => KAt w O kb (K0.open ⟨#[102]⟩ fl).2.2) w6 w7 (Below.refl _ _) (kat_o _ _) hS7
      have hz7 := hT7.size
      have HM7 := hide ((hT7.block mb (by omega) (fun e => by omega)).trans HM6.out)
      have HTw7 := hide (HTw6.out.trans hT7 (fun k hk e => absurd e (by omega)))
      have HB7 := hide hb7
      clear hS7 hT7 hb7 HOp H3 HBo HM6 HTw6
      obtain ⟨P, g1, g2, g3, -⟩ := HB7.out.two (kat_o _ _)
      have HOp := hide (RAt.open g1 ⟨#[102]⟩ fl HNm0.out (show (1 : Nat) ≤ maxLen by decide) (by have := HNn.1; omega) (by have := HNn.1; omega))
      have H3 := hide g3
      have m6 := cell_of_row w7 mb 6 _ _ _ HM7.out
      simp at m6
      clear g1 g2 g3
      go_wp2_with fail
      refine HOp.out.mono ?_
      rintro _ w8 ⟨rfl, hS8⟩
      obtain ⟨hb8, hT8⟩ := H3.out (fun w O => RAt w O rb (K0.open ⟨#[102]⟩ fl).2.2) w7 w8 (Below.refl _ _) (rat_o _ _) hS8
      have hz8 := hT8.size
      have HM8 := hide ((hT8.block mb (by omega) (fun e => by rcases e with e | e <;> omega)).trans HM7.out)
      have HTw8 := hide (HTw7.out.trans hT8 (fun k hk e => absurd e (by rintro (e | e) <;> omega)))
      have HB8 := hide hb8
      clear hS8 hT8 hb8 HOp H3 HB7 HM7 HTw7 m6
      obtain ⟨d, hd⟩ : ∃ d, d = (K0.open ⟨#[102]⟩ fl).1 := ⟨_, rfl⟩
      obtain ⟨E, hE⟩ : ∃ E, E = (K0.open ⟨#[102]⟩ fl).2.1 := ⟨_, rfl⟩
      obtain ⟨K1, hK1⟩ : ∃ K1, K1 = (K0.open ⟨#[102]⟩ fl).2.2 := ⟨_, rfl⟩
      rw [← hK1] at HB8
      rw [← hd, ← hE]
      have HDe := hide (And.intro hd (And.intro hE hK1))
      clear hd hE hK1
      by_cases he : E = 0
      case neg =>
        have he2 : (E == 0) = false := by simpa using he
        have he3 : (E != 0) = true := by simpa using he
        go_wp2
        go_ret
        exact ⟨HTw8.out, .inl rfl⟩
      have HEe := hide he
      subst he
      have m6 := cell_of_row w8 mb 6 _ _ _ HM8.out
      simp at m6
      go_wp2_with fail
      refine (of_any rb d w8).mono ?_
      rintro _ w9 ⟨rfl, hG9, hB9⟩
      have hz9 := hB9.size
      have hM9 := (hB9.block mb (by omega)).trans HM8.out
      have hg9 : w8.heap.size < w9.heap.size := (Array.getElem?_eq_some_iff.1 hG9).1
      have m0 := cell_of_row w9 mb 0 _ _ _ hM9
      have f0 := frozen_of_row w9 mb 0 _ _ hM9
      have e0 := Go.heap_setCell_same w9 mb 0 _ _ (.iface 300 (.agg #[.pointer (some ⟨kb, 0, none⟩), .int .i64 d])) hM9
      have m1 := cell_of_row _ mb 1 _ _ _ e0
      have f1 := frozen_of_row _ mb 1 _ _ e0
      have m10 := cell_of_row w9 mb 1 _ _ _ hM9
      have f10 := frozen_of_row w9 mb 1 _ _ hM9
      have e1 := Go.heap_setCell_same _ mb 1 _ _ (.pointer (some ⟨w8.heap.size, 0, none⟩)) e0
      simp at m0 m1 m10
      simp only [List.setIfInBounds_toArray, List.set_cons_zero, List.set_cons_succ] at e1
      have hT10 : Turned (fun k => k = mb) w9 ((w9.setCell ⟨mb, 0, none⟩ (.iface 300 (.agg #[.pointer (some ⟨kb, 0, none⟩), .int .i64 d]))).setCell ⟨mb, 1, none⟩ (.pointer (some ⟨w8.heap.size, 0, none⟩))) := ((Turned.refl (fun k => k = mb) w9).set (.inl rfl)).set (.inl rfl)
      have hB89 : Both (fun w O => KAt w O kb K1) (fun w O => RwS w8.heap.size rb d w O K1) w9 (fun j => w.heap.size ≤ j) := by
        obtain ⟨O', P', b1, b2, b3, b4⟩ := HB8.out
        have hq : ∀ j, (((fun j => w.heap.size ≤ j) j ∨ w6.heap.size ≤ j) ∨ w7.heap.size ≤ j) → w.heap.size ≤ j := fun j e => by
          rcases e with (e | e) | e
          · exact e
          · omega
          · omega
        refine ⟨O', fun k => P' k ∨ k = w8.heap.size, (kat_o _ _).keep b1 (fun j _ hl => hB9.block j hl) hz9, ⟨P', 0, hG9, (rat_o _ _).keep b2 (fun j _ hl => hB9.block j hl) hz9, fun k e => .inl e, .inr rfl, fun e => by have := (b4 _ e).2; omega⟩, fun j e => ⟨hq j (b3 j e).1, by have := (b3 j e).2.1; omega, fun e' => ?_⟩, fun j e => ?_⟩
        · rcases e' with e' | e'
          · exact (b3 j e).2.2 e'
          · have := (b3 j e).2.1; omega
        · rcases e with e | e
          · exact ⟨hq j (b4 j e).1, by have := (b4 j e).2; omega⟩
          · exact ⟨by omega, by omega⟩
      have HF := hide (Both.turned hB89 (kat_o _ _) (rws_o _ _ _ _) hT10 hQ)
      have HMf := hide e1
      have HTf := hide ((HTw8.out.trans (Turned.of_below (S := fun k => k = mb) hB9) (fun _ _ e => e)).trans hT10 (fun _ _ e => e))
      have HG9 := hide hG9
      clear hB9 hM9 e0 e1 hT10 hB89 hG9 m6
      go_wp2
      go_ret
      obtain ⟨q1, q2, q3⟩ := HEq.out
      obtain ⟨r1, r2, r3⟩ := HDe.out
      unfold KernOut
      rw [← q1, ← q2, ← q3, HK0.out]
      exact ⟨HTf.out, .inr ⟨kb, rb, w8.heap.size, rfl, HE.out, r2.symm, by rw [← r1]; exact HMf.out, by rw [← r1, ← r3]; exact HF.out⟩⟩
end Go.Proofs.YtanbiinomagdbaaGreat

/- Plant.Make, of a kernel's file or terminal. -/
namespace Go.Proofs.YtanbiinomagdbaaGreat
open Go.RowKit Go.Maps

def kmD (x : Plt) (tm : Bool) : Int := ((KS.new (kfs x tm) (kts x tm) x.fs).open ⟨#[102]⟩ (kfl x)).1
def kmK (x : Plt) (tm : Bool) : KS := ((KS.new (kfs x tm) (kts x tm) x.fs).open ⟨#[102]⟩ (kfl x)).2.2
def MkrAt (mb kb rb g : Nat) (d : Int) (W : World) : Prop := W.heap[mb]? = some (.cells #[.iface 300 (.agg #[.pointer (some ⟨kb, 0, none⟩), .int .i64 d]), .pointer (some ⟨g, 0, none⟩), .pointer none, .pointer none, .pointer none, .pointer (some ⟨kb, 0, none⟩), .pointer (some ⟨rb, 0, none⟩)] 65)
def MakeKer (x : Plt) (tm : Bool) (w : World) (e : Ending) (w' : World) : Prop := Below w.heap.size w w' ∧ ((∃ p, e = .returned (.tuple #[.pointer p, .bool false])) ∨
  ∃ mb kb rb g : Nat, w.heap.size ≤ mb ∧ e = .returned (.tuple #[.pointer (some ⟨mb, 0, none⟩), .bool true]) ∧ checkE (kfs x tm) (kts x tm) x.fs = 0 ∧ ((KS.new (kfs x tm) (kts x tm) x.fs).open ⟨#[102]⟩ (kfl x)).2.1 = 0 ∧ MkrAt mb kb rb g (kmD x tm) w' ∧ PP (fun K w O => KAt w O kb K) (fun K w O => RwS g rb (kmD x tm) w O K) ((kmK x tm).seek (kmD x tm) x.place 0).2.2 (mb + 1) w')
theorem km_open {K : KS} (h : K.next < 9223372036854775807) (s : ByteArray) (f : Int) : I64 (K.open s f).1 := by
  have h0 : I64 0 := ⟨by decide, by decide⟩
  have h1 : I64 (K.next : Int) := ⟨by omega, by omega⟩
  unfold KS.open
  repeat' split
  all_goals first | exact h0 | exact h1
theorem km_i64 (x : Plt) (tm : Bool) : I64 (kmD x tm) := by
  have hn := (new_nums (kfs x tm) (kts x tm) x.fs).1
  exact km_open (by omega) _ _
set_option maxRecDepth 100000 in
set_option maxHeartbeats 8000000 in
theorem make_kernel (x : Plt) (dv rv wv fv lv : Value) (w : World) (tm : Bool) (h : PltIn w x dv rv wv fv lv) (hk : x.k6 = if tm = true then 5 else 4) (zf : x.fs.length * 16 ≤ 140737488351232) (zl : x.lines.length * 24 ≤ 140737488351232) (hp : I64 x.place) :
    Calls Tryz.prog 18 #[.agg #[.int .i64 x.kind, .int .i64 x.size, dv, rv, wv, fv, lv, .int .i64 x.place, .bool x.app]] w (MakeKer x tm w) := by
  have HP := hide (pl_new w x dv rv wv fv lv h)
  obtain ⟨da, dc, rfl, -⟩ := h.d
  obtain ⟨ra, rc, rfl, -⟩ := h.r
  obtain ⟨wa, wc, rfl⟩ := h.w.form
  obtain ⟨fa, fc, rfl, -⟩ := h.f.form
  obtain ⟨la, lc, rfl, -⟩ := RowsR.form h.l
  unfold Plt.k6 at hk
  clear h
  cases tm
  case false =>
    simp only [Bool.false_eq_true, if_false] at hk
    go_enter Tryz.func18, Tryz.ntmps18
    go_wp2_with fail
    have hz1 : (w.alloc (Obj.cells #[.int .i64 x.kind, .int .i64 x.size, .slice da x.data.length dc, .slice ra x.reads.length rc, .slice wa x.writes.length wc, .slice fa x.fs.length fc, .slice la x.lines.length lc, .int .i64 x.place, .bool x.app] 50)).heap.size = w.heap.size + 1 := Array.size_push _
    have hz0 : ((w.alloc (Obj.cells #[.int .i64 x.kind, .int .i64 x.size, .slice da x.data.length dc, .slice ra x.reads.length rc, .slice wa x.writes.length wc, .slice fa x.fs.length fc, .slice la x.lines.length lc, .int .i64 x.place, .bool x.app] 50)).alloc (Obj.cells mdZ 65)).heap.size = w.heap.size + 1 + 1 := (Array.size_push _).trans (by rw [show (w.alloc (Obj.cells #[.int .i64 x.kind, .int .i64 x.size, .slice da x.data.length dc, .slice ra x.reads.length rc, .slice wa x.writes.length wc, .slice fa x.fs.length fc, .slice la x.lines.length lc, .int .i64 x.place, .bool x.app] 50)).heap.size = w.heap.size + 1 from hz1])
    have HB0 := hide ((recv4 w (Obj.cells #[.int .i64 x.kind, .int .i64 x.size, .slice da x.data.length dc, .slice ra x.reads.length rc, .slice wa x.writes.length wc, .slice fa x.fs.length fc, .slice la x.lines.length lc, .int .i64 x.place, .bool x.app] 50)).trans ((recv4 (w.alloc (Obj.cells #[.int .i64 x.kind, .int .i64 x.size, .slice da x.data.length dc, .slice ra x.reads.length rc, .slice wa x.writes.length wc, .slice fa x.fs.length fc, .slice la x.lines.length lc, .int .i64 x.place, .bool x.app] 50)) (Obj.cells mdZ 65)).mono (recv4 w (Obj.cells #[.int .i64 x.kind, .int .i64 x.size, .slice da x.data.length dc, .slice ra x.reads.length rc, .slice wa x.writes.length wc, .slice fa x.fs.length fc, .slice la x.lines.length lc, .int .i64 x.place, .bool x.app] 50)).size))
    have hq : ((w.alloc (Obj.cells #[.int .i64 x.kind, .int .i64 x.size, .slice da x.data.length dc, .slice ra x.reads.length rc, .slice wa x.writes.length wc, .slice fa x.fs.length fc, .slice la x.lines.length lc, .int .i64 x.place, .bool x.app] 50)).alloc (Obj.cells mdZ 65)).heap[w.heap.size]? = some (Obj.cells #[.int .i64 x.kind, .int .i64 x.size, .slice da x.data.length dc, .slice ra x.reads.length rc, .slice wa x.writes.length wc, .slice fa x.fs.length fc, .slice la x.lines.length lc, .int .i64 x.place, .bool x.app] 50) := ((recv4 (w.alloc (Obj.cells #[.int .i64 x.kind, .int .i64 x.size, .slice da x.data.length dc, .slice ra x.reads.length rc, .slice wa x.writes.length wc, .slice fa x.fs.length fc, .slice la x.lines.length lc, .int .i64 x.place, .bool x.app] 50)) (Obj.cells mdZ 65)).block w.heap.size (by omega)).trans (heap_alloc_new w (Obj.cells #[.int .i64 x.kind, .int .i64 x.size, .slice da x.data.length dc, .slice ra x.reads.length rc, .slice wa x.writes.length wc, .slice fa x.fs.length fc, .slice la x.lines.length lc, .int .i64 x.place, .bool x.app] 50))
    have hm0 : ((w.alloc (Obj.cells #[.int .i64 x.kind, .int .i64 x.size, .slice da x.data.length dc, .slice ra x.reads.length rc, .slice wa x.writes.length wc, .slice fa x.fs.length fc, .slice la x.lines.length lc, .int .i64 x.place, .bool x.app] 50)).alloc (Obj.cells mdZ 65)).heap[w.heap.size + 1]? = some (Obj.cells mdZ 65) := by
      have := heap_alloc_new (w.alloc (Obj.cells #[.int .i64 x.kind, .int .i64 x.size, .slice da x.data.length dc, .slice ra x.reads.length rc, .slice wa x.writes.length wc, .slice fa x.fs.length fc, .slice la x.lines.length lc, .int .i64 x.place, .bool x.app] 50)) (Obj.cells mdZ 65)
      rwa [hz1] at this
    have HQ := hide (And.intro hq hm0)
    unfold mdZ at HQ HB0 hz0
    generalize ((w.alloc (Obj.cells #[.int .i64 x.kind, .int .i64 x.size, .slice da x.data.length dc, .slice ra x.reads.length rc, .slice wa x.writes.length wc, .slice fa x.fs.length fc, .slice la x.lines.length lc, .int .i64 x.place, .bool x.app] 50)).alloc (Obj.cells #[.nilIface, .pointer none, .pointer none, .pointer none, .pointer none, .pointer none, .pointer none] 65)) = W0 at *
    clear hq hm0 hz1
    obtain ⟨mb, hmb⟩ : ∃ mb, mb = w.heap.size + 1 := ⟨_, rfl⟩
    rw [← hmb] at hz0 HQ
    simp only [← hmb]
    have hwm : w.heap.size < mb := by omega
    clear hmb
    refine (mkern_any x _ _ _ _ _ mb false W0 (HP.out _ HB0.out) HQ.out.2 zf zl).mono ?_
    rintro _ w1 ⟨hT1, h1⟩
    have HB1 := hide (HB0.out.trans (hT1.below (B := w.heap.size) (fun k e => by have e2 : k = mb := e; omega) HB0.out.size))
    have l1 := (hT1.block w.heap.size (by omega) (by show ¬ w.heap.size = mb; omega)).trans HQ.out.1
    have p7 : w1.cell? ⟨w.heap.size, 7, none⟩ = some (.int .i64 x.place) := cell_of_row w1 w.heap.size 7 _ _ _ l1
    clear hT1 HQ
    rcases h1 with rfl | ⟨kb, rb, g, rfl, hE, hO, hM, hBo⟩
    · go_wp2
      go_ret2
      exact ⟨HB1.out, .inl ⟨_, rfl⟩⟩
    change w1.heap[mb]? = some (.cells #[.iface 300 (.agg #[.pointer (some ⟨kb, 0, none⟩), .int .i64 (kmD x false)]), .pointer (some ⟨g, 0, none⟩), .pointer none, .pointer none, .pointer none, .pointer (some ⟨kb, 0, none⟩), .pointer (some ⟨rb, 0, none⟩)] 65) at hM
    change Both (fun w O => KAt w O kb (kmK x false)) (fun w O => RwS g rb (kmD x false) w O (kmK x false)) w1 (fun j => W0.heap.size ≤ j) at hBo
    have HPP : Hid (PP (fun K w O => KAt w O kb K) (fun K w O => RwS g rb (kmD x false) w O K) (kmK x false) (mb + 1) w1) := hide (by
      rw [hz0] at hBo
      exact hBo)
    have hd := km_i64 x false
    obtain ⟨d, hde⟩ : ∃ d, d = kmD x false := ⟨_, rfl⟩
    rw [← hde] at hM HPP hd
    have HDe := hide hde
    clear hBo hde
    have hm3 : ∀ w, (method 480 300 (.agg #[.pointer (some ⟨kb, 0, none⟩), .int .i64 d]) "Seek").run Tryz.prog w = .ok (322, (.agg #[.pointer (some ⟨kb, 0, none⟩), .int .i64 d])) w := fun w => by kernel_rfl
    have hc3 : ∀ a w, (callFunc 322 a).run Tryz.prog w = .ok (.enter 322 a) w := fun a w => by kernel_rfl
    have m0 : w1.cell? ⟨mb, 0, none⟩ = some (.iface 300 (.agg #[.pointer (some ⟨kb, 0, none⟩), .int .i64 d])) := cell_of_row w1 mb 0 _ _ _ hM
    have m1 : w1.cell? ⟨mb, 1, none⟩ = some (.pointer (some ⟨g, 0, none⟩)) := cell_of_row w1 mb 1 _ _ _ hM
    have hml : mb < w1.heap.size := World.block_lt_of_cell? w1 _ m0
    have HC := hide (pk_num (fun K => kat_o _ _) (fun K => rws_o _ _ _ _) (A := fun K w O => KAt w O kb K) (B := fun K w O => RwS g rb d w O K) HPP.out (by omega) (s' := ((kmK x false).seek d x.place 0).2.2) (fun O wb hA _ _ => (hA.hseek d x.place 0 hd hp).mono fun e w' ⟨h1, h2⟩ => ⟨h1, h2⟩) (fun O wb hA _ _ => (rwseek_any g rb d x.place 0 _ _ _ hA).mono fun e w' ⟨h1, h2⟩ => ⟨h1, h2⟩))
    have HS := hide (fun (W' : World) (hT : Turned (fun j => mb + 1 ≤ j) w1 W') => (show (W'.cell? ⟨mb, 0, none⟩ = some (.iface 300 (.agg #[.pointer (some ⟨kb, 0, none⟩), .int .i64 d])) ∧ W'.cell? ⟨mb, 1, none⟩ = some (.pointer (some ⟨g, 0, none⟩)) ∧ W'.cell? ⟨w.heap.size, 7, none⟩ = some (.int .i64 x.place)) ∧ W'.heap[mb]? = w1.heap[mb]? from
      ⟨⟨hT.cell m0 (by show ¬ mb + 1 ≤ mb; omega), hT.cell m1 (by show ¬ mb + 1 ≤ mb; omega), hT.cell p7 (by show ¬ mb + 1 ≤ w.heap.size; omega)⟩, hT.block mb hml (by show ¬ mb + 1 ≤ mb; omega)⟩))
    have HMd := hide hM
    have HX : Hid (((kmK x false).seek d x.place 0).2.2 = ((kmK x false).seek (kmD x false) x.place 0).2.2) := hide (by rw [HDe.out])
    generalize (kmK x false).seek d x.place 0 = X at *
    obtain ⟨N, E, s2⟩ := X
    simp only at *
    go_wp2_with fail
    go_region_held3 (fun w' => w'.cell? ⟨mb, 0, none⟩ = some (.iface 300 (.agg #[.pointer (some ⟨kb, 0, none⟩), .int .i64 d])) ∧ w'.cell? ⟨w.heap.size, 7, none⟩ = some (.int .i64 x.place))
      (first | exact K4 | exact ⟨m0, p7⟩ | go_keep)
      (first
        | (refine (HC.out _ (Below.refl _ _).drew).mono ?_; rintro _ w4 ⟨rfl, -, hT4, hC4⟩; have K4 : w4.cell? ⟨mb, 0, none⟩ = some (.iface 300 (.agg #[.pointer (some ⟨kb, 0, none⟩), .int .i64 d])) ∧ w4.cell? ⟨w.heap.size, 7, none⟩ = some (.int .i64 x.place) := ⟨(HS.out w4 hT4).1.1, (HS.out w4 hT4).1.2.2⟩; have HT4 := hide hT4; have HC4 := hide hC4; clear hT4 hC4)
        | fail)
    have n1 := (HS.out w4 HT4.out).1.2.1
    have n2 := K4.2
    clear K4 HC
    go_wp2_with fail
    go_region_held3 (fun w' => w'.cell? ⟨mb, 1, none⟩ = some (.pointer (some ⟨g, 0, none⟩)) ∧ w'.cell? ⟨w.heap.size, 7, none⟩ = some (.int .i64 x.place))
      (first | exact K6 | exact ⟨n1, n2⟩ | go_keep)
      (first
        | (go_at_call 27; refine (HC4.out _ (Below.refl _ _).drew).mono ?_; rintro _ w6 ⟨rfl, HN6, -, hT6⟩; have K6 : w6.cell? ⟨mb, 1, none⟩ = some (.pointer (some ⟨g, 0, none⟩)) ∧ w6.cell? ⟨w.heap.size, 7, none⟩ = some (.int .i64 x.place) := ⟨(HS.out w6 hT6).1.2.1, (HS.out w6 hT6).1.2.2⟩; have HT6 := hide hT6; clear hT6)
        | fail)
    clear K6 n1 n2 HC4
    go_wp2
    go_ret2
    refine ⟨HB1.out.trans (HT6.out.below (fun j e => by have e2 : mb + 1 ≤ j := e; omega) HB1.out.size), .inr ⟨mb, kb, rb, g, by omega, rfl, hE, hO, ?_, ?_⟩⟩
    · rw [← HDe.out]
      exact (HS.out w6 HT6.out).2.trans HMd.out
    · rw [← HX.out, ← HDe.out]
      exact HN6.out
  case true =>
    simp only [if_true] at hk
    go_enter Tryz.func18, Tryz.ntmps18
    go_wp2_with fail
    have hz1 : (w.alloc (Obj.cells #[.int .i64 x.kind, .int .i64 x.size, .slice da x.data.length dc, .slice ra x.reads.length rc, .slice wa x.writes.length wc, .slice fa x.fs.length fc, .slice la x.lines.length lc, .int .i64 x.place, .bool x.app] 50)).heap.size = w.heap.size + 1 := Array.size_push _
    have hz0 : ((w.alloc (Obj.cells #[.int .i64 x.kind, .int .i64 x.size, .slice da x.data.length dc, .slice ra x.reads.length rc, .slice wa x.writes.length wc, .slice fa x.fs.length fc, .slice la x.lines.length lc, .int .i64 x.place, .bool x.app] 50)).alloc (Obj.cells mdZ 65)).heap.size = w.heap.size + 1 + 1 := (Array.size_push _).trans (by rw [show (w.alloc (Obj.cells #[.int .i64 x.kind, .int .i64 x.size, .slice da x.data.length dc, .slice ra x.reads.length rc, .slice wa x.writes.length wc, .slice fa x.fs.length fc, .slice la x.lines.length lc, .int .i64 x.place, .bool x.app] 50)).heap.size = w.heap.size + 1 from hz1])
    have HB0 := hide ((recv4 w (Obj.cells #[.int .i64 x.kind, .int .i64 x.size, .slice da x.data.length dc, .slice ra x.reads.length rc, .slice wa x.writes.length wc, .slice fa x.fs.length fc, .slice la x.lines.length lc, .int .i64 x.place, .bool x.app] 50)).trans ((recv4 (w.alloc (Obj.cells #[.int .i64 x.kind, .int .i64 x.size, .slice da x.data.length dc, .slice ra x.reads.length rc, .slice wa x.writes.length wc, .slice fa x.fs.length fc, .slice la x.lines.length lc, .int .i64 x.place, .bool x.app] 50)) (Obj.cells mdZ 65)).mono (recv4 w (Obj.cells #[.int .i64 x.kind, .int .i64 x.size, .slice da x.data.length dc, .slice ra x.reads.length rc, .slice wa x.writes.length wc, .slice fa x.fs.length fc, .slice la x.lines.length lc, .int .i64 x.place, .bool x.app] 50)).size))
    have hq : ((w.alloc (Obj.cells #[.int .i64 x.kind, .int .i64 x.size, .slice da x.data.length dc, .slice ra x.reads.length rc, .slice wa x.writes.length wc, .slice fa x.fs.length fc, .slice la x.lines.length lc, .int .i64 x.place, .bool x.app] 50)).alloc (Obj.cells mdZ 65)).heap[w.heap.size]? = some (Obj.cells #[.int .i64 x.kind, .int .i64 x.size, .slice da x.data.length dc, .slice ra x.reads.length rc, .slice wa x.writes.length wc, .slice fa x.fs.length fc, .slice la x.lines.length lc, .int .i64 x.place, .bool x.app] 50) := ((recv4 (w.alloc (Obj.cells #[.int .i64 x.kind, .int .i64 x.size, .slice da x.data.length dc, .slice ra x.reads.length rc, .slice wa x.writes.length wc, .slice fa x.fs.length fc, .slice la x.lines.length lc, .int .i64 x.place, .bool x.app] 50)) (Obj.cells mdZ 65)).block w.heap.size (by omega)).trans (heap_alloc_new w (Obj.cells #[.int .i64 x.kind, .int .i64 x.size, .slice da x.data.length dc, .slice ra x.reads.length rc, .slice wa x.writes.length wc, .slice fa x.fs.length fc, .slice la x.lines.length lc, .int .i64 x.place, .bool x.app] 50))
    have hm0 : ((w.alloc (Obj.cells #[.int .i64 x.kind, .int .i64 x.size, .slice da x.data.length dc, .slice ra x.reads.length rc, .slice wa x.writes.length wc, .slice fa x.fs.length fc, .slice la x.lines.length lc, .int .i64 x.place, .bool x.app] 50)).alloc (Obj.cells mdZ 65)).heap[w.heap.size + 1]? = some (Obj.cells mdZ 65) := by
      have := heap_alloc_new (w.alloc (Obj.cells #[.int .i64 x.kind, .int .i64 x.size, .slice da x.data.length dc, .slice ra x.reads.length rc, .slice wa x.writes.length wc, .slice fa x.fs.length fc, .slice la x.lines.length lc, .int .i64 x.place, .bool x.app] 50)) (Obj.cells mdZ 65)
      rwa [hz1] at this
    have HQ := hide (And.intro hq hm0)
    unfold mdZ at HQ HB0 hz0
    generalize ((w.alloc (Obj.cells #[.int .i64 x.kind, .int .i64 x.size, .slice da x.data.length dc, .slice ra x.reads.length rc, .slice wa x.writes.length wc, .slice fa x.fs.length fc, .slice la x.lines.length lc, .int .i64 x.place, .bool x.app] 50)).alloc (Obj.cells #[.nilIface, .pointer none, .pointer none, .pointer none, .pointer none, .pointer none, .pointer none] 65)) = W0 at *
    clear hq hm0 hz1
    obtain ⟨mb, hmb⟩ : ∃ mb, mb = w.heap.size + 1 := ⟨_, rfl⟩
    rw [← hmb] at hz0 HQ
    simp only [← hmb]
    have hwm : w.heap.size < mb := by omega
    clear hmb
    refine (mkern_any x _ _ _ _ _ mb true W0 (HP.out _ HB0.out) HQ.out.2 zf zl).mono ?_
    rintro _ w1 ⟨hT1, h1⟩
    have HB1 := hide (HB0.out.trans (hT1.below (B := w.heap.size) (fun k e => by have e2 : k = mb := e; omega) HB0.out.size))
    have l1 := (hT1.block w.heap.size (by omega) (by show ¬ w.heap.size = mb; omega)).trans HQ.out.1
    have p7 : w1.cell? ⟨w.heap.size, 7, none⟩ = some (.int .i64 x.place) := cell_of_row w1 w.heap.size 7 _ _ _ l1
    clear hT1 HQ
    rcases h1 with rfl | ⟨kb, rb, g, rfl, hE, hO, hM, hBo⟩
    · go_wp2
      go_ret2
      exact ⟨HB1.out, .inl ⟨_, rfl⟩⟩
    change w1.heap[mb]? = some (.cells #[.iface 300 (.agg #[.pointer (some ⟨kb, 0, none⟩), .int .i64 (kmD x true)]), .pointer (some ⟨g, 0, none⟩), .pointer none, .pointer none, .pointer none, .pointer (some ⟨kb, 0, none⟩), .pointer (some ⟨rb, 0, none⟩)] 65) at hM
    change Both (fun w O => KAt w O kb (kmK x true)) (fun w O => RwS g rb (kmD x true) w O (kmK x true)) w1 (fun j => W0.heap.size ≤ j) at hBo
    have HPP : Hid (PP (fun K w O => KAt w O kb K) (fun K w O => RwS g rb (kmD x true) w O K) (kmK x true) (mb + 1) w1) := hide (by
      rw [hz0] at hBo
      exact hBo)
    have hd := km_i64 x true
    obtain ⟨d, hde⟩ : ∃ d, d = kmD x true := ⟨_, rfl⟩
    rw [← hde] at hM HPP hd
    have HDe := hide hde
    clear hBo hde
    have hm3 : ∀ w, (method 480 300 (.agg #[.pointer (some ⟨kb, 0, none⟩), .int .i64 d]) "Seek").run Tryz.prog w = .ok (322, (.agg #[.pointer (some ⟨kb, 0, none⟩), .int .i64 d])) w := fun w => by kernel_rfl
    have hc3 : ∀ a w, (callFunc 322 a).run Tryz.prog w = .ok (.enter 322 a) w := fun a w => by kernel_rfl
    have m0 : w1.cell? ⟨mb, 0, none⟩ = some (.iface 300 (.agg #[.pointer (some ⟨kb, 0, none⟩), .int .i64 d])) := cell_of_row w1 mb 0 _ _ _ hM
    have m1 : w1.cell? ⟨mb, 1, none⟩ = some (.pointer (some ⟨g, 0, none⟩)) := cell_of_row w1 mb 1 _ _ _ hM
    have hml : mb < w1.heap.size := World.block_lt_of_cell? w1 _ m0
    have HC := hide (pk_num (fun K => kat_o _ _) (fun K => rws_o _ _ _ _) (A := fun K w O => KAt w O kb K) (B := fun K w O => RwS g rb d w O K) HPP.out (by omega) (s' := ((kmK x true).seek d x.place 0).2.2) (fun O wb hA _ _ => (hA.hseek d x.place 0 hd hp).mono fun e w' ⟨h1, h2⟩ => ⟨h1, h2⟩) (fun O wb hA _ _ => (rwseek_any g rb d x.place 0 _ _ _ hA).mono fun e w' ⟨h1, h2⟩ => ⟨h1, h2⟩))
    have HS := hide (fun (W' : World) (hT : Turned (fun j => mb + 1 ≤ j) w1 W') => (show (W'.cell? ⟨mb, 0, none⟩ = some (.iface 300 (.agg #[.pointer (some ⟨kb, 0, none⟩), .int .i64 d])) ∧ W'.cell? ⟨mb, 1, none⟩ = some (.pointer (some ⟨g, 0, none⟩)) ∧ W'.cell? ⟨w.heap.size, 7, none⟩ = some (.int .i64 x.place)) ∧ W'.heap[mb]? = w1.heap[mb]? from
      ⟨⟨hT.cell m0 (by show ¬ mb + 1 ≤ mb; omega), hT.cell m1 (by show ¬ mb + 1 ≤ mb; omega), hT.cell p7 (by show ¬ mb + 1 ≤ w.heap.size; omega)⟩, hT.block mb hml (by show ¬ mb + 1 ≤ mb; omega)⟩))
    have HMd := hide hM
    have HX : Hid (((kmK x true).seek d x.place 0).2.2 = ((kmK x true).seek (kmD x true) x.place 0).2.2) := hide (by rw [HDe.out])
    generalize (kmK x true).seek d x.place 0 = X at *
    obtain ⟨N, E, s2⟩ := X
    simp only at *
    go_wp2_with fail
    go_region_held3 (fun w' => w'.cell? ⟨mb, 0, none⟩ = some (.iface 300 (.agg #[.pointer (some ⟨kb, 0, none⟩), .int .i64 d])) ∧ w'.cell? ⟨w.heap.size, 7, none⟩ = some (.int .i64 x.place))
      (first | exact K4 | exact ⟨m0, p7⟩ | go_keep)
      (first
        | (refine (HC.out _ (Below.refl _ _).drew).mono ?_; rintro _ w4 ⟨rfl, -, hT4, hC4⟩; have K4 : w4.cell? ⟨mb, 0, none⟩ = some (.iface 300 (.agg #[.pointer (some ⟨kb, 0, none⟩), .int .i64 d])) ∧ w4.cell? ⟨w.heap.size, 7, none⟩ = some (.int .i64 x.place) := ⟨(HS.out w4 hT4).1.1, (HS.out w4 hT4).1.2.2⟩; have HT4 := hide hT4; have HC4 := hide hC4; clear hT4 hC4)
        | fail)
    have n1 := (HS.out w4 HT4.out).1.2.1
    have n2 := K4.2
    clear K4 HC
    go_wp2_with fail
    go_region_held3 (fun w' => w'.cell? ⟨mb, 1, none⟩ = some (.pointer (some ⟨g, 0, none⟩)) ∧ w'.cell? ⟨w.heap.size, 7, none⟩ = some (.int .i64 x.place))
      (first | exact K6 | exact ⟨n1, n2⟩ | go_keep)
      (first
        | (go_at_call 27; refine (HC4.out _ (Below.refl _ _).drew).mono ?_; rintro _ w6 ⟨rfl, HN6, -, hT6⟩; have K6 : w6.cell? ⟨mb, 1, none⟩ = some (.pointer (some ⟨g, 0, none⟩)) ∧ w6.cell? ⟨w.heap.size, 7, none⟩ = some (.int .i64 x.place) := ⟨(HS.out w6 hT6).1.2.1, (HS.out w6 hT6).1.2.2⟩; have HT6 := hide hT6; clear hT6)
        | fail)
    clear K6 n1 n2 HC4
    go_wp2
    go_ret2
    refine ⟨HB1.out.trans (HT6.out.below (fun j e => by have e2 : mb + 1 ≤ j := e; omega) HB1.out.size), .inr ⟨mb, kb, rb, g, by omega, rfl, hE, hO, ?_, ?_⟩⟩
    · rw [← HDe.out]
      exact (HS.out w6 HT6.out).2.trans HMd.out
    · rw [← HX.out, ← HDe.out]
      exact HN6.out
end Go.Proofs.YtanbiinomagdbaaGreat

/- Made.Same over a kernel whose only name is 'f'. -/
namespace Go.Proofs.YtanbiinomagdbaaGreat
open Go.RowKit Go.Maps

def KSole (K : KS) : Prop := ∃ i, K.nm = [i] ∧ K.nameOf i = ⟨#[102]⟩
def MkCells (W : World) (mb kb rb : Nat) (K : KS) : Prop := W.cell? ⟨mb, 2, none⟩ = some (.pointer none) ∧ W.cell? ⟨mb, 3, none⟩ = some (.pointer none) ∧ W.cell? ⟨mb, 4, none⟩ = some (.pointer none) ∧ W.cell? ⟨mb, 5, none⟩ = some (.pointer (some ⟨kb, 0, none⟩)) ∧ W.cell? ⟨mb, 6, none⟩ = some (.pointer (some ⟨rb, 0, none⟩)) ∧ W.cell? ⟨rb, 4, none⟩ = some (.int .i64 K.reads) ∧ W.cell? ⟨rb, 5, none⟩ = some (.int .i64 K.writes)
set_option maxRecDepth 100000 in
set_option maxHeartbeats 8000000 in
theorem same_madeA {kb g rb mb : Nat} {d : Int} {w : World} {K : KS} (hB : Both (fun w O => KAt w O kb K) (fun w O => RwS g rb d w O K) w (fun j => mb < j)) (hM : MkrAt mb kb rb g d w) {i : Nat} (hnm : K.nm = [i]) (hnf : K.nameOf i = ⟨#[102]⟩) {ls : List (List UInt8)} {scr : List UInt8} (ht : K.obOf i = .term ls scr) :
    Calls Tryz.prog 28 #[.pointer (some ⟨mb, 0, none⟩)] w fun e w' => e = .returned (.bool true) ∧ Below w.heap.size w w' := by
  obtain ⟨O, P0, hK, ⟨P, c, -, hR, -, -, -⟩, hO, hPj⟩ := hB
  obtain ⟨pb, pv, -, -, m4, m5, -, -⟩ := hR.cells
  unfold MkrAt at hM
  have k2 := cell_of_row w mb 2 _ _ _ hM
  have k3 := cell_of_row w mb 3 _ _ _ hM
  have k4 := cell_of_row w mb 4 _ _ _ hM
  have k5 := cell_of_row w mb 5 _ _ _ hM
  have k6 := cell_of_row w mb 6 _ _ _ hM
  simp at k2 k3 k4 k5 k6
  have hmb : mb < w.heap.size := World.block_lt_of_cell? w _ k2
  have hrb : rb < w.heap.size := World.block_lt_of_cell? w _ m4
  have HMC : Hid (∀ w', Below w.heap.size w w' → MkCells w' mb kb rb K) := fun w' hb => ⟨(hb.cell (p := ⟨mb, 2, none⟩) hmb).trans k2, (hb.cell (p := ⟨mb, 3, none⟩) hmb).trans k3, (hb.cell (p := ⟨mb, 4, none⟩) hmb).trans k4, (hb.cell (p := ⟨mb, 5, none⟩) hmb).trans k5, (hb.cell (p := ⟨mb, 6, none⟩) hmb).trans k6, (hb.cell (p := ⟨rb, 4, none⟩) hrb).trans m4, (hb.cell (p := ⟨rb, 5, none⟩) hrb).trans m5⟩
  have HK := hide hK
  have HR := hide hR
  have HFo := hide (hK.files_ok)
  have HSo := hide (screens_ok hK hR)
  have H1 := hide hK.calls
  clear m4 m5 hK hR hO hPj hM hmb hrb
  have HSc : Hid (K.screens = [(⟨#[102]⟩, scr)]) := hide (by
    unfold KS.screens KS.tidx
    rw [hnm]
    simp [ht, Ob.kind, hnf, Ob.shown])
  go_enter Tryz.func28, Tryz.ntmps28
  go_wp2_with fail
  refine H1.out.mono ?_
  rintro e w1 ⟨rfl, hB1⟩
  have HB1 := hide hB1
  obtain ⟨c2, c3, c4, c5, c6, c7, c8⟩ := HMC.out w1 hB1
  have HSn := hide ((HK.out.below hB1).screen ⟨#[102]⟩ (by decide) i (by rw [hnm]; exact List.mem_singleton.2 rfl) hnf ls scr ht)
  clear hB1 H1 k2 k3 k4 k5 k6 c2 c3 c4
  go_wp2_with fail
  refine HSn.out.mono ?_
  rintro e w2 ⟨vS, rfl, hOT, hBT⟩
  have HB2 := hide (HB1.out.trans (hBT.mono HB1.out.size))
  clear c5 c6 c7 c8
  obtain ⟨c2, c3, c4, c5, c6, c7, c8⟩ := HMC.out w2 HB2.out
  have HYs := hide (Bys.of_owns hOT)
  obtain ⟨aT, cT, rfl⟩ := owns_slice hOT
  have HSs := hide ((HR.out.below HB2.out).screens)
  clear hOT hBT HB1 HSn c2 c3 c4
  go_wp2_with fail
  refine HSs.out.mono ?_
  rintro e w3 ⟨vL, us, rfl, hOS, hLS, hBS⟩
  have HB3 := hide (HB2.out.trans (hBS.mono HB2.out.size))
  have HY3 := hide (HYs.out.below hBS)
  obtain ⟨aS, cS, rfl⟩ := owns_slice hOS
  have hNS := nms_of_owns hOS hLS (fun j hj => by obtain ⟨_, _, _, _, h, _⟩ := HSo.out.2 j hj; exact h)
  have hsl : scr.length ≤ 1048576 := by
    obtain ⟨_, _, _, _, _, h⟩ := HSo.out.2 0 (by rw [HSc.out]; exact Nat.zero_lt_one)
    simpa [HSc.out] using h
  clear hOS hLS hBS HSs HYs c5 c6 c7 c8
  rw [HSc.out] at hNS
  obtain ⟨b, off, va, vc, hs, hbl, q0, q1, hby, hcap, hnz⟩ := hNS.at 0 Nat.zero_lt_one
  simp only [List.getElem_cons_zero, Nat.zero_mul, Nat.add_zero] at hs hbl q0 q1 hby hcap
  obtain ⟨c2, c3, c4, c5, c6, c7, c8⟩ := HMC.out w3 HB3.out
  have hone : K.screens.length = 1 := by rw [HSc.out]; rfl
  rw [hone]
  have hcb := World.block_lt_of_cell? w3 _ q1
  have HYr := hide hby
  have HKp : Hid (∀ W, Below w3.heap.size w3 W → W.cell? ⟨mb, 5, none⟩ = some (.pointer (some ⟨kb, 0, none⟩)) ∧ W.cell? ⟨mb, 6, none⟩ = some (.pointer (some ⟨rb, 0, none⟩)) ∧ W.cell? ⟨rb, 4, none⟩ = some (.int .i64 K.reads) ∧ W.cell? ⟨rb, 5, none⟩ = some (.int .i64 K.writes) ∧ W.cell? ⟨b, off + 1, none⟩ = some (.slice va scr.length vc)) := hide fun W hW => by
    obtain ⟨-, -, -, e5, e6, e7, e8⟩ := HMC.out W (HB3.out.trans (hW.mono HB3.out.size))
    exact ⟨e5, e6, e7, e8, (hW.cell (p := ⟨b, off + 1, none⟩) hcb).trans q1⟩
  clear hby hcap hnz hNS c2 c3 c4 q0 hbl
  cases hs
  go_wp2_with fail
  go_region_held3 (fun w' => w'.cell? ⟨mb, 5, none⟩ = some (.pointer (some ⟨kb, 0, none⟩)) ∧ w'.cell? ⟨mb, 6, none⟩ = some (.pointer (some ⟨rb, 0, none⟩)) ∧ w'.cell? ⟨rb, 4, none⟩ = some (.int .i64 K.reads) ∧ w'.cell? ⟨rb, 5, none⟩ = some (.int .i64 K.writes) ∧ w'.cell? ⟨b, off + 1, none⟩ = some (.slice va scr.length vc))
    (first | exact HKp.out _ hbB | exact HKp.out _ hbN | exact HKp.out _ hbG | exact HKp.out _ hbF | exact HKp.out _ (Below.refl _ _).drew | go_keep)
    (first
      | (go_at_call 71; refine ((HK.out.below (HB3.out.trans ((Below.refl _ _).drew.mono HB3.out.size))).files).mono ?_; rintro e wF ⟨vF, usF, rfl, hOF, hLF, hBF⟩; have hbF : Below w3.heap.size w3 wF := (Below.refl _ w3).drew.trans hBF; have hNF := nms_of_owns hOF hLF (fun j hj => (HFo.out.2 j hj).2); obtain ⟨aF, cF, rfl⟩ := owns_slice hOF)
      | (go_at_call 72; refine ((HR.out.below (HB3.out.trans (hbF.mono HB3.out.size))).files).mono ?_; rintro e wG ⟨vG, usG, rfl, hOG, hLG, hBG⟩; have hbG : Below w3.heap.size w3 wG := hbF.trans (hBG.mono hbF.size); have hNG := nms_of_owns hOG hLG (fun j hj => (HFo.out.2 j hj).2); obtain ⟨aG, cG, rfl⟩ := owns_slice hOG)
      | (go_at_call 70; refine (sameNamed_any _ _ K.files wG (hNF.below hBG) hNG (by have := HFo.out.1; unfold maxLen; omega) (fun j hj => by have := (HFo.out.2 j hj).1; unfold maxLen; omega)).mono ?_; rintro e wN ⟨rfl, hBN⟩; have hbN : Below w3.heap.size w3 wN := hbG.trans (hBN.mono hbG.size))
      | (go_at_call 22; refine (same_any _ _ scr wN (HY3.out.below hbN) (HYr.out.below hbN) (by unfold maxLen; omega)).mono ?_; rintro _ wB ⟨rfl, hBB⟩; have hbB : Below w3.heap.size w3 wB := hbN.trans (hBB.mono hbN.size))
      | fail)
  go_wp2
  go_ret
  exact ⟨rfl, HB3.out.trans (hbB.mono HB3.out.size)⟩
end Go.Proofs.YtanbiinomagdbaaGreat

/- A kernel with one name as a plant's kind; what Make makes of it. -/
namespace Go.Proofs.YtanbiinomagdbaaGreat
open Go.RowKit Go.Maps

theorem KSole.of {K K' : KS} (h : KSole K) (h1 : K'.nm = K.nm) (h2 : ∀ j, K'.nameOf j = K.nameOf j) : KSole K' := by
  obtain ⟨i, a, b⟩ := h
  exact ⟨i, h1.trans a, (h2 i).trans b⟩
theorem sole_setOb {K : KS} (h : KSole K) (i : Nat) (ob : Ob) : KSole (K.setOb i ob) := h.of rfl (fun j => KS.nameOf_setOb K i j ob)
theorem sole_setDe {K : KS} (h : KSole K) (x : De) : KSole (K.setDe x) := h.of rfl (fun _ => rfl)
theorem sole_readUp {K : KS} (h : KSole K) : KSole K.readUp := h.of rfl (fun _ => rfl)
theorem sole_writeUp {K : KS} (h : KSole K) : KSole K.writeUp := h.of rfl (fun _ => rfl)
theorem sole_read {K : KS} (h : KSole K) (d n : Int) : KSole (K.read d n).2.2 := by
  unfold KS.read
  cases hx : K.find d with
  | none => exact h
  | some y =>
    simp only
    split
    · exact h
    split
    · exact h
    split
    · exact h
    split
    · exact h
    split
    · cases ho : K.tho y
      · exact sole_setDe (sole_readUp h) _
      · exact sole_setOb (sole_readUp h) _ _
      · exact sole_setOb (sole_readUp h) _ _
    · exact sole_readUp h
theorem sole_write {K : KS} (h : KSole K) (d : Int) (b : List UInt8) : KSole (K.write d b).2.2 := by
  unfold KS.write
  cases hx : K.find d with
  | none => exact h
  | some y =>
    simp only
    split
    · exact h
    split
    · exact h
    split
    · exact h
    split
    · split
      · cases ho : K.tho y
        · exact sole_setDe (sole_setOb (sole_writeUp h) _ _) _
        · exact sole_setOb (sole_writeUp h) _ _
        · exact sole_setOb (sole_writeUp h) _ _
      · exact sole_writeUp h
    · exact h
theorem sole_seek {K : KS} (h : KSole K) (d o wh : Int) : KSole (K.seek d o wh).2.2 := by
  unfold KS.seek
  repeat' split
  all_goals first | exact h | exact sole_setDe h _
def kSole (n : Nat) (K : KS) : Prop := kOk n K ∧ KSole K
set_option maxRecDepth 100000 in
theorem pk_sole (kb g rb mb : Nat) (d : Int) (hd : I64 d) (Md : World → Prop) (hSame : ∀ {w : World} {K : KS}, Both (fun w O => KAt w O kb K) (fun w O => RwS g rb d w O K) w (fun j => mb < j) → Md w → KSole K → Calls Tryz.prog 28 #[.pointer (some ⟨mb, 0, none⟩)] w fun e w' => e = .returned (.bool true) ∧ Below w.heap.size w w') :
    PlK (kpD d) 300 (.agg #[.pointer (some ⟨kb, 0, none⟩), .int .i64 d]) g mb 321 323 322 (fun K w O => KAt w O kb K) (fun K w O => RwS g rb d w O K) kSole Md where
  mread w := by kernel_rfl
  mwrite w := by kernel_rfl
  mseek w := by kernel_rfl
  cread a w := by kernel_rfl
  cwrite a w := by kernel_rfl
  cseek a w := by kernel_rfl
  oA s := kat_o _ _
  oB s := rws_o _ _ _ _
  less n K h := ⟨⟨h.1.1, by have := h.1.2.1; omega, by have := h.1.2.2; omega⟩, h.2⟩
  nr n K k h := by
    obtain ⟨h1, h2⟩ := read_counts K d k
    refine ⟨⟨pinv_read h.1.1 d k, ?_, ?_⟩, sole_read h.2 d k⟩
    · have := h.1.2.1; show (K.read d k).2.2.reads + n ≤ _; omega
    · have := h.1.2.2; show (K.read d k).2.2.writes + n ≤ _; omega
  nw n K x h _ := by
    obtain ⟨h1, h2⟩ := write_counts K d x
    refine ⟨⟨pinv_write h.1.1 d x, ?_, ?_⟩, sole_write h.2 d x⟩
    · have := h.1.2.1; show (K.write d x).2.2.reads + n ≤ _; omega
    · have := h.1.2.2; show (K.write d x).2.2.writes + n ≤ _; omega
  ns n K o wh h := by
    obtain ⟨h1, h2⟩ := seek_counts K d o wh
    refine ⟨⟨pinv_seek h.1.1 d o wh, ?_, ?_⟩, sole_seek h.2 d o wh⟩
    · have := h.1.2.1; show (K.seek d o wh).2.2.reads + n ≤ _; omega
    · have := h.1.2.2; show (K.seek d o wh).2.2.writes + n ≤ _; omega
  few n h := read_few h d n
  pr n h ho := h.hread2 d n hd (by have := ho.1.2.1; omega)
  qr n h ho := (rwread_any g rb d n _ _ _ h (by have := ho.1.2.1; omega)).mono fun e w' ⟨v, h1, h2, h3⟩ => ⟨v, h1, h2, h3⟩
  pw x a c h ho hx hc hl hap := (h.hwrite d x a c hd (by have := ho.1.2.2; omega) hx hc (by omega) hap).mono fun e w' ⟨h1, h2⟩ => ⟨h1, h2⟩
  qw x a c h ho hx hc hl hap := (rwwrite_any g rb d x a c _ _ _ h (by have := ho.1.2.2; omega) hx hc (fun hz k hk => ⟨by
    obtain ⟨_, xb, xo, rfl, hxl, _⟩ := bys_block hx hz
    obtain rfl : xb = k := by simpa [Value.ownBlock] using hk
    exact hxl, hap hz k hk⟩)).mono fun e w' ⟨h1, h2⟩ => ⟨h1, h2⟩
  ps o wh h _ ho := (h.hseek d o wh hd ho).mono fun e w' ⟨h1, h2⟩ => ⟨h1, h2⟩
  qs o wh h _ _ := (rwseek_any g rb d o wh _ _ _ h).mono fun e w' ⟨h1, h2⟩ => ⟨h1, h2⟩
  same h hm ho := hSame h hm ho.2

theorem sole_cut {K : KS} (h : KSole K) (i : Nat) (fl : Int) : KSole (K.cut i fl) := by
  unfold KS.cut
  split
  · split
    · exact sole_setOb h _ _
    · exact h
  · exact h
def NoP (K : KS) : Prop := ∀ i, K.pw i = none
theorem NoP.inv {K : KS} (h : NoP K) : PInv K := fun x _ _ wt hw => by rw [h] at hw; cases hw
theorem nop_cut {K : KS} (h : NoP K) (i : Nat) (fl : Int) : NoP (K.cut i fl) := by
  unfold KS.cut
  split
  · split
    · exact fun j => (pw_setOb (by rw [h]; rfl) j).trans (h j)
    · exact h
  · exact h
theorem cut_nums (K : KS) (i : Nat) (fl : Int) : (K.cut i fl).reads = K.reads ∧ (K.cut i fl).writes = K.writes := by
  unfold KS.cut
  split
  · split
    · exact ⟨rfl, rfl⟩
    · exact ⟨rfl, rfl⟩
  · exact ⟨rfl, rfl⟩
theorem sole_open {K : KS} (h : KSole K) (hp : NoP K) (fl : Int) : KSole (K.open ⟨#[102]⟩ fl).2.2 ∧ NoP (K.open ⟨#[102]⟩ fl).2.2 ∧ (K.open ⟨#[102]⟩ fl).2.2.reads = K.reads ∧ (K.open ⟨#[102]⟩ fl).2.2.writes = K.writes := by
  obtain ⟨i, h1, h2⟩ := id h
  have hb : K.byName ⟨#[102]⟩ = some i := by
    unfold KS.byName
    rw [h1]
    simp [h2]
  unfold KS.open
  split
  · exact ⟨h, hp, rfl, rfl⟩
  split
  · exact ⟨h, hp, rfl, rfl⟩
  split
  · exact ⟨h, hp, rfl, rfl⟩
  rw [hb]
  simp only
  split
  · exact ⟨(sole_cut h i fl).of rfl (fun _ => rfl), fun j => nop_cut hp i fl j, (cut_nums K i fl).1, (cut_nums K i fl).2⟩
  · exact ⟨h, hp, rfl, rfl⟩
theorem sole_new (x : Plt) (tm : Bool) : KSole (KS.new (kfs x tm) (kts x tm) x.fs) ∧ NoP (KS.new (kfs x tm) (kts x tm) x.fs) := by
  cases tm
  · refine ⟨⟨0, rfl, rfl⟩, fun i => ?_⟩
    cases i with
    | zero => rfl
    | succ i => rfl
  · refine ⟨⟨0, rfl, rfl⟩, fun i => ?_⟩
    cases i with
    | zero => rfl
    | succ i => rfl
theorem kern_made {x : Plt} {tm : Bool} {w w' : World} {e : Ending} (h : MakeKer x tm w e w') (hSame : ∀ {kb g rb mb : Nat} {d : Int} {w : World} {K : KS}, Both (fun w O => KAt w O kb K) (fun w O => RwS g rb d w O K) w (fun j => mb < j) → MkrAt mb kb rb g d w → KSole K → Calls Tryz.prog 28 #[.pointer (some ⟨mb, 0, none⟩)] w fun e w' => e = .returned (.bool true) ∧ Below w.heap.size w w') : MakeOut x w e w' := by
  refine ⟨h.1, ?_⟩
  rcases h.2 with h | ⟨mb, kb, rb, g, h1, h2, -, -, h5, h6⟩
  · exact .inl h
  refine .inr ⟨mb, h1, h2, KS, kpD (kmD x tm), 300, _, g, _, _, _, _, _, kSole, MkrAt mb kb rb g (kmD x tm), ((kmK x tm).seek (kmD x tm) x.place 0).2.2, pk_sole kb g rb mb (kmD x tm) (km_i64 x tm) _ hSame, h6, h5, fun W W' h e => e.trans h, fun W h => ⟨cell_of_row W mb 0 _ _ _ h, cell_of_row W mb 1 _ _ _ h⟩, fun _ => ?_⟩
  obtain ⟨a1, a2⟩ := sole_new x tm
  obtain ⟨b1, b2, b3, b4⟩ := sole_open a1 a2 (kfl x)
  obtain ⟨n1, n2, n3⟩ := new_nums (kfs x tm) (kts x tm) x.fs
  obtain ⟨c1, c2⟩ := seek_counts (kmK x tm) (kmD x tm) x.place 0
  have d1 : (kmK x tm).reads = 0 := b3.trans n2
  have d2 : (kmK x tm).writes = 0 := b4.trans n3
  exact ⟨⟨pinv_seek b2.inv _ _ _, by rw [c1, d1]; decide, by rw [c2, d2]; decide⟩, sole_seek b1 _ _ _⟩
end Go.Proofs.YtanbiinomagdbaaGreat

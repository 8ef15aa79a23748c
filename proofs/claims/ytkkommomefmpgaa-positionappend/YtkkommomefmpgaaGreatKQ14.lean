/- What the proof stands on, part 14: the contracts of the program's calls that it reaches. -/
import Derived.Test.YtkkommomefmpgaaGreatKQ13
import Derived.Deep.DeepCutAuto
/- Plant.kernel: a kernel's file or terminal, of both sides. -/
namespace Go.Proofs.YtkkommomefmpgaaGreat
open Go.RowKit Go.Maps

def kfs (x : Plt) (tm : Bool) : List Nm := if tm = true then [] else [(⟨#[102]⟩, x.data)]
def kts (x : Plt) (tm : Bool) : List Tp := if tm = true then [(⟨#[102]⟩, x.lines)] else []
def kfl (x : Plt) : Int := if x.app = true then 7 else 3
theorem rat_o (kb : Nat) (K : KS) : OAt (fun w O => RAt w O kb K) := ⟨fun h hk hs => h.keep hk hs, fun h => h.trim⟩
theorem flts_of_rows {W : World} {v : Value} {l : List (Int × Int)} (h : RowsR W 2 FCells v l) : Flts W v l := by
  rcases h with ⟨rfl, rfl⟩ | ⟨q, cap, rfl, h1, h2⟩
  · exact .inl ⟨rfl, rfl⟩
  · by_cases h0 : 0 < l.length
    · obtain ⟨b, off, rfl, hd⟩ := h2 h0
      refine .inr (.inr ⟨b, off, cap, rfl, h0, h1, fun j hj => ?_⟩)
      obtain ⟨cs, rfl, -, h3⟩ := hd j hj
      have e : l.getD j (0, 0) = l[j] := by rw [List.getD_eq_getElem?_getD, List.getElem?_eq_getElem hj]; rfl
      rw [e]
      exact ⟨h3 0 _ rfl, h3 1 _ rfl⟩
    · have e := List.length_eq_zero_iff.1 (show l.length = 0 by omega)
      subst e
      exact .inr (.inl ⟨_, _, rfl, rfl⟩)
theorem lns_of_rows {W : World} {v : Value} {l : List (List UInt8)} (h : MLns W v l) : Lns W v l := by
  rcases h with ⟨rfl, rfl⟩ | ⟨q, cap, rfl, h1, h2⟩
  · exact ⟨none, 0, rfl, fun h => absurd h (by decide)⟩
  · refine ⟨some q, cap, rfl, fun h0 => ?_⟩
    obtain ⟨b, off, rfl, hd⟩ := h2 h0
    refine ⟨b, off, rfl, fun j hj => ?_⟩
    obtain ⟨cs, ⟨u, rfl, va, vc, rfl, hb, -⟩, -, h3⟩ := hd j hj
    have := h3 0 _ rfl
    rw [Nat.mul_one, Nat.add_zero] at this
    exact ⟨va, vc, this, hb⟩
theorem nms_none (W : World) (a : Option Addr) (c : Nat) : Nms W (.slice a 0 c) [] := ⟨a, c, rfl, Nat.zero_le _, fun h => absurd h (by decide)⟩
theorem tps_none (W : World) (a : Option Addr) (c : Nat) : Tps W (.slice a 0 c) [] := ⟨a, c, rfl, Nat.zero_le _, fun h => absurd h (by decide)⟩
theorem nms_f {W : World} {g : Nat} {da : Option Addr} {dc : Nat} {d : List UInt8} (h : W.heap[g]? = some (.cells #[.string ⟨#[102]⟩, .slice da d.length dc] 86)) (hb : Bys W (.slice da d.length dc) d) (hc : d.length ≤ dc) : Nms W (.slice (some ⟨g, 0, none⟩) 1 1) [(⟨#[102]⟩, d)] := by
  refine ⟨_, _, rfl, Nat.le_refl _, fun _ => ⟨g, 0, rfl, fun j hj => ?_⟩⟩
  obtain rfl : j = 0 := by simp at hj; exact hj
  exact ⟨da, dc, cell_of_row W g 0 _ _ _ h, cell_of_row W g 1 _ _ _ h, hb, hc, show (1 : Nat) ≤ maxLen by decide⟩
theorem tps_f {W : World} {g : Nat} {la : Option Addr} {lc : Nat} {l : List (List UInt8)} (h : W.heap[g]? = some (.cells #[.string ⟨#[102]⟩, .slice la l.length lc] 100)) (hb : Lns W (.slice la l.length lc) l) : Tps W (.slice (some ⟨g, 0, none⟩) 1 1) [(⟨#[102]⟩, l)] := by
  refine ⟨_, _, rfl, Nat.le_refl _, fun _ => ⟨g, 0, rfl, fun j hj => ?_⟩⟩
  obtain rfl : j = 0 := by simp at hj; exact hj
  exact ⟨la, lc, cell_of_row W g 0 _ _ _ h, cell_of_row W g 1 _ _ _ h, hb, show (1 : Nat) ≤ maxLen by decide⟩
def mdZ : Array Value := #[.nilIface, .pointer none, .pointer none, .pointer none, .pointer none, .pointer none, .pointer none]
def KernOut (x : Plt) (tm : Bool) (mb : Nat) (w : World) (e : Ending) (w' : World) : Prop :=
  Turned (fun k => k = mb) w w' ∧ (e = .returned (.bool false) ∨ ∃ kb rb g : Nat, e = .returned (.bool true) ∧ checkE (kfs x tm) (kts x tm) x.fs = 0 ∧ ((KS.new (kfs x tm) (kts x tm) x.fs).open ⟨#[102]⟩ (kfl x)).2.1 = 0 ∧
    w'.heap[mb]? = some (.cells #[.iface 294 (.agg #[.pointer (some ⟨kb, 0, none⟩), .int .i64 ((KS.new (kfs x tm) (kts x tm) x.fs).open ⟨#[102]⟩ (kfl x)).1]), .pointer (some ⟨g, 0, none⟩), .pointer none, .pointer none, .pointer none, .pointer (some ⟨kb, 0, none⟩), .pointer (some ⟨rb, 0, none⟩)] 80) ∧
    Both (fun w O => KAt w O kb ((KS.new (kfs x tm) (kts x tm) x.fs).open ⟨#[102]⟩ (kfl x)).2.2) (fun w O => RwS g rb ((KS.new (kfs x tm) (kts x tm) x.fs).open ⟨#[102]⟩ (kfl x)).1 w O ((KS.new (kfs x tm) (kts x tm) x.fs).open ⟨#[102]⟩ (kfl x)).2.2) w' (fun j => w.heap.size ≤ j))
set_option maxRecDepth 100000 in
set_option maxHeartbeats 8000000 in
theorem mkern_any (x : Plt) (dv rv wv fv lv : Value) (mb : Nat) (tm : Bool) (w : World) (h : PltIn w x dv rv wv fv lv) (hm : w.heap[mb]? = some (.cells mdZ 80)) (zf : x.fs.length * 16 ≤ 140737488351232) (zl : x.lines.length * 24 ≤ 140737488351232) :
    Calls Tryz.prog 87 #[.agg #[.int .i64 x.kind, .int .i64 x.size, dv, rv, wv, fv, lv, .int .i64 x.place, .bool x.app], .pointer (some ⟨mb, 0, none⟩), .bool tm] w (KernOut x tm mb w) := by
  have HP := hide (pl_new w x dv rv wv fv lv h)
  obtain ⟨da, dc, rfl, -⟩ := h.d
  obtain ⟨ra, rc, rfl, -⟩ := h.r
  obtain ⟨wa, wc0, rfl⟩ := h.w.form
  obtain ⟨fa, fc, rfl, -⟩ := h.f.form
  obtain ⟨la, lc, rfl, -⟩ := RowsR.form h.l
  clear h
  have hml : mb < w.heap.size := (Array.getElem?_eq_some_iff.1 hm).1
  have HM := hide hm
  clear hm
  go_enter Tryz.func87, Tryz.ntmps87
  go_upto_region 1 with fail
  have HB0 := hide (recv4 w (Obj.cells #[.int .i64 x.kind, .int .i64 x.size, .slice da x.data.length dc, .slice ra x.reads.length rc, .slice wa x.writes.length wc0, .slice fa x.fs.length fc, .slice la x.lines.length lc, .int .i64 x.place, .bool x.app] 50))
  have HW0 := hide (heap_alloc_new w (Obj.cells #[.int .i64 x.kind, .int .i64 x.size, .slice da x.data.length dc, .slice ra x.reads.length rc, .slice wa x.writes.length wc0, .slice fa x.fs.length fc, .slice la x.lines.length lc, .int .i64 x.place, .bool x.app] 50))
  generalize w.alloc (Obj.cells #[.int .i64 x.kind, .int .i64 x.size, .slice da x.data.length dc, .slice ra x.reads.length rc, .slice wa x.writes.length wc0, .slice fa x.fs.length fc, .slice la x.lines.length lc, .int .i64 x.place, .bool x.app] 50) = w0 at *
  have hz0 : w.heap.size < w0.heap.size := (Array.getElem?_eq_some_iff.1 HW0.out).1
  have p2 := cell_of_row w0 w.heap.size 2 _ _ _ HW0.out
  simp at p2
  go_upto_if 21 with fail
  have hBN := recv4 w0 (Obj.cells #[.string ⟨#[102]⟩, .slice da x.data.length dc] 86)
  have hBT := recv4 (w0.alloc (Obj.cells #[.string ⟨#[102]⟩, .slice da x.data.length dc] 86)) (Obj.cells #[] 100)
  have hzN : (w0.alloc (Obj.cells #[.string ⟨#[102]⟩, .slice da x.data.length dc] 86)).heap.size = w0.heap.size + 1 := Array.size_push _
  have hN1 := (hBT.block w0.heap.size (by omega)).trans (heap_alloc_new w0 (Obj.cells #[.string ⟨#[102]⟩, .slice da x.data.length dc] 86))
  have HB1 := hide (hBN.trans (hBT.mono hBN.size))
  have HN1 := hide hN1
  clear hBN hBT hzN hN1 p2
  generalize (w0.alloc (Obj.cells #[.string ⟨#[102]⟩, .slice da x.data.length dc] 86)).alloc (Obj.cells #[] 100) = w1 at *
  have HW1 := hide ((HB1.out.block w.heap.size hz0).trans HW0.out)
  have hz1 := HB1.out.size
  go_cut [7, 8] (fun s7 s8 wx => ∃ (a1 a2 : Option Addr) (c1 c2 : Nat), s7 = .slice a1 (kfs x tm).length c1 ∧ s8 = .slice a2 (kts x tm).length c2 ∧ Hid (Nms wx (.slice a1 (kfs x tm).length c1) (kfs x tm)) ∧ Hid (Tps wx (.slice a2 (kts x tm).length c2) (kts x tm)) ∧ Hid (Below w0.heap.size w0 wx))
  case first =>
    cases tm with
    | false =>
      go_wp2
      go_meet
      obtain ⟨da', dc', e, hb, hc⟩ := (HP.out w1 (HB0.out.trans (HB1.out.mono HB0.out.size))).d
      cases e
      exact ⟨_, _, _, _, rfl, rfl, hide (nms_f HN1.out hb hc), hide (tps_none _ _ _), HB1⟩
    | true =>
      have p6 := cell_of_row w1 w.heap.size 6 _ _ _ HW1.out
      simp at p6
      have p6a : (w1.alloc (Obj.cells #[] 86)).cell? ⟨w.heap.size, 6, none⟩ = some (.slice la x.lines.length lc) := ((recv4 w1 (Obj.cells #[] 86)).cell (p := ⟨w.heap.size, 6, none⟩) (by show w.heap.size < _; omega)).trans p6
      go_wp2_with fail
      go_region
      all_goals
        go_wp2
        go_meet
        first
        | (have hA := recv4 w1 (Obj.cells #[] 86)
           have hC := recv4 (w1.alloc (Obj.cells #[] 86)) (Obj.cells #[.string ⟨#[102]⟩, .slice la x.lines.length lc] 100)
           have hz : (w1.alloc (Obj.cells #[] 86)).heap.size = w1.heap.size + 1 := Array.size_push _
           have hh := heap_alloc_new (w1.alloc (Obj.cells #[] 86)) (Obj.cells #[.string ⟨#[102]⟩, .slice la x.lines.length lc] 100)
           rw [hz] at hh
           have hB := HB1.out.trans (((hA.trans (hC.mono hA.size)).drew).mono HB1.out.size)
           exact ⟨_, _, _, _, rfl, rfl, hide (nms_none _ _ _), hide (tps_f (g := w1.heap.size + 1) hh (lns_of_rows (HP.out _ (HB0.out.trans (hB.mono HB0.out.size))).l)), hide hB⟩)
        | (have hA := recv4 w1 (Obj.cells #[.string ⟨#[102]⟩, .slice la x.lines.length lc] 100)
           have hC := recv4 (w1.alloc (Obj.cells #[.string ⟨#[102]⟩, .slice la x.lines.length lc] 100)) (Obj.cells #[] 86)
           have hz : (w1.alloc (Obj.cells #[.string ⟨#[102]⟩, .slice la x.lines.length lc] 100)).heap.size = w1.heap.size + 1 := Array.size_push _
           have hh := (hC.block w1.heap.size (by omega)).trans (heap_alloc_new w1 (Obj.cells #[.string ⟨#[102]⟩, .slice la x.lines.length lc] 100))
           have hB := HB1.out.trans (((hA.trans (hC.mono hA.size)).drew).mono HB1.out.size)
           exact ⟨_, _, _, _, rfl, rfl, hide (nms_none _ _ _), hide (tps_f (g := w1.heap.size) hh (lns_of_rows (HP.out _ (HB0.out.trans (hB.mono HB0.out.size))).l)), hide hB⟩)
  case rest =>
    obtain ⟨a1, a2, c1, c2, rfl, rfl, HNm, HTp, HBx⟩ := hcut
    obtain ⟨wq, hq⟩ : ∃ W, W = wc := ⟨_, rfl⟩
    subst hq
    have HBw := hide (HB0.out.trans (HBx.out.mono HB0.out.size))
    have hrow := (HBx.out.block w.heap.size hz0).trans HW0.out
    have p8 := cell_of_row wq w.heap.size 8 _ _ _ hrow
    have p5 := cell_of_row wq w.heap.size 5 _ _ _ hrow
    simp at p8 p5
    have hzx := HBx.out.size
    have HRow := hide hrow
    clear hrow HB1 HN1 HW1 hz1
    go_upto_if 28 with fail
    go_cut [9] (fun s9 wx => s9 = .int .i64 (kfl x) ∧ wx = wq)
    case first =>
      go_wp2
      all_goals
        go_meet
        first
        | exact ⟨by unfold kfl; rw [if_pos (by assumption)], rfl⟩
        | exact ⟨by unfold kfl; rw [if_neg (by simp_all)], rfl⟩
    case rest =>
      obtain ⟨rfl, hwc⟩ := hcut
      rw [hwc]
      clear hwc p8
      obtain ⟨fs, hfs⟩ : ∃ fs, fs = kfs x tm := ⟨_, rfl⟩
      obtain ⟨ts, hts⟩ : ∃ ts, ts = kts x tm := ⟨_, rfl⟩
      have hfl : fs.length ≤ 1 := by rw [hfs]; unfold kfs; split <;> simp
      have htl : ts.length ≤ 1 := by rw [hts]; unfold kts; split <;> simp
      have htj : ∀ j (hj : j < ts.length), ts[j].2.length * 24 ≤ 140737488351232 := by
        rw [hts]
        unfold kts
        intro j hj
        split at hj
        · obtain rfl : j = 0 := by simp at hj; exact hj
          simp only [*]
          exact zl
        · simp at hj
      obtain ⟨fl, hfg⟩ : ∃ fl, fl = kfl x := ⟨_, rfl⟩
      rw [← hfs] at HNm
      rw [← hts] at HTp
      rw [← hfs, ← hts, ← hfg]
      have HEq := hide (And.intro hfs (And.intro hts hfg))
      clear hfs hts hfg
      have HFt := hide (fun (W : World) (hW : Below w.heap.size w W) => flts_of_rows (HP.out W hW).f)
      go_wp2_with fail
      refine (rkcheck_any _ _ _ fs ts x.fs wq HNm.out HTp.out (HFt.out wq HBw.out) (by omega) (by omega) htj (by unfold maxLen; omega)).mono ?_
      rintro _ w2 ⟨rfl, hB2⟩
      have HB2 := hide hB2
      have hz2 := hB2.size
      have HBw2 := hide (HBw.out.trans (hB2.mono HBw.out.size))
      have HRow2 := hide ((hB2.block w.heap.size (by omega)).trans HRow.out)
      have q5 := cell_of_row w2 w.heap.size 5 _ _ _ HRow2.out
      simp at q5
      clear hB2 p5
      by_cases hE : checkE fs ts x.fs = 0
      case neg =>
        have hE2 : (checkE fs ts x.fs == 0) = false := by simpa using hE
        have hE3 : (checkE fs ts x.fs != 0) = true := by simpa using hE
        generalize checkE fs ts x.fs = E at *
        go_wp2
        go_ret
        exact ⟨Turned.of_below (S := fun k => k = mb) HBw2.out, .inl rfl⟩
      have HN := hide (knew_good a1 a2 fa c1 c2 fc fs ts x.fs w2 (HNm.out.below HB2.out) (HTp.out.below HB2.out) (HFt.out w2 HBw2.out) zf (by omega) (by omega) hE)
      have HE := hide hE
      rw [hE]
      clear hE
      go_wp2_with fail
      refine HN.out.mono ?_
      rintro _ w3 ⟨kb, rfl, hK, hB3⟩
      have hz3 := hB3.size
      have HK3 := hide hK
      have HB3 := hide hB3
      have HBw3 := hide (HBw2.out.trans (hB3.mono HBw2.out.size))
      have r5 := (hB3.cell (p := ⟨w.heap.size, 5, none⟩) (by show w.heap.size < _; omega)).trans q5
      clear hK hB3 HN q5
      go_wp2_with fail
      refine (copyf_any _ x.fs w3 (HFt.out w3 HBw3.out) zf).mono ?_
      rintro _ w4 ⟨v4, rfl, hO4, hB4⟩
      obtain ⟨xa, xc, rfl⟩ := owns_slice hO4
      have HN2 := hide (rknew_any a1 a2 xa c1 c2 xc fs ts x.fs w3 w4 hB4 ((HNm.out.below HB2.out).below HB3.out) ((HTp.out.below HB2.out).below HB3.out) (Flts.of_owns hO4) (fun k e => hO4.lt k e) HE.out)
      clear hO4 r5
      go_wp2_with fail
      refine HN2.out.mono ?_
      rintro _ w5 ⟨ρ, I, rfl, hRK, hB5⟩
      have hz5 := hB5.size
      have HR5 := hide (RAt.of_page (w := w3) (fun _ e => e) hRK)
      have HB35 := hide hB5
      generalize I.kb = rb at *
      have HM5 := hide ((hB5.block mb (by omega)).trans ((HBw3.out.block mb hml).trans HM.out))
      have HBw5 := hide (HBw3.out.trans (hB5.mono HBw3.out.size))
      clear hRK hB5 hB4 HN2
      unfold mdZ at HM5
      have m5 := cell_of_row w5 mb 5 _ _ _ HM5.out
      have f5 := frozen_of_row w5 mb 5 _ _ HM5.out
      have e5 := Go.heap_setCell_same w5 mb 5 _ _ (.pointer (some ⟨kb, 0, none⟩)) HM5.out
      have m6 := cell_of_row _ mb 6 _ _ _ e5
      have f6 := frozen_of_row _ mb 6 _ _ e5
      have m60 := cell_of_row w5 mb 6 _ _ _ HM5.out
      have f60 := frozen_of_row w5 mb 6 _ _ HM5.out
      have e6 := Go.heap_setCell_same _ mb 6 _ _ (.pointer (some ⟨rb, 0, none⟩)) e5
      simp at m5 m6 m60
      simp only [List.setIfInBounds_toArray, List.set_cons_zero, List.set_cons_succ] at e6
      have hT6 : Turned (fun k => k = mb) w5 ((w5.setCell ⟨mb, 5, none⟩ (.pointer (some ⟨kb, 0, none⟩))).setCell ⟨mb, 6, none⟩ (.pointer (some ⟨rb, 0, none⟩))) := ((Turned.refl (fun k => k = mb) w5).set (.inl rfl)).set (.inl rfl)
      have HT6 := hide hT6
      have HM6 := hide e6
      clear e5 e6 hT6
      go_upto_region 12 with fail
      generalize (w5.setCell ⟨mb, 5, none⟩ (.pointer (some ⟨kb, 0, none⟩))).setCell ⟨mb, 6, none⟩ (.pointer (some ⟨rb, 0, none⟩)) = w6 at *
      clear m5 m6 m60 f5 f6 f60
      have hQ : ∀ j, w.heap.size ≤ j → ¬ j = mb := fun j h e => by omega
      have HBo := hide (Both.turned (Q := fun j => w.heap.size ≤ j) (Both.make (kat_o kb (KS.new fs ts x.fs)) (rat_o rb (KS.new fs ts x.fs)) HK3.out (fun j e _ => (by have e2 : w2.heap.size ≤ j := e; omega : w.heap.size ≤ j)) (fun j e _ => (by omega : w.heap.size ≤ j)) HB35.out HR5.out) (kat_o _ _) (rat_o _ _) HT6.out hQ)
      have HTw6 := hide ((Turned.of_below (S := fun k => k = mb) HBw5.out).trans HT6.out (fun _ _ e => e))
      have HNn := new_nums fs ts x.fs
      have hok := HK3.out.ok
      have HNm0 := hide hok.2
      have HKo := hide (And.intro (pinv_open (pinv_new fs ts x.fs (new_de fs ts x.fs)) hok.1 hok.2 ⟨#[102]⟩ fl) HNn)
      have hz6 := HTw6.out.size
      clear HK3 HR5 HT6 hok
      generalize hK0 : KS.new fs ts x.fs = K0 at *
      have HK0 := hide hK0
      clear hK0
      obtain ⟨O, h1, h2, h3, -⟩ := HBo.out.one (rat_o _ _)
      have HOp := hide (KAt.open h1 ⟨#[102]⟩ fl (show (1 : Nat) ≤ maxLen by decide) (by have := HNn.1; omega))
      have H3 := hide h3
      clear h1 h2 h3
      go_wp2_with fail
      refine HOp.out.mono ?_
      rintro _ w7 ⟨rfl, hS7⟩
      obtain ⟨hb7, hT7⟩ := H3.out (fun w O => KAt w O kb (K0.open ⟨#[102]⟩ fl).2.2) w6 w7 (Below.refl _ _) (kat_o _ _) hS7
      have hz7 := hT7.size
      have HM7 := hide ((hT7.block mb (by omega) (fun e => by omega)).trans HM6.out)
      have HTw7 := hide (HTw6.out.trans hT7 (fun k hk e => absurd e (by omega)))
      have HB7 := hide hb7
      clear hS7 hT7 hb7 HOp H3 HBo HM6 HTw6
      obtain ⟨P, g1, g2, g3, -⟩ := HB7.out.two (kat_o _ _)
      have HOp := hide (RAt.open g1 ⟨#[102]⟩ fl HNm0.out (show (1 : Nat) ≤ maxLen by decide) (by have := HNn.1; omega) (by have := HNn.1; omega))
      have H3 := hide g3
      have m6 := cell_of_row w7 mb 6 _ _ _ HM7.out
      simp at m6
      clear g1 g2 g3
      go_wp2_with fail
      refine HOp.out.mono ?_
      rintro _ w8 ⟨rfl, hS8⟩
      obtain ⟨hb8, hT8⟩ := H3.out (fun w O => RAt w O rb (K0.open ⟨#[102]⟩ fl).2.2) w7 w8 (Below.refl _ _) (rat_o _ _) hS8
      have hz8 := hT8.size
      have HM8 := hide ((hT8.block mb (by omega) (fun e => by rcases e with e | e <;> omega)).trans HM7.out)
      have HTw8 := hide (HTw7.out.trans hT8 (fun k hk e => absurd e (by rintro (e | e) <;> omega)))
      have HB8 := hide hb8
      clear hS8 hT8 hb8 HOp H3 HB7 HM7 HTw7 m6
      obtain ⟨d, hd⟩ : ∃ d, d = (K0.open ⟨#[102]⟩ fl).1 := ⟨_, rfl⟩
      obtain ⟨E, hE⟩ : ∃ E, E = (K0.open ⟨#[102]⟩ fl).2.1 := ⟨_, rfl⟩
      obtain ⟨K1, hK1⟩ : ∃ K1, K1 = (K0.open ⟨#[102]⟩ fl).2.2 := ⟨_, rfl⟩
      rw [← hK1] at HB8
      rw [← hd, ← hE]
      have HDe := hide (And.intro hd (And.intro hE hK1))
      clear hd hE hK1
      by_cases he : E = 0
      case neg =>
        have he2 : (E == 0) = false := by simpa using he
        have he3 : (E != 0) = true := by simpa using he
        go_wp2
        go_ret
        exact ⟨HTw8.out, .inl rfl⟩
      have HEe := hide he
      subst he
      have m6 := cell_of_row w8 mb 6 _ _ _ HM8.out
      simp at m6
      go_wp2_with fail
      refine (of_any rb d w8).mono ?_
      rintro _ w9 ⟨rfl, hG9, hB9⟩
      have hz9 := hB9.size
      have hM9 := (hB9.block mb (by omega)).trans HM8.out
      have hg9 : w8.heap.size < w9.heap.size := (Array.getElem?_eq_some_iff.1 hG9).1
      have m0 := cell_of_row w9 mb 0 _ _ _ hM9
      have f0 := frozen_of_row w9 mb 0 _ _ hM9
      have e0 := Go.heap_setCell_same w9 mb 0 _ _ (.iface 294 (.agg #[.pointer (some ⟨kb, 0, none⟩), .int .i64 d])) hM9
      have m1 := cell_of_row _ mb 1 _ _ _ e0
      have f1 := frozen_of_row _ mb 1 _ _ e0
      have m10 := cell_of_row w9 mb 1 _ _ _ hM9
      have f10 := frozen_of_row w9 mb 1 _ _ hM9
      have e1 := Go.heap_setCell_same _ mb 1 _ _ (.pointer (some ⟨w8.heap.size, 0, none⟩)) e0
      simp at m0 m1 m10
      simp only [List.setIfInBounds_toArray, List.set_cons_zero, List.set_cons_succ] at e1
      have hT10 : Turned (fun k => k = mb) w9 ((w9.setCell ⟨mb, 0, none⟩ (.iface 294 (.agg #[.pointer (some ⟨kb, 0, none⟩), .int .i64 d]))).setCell ⟨mb, 1, none⟩ (.pointer (some ⟨w8.heap.size, 0, none⟩))) := ((Turned.refl (fun k => k = mb) w9).set (.inl rfl)).set (.inl rfl)
      have hB89 : Both (fun w O => KAt w O kb K1) (fun w O => RwS w8.heap.size rb d w O K1) w9 (fun j => w.heap.size ≤ j) := by
        obtain ⟨O', P', b1, b2, b3, b4⟩ := HB8.out
        have hq : ∀ j, (((fun j => w.heap.size ≤ j) j ∨ w6.heap.size ≤ j) ∨ w7.heap.size ≤ j) → w.heap.size ≤ j := fun j e => by
          rcases e with (e | e) | e
          · exact e
          · omega
          · omega
        refine ⟨O', fun k => P' k ∨ k = w8.heap.size, (kat_o _ _).keep b1 (fun j _ hl => hB9.block j hl) hz9, ⟨P', 0, hG9, (rat_o _ _).keep b2 (fun j _ hl => hB9.block j hl) hz9, fun k e => .inl e, .inr rfl, fun e => by have := (b4 _ e).2; omega⟩, fun j e => ⟨hq j (b3 j e).1, by have := (b3 j e).2.1; omega, fun e' => ?_⟩, fun j e => ?_⟩
        · rcases e' with e' | e'
          · exact (b3 j e).2.2 e'
          · have := (b3 j e).2.1; omega
        · rcases e with e | e
          · exact ⟨hq j (b4 j e).1, by have := (b4 j e).2; omega⟩
          · exact ⟨by omega, by omega⟩
      have HF := hide (Both.turned hB89 (kat_o _ _) (rws_o _ _ _ _) hT10 hQ)
      have HMf := hide e1
      have HTf := hide ((HTw8.out.trans (Turned.of_below (S := fun k => k = mb) hB9) (fun _ _ e => e)).trans hT10 (fun _ _ e => e))
      have HG9 := hide hG9
      clear hB9 hM9 e0 e1 hT10 hB89 hG9 m6
      go_wp2
      go_ret
      obtain ⟨q1, q2, q3⟩ := HEq.out
      obtain ⟨r1, r2, r3⟩ := HDe.out
      unfold KernOut
      rw [← q1, ← q2, ← q3, HK0.out]
      exact ⟨HTf.out, .inr ⟨kb, rb, w8.heap.size, rfl, HE.out, r2.symm, by rw [← r1]; exact HMf.out, by rw [← r1, ← r3]; exact HF.out⟩⟩
end Go.Proofs.YtkkommomefmpgaaGreat

/- Plant.Make, of a kernel's file or terminal. -/
namespace Go.Proofs.YtkkommomefmpgaaGreat
open Go.RowKit Go.Maps

def kmD (x : Plt) (tm : Bool) : Int := ((KS.new (kfs x tm) (kts x tm) x.fs).open ⟨#[102]⟩ (kfl x)).1
def kmK (x : Plt) (tm : Bool) : KS := ((KS.new (kfs x tm) (kts x tm) x.fs).open ⟨#[102]⟩ (kfl x)).2.2
def MkrAt (mb kb rb g : Nat) (d : Int) (W : World) : Prop := W.heap[mb]? = some (.cells #[.iface 294 (.agg #[.pointer (some ⟨kb, 0, none⟩), .int .i64 d]), .pointer (some ⟨g, 0, none⟩), .pointer none, .pointer none, .pointer none, .pointer (some ⟨kb, 0, none⟩), .pointer (some ⟨rb, 0, none⟩)] 80)
def MakeKer (x : Plt) (tm : Bool) (w : World) (e : Ending) (w' : World) : Prop := Below w.heap.size w w' ∧ ((∃ p, e = .returned (.tuple #[.pointer p, .bool false])) ∨
  ∃ mb kb rb g : Nat, w.heap.size ≤ mb ∧ e = .returned (.tuple #[.pointer (some ⟨mb, 0, none⟩), .bool true]) ∧ checkE (kfs x tm) (kts x tm) x.fs = 0 ∧ ((KS.new (kfs x tm) (kts x tm) x.fs).open ⟨#[102]⟩ (kfl x)).2.1 = 0 ∧ MkrAt mb kb rb g (kmD x tm) w' ∧ PP (fun K w O => KAt w O kb K) (fun K w O => RwS g rb (kmD x tm) w O K) ((kmK x tm).seek (kmD x tm) x.place 0).2.2 (mb + 1) w')
theorem km_open {K : KS} (h : K.next < 9223372036854775807) (s : ByteArray) (f : Int) : I64 (K.open s f).1 := by
  have h0 : I64 0 := ⟨by decide, by decide⟩
  have h1 : I64 (K.next : Int) := ⟨by omega, by omega⟩
  unfold KS.open
  repeat' split
  all_goals first | exact h0 | exact h1
theorem km_i64 (x : Plt) (tm : Bool) : I64 (kmD x tm) := by
  have hn := (new_nums (kfs x tm) (kts x tm) x.fs).1
  exact km_open (by omega) _ _
set_option maxRecDepth 100000 in
set_option maxHeartbeats 8000000 in
theorem make_kernel (x : Plt) (dv rv wv fv lv : Value) (w : World) (tm : Bool) (h : PltIn w x dv rv wv fv lv) (hk : x.k6 = if tm = true then 5 else 4) (zf : x.fs.length * 16 ≤ 140737488351232) (zl : x.lines.length * 24 ≤ 140737488351232) (hp : I64 x.place) :
    Calls Tryz.prog 15 #[.agg #[.int .i64 x.kind, .int .i64 x.size, dv, rv, wv, fv, lv, .int .i64 x.place, .bool x.app]] w (MakeKer x tm w) := by
  have HP := hide (pl_new w x dv rv wv fv lv h)
  obtain ⟨da, dc, rfl, -⟩ := h.d
  obtain ⟨ra, rc, rfl, -⟩ := h.r
  obtain ⟨wa, wc, rfl⟩ := h.w.form
  obtain ⟨fa, fc, rfl, -⟩ := h.f.form
  obtain ⟨la, lc, rfl, -⟩ := RowsR.form h.l
  unfold Plt.k6 at hk
  clear h
  cases tm
  case false =>
    simp only [Bool.false_eq_true, if_false] at hk
    go_enter Tryz.func15, Tryz.ntmps15
    go_wp2_with fail
    have hz1 : (w.alloc (Obj.cells #[.int .i64 x.kind, .int .i64 x.size, .slice da x.data.length dc, .slice ra x.reads.length rc, .slice wa x.writes.length wc, .slice fa x.fs.length fc, .slice la x.lines.length lc, .int .i64 x.place, .bool x.app] 50)).heap.size = w.heap.size + 1 := Array.size_push _
    have hz0 : ((w.alloc (Obj.cells #[.int .i64 x.kind, .int .i64 x.size, .slice da x.data.length dc, .slice ra x.reads.length rc, .slice wa x.writes.length wc, .slice fa x.fs.length fc, .slice la x.lines.length lc, .int .i64 x.place, .bool x.app] 50)).alloc (Obj.cells mdZ 80)).heap.size = w.heap.size + 1 + 1 := (Array.size_push _).trans (by rw [show (w.alloc (Obj.cells #[.int .i64 x.kind, .int .i64 x.size, .slice da x.data.length dc, .slice ra x.reads.length rc, .slice wa x.writes.length wc, .slice fa x.fs.length fc, .slice la x.lines.length lc, .int .i64 x.place, .bool x.app] 50)).heap.size = w.heap.size + 1 from hz1])
    have HB0 := hide ((recv4 w (Obj.cells #[.int .i64 x.kind, .int .i64 x.size, .slice da x.data.length dc, .slice ra x.reads.length rc, .slice wa x.writes.length wc, .slice fa x.fs.length fc, .slice la x.lines.length lc, .int .i64 x.place, .bool x.app] 50)).trans ((recv4 (w.alloc (Obj.cells #[.int .i64 x.kind, .int .i64 x.size, .slice da x.data.length dc, .slice ra x.reads.length rc, .slice wa x.writes.length wc, .slice fa x.fs.length fc, .slice la x.lines.length lc, .int .i64 x.place, .bool x.app] 50)) (Obj.cells mdZ 80)).mono (recv4 w (Obj.cells #[.int .i64 x.kind, .int .i64 x.size, .slice da x.data.length dc, .slice ra x.reads.length rc, .slice wa x.writes.length wc, .slice fa x.fs.length fc, .slice la x.lines.length lc, .int .i64 x.place, .bool x.app] 50)).size))
    have hq : ((w.alloc (Obj.cells #[.int .i64 x.kind, .int .i64 x.size, .slice da x.data.length dc, .slice ra x.reads.length rc, .slice wa x.writes.length wc, .slice fa x.fs.length fc, .slice la x.lines.length lc, .int .i64 x.place, .bool x.app] 50)).alloc (Obj.cells mdZ 80)).heap[w.heap.size]? = some (Obj.cells #[.int .i64 x.kind, .int .i64 x.size, .slice da x.data.length dc, .slice ra x.reads.length rc, .slice wa x.writes.length wc, .slice fa x.fs.length fc, .slice la x.lines.length lc, .int .i64 x.place, .bool x.app] 50) := ((recv4 (w.alloc (Obj.cells #[.int .i64 x.kind, .int .i64 x.size, .slice da x.data.length dc, .slice ra x.reads.length rc, .slice wa x.writes.length wc, .slice fa x.fs.length fc, .slice la x.lines.length lc, .int .i64 x.place, .bool x.app] 50)) (Obj.cells mdZ 80)).block w.heap.size (by omega)).trans (heap_alloc_new w (Obj.cells #[.int .i64 x.kind, .int .i64 x.size, .slice da x.data.length dc, .slice ra x.reads.length rc, .slice wa x.writes.length wc, .slice fa x.fs.length fc, .slice la x.lines.length lc, .int .i64 x.place, .bool x.app] 50))
    have hm0 : ((w.alloc (Obj.cells #[.int .i64 x.kind, .int .i64 x.size, .slice da x.data.length dc, .slice ra x.reads.length rc, .slice wa x.writes.length wc, .slice fa x.fs.length fc, .slice la x.lines.length lc, .int .i64 x.place, .bool x.app] 50)).alloc (Obj.cells mdZ 80)).heap[w.heap.size + 1]? = some (Obj.cells mdZ 80) := by
      have := heap_alloc_new (w.alloc (Obj.cells #[.int .i64 x.kind, .int .i64 x.size, .slice da x.data.length dc, .slice ra x.reads.length rc, .slice wa x.writes.length wc, .slice fa x.fs.length fc, .slice la x.lines.length lc, .int .i64 x.place, .bool x.app] 50)) (Obj.cells mdZ 80)
      rwa [hz1] at this
    have HQ := hide (And.intro hq hm0)
    unfold mdZ at HQ HB0 hz0
    generalize ((w.alloc (Obj.cells #[.int .i64 x.kind, .int .i64 x.size, .slice da x.data.length dc, .slice ra x.reads.length rc, .slice wa x.writes.length wc, .slice fa x.fs.length fc, .slice la x.lines.length lc, .int .i64 x.place, .bool x.app] 50)).alloc (Obj.cells #[.nilIface, .pointer none, .pointer none, .pointer none, .pointer none, .pointer none, .pointer none] 80)) = W0 at *
    clear hq hm0 hz1
    obtain ⟨mb, hmb⟩ : ∃ mb, mb = w.heap.size + 1 := ⟨_, rfl⟩
    rw [← hmb] at hz0 HQ
    simp only [← hmb]
    have hwm : w.heap.size < mb := by omega
    clear hmb
    refine (mkern_any x _ _ _ _ _ mb false W0 (HP.out _ HB0.out) HQ.out.2 zf zl).mono ?_
    rintro _ w1 ⟨hT1, h1⟩
    have HB1 := hide (HB0.out.trans (hT1.below (B := w.heap.size) (fun k e => by have e2 : k = mb := e; omega) HB0.out.size))
    have l1 := (hT1.block w.heap.size (by omega) (by show ¬ w.heap.size = mb; omega)).trans HQ.out.1
    have p7 : w1.cell? ⟨w.heap.size, 7, none⟩ = some (.int .i64 x.place) := cell_of_row w1 w.heap.size 7 _ _ _ l1
    clear hT1 HQ
    rcases h1 with rfl | ⟨kb, rb, g, rfl, hE, hO, hM, hBo⟩
    · go_wp2
      go_ret2
      exact ⟨HB1.out, .inl ⟨_, rfl⟩⟩
    change w1.heap[mb]? = some (.cells #[.iface 294 (.agg #[.pointer (some ⟨kb, 0, none⟩), .int .i64 (kmD x false)]), .pointer (some ⟨g, 0, none⟩), .pointer none, .pointer none, .pointer none, .pointer (some ⟨kb, 0, none⟩), .pointer (some ⟨rb, 0, none⟩)] 80) at hM
    change Both (fun w O => KAt w O kb (kmK x false)) (fun w O => RwS g rb (kmD x false) w O (kmK x false)) w1 (fun j => W0.heap.size ≤ j) at hBo
    have HPP : Hid (PP (fun K w O => KAt w O kb K) (fun K w O => RwS g rb (kmD x false) w O K) (kmK x false) (mb + 1) w1) := hide (by
      rw [hz0] at hBo
      exact hBo)
    have hd := km_i64 x false
    obtain ⟨d, hde⟩ : ∃ d, d = kmD x false := ⟨_, rfl⟩
    rw [← hde] at hM HPP hd
    have HDe := hide hde
    clear hBo hde
    have hm3 : ∀ w, (method 485 294 (.agg #[.pointer (some ⟨kb, 0, none⟩), .int .i64 d]) "Seek").run Tryz.prog w = .ok (331, (.agg #[.pointer (some ⟨kb, 0, none⟩), .int .i64 d])) w := fun w => by kernel_rfl
    have hc3 : ∀ a w, (callFunc 331 a).run Tryz.prog w = .ok (.enter 331 a) w := fun a w => by kernel_rfl
    have m0 : w1.cell? ⟨mb, 0, none⟩ = some (.iface 294 (.agg #[.pointer (some ⟨kb, 0, none⟩), .int .i64 d])) := cell_of_row w1 mb 0 _ _ _ hM
    have m1 : w1.cell? ⟨mb, 1, none⟩ = some (.pointer (some ⟨g, 0, none⟩)) := cell_of_row w1 mb 1 _ _ _ hM
    have hml : mb < w1.heap.size := World.block_lt_of_cell? w1 _ m0
    have HC := hide (pk_num (fun K => kat_o _ _) (fun K => rws_o _ _ _ _) (A := fun K w O => KAt w O kb K) (B := fun K w O => RwS g rb d w O K) HPP.out (by omega) (s' := ((kmK x false).seek d x.place 0).2.2) (fun O wb hA _ _ => (hA.hseek d x.place 0 hd hp).mono fun e w' ⟨h1, h2⟩ => ⟨h1, h2⟩) (fun O wb hA _ _ => (rwseek_any g rb d x.place 0 _ _ _ hA).mono fun e w' ⟨h1, h2⟩ => ⟨h1, h2⟩))
    have HS := hide (fun (W' : World) (hT : Turned (fun j => mb + 1 ≤ j) w1 W') => (show (W'.cell? ⟨mb, 0, none⟩ = some (.iface 294 (.agg #[.pointer (some ⟨kb, 0, none⟩), .int .i64 d])) ∧ W'.cell? ⟨mb, 1, none⟩ = some (.pointer (some ⟨g, 0, none⟩)) ∧ W'.cell? ⟨w.heap.size, 7, none⟩ = some (.int .i64 x.place)) ∧ W'.heap[mb]? = w1.heap[mb]? from
      ⟨⟨hT.cell m0 (by show ¬ mb + 1 ≤ mb; omega), hT.cell m1 (by show ¬ mb + 1 ≤ mb; omega), hT.cell p7 (by show ¬ mb + 1 ≤ w.heap.size; omega)⟩, hT.block mb hml (by show ¬ mb + 1 ≤ mb; omega)⟩))
    have HMd := hide hM
    have HX : Hid (((kmK x false).seek d x.place 0).2.2 = ((kmK x false).seek (kmD x false) x.place 0).2.2) := hide (by rw [HDe.out])
    generalize (kmK x false).seek d x.place 0 = X at *
    obtain ⟨N, E, s2⟩ := X
    simp only at *
    go_wp2_with fail
    go_region_held3 (fun w' => w'.cell? ⟨mb, 0, none⟩ = some (.iface 294 (.agg #[.pointer (some ⟨kb, 0, none⟩), .int .i64 d])) ∧ w'.cell? ⟨w.heap.size, 7, none⟩ = some (.int .i64 x.place))
      (first | exact K4 | exact ⟨m0, p7⟩ | go_keep)
      (first
        | (refine (HC.out _ (Below.refl _ _).drew).mono ?_; rintro _ w4 ⟨rfl, -, hT4, hC4⟩; have K4 : w4.cell? ⟨mb, 0, none⟩ = some (.iface 294 (.agg #[.pointer (some ⟨kb, 0, none⟩), .int .i64 d])) ∧ w4.cell? ⟨w.heap.size, 7, none⟩ = some (.int .i64 x.place) := ⟨(HS.out w4 hT4).1.1, (HS.out w4 hT4).1.2.2⟩; have HT4 := hide hT4; have HC4 := hide hC4; clear hT4 hC4)
        | fail)
    have n1 := (HS.out w4 HT4.out).1.2.1
    have n2 := K4.2
    clear K4 HC
    go_wp2_with fail
    go_region_held3 (fun w' => w'.cell? ⟨mb, 1, none⟩ = some (.pointer (some ⟨g, 0, none⟩)) ∧ w'.cell? ⟨w.heap.size, 7, none⟩ = some (.int .i64 x.place))
      (first | exact K6 | exact ⟨n1, n2⟩ | go_keep)
      (first
        | (go_at_call 88; refine (HC4.out _ (Below.refl _ _).drew).mono ?_; rintro _ w6 ⟨rfl, HN6, -, hT6⟩; have K6 : w6.cell? ⟨mb, 1, none⟩ = some (.pointer (some ⟨g, 0, none⟩)) ∧ w6.cell? ⟨w.heap.size, 7, none⟩ = some (.int .i64 x.place) := ⟨(HS.out w6 hT6).1.2.1, (HS.out w6 hT6).1.2.2⟩; have HT6 := hide hT6; clear hT6)
        | fail)
    clear K6 n1 n2 HC4
    go_wp2
    go_ret2
    refine ⟨HB1.out.trans (HT6.out.below (fun j e => by have e2 : mb + 1 ≤ j := e; omega) HB1.out.size), .inr ⟨mb, kb, rb, g, by omega, rfl, hE, hO, ?_, ?_⟩⟩
    · rw [← HDe.out]
      exact (HS.out w6 HT6.out).2.trans HMd.out
    · rw [← HX.out, ← HDe.out]
      exact HN6.out
  case true =>
    simp only [if_true] at hk
    go_enter Tryz.func15, Tryz.ntmps15
    go_wp2_with fail
    have hz1 : (w.alloc (Obj.cells #[.int .i64 x.kind, .int .i64 x.size, .slice da x.data.length dc, .slice ra x.reads.length rc, .slice wa x.writes.length wc, .slice fa x.fs.length fc, .slice la x.lines.length lc, .int .i64 x.place, .bool x.app] 50)).heap.size = w.heap.size + 1 := Array.size_push _
    have hz0 : ((w.alloc (Obj.cells #[.int .i64 x.kind, .int .i64 x.size, .slice da x.data.length dc, .slice ra x.reads.length rc, .slice wa x.writes.length wc, .slice fa x.fs.length fc, .slice la x.lines.length lc, .int .i64 x.place, .bool x.app] 50)).alloc (Obj.cells mdZ 80)).heap.size = w.heap.size + 1 + 1 := (Array.size_push _).trans (by rw [show (w.alloc (Obj.cells #[.int .i64 x.kind, .int .i64 x.size, .slice da x.data.length dc, .slice ra x.reads.length rc, .slice wa x.writes.length wc, .slice fa x.fs.length fc, .slice la x.lines.length lc, .int .i64 x.place, .bool x.app] 50)).heap.size = w.heap.size + 1 from hz1])
    have HB0 := hide ((recv4 w (Obj.cells #[.int .i64 x.kind, .int .i64 x.size, .slice da x.data.length dc, .slice ra x.reads.length rc, .slice wa x.writes.length wc, .slice fa x.fs.length fc, .slice la x.lines.length lc, .int .i64 x.place, .bool x.app] 50)).trans ((recv4 (w.alloc (Obj.cells #[.int .i64 x.kind, .int .i64 x.size, .slice da x.data.length dc, .slice ra x.reads.length rc, .slice wa x.writes.length wc, .slice fa x.fs.length fc, .slice la x.lines.length lc, .int .i64 x.place, .bool x.app] 50)) (Obj.cells mdZ 80)).mono (recv4 w (Obj.cells #[.int .i64 x.kind, .int .i64 x.size, .slice da x.data.length dc, .slice ra x.reads.length rc, .slice wa x.writes.length wc, .slice fa x.fs.length fc, .slice la x.lines.length lc, .int .i64 x.place, .bool x.app] 50)).size))
    have hq : ((w.alloc (Obj.cells #[.int .i64 x.kind, .int .i64 x.size, .slice da x.data.length dc, .slice ra x.reads.length rc, .slice wa x.writes.length wc, .slice fa x.fs.length fc, .slice la x.lines.length lc, .int .i64 x.place, .bool x.app] 50)).alloc (Obj.cells mdZ 80)).heap[w.heap.size]? = some (Obj.cells #[.int .i64 x.kind, .int .i64 x.size, .slice da x.data.length dc, .slice ra x.reads.length rc, .slice wa x.writes.length wc, .slice fa x.fs.length fc, .slice la x.lines.length lc, .int .i64 x.place, .bool x.app] 50) := ((recv4 (w.alloc (Obj.cells #[.int .i64 x.kind, .int .i64 x.size, .slice da x.data.length dc, .slice ra x.reads.length rc, .slice wa x.writes.length wc, .slice fa x.fs.length fc, .slice la x.lines.length lc, .int .i64 x.place, .bool x.app] 50)) (Obj.cells mdZ 80)).block w.heap.size (by omega)).trans (heap_alloc_new w (Obj.cells #[.int .i64 x.kind, .int .i64 x.size, .slice da x.data.length dc, .slice ra x.reads.length rc, .slice wa x.writes.length wc, .slice fa x.fs.length fc, .slice la x.lines.length lc, .int .i64 x.place, .bool x.app] 50))
    have hm0 : ((w.alloc (Obj.cells #[.int .i64 x.kind, .int .i64 x.size, .slice da x.data.length dc, .slice ra x.reads.length rc, .slice wa x.writes.length wc, .slice fa x.fs.length fc, .slice la x.lines.length lc, .int .i64 x.place, .bool x.app] 50)).alloc (Obj.cells mdZ 80)).heap[w.heap.size + 1]? = some (Obj.cells mdZ 80) := by
      have := heap_alloc_new (w.alloc (Obj.cells #[.int .i64 x.kind, .int .i64 x.size, .slice da x.data.length dc, .slice ra x.reads.length rc, .slice wa x.writes.length wc, .slice fa x.fs.length fc, .slice la x.lines.length lc, .int .i64 x.place, .bool x.app] 50)) (Obj.cells mdZ 80)
      rwa [hz1] at this
    have HQ := hide (And.intro hq hm0)
    unfold mdZ at HQ HB0 hz0
    generalize ((w.alloc (Obj.cells #[.int .i64 x.kind, .int .i64 x.size, .slice da x.data.length dc, .slice ra x.reads.length rc, .slice wa x.writes.length wc, .slice fa x.fs.length fc, .slice la x.lines.length lc, .int .i64 x.place, .bool x.app] 50)).alloc (Obj.cells #[.nilIface, .pointer none, .pointer none, .pointer none, .pointer none, .pointer none, .pointer none] 80)) = W0 at *
    clear hq hm0 hz1
    obtain ⟨mb, hmb⟩ : ∃ mb, mb = w.heap.size + 1 := ⟨_, rfl⟩
    rw [← hmb] at hz0 HQ
    simp only [← hmb]
    have hwm : w.heap.size < mb := by omega
    clear hmb
    refine (mkern_any x _ _ _ _ _ mb true W0 (HP.out _ HB0.out) HQ.out.2 zf zl).mono ?_
    rintro _ w1 ⟨hT1, h1⟩
    have HB1 := hide (HB0.out.trans (hT1.below (B := w.heap.size) (fun k e => by have e2 : k = mb := e; omega) HB0.out.size))
    have l1 := (hT1.block w.heap.size (by omega) (by show ¬ w.heap.size = mb; omega)).trans HQ.out.1
    have p7 : w1.cell? ⟨w.heap.size, 7, none⟩ = some (.int .i64 x.place) := cell_of_row w1 w.heap.size 7 _ _ _ l1
    clear hT1 HQ
    rcases h1 with rfl | ⟨kb, rb, g, rfl, hE, hO, hM, hBo⟩
    · go_wp2
      go_ret2
      exact ⟨HB1.out, .inl ⟨_, rfl⟩⟩
    change w1.heap[mb]? = some (.cells #[.iface 294 (.agg #[.pointer (some ⟨kb, 0, none⟩), .int .i64 (kmD x true)]), .pointer (some ⟨g, 0, none⟩), .pointer none, .pointer none, .pointer none, .pointer (some ⟨kb, 0, none⟩), .pointer (some ⟨rb, 0, none⟩)] 80) at hM
    change Both (fun w O => KAt w O kb (kmK x true)) (fun w O => RwS g rb (kmD x true) w O (kmK x true)) w1 (fun j => W0.heap.size ≤ j) at hBo
    have HPP : Hid (PP (fun K w O => KAt w O kb K) (fun K w O => RwS g rb (kmD x true) w O K) (kmK x true) (mb + 1) w1) := hide (by
      rw [hz0] at hBo
      exact hBo)
    have hd := km_i64 x true
    obtain ⟨d, hde⟩ : ∃ d, d = kmD x true := ⟨_, rfl⟩
    rw [← hde] at hM HPP hd
    have HDe := hide hde
    clear hBo hde
    have hm3 : ∀ w, (method 485 294 (.agg #[.pointer (some ⟨kb, 0, none⟩), .int .i64 d]) "Seek").run Tryz.prog w = .ok (331, (.agg #[.pointer (some ⟨kb, 0, none⟩), .int .i64 d])) w := fun w => by kernel_rfl
    have hc3 : ∀ a w, (callFunc 331 a).run Tryz.prog w = .ok (.enter 331 a) w := fun a w => by kernel_rfl
    have m0 : w1.cell? ⟨mb, 0, none⟩ = some (.iface 294 (.agg #[.pointer (some ⟨kb, 0, none⟩), .int .i64 d])) := cell_of_row w1 mb 0 _ _ _ hM
    have m1 : w1.cell? ⟨mb, 1, none⟩ = some (.pointer (some ⟨g, 0, none⟩)) := cell_of_row w1 mb 1 _ _ _ hM
    have hml : mb < w1.heap.size := World.block_lt_of_cell? w1 _ m0
    have HC := hide (pk_num (fun K => kat_o _ _) (fun K => rws_o _ _ _ _) (A := fun K w O => KAt w O kb K) (B := fun K w O => RwS g rb d w O K) HPP.out (by omega) (s' := ((kmK x true).seek d x.place 0).2.2) (fun O wb hA _ _ => (hA.hseek d x.place 0 hd hp).mono fun e w' ⟨h1, h2⟩ => ⟨h1, h2⟩) (fun O wb hA _ _ => (rwseek_any g rb d x.place 0 _ _ _ hA).mono fun e w' ⟨h1, h2⟩ => ⟨h1, h2⟩))
    have HS := hide (fun (W' : World) (hT : Turned (fun j => mb + 1 ≤ j) w1 W') => (show (W'.cell? ⟨mb, 0, none⟩ = some (.iface 294 (.agg #[.pointer (some ⟨kb, 0, none⟩), .int .i64 d])) ∧ W'.cell? ⟨mb, 1, none⟩ = some (.pointer (some ⟨g, 0, none⟩)) ∧ W'.cell? ⟨w.heap.size, 7, none⟩ = some (.int .i64 x.place)) ∧ W'.heap[mb]? = w1.heap[mb]? from
      ⟨⟨hT.cell m0 (by show ¬ mb + 1 ≤ mb; omega), hT.cell m1 (by show ¬ mb + 1 ≤ mb; omega), hT.cell p7 (by show ¬ mb + 1 ≤ w.heap.size; omega)⟩, hT.block mb hml (by show ¬ mb + 1 ≤ mb; omega)⟩))
    have HMd := hide hM
    have HX : Hid (((kmK x true).seek d x.place 0).2.2 = ((kmK x true).seek (kmD x true) x.place 0).2.2) := hide (by rw [HDe.out])
    generalize (kmK x true).seek d x.place 0 = X at *
    obtain ⟨N, E, s2⟩ := X
    simp only at *
    go_wp2_with fail
    go_region_held3 (fun w' => w'.cell? ⟨mb, 0, none⟩ = some (.iface 294 (.agg #[.pointer (some ⟨kb, 0, none⟩), .int .i64 d])) ∧ w'.cell? ⟨w.heap.size, 7, none⟩ = some (.int .i64 x.place))
      (first | exact K4 | exact ⟨m0, p7⟩ | go_keep)
      (first
        | (refine (HC.out _ (Below.refl _ _).drew).mono ?_; rintro _ w4 ⟨rfl, -, hT4, hC4⟩; have K4 : w4.cell? ⟨mb, 0, none⟩ = some (.iface 294 (.agg #[.pointer (some ⟨kb, 0, none⟩), .int .i64 d])) ∧ w4.cell? ⟨w.heap.size, 7, none⟩ = some (.int .i64 x.place) := ⟨(HS.out w4 hT4).1.1, (HS.out w4 hT4).1.2.2⟩; have HT4 := hide hT4; have HC4 := hide hC4; clear hT4 hC4)
        | fail)
    have n1 := (HS.out w4 HT4.out).1.2.1
    have n2 := K4.2
    clear K4 HC
    go_wp2_with fail
    go_region_held3 (fun w' => w'.cell? ⟨mb, 1, none⟩ = some (.pointer (some ⟨g, 0, none⟩)) ∧ w'.cell? ⟨w.heap.size, 7, none⟩ = some (.int .i64 x.place))
      (first | exact K6 | exact ⟨n1, n2⟩ | go_keep)
      (first
        | (go_at_call 88; refine (HC4.out _ (Below.refl _ _).drew).mono ?_; rintro _ w6 ⟨rfl, HN6, -, hT6⟩; have K6 : w6.cell? ⟨mb, 1, none⟩ = some (.pointer (some ⟨g, 0, none⟩)) ∧ w6.cell? ⟨w.heap.size, 7, none⟩ = some (.int .i64 x.place) := ⟨(HS.out w6 hT6).1.2.1, (HS.out w6 hT6).1.2.2⟩; have HT6 := hide hT6; clear hT6)
        | fail)
    clear K6 n1 n2 HC4
    go_wp2
    go_ret2
    refine ⟨HB1.out.trans (HT6.out.below (fun j e => by have e2 : mb + 1 ≤ j := e; omega) HB1.out.size), .inr ⟨mb, kb, rb, g, by omega, rfl, hE, hO, ?_, ?_⟩⟩
    · rw [← HDe.out]
      exact (HS.out w6 HT6.out).2.trans HMd.out
    · rw [← HX.out, ← HDe.out]
      exact HN6.out
end Go.Proofs.YtkkommomefmpgaaGreat

/- StreamTells, as values: what is got from a kernel's file, whatever its faults are. -/
namespace Go.Proofs.YtkkommomefmpgaaGreat
open Go.RowKit Go.Maps

end Go.Proofs.YtkkommomefmpgaaGreat

/- How many calls of retry a kernel's description bears. -/
namespace Go.Proofs.YtkkommomefmpgaaGreat
open Go.RowKit Go.Maps

def kB (n : Nat) (K : KS) : Prop := K.reads + n * 8192 ≤ 4611686018427387904 ∧ K.writes + n * 536879104 ≤ 4611686018427387904
theorem ker_some (d : Int) (m : Nat) : ∀ k (K : KS), K.reads + k ≤ 4611686018427387904 → someOk (kerD d) kerR m k K ∧ (someV (kerD d) m k K).2.2.reads ≤ K.reads + k ∧ (someV (kerD d) m k K).2.2.writes = K.writes
  | 0, K, _ => ⟨trivial, Nat.le_refl _, rfl⟩
  | k + 1, K, h => by
    obtain ⟨c1, c2⟩ := read_counts K d (m : Int)
    have hr : (kerD d).read K m = K.read d (m : Int) := rfl
    generalize hq : K.read d (m : Int) = q at c1 c2 hr
    obtain ⟨Y, e, K2⟩ := q
    simp only at c1 c2
    obtain ⟨i1, i2, i3⟩ := ker_some d m k K2 (by omega)
    refine ⟨⟨by unfold kerR; omega, fun _ => by rw [hr]; exact i1⟩, ?_⟩
    rw [someV_next (kerD d) m k K hr]
    split
    · exact ⟨by omega, by omega⟩
    split
    · exact ⟨by simp only; omega, c2⟩
    split
    · exact ⟨by simp only; omega, c2⟩
    · exact ⟨by simp only; omega, c2⟩
theorem ker_put (d : Int) (bs : List UInt8) : ∀ k (K : KS) p t, K.writes + k ≤ 4611686018427387904 → putOk (kerD d) kerW bs k K p t ∧ (putV (kerD d) bs k K p t).2.2.writes ≤ K.writes + k ∧ (putV (kerD d) bs k K p t).2.2.reads = K.reads
  | 0, K, _, _, _ => ⟨trivial, Nat.le_refl _, rfl⟩
  | k + 1, K, p, t, h => by
    obtain ⟨c1, c2⟩ := write_counts K d (bs.drop p)
    have hr : (kerD d).write K (bs.drop p) = K.write d (bs.drop p) := rfl
    generalize hq : K.write d (bs.drop p) = q at c1 c2 hr
    obtain ⟨m, e, K2⟩ := q
    simp only at c1 c2
    refine ⟨fun _ => ⟨by unfold kerW; omega, fun _ _ => ?_, fun _ _ _ => ?_⟩, ?_⟩
    · rw [hr]; exact (ker_put d bs k K2 _ _ (by omega)).1
    · rw [hr]; exact (ker_put d bs k K2 _ _ (by omega)).1
    rw [putV_next (kerD d) bs k K p t hr]
    split
    · split
      · split
        · exact ⟨by simp only; omega, c2⟩
        · obtain ⟨-, i2, i3⟩ := ker_put d bs k K2 p (t + 1) (by omega)
          exact ⟨by omega, by omega⟩
      · split
        · exact ⟨by simp only; omega, c2⟩
        split
        · obtain ⟨-, i2, i3⟩ := ker_put d bs k K2 (p + m.toNat) 0 (by omega)
          exact ⟨by omega, by omega⟩
        · exact ⟨by simp only; omega, c2⟩
    · exact ⟨by simp only; omega, rfl⟩
set_option maxRecDepth 100000 in
theorem ker_some_b (d : Int) (m k n : Nat) (K : KS) (hk : k ≤ 8192) (h : kB (n + 1) K) : someOk (kerD d) kerR m k K ∧ kB n (someV (kerD d) m k K).2.2 := by
  unfold kB at *
  have h3 := ker_some d m k K (by omega)
  have b := h3.2.1
  have c := h3.2.2
  exact And.intro h3.1 ⟨by omega, by omega⟩
set_option maxRecDepth 100000 in
theorem ker_put_b (d : Int) (bs : List UInt8) (k n : Nat) (K : KS) (hk : k ≤ 536879104) (h : kB (n + 1) K) : putOk (kerD d) kerW bs k K 0 0 ∧ kB n (putV (kerD d) bs k K 0 0).2.2 := by
  unfold kB at *
  have h3 := ker_put d bs k K 0 0 (by omega)
  have b := h3.2.1
  have c := h3.2.2
  exact And.intro h3.1 ⟨by omega, by omega⟩
set_option maxRecDepth 100000 in
theorem ker_bears (d : Int) : Bears (kerD d) kerR kerW kB where
  put n K bs h hl := ker_put_b d bs (putF bs) n K (by unfold putF; omega) h
  some n K m h _ _ := ker_some_b d m 8192 n K (Nat.le_refl _) h
  less n K h := by unfold kB at *; omega
end Go.Proofs.YtkkommomefmpgaaGreat

/- Streams: what follows a call may be too; how many calls of retry it takes. -/
namespace Go.Proofs.YtkkommomefmpgaaGreat
open Go.RowKit

theorem may_iff (x : SS) : x.may = true ↔ 1 ≤ x.mode ∧ x.mode ≤ 3 ∧ 1 ≤ x.size ∧ x.size ≤ 65536 ∧ (x.out.length : Int) ≤ x.size ∧ (x.mode = 1 → x.out.length = 0) ∧ x.inn.length ≤ 65536 ∧ x.back.length ≤ 8 ∧
    ((x.dir = 0 ∧ x.out.length = 0 ∧ x.inn.length + x.back.length = 0) ∨ (x.dir = 1 ∧ x.rd = true ∧ x.out.length = 0 ∧ x.closed = false) ∨ (x.dir = 2 ∧ x.wt = true ∧ x.inn.length + x.back.length = 0 ∧ x.closed = false)) := by
  unfold SS.may SS.buf SS.way SS.toR SS.toW
  simp only [Bool.and_eq_true, decide_eq_true_eq]
  constructor
  · rintro ⟨⟨⟨⟨⟨⟨h1, h2⟩, h3, h4⟩, h5⟩, h6⟩, h7⟩, h8⟩
    have h9 : (x.out.length : Int) ≤ x.size ∧ (x.mode = 1 → x.out.length = 0) := by split at h5 <;> (refine ⟨by omega, fun _ => by omega⟩)
    refine ⟨h1, h2, h3, h4, h9.1, h9.2, by omega, by omega, ?_⟩
    split at h8
    · simp at h8; exact .inl ⟨by assumption, by rw [h8.2]; rfl, by omega⟩
    split at h8
    · simp at h8; exact .inr (.inl ⟨by assumption, h8.1.1, by rw [h8.1.2]; rfl, h8.2⟩)
    split at h8
    · simp at h8; exact .inr (.inr ⟨by assumption, h8.1.1, by omega, h8.2⟩)
    · simp at h8
  · rintro ⟨h1, h2, h3, h4, h5, h6, h7, h8, h9⟩
    refine ⟨⟨⟨⟨⟨⟨h1, h2⟩, h3, h4⟩, ?_⟩, by omega⟩, by omega⟩, ?_⟩
    · split
      · have := h6 (by assumption); omega
      · exact h5
    · rcases h9 with ⟨e, e1, e2⟩ | ⟨e, e1, e2, e3⟩ | ⟨e, e1, e2, e3⟩
      · rw [if_pos e]; simp; exact ⟨by omega, List.length_eq_zero_iff.1 e1⟩
      · rw [if_neg (by omega), if_pos e, e1, e3]; simp; exact List.length_eq_zero_iff.1 e2
      · rw [if_neg (by omega), if_neg (by omega), if_pos e, e1, e3]; simp; omega
theorem wr_may {x : SS} (h : x.noWrite = 0) : ({ x with dir := 2 } : SS).may = true ∧ x.closed = false := by
  obtain ⟨n1, n2⟩ := noWrite_may h
  obtain ⟨m1, -, m3⟩ := refuse_may n1
  obtain ⟨h1, h2, h3, h4, h5, h6, h7, h8, h9⟩ := (may_iff x).1 m1
  refine ⟨(may_iff _).2 ⟨h1, h2, h3, h4, h5, h6, h7, h8, .inr (.inr ⟨rfl, n2, ?_, m3⟩)⟩, m3⟩
  show x.inn.length + x.back.length = 0
  unfold SS.noWrite at h
  rw [if_neg (by simp [n1]), if_neg (by simp [n2])] at h
  by_cases hd : x.dir = 1 ∧ ¬ (x.fin = true ∧ (x.inn.length : Int) + (x.back.length : Int) = 0)
  · rw [if_pos hd] at h; omega
  rcases h9 with ⟨e1, e2, e3⟩ | ⟨e1, e2, e3, e4⟩ | ⟨e1, e2, e3, e4⟩
  · exact e3
  · by_cases he : x.fin = true ∧ (x.inn.length : Int) + (x.back.length : Int) = 0
    · have := he.2; omega
    · exact absurd ⟨e1, he⟩ hd
  · exact e3
theorem put_bear {S : Type} {D : RawD S} {rok wok : S → Prop} {G : Nat → S → Prop} (hG : Bears D rok wok G) {n : Nat} {s : S} (x : SS) (c : UInt8) (h : G (n + 2) s) : G n (x.put D s c).2.2 := by
  have hn := hG.less _ _ (hG.less _ _ h)
  unfold SS.put
  split
  case isFalse => exact hn
  case isTrue hw =>
    have hy := (wr_may hw).1
    generalize ({ x with dir := 2 } : SS) = y at *
    obtain ⟨h1, h2, h3, h4, h5, h6, h7, h8, h9⟩ := (may_iff y).1 hy
    have hlay : ∀ (z : SS) s', (z.out.length : Int) + 1 ≤ 65536 → G (n + 1) s' → G n (z.lay D s' c).2.2 := by
      intro z s' hz h'
      unfold SS.lay
      split
      · exact (hG.put n s' (z.out ++ [c]) h' (by simp only [List.length_append, List.length_singleton]; omega)).2
      · exact hG.less _ _ h'
    unfold SS.put1
    split
    · exact hG.less _ _ (hG.put (n + 1) s [c] h (by simp)).2
    rename_i hm
    split
    · rename_i hf
      have hd := (hG.put (n + 1) s y.out h (by omega)).2
      split
      · rename_i h0
        have e := deliver_ok D y s h0
        exact hlay _ _ (by rw [e]; simp) hd
      · exact hG.less _ _ hd
    · exact hlay y s (by omega) (hG.less _ _ h)
end Go.Proofs.YtkkommomefmpgaaGreat

/- Position: Tell, Seek and Rewind, as values, over any Raw that is one. -/
namespace Go.Proofs.YtkkommomefmpgaaGreat
open Go.RowKit

abbrev SkV (S : Type) := S → Int → Int → Int × Int × S
def SS.hold (x : SS) : Int := (x.inn.length : Int) + (x.back.length : Int)
def SS.bare (x : SS) : SS := ⟨x.rd, x.wt, x.mode, x.size, [], [], [], 0, false, x.bad, x.closed⟩
def SS.told {S : Type} (K : SkV S) (x : SS) (s : S) : SS × Int × Int × S :=
  if (K s 0 1).2.1 ≠ 0 then (x, 0, (K s 0 1).2.1, (K s 0 1).2.2)
  else if (K s 0 1).1 < x.hold then (x, 0, 4, (K s 0 1).2.2)
  else (x, (K s 0 1).1 - x.hold, 0, (K s 0 1).2.2)
def SS.tell {S : Type} (D : RawD S) (K : SkV S) (x : SS) (s : S) : SS × Int × Int × S :=
  if x.refuse true ≠ 0 then (x, 0, x.refuse true, s)
  else if (x.deliver D s).2.1 ≠ 0 then ((x.deliver D s).1, 0, (x.deliver D s).2.1, (x.deliver D s).2.2)
  else (x.deliver D s).1.told K (x.deliver D s).2.2
def movedV {S : Type} (K : SkV S) (s : S) (n off wh : Int) : Int × Int × S :=
  if wh ≠ 1 then K s off wh
  else if (K s 0 1).2.1 ≠ 0 then (0, (K s 0 1).2.1, (K s 0 1).2.2)
  else if 0 ≤ (K s 0 1).1 - n + off ∧ (K s 0 1).1 - n + off ≤ 1048576 then K (K s 0 1).2.2 ((K s 0 1).1 - n + off) 0
  else (0, 4, (K s 0 1).2.2)
def SS.sought {S : Type} (K : SkV S) (x : SS) (s : S) (off wh : Int) : SS × Int × Int × S :=
  if (movedV K s x.hold off wh).2.1 ≠ 0 then (x, 0, (movedV K s x.hold off wh).2.1, (movedV K s x.hold off wh).2.2)
  else (x.bare, (movedV K s x.hold off wh).1, 0, (movedV K s x.hold off wh).2.2)
def SS.seek {S : Type} (D : RawD S) (K : SkV S) (x : SS) (s : S) (off wh : Int) : SS × Int × Int × S :=
  if x.refuse true ≠ 0 then (x, 0, x.refuse true, s)
  else if wh < 0 ∨ 2 < wh then (x, 0, 1, s)
  else if (x.deliver D s).2.1 ≠ 0 then ((x.deliver D s).1, 0, (x.deliver D s).2.1, (x.deliver D s).2.2)
  else (x.deliver D s).1.sought K (x.deliver D s).2.2 off wh
theorem flush_deliver {S : Type} (D : RawD S) {x : SS} (s : S) (h : x.refuse true = 0) : (SS.mk (x.flush D s).1.rd (x.flush D s).1.wt (x.flush D s).1.mode (x.flush D s).1.size (x.flush D s).1.out (x.flush D s).1.inn (x.flush D s).1.back x.dir (x.flush D s).1.fin (x.flush D s).1.bad (x.flush D s).1.closed, (x.flush D s).2.1, (x.flush D s).2.2) = x.deliver D s := by
  obtain ⟨hm, -, hc⟩ := refuse_may h
  unfold SS.flush
  rw [if_neg (by simp [h])]
  have hdir : (x.deliver D s).1.dir = x.dir := by unfold SS.deliver SS.mark; split <;> rfl
  split
  · split
    · rename_i h1 h2
      have e := deliver_ok D x s h2
      have e2 : x.deliver D s = ((x.deliver D s).1, (x.deliver D s).2.1, (x.deliver D s).2.2) := rfl
      rw [e2, h2, e]
    · rw [← hdir]
  · rename_i h1
    have ho : x.out = [] := by
      obtain ⟨-, -, -, -, -, -, -, -, h9⟩ := (may_iff x).1 hm
      rcases h9 with ⟨e1, e2, e3⟩ | ⟨e1, e2, e3, e4⟩ | ⟨e1, e2, e3, e4⟩
      · exact List.length_eq_zero_iff.1 e2
      · exact List.length_eq_zero_iff.1 e3
      · exact absurd e1 h1
    unfold SS.deliver
    rw [ho, putV_done _ _ _ _ _ _ (by simp)]
    unfold SS.mark
    simp [← ho]
structure RawS {S : Type} (K : SkV S) (T : TypeId) (v : Value) (fs : FuncId) (sok : S → Prop) (At : World → (Nat → Prop) → S → Prop) : Prop where
  mseek : ∀ w, (method 485 T v "Seek").run Tryz.prog w = .ok (fs, v) w
  cseek : ∀ a w, (callFunc fs a).run Tryz.prog w = .ok (.enter fs a) w
  seek : ∀ {w : World} {O : Nat → Prop} {s : S} (o wh : Int), At w O s → sok s → -9223372036854775808 ≤ o ∧ o ≤ 9223372036854775807 → Calls Tryz.prog fs #[v, .int .i64 o, .int .i64 wh] w fun e w' => e = .returned (.tuple #[.int .i64 (K s o wh).1, .int .i64 (K s o wh).2.1]) ∧ OStep (fun w O => At w O (K s o wh).2.2) w O w'
  told : ∀ {w : World} {O : Nat → Prop} {s : S} (o wh : Int), At w O s → 0 ≤ (K s o wh).1 ∧ (K s o wh).1 ≤ 1048576
def BearsS {S : Type} (K : SkV S) (sok : S → Prop) (G : Nat → S → Prop) : Prop := ∀ n s o wh, G (n + 1) s → sok s ∧ G n (K s o wh).2.2
end Go.Proofs.YtkkommomefmpgaaGreat

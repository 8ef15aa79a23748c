/- What the proof stands on, part 23: the contracts of the program's calls that it reaches. -/
import Derived.Test.YtanbiinomagdbaaGreatKM22
/- Plant.Make, of a reader. -/
namespace Go.Proofs.YtanbiinomagdbaaGreat
open Go.RowKit

set_option maxRecDepth 100000 in
set_option maxHeartbeats 4000000 in
theorem make_reader (x : Plt) (dv rv wv fv lv : Value) (w : World) (h : PltIn w x dv rv wv fv lv) (hk : x.k6 = 2) (hp : I64 x.place) :
    Calls Tryz.prog 18 #[.agg #[.int .i64 x.kind, .int .i64 x.size, dv, rv, wv, fv, lv, .int .i64 x.place, .bool x.app]] w (MakeOut x w) := by
  have HP := hide h
  obtain ⟨da, dc, rfl, -⟩ := h.d
  obtain ⟨ra, rc, rfl, -⟩ := h.r
  obtain ⟨wa, wc, rfl⟩ := h.w.form
  obtain ⟨fa, fc, rfl, -⟩ := h.f.form
  obtain ⟨la, lc, rfl, -⟩ := RowsR.form h.l
  unfold Plt.k6 at hk
  have HY : Hid (∀ W, Below w.heap.size w W → Bys W (.slice da x.data.length dc) x.data) := hide fun W hW => by
    obtain ⟨va, vc, e, hb, -⟩ := HP.out.d
    cases e
    exact hb.below hW
  clear h
  go_enter Tryz.func18, Tryz.ntmps18
  go_wp2_with fail
  have hz1 : (w.alloc (Obj.cells #[.int .i64 x.kind, .int .i64 x.size, .slice da x.data.length dc, .slice ra x.reads.length rc, .slice wa x.writes.length wc, .slice fa x.fs.length fc, .slice la x.lines.length lc, .int .i64 x.place, .bool x.app] 50)).heap.size = w.heap.size + 1 := Array.size_push _
  have hz0 : ((w.alloc (Obj.cells #[.int .i64 x.kind, .int .i64 x.size, .slice da x.data.length dc, .slice ra x.reads.length rc, .slice wa x.writes.length wc, .slice fa x.fs.length fc, .slice la x.lines.length lc, .int .i64 x.place, .bool x.app] 50)).alloc (Obj.cells #[.nilIface, .pointer none, .pointer none, .pointer none, .pointer none, .pointer none, .pointer none] 65)).heap.size = w.heap.size + 1 + 1 := (Array.size_push _).trans (by rw [show (w.alloc (Obj.cells #[.int .i64 x.kind, .int .i64 x.size, .slice da x.data.length dc, .slice ra x.reads.length rc, .slice wa x.writes.length wc, .slice fa x.fs.length fc, .slice la x.lines.length lc, .int .i64 x.place, .bool x.app] 50)).heap.size = w.heap.size + 1 from hz1])
  have HB0 := hide ((recv4 w (Obj.cells #[.int .i64 x.kind, .int .i64 x.size, .slice da x.data.length dc, .slice ra x.reads.length rc, .slice wa x.writes.length wc, .slice fa x.fs.length fc, .slice la x.lines.length lc, .int .i64 x.place, .bool x.app] 50)).trans ((recv4 (w.alloc (Obj.cells #[.int .i64 x.kind, .int .i64 x.size, .slice da x.data.length dc, .slice ra x.reads.length rc, .slice wa x.writes.length wc, .slice fa x.fs.length fc, .slice la x.lines.length lc, .int .i64 x.place, .bool x.app] 50)) (Obj.cells #[.nilIface, .pointer none, .pointer none, .pointer none, .pointer none, .pointer none, .pointer none] 65)).mono (recv4 w (Obj.cells #[.int .i64 x.kind, .int .i64 x.size, .slice da x.data.length dc, .slice ra x.reads.length rc, .slice wa x.writes.length wc, .slice fa x.fs.length fc, .slice la x.lines.length lc, .int .i64 x.place, .bool x.app] 50)).size))
  have hq : ((w.alloc (Obj.cells #[.int .i64 x.kind, .int .i64 x.size, .slice da x.data.length dc, .slice ra x.reads.length rc, .slice wa x.writes.length wc, .slice fa x.fs.length fc, .slice la x.lines.length lc, .int .i64 x.place, .bool x.app] 50)).alloc (Obj.cells #[.nilIface, .pointer none, .pointer none, .pointer none, .pointer none, .pointer none, .pointer none] 65)).heap[w.heap.size]? = some (Obj.cells #[.int .i64 x.kind, .int .i64 x.size, .slice da x.data.length dc, .slice ra x.reads.length rc, .slice wa x.writes.length wc, .slice fa x.fs.length fc, .slice la x.lines.length lc, .int .i64 x.place, .bool x.app] 50) := ((recv4 (w.alloc (Obj.cells #[.int .i64 x.kind, .int .i64 x.size, .slice da x.data.length dc, .slice ra x.reads.length rc, .slice wa x.writes.length wc, .slice fa x.fs.length fc, .slice la x.lines.length lc, .int .i64 x.place, .bool x.app] 50)) (Obj.cells #[.nilIface, .pointer none, .pointer none, .pointer none, .pointer none, .pointer none, .pointer none] 65)).block w.heap.size (by omega)).trans (heap_alloc_new w (Obj.cells #[.int .i64 x.kind, .int .i64 x.size, .slice da x.data.length dc, .slice ra x.reads.length rc, .slice wa x.writes.length wc, .slice fa x.fs.length fc, .slice la x.lines.length lc, .int .i64 x.place, .bool x.app] 50))
  have hm0 : ((w.alloc (Obj.cells #[.int .i64 x.kind, .int .i64 x.size, .slice da x.data.length dc, .slice ra x.reads.length rc, .slice wa x.writes.length wc, .slice fa x.fs.length fc, .slice la x.lines.length lc, .int .i64 x.place, .bool x.app] 50)).alloc (Obj.cells #[.nilIface, .pointer none, .pointer none, .pointer none, .pointer none, .pointer none, .pointer none] 65)).heap[w.heap.size + 1]? = some (Obj.cells #[.nilIface, .pointer none, .pointer none, .pointer none, .pointer none, .pointer none, .pointer none] 65) := by
    have := heap_alloc_new (w.alloc (Obj.cells #[.int .i64 x.kind, .int .i64 x.size, .slice da x.data.length dc, .slice ra x.reads.length rc, .slice wa x.writes.length wc, .slice fa x.fs.length fc, .slice la x.lines.length lc, .int .i64 x.place, .bool x.app] 50)) (Obj.cells #[.nilIface, .pointer none, .pointer none, .pointer none, .pointer none, .pointer none, .pointer none] 65)
    rwa [hz1] at this
  have HQ := hide (And.intro hq hm0)
  generalize (w.alloc (Obj.cells #[.int .i64 x.kind, .int .i64 x.size, .slice da x.data.length dc, .slice ra x.reads.length rc, .slice wa x.writes.length wc, .slice fa x.fs.length fc, .slice la x.lines.length lc, .int .i64 x.place, .bool x.app] 50)).alloc (Obj.cells #[.nilIface, .pointer none, .pointer none, .pointer none, .pointer none, .pointer none, .pointer none] 65) = W0 at *
  clear hq hm0 hz1
  obtain ⟨mb, hmb⟩ : ∃ mb, mb = w.heap.size + 1 := ⟨_, rfl⟩
  rw [← hmb] at hz0 HQ
  simp only [← hmb]
  have hwm : w.heap.size < mb := by omega
  clear hmb
  refine (rnewReader_any _ x.data W0 (HY.out _ HB0.out)).mono ?_
  rintro _ w1 ⟨p1, rfl, hB1, hR1⟩
  have r1 := (hB1.block mb (by omega)).trans HQ.out.2
  have l1 := (hB1.block w.heap.size (by omega)).trans HQ.out.1
  have mc := cell_of_row w1 mb 1 _ _ _ r1
  have mf := frozen_of_row w1 mb 1 _ _ r1
  have s1 := Go.heap_setCell_same w1 mb 1 _ _ (.pointer p1) r1
  have t1 := (heap_setCell_other w1 ⟨mb, 1, none⟩ w.heap.size (.pointer p1) (by show w.heap.size ≠ mb; omega)).trans l1
  have pc1 := cell_of_row _ w.heap.size 1 _ _ _ t1
  have pc2 := cell_of_row _ w.heap.size 2 _ _ _ t1
  simp at mc pc1 pc2
  have hzw : W0.heap.size ≤ w1.heap.size := hB1.size
  have HB1 := hide ((HB0.out.trans (hB1.mono HB0.out.size)).setCell (p := ⟨mb, 1, none⟩) (by show w.heap.size ≤ mb; omega) (.pointer p1))
  have HR1 : Hid ((grE x.data ≠ 0 ∧ p1 = none) ∨ (grE x.data = 0 ∧ ∃ g, p1 = some ⟨g, 0, none⟩ ∧ RMemAt (w1.setCell ⟨mb, 1, none⟩ (.pointer p1)) (fun k => mb + 1 ≤ k) g 3 ⟨x.data, x.data.length, 0⟩)) := hide (by
    rcases hR1 with h | ⟨h1, g, h2, h3⟩
    · exact .inl h
    · exact .inr ⟨h1, g, h2, (h3.mono (fun k e => by rw [hz0] at e; exact e)).keep (fun k e _ => heap_setCell_other _ _ _ _ (by show k ≠ mb; have e2 : mb + 1 ≤ k := e; omega))⟩)
  have HS1 := hide (And.intro s1 t1)
  have hzs : (w1.setCell ⟨mb, 1, none⟩ (.pointer p1)).heap.size = w1.heap.size := by simp [World.setCell]
  clear hB1 hR1 r1 l1 s1 t1 HQ HB0
  go_wp2_with fail
  generalize w1.setCell ⟨mb, 1, none⟩ (.pointer p1) = W1 at *
  refine (newReader_any _ x.data _ (HY.out _ HB1.out)).mono ?_
  rintro _ w2 ⟨p2, rfl, hB2, hR2⟩
  have r2 := (hB2.block mb (by omega)).trans HS1.out.1
  have l2 := (hB2.block w.heap.size (by omega)).trans HS1.out.2
  have mc0 := cell_of_row w2 mb 0 _ _ _ r2
  have mf0 := frozen_of_row w2 mb 0 _ _ r2
  have s3 := Go.heap_setCell_same w2 mb 0 _ _ (.iface 177 (.pointer p2)) r2
  simp at mc0
  have HS3 := hide s3
  have HR2 := hide hR2
  have HB2 := hide hB2
  clear hB2 hR2 r2 l2 s3 mc mf pc1 pc2
  by_cases hE : grE x.data = 0
  · obtain ⟨g, rfl, hM1⟩ : ∃ g, p1 = some ⟨g, 0, none⟩ ∧ RMemAt W1 (fun k => mb + 1 ≤ k) g 3 ⟨x.data, x.data.length, 0⟩ := by
      rcases HR1.out with ⟨h, _⟩ | ⟨_, h⟩
      · exact absurd hE h
      · exact h
    obtain ⟨y, rfl, hM2⟩ : ∃ y, p2 = some ⟨y, 0, none⟩ ∧ MemAt w2 (fun k => W1.heap.size ≤ k) y ⟨x.data, x.data.length, 0⟩ := by
      rcases HR2.out with ⟨h, _⟩ | ⟨_, h⟩
      · exact absurd hE h
      · exact h
    rw [hE]
    have hB2z := HB2.out.size
    have HPP := hide (Both.turned (Both.make (Q := fun j => mb + 1 ≤ j) (rmem_o _ _ _) (mem_o _ _) hM1 (fun j e _ => e) (fun j e _ => by omega) HB2.out hM2).swap (mem_o _ _) (rmem_o _ _ _) ((Turned.refl (fun k => k = mb) w2).set (j := 0) (u := .iface 177 (.pointer (some ⟨y, 0, none⟩))) (.inl rfl)) (fun j e e' => by have e2 : j = mb := e'; have e3 : mb + 1 ≤ j := e; omega))
    have HMd : Hid (MdAt mb 177 (.pointer (some ⟨y, 0, none⟩)) g none none none (w2.setCell ⟨mb, 0, none⟩ (.iface 177 (.pointer (some ⟨y, 0, none⟩))))) := HS3
    have HL := hide ((heap_setCell_other w2 ⟨mb, 0, none⟩ w.heap.size (.iface 177 (.pointer (some ⟨y, 0, none⟩))) (by show w.heap.size ≠ mb; omega)).trans ((HB2.out.block w.heap.size (by omega)).trans HS1.out.2))
    have HB3 := hide ((HB1.out.trans (HB2.out.mono HB1.out.size)).setCell (p := ⟨mb, 0, none⟩) (by show w.heap.size ≤ mb; omega) (.iface 177 (.pointer (some ⟨y, 0, none⟩))))
    clear hM1 hM2 HR1 HR2 HS3 HS1
    go_wp2_with fail
    generalize w2.setCell ⟨mb, 0, none⟩ (.iface 177 (.pointer (some ⟨y, 0, none⟩))) = W3 at *
    have K := pk_reader y g mb
    have hm3 := K.mseek
    have hc3 := K.cseek
    have m0 : W3.cell? ⟨mb, 0, none⟩ = some (.iface 177 (.pointer (some ⟨y, 0, none⟩))) := cell_of_row W3 mb 0 _ _ _ HMd.out
    have m1 : W3.cell? ⟨mb, 1, none⟩ = some (.pointer (some ⟨g, 0, none⟩)) := cell_of_row W3 mb 1 _ _ _ HMd.out
    have p7 : W3.cell? ⟨w.heap.size, 7, none⟩ = some (.int .i64 x.place) := cell_of_row W3 w.heap.size 7 _ _ _ HL.out
    have hml : mb < W3.heap.size := World.block_lt_of_cell? W3 _ m0
    have HC := hide (pk_num K.oA K.oB (A := fun S w O => MemAt w O y S) (B := fun S w O => RMemAt w O g 3 S) HPP.out (by omega) (s' := (rdD.seek ⟨x.data, x.data.length, 0⟩ x.place 0).2.2) (fun O wb hA _ _ => K.ps x.place 0 hA trivial hp) (fun O wb hA _ _ => K.qs x.place 0 hA trivial hp))
    have HS := hide (fun (W' : World) (hT : Turned (fun j => mb + 1 ≤ j) W3 W') => (show (W'.cell? ⟨mb, 0, none⟩ = some (.iface 177 (.pointer (some ⟨y, 0, none⟩))) ∧ W'.cell? ⟨mb, 1, none⟩ = some (.pointer (some ⟨g, 0, none⟩)) ∧ W'.cell? ⟨w.heap.size, 7, none⟩ = some (.int .i64 x.place)) ∧ W'.heap[mb]? = W3.heap[mb]? from
      ⟨⟨hT.cell m0 (by show ¬ mb + 1 ≤ mb; omega), hT.cell m1 (by show ¬ mb + 1 ≤ mb; omega), hT.cell p7 (by show ¬ mb + 1 ≤ w.heap.size; omega)⟩, hT.block mb hml (by show ¬ mb + 1 ≤ mb; omega)⟩))
    have HK := hide K
    clear K
    generalize rdD.seek ⟨x.data, x.data.length, 0⟩ x.place 0 = X at *
    obtain ⟨N, E, s2⟩ := X
    simp only at *
    go_region_held3 (fun w' => w'.cell? ⟨mb, 0, none⟩ = some (.iface 177 (.pointer (some ⟨y, 0, none⟩))) ∧ w'.cell? ⟨w.heap.size, 7, none⟩ = some (.int .i64 x.place))
      (first | exact K4 | exact ⟨m0, p7⟩ | go_keep)
      (first
        | (refine (HC.out _ (Below.refl _ _).drew).mono ?_; rintro _ w4 ⟨rfl, -, hT4, hC4⟩; have K4 : w4.cell? ⟨mb, 0, none⟩ = some (.iface 177 (.pointer (some ⟨y, 0, none⟩))) ∧ w4.cell? ⟨w.heap.size, 7, none⟩ = some (.int .i64 x.place) := ⟨(HS.out w4 hT4).1.1, (HS.out w4 hT4).1.2.2⟩; have HT4 := hide hT4; have HC4 := hide hC4; clear hT4 hC4)
        | fail)
    have n1 := (HS.out w4 HT4.out).1.2.1
    have n2 := K4.2
    clear K4 HC
    go_wp2_with fail
    go_region_held3 (fun w' => w'.cell? ⟨mb, 1, none⟩ = some (.pointer (some ⟨g, 0, none⟩)) ∧ w'.cell? ⟨w.heap.size, 7, none⟩ = some (.int .i64 x.place))
      (first | exact K6 | exact ⟨n1, n2⟩ | go_keep)
      (first
        | (go_at_call 27; refine (HC4.out _ (Below.refl _ _).drew).mono ?_; rintro _ w6 ⟨rfl, HN6, -, hT6⟩; have K6 : w6.cell? ⟨mb, 1, none⟩ = some (.pointer (some ⟨g, 0, none⟩)) ∧ w6.cell? ⟨w.heap.size, 7, none⟩ = some (.int .i64 x.place) := ⟨(HS.out w6 hT6).1.2.1, (HS.out w6 hT6).1.2.2⟩; have HT6 := hide hT6; clear hT6)
        | fail)
    clear K6 n1 n2 HC4
    go_wp2
    go_ret2
    refine ⟨HB3.out.trans (HT6.out.below (fun j e => by have e2 : mb + 1 ≤ j := e; omega) HB3.out.size), .inr ⟨mb, by omega, rfl, MS, rdD, 177, _, g, _, _, _, _, _, _, _, s2, HK.out, HN6.out, ?_, fun W W' h e => e.trans h, fun W h => ⟨cell_of_row W mb 0 _ _ _ h, cell_of_row W mb 1 _ _ _ h⟩, fun _ => trivial⟩⟩
    exact (HS.out w6 HT6.out).2.trans HMd.out
  · have hE2 : (grE x.data != 0) = true := by simpa using hE
    have hE3 : (grE x.data == 0) = false := by simpa using hE
    go_wp2_with fail
    go_ret2
    exact ⟨(HB1.out.trans (HB2.out.mono HB1.out.size)).setCell (p := ⟨mb, 0, none⟩) (by show w.heap.size ≤ mb; omega) _, .inl ⟨_, rfl⟩⟩
end Go.Proofs.YtanbiinomagdbaaGreat

/- MemoryMakes: the walk. -/
namespace Go.Proofs.YtanbiinomagdbaaGreat
open Go.RowKit

structure PB (W : World) (g : Nat) (x : Plt) (dv rv wv : Value) : Prop where
  c1 : W.cell? ⟨g, 1, none⟩ = some (.int .i64 x.size)
  c2 : W.cell? ⟨g, 2, none⟩ = some dv
  c3 : W.cell? ⟨g, 3, none⟩ = some rv
  c4 : W.cell? ⟨g, 4, none⟩ = some wv
end Go.Proofs.YtanbiinomagdbaaGreat

/- The reference's custom stream that was made. -/
namespace Go.Proofs.YtanbiinomagdbaaGreat
open Go.RowKit

theorem rcus_new {W : World} {g : Nat} {l : List (List UInt8 × Int)} {ws : List Int} (h : RCus0 W g l ws) (z1 : l.length ≤ 4096) (z2 : ws.length ≤ 4096) (z3 : ∀ x ∈ l, x.1.length ≤ 1048576) : RCusAt W (fun k => g ≤ k) g ⟨l, ws, []⟩ := by
  obtain ⟨sa, sc, xs, wv, hb, hA, hX, hN⟩ := h
  have tak : W.ownsRow 0 5 1 (.slice none 0 0) 0 [] := World.ownsRow_nil _ _ _ _
  refine ⟨.slice sa l.length sc, wv, .slice none 0 0, 0, fun k => (Value.slice sa l.length sc).ownBlock = some k ∨ ∃ (va : Option Addr) (n vc : Nat) (d : List UInt8), W.ownsRow (g + 1) 5 1 (.slice va n vc) n (d.map bv) ∧ (Value.slice va n vc).ownBlock = some k, fun k => wv.ownBlock = some k, ⟨hb.row, ?_, owns_nrow hN (fun k e => e), tak, fun k e => (by cases e), fun k e => ?_, fun k e => ⟨?_, ?_⟩, Nat.le_refl _, z1, z2, z3⟩⟩
  · show Ans W _ (.slice sa l.length sc) l
    rcases hA.2 with ⟨e, h0⟩ | ⟨q, cap, cur, e, hr⟩
    · refine ⟨sa, sc, rfl, ?_, fun h1 => absurd h0 (by omega)⟩
      have : l.length = 0 := h0
      omega
    · have hcap := owns_cap hA
      refine ⟨sa, sc, rfl, hcap, fun h1 => ?_⟩
      cases e
      refine ⟨q, 0, rfl, .inl rfl, fun j hj => ?_⟩
      obtain ⟨va, vc, e1, e2, e3⟩ := hX.2 j hj
      have hxl := hX.1
      have k1 := hA.cellAt (j * 2) (by omega)
      have k2 := hA.cellAt (j * 2 + 1) (by omega)
      rw [e1] at k1
      rw [e2] at k2
      rw [Nat.zero_add]
      exact ⟨va, vc, k1, k2, hA.frozenAt _, hA.frozenAt _, Bys.of_owns e3, owns_cap e3, fun _ k hk => .inr ⟨va, _, vc, _, e3, hk⟩⟩
  · rcases e with e | ⟨va, n, vc, d, e1, e2⟩
    · have := (hA.lt k e).1
      exact ⟨by show g ≤ k; omega, by omega, fun e' => owns_other hA hN (by decide) k e e'⟩
    · have := (e1.lt k e2).1
      exact ⟨by show g ≤ k; omega, by omega, fun e' => owns_other e1 hN (by decide) k e2 e'⟩
  · have := (hN.lt k e).1
    show g ≤ k
    omega
  · have := (hN.lt k e).1
    omega
end Go.Proofs.YtanbiinomagdbaaGreat

/- Plant.Make, of a custom stream. -/
namespace Go.Proofs.YtanbiinomagdbaaGreat
open Go.RowKit

theorem newCus2 (v1 v2 : Value) (l : List (List UInt8 × Int)) (ws : List Int) (w : World) (h1 : AnsR w v1 l) (h2 : IntsR w v2 ws) : Calls Tryz.prog 93 #[v1, v2] w fun e w' => ∃ p, e = .returned (.tuple #[.pointer p, .int .i64 (cusE l ws)]) ∧ Below w.heap.size w w' ∧ ((cusE l ws ≠ 0 ∧ True) ∨ (cusE l ws = 0 ∧ ∃ y, p = some ⟨y, 0, none⟩ ∧ CusAt w' (fun k => w.heap.size ≤ k) y ⟨l, ws, []⟩)) := by
  unfold cusE
  by_cases hc : 4096 < l.length ∨ 4096 < ws.length
  · rw [if_pos hc]
    obtain ⟨a1, c1, rfl, _⟩ := h1
    obtain ⟨a2, c2, rfl⟩ := h2.form
    refine (newCustom_count a1 a2 _ _ c1 c2 w hc).mono ?_
    rintro e w' ⟨rfl, rfl⟩
    exact ⟨_, rfl, Below.refl _ _, .inl ⟨by decide, trivial⟩⟩
  rw [if_neg hc]
  refine (newCustom_any v1 v2 l ws w h1 h2 (by omega) (by omega)).mono ?_
  rintro e w' (⟨h3, rfl, h4⟩ | ⟨h3, g, rfl, h5, h4⟩)
  · rw [if_pos h3]
    exact ⟨_, rfl, h4, .inl ⟨by decide, trivial⟩⟩
  · rw [if_neg (fun ⟨x, hx, h⟩ => absurd (h3 x hx) (by omega))]
    exact ⟨_, rfl, h4, .inr ⟨rfl, g, rfl, h5⟩⟩
theorem rnewCus2 (v1 v2 : Value) (l : List (List UInt8 × Int)) (ws : List Int) (w : World) (h1 : AnsR w v1 l) (h2 : IntsR w v2 ws) : Calls Tryz.prog 92 #[v1, v2] w fun e w' => ∃ p, e = .returned (.tuple #[.pointer p, .int .i64 (cusE l ws)]) ∧ Below w.heap.size w w' ∧ ((cusE l ws ≠ 0 ∧ True) ∨ (cusE l ws = 0 ∧ ∃ g, p = some ⟨g, 0, none⟩ ∧ RCusAt w' (fun k => w.heap.size ≤ k) g ⟨l, ws, []⟩)) := by
  unfold cusE
  have h1' := h1
  obtain ⟨a1, c1, rfl, _⟩ := h1
  by_cases hc : 4096 < l.length ∨ 4096 < ws.length
  · rw [if_pos hc]
    obtain ⟨a2, c2, rfl⟩ := h2.form
    refine (rnewCustom_count a1 a2 _ _ c1 c2 w hc).mono ?_
    rintro e w' ⟨rfl, rfl⟩
    exact ⟨_, rfl, Below.refl _ _, .inl ⟨by decide, trivial⟩⟩
  rw [if_neg hc]
  refine (rnewCustom_any a1 c1 v2 l ws w h1' h2 (by omega) (by omega)).mono ?_
  rintro e w' ⟨h4, ⟨h3, rfl⟩ | ⟨h3, rfl, h5⟩⟩
  · rw [if_pos h3]
    exact ⟨_, rfl, h4, .inl ⟨by decide, trivial⟩⟩
  · rw [if_neg (fun ⟨x, hx, h⟩ => absurd (h3 x hx) (by omega))]
    exact ⟨_, rfl, h4, .inr ⟨rfl, _, rfl, rcus_new h5 (by omega) (by omega) h3⟩⟩
theorem RCusAt.mono {W : World} {O O' : Nat → Prop} {g : Nat} {C : CS} (h : RCusAt W O g C) (ho : ∀ k, O k → O' k) : RCusAt W O' g C := by
  obtain ⟨rv, wv, tv, m, R, N, h⟩ := h
  exact ⟨rv, wv, tv, m, R, N, h.row, h.ans, h.num, h.tak, fun k e => ⟨ho k (h.ot k e).1, (h.ot k e).2⟩, fun k e => ⟨ho k (h.oR k e).1, (h.oR k e).2⟩, fun k e => ⟨ho k (h.oN k e).1, (h.oN k e).2⟩, ho _ h.og, h.z1, h.z2, h.z3⟩
set_option maxRecDepth 100000 in
set_option maxHeartbeats 4000000 in
theorem make_custom (x : Plt) (dv rv wv fv lv : Value) (w : World) (h : PltIn w x dv rv wv fv lv) (hk : x.k6 = 3) (hz : x.reads.length * 32 ≤ 140737488351232) :
    Calls Tryz.prog 18 #[.agg #[.int .i64 x.kind, .int .i64 x.size, dv, rv, wv, fv, lv, .int .i64 x.place, .bool x.app]] w (MakeOut x w) := by
  have HP := hide h
  obtain ⟨da, dc, rfl, -⟩ := h.d
  obtain ⟨ra, rc, rfl, -⟩ := h.r
  obtain ⟨wa, wc, rfl⟩ := h.w.form
  obtain ⟨fa, fc, rfl, -⟩ := h.f.form
  obtain ⟨la, lc, rfl, -⟩ := RowsR.form h.l
  have HK6 := hide hk
  unfold Plt.k6 at hk
  have HY : Hid (∀ W, Below w.heap.size w W → Bys W (.slice da x.data.length dc) x.data) := hide fun W hW => by
    obtain ⟨va, vc, e, hb, -⟩ := HP.out.d
    cases e
    exact hb.below hW
  clear h
  go_enter Tryz.func18, Tryz.ntmps18
  go_wp2_with fail
  have hz1 : (w.alloc (Obj.cells #[.int .i64 x.kind, .int .i64 x.size, .slice da x.data.length dc, .slice ra x.reads.length rc, .slice wa x.writes.length wc, .slice fa x.fs.length fc, .slice la x.lines.length lc, .int .i64 x.place, .bool x.app] 50)).heap.size = w.heap.size + 1 := Array.size_push _
  have hz0 : ((w.alloc (Obj.cells #[.int .i64 x.kind, .int .i64 x.size, .slice da x.data.length dc, .slice ra x.reads.length rc, .slice wa x.writes.length wc, .slice fa x.fs.length fc, .slice la x.lines.length lc, .int .i64 x.place, .bool x.app] 50)).alloc (Obj.cells #[.nilIface, .pointer none, .pointer none, .pointer none, .pointer none, .pointer none, .pointer none] 65)).heap.size = w.heap.size + 1 + 1 := (Array.size_push _).trans (by rw [show (w.alloc (Obj.cells #[.int .i64 x.kind, .int .i64 x.size, .slice da x.data.length dc, .slice ra x.reads.length rc, .slice wa x.writes.length wc, .slice fa x.fs.length fc, .slice la x.lines.length lc, .int .i64 x.place, .bool x.app] 50)).heap.size = w.heap.size + 1 from hz1])
  have HB0 := hide ((recv4 w (Obj.cells #[.int .i64 x.kind, .int .i64 x.size, .slice da x.data.length dc, .slice ra x.reads.length rc, .slice wa x.writes.length wc, .slice fa x.fs.length fc, .slice la x.lines.length lc, .int .i64 x.place, .bool x.app] 50)).trans ((recv4 (w.alloc (Obj.cells #[.int .i64 x.kind, .int .i64 x.size, .slice da x.data.length dc, .slice ra x.reads.length rc, .slice wa x.writes.length wc, .slice fa x.fs.length fc, .slice la x.lines.length lc, .int .i64 x.place, .bool x.app] 50)) (Obj.cells #[.nilIface, .pointer none, .pointer none, .pointer none, .pointer none, .pointer none, .pointer none] 65)).mono (recv4 w (Obj.cells #[.int .i64 x.kind, .int .i64 x.size, .slice da x.data.length dc, .slice ra x.reads.length rc, .slice wa x.writes.length wc, .slice fa x.fs.length fc, .slice la x.lines.length lc, .int .i64 x.place, .bool x.app] 50)).size))
  have hq : ((w.alloc (Obj.cells #[.int .i64 x.kind, .int .i64 x.size, .slice da x.data.length dc, .slice ra x.reads.length rc, .slice wa x.writes.length wc, .slice fa x.fs.length fc, .slice la x.lines.length lc, .int .i64 x.place, .bool x.app] 50)).alloc (Obj.cells #[.nilIface, .pointer none, .pointer none, .pointer none, .pointer none, .pointer none, .pointer none] 65)).heap[w.heap.size]? = some (Obj.cells #[.int .i64 x.kind, .int .i64 x.size, .slice da x.data.length dc, .slice ra x.reads.length rc, .slice wa x.writes.length wc, .slice fa x.fs.length fc, .slice la x.lines.length lc, .int .i64 x.place, .bool x.app] 50) := ((recv4 (w.alloc (Obj.cells #[.int .i64 x.kind, .int .i64 x.size, .slice da x.data.length dc, .slice ra x.reads.length rc, .slice wa x.writes.length wc, .slice fa x.fs.length fc, .slice la x.lines.length lc, .int .i64 x.place, .bool x.app] 50)) (Obj.cells #[.nilIface, .pointer none, .pointer none, .pointer none, .pointer none, .pointer none, .pointer none] 65)).block w.heap.size (by omega)).trans (heap_alloc_new w (Obj.cells #[.int .i64 x.kind, .int .i64 x.size, .slice da x.data.length dc, .slice ra x.reads.length rc, .slice wa x.writes.length wc, .slice fa x.fs.length fc, .slice la x.lines.length lc, .int .i64 x.place, .bool x.app] 50))
  have hm0 : ((w.alloc (Obj.cells #[.int .i64 x.kind, .int .i64 x.size, .slice da x.data.length dc, .slice ra x.reads.length rc, .slice wa x.writes.length wc, .slice fa x.fs.length fc, .slice la x.lines.length lc, .int .i64 x.place, .bool x.app] 50)).alloc (Obj.cells #[.nilIface, .pointer none, .pointer none, .pointer none, .pointer none, .pointer none, .pointer none] 65)).heap[w.heap.size + 1]? = some (Obj.cells #[.nilIface, .pointer none, .pointer none, .pointer none, .pointer none, .pointer none, .pointer none] 65) := by
    have := heap_alloc_new (w.alloc (Obj.cells #[.int .i64 x.kind, .int .i64 x.size, .slice da x.data.length dc, .slice ra x.reads.length rc, .slice wa x.writes.length wc, .slice fa x.fs.length fc, .slice la x.lines.length lc, .int .i64 x.place, .bool x.app] 50)) (Obj.cells #[.nilIface, .pointer none, .pointer none, .pointer none, .pointer none, .pointer none, .pointer none] 65)
    rwa [hz1] at this
  have HQ := hide (And.intro hq hm0)
  generalize (w.alloc (Obj.cells #[.int .i64 x.kind, .int .i64 x.size, .slice da x.data.length dc, .slice ra x.reads.length rc, .slice wa x.writes.length wc, .slice fa x.fs.length fc, .slice la x.lines.length lc, .int .i64 x.place, .bool x.app] 50)).alloc (Obj.cells #[.nilIface, .pointer none, .pointer none, .pointer none, .pointer none, .pointer none, .pointer none] 65) = W0 at *
  clear hq hm0 hz1
  obtain ⟨mb, hmb⟩ : ∃ mb, mb = w.heap.size + 1 := ⟨_, rfl⟩
  rw [← hmb] at hz0 HQ
  simp only [← hmb]
  have hwm : w.heap.size < mb := by omega
  clear hmb
  refine (rnewCus2 _ _ x.reads x.writes W0 (HP.out.r.below HB0.out) (HP.out.w.below HB0.out)).mono ?_
  rintro _ w1 ⟨p1, rfl, hB1, hR1⟩
  have r1 := (hB1.block mb (by omega)).trans HQ.out.2
  have l1 := (hB1.block w.heap.size (by omega)).trans HQ.out.1
  have mc := cell_of_row w1 mb 1 _ _ _ r1
  have mf := frozen_of_row w1 mb 1 _ _ r1
  have s1 := Go.heap_setCell_same w1 mb 1 _ _ (.pointer p1) r1
  have t1 := (heap_setCell_other w1 ⟨mb, 1, none⟩ w.heap.size (.pointer p1) (by show w.heap.size ≠ mb; omega)).trans l1
  have pc1 := cell_of_row _ w.heap.size 3 _ _ _ t1
  have pc2 := cell_of_row _ w.heap.size 4 _ _ _ t1
  simp at mc pc1 pc2
  have hzw : W0.heap.size ≤ w1.heap.size := hB1.size
  have HB1 := hide ((HB0.out.trans (hB1.mono HB0.out.size)).setCell (p := ⟨mb, 1, none⟩) (by show w.heap.size ≤ mb; omega) (.pointer p1))
  have HR1 : Hid ((cusE x.reads x.writes ≠ 0 ∧ True) ∨ (cusE x.reads x.writes = 0 ∧ ∃ g, p1 = some ⟨g, 0, none⟩ ∧ RCusAt (w1.setCell ⟨mb, 1, none⟩ (.pointer p1)) (fun k => mb + 1 ≤ k) g ⟨x.reads, x.writes, []⟩)) := hide (by
    rcases hR1 with h | ⟨h1, g, h2, h3⟩
    · exact .inl h
    · exact .inr ⟨h1, g, h2, (h3.mono (fun k e => by rw [hz0] at e; exact e)).keep (fun k e _ => heap_setCell_other _ _ _ _ (by show k ≠ mb; have e2 : mb + 1 ≤ k := e; omega))⟩)
  have HS1 := hide (And.intro s1 t1)
  have hzs : (w1.setCell ⟨mb, 1, none⟩ (.pointer p1)).heap.size = w1.heap.size := by simp [World.setCell]
  clear hB1 hR1 r1 l1 s1 t1 HQ HB0
  go_wp2_with fail
  generalize w1.setCell ⟨mb, 1, none⟩ (.pointer p1) = W1 at *
  have HK := hide (fun (w' : World) (hW : Below W1.heap.size W1 w') => (show w'.cell? ⟨w.heap.size, 3, none⟩ = some (.slice ra x.reads.length rc) ∧ w'.cell? ⟨w.heap.size, 4, none⟩ = some (.slice wa x.writes.length wc) from ⟨(hW.cell (World.block_lt_of_cell? W1 _ pc1)).trans pc1, (hW.cell (World.block_lt_of_cell? W1 _ pc2)).trans pc2⟩))
  have HB1d := hide (HB1.out.trans ((Below.refl _ _).drew.mono HB1.out.size))
  have hmw : mb < W1.heap.size := (Array.getElem?_eq_some_iff.1 HS1.out.1).1
  have HCus : Hid (∀ (w7 w2 : World) (y : Nat), Below W1.heap.size W1 w7 → CusAt w2 (fun k => w7.heap.size ≤ k) y ⟨x.reads, x.writes, []⟩ → CusAt w2 (fun k => W1.heap.size ≤ k) y ⟨x.reads, x.writes, []⟩) := hide (fun w7 w2 y hB h => h.mono (fun k e => Nat.le_trans hB.size e))
  have HSC := hide (fun (w2 : World) (p2 : Option Addr) (hB : Below W1.heap.size W1 w2) => (show ((w2.setCell ⟨mb, 4, none⟩ (.pointer p2)).cell? ⟨w.heap.size, 3, none⟩ = some (.slice ra x.reads.length rc) ∧ (w2.setCell ⟨mb, 4, none⟩ (.pointer p2)).cell? ⟨w.heap.size, 4, none⟩ = some (.slice wa x.writes.length wc)) from ⟨(World.cell?_setCell_far _ _ _ _ (by show mb ≠ w.heap.size; omega)).trans (HK.out w2 hB).1, (World.cell?_setCell_far _ _ _ _ (by show mb ≠ w.heap.size; omega)).trans (HK.out w2 hB).2⟩))
  go_region_held3 (fun w' => w'.cell? ⟨w.heap.size, 3, none⟩ = some (.slice ra x.reads.length rc) ∧ w'.cell? ⟨w.heap.size, 4, none⟩ = some (.slice wa x.writes.length wc)) (first | exact HSC.out _ _ HB2.out | exact HK.out _ HB2.out | exact HK.out _ HB7.out | exact HK.out _ (Below.refl _ _).drew) (first
    | (go_at_call 94; refine (answers_any ra rc x.reads _ (HP.out.r.below HB1d.out) hz).mono ?_; rintro _ w7 ⟨va, vc, rfl, hA7, hB7⟩; have HB7 : Hid (Below W1.heap.size W1 w7) := hide ((Below.refl _ W1).drew.trans hB7); have HA7 := hide hA7; clear hA7 hB7)
    | (go_at_call 93; refine (newCus2 _ _ x.reads x.writes w7 HA7.out (HP.out.w.below (HB1.out.trans (HB7.out.mono HB1.out.size)))).mono ?_; rintro _ w2 ⟨p2, rfl, hB2, hR2⟩; have HB2 := hide (HB7.out.trans (hB2.mono HB7.out.size)); have HR20 := hide hR2; have r2 := (HB2.out.block mb hmw).trans HS1.out.1; have mc2 := cell_of_row w2 mb 4 _ _ _ r2; have mf2 := frozen_of_row w2 mb 4 _ _ r2; simp at mc2; clear hB2 hR2)
    | fail)
  have HR2 : Hid ((cusE x.reads x.writes ≠ 0 ∧ True) ∨ (cusE x.reads x.writes = 0 ∧ ∃ y, p2 = some ⟨y, 0, none⟩ ∧ CusAt w2 (fun k => W1.heap.size ≤ k) y ⟨x.reads, x.writes, []⟩)) := hide (by
    rcases HR20.out with h | ⟨h1, y, h2, h3⟩
    · exact .inl h
    · exact .inr ⟨h1, y, h2, HCus.out _ _ _ HB7.out h3⟩)
  have l2 := (HB2.out.block w.heap.size (by omega)).trans HS1.out.2
  have s2 := Go.heap_setCell_same w2 mb 4 _ _ (.pointer p2) r2
  have mc3 := cell_of_row _ mb 4 _ _ _ s2
  have mc0 := cell_of_row _ mb 0 _ _ _ s2
  have mf0 := frozen_of_row _ mb 0 _ _ s2
  have s3 := Go.heap_setCell_same _ mb 0 _ _ (.iface 63 (.pointer p2)) s2
  simp at mc3 mc0
  have HS3 := hide s3
  clear r2 l2 s2 s3 mc mf pc1 pc2 HR20 HA7 HK HCus HSC
  by_cases hE : cusE x.reads x.writes = 0
  · obtain ⟨g, rfl, hM1⟩ : ∃ g, p1 = some ⟨g, 0, none⟩ ∧ RCusAt W1 (fun k => mb + 1 ≤ k) g ⟨x.reads, x.writes, []⟩ := by
      rcases HR1.out with ⟨h, _⟩ | ⟨_, h⟩
      · exact absurd hE h
      · exact h
    obtain ⟨y, rfl, hM2⟩ : ∃ y, p2 = some ⟨y, 0, none⟩ ∧ CusAt w2 (fun k => W1.heap.size ≤ k) y ⟨x.reads, x.writes, []⟩ := by
      rcases HR2.out with ⟨h, _⟩ | ⟨_, h⟩
      · exact absurd hE h
      · exact h
    rw [hE]
    have hB2z := HB2.out.size
    have HPP := hide (Both.turned (Both.make (Q := fun j => mb + 1 ≤ j) (rcus_o _ _) (cus_o _ _) hM1 (fun j e _ => e) (fun j e _ => by omega) HB2.out hM2).swap (cus_o _ _) (rcus_o _ _) ((((Turned.refl (fun k => k = mb) w2).set (j := 4) (u := .pointer (some ⟨y, 0, none⟩)) (.inl rfl)).set (j := 0) (u := .iface 63 (.pointer (some ⟨y, 0, none⟩))) (.inl rfl))) (fun j e e' => by have e2 : j = mb := e'; have e3 : mb + 1 ≤ j := e; omega))
    have HMd : Hid (MdAt mb 63 (.pointer (some ⟨y, 0, none⟩)) g none none (some ⟨y, 0, none⟩) ((w2.setCell ⟨mb, 4, none⟩ (.pointer (some ⟨y, 0, none⟩))).setCell ⟨mb, 0, none⟩ (.iface 63 (.pointer (some ⟨y, 0, none⟩))))) := HS3
    have HL := hide ((heap_setCell_other (w2.setCell ⟨mb, 4, none⟩ (.pointer (some ⟨y, 0, none⟩))) ⟨mb, 0, none⟩ w.heap.size (.iface 63 (.pointer (some ⟨y, 0, none⟩))) (by show w.heap.size ≠ mb; omega)).trans ((heap_setCell_other w2 ⟨mb, 4, none⟩ w.heap.size (.pointer (some ⟨y, 0, none⟩)) (by show w.heap.size ≠ mb; omega)).trans ((HB2.out.block w.heap.size (by omega)).trans HS1.out.2)))
    have HB3 := hide (((HB1.out.trans (HB2.out.mono HB1.out.size)).setCell (p := ⟨mb, 4, none⟩) (by show w.heap.size ≤ mb; omega) (.pointer (some ⟨y, 0, none⟩))).setCell (p := ⟨mb, 0, none⟩) (by show w.heap.size ≤ mb; omega) (.iface 63 (.pointer (some ⟨y, 0, none⟩))))
    clear hM1 hM2 HR1 HR2 HS3 HS1
    go_wp2_with fail
    generalize (w2.setCell ⟨mb, 4, none⟩ (.pointer (some ⟨y, 0, none⟩))).setCell ⟨mb, 0, none⟩ (.iface 63 (.pointer (some ⟨y, 0, none⟩))) = W3 at *
    have K := pk_custom y g mb
    have hm3 := K.mseek
    have hc3 := K.cseek
    have m0 : W3.cell? ⟨mb, 0, none⟩ = some (.iface 63 (.pointer (some ⟨y, 0, none⟩))) := cell_of_row W3 mb 0 _ _ _ HMd.out
    have m1 : W3.cell? ⟨mb, 1, none⟩ = some (.pointer (some ⟨g, 0, none⟩)) := cell_of_row W3 mb 1 _ _ _ HMd.out
    have p7 : W3.cell? ⟨w.heap.size, 7, none⟩ = some (.int .i64 x.place) := cell_of_row W3 w.heap.size 7 _ _ _ HL.out
    have hml : mb < W3.heap.size := World.block_lt_of_cell? W3 _ m0
    have HC := hide (pk_num K.oA K.oB (A := fun S w O => CusAt w O y S) (B := fun S w O => RCusAt w O g S) HPP.out (by omega) (s' := (csD.seek ⟨x.reads, x.writes, []⟩ x.place 0).2.2) (fun O wb hA _ _ => (cseek_any _ _ _ x.place 0 _ hA).mono fun e w' ⟨h1, h2⟩ => ⟨h1, _, h2 ▸ hA, fun _ e => .inl e, h2 ▸ Turned.refl _ _⟩) (fun O wb hA _ _ => (rrcseek_any _ _ _ x.place 0 _ hA).mono fun e w' ⟨h1, h2⟩ => ⟨h1, _, h2 ▸ hA, fun _ e => .inl e, h2 ▸ Turned.refl _ _⟩))
    have HS := hide (fun (W' : World) (hT : Turned (fun j => mb + 1 ≤ j) W3 W') => (show (W'.cell? ⟨mb, 0, none⟩ = some (.iface 63 (.pointer (some ⟨y, 0, none⟩))) ∧ W'.cell? ⟨mb, 1, none⟩ = some (.pointer (some ⟨g, 0, none⟩)) ∧ W'.cell? ⟨w.heap.size, 7, none⟩ = some (.int .i64 x.place)) ∧ W'.heap[mb]? = W3.heap[mb]? from
      ⟨⟨hT.cell m0 (by show ¬ mb + 1 ≤ mb; omega), hT.cell m1 (by show ¬ mb + 1 ≤ mb; omega), hT.cell p7 (by show ¬ mb + 1 ≤ w.heap.size; omega)⟩, hT.block mb hml (by show ¬ mb + 1 ≤ mb; omega)⟩))
    have HK := hide K
    clear K
    have HS2 : Hid ((csD.seek ⟨x.reads, x.writes, []⟩ x.place 0).2.2 = ⟨x.reads, x.writes, []⟩) := hide rfl
    generalize csD.seek ⟨x.reads, x.writes, []⟩ x.place 0 = X at *
    obtain ⟨N, E, s2⟩ := X
    simp only at *
    go_region_held3 (fun w' => w'.cell? ⟨mb, 0, none⟩ = some (.iface 63 (.pointer (some ⟨y, 0, none⟩))) ∧ w'.cell? ⟨w.heap.size, 7, none⟩ = some (.int .i64 x.place))
      (first | exact K4 | exact ⟨m0, p7⟩ | go_keep)
      (first
        | (refine (HC.out _ (Below.refl _ _).drew).mono ?_; rintro _ w4 ⟨rfl, -, hT4, hC4⟩; have K4 : w4.cell? ⟨mb, 0, none⟩ = some (.iface 63 (.pointer (some ⟨y, 0, none⟩))) ∧ w4.cell? ⟨w.heap.size, 7, none⟩ = some (.int .i64 x.place) := ⟨(HS.out w4 hT4).1.1, (HS.out w4 hT4).1.2.2⟩; have HT4 := hide hT4; have HC4 := hide hC4; clear hT4 hC4)
        | fail)
    have n1 := (HS.out w4 HT4.out).1.2.1
    have n2 := K4.2
    clear K4 HC
    go_wp2_with fail
    go_region_held3 (fun w' => w'.cell? ⟨mb, 1, none⟩ = some (.pointer (some ⟨g, 0, none⟩)) ∧ w'.cell? ⟨w.heap.size, 7, none⟩ = some (.int .i64 x.place))
      (first | exact K6 | exact ⟨n1, n2⟩ | go_keep)
      (first
        | (go_at_call 27; refine (HC4.out _ (Below.refl _ _).drew).mono ?_; rintro _ w6 ⟨rfl, HN6, -, hT6⟩; have K6 : w6.cell? ⟨mb, 1, none⟩ = some (.pointer (some ⟨g, 0, none⟩)) ∧ w6.cell? ⟨w.heap.size, 7, none⟩ = some (.int .i64 x.place) := ⟨(HS.out w6 hT6).1.2.1, (HS.out w6 hT6).1.2.2⟩; have HT6 := hide hT6; clear hT6)
        | fail)
    clear K6 n1 n2 HC4
    go_wp2
    go_ret2
    refine ⟨HB3.out.trans (HT6.out.below (fun j e => by have e2 : mb + 1 ≤ j := e; omega) HB3.out.size), .inr ⟨mb, by omega, rfl, CS, csD, 63, _, g, _, _, _, _, _, _, _, s2, HK.out, HN6.out, ?_, fun W W' h e => e.trans h, fun W h => ⟨cell_of_row W mb 0 _ _ _ h, cell_of_row W mb 1 _ _ _ h⟩, fun hpan => ?_⟩⟩
    · exact (HS.out w6 HT6.out).2.trans HMd.out
    · rw [HS2.out]
      refine ⟨by simp, fun k hk => ?_⟩
      have hp2 := hpan
      unfold Plt.pan at hp2
      rw [HK6.out] at hp2
      have hp3 : ¬ ∃ k ∈ x.writes, k < -1 := by simpa using hp2
      exact Int.not_lt.1 fun e => hp3 ⟨k, hk, e⟩
  · have hE2 : (cusE x.reads x.writes != 0) = true := by simpa using hE
    have hE3 : (cusE x.reads x.writes == 0) = false := by simpa using hE
    go_wp2_with fail
    go_ret2
    exact ⟨((HB1.out.trans (HB2.out.mono HB1.out.size)).setCell (p := ⟨mb, 4, none⟩) (by show w.heap.size ≤ mb; omega) _).setCell (p := ⟨mb, 0, none⟩) (by show w.heap.size ≤ mb; omega) _, .inl ⟨_, rfl⟩⟩
end Go.Proofs.YtanbiinomagdbaaGreat

/- Plant.Make, of every kind. -/
namespace Go.Proofs.YtanbiinomagdbaaGreat
open Go.RowKit Go.Maps

theorem make_any (x : Plt) (dv rv wv fv lv : Value) (w : World) (h : PltIn w x dv rv wv fv lv) (hp : I64 x.place) (zr : x.reads.length * 32 ≤ 140737488351232) (zf : x.fs.length * 16 ≤ 140737488351232) (zl : x.lines.length * 24 ≤ 140737488351232) :
    Calls Tryz.prog 18 #[.agg #[.int .i64 x.kind, .int .i64 x.size, dv, rv, wv, fv, lv, .int .i64 x.place, .bool x.app]] w (MakeOut x w) := by
  rcases k6_six x with hk | hk | hk | hk | hk | hk
  · exact make_fixed x dv rv wv fv lv w h hk hp
  · exact make_growing x dv rv wv fv lv w h hk hp
  · exact make_reader x dv rv wv fv lv w h hk hp
  · exact make_custom x dv rv wv fv lv w h hk zr
  · exact (make_kernel x dv rv wv fv lv w false h hk zf zl hp).mono fun e w' hm => kern_made hm same_made
  · exact (make_kernel x dv rv wv fv lv w true h hk zf zl hp).mono fun e w' hm => kern_made hm same_made
end Go.Proofs.YtanbiinomagdbaaGreat

/- The bounds of integers that a plant and its steps bear. -/
namespace Go.Proofs.YtanbiinomagdbaaGreat
open Go.RowKit

theorem rows_mono {α : Type} {W : World} {k : Nat} {R S : List Value → α → Prop} {v : Value} {l : List α} (h : RowsR W k R v l) (hm : ∀ cs x, R cs x → S cs x) : RowsR W k S v l := by
  rcases h with h | ⟨q, cap, e, h1, h2⟩
  · exact .inl h
  · refine .inr ⟨q, cap, e, h1, fun h0 => ?_⟩
    obtain ⟨b, off, e2, h3⟩ := h2 h0
    exact ⟨b, off, e2, fun j hj => by obtain ⟨cs, r, z⟩ := h3 j hj; exact ⟨cs, hm _ _ r, z⟩⟩
theorem rows_all {α : Type} {W : World} {k : Nat} {p : α → Prop} {R : List Value → α → Prop} {v : Value} {l : List α} (h : RowsR W k (fun cs x => R cs x ∧ p x) v l) (i : Nat) (hi : i < l.length) : p l[i] := by
  rcases h with ⟨_, rfl⟩ | ⟨q, cap, e, h1, h2⟩
  · exact absurd hi (by simp)
  · obtain ⟨b, off, e2, h3⟩ := h2 (by omega)
    obtain ⟨cs, r, _⟩ := h3 i hi
    exact r.2
theorem mst_cells2 {H : Type} {enc : TypeId × Value → H} {P : Program} {W : World} {base : Nat} {fuel e u : Nat} {f0 f1 f2 f3 : Field} {cs : List Value} {d : DataW H} {p : List MemPlace}
    (he : P.underlying e = some (.struct #[f0, f1, f2, f3])) (ce : P.cellsOf e = 4) (o0 : f0.offset = 0) (o1 : f1.offset = 1) (o2 : f2.offset = 2) (o3 : f3.offset = 3)
    (c0 : P.cellsOf f0.type = 1) (c1 : P.cellsOf f1.type = 1) (c2 : P.cellsOf f2.type = 1) (c3 : P.cellsOf f3.type = 1)
    (t0 : P.underlying f0.type = some (.int .i64)) (t1 : P.underlying f1.type = some (.int .i64)) (t2 : P.underlying f2.type = some (.int .i64)) (t3 : P.underlying f3.type = some (.slice u)) (tu : P.underlying u = some (.int .u8)) (cu : P.cellsOf u = 1)
    (h : DataW.trod enc P W base (fun _ => true) true fuel e cs = some (d, p)) : ∃ x : MSt, (MCells W cs x ∧ I64 x.n) ∧ MDat d x := by
  obtain ⟨x, h1, h2⟩ := mst_cells he ce o0 o1 o2 o3 c0 c1 c2 c3 t0 t1 t2 t3 tu cu h
  refine ⟨x, ⟨h1, ?_⟩, h2⟩
  obtain ⟨va, vc, rfl, -⟩ := h1
  obtain ⟨xs, k, hk, hxy, hcl, hxl, hf⟩ := DataW.trod_struct he h
  match xs, hxl with
  | [y0, y1, y2, y3], _ =>
    have g1 := hf 1 f1 rfl
    simp [o1, c1] at g1
    obtain ⟨b, hb, _, wb⟩ := DataW.trod_int t1 g1
    obtain rfl : x.n = b := by simpa using hb
    exact I64.of wb
set_option maxRecDepth 100000 in
theorem plant_i64 {H : Type} {enc : TypeId × Value → H} {W : World} {base : Nat} {fuel : Nat} {k0 k1 k7 : Int} {u2 u3 u4 u5 u6 u8 : Value} {d : DataW H} {p : List MemPlace}
    (h : DataW.trod enc Tryz.prog W base (fun _ => true) true fuel 50 [.int .i64 k0, .int .i64 k1, u2, u3, u4, u5, u6, .int .i64 k7, u8] = some (d, p)) : I64 k7 := by
  obtain ⟨xs, k, hk, hxy, hcl, hxl, hf⟩ := DataW.trod_struct Tryz.underlying50 h
  match xs, hxl with
  | [y0, y1, y2, y3, y4, y5, y6, y7, y8], _ =>
    have ci : Tryz.prog.cellsOf 3 = 1 := by kernel_rfl
    have g7 := hf 7 _ rfl
    simp [ci] at g7
    obtain ⟨a7, h7, _, w7⟩ := DataW.trod_int Tryz.underlying3 g7
    obtain rfl : k7 = a7 := by simpa using h7
    exact I64.of w7
end Go.Proofs.YtanbiinomagdbaaGreat

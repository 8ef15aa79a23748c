/- MemoryMakes: the walk. -/
import Derived.Test.YtimggonlfkboaaaMePlant
import Derived.Test.YtimggonlfkboaaaMeRefC
import Derived.Test.YtimggonlfkboaaaMeAlive
namespace Go.Proofs.Ytimggonlfkboaaa
open Go.RowKit

/-- A plant's block. -/
structure PB (W : World) (g : Nat) (x : Plt) (dv rv wv : Value) : Prop where
  c1 : W.cell? ⟨g, 1, none⟩ = some (.int .i64 x.size)
  c2 : W.cell? ⟨g, 2, none⟩ = some dv
  c3 : W.cell? ⟨g, 3, none⟩ = some rv
  c4 : W.cell? ⟨g, 4, none⟩ = some wv
theorem PB.below {W W' : World} {g : Nat} {x : Plt} {dv rv wv : Value} (h : PB W g x dv rv wv) (hB : Below W.heap.size W W') : PB W' g x dv rv wv := by
  have hl := World.block_lt_of_cell? W _ h.c1
  exact ⟨(hB.cell (p := ⟨g, 1, none⟩) hl).trans h.c1, (hB.cell (p := ⟨g, 2, none⟩) hl).trans h.c2, (hB.cell (p := ⟨g, 3, none⟩) hl).trans h.c3, (hB.cell (p := ⟨g, 4, none⟩) hl).trans h.c4⟩
theorem pb_new (w : World) (x : Plt) (dv rv wv fv lv : Value) : PB (w.alloc (Obj.cells #[.int .i64 x.kind, .int .i64 x.size, dv, rv, wv, fv, lv, .int .i64 x.place, .bool x.app] 28)) w.heap.size x dv rv wv := by
  refine ⟨?_, ?_, ?_, ?_⟩ <;> (simp only [World.cell?, heap_alloc_new]; rfl)
/-- What NewCustom is told, of either side. -/
theorem newCustom_code (v1 v2 : Value) (l : List (List UInt8 × Int)) (ws : List Int) (w : World) (h1 : AnsR w v1 l) (h2 : IntsR w v2 ws) : Calls Try.prog 14 #[v1, v2] w fun e w' => ∃ p, e = .returned (.tuple #[.pointer p, .int .i64 (cusE l ws)]) ∧ Below w.heap.size w w' := by
  unfold cusE
  by_cases hc : 4096 < l.length ∨ 4096 < ws.length
  · rw [if_pos hc]
    obtain ⟨a1, c1, rfl, _⟩ := h1
    obtain ⟨a2, c2, rfl⟩ := h2.form
    refine (newCustom_count a1 a2 _ _ c1 c2 w hc).mono ?_
    rintro e w' ⟨rfl, rfl⟩
    exact ⟨_, rfl, Below.refl _ _⟩
  rw [if_neg hc]
  refine (newCustom_any v1 v2 l ws w h1 h2 (by omega) (by omega)).mono ?_
  rintro e w' (⟨h3, rfl, h4⟩ | ⟨h3, g, rfl, -, h4⟩)
  · rw [if_pos h3]
    exact ⟨_, rfl, h4⟩
  · rw [if_neg (fun ⟨x, hx, h⟩ => absurd (h3 x hx) (by omega))]
    exact ⟨_, rfl, h4⟩
theorem rnewCustom_code (v1 v2 : Value) (l : List (List UInt8 × Int)) (ws : List Int) (w : World) (h1 : AnsR w v1 l) (h2 : IntsR w v2 ws) : Calls Try.prog 16 #[v1, v2] w fun e w' => ∃ p, e = .returned (.tuple #[.pointer p, .int .i64 (cusE l ws)]) ∧ Below w.heap.size w w' := by
  unfold cusE
  have h1' := h1
  obtain ⟨a1, c1, rfl, _⟩ := h1
  by_cases hc : 4096 < l.length ∨ 4096 < ws.length
  · rw [if_pos hc]
    obtain ⟨a2, c2, rfl⟩ := h2.form
    refine (rnewCustom_count a1 a2 _ _ c1 c2 w hc).mono ?_
    rintro e w' ⟨rfl, rfl⟩
    exact ⟨_, rfl, Below.refl _ _⟩
  rw [if_neg hc]
  refine (rnewCustom_any a1 c1 v2 l ws w h1' h2 (by omega) (by omega)).mono ?_
  rintro e w' ⟨h4, ⟨h3, rfl⟩ | ⟨h3, rfl, -⟩⟩
  · rw [if_pos h3]
    exact ⟨_, rfl, h4⟩
  · rw [if_neg (fun ⟨x, hx, h⟩ => absurd (h3 x hx) (by omega))]
    exact ⟨_, rfl, h4⟩
set_option maxRecDepth 100000 in
set_option maxHeartbeats 4000000 in
theorem mmakes_any (x : Plt) (dv rv wv fv lv : Value) (w : World) (h : PltIn w x dv rv wv fv lv) (hz : x.reads.length * 32 ≤ 140737488351232) :
    Calls Try.prog 3 #[.agg #[.int .i64 x.kind, .int .i64 x.size, dv, rv, wv, fv, lv, .int .i64 x.place, .bool x.app]] w fun e w' => e = .returned (.bool true) ∧ Below w.heap.size w w' := by
  have HP := hide h
  obtain ⟨da, dc, rfl, -⟩ := h.d
  obtain ⟨ra, rc, rfl, -⟩ := h.r
  obtain ⟨wa, wc, rfl⟩ := h.w.form
  obtain ⟨fa, fc, rfl, -⟩ := h.f.form
  obtain ⟨la, lc, rfl, -⟩ := RowsR.form h.l
  clear h
  go_enter Try.func3, Try.ntmps3
  go_wp2_with fail
  have HB0 := hide (recv4 w (Obj.cells #[.int .i64 x.kind, .int .i64 x.size, .slice da x.data.length dc, .slice ra x.reads.length rc, .slice wa x.writes.length wc, .slice fa x.fs.length fc, .slice la x.lines.length lc, .int .i64 x.place, .bool x.app] 28))
  have HK0 := hide (pb_new w x (.slice da x.data.length dc) (.slice ra x.reads.length rc) (.slice wa x.writes.length wc) (.slice fa x.fs.length fc) (.slice la x.lines.length lc))
  generalize w.alloc (Obj.cells #[.int .i64 x.kind, .int .i64 x.size, .slice da x.data.length dc, .slice ra x.reads.length rc, .slice wa x.writes.length wc, .slice fa x.fs.length fc, .slice la x.lines.length lc, .int .i64 x.place, .bool x.app] 28) = w0 at *
  have HY : Hid (∀ W, Below w.heap.size w W → Bys W (.slice da x.data.length dc) x.data) := hide fun W hW => by
    obtain ⟨va, vc, e, hb, -⟩ := HP.out.d
    cases e
    exact hb.below hW
  refine (newFixed_any x.size _ x.data _ (HY.out _ HB0.out)).mono ?_
  rintro _ w1 ⟨p1, rfl, hB1, -⟩
  have HB1 := hide (HB0.out.trans (hB1.mono HB0.out.size))
  have HK1 := hide (HK0.out.below hB1)
  have a1 := HK1.out.c1
  have b1 := HK1.out.c2
  have c1 := HK1.out.c3
  have d1 := HK1.out.c4
  clear hB1 HB0 HK0
  go_wp2_with fail
  clear a1 b1 c1 d1
  refine (rnewFixed_any x.size _ x.data _ (HY.out _ HB1.out)).mono ?_
  rintro _ w2 ⟨p2, rfl, hB2, -⟩
  have HB2 := hide (HB1.out.trans (hB2.mono HB1.out.size))
  have HK2 := hide (HK1.out.below hB2)
  have a2 := HK2.out.c1
  have b2 := HK2.out.c2
  have c2 := HK2.out.c3
  have d2 := HK2.out.c4
  clear hB2 HB1 HK1
  go_wp2_with fail
  clear a2 b2 c2 d2
  refine (newGrowing_any _ x.data _ (HY.out _ HB2.out)).mono ?_
  rintro _ w3 ⟨p3, rfl, hB3, -⟩
  have HB3 := hide (HB2.out.trans (hB3.mono HB2.out.size))
  have HK3 := hide (HK2.out.below hB3)
  have a3 := HK3.out.c1
  have b3 := HK3.out.c2
  have c3 := HK3.out.c3
  have d3 := HK3.out.c4
  clear hB3 HB2 HK2
  go_wp2_with fail
  clear a3 b3 c3 d3
  refine (rnewGrowing_any _ x.data _ (HY.out _ HB3.out)).mono ?_
  rintro _ w4 ⟨p4, rfl, hB4, -⟩
  have HB4 := hide (HB3.out.trans (hB4.mono HB3.out.size))
  have HK4 := hide (HK3.out.below hB4)
  have a4 := HK4.out.c1
  have b4 := HK4.out.c2
  have c4 := HK4.out.c3
  have d4 := HK4.out.c4
  clear hB4 HB3 HK3
  go_wp2_with fail
  clear a4 b4 c4 d4
  refine (newReader_any _ x.data _ (HY.out _ HB4.out)).mono ?_
  rintro _ w5 ⟨p5, rfl, hB5, -⟩
  have HB5 := hide (HB4.out.trans (hB5.mono HB4.out.size))
  have HK5 := hide (HK4.out.below hB5)
  have a5 := HK5.out.c1
  have b5 := HK5.out.c2
  have c5 := HK5.out.c3
  have d5 := HK5.out.c4
  clear hB5 HB4 HK4
  go_wp2_with fail
  clear a5 b5 c5 d5
  refine (rnewReader_any _ x.data _ (HY.out _ HB5.out)).mono ?_
  rintro _ w6 ⟨p6, rfl, hB6, -⟩
  have HB6 := hide (HB5.out.trans (hB6.mono HB5.out.size))
  have HK6 := hide (HK5.out.below hB6)
  have a6 := HK6.out.c1
  have b6 := HK6.out.c2
  have c6 := HK6.out.c3
  have d6 := HK6.out.c4
  clear hB6 HB5 HK5
  go_wp2_with fail
  have HB6d := hide HB6.out.drew
  have HK6d := hide (HK6.out.below (Below.refl _ _).drew)
  go_region_held3 (fun w' => w'.cell? ⟨w.heap.size, 3, none⟩ = some (.slice ra x.reads.length rc) ∧ w'.cell? ⟨w.heap.size, 4, none⟩ = some (.slice wa x.writes.length wc))
    (first | exact K8 | exact K7 | go_keep)
    (first
      | (go_at_call 15; refine (answers_any ra rc x.reads _ (HP.out.r.below HB6d.out) hz).mono ?_; rintro _ w7 ⟨va, vc, rfl, hA7, hB7⟩; have HB7 := hide (HB6d.out.trans (hB7.mono HB6d.out.size)); have HK7 := hide (HK6d.out.below hB7); have K7 := And.intro HK7.out.c3 HK7.out.c4; have HA7 := hide hA7; clear hA7 hB7)
      | (go_at_call 14; refine (newCustom_code _ _ x.reads x.writes _ HA7.out (HP.out.w.below HB7.out)).mono ?_; rintro _ w8 ⟨p8, rfl, hB8⟩; have HB8 := hide (HB7.out.trans (hB8.mono HB7.out.size)); have HK8 := hide (HK7.out.below hB8); have K8 := And.intro HK8.out.c3 HK8.out.c4; clear hB8)
      | fail)
  have c8 := K8.1
  have d8 := K8.2
  clear a6 b6 c6 d6 K7 K8 HB7 HK7 HA7 HB6 HK6 HB6d HK6d
  go_wp2_with fail
  clear c8 d8
  refine (rnewCustom_code _ _ x.reads x.writes _ (HP.out.r.below HB8.out) (HP.out.w.below HB8.out)).mono ?_
  rintro _ w9 ⟨p9, rfl, hB9⟩
  have HB9 := hide (HB8.out.trans (hB9.mono HB8.out.size))
  clear hB9 HB8 HK8
  go_wp2_with (first | (go_at_call 17; refine (num_me _ _).mono ?_; rintro _ _ ⟨rfl, rfl⟩) | fail)
  refine (malive_any _).mono ?_
  rintro _ w10 ⟨rfl, hB10⟩
  have HB10 := hide (HB9.out.trans (hB10.mono HB9.out.size))
  clear hB10
  go_wp2
  go_ret
  exact ⟨rfl, HB10.out⟩
end Go.Proofs.Ytimggonlfkboaaa

/- What the proof stands on, part 16: the contracts of the program's calls that it reaches. -/
import Derived.Test.YtejcfhjhjplcnaaGreatKM15
import Derived.Test.YtejcfhjhjplcnaaGreatRows
import Derived.Shelf.SlIter.Nil
import Derived.Shelf.SortM.Plain
import Derived.Shelf.SortM.SortNone
import Derived.Ground.GgzProg
import Derived.Ground.SlgmProg
import Derived.Test.YtejcfhjhjplcnaaGreatProg
/- A law's setup, copied for the program; how far a kernel's numbers go up by a call. -/
namespace Go.Proofs.YtejcfhjhjplcnaaGreat
open Go.RowKit Go.Maps

theorem nms_of_owns {W : World} {B B' : Nat} {v : Value} {l : List Nm} {us : List Value} (h : W.ownsRow B 119 2 v l.length (ncs l us)) (hc : LCells W B' (l.map Prod.snd) us) (hs : ∀ j (hj : j < l.length), l[j].1.size ≤ maxLen) : Nms W v l := by
  have hl : us.length = l.length := by have := hc.1; simpa using this
  rcases h.2 with ⟨rfl, h0⟩ | ⟨g, cap, cur, rfl, _, _, hcap, _⟩
  · rw [List.length_eq_zero_iff.1 h0]
    exact ⟨_, _, rfl, Nat.le_refl _, fun h => absurd h (by decide)⟩
  · refine ⟨_, cap, rfl, hcap, fun _ => ⟨g, 0, rfl, fun j hj => ?_⟩⟩
    obtain ⟨u, h1, h2⟩ := hc.2.1 j (by simpa using hj)
    simp only [List.getElem_map] at h2
    obtain ⟨e1, e2⟩ := ncs_get l us j hj hl
    have hcp := h2.2
    obtain ⟨a, c, rfl⟩ := owns_slice h2
    refine ⟨a, c, by rw [Nat.zero_add, h.cellAt (j * 2) (by omega)]; exact e1, by rw [Nat.zero_add, h.cellAt (j * 2 + 1) (by omega), e2]; exact h1, Bys.of_owns h2, ?_, hs j hj⟩
    rcases hcp with ⟨e, e'⟩ | ⟨_, _, _, e, _, _, e', _⟩
    · simp only [Value.slice.injEq] at e; omega
    · simp only [Value.slice.injEq] at e; omega
theorem tps_of_owns {W : World} {B B' : Nat} {v : Value} {l : List Tp} {us : List Value} (h : W.ownsRow B 123 2 v l.length (ncs l us)) (hl : us.length = l.length) (hc : ∀ j (hj : j < l.length), ∃ u, us[j]? = some u ∧ TC W B' l[j].2 u) (hs : ∀ j (hj : j < l.length), l[j].1.size ≤ maxLen) : Tps W v l := by
  rcases h.2 with ⟨rfl, h0⟩ | ⟨g, cap, cur, rfl, _, _, hcap, _⟩
  · rw [List.length_eq_zero_iff.1 h0]
    exact ⟨_, _, rfl, Nat.le_refl _, fun h => absurd h (by decide)⟩
  · refine ⟨_, cap, rfl, hcap, fun _ => ⟨g, 0, rfl, fun j hj => ?_⟩⟩
    obtain ⟨u, h1, xs, h2, h3⟩ := hc j hj
    obtain ⟨e1, e2⟩ := ncs_get l us j hj hl
    have hL := h3.lns rfl h2
    obtain ⟨a, c, rfl⟩ := owns_slice h2
    exact ⟨a, c, by rw [Nat.zero_add, h.cellAt (j * 2) (by omega)]; exact e1, by rw [Nat.zero_add, h.cellAt (j * 2 + 1) (by omega), e2]; exact h1, hL, hs j hj⟩
theorem nms_sizes {W : World} {v : Value} {l : List Nm} (h : Nms W v l) : ∀ j (hj : j < l.length), l[j].1.size ≤ maxLen := fun j hj => by
  obtain ⟨a, c, rfl, _, hd⟩ := h
  obtain ⟨b, off, _, hd⟩ := hd (by omega)
  obtain ⟨_, _, _, _, _, _, e⟩ := hd j hj
  exact e
theorem tps_sizes {W : World} {v : Value} {l : List Tp} (h : Tps W v l) : ∀ j (hj : j < l.length), l[j].1.size ≤ maxLen := fun j hj => by
  obtain ⟨a, c, rfl, _, hd⟩ := h
  obtain ⟨b, off, _, hd⟩ := hd (by omega)
  obtain ⟨_, _, _, _, _, e⟩ := hd j hj
  exact e

theorem LCells.turned {S : Nat → Prop} {W W' : World} {B : Nat} {ls : List (List UInt8)} {xs : List Value} (h : LCells W B ls xs) (hT : Turned S W W') (hS : ∀ k, B ≤ k → ¬ S k) : LCells W' B ls xs :=
  h.keep fun j hj v k h1 e => by
    obtain ⟨v', h2, h3⟩ := h.2.1 j hj
    rw [h1] at h2
    cases h2
    exact hT.block k (h3.lt k e).2 (hS k (h3.lt k e).1)
theorem TC.turned {S : Nat → Prop} {W W' : World} {B : Nat} {ls : List (List UInt8)} {u : Value} (h : TC W B ls u) (hT : Turned S W W') (hS : ∀ k, B ≤ k → ¬ S k) : TC W' B ls u := by
  obtain ⟨xs, h1, h2⟩ := h
  exact ⟨xs, owns_turned h1 hT (fun k e => hS k (h1.lt k e).1), h2.turned hT hS⟩
def KLe (K K' : KS) : Prop := K'.next ≤ K.next + 2 ∧ K'.reads ≤ K.reads + 1 ∧ K'.writes ≤ K.writes + 1
theorem KLe.refl (K : KS) : KLe K K := ⟨by omega, by omega, by omega⟩
theorem cut_same (K : KS) (i : Nat) (f : Int) : (K.cut i f).next = K.next ∧ (K.cut i f).reads = K.reads ∧ (K.cut i f).writes = K.writes := by
  unfold KS.cut
  split
  · split
    · exact ⟨rfl, rfl, rfl⟩
    · exact ⟨rfl, rfl, rfl⟩
  · exact ⟨rfl, rfl, rfl⟩
theorem kle_open (K : KS) (s : ByteArray) (f : Int) : KLe K (K.open s f).2.2 := by
  unfold KS.open
  split
  · exact KLe.refl K
  split
  · exact KLe.refl K
  split
  · exact KLe.refl K
  split
  · rename_i i _
    split
    · obtain ⟨e1, e2, e3⟩ := cut_same K i f
      refine ⟨?_, ?_, ?_⟩
      · show (K.cut i f).next + 1 ≤ _; omega
      · show (K.cut i f).reads ≤ _; omega
      · show (K.cut i f).writes ≤ _; omega
    · exact KLe.refl K
  · split
    · exact KLe.refl K
    split
    · exact KLe.refl K
    · refine ⟨?_, ?_, ?_⟩
      · show K.next + 1 ≤ _; omega
      · show K.reads ≤ _; omega
      · show K.writes ≤ _; omega
theorem kle_pipe (K : KS) : KLe K K.pipe.2.2.2 := by
  unfold KS.pipe
  split
  · exact KLe.refl K
  · refine ⟨?_, ?_, ?_⟩
    · show K.next + 1 + 1 ≤ _; omega
    · show K.reads ≤ _; omega
    · show K.writes ≤ _; omega
theorem kle_read (K : KS) (d n : Int) : KLe K (K.read d n).2.2 := by
  have up : ∀ (K' : KS), K'.next = K.next → K'.reads = K.reads + 1 → K'.writes = K.writes → KLe K K' := fun K' a b c => ⟨by omega, by omega, by omega⟩
  unfold KS.read
  split
  · exact KLe.refl K
  split
  · exact KLe.refl K
  split
  · exact KLe.refl K
  split
  · exact KLe.refl K
  split
  · exact KLe.refl K
  split
  · split
    · exact up _ rfl rfl rfl
    · exact up _ rfl rfl rfl
    · exact up _ rfl rfl rfl
  · exact up _ rfl rfl rfl
theorem kle_write (K : KS) (d : Int) (b : List UInt8) : KLe K (K.write d b).2.2 := by
  have up : ∀ (K' : KS), K'.next = K.next → K'.reads = K.reads → K'.writes = K.writes + 1 → KLe K K' := fun K' a b c => ⟨by omega, by omega, by omega⟩
  unfold KS.write
  split
  · exact KLe.refl K
  split
  · exact KLe.refl K
  split
  · exact KLe.refl K
  split
  · exact KLe.refl K
  split
  · split
    · split
      · exact up _ rfl rfl rfl
      · exact up _ rfl rfl rfl
      · exact up _ rfl rfl rfl
    · exact up _ rfl rfl rfl
  · exact KLe.refl K
theorem kle_keep (K : KS) (d : Int) : KLe K (K.keepK d) := by
  unfold KS.keepK
  split
  · exact KLe.refl K
  split
  · exact KLe.refl K
  · exact KLe.refl K
theorem kle_drop (K : KS) (d : Int) : KLe K (K.dropK d) := by
  unfold KS.dropK
  split
  · exact KLe.refl K
  split
  · exact KLe.refl K
  split
  · exact KLe.refl K
  · exact KLe.refl K
theorem new_nums (fs : List Nm) (ts : List Tp) (l : List Fault) : (KS.new fs ts l).next = 1 ∧ (KS.new fs ts l).reads = 0 ∧ (KS.new fs ts l).writes = 0 := by
  unfold KS.new
  have h1 : ∀ (fs : List Nm) (K : KS), (fs.foldl (fun K f => K.addTh ⟨f.1, .file f.2⟩) K).next = K.next ∧ (fs.foldl (fun K f => K.addTh ⟨f.1, .file f.2⟩) K).reads = K.reads ∧ (fs.foldl (fun K f => K.addTh ⟨f.1, .file f.2⟩) K).writes = K.writes := by
    intro fs
    induction fs with
    | nil => exact fun K => ⟨rfl, rfl, rfl⟩
    | cons f r ih => exact fun K => ih (K.addTh ⟨f.1, .file f.2⟩)
  have h2 : ∀ (ts : List Tp) (K : KS), (ts.foldl (fun K t => K.addTh ⟨t.1, .term t.2 []⟩) K).next = K.next ∧ (ts.foldl (fun K t => K.addTh ⟨t.1, .term t.2 []⟩) K).reads = K.reads ∧ (ts.foldl (fun K t => K.addTh ⟨t.1, .term t.2 []⟩) K).writes = K.writes := by
    intro ts
    induction ts with
    | nil => exact fun K => ⟨rfl, rfl, rfl⟩
    | cons f r ih => exact fun K => ih (K.addTh ⟨f.1, .term f.2 []⟩)
  obtain ⟨a1, a2, a3⟩ := h2 ts (fs.foldl (fun K f => K.addTh ⟨f.1, .file f.2⟩) (KS.nought l))
  obtain ⟨b1, b2, b3⟩ := h1 fs (KS.nought l)
  exact ⟨a1.trans b1, a2.trans b2, a3.trans b3⟩

set_option maxRecDepth 100000 in
set_option maxHeartbeats 2000000 in
theorem config_any (a1 a2 a3 : Option Addr) (c1 c2 c3 : Nat) (fs : List Nm) (ts : List Tp) (l : List Fault) (w : World) (h1 : Nms w (.slice a1 fs.length c1) fs) (h2 : Tps w (.slice a2 ts.length c2) ts) (h3 : Flts w (.slice a3 l.length c3) l)
    (z1 : fs.length * 40 ≤ 140737488351232 ∧ ∀ j (hj : j < fs.length), fs[j].2.length ≤ 140737488351232) (z2 : ts.length * 40 ≤ 140737488351232 ∧ ∀ j (hj : j < ts.length), ts[j].2.length * 24 ≤ 140737488351232 ∧ ∀ i (hi : i < ts[j].2.length), ts[j].2[i].length ≤ 140737488351232) (z3 : l.length * 16 ≤ 140737488351232) :
    Calls Tryz.prog 7 #[.agg #[.slice a1 fs.length c1, .slice a2 ts.length c2, .slice a3 l.length c3]] w fun e w' => ∃ b1 d1 b2 d2 b3 d3, e = .returned (.agg #[.slice b1 fs.length d1, .slice b2 ts.length d2, .slice b3 l.length d3]) ∧ Nms w' (.slice b1 fs.length d1) fs ∧ Tps w' (.slice b2 ts.length d2) ts ∧ Flts w' (.slice b3 l.length d3) l ∧ Below w.heap.size w w' := by
  have H1 := hide h1
  have H2 := hide h2
  have H3 := hide h3
  have Z1 := hide z1
  have Z2 := hide z2
  have Z3 := hide z3
  have hB0 := recv_below w (Obj.cells #[.slice a1 fs.length c1, .slice a2 ts.length c2, .slice a3 l.length c3] 26)
  have HB0 := hide hB0
  clear h1 h2 h3 z1 z2 z3 hB0
  obtain ⟨q0, q1, q2⟩ := trio_cells w (.slice a1 fs.length c1) (.slice a2 ts.length c2) (.slice a3 l.length c3) 26
  go_enter Tryz.func7, Tryz.ntmps7
  go_wp2_with fail
  have hBx := HB0.out
  have hsx := hBx.size
  have hwz : (w.alloc (Obj.cells #[Value.slice a1 fs.length c1, Value.slice a2 ts.length c2, Value.slice a3 l.length c3] 26)).heap.size = w.heap.size + 1 := by simp
  generalize hwx : w.alloc (Obj.cells #[Value.slice a1 fs.length c1, Value.slice a2 ts.length c2, Value.slice a3 l.length c3] 26) = wx at *
  have hlt : w.heap.size < wx.heap.size := World.block_lt_of_cell? wx _ q0
  have hBy := recv_below wx (Obj.cells #[Value.slice none 0 0, Value.slice none 0 0, Value.slice none 0 0] 28)
  have k0 := (hBy.cell (p := ⟨w.heap.size, 0, none⟩) hlt).trans q0
  have k1 := (hBy.cell (p := ⟨w.heap.size, 1, none⟩) hlt).trans q1
  have k2 := (hBy.cell (p := ⟨w.heap.size, 2, none⟩) hlt).trans q2
  obtain ⟨r0, r1, r2⟩ := trio_cells wx (.slice none 0 0) (.slice none 0 0) (.slice none 0 0) 28
  generalize hwy : wx.alloc (Obj.cells #[Value.slice none 0 0, Value.slice none 0 0, Value.slice none 0 0] 28) = wy at *
  have hlt2 : w.heap.size < wy.heap.size := World.block_lt_of_cell? wy _ k0
  have hlr : wx.heap.size < wy.heap.size := World.block_lt_of_cell? wy _ r0
  have hBwy : Below w.heap.size w wy := hBx.trans (hBy.mono hsx)
  have HByd := hide ((Below.refl w.heap.size w).trans hBwy).drew
  have HS : Hid (∀ W, Below wy.heap.size wy W → W.cell? ⟨w.heap.size, 0, none⟩ = some (.slice a1 fs.length c1) ∧ W.cell? ⟨w.heap.size, 1, none⟩ = some (.slice a2 ts.length c2) ∧ W.cell? ⟨w.heap.size, 2, none⟩ = some (.slice a3 l.length c3)) := hide (fun W hW =>
    ⟨(hW.cell hlt2).trans k0, (hW.cell hlt2).trans k1, (hW.cell hlt2).trans k2⟩)
  have f0 : wy.frozen? ⟨wx.heap.size, 0, none⟩ = false := by rw [← hwy]; simp only [World.frozen?, heap_alloc_new]; rfl
  have f1 : wy.frozen? ⟨wx.heap.size, 1, none⟩ = false := by rw [← hwy]; simp only [World.frozen?, heap_alloc_new]; rfl
  have f2 : wy.frozen? ⟨wx.heap.size, 2, none⟩ = false := by rw [← hwy]; simp only [World.frozen?, heap_alloc_new]; rfl
  have hnq : wx.heap.size ≠ w.heap.size := by omega
  have HFz : Hid (∀ W, Below wy.heap.size wy W → W.cell? ⟨wx.heap.size, 0, none⟩ = some (.slice none 0 0) ∧ W.cell? ⟨wx.heap.size, 1, none⟩ = some (.slice none 0 0) ∧ W.cell? ⟨wx.heap.size, 2, none⟩ = some (.slice none 0 0) ∧ W.frozen? ⟨wx.heap.size, 0, none⟩ = false ∧ W.frozen? ⟨wx.heap.size, 1, none⟩ = false ∧ W.frozen? ⟨wx.heap.size, 2, none⟩ = false) := hide (fun W hW =>
    ⟨(hW.cell hlr).trans r0, (hW.cell hlr).trans r1, (hW.cell hlr).trans r2, (hW.frozen hlr).trans f0, (hW.frozen hlr).trans f1, (hW.frozen hlr).trans f2⟩)
  rw [hwz] at HFz hnq
  clear k0 k1 k2 r0 r1 r2 f0 f1 f2 q0 q1 q2
  go_region_held3 (fun w' => w'.cell? ⟨w.heap.size, 0, none⟩ = some (.slice a1 fs.length c1) ∧ w'.cell? ⟨w.heap.size, 1, none⟩ = some (.slice a2 ts.length c2) ∧ w'.cell? ⟨w.heap.size, 2, none⟩ = some (.slice a3 l.length c3))
    (first | exact ⟨(World.cell?_setCell_far _ _ _ _ hnq).trans ((World.cell?_setCell_far _ _ _ _ hnq).trans ((World.cell?_setCell_far _ _ _ _ hnq).trans (HS.out _ h4).1)), (World.cell?_setCell_far _ _ _ _ hnq).trans ((World.cell?_setCell_far _ _ _ _ hnq).trans ((World.cell?_setCell_far _ _ _ _ hnq).trans (HS.out _ h4).2.1)), (World.cell?_setCell_far _ _ _ _ hnq).trans ((World.cell?_setCell_far _ _ _ _ hnq).trans ((World.cell?_setCell_far _ _ _ _ hnq).trans (HS.out _ h4).2.2))⟩ | exact HS.out _ h4 | exact HS.out _ h3 | exact HS.out _ (Below.refl _ _).drew | exact HS.out _ h2 | go_keep)
    (first | (go_at_call 50; refine (copyNamed_any _ fs _ (H1.out.below (by exact HByd.out)) Z1.out.1 Z1.out.2).mono ?_; rintro _ w2 ⟨v1, us1, rfl, hO1, hL1, hB2⟩; obtain ⟨b1, d1, rfl⟩ := owns_slice hO1; have h2 : Below wy.heap.size wy w2 := (Below.refl _ _).drew.trans hB2) | (go_at_call 51; refine (copyTyped_any _ ts _ (H2.out.below (HByd.out.trans (hB2.mono HByd.out.size))) Z2.out.1 Z2.out.2).mono ?_; rintro _ w3 ⟨v2, us2, rfl, hO2, hl2, hL2, hB3⟩; obtain ⟨b2, d2, rfl⟩ := owns_slice hO2; have h3 : Below wy.heap.size wy w3 := h2.trans (hB3.mono h2.size)) | (go_at_call 52; refine (copyf_any _ l _ (H3.out.below ((HByd.out.trans (hB2.mono HByd.out.size)).trans (hB3.mono (HByd.out.trans (hB2.mono HByd.out.size)).size))) Z3.out).mono ?_; rintro _ w4 ⟨v3, rfl, hO3, hB4⟩; obtain ⟨b3, d3, rfl⟩ := owns_slice hO3; have h4 : Below wy.heap.size wy w4 := h3.trans (hB4.mono h3.size); obtain ⟨r0, r1, r2, f0, f1, f2⟩ := HFz.out _ h4) | fail)
  have hrow : w4.heap[w.heap.size + 1]? = some (.cells #[.slice none 0 0, .slice none 0 0, .slice none 0 0] 28 (0, 0)) := by
    rw [← hwz, h4.block _ hlr, ← hwy]
    exact heap_alloc_new _ _
  have e0 := Go.heap_setCell_same w4 (w.heap.size + 1) 0 _ _ (.slice b1 fs.length d1) hrow
  have e1 := Go.heap_setCell_same _ (w.heap.size + 1) 1 _ _ (.slice b2 ts.length d2) e0
  have e2 := Go.heap_setCell_same _ (w.heap.size + 1) 2 _ _ (.slice b3 l.length d3) e1
  have hT5 : Turned (fun k => k = w.heap.size + 1) w4 (((w4.setCell ⟨w.heap.size + 1, 0, none⟩ (.slice b1 fs.length d1)).setCell ⟨w.heap.size + 1, 1, none⟩ (.slice b2 ts.length d2)).setCell ⟨w.heap.size + 1, 2, none⟩ (.slice b3 l.length d3)) := (((Turned.refl (fun k => k = w.heap.size + 1) w4).set (.inl rfl)).set (.inl rfl)).set (.inl rfl)
  have hB5 : Below w.heap.size w (((w4.setCell ⟨w.heap.size + 1, 0, none⟩ (.slice b1 fs.length d1)).setCell ⟨w.heap.size + 1, 1, none⟩ (.slice b2 ts.length d2)).setCell ⟨w.heap.size + 1, 2, none⟩ (.slice b3 l.length d3)) := ((((hBwy.trans (h4.mono (Nat.le_of_lt hlt2))).setCell (p := ⟨w.heap.size + 1, 0, none⟩) (Nat.le_succ _) _).setCell (p := ⟨w.heap.size + 1, 1, none⟩) (Nat.le_succ _) _).setCell (p := ⟨w.heap.size + 1, 2, none⟩) (Nat.le_succ _) _)
  generalize ((w4.setCell ⟨w.heap.size + 1, 0, none⟩ (.slice b1 fs.length d1)).setCell ⟨w.heap.size + 1, 1, none⟩ (.slice b2 ts.length d2)).setCell ⟨w.heap.size + 1, 2, none⟩ (.slice b3 l.length d3) = w5 at *
  have hdr : wy.drew.heap.size = wy.heap.size := rfl
  have far : ∀ k, wy.heap.size ≤ k → ¬ k = w.heap.size + 1 := fun k h e => by omega
  have hs2 := h2.size
  have hs3 := h3.size
  have hB24 := hB3.trans (hB4.mono hB3.size)
  have n1 := nms_of_owns (owns_turned (owns_below hO1 hB24) hT5 (fun k hk e => far k (by have := (hO1.lt k hk).1; omega) e)) ((hL1.below hB24).turned hT5 (fun k hk e => far k (by omega) e)) (nms_sizes H1.out)
  have n2 := tps_of_owns (owns_turned (owns_below hO2 hB4) hT5 (fun k hk e => far k (by have := (hO2.lt k hk).1; omega) e)) hl2 (fun j hj => by
    obtain ⟨u, g1, g2⟩ := hL2 j hj
    exact ⟨u, g1, (g2.below hB4).turned hT5 (fun k hk e => far k (by omega) e)⟩) (tps_sizes H2.out)
  have n3 := Flts.of_owns (owns_turned hO3 hT5 (fun k hk e => far k (by have := (hO3.lt k hk).1; omega) e))
  go_wp2
  refine bodyPost_ret (results_cell_row rfl _ _ (w.heap.size + 1) _ _ _ _ rfl e2 Tryz.underlying28 rfl (by kernel_rfl)) rfl ?_
  exact ⟨_, _, _, _, _, _, rfl, n1, n2, n3, hB5⟩
end Go.Proofs.YtejcfhjhjplcnaaGreat

/- Contracts of Go's library on the keys of a map, sorted, at this dump, laid by the kit's own command. -/
namespace Go.Proofs
open Go.RowKit Go.Maps Go.Sort Go.Shelf
def Tryz.keys182_ren : Go.Shelf.Ren := ⟨fun | 7 => 182 | 10 => 216 | n => n, fun | 23 => 112 | 26 => 9 | 3 => 120 | 28 => 282 | 0 => 0 | 27 => 281 | 33 => 133 | 4 => 4 | n => n, fun | n => n⟩
theorem Tryz.keys182 : Go.Proofs.SlLaysZ.n7 Tryz.prog Tryz.keys182_ren := {
  mixed := by kernel_rfl
  f7 := ⟨Tryz.f182.name, by decide, Tryz.func182.trans (congrArg some (by kernel_rfl))⟩
  f10 := ⟨Tryz.f216.name, by decide, Tryz.func216.trans (congrArg some (by kernel_rfl))⟩
  t0 := Tryz.underlying0
  a0 := Tryz.isAgg0
  z0 := Tryz.sizeOf0
  v0 := Tryz.zeroValue0
  t4 := Tryz.underlying4
  a4 := Tryz.isAgg4
  z4 := Tryz.sizeOf4
  v4 := Tryz.zeroValue4
  t23 := Tryz.underlying112
  a23 := Tryz.isAgg112
  z23 := Tryz.sizeOf112
  v23 := Tryz.zeroValue112
  t26 := Tryz.underlying9
  a26 := Tryz.isAgg9
  z26 := Tryz.sizeOf9
  v26 := Tryz.zeroValue9
  t27 := Tryz.underlying281
  a27 := Tryz.isAgg281
  z27 := Tryz.sizeOf281
  v27 := Tryz.zeroValue281
  t28 := Tryz.underlying282
  a28 := Tryz.isAgg282
  z28 := Tryz.sizeOf282
  v28 := Tryz.zeroValue282
  t33 := Tryz.underlying133
  a33 := Tryz.isAgg133
  z33 := Tryz.sizeOf133
  v33 := Tryz.zeroValue133 }
def Tryz.sorted181_ren : Go.Shelf.Ren := ⟨fun | 6 => 181 | 8 => 214 | 9 => 215 | 11 => 226 | 13 => 228 | 12 => 227 | 23 => 238 | 24 => 239 | 14 => 229 | 15 => 230 | 16 => 231 | 17 => 232 | 18 => 233 | 19 => 234 | 20 => 235 | 21 => 236 | 22 => 237 | 25 => 240 | 26 => 241 | 27 => 242 | 28 => 243 | 29 => 244 | 30 => 245 | 31 => 246 | n => n, fun | 26 => 9 | 28 => 282 | 24 => 132 | 0 => 0 | 3 => 3 | 37 => 327 | 48 => 338 | 50 => 340 | 4 => 4 | 40 => 331 | 39 => 330 | 45 => 237 | 5 => 5 | 9 => 9 | 51 => 341 | 55 => 313 | 57 => 346 | 58 => 67 | 33 => 133 | n => n, fun | n => n⟩
theorem Tryz.sorted181 : Go.Proofs.SlLaysZ.n6 Tryz.prog Tryz.sorted181_ren := {
  mixed := by kernel_rfl
  f6 := ⟨Tryz.f181.name, by decide, Tryz.func181.trans (congrArg some (by kernel_rfl))⟩
  f8 := ⟨Tryz.f214.name, by decide, Tryz.func214.trans (congrArg some (by kernel_rfl))⟩
  f11 := ⟨Tryz.f226.name, by decide, Tryz.func226.trans (congrArg some (by kernel_rfl))⟩
  t0 := Tryz.underlying0
  a0 := Tryz.isAgg0
  z0 := Tryz.sizeOf0
  v0 := Tryz.zeroValue0
  t24 := Tryz.underlying132
  a24 := Tryz.isAgg132
  z24 := Tryz.sizeOf132
  v24 := Tryz.zeroValue132
  t26 := Tryz.underlying9
  a26 := Tryz.isAgg9
  z26 := Tryz.sizeOf9
  v26 := Tryz.zeroValue9
  t28 := Tryz.underlying282
  a28 := Tryz.isAgg282
  z28 := Tryz.sizeOf282
  v28 := Tryz.zeroValue282
  i26 := by kernel_rfl }
def Tryz.sort215_ren : Go.Shelf.Ren := ⟨fun | 6 => 215 | 8 => 228 | 9 => 227 | 19 => 238 | 20 => 239 | 21 => 229 | 22 => 230 | 23 => 231 | 24 => 232 | 25 => 233 | 26 => 234 | 27 => 235 | 28 => 236 | 29 => 237 | 36 => 240 | 31 => 241 | 32 => 242 | 37 => 243 | 38 => 244 | 39 => 245 | 41 => 246 | n => n, fun | 27 => 132 | 29 => 9 | 3 => 3 | 32 => 327 | 26 => 132 | 0 => 0 | 44 => 338 | 46 => 340 | 4 => 4 | 36 => 331 | 35 => 330 | 41 => 237 | 5 => 5 | 9 => 9 | 53 => 341 | 57 => 313 | 63 => 346 | 64 => 67 | n => n, fun | n => n⟩
theorem Tryz.sort215 : Go.Proofs.SlLaysM.n6 Tryz.prog Tryz.sort215_ren := {
  mixed := by kernel_rfl
  f6 := ⟨Tryz.f215.name, by decide, Tryz.func215.trans (congrArg some (by kernel_rfl))⟩
  f8 := Tryz.func228.trans (congrArg some (by kernel_rfl))
  f9 := ⟨Tryz.f227.name, by decide, Tryz.func227.trans (congrArg some (by kernel_rfl))⟩
  f19 := Tryz.func238.trans (congrArg some (by kernel_rfl))
  f20 := Tryz.func239.trans (congrArg some (by kernel_rfl))
  f21 := ⟨Tryz.f229.name, by decide, Tryz.func229.trans (congrArg some (by kernel_rfl))⟩
  f22 := ⟨Tryz.f230.name, by decide, Tryz.func230.trans (congrArg some (by kernel_rfl))⟩
  f23 := ⟨Tryz.f231.name, by decide, Tryz.func231.trans (congrArg some (by kernel_rfl))⟩
  f24 := ⟨Tryz.f232.name, by decide, Tryz.func232.trans (congrArg some (by kernel_rfl))⟩
  f25 := ⟨Tryz.f233.name, by decide, Tryz.func233.trans (congrArg some (by kernel_rfl))⟩
  f26 := ⟨Tryz.f234.name, by decide, Tryz.func234.trans (congrArg some (by kernel_rfl))⟩
  f27 := ⟨Tryz.f235.name, by decide, Tryz.func235.trans (congrArg some (by kernel_rfl))⟩
  f28 := ⟨Tryz.f236.name, by decide, Tryz.func236.trans (congrArg some (by kernel_rfl))⟩
  f29 := ⟨Tryz.f237.name, by decide, Tryz.func237.trans (congrArg some (by kernel_rfl))⟩
  f31 := Tryz.func241.trans (congrArg some (by kernel_rfl))
  f32 := Tryz.func242.trans (congrArg some (by kernel_rfl))
  f36 := ⟨Tryz.f240.name, by decide, Tryz.func240.trans (congrArg some (by kernel_rfl))⟩
  f37 := ⟨Tryz.f243.name, by decide, Tryz.func243.trans (congrArg some (by kernel_rfl))⟩
  f38 := ⟨Tryz.f244.name, by decide, Tryz.func244.trans (congrArg some (by kernel_rfl))⟩
  f39 := ⟨Tryz.f245.name, by decide, Tryz.func245.trans (congrArg some (by kernel_rfl))⟩
  f41 := ⟨Tryz.f246.name, by decide, Tryz.func246.trans (congrArg some (by kernel_rfl))⟩
  t0 := Tryz.underlying0
  a0 := Tryz.isAgg0
  z0 := Tryz.sizeOf0
  v0 := Tryz.zeroValue0
  t3 := Tryz.underlying3
  a3 := Tryz.isAgg3
  z3 := Tryz.sizeOf3
  v3 := Tryz.zeroValue3
  t4 := Tryz.underlying4
  a4 := Tryz.isAgg4
  z4 := Tryz.sizeOf4
  v4 := Tryz.zeroValue4
  t5 := Tryz.underlying5
  a5 := Tryz.isAgg5
  z5 := Tryz.sizeOf5
  v5 := Tryz.zeroValue5
  t9 := Tryz.underlying9
  a9 := Tryz.isAgg9
  z9 := Tryz.sizeOf9
  v9 := Tryz.zeroValue9
  t26 := Tryz.underlying132
  a26 := Tryz.isAgg132
  z26 := Tryz.sizeOf132
  v26 := Tryz.zeroValue132
  t27 := Tryz.underlying132
  a27 := Tryz.isAgg132
  z27 := Tryz.sizeOf132
  v27 := Tryz.zeroValue132
  t29 := Tryz.underlying9
  a29 := Tryz.isAgg9
  z29 := Tryz.sizeOf9
  v29 := Tryz.zeroValue9
  t32 := Tryz.underlying327
  a32 := Tryz.isAgg327
  z32 := Tryz.sizeOf327
  v32 := Tryz.zeroValue327
  t35 := Tryz.underlying330
  a35 := Tryz.isAgg330
  z35 := Tryz.sizeOf330
  v35 := Tryz.zeroValue330
  t36 := Tryz.underlying331
  a36 := Tryz.isAgg331
  z36 := Tryz.sizeOf331
  v36 := Tryz.zeroValue331
  t41 := Tryz.underlying237
  a41 := Tryz.isAgg237
  z41 := Tryz.sizeOf237
  v41 := Tryz.zeroValue237
  t44 := Tryz.underlying338
  a44 := Tryz.isAgg338
  z44 := Tryz.sizeOf338
  v44 := Tryz.zeroValue338
  t46 := Tryz.underlying340
  a46 := Tryz.isAgg340
  z46 := Tryz.sizeOf340
  v46 := Tryz.zeroValue340
  t53 := Tryz.underlying341
  a53 := Tryz.isAgg341
  z53 := Tryz.sizeOf341
  v53 := Tryz.zeroValue341
  t57 := Tryz.underlying313
  a57 := Tryz.isAgg313
  z57 := Tryz.sizeOf313
  v57 := Tryz.zeroValue313
  t63 := Tryz.underlying346
  a63 := Tryz.isAgg346
  z63 := Tryz.sizeOf346
  v63 := Tryz.zeroValue346
  t64 := Tryz.underlying67
  a64 := Tryz.isAgg67
  z64 := Tryz.sizeOf67
  v64 := Tryz.zeroValue67 }

theorem Tryz.sorts181 (m : Nat) : AnyZ.SortsIn Tryz.prog Tryz.sorted181_ren Fence.wide m :=
  ⟨fun blk off cap ss W hH hblk hsz => callsIn_wide.2 (AnyM.slices_Sort_string Tryz.sort215 blk off cap ss W hH hblk hsz),
   fun p cap W => callsIn_wide.2 (AnyM.slices_Sort_string_none Tryz.sort215 p cap W)⟩
theorem Tryz.maps_Keys_182 (mb : Option Nat) (W : World) : CallsIn Fence.wide 5 Tryz.prog 182 #[.map mb] W fun e w' => e = .returned (.func (.func 216) #[] #[.pointer (some ⟨W.heap.size, 0, none⟩)]) ∧ w' = W.alloc (.cells #[.map mb] 112) :=
  AnyZ.keys_in Tryz.keys182 Fence.wide 5 trivial rfl mb W
set_option maxHeartbeats 1000000 in
theorem Tryz.slices_Sorted_keys_181_182 {H : Type} (b nn : Nat) (D0 : DataW H) (R : Value → Option (DataW H × List MemPlace)) (w : World) (hown : w.ownsMap Tryz.prog 9 R b nn D0) (hmax : Maps.size D0 ≤ maxLen) (hbytes : Maps.size D0 * 16 ≤ 140737488355328) :
    CallsIn Fence.wide 5 Tryz.prog 181 #[.func (.func 216) #[] #[.pointer (some ⟨w.heap.size, 0, none⟩)]] (w.alloc (.cells #[.map (some b)] 112)) fun e w' => ∃ (v : Value) (ss : List (List UInt8)), e = .returned v ∧ ss.Perm (strKeys D0) ∧
      w'.ownsRow (w.alloc (.cells #[.map (some b)] 112)).heap.size 9 1 v ss.length ((ss.mergeSort (fun x y => decide (x ≤ y))).map encStr) ∧ (v = .slice none 0 0 ↔ ss = []) ∧ Below (w.alloc (.cells #[.map (some b)] 112)).heap.size (w.alloc (.cells #[.map (some b)] 112)) w' := by
  have hbl := hown.lt
  have hseq : SeqGives Fence.wide 2 Tryz.prog 216 #[.pointer (some ⟨w.heap.size, 0, none⟩)] encStr (fun ss => ss.Perm (strKeys D0)) (Maps.size D0) (w.alloc (.cells #[.map (some b)] 112)) :=
    AnyZ.keys_gives (ρ := Tryz.keys182_ren) { Tryz.keys182 with } Fence.wide _ trivial rfl (by omega) w.heap.size b nn D0 _ (by simp) (by simp) (by
      obtain ⟨es, clock, hb, Ft, hs, hD⟩ := hown
      exact ⟨es, clock, (Below.heap_alloc _ _ b hbl).trans hb, Ft, hs, hD⟩)
  exact AnyZ.sorted_in Tryz.sorted181 Fence.wide 5 trivial trivial trivial trivial rfl (by omega) (Tryz.sorts181 _) (enters_of Tryz.func215 (by kernel_rfl) rfl) 216 #[.pointer (some ⟨w.heap.size, 0, none⟩)] trivial (enters_of Tryz.func216 (by kernel_rfl) rfl) _ _ hmax hbytes _ hseq
set_option maxHeartbeats 1000000 in
theorem Tryz.slices_Sorted_keys_nil_181_182 (w : World) :
    CallsIn Fence.wide 5 Tryz.prog 181 #[.func (.func 216) #[] #[.pointer (some ⟨w.heap.size, 0, none⟩)]] (w.alloc (.cells #[.map none] 112)) fun e w' => ∃ (v : Value) (ss : List (List UInt8)), e = .returned v ∧ ss = [] ∧
      w'.ownsRow (w.alloc (.cells #[.map none] 112)).heap.size 9 1 v ss.length ((ss.mergeSort (fun x y => decide (x ≤ y))).map encStr) ∧ (v = .slice none 0 0 ↔ ss = []) ∧ Below (w.alloc (.cells #[.map none] 112)).heap.size (w.alloc (.cells #[.map none] 112)) w' := by
  have hseq : SeqGives Fence.wide 2 Tryz.prog 216 #[.pointer (some ⟨w.heap.size, 0, none⟩)] encStr (fun ss : List (List UInt8) => ss = []) 0 (w.alloc (.cells #[.map none] 112)) :=
    AnyZ.keys_gives_nil (ρ := Tryz.keys182_ren) { Tryz.keys182 with } Fence.wide _ trivial rfl w.heap.size _ (by simp) (by simp)
  exact AnyZ.sorted_in Tryz.sorted181 Fence.wide 5 trivial trivial trivial trivial rfl (by omega) (Tryz.sorts181 _) (enters_of Tryz.func215 (by kernel_rfl) rfl) 216 #[.pointer (some ⟨w.heap.size, 0, none⟩)] trivial (enters_of Tryz.func216 (by kernel_rfl) rfl) _ 0 (Nat.zero_le _) (by omega) _ hseq
end Go.Proofs

/- Files: all files by name. -/
namespace Go.Proofs.YtejcfhjhjplcnaaGreat
open Go.RowKit Go.Maps

def Ob.bytes : Ob → List UInt8
  | .file b => b
  | _ => []
def KS.files (K : KS) : List Nm := K.fidx.map fun i => (K.nameOf i, (K.obOf i).bytes)
def fnames (K : KS) : List (List UInt8) := K.fidx.map fun i => (K.nameOf i).data.toList
theorem fnames_sorted {K : KS} (h : KNm K) : (fnames K).Pairwise (fun a b => leB a b = true) := by
  unfold fnames KS.fidx
  refine List.pairwise_map.2 ?_
  refine ((h.sorted.filter _).imp fun {a b} hab => ?_)
  exact decide_eq_true (List.le_of_lt hab)
theorem keys_are {K : KS} (h : KNm K) {ss : List (List UInt8)} (hp : ss.Perm (fnames K)) : ss.mergeSort (fun x y => decide (x ≤ y)) = fnames K := by
  show ss.mergeSort leB = _
  rw [mergeSort_of_perm hp]
  exact List.mergeSort_of_pairwise (fnames_sorted h)
theorem fl_strs (K : KS) (I : PI) : ((K.fl I).map fun p => strOf p.1) = fnames K := by
  unfold KS.fl fnames
  rw [List.map_map]
  rfl
theorem sorted_any {w : World} {ρ : Nat → Option PTag} {I : PI} {K : KS} (h : PK w ρ I K) :
    Calls Tryz.prog 181 #[.func (.func 216) #[] #[.pointer (some ⟨w.heap.size, 0, none⟩)]] (w.alloc (.cells #[.map (some I.fm)] 112)) fun e w' => ∃ v, e = .returned v ∧ w'.ownsRow (w.alloc (.cells #[.map (some I.fm)] 112)).heap.size 9 1 v (fnames K).length ((fnames K).map encStr) ∧ Below (w.alloc (.cells #[.map (some I.fm)] 112)).heap.size (w.alloc (.cells #[.map (some I.fm)] 112)) w' := by
  obtain ⟨D, h1, h2, h3⟩ := (h.comp .fmap).1.keys skeyed Tryz.underlying9
  have hfew : (K.fl I).length ≤ 256 := by
    have := h.ok.named
    have h4 : (K.fl I).length ≤ K.nm.length := by unfold KS.fl KS.fidx; simpa using List.length_filter_le _ _
    omega
  rw [fl_strs] at h3
  refine (callsIn_wide.1 (Tryz.slices_Sorted_keys_181_182 I.fm _ D ptrElem w h1 (by unfold maxLen; omega) (by omega))).mono ?_
  rintro e w' ⟨v, ss, rfl, hS, hrow, -, hb⟩
  have hp := hS.trans h3
  rw [keys_are h.nm hp, hp.length_eq] at hrow
  exact ⟨v, rfl, hrow, hb⟩
theorem kbytes_any (O : Nat → Prop) (p : Nat) (b : List UInt8) (w : World) (h : PObj w O p (.file b)) :
    Calls Tryz.prog 183 #[.pointer (some ⟨p, 0, none⟩)] w fun e w' => ∃ v, e = .returned v ∧ w'.ownsRow w.heap.size 5 1 v b.length (b.map bv) ∧ Below w.heap.size w w' :=
  (po_fbytes O p b w h).mono fun _ _ ⟨a, b, c⟩ => ⟨_, a, b, c⟩
theorem name_few {s : ByteArray} (h : nameOk s = true) : s.size ≤ 64 := by
  unfold nameOk at h
  simp only [Bool.and_eq_true, decide_eq_true_eq] at h
  exact h.2.1
theorem file_at {K : KS} (h : KOk K) {k : Nat} (hk : k < (fnames K).length) : ∃ i L, i ∈ K.nm ∧ i < K.th.length ∧ K.obOf i = .file L ∧ (fnames K)[k]? = some (K.nameOf i).data.toList ∧ K.files[k]? = some (K.nameOf i, L) := by
  have hk' : k < K.fidx.length := by simpa [fnames] using hk
  have hm := List.mem_filter.1 (List.getElem_mem hk')
  have hkind : (K.obOf K.fidx[k]).kind = 1 := by simpa using hm.2
  cases ho : K.obOf K.fidx[k] with
  | file L =>
    refine ⟨K.fidx[k], L, hm.1, h.nm _ hm.1, ho, ?_, ?_⟩
    · simp [fnames, hk']
    · simp [KS.files, hk', ho, Ob.bytes]
  | term ls scr => rw [ho] at hkind; cases hkind
  | pipe q rd wt => rw [ho] at hkind; cases hkind
theorem names_cell {W : World} {va : Option Addr} {vc N k : Nat} {ns : List (List UInt8)} {s : ByteArray} (h : W.ownsRow 0 9 1 (.slice va N vc) N (ns.map encStr)) (hk : k < N) (hs : ns[k]? = some s.data.toList) : ∃ vb, va = some ⟨vb, 0, none⟩ ∧ W.cell? ⟨vb, k, none⟩ = some (.string s) := by
  have hx := h
  rcases h.2 with ⟨e, _⟩ | ⟨g, cap, cur, e, _⟩
  · simp only [Value.slice.injEq] at e; omega
  · simp only [Value.slice.injEq] at e
    obtain ⟨rfl, _, rfl⟩ := e
    refine ⟨g, rfl, ?_⟩
    rw [hx.cellAt k (by omega), List.getElem?_map, hs]
    simp [encStr]
theorem kkeys_any (mb : Option Nat) (W : World) : Calls Tryz.prog 182 #[.map mb] W fun e w' => e = .returned (.func (.func 216) #[] #[.pointer (some ⟨W.heap.size, 0, none⟩)]) ∧ w' = W.alloc (.cells #[.map mb] 112) := callsIn_wide.1 (Tryz.maps_Keys_182 mb W)
set_option maxRecDepth 100000 in
set_option maxHeartbeats 4000000 in
theorem kfiles_any (ρ : Nat → Option PTag) (I : PI) (K : KS) (w : World) (h : PK w ρ I K) :
    Calls Tryz.prog 75 #[.pointer (some ⟨I.kb, 0, none⟩)] w fun e w' => ∃ v us, e = .returned v ∧ w'.ownsRow w.heap.size 119 2 v K.files.length (ncs K.files us) ∧ LCells w' w.heap.size (K.files.map Prod.snd) us ∧ Below w.heap.size w w' := by
  have H := hide h
  have c0 := h.cells.made
  have c1 := h.cells.files
  have sl := (h.comp .fmap).1.len Tryz.underlying112
  have hflen : (K.fl I).length = (fnames K).length := by simp [KS.fl, fnames]
  obtain ⟨N, hN⟩ : ∃ N, N = (fnames K).length := ⟨_, rfl⟩
  rw [hflen, ← hN] at sl
  have HN := hide hN
  have HN9 : Hid (N ≤ 256) := hide (by
    have := h.ok.named
    have h4 : (K.fl I).length ≤ K.nm.length := by unfold KS.fl KS.fidx; simpa using List.length_filter_le _ _
    omega)
  obtain ⟨i0, hi, hz0, hz1, hz2⟩ := info_parts Tryz.infoN
  clear h hflen hN
  go_enter Tryz.func75, Tryz.ntmps75
  go_wp2_with fail
  refine (kmade_any I.kb w c0).mono ?_
  rintro e w1 ⟨rfl, rfl⟩
  go_wp2_with (at_make; refine wpList_make_own _ rfl _ _ 22 rfl w1.heap.size 119 i0 (.agg #[.string ByteArray.empty, .slice none 0 0]) 2 Tryz.underlying22 hi hz0 hz1 _ _ _ N rfl rfl rfl (by rw [hz2]; have := HN9.out; omega) (by have := HN9.out; unfold maxLen; omega) (Nat.le_refl _) ?_; intro w2 hown2 hgrow2; have HO2 := hide hown2; have HB2 : Hid (Below w1.heap.size w1 w2) := hide ((Below.refl _ w1).grown hgrow2 (Nat.le_refl _) (fun k e => by cases e)); have H2 := hide (H.out.under HB2.out); have c2 := H2.out.cells.files; clear hown2 hgrow2 c0 c1 sl)
  refine (kkeys_any _ _).mono ?_
  rintro _ _ ⟨rfl, rfl⟩
  go_wp2_with fail
  refine (sorted_any H2.out).mono ?_
  rintro e w3 ⟨v, rfl, hrow, hB3⟩
  obtain ⟨va, vc, rfl⟩ := owns_slice hrow
  have HRow := hide (owns_mono hrow (Nat.zero_le _))
  rw [← HN.out] at HRow ⊢
  have HB3 : Hid (Below w1.heap.size w1 w3) := hide (HB2.out.trans (((recv_below w2 _).trans (hB3.mono (recv_below w2 _).size)).mono HB2.out.size))
  have HO3 := hide (owns_below HO2.out ((recv_below w2 _).trans (hB3.mono (recv_below w2 _).size)))
  clear hrow hB3 c2
  go_wp2_with fail
  go_loopw [3, 22] (fun ov i wr => ∃ (k : Nat) (us : List Value), k ≤ N ∧ i = .int .i64 k ∧ Hid (wr.ownsRow w1.heap.size 119 2 ov k (ncs (K.files.take k) us)) ∧ Hid (LCells wr w1.heap.size ((K.files.take k).map Prod.snd) us) ∧ Hid (wr.ownsRow 0 9 1 (.slice va N vc) N ((fnames K).map encStr)) ∧ Hid (Below w1.heap.size w1 wr)) (fun _ i _ => N - (intOf i).toNat)
  case atStart => exact ⟨0, [], Nat.zero_le _, rfl, HO3, hide ⟨rfl, (fun j hj => by simp at hj), (fun i j vi vj m _ h1 => by simp at h1)⟩, HRow, HB3⟩
  case round =>
    obtain ⟨k, us, hk, rfl, HO, HL, HRw, HB⟩ := hrel
    obtain ⟨oa, oc, rfl⟩ := owns_slice HO.out
    clear HO3 HRow HB3 HO2 HB2 H2
    by_cases hlt : k < N
    · obtain ⟨i, L, hmem, hith, hobi, hfn, hfile⟩ := file_at H.out.ok (k := k) (by rw [← HN.out]; exact hlt)
      have hH := H.out.under HB.out
      have hHd := hH
      have hsz : (K.nameOf i).size ≤ maxLen := by have := name_few (H.out.nm.ok i hmem); unfold maxLen; omega
      have hlk := look_file hHd hsz hmem rfl (by rw [hobi]; rfl) false
      simp only [Bool.false_eq_true, if_false] at hlk
      have HOb : Hid (PObj wr (fun k => ρ k = some (.obj i)) (I.ob i) (.file L)) := hide (by have := hHd.comp (.obj i) hith; rw [← KS.obOf_eq hith, hobi] at this; exact this)
      have hc1 := hH.cells.files
      have hkb : I.kb < wr.heap.size := World.block_lt_of_cell? wr _ hc1
      have hkw : I.kb < w1.heap.size := World.block_lt_of_cell? w1 _ H.out.cells.files
      obtain ⟨vb, rfl, hcell⟩ := names_cell HRw.out hlt hfn
      have hk1 : (0 : Int) ≤ (k : Int) := by omega
      have hk2 : (k : Int) < (N : Int) := by omega
      have hNs := HN9.out
      have hBs := HB.out.size
      have hul := HL.out.1
      simp only [List.length_map, List.length_take] at hul
      have hkf : k < K.files.length := (List.getElem?_eq_some_iff.1 hfile).1
      rw [Nat.min_eq_left (by omega)] at hul
      have hl4 : L.length ≤ 1048576 := HOb.out.1
      have HPk := hide hfile
      generalize K.nameOf i = nm at *
      clear hfn hobi hH hHd hfile hsz
      go_wp2_with fail
      refine (kbytes_any _ (I.ob i) L _ HOb.out).mono ?_
      rintro e w4 ⟨u, rfl, hownu, hB4⟩
      obtain ⟨ua, uc, rfl⟩ := owns_slice hownu
      have hz4 : wr.heap.size ≤ w4.heap.size := hB4.size
      have hB04 : Below w1.heap.size w1 w4 := HB.out.trans (hB4.mono HB.out.size)
      have K4 : w4.cell? ⟨I.kb, 1, none⟩ = some (.map (some I.fm)) := (hB4.cell (p := ⟨I.kb, 1, none⟩) hkb).trans hc1
      have hBa : Below w4.heap.size w4 (w4.alloc (Obj.cells #[.string nm, .slice ua L.length uc] 119)) := (Below.refl _ _).alloc (Nat.le_refl _) _
      have Ka : (w4.alloc (Obj.cells #[.string nm, .slice ua L.length uc] 119)).cell? ⟨I.kb, 1, none⟩ = some (.map (some I.fm)) := (hBa.cell (p := ⟨I.kb, 1, none⟩) (Nat.lt_of_lt_of_le hkb hz4)).trans K4
      have hB0a := hB04.trans (hBa.mono hB04.size)
      have hB4a := hB4.trans (hBa.mono hB4.size)
      have HOa := hide (owns_below (W := wr) HO.out hB4a)
      have HLa := hide (LCells.below (W := wr) HL.out hB4a)
      have HUa := hide (owns_below hownu hBa)
      have hcu0 : (w4.alloc (Obj.cells #[.string nm, .slice ua L.length uc] 119)).cell? ⟨w4.heap.size, 0, none⟩ = some (.string nm) := (by simp only [World.cell?, heap_alloc_new]; rfl)
      have hcu1 : (w4.alloc (Obj.cells #[.string nm, .slice ua L.length uc] 119)).cell? ⟨w4.heap.size, 1, none⟩ = some (.slice ua L.length uc) := (by simp only [World.cell?, heap_alloc_new]; rfl)
      have hza := size_new w4 (Obj.cells #[.string nm, .slice ua L.length uc] 119)
      obtain ⟨s', w7, hrun, HO7, hg7, hb7⟩ := run_append_named (w4.alloc (Obj.cells #[.string nm, .slice ua L.length uc] 119)) 22 w1.heap.size _ k _ w4.heap.size 1 nm _ HOa.out hcu0 hcu1 rfl (by omega) (by omega)
      have HR := hide hrun
      have HX := hide hownu
      have K7 : w7.cell? ⟨I.kb, 1, none⟩ = some (.map (some I.fm)) := (World.cell?_of_block (w := w4.alloc (Obj.cells #[.string nm, .slice ua L.length uc] 119)) (a := ⟨I.kb, 1, none⟩) (hg7.block I.kb (by show I.kb < _; omega) (fun e => by have := (HOa.out.lt I.kb e.symm).1; omega))).trans Ka
      clear hrun hownu hcu0 hcu1
      go_wp2_with (first | (at_builtin; refine Lib.wpList_append_run _ rfl _ _ _ _ rfl _ _ rfl rfl _ _ HR.out ?_) | fail)
      all_goals
        go_roundw
        case rel =>
          have hLa : LCells w7 w1.heap.size ((K.files.take k).map Prod.snd) us := HLa.out.keep fun j hj v i h1 e => by
            obtain ⟨v', h2, h3⟩ := HLa.out.2.1 j hj
            rw [h1] at h2
            cases h2
            exact hg7.block i (h3.lt i e).2 (fun e' => Te_owns_apart h3 HOa.out (by decide) i e e'.symm)
          have hU7 := owns_keep (W' := w7) HUa.out fun i e => hg7.block i (HUa.out.lt i e).2 (fun e' => Te_owns_apart HUa.out HOa.out (by decide) i e e'.symm)
          refine ⟨k + 1, us ++ [.slice ua L.length uc], by omega, by go_num, ?_, ?_, hide ?_, hide (hB0a.grown hg7 hB0a.size (fun j e => (HOa.out.lt j e).1))⟩
          · have h8 := HO7.out
            rw [← ncs_snoc (K.files.take k) us (nm, L) _ (by simp; omega)] at h8
            rw [show K.files.take (k + 1) = K.files.take k ++ [(nm, L)] by rw [List.take_add_one, HPk.out]; rfl]
            exact h8
          · have h9 : k < (K.files.map Prod.snd).length := by rw [List.length_map]; exact (List.getElem?_eq_some_iff.1 HPk.out).1
            rw [List.map_take] at hLa ⊢
            refine LCells.snoc h9 hLa _ ?_ (fun j v i h1 e e' => ?_)
            · rw [List.getElem_map, (List.getElem?_eq_some_iff.1 HPk.out).2]
              exact owns_mono hU7 (by omega)
            · obtain ⟨v', h2, h3⟩ := HL.out.2.1 j (by have := (List.getElem?_eq_some_iff.1 h1).1; have := HL.out.1; omega)
              rw [h1] at h2
              cases h2
              have := (h3.lt i e).2
              have : wr.heap.size ≤ i := (HX.out.lt i e').1
              omega
          · exact owns_keep (owns_below HRw.out hB4a) fun i e => hg7.block i (Nat.lt_of_lt_of_le (HRw.out.lt i e).2 hB4a.size) (fun e' => Te_owns_apart (owns_below HRw.out hB4a) HOa.out (by decide) i e e'.symm)
        case measure => simp [intOf]; omega
    · have hke : k = K.files.length := by have := HN.out; simp only [fnames, KS.files, List.length_map] at *; omega
      go_wp2
      go_ret
      have h1 := HL.out
      have h2 := HO.out
      subst hke
      rw [List.take_length] at h1 h2
      exact ⟨_, us, rfl, h2, h1, HB.out⟩
end Go.Proofs.YtejcfhjhjplcnaaGreat

/- KernPieces: the kernel's states, as values. -/
namespace Go.Proofs.YtejcfhjhjplcnaaGreat
open Go.RowKit Go.Maps

theorem KAt.files {w : World} {O : Nat → Prop} {kb : Nat} {K : KS} (h : KAt w O kb K) :
    Calls Tryz.prog 75 #[.pointer (some ⟨kb, 0, none⟩)] w fun e w' => ∃ v us, e = .returned v ∧ w'.ownsRow w.heap.size 119 2 v K.files.length (ncs K.files us) ∧ LCells w' w.heap.size (K.files.map Prod.snd) us ∧ Below w.heap.size w w' := by
  obtain ⟨ρ, I, h1, rfl, h3⟩ := h
  exact kfiles_any ρ I K w h1
end Go.Proofs.YtejcfhjhjplcnaaGreat

/- Rest and Calls of a kernel; what a refused call leaves, as values. -/
namespace Go.Proofs.YtejcfhjhjplcnaaGreat
open Go.RowKit Go.Maps

set_option maxRecDepth 100000 in
theorem krest_any (ρ : Nat → Option PTag) (I : PI) (K : KS) (w : World) (h : PK w ρ I K) :
    Calls Tryz.prog 78 #[.pointer (some ⟨I.kb, 0, none⟩)] w fun e w' => ∃ v, e = .returned v ∧ w'.ownsRow w.heap.size 190 2 v K.plan.length (fcs K.plan) ∧ Below w.heap.size w w' := by
  have c0 := h.cells.made
  have c5 := h.cells.plan
  have HR := hide (rest_any I.pb I.pv K.plan w (h.comp .plan).1 (by have := h.ok.plan.1; omega))
  have HM := hide (kmade_any I.kb w c0)
  clear h
  go_enter Tryz.func78, Tryz.ntmps78
  go_wp2_with fail
  refine HM.out.mono ?_
  rintro e w1 ⟨rfl, rfl⟩
  go_wp2_with fail
  refine HR.out.mono ?_
  rintro e w2 ⟨v, rfl, hO, hB⟩
  have HO := hide hO
  have HB := hide hB
  clear hO hB
  go_wp2
  go_ret
  exact ⟨v, rfl, HO.out, HB.out⟩
theorem KAt.rest {w : World} {O : Nat → Prop} {kb : Nat} {K : KS} (h : KAt w O kb K) :
    Calls Tryz.prog 78 #[.pointer (some ⟨kb, 0, none⟩)] w fun e w' => ∃ v, e = .returned v ∧ w'.ownsRow w.heap.size 190 2 v K.plan.length (fcs K.plan) ∧ Below w.heap.size w w' := by
  obtain ⟨ρ, I, h1, rfl, h3⟩ := h
  exact krest_any ρ I K w h1
def Refused (K : KS) (E : Int) (K' : KS) : Prop := K'.files = K.files ∧ ((E ≠ 22 ∧ E ≠ 23 ∧ K'.plan = K.plan) ∨ ((E = 22 ∨ E = 23) ∧ K'.plan = K.plan.tail ∧ K.plan ≠ []))
theorem Refused.same {K : KS} {E : Int} (h1 : E ≠ 22) (h2 : E ≠ 23) : Refused K E K := ⟨rfl, .inl ⟨h1, h2, rfl⟩⟩
end Go.Proofs.YtejcfhjhjplcnaaGreat

/- Handles: their calls, those of no kernel, and two kernels side by side. -/
namespace Go.Proofs.YtejcfhjhjplcnaaGreat
open Go.RowKit Go.Maps

theorem KStep.behind {w w1 w' : World} {O : Nat → Prop} {kb : Nat} {K : KS} (h : KStep w1 O kb K w') (hB : Below w.heap.size w w1) : KStep w O kb K w' := by
  obtain ⟨O', h1, h2, h3⟩ := h
  exact ⟨O', h1, fun k e => (h2 k e).imp id (fun e => Nat.le_trans hB.size e), (Turned.of_below hB).trans h3 (fun _ _ e => e)⟩
def Two (W : World) (B kb mb : Nat) (K M : KS) : Prop := ∃ O P, KAt W O kb K ∧ KAt W P mb M ∧ (∀ j, O j → B ≤ j ∧ j < W.heap.size ∧ ¬ P j) ∧ ∀ j, P j → B ≤ j ∧ j < W.heap.size
theorem Two.swap {W : World} {B kb mb : Nat} {K M : KS} (h : Two W B kb mb K M) : Two W B mb kb M K := by
  obtain ⟨O, P, h1, h2, h3, h4⟩ := h
  exact ⟨P, O, h2, h1, fun j e => ⟨(h4 j e).1, (h4 j e).2, fun e' => (h3 j e').2.2 e⟩, fun j e => ⟨(h3 j e).1, (h3 j e).2.1⟩⟩
theorem Two.below {W W' : World} {B kb mb : Nat} {K M : KS} (h : Two W B kb mb K M) (hB : Below W.heap.size W W') : Two W' B kb mb K M := by
  obtain ⟨O, P, h1, h2, h3, h4⟩ := h
  exact ⟨O, P, h1.below hB, h2.below hB, fun j e => ⟨(h3 j e).1, Nat.lt_of_lt_of_le (h3 j e).2.1 hB.size, (h3 j e).2.2⟩, fun j e => ⟨(h4 j e).1, Nat.lt_of_lt_of_le (h4 j e).2 hB.size⟩⟩
theorem Two.both {wr : World} {B kb mb : Nat} {K M : KS} (h : Two wr B kb mb K M) (hB : B ≤ wr.heap.size) :
    ∃ O P, KAt wr O kb K ∧ KAt wr P mb M ∧ (∀ j, O j → B ≤ j ∧ j < wr.heap.size) ∧ (∀ j, P j → B ≤ j ∧ j < wr.heap.size) ∧
      ∀ wb, Below wr.heap.size wr wb → ∀ K' w6, KStep wb O kb K' w6 → KAt w6 P mb M ∧ ∀ M' w7, KStep w6 P mb M' w7 → Two w7 B kb mb K' M' ∧ Below B wr w7 := by
  obtain ⟨O, P, h1, h2, h3, h4⟩ := h
  refine ⟨O, P, h1, h2, fun j e => ⟨(h3 j e).1, (h3 j e).2.1⟩, h4, fun wb hb K' w6 hS => ?_⟩
  obtain ⟨O', g1, g2, g3⟩ := hS
  have hsb := hb.size
  have hm : KAt w6 P mb M := (h2.below hb).keep (fun j e hl => g3.block j hl (fun e' => (h3 j e').2.2 e)) g3.size
  refine ⟨hm, fun M' w7 hS7 => ?_⟩
  obtain ⟨P', f1, f2, f3⟩ := hS7
  have hz6 := g3.size
  have hz7 := f3.size
  have g1' := g1.trim
  refine ⟨⟨fun k => O' k ∧ k < w6.heap.size, fun k => P' k ∧ k < w7.heap.size, g1'.keep (fun j e hl => f3.block j hl (fun e' => ?_)) hz7, f1.trim, fun j e => ⟨?_, Nat.lt_of_lt_of_le e.2 hz7, fun e' => ?_⟩, fun j e => ⟨?_, e.2⟩⟩, (hb.mono hB).trans ((g3.below (fun j e => (h3 j e).1) (Nat.le_trans hB hsb)).trans (f3.below (fun j e => (h4 j e).1) (Nat.le_trans hB (Nat.le_trans hsb hz6))))⟩
  · rcases g2 j e.1 with e1 | e1
    · exact (h3 j e1).2.2 e'
    · have := (h4 j e').2; omega
  · rcases g2 j e.1 with e1 | e1
    · exact (h3 j e1).1
    · omega
  · rcases f2 j e'.1 with e2 | e2
    · rcases g2 j e.1 with e1 | e1
      · exact (h3 j e1).2.2 e2
      · have := (h4 j e2).2; omega
    · have := e.2; omega
  · rcases f2 j e.1 with e2 | e2
    · exact (h4 j e2).1
    · omega
theorem cell_keep {O : Nat → Prop} {w w' : World} {g j : Nat} {v : Value} (hT : Turned O w w') (h : w.cell? ⟨g, j, none⟩ = some v) (hO : ¬ O g) : w'.cell? ⟨g, j, none⟩ = some v :=
  (World.cell?_of_block (w := w) (a := ⟨g, j, none⟩) (hT.block g (World.block_lt_of_cell? w _ h) hO)).trans h
theorem KStep.turned {w w' : World} {O : Nat → Prop} {kb : Nat} {K : KS} (h : KStep w O kb K w') : Turned O w w' := by
  obtain ⟨_, _, _, h3⟩ := h
  exact h3
theorem KAt.files_ok {w : World} {O : Nat → Prop} {kb : Nat} {K : KS} (h : KAt w O kb K) : K.files.length ≤ 256 ∧ ∀ j (hj : j < K.files.length), K.files[j].2.length ≤ 1048576 ∧ K.files[j].1.size ≤ maxLen := by
  obtain ⟨ρ, I, h1, _, _⟩ := h
  refine ⟨?_, fun j hj => ?_⟩
  · have := h1.ok.named
    have h4 : K.files.length ≤ K.nm.length := by unfold KS.files KS.fidx; simpa using List.length_filter_le _ _
    omega
  · obtain ⟨i, L, hm, hi, ho, _, hf⟩ := file_at h1.ok (k := j) (by simpa [fnames, KS.files] using hj)
    rw [(List.getElem?_eq_some_iff.1 hf).2]
    have := h1.comp (.obj i) hi
    rw [← KS.obOf_eq hi, ho] at this
    exact ⟨this.1, by have := name_few (h1.nm.ok i hm); unfold maxLen; show (K.nameOf i).size ≤ _; omega⟩
theorem kle_seek (K : KS) (d o h : Int) : KLe K (K.seek d o h).2.2 := by
  unfold KS.seek
  repeat' split
  all_goals first
    | exact KLe.refl K
    | exact ⟨Nat.le_add_right K.next 2, Nat.le_add_right K.reads 1, Nat.le_add_right K.writes 1⟩
theorem bys_none {W W' : World} {v : Value} {l : List UInt8} (h : Bys W v l) (h0 : ¬ 0 < l.length) : Bys W' v l := by
  rcases h with h | h | ⟨_, _, _, _, h, _⟩
  · exact .inl h
  · exact .inr (.inl h)
  · exact absurd h h0
theorem read_few {w : World} {O : Nat → Prop} {kb : Nat} {K : KS} (h : KAt w O kb K) (d n : Int) : (K.read d n).1.length ≤ 1048576 := by
  obtain ⟨ρ, I, h1, _, _⟩ := h
  have ok : ∀ x, K.find d = some x → (K.tho x).ok := fun x hx => by
    have hi := h1.ok.th x (KS.find_some hx).1
    have := (h1.comp (.obj x.th) hi).ok
    rw [KS.tho_eq hi]
    exact this
  unfold KS.read
  split
  · simp
  · rename_i x hx
    have hk := ok x hx
    split
    · simp
    split
    · simp
    split
    · simp
    split
    · simp
    split
    · revert hk
      cases K.tho x with
      | file b => intro hk; simp only [piece_len]; have : b.length ≤ 1048576 := hk; omega
      | term ls scr =>
        intro hk
        simp only [rdH]
        split
        · cases ls with
          | nil => simp [headL]
          | cons l r =>
            have := hk.2.1 0 (by simp)
            simp only [List.getElem_cons_zero] at this
            simp only [headL, List.length_take]
            omega
        · simp
      | pipe q rd wt => intro hk; have : q.length ≤ 4096 := hk.1; simp only [rdB]; split <;> simp <;> omega
    · simp
end Go.Proofs.YtejcfhjhjplcnaaGreat

/- The reference's kernel: Files. -/
namespace Go.Proofs.YtejcfhjhjplcnaaGreat
open Go.RowKit

def KS.filesTo (K : KS) (k : Nat) : List Nm := ((K.nm.take k).filter fun i => (K.obOf i).kind == 1).map fun i => (K.nameOf i, (K.obOf i).bytes)
theorem filesTo_all (K : KS) : K.filesTo K.nm.length = K.files := by unfold KS.filesTo KS.files KS.fidx; rw [List.take_length]
theorem filesTo_next (K : KS) (k : Nat) (hk : k < K.nm.length) : K.filesTo (k + 1) = if (K.obOf K.nm[k]).kind == 1 then K.filesTo k ++ [(K.nameOf K.nm[k], (K.obOf K.nm[k]).bytes)] else K.filesTo k := by
  unfold KS.filesTo
  rw [List.take_add_one, List.getElem?_eq_getElem hk, List.filter_append, List.map_append]
  by_cases e : ((K.obOf K.nm[k]).kind == 1) = true
  · rw [if_pos e]; simp [e]
  · rw [if_neg e]; simp [e]
theorem filesTo_few (K : KS) (k : Nat) : (K.filesTo k).length ≤ K.nm.length := by
  unfold KS.filesTo
  rw [List.length_map]
  exact Nat.le_trans (List.length_filter_le _ _) (by rw [List.length_take]; omega)
set_option maxRecDepth 100000 in
set_option maxHeartbeats 8000000 in
theorem rkfiles_any (B : Nat → Prop) (ρ : Nat → Option Tag) (I : RI) (K : KS) (w : World) (h : RK w B ρ I K) :
    Calls Tryz.prog 76 #[.pointer (some ⟨I.kb, 0, none⟩)] w fun e w' => ∃ v us, e = .returned v ∧ w'.ownsRow w.heap.size 119 2 v K.files.length (ncs K.files us) ∧ LCells w' w.heap.size (K.files.map Prod.snd) us ∧ Below w.heap.size w w' := by
  have hb := (h.comp .kern).1
  have hkl : I.kb < w.heap.size := (Array.getElem?_eq_some_iff.1 hb).1
  have c1 : w.cell? ⟨I.kb, 0, none⟩ = some I.vT := by rw [cell_of_row w I.kb 0 _ _ _ hb]; rfl
  have HD := hide (h.comp .trow).1
  have hfew := h.ok.named
  obtain ⟨va, vc, hv⟩ := owns_slice (h.comp .trow).1
  rw [hv] at c1 HD
  have HH := hide h
  clear h hb hv
  go_enter Tryz.func76, Tryz.ntmps76
  go_wp2_with fail
  go_loopw [3, 4] (fun ov iv wr => ∃ (k : Nat) (us : List Value), iv = .int .i64 k ∧ k ≤ K.nm.length ∧ Hid (wr.ownsRow w.heap.size 119 2 ov (K.filesTo k).length (ncs (K.filesTo k) us)) ∧ Hid (LCells wr w.heap.size ((K.filesTo k).map Prod.snd) us) ∧ Hid (Below w.heap.size w wr)) (fun _ iv _ => K.nm.length - (intOf iv).toNat)
  case atStart => exact ⟨0, [], rfl, Nat.zero_le _, hide (World.ownsRow_nil _ _ _ _), hide ⟨rfl, fun j hj => absurd hj (by simp [KS.filesTo]), fun i j vi vj k _ h1 => by simp at h1⟩, hide (Below.refl _ _)⟩
  case round =>
    obtain ⟨k, us, rfl, hk, HO, HL, HB⟩ := hrel
    obtain ⟨oa, oc, rfl⟩ := owns_slice HO.out
    have c0 := (HB.out.cell (p := ⟨I.kb, 0, none⟩) hkl).trans c1
    have hsz := HB.out.size
    by_cases hlt : k < K.nm.length
    · obtain ⟨b, rfl⟩ : ∃ b, va = some ⟨b, 0, none⟩ := by
        rcases HD.out.2 with ⟨h0, _⟩ | ⟨g, cap, cur, h1, _⟩
        · simp only [Value.slice.injEq] at h0; omega
        · simp only [Value.slice.injEq] at h1; exact ⟨g, h1.1⟩
      have hcell := HD.out.cellAt k (by simpa using hlt)
      rw [List.getElem?_map, List.getElem?_eq_getElem hlt] at hcell
      simp only [Option.map_some] at hcell
      have hk1 : (0 : Int) ≤ (k : Int) := by omega
      have hk2 : (k : Int) < (K.nm.length : Int) := by omega
      obtain ⟨x, hx⟩ : ∃ x, x = K.nm[k] := ⟨_, rfl⟩
      have hxt : x < K.th.length := by rw [hx]; exact HH.out.ok.nm _ (List.getElem_mem _)
      have hnext := filesTo_next K k hlt
      rw [← hx] at hcell hnext
      have r0 := (HB.out.cell (p := ⟨b, k, none⟩) (World.block_lt_of_cell? w _ hcell)).trans hcell
      obtain ⟨tn, tk, tf, -⟩ := HH.out.tcell hxt
      have tk' := (HB.out.cell (p := ⟨I.tb x, 1, none⟩) (World.block_lt_of_cell? w _ tk)).trans tk
      have HNx := hide hnext
      have hcw := hcell
      clear hcell hx hnext
      by_cases hkd : (K.obOf x).kind = 1
      · obtain ⟨L, hL⟩ : ∃ L, K.obOf x = .file L := by
          cases ho : K.obOf x with
          | file L => exact ⟨L, rfl⟩
          | term _ _ => rw [ho] at hkd; simp [Ob.kind] at hkd
          | pipe _ _ _ => rw [ho] at hkd; simp [Ob.kind] at hkd
        rw [hkd] at tk'
        have tn' := (HB.out.cell (p := ⟨I.tb x, 0, none⟩) (World.block_lt_of_cell? w _ tn)).trans tn
        have tf' := (HB.out.cell (p := ⟨I.tb x, 2, none⟩) (World.block_lt_of_cell? w _ (tf L hL))).trans (tf L hL)
        have hob := (HH.out.comp (.obj x)) hxt
        rw [← KS.obOf_eq hxt, hL] at hob
        obtain ⟨⟨u, Bu, hF, -⟩, hLl⟩ := hob
        have hLl' : L.length ≤ 1048576 := hLl
        obtain ⟨ua, uc, hu⟩ := owns_slice hF.row
        have d0 := hF.data
        have hby := Bys.of_owns hF.row
        rw [hu] at d0 hby
        have d0' := (HB.out.cell (p := ⟨I.ob x, 0, none⟩) (World.block_lt_of_cell? w _ d0)).trans d0
        have HNx2 : Hid (K.filesTo (k + 1) = K.filesTo k ++ [(K.nameOf x, L)]) := hide (by rw [HNx.out, hL]; rfl)
        obtain ⟨nm, hnm⟩ : ∃ nm, nm = K.nameOf x := ⟨_, rfl⟩
        rw [← hnm] at tn' HNx2
        have hS : ∀ w', Below w.heap.size w w' → w'.cell? ⟨I.kb, 0, none⟩ = some (.slice (some ⟨b, 0, none⟩) K.nm.length vc) ∧ w'.cell? ⟨b, k, none⟩ = some (.pointer (some ⟨I.tb x, 0, none⟩)) ∧ w'.cell? ⟨I.tb x, 0, none⟩ = some (.string nm) ∧ w'.cell? ⟨I.tb x, 2, none⟩ = some (.pointer (some ⟨I.ob x, 0, none⟩)) ∧ w'.cell? ⟨I.ob x, 0, none⟩ = some (.slice ua L.length uc) := fun w' hW => ⟨(hW.cell (p := ⟨I.kb, 0, none⟩) hkl).trans c1, (hW.cell (p := ⟨b, k, none⟩) (World.block_lt_of_cell? w _ hcw)).trans hcw, (hW.cell (p := ⟨I.tb x, 0, none⟩) (World.block_lt_of_cell? w _ tn)).trans (by rw [hnm]; exact tn), (hW.cell (p := ⟨I.tb x, 2, none⟩) (World.block_lt_of_cell? w _ (tf L hL))).trans (tf L hL), (hW.cell (p := ⟨I.ob x, 0, none⟩) (World.block_lt_of_cell? w _ d0)).trans d0⟩
        have hBd : Below w.heap.size w wr.drew := HB.out.drew
        obtain ⟨s1, w5, hrun1, HO5, hg5, -⟩ := run_append_bytes wr.drew 40 wr.heap.size (.slice none 0 0) (.slice ua L.length uc) [] L (World.ownsRow_nil _ _ _ _) (hby.below hBd) (by simp; omega) (Nat.le_refl _)
        obtain ⟨xa, xc, rfl⟩ := owns_slice HO5.out
        rw [List.nil_append] at HO5 hrun1
        have hB5r : Below wr.heap.size wr.drew w5 := (Below.refl _ wr.drew).grown hg5 (Nat.le_refl _) (fun k e => by cases e)
        have hB5 : Below w.heap.size w w5 := hBd.trans (hB5r.mono hsz)
        have hBa := recv_below w5 (Obj.cells #[.string nm, .slice xa L.length xc] 119)
        have hBA : Below w.heap.size w (w5.alloc (Obj.cells #[.string nm, .slice xa L.length xc] 119)) := hB5.trans (hBa.mono hB5.size)
        have hB5a : Below wr.heap.size wr.drew (w5.alloc (Obj.cells #[.string nm, .slice xa L.length xc] 119)) := hB5r.trans (hBa.mono hB5r.size)
        have HOa := hide (owns_below (W := wr.drew) HO.out hB5a)
        have HLa := hide (LCells.below (W := wr.drew) HL.out hB5a)
        have HUa := hide (owns_below HO5.out hBa)
        have hcu0 : (w5.alloc (Obj.cells #[.string nm, .slice xa L.length xc] 119)).cell? ⟨w5.heap.size, 0, none⟩ = some (.string nm) := by simp only [World.cell?, heap_alloc_new]; rfl
        have hcu1 : (w5.alloc (Obj.cells #[.string nm, .slice xa L.length xc] 119)).cell? ⟨w5.heap.size, 1, none⟩ = some (.slice xa L.length xc) := by simp only [World.cell?, heap_alloc_new]; rfl
        have hfe := filesTo_few K k
        obtain ⟨s', w7, hrun2, HO7, hg7, hb7⟩ := run_append_named (w5.alloc (Obj.cells #[.string nm, .slice xa L.length xc] 119)) 22 w.heap.size _ (K.filesTo k).length _ w5.heap.size 1 nm _ HOa.out hcu0 hcu1 rfl (by omega) (by have := hBA.size; omega)
        obtain ⟨sa', sc', rfl⟩ := owns_slice HO7.out
        have hB7 : Below w.heap.size w w7 := hBA.grown hg7 hBA.size (fun j e => (HOa.out.lt j e).1)
        have K0 := hS wr.drew hBd
        have K5 := hS w5 hB5
        have Ka := hS _ hBA
        have K7 := hS w7 hB7
        have HR1 := hide hrun1
        have HR2 := hide hrun2
        have HE : Hid (∃ us', w7.ownsRow w.heap.size 119 2 (.slice sa' ((K.filesTo k).length + 1) sc') (K.filesTo (k + 1)).length (ncs (K.filesTo (k + 1)) us') ∧ LCells w7 w.heap.size ((K.filesTo (k + 1)).map Prod.snd) us') := hide (by
          have hul := HL.out.1
          rw [List.length_map] at hul
          refine ⟨us ++ [.slice xa L.length xc], ?_, ?_⟩
          · rw [HNx2.out, ncs_snoc _ _ _ _ hul, List.length_append]
            exact HO7.out
          · have hLa : LCells w7 w.heap.size ((K.filesTo k).map Prod.snd) us := HLa.out.keep fun j hj v i h1 e => by
              obtain ⟨v', h2, h3⟩ := HLa.out.2.1 j hj
              rw [h1] at h2
              cases h2
              exact hg7.block i (h3.lt i e).2 (fun e' => Te_owns_apart h3 HOa.out (by decide) i e e'.symm)
            have hU7 := owns_keep (W' := w7) HUa.out fun i e => hg7.block i (HUa.out.lt i e).2 (fun e' => Te_owns_apart HUa.out HOa.out (by decide) i e e'.symm)
            have h9 : (K.filesTo k).length < ((K.filesTo (k + 1)).map Prod.snd).length := by rw [HNx2.out]; simp
            have h10 : (K.filesTo (k + 1)).map Prod.snd = ((K.filesTo (k + 1)).map Prod.snd).take ((K.filesTo k).length + 1) := by rw [List.take_of_length_le (by rw [HNx2.out]; simp)]
            have h11 : ((K.filesTo (k + 1)).map Prod.snd).take (K.filesTo k).length = (K.filesTo k).map Prod.snd := by rw [HNx2.out, List.map_append, List.take_append_of_le_length (by simp), List.take_of_length_le (by simp)]
            have h12 : ((K.filesTo (k + 1)).map Prod.snd)[(K.filesTo k).length] = L := by simp [HNx2.out]
            rw [h10]
            refine LCells.snoc h9 (by rw [h11]; exact hLa) _ ?_ (fun j v i h1 e e' => ?_)
            · rw [h12]
              exact owns_mono hU7 hsz
            · obtain ⟨v', h2, h3⟩ := HL.out.2.1 j (by have := (List.getElem?_eq_some_iff.1 h1).1; have := HL.out.1; omega)
              rw [h1] at h2
              cases h2
              have := (h3.lt i e).2
              have : wr.heap.size ≤ i := (HO5.out.lt i e').1
              omega)
        have HB7 := hide hB7
        have H0 := hide hS
        clear hS hBd hrun1 hrun2 hg5 hB5r hB5 hBa hBA hB5a hcu0 hcu1 hg7 hb7 hB7 hby hF d0 tf tn tk hcw hnm
        go_wp2_with fail
        go_region_held3 (fun w' => w'.cell? ⟨I.kb, 0, none⟩ = some (.slice (some ⟨b, 0, none⟩) K.nm.length vc) ∧ w'.cell? ⟨b, k, none⟩ = some (.pointer (some ⟨I.tb x, 0, none⟩)) ∧ w'.cell? ⟨I.tb x, 0, none⟩ = some (.string nm) ∧ w'.cell? ⟨I.tb x, 2, none⟩ = some (.pointer (some ⟨I.ob x, 0, none⟩)) ∧ w'.cell? ⟨I.ob x, 0, none⟩ = some (.slice ua L.length uc))
          (first | exact K7 | exact Ka | exact K5 | exact K0 | go_keep)
          (first
            | (refine step_append_run _ (by rfl) _ _ _ _ (by rfl) _ _ (by rfl) (by rfl) _ _ HR2.out ?_)
            | (refine step_append_run _ (by rfl) _ _ _ _ (by rfl) _ _ (by rfl) (by rfl) _ _ HR1.out ?_)
            | fail)
        all_goals
          go_wp2
          go_roundw
          case rel =>
            obtain ⟨us', h1, h2⟩ := HE.out
            exact ⟨k + 1, us', by go_num, by omega, hide h1, hide h2, HB7⟩
          case measure => simp [intOf]; omega
      · have hkd2 : ((K.obOf x).kind == 1) = false := by simpa using hkd
        have HNx2 : Hid (K.filesTo (k + 1) = K.filesTo k) := hide (by rw [HNx.out, if_neg (by simp [hkd])])
        go_wp2
        go_roundw
        case rel => exact ⟨k + 1, us, by go_num, by omega, by rw [HNx2.out]; exact HO, by rw [HNx2.out]; exact HL, HB⟩
        case measure => simp [intOf]; omega
    · obtain rfl : k = K.nm.length := by omega
      have HA : Hid (K.filesTo K.nm.length = K.files) := hide (filesTo_all K)
      go_wp2
      go_ret
      rw [← HA.out]
      exact ⟨_, us, rfl, HO.out, HL.out, HB.out⟩
end Go.Proofs.YtejcfhjhjplcnaaGreat

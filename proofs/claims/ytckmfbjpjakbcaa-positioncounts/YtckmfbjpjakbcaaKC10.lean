/- What the proof stands on, part 10: the contracts of the program's calls that it reaches. -/
import Derived.Test.YtckmfbjpjakbcaaKC9
import Derived.Deep.DeepCutAuto
/- PositionCounts: the walk. -/
namespace Go.Proofs.Ytckmfbjpjakbcaa
open Go.RowKit

set_option linter.unusedSimpArgs false in
set_option maxRecDepth 100000 in
set_option maxHeartbeats 8000000 in
theorem pcounts_any (ta : Option Addr) (tc : Nat) (l : List UInt8) (mode size : Int) (pa : Option Addr) (pc : Nat) (pz : List UInt8) (gets : Int) (w : World) (hX : Bys w (.slice ta l.length tc) l) (hXl : l.length ≤ 140737488351232) (hP : Bys w (.slice pa pz.length pc) pz) (hPl : pz.length ≤ 140737488351232) :
    Calls Try.prog 4 #[.slice ta l.length tc, .int .i64 mode, .int .i64 size, .slice pa pz.length pc, .int .i64 gets] w fun e w' => e = .returned (.bool true) ∧ Below w.heap.size w w' := by
  have HX := hide hX
  have HPz := hide hP
  clear hX hP
  go_enter Try.func4, Try.ntmps4
  go_wp2_with fail
  refine (alive14 _).mono ?_
  rintro _ w1 ⟨rfl, hB1⟩
  have HB1 := hide hB1
  clear hB1
  have hM := fun W => sNew_any moRW mode size W
  by_cases hl : 1048576 < l.length
  case pos =>
    have HNg := hide (newGrowing_long (.slice ta l.length tc) l w1 (HX.out.below HB1.out) hl)
    generalize SS.new moRW mode size = q at *
    obtain ⟨qx, qe⟩ := q
    unfold mv at hM
    simp only at hM
    have HM := hide hM
    clear hM
    go_wp2_with fail
    refine HNg.out.mono ?_
    rintro _ w2 ⟨rfl, hB2⟩
    have HB2 := hide (HB1.out.trans (hB2.mono HB1.out.size))
    clear hB2
    go_wp2_with fail
    refine (HM.out _).mono ?_
    rintro _ w3 ⟨rfl, hB3⟩
    have HB3 := hide (HB2.out.trans (hB3.mono HB2.out.size))
    clear hB3
    go_wp2_with (first | (go_at_call 8; refine (num14 _ _).mono ?_; rintro _ _ ⟨rfl, rfl⟩) | fail)
    go_ret
    exact ⟨rfl, HB3.out.trans ((recv_below w3 _).mono HB3.out.size)⟩
  have HNg := hide (newGrowing_good (.slice ta l.length tc) l w1 (HX.out.below HB1.out) (by omega))
  rw [new_RW] at hM
  unfold mv at hM
  go_wp2_with fail
  refine HNg.out.mono ?_
  rintro _ w2 ⟨g, rfl, hMm, hB2⟩
  have HM2 := hide hMm
  have HB2 := hide (HB1.out.trans (hB2.mono HB1.out.size))
  have hz12 := HB1.out.size
  clear hB2 hMm HNg
  by_cases hok : (1 ≤ mode ∧ mode ≤ 3) ∧ (1 ≤ size ∧ size ≤ 65536)
  case neg =>
    obtain ⟨q, hq, hq0⟩ : ∃ q : SS × Int, (if 1 ≤ mode ∧ mode ≤ 3 then (if 1 ≤ size ∧ size ≤ 65536 then (xRW mode size, 0) else (ss0, 4)) else (ss0, 1)) = q ∧ q.2 ≠ 0 := by
      refine ⟨_, rfl, ?_⟩
      by_cases h1 : 1 ≤ mode ∧ mode ≤ 3
      · rw [if_pos h1, if_neg (fun h2 => hok ⟨h1, h2⟩)]; decide
      · rw [if_neg h1]; decide
    rw [hq] at hM
    obtain ⟨qx, qe⟩ := q
    simp only at hM hq0
    have HM := hide hM
    have hb1 : (qe == 0) = false := by simp [hq0]
    have hb2 : (qe != 0) = true := by simp [hq0]
    clear hM hq hq0 hok
    go_wp2_with fail
    refine (HM.out _).mono ?_
    rintro _ w3 ⟨rfl, hB3⟩
    have HB3 := hide (HB2.out.trans (hB3.mono HB2.out.size))
    clear hB3
    go_wp2_with (first | (go_at_call 8; refine (num14 _ _).mono ?_; rintro _ _ ⟨rfl, rfl⟩) | fail)
    go_ret
    exact ⟨rfl, HB3.out.trans ((recv_below w3 _).mono HB3.out.size)⟩
  rw [if_pos hok.1, if_pos hok.2] at hM
  simp only at hM
  have HM := hide hM
  clear hM
  go_wp2_with fail
  refine (HM.out _).mono ?_
  rintro _ w3 ⟨rfl, hB3⟩
  have HM3 := hide (HM2.out.below hB3)
  have HB3 := hide (HB2.out.trans (hB3.mono HB2.out.size))
  clear hB3 HM HM2 HB2
  have HS3 := hide (StAt.new w3 (xRW mode size) (.slice none 0 0) (.slice none 0 0) (.slice none 0 0))
  have HB4 := hide (recv_below w3 (Obj.cells #[.bool (xRW mode size).rd, .bool (xRW mode size).wt, .int .i64 (xRW mode size).mode, .int .i64 (xRW mode size).size, .slice none 0 0, .slice none 0 0, .slice none 0 0, .int .i64 (xRW mode size).dir, .bool (xRW mode size).fin, .bool (xRW mode size).bad, .bool (xRW mode size).closed] 29))
  have HLV : Hid (LV (fun w O S => MemAt w O g S) (w3.alloc (Obj.cells #[.bool (xRW mode size).rd, .bool (xRW mode size).wt, .int .i64 (xRW mode size).mode, .int .i64 (xRW mode size).size, .slice none 0 0, .slice none 0 0, .slice none 0 0, .int .i64 (xRW mode size).dir, .bool (xRW mode size).fin, .bool (xRW mode size).bad, .bool (xRW mode size).closed] 29)) w.heap.size w3.heap.size (fun k => w1.heap.size ≤ k ∧ k < w3.heap.size) (xRW mode size) ⟨l, 1048576, 0⟩ (.slice none 0 0) (.slice none 0 0) (.slice none 0 0)) := hide
    ⟨HS3.out, SIn.nils0 rfl rfl rfl, HM3.out.trim.below HB4.out, fun j e => Nat.lt_of_lt_of_le e.2 HB4.out.size, fun j e => by have := e.1; omega, fun e => by omega, HB3.out.size⟩
  have HTT : Hid (Turned (fun k => w.heap.size ≤ k) w (w3.alloc (Obj.cells #[.bool (xRW mode size).rd, .bool (xRW mode size).wt, .int .i64 (xRW mode size).mode, .int .i64 (xRW mode size).size, .slice none 0 0, .slice none 0 0, .slice none 0 0, .int .i64 (xRW mode size).dir, .bool (xRW mode size).fin, .bool (xRW mode size).bad, .bool (xRW mode size).closed] 29))) := hide ((Turned.of_below HB3.out).trans (Turned.of_below (S := fun k => w.heap.size ≤ k) HB4.out) (fun _ _ e => e))
  have HSZ := hide HTT.out.size
  have HOk := hide hok
  clear HS3 HB4 HM3 hok hl
  by_cases hp2 : 200 < pz.length
  case pos =>
    have hn1 : (200 : Int) < (pz.length : Int) := by omega
    go_wp2_with (first | (go_at_call 8; refine (num14 _ _).mono ?_; rintro _ _ ⟨rfl, rfl⟩) | fail)
    go_ret
    exact ⟨rfl, HB3.out.trans ((recv_below w3 _).mono HB3.out.size)⟩
  have HW0 := hide (wr_new mode size l HOk.out)
  have hll : l.length ≤ 1048576 := by have := HLV.out.raw.ok; simp only at this; omega
  have hn1 : decide (200 < (pz.length : Int)) = false := by simp; omega
  go_wp2_with (first | (go_at_call 8; refine (num14 _ _).mono ?_; rintro _ _ ⟨rfl, rfl⟩) | fail)
  clear hn1
  generalize w3.alloc (Obj.cells #[.bool (xRW mode size).rd, .bool (xRW mode size).wt, .int .i64 (xRW mode size).mode, .int .i64 (xRW mode size).size, .slice none 0 0, .slice none 0 0, .slice none 0 0, .int .i64 (xRW mode size).dir, .bool (xRW mode size).fin, .bool (xRW mode size).bad, .bool (xRW mode size).closed] 29) = w4 at *
  generalize w3.heap.size = gv at *
  go_loopw [15] (fun s15 wr => ∃ (k : Nat) (x : SS) (S : MS) (o' i' b' : Value) (O : Nat → Prop), k ≤ pz.length ∧ s15 = .int .i64 k ∧ Hid (WrS x S (pz.take k ++ l.drop k) k) ∧ Hid (LV (fun w O S => MemAt w O g S) wr w.heap.size gv O x S o' i' b') ∧ Hid (Turned (fun k => w.heap.size ≤ k) w wr)) (fun s15 _ => pz.length - (intOf s15).toNat)
  case atStart => exact ⟨0, _, _, _, _, _, _, Nat.zero_le _, rfl, by simpa using HW0, HLV, HTT⟩
  case round =>
    clear HLV HTT HSZ HW0
    obtain ⟨k, x, S, o', i', b', O, hk, rfl, HW, HLV, HTT⟩ := hrel
    obtain ⟨y1, y4, rfl, -⟩ := HLV.out.ls.so
    obtain ⟨y2, y5, rfl, -⟩ := HLV.out.ls.si
    obtain ⟨y3, y6, rfl, -⟩ := HLV.out.ls.sb
    have HSZ := hide HTT.out.size
    by_cases hlt : k < pz.length
    · obtain ⟨-, qb, qo, rfl, hqb, hcell⟩ := bys_block HPz.out (by omega)
      have HBw := hide (HTT.out.below (B := w.heap.size) (fun _ e => e) (Nat.le_refl _))
      have d1 := (HBw.out.cell (World.block_lt_of_cell? w _ (hcell k hlt))).trans (hcell k hlt)
      have hBZ : Below wr.heap.size wr (wr.alloc (Obj.cells #[.bool false, .bool false, .int .i64 0, .int .i64 0, .slice none 0 0, .slice none 0 0, .slice none 0 0, .int .i64 0, .bool false, .bool false, .bool false] 29)).drew := (recv_below wr (Obj.cells #[.bool false, .bool false, .int .i64 0, .int .i64 0, .slice none 0 0, .slice none 0 0, .slice none 0 0, .int .i64 0, .bool false, .bool false, .bool false] 29)).trans (Below.refl _ _).drew
      have hpt := HW.out.put_tell (pz.getD k 0) (by omega)
      rw [lay_next l pz k hlt] at hpt
      generalize pz.getD k 0 = ch at *
      have hzZ : (wr.alloc (Obj.cells #[.bool false, .bool false, .int .i64 0, .int .i64 0, .slice none 0 0, .slice none 0 0, .slice none 0 0, .int .i64 0, .bool false, .bool false, .bool false] 29)).heap.size = wr.heap.size + 1 := Array.size_push ..
      have HVd := hide (HLV.out.below (fun s => gmem_o g s) (Below.refl _ wr).drew)
      have HVz := hide (HLV.out.below (fun s => gmem_o g s) hBZ)
      have hp := sPut_any (gro_raw g) (fun s => gmem_o g s) (bears_true msR) ch HVd.out.ls HVd.out.raw HVd.out.ol trivial (by rw [HW.out.out]; simp) (by rw [HW.out.inn]; simp) (by rw [HW.out.back]; simp)
      have hpz := sPut_any (gro_raw g) (fun s => gmem_o g s) (bears_true msR) ch HVz.out.ls HVz.out.raw HVz.out.ol trivial (by rw [HW.out.out]; simp) (by rw [HW.out.inn]; simp) (by rw [HW.out.back]; simp)
      generalize x.put msR S ch = X at *
      obtain ⟨x', e', S'⟩ := X
      simp only at hp hpz hpt
      obtain ⟨h1, h2, h3, h4, h5, h6, h7⟩ := hpt
      subst h1
      have HP := hide hp
      have HPz2 := hide hpz
      have HXl : Hid (x'.out.length ≤ 140737488351232 ∧ x'.inn.length ≤ 140737488351232 ∧ x'.back.length ≤ 140737488351232) := hide ⟨by omega, by rw [h3]; simp, by rw [h4]; simp⟩
      have HN2 := hide h5
      have HE2 := hide h6
      have HNx := hide h7
      have HO2 := hide h7.out
      have HPzK := HPz2
      have HZ0 : Hid ((wr.alloc (Obj.cells #[.bool false, .bool false, .int .i64 0, .int .i64 0, .slice none 0 0, .slice none 0 0, .slice none 0 0, .int .i64 0, .bool false, .bool false, .bool false] 29)).drew.heap[wr.heap.size]? = some (Obj.cells #[.bool false, .bool false, .int .i64 0, .int .i64 0, .slice none 0 0, .slice none 0 0, .slice none 0 0, .int .i64 0, .bool false, .bool false, .bool false] 29)) := hide (heap_alloc_new wr (Obj.cells #[.bool false, .bool false, .int .i64 0, .int .i64 0, .slice none 0 0, .slice none 0 0, .slice none 0 0, .int .i64 0, .bool false, .bool false, .bool false] 29))
      have HLow : Hid (qb < w.heap.size ∧ qb < wr.heap.size) := hide ⟨hqb, by have := HSZ.out; omega⟩
      have hgB := HLV.out.st.lt
      have HSn : Hid (∀ W W', Below wr.heap.size wr W → Turned O W W' → (fun W => StAt W gv x (.slice y1 x.out.length y4) (.slice y2 x.inn.length y5) (.slice y3 x.back.length y6) ∧ W.cell? ⟨qb, qo + k, none⟩ = some (.int .u8 (ch.toNat : Int))) W') := hide (fun W W' hW hT => ⟨(hT.block gv (Nat.lt_of_lt_of_le hgB hW.size) HLV.out.og).trans (HLV.out.st.below hW), hT.cell ((hW.cell (World.block_lt_of_cell? wr _ d1)).trans d1) (fun e => by have h1 := HLV.out.ob _ e; have h2 := HLow.out; simp only at h1; omega)⟩)
      have HSt : Hid (∀ W W', (fun W => StAt W gv x (.slice y1 x.out.length y4) (.slice y2 x.inn.length y5) (.slice y3 x.back.length y6) ∧ W.cell? ⟨qb, qo + k, none⟩ = some (.int .u8 (ch.toNat : Int))) W → Turned (fun k => k = wr.heap.size) W W' → (fun W => StAt W gv x (.slice y1 x.out.length y4) (.slice y2 x.inn.length y5) (.slice y3 x.back.length y6) ∧ W.cell? ⟨qb, qo + k, none⟩ = some (.int .u8 (ch.toNat : Int))) W') := hide (fun W W' h hT => ⟨(hT.block gv h.1.lt (by omega)).trans h.1, hT.cell h.2 (fun e => by have h1 : _ = wr.heap.size := e; have h2 := HLow.out; simp only at h1; omega)⟩)
      have HSb : Hid (∀ W W', (fun W => StAt W gv x (.slice y1 x.out.length y4) (.slice y2 x.inn.length y5) (.slice y3 x.back.length y6) ∧ W.cell? ⟨qb, qo + k, none⟩ = some (.int .u8 (ch.toNat : Int))) W → Below W.heap.size W W' → (fun W => StAt W gv x (.slice y1 x.out.length y4) (.slice y2 x.inn.length y5) (.slice y3 x.back.length y6) ∧ W.cell? ⟨qb, qo + k, none⟩ = some (.int .u8 (ch.toNat : Int))) W') := hide (fun W W' h hB => ⟨h.1.below hB, (hB.cell (World.block_lt_of_cell? W _ h.2)).trans h.2⟩)
      clear hp hpz h2 h3 h4 h5 h6 h7 hBZ hqb hcell HVz
      go_upto_region 10 with fail
      go_cut [16, 17] (fun p16 e17 wx => ∃ (gt : Nat) (a1 a2 a3 : Option Addr) (a4 a5 a6 : Nat), p16 = .pointer (some ⟨gt, 0, none⟩) ∧ e17 = .int .i64 0 ∧ Hid (StAt wx gt x' (.slice a1 x'.out.length a4) (.slice a2 x'.inn.length a5) (.slice a3 x'.back.length a6)) ∧ Hid (SOut (fun w O S => MemAt w O g S) wr.drew O x' S' (.slice a1 x'.out.length a4) (.slice a2 x'.inn.length a5) (.slice a3 x'.back.length a6) wx))
      case first =>
        refine wp_region_noPanic ?_
        refine wp_region_held_drew (S := fun W => StAt W gv x (.slice y1 x.out.length y4) (.slice y2 x.inn.length y5) (.slice y3 x.back.length y6) ∧ W.cell? ⟨qb, qo + k, none⟩ = some (.int .u8 (ch.toNat : Int))) (by kernel_rfl) (HSn.out _ _ (Below.refl _ _).drew (Turned.refl _ _)) (fun hHeld => ?_)
        refine wpAnyH_take (i := 0) (oi := ?_) (v := ?_) ?_ (by kernel_rfl) (by kernel_rfl) (by kernel_rfl) (fun _ _ _ h => (h : False).elim) (Or.inl ⟨?_, ?_⟩) hHeld ?_
        rotate_left 2
        · (simp only [List.getElem?_toArray, List.getElem?_cons_zero]; rfl)
        · rfl
        · (intro W hSw; obtain ⟨hq1, hq2⟩ := hSw; obtain ⟨m0, m1, m2, m3, m4, m5, m6, m7, m8, m9, m10⟩ := hq1.cs; go_simp <;> with_reducible rfl)
        try simp only [Act.put, List.setIfInBounds_toArray, List.set_cons_zero, List.set_cons_succ]
        refine wpAnyH_take (i := 1) (oi := ?_) (v := ?_) ?_ (by kernel_rfl) (by kernel_rfl) (by kernel_rfl) (fun _ _ _ h => (h : False).elim) (Or.inl ⟨?_, ?_⟩) hHeld ?_
        rotate_left 2
        · (simp only [List.getElem?_toArray, List.getElem?_cons_zero, List.getElem?_cons_succ]; rfl)
        · rfl
        · (intro W hSw; obtain ⟨hq1, hq2⟩ := hSw; obtain ⟨m0, m1, m2, m3, m4, m5, m6, m7, m8, m9, m10⟩ := hq1.cs; go_simp <;> with_reducible rfl)
        try simp only [Act.put, List.setIfInBounds_toArray, List.set_cons_zero, List.set_cons_succ]
        refine wpAnyH_take (i := 2) (oi := ?_) (v := ?_) ?_ (by kernel_rfl) (by kernel_rfl) (by kernel_rfl) (fun _ _ _ h => (h : False).elim) (Or.inl ⟨?_, ?_⟩) hHeld ?_
        rotate_left 2
        · (simp only [List.getElem?_toArray, List.getElem?_cons_zero, List.getElem?_cons_succ]; rfl)
        · rfl
        · (intro W hSw; obtain ⟨hq1, hq2⟩ := hSw; obtain ⟨m0, m1, m2, m3, m4, m5, m6, m7, m8, m9, m10⟩ := hq1.cs; go_simp <;> with_reducible rfl)
        try simp only [Act.put, List.setIfInBounds_toArray, List.set_cons_zero, List.set_cons_succ]
        refine wpAnyH_take (i := 3) (oi := ?_) (v := ?_) ?_ (by kernel_rfl) (by kernel_rfl) (by kernel_rfl) (fun _ _ _ h => (h : False).elim) (Or.inl ⟨?_, ?_⟩) hHeld ?_
        rotate_left 2
        · (simp only [List.getElem?_toArray, List.getElem?_cons_zero, List.getElem?_cons_succ]; rfl)
        · rfl
        · (intro W hSw; obtain ⟨hq1, hq2⟩ := hSw; obtain ⟨m0, m1, m2, m3, m4, m5, m6, m7, m8, m9, m10⟩ := hq1.cs; go_simp <;> with_reducible rfl)
        try simp only [Act.put, List.setIfInBounds_toArray, List.set_cons_zero, List.set_cons_succ]
        refine wpAnyH_take (i := 4) (oi := ?_) (v := ?_) ?_ (by kernel_rfl) (by kernel_rfl) (by kernel_rfl) (fun _ _ _ h => (h : False).elim) (Or.inl ⟨?_, ?_⟩) hHeld ?_
        rotate_left 2
        · (simp only [List.getElem?_toArray, List.getElem?_cons_zero, List.getElem?_cons_succ]; rfl)
        · rfl
        · (intro W hSw; obtain ⟨hq1, hq2⟩ := hSw; obtain ⟨m0, m1, m2, m3, m4, m5, m6, m7, m8, m9, m10⟩ := hq1.cs; go_simp <;> with_reducible rfl)
        try simp only [Act.put, List.setIfInBounds_toArray, List.set_cons_zero, List.set_cons_succ]
        refine wpAnyH_take (i := 5) (oi := ?_) (v := ?_) ?_ (by kernel_rfl) (by kernel_rfl) (by kernel_rfl) (fun _ _ _ h => (h : False).elim) (Or.inl ⟨?_, ?_⟩) hHeld ?_
        rotate_left 2
        · (simp only [List.getElem?_toArray, List.getElem?_cons_zero, List.getElem?_cons_succ]; rfl)
        · rfl
        · (intro W hSw; obtain ⟨hq1, hq2⟩ := hSw; obtain ⟨m0, m1, m2, m3, m4, m5, m6, m7, m8, m9, m10⟩ := hq1.cs; go_simp <;> with_reducible rfl)
        try simp only [Act.put, List.setIfInBounds_toArray, List.set_cons_zero, List.set_cons_succ]
        refine wpAnyH_take (i := 6) (oi := ?_) (v := ?_) ?_ (by kernel_rfl) (by kernel_rfl) (by kernel_rfl) (fun _ _ _ h => (h : False).elim) (Or.inl ⟨?_, ?_⟩) hHeld ?_
        rotate_left 2
        · (simp only [List.getElem?_toArray, List.getElem?_cons_zero, List.getElem?_cons_succ]; rfl)
        · rfl
        · (intro W hSw; obtain ⟨hq1, hq2⟩ := hSw; obtain ⟨m0, m1, m2, m3, m4, m5, m6, m7, m8, m9, m10⟩ := hq1.cs; go_simp <;> with_reducible rfl)
        try simp only [Act.put, List.setIfInBounds_toArray, List.set_cons_zero, List.set_cons_succ]
        refine wpAnyH_ready (rs := [7, 11]) (by kernel_rfl) (by simp) ?_
        refine AllReadyH.cons (o := ?_) ?_ (fun K' hK => ?_) (AllReadyH.cons (o := ?_) ?_ (fun K' hK => ?_) AllReadyH.nil)
        rotate_left 1
        · (simp only [List.getElem?_toArray, List.getElem?_cons_zero, List.getElem?_cons_succ]; rfl)
        · go_simp
          go_at_call 12
          refine HP.out.mono ?_
          rintro _ w5' ⟨o', i', b'', rfl, hS⟩
          obtain ⟨a1, a4, rfl, -⟩ := hS.choose_spec.1.so
          obtain ⟨a2, a5, rfl, -⟩ := hS.choose_spec.1.si
          obtain ⟨a3, a6, rfl, -⟩ := hS.choose_spec.1.sb
          have hT5 : Turned O wr.drew w5' := (by obtain ⟨_, _, _, _, _, t⟩ := hS; exact t)
          have HS5 := hide hS
          clear hS
          have h9 := HSn.out _ w5' ((Below.refl _ _).drew) hT5
          refine hK.out _ _ (h9) (fun hHeld2 => ?_)
          clear hK K' hHeld
          have hHeld := hHeld2
          clear hHeld2
          try simp only [Act.put, List.setIfInBounds_toArray, List.set_cons_zero, List.set_cons_succ]
          refine wpAnyH_take (i := 8) (oi := ?_) (v := ?_) ?_ (by kernel_rfl) (by kernel_rfl) (by kernel_rfl) (fun _ _ _ h => (h : False).elim) (Or.inl ⟨?_, ?_⟩) hHeld ?_
          rotate_left 2
          · (simp only [List.getElem?_toArray, List.getElem?_cons_zero, List.getElem?_cons_succ]; rfl)
          · rfl
          · (intro W hSw; obtain ⟨hq1, hq2⟩ := hSw; obtain ⟨m0, m1, m2, m3, m4, m5, m6, m7, m8, m9, m10⟩ := hq1.cs; go_simp <;> with_reducible rfl)
          try simp only [Act.put, List.setIfInBounds_toArray, List.set_cons_zero, List.set_cons_succ]
          refine wpAnyH_take (i := 9) (oi := ?_) (v := ?_) ?_ (by kernel_rfl) (by kernel_rfl) (by kernel_rfl) (fun _ _ _ h => (h : False).elim) (Or.inl ⟨?_, ?_⟩) hHeld ?_
          rotate_left 2
          · (simp only [List.getElem?_toArray, List.getElem?_cons_zero, List.getElem?_cons_succ]; rfl)
          · rfl
          · (intro W hSw; obtain ⟨hq1, hq2⟩ := hSw; obtain ⟨m0, m1, m2, m3, m4, m5, m6, m7, m8, m9, m10⟩ := hq1.cs; go_simp <;> with_reducible rfl)
          try simp only [Act.put, List.setIfInBounds_toArray, List.set_cons_zero, List.set_cons_succ]
          refine wpAnyH_take (i := 10) (oi := ?_) (v := ?_) ?_ (by kernel_rfl) (by kernel_rfl) (by kernel_rfl) (fun _ _ _ h => (h : False).elim) (Or.inl ⟨?_, ?_⟩) hHeld ?_
          rotate_left 2
          · (simp only [List.getElem?_toArray, List.getElem?_cons_zero, List.getElem?_cons_succ]; rfl)
          · rfl
          · (intro W hSw; obtain ⟨hq1, hq2⟩ := hSw; obtain ⟨m0, m1, m2, m3, m4, m5, m6, m7, m8, m9, m10⟩ := hq1.cs; go_simp <;> with_reducible rfl)
          try simp only [Act.put, List.setIfInBounds_toArray, List.set_cons_zero, List.set_cons_succ]
          refine wpAnyH_ready (rs := [11]) (by kernel_rfl) (by simp) ?_
          refine AllReadyH.cons (o := ?_) ?_ (fun K' hK => ?_) AllReadyH.nil
          rotate_left 1
          · (simp only [List.getElem?_toArray, List.getElem?_cons_zero, List.getElem?_cons_succ]; rfl)
          go_simp
          refine hK.out _ _ (HSb.out _ _ h9 (recv_below w5' (Obj.cells #[.bool false, .bool false, .int .i64 0, .int .i64 0, .slice none 0 0, .slice none 0 0, .slice none 0 0, .int .i64 0, .bool false, .bool false, .bool false] 29))) (fun hHeld2 => ?_)
          clear hK K' hHeld
          have hHeld := hHeld2
          clear hHeld2
          try simp only [Act.put, List.setIfInBounds_toArray, List.set_cons_zero, List.set_cons_succ]
          refine wpAnyH_ready (rs := [12]) (by kernel_rfl) (by simp) ?_
          refine AllReadyH.cons (o := ?_) ?_ (fun K' hK => ?_) AllReadyH.nil
          rotate_left 1
          · (simp only [List.getElem?_toArray, List.getElem?_cons_zero, List.getElem?_cons_succ]; rfl)
          go_simp
          refine hK.out _ _ (HSb.out _ _ h9 (recv_below w5' (Obj.cells #[.bool x'.rd, .bool x'.wt, .int .i64 x'.mode, .int .i64 x'.size, .slice a1 x'.out.length a4, .slice a2 x'.inn.length a5, .slice a3 x'.back.length a6, .int .i64 x'.dir, .bool x'.fin, .bool x'.bad, .bool x'.closed] 29))) (fun hHeld2 => ?_)
          clear hK K' hHeld
          have hHeld := hHeld2
          clear hHeld2
          try simp only [Act.put, List.setIfInBounds_toArray, List.set_cons_zero, List.set_cons_succ]
          refine wpAnyH_take (i := 13) (oi := ?_) (v := ?_) ?_ (by kernel_rfl) (by kernel_rfl) (by kernel_rfl) (fun _ _ _ h => (h : False).elim) (Or.inl ⟨?_, ?_⟩) hHeld ?_
          rotate_left 2
          · (simp only [List.getElem?_toArray, List.getElem?_cons_zero, List.getElem?_cons_succ]; rfl)
          · rfl
          · (intro W hSw; obtain ⟨hq1, hq2⟩ := hSw; obtain ⟨m0, m1, m2, m3, m4, m5, m6, m7, m8, m9, m10⟩ := hq1.cs; go_simp <;> with_reducible rfl)
          try simp only [Act.put, List.setIfInBounds_toArray, List.set_cons_zero, List.set_cons_succ]
          refine wpAnyH_done (by kernel_rfl) ?_ _
          refine NoPanic.normal ?_
          clear hHeld h9 hT5
          go_wp2
          go_meet
          exact ⟨_, _, _, _, _, _, _, rfl, rfl, hide (StAt.new w5' x' (.slice a1 x'.out.length a4) (.slice a2 x'.inn.length a5) (.slice a3 x'.back.length a6)), hide (SOut.below (fun s => gmem_o g s) HS5.out (recv_below w5' (Obj.cells #[.bool x'.rd, .bool x'.wt, .int .i64 x'.mode, .int .i64 x'.size, .slice a1 x'.out.length a4, .slice a2 x'.inn.length a5, .slice a3 x'.back.length a6, .int .i64 x'.dir, .bool x'.fin, .bool x'.bad, .bool x'.closed] 29)) rfl rfl rfl)⟩
        rotate_left 1
        · (simp only [List.getElem?_toArray, List.getElem?_cons_zero, List.getElem?_cons_succ]; rfl)
        · go_simp
          refine hK.out _ _ (HSn.out _ _ ((Below.refl _ wr).alloc (Nat.le_refl _) (Obj.cells #[.bool false, .bool false, .int .i64 0, .int .i64 0, .slice none 0 0, .slice none 0 0, .slice none 0 0, .int .i64 0, .bool false, .bool false, .bool false] 29)).drew (Turned.refl _ _)) (fun hHeld2 => ?_)
          clear hK K' hHeld
          have hHeld := hHeld2
          clear hHeld2
          try simp only [Act.put, List.setIfInBounds_toArray, List.set_cons_zero, List.set_cons_succ]
          refine wpAnyH_ready (rs := [7]) (by kernel_rfl) (by simp) ?_
          refine AllReadyH.cons (o := ?_) ?_ (fun K' hK => ?_) AllReadyH.nil
          rotate_left 1
          · (simp only [List.getElem?_toArray, List.getElem?_cons_zero, List.getElem?_cons_succ]; rfl)
          go_simp
          go_at_call 12
          refine HPz2.out.mono ?_
          rintro _ w5' ⟨o', i', b'', rfl, hS⟩
          obtain ⟨a1, a4, rfl, -⟩ := hS.choose_spec.1.so
          obtain ⟨a2, a5, rfl, -⟩ := hS.choose_spec.1.si
          obtain ⟨a3, a6, rfl, -⟩ := hS.choose_spec.1.sb
          have hT5 : Turned O (wr.alloc (Obj.cells #[.bool false, .bool false, .int .i64 0, .int .i64 0, .slice none 0 0, .slice none 0 0, .slice none 0 0, .int .i64 0, .bool false, .bool false, .bool false] 29)).drew w5' := (by obtain ⟨_, _, _, _, _, t⟩ := hS; exact t)
          have HS5 := hide hS
          clear hS
          have h9 := HSn.out _ w5' (((Below.refl _ wr).alloc (Nat.le_refl _) (Obj.cells #[.bool false, .bool false, .int .i64 0, .int .i64 0, .slice none 0 0, .slice none 0 0, .slice none 0 0, .int .i64 0, .bool false, .bool false, .bool false] 29)).drew) hT5
          refine hK.out _ _ (h9) (fun hHeld2 => ?_)
          clear hK K' hHeld
          have hHeld := hHeld2
          clear hHeld2
          try simp only [Act.put, List.setIfInBounds_toArray, List.set_cons_zero, List.set_cons_succ]
          refine wpAnyH_take (i := 8) (oi := ?_) (v := ?_) ?_ (by kernel_rfl) (by kernel_rfl) (by kernel_rfl) (fun _ _ _ h => (h : False).elim) (Or.inl ⟨?_, ?_⟩) hHeld ?_
          rotate_left 2
          · (simp only [List.getElem?_toArray, List.getElem?_cons_zero, List.getElem?_cons_succ]; rfl)
          · rfl
          · (intro W hSw; obtain ⟨hq1, hq2⟩ := hSw; obtain ⟨m0, m1, m2, m3, m4, m5, m6, m7, m8, m9, m10⟩ := hq1.cs; go_simp <;> with_reducible rfl)
          try simp only [Act.put, List.setIfInBounds_toArray, List.set_cons_zero, List.set_cons_succ]
          refine wpAnyH_take (i := 9) (oi := ?_) (v := ?_) ?_ (by kernel_rfl) (by kernel_rfl) (by kernel_rfl) (fun _ _ _ h => (h : False).elim) (Or.inl ⟨?_, ?_⟩) hHeld ?_
          rotate_left 2
          · (simp only [List.getElem?_toArray, List.getElem?_cons_zero, List.getElem?_cons_succ]; rfl)
          · rfl
          · (intro W hSw; obtain ⟨hq1, hq2⟩ := hSw; obtain ⟨m0, m1, m2, m3, m4, m5, m6, m7, m8, m9, m10⟩ := hq1.cs; go_simp <;> with_reducible rfl)
          try simp only [Act.put, List.setIfInBounds_toArray, List.set_cons_zero, List.set_cons_succ]
          refine wpAnyH_take (i := 10) (oi := ?_) (v := ?_) ?_ (by kernel_rfl) (by kernel_rfl) (by kernel_rfl) (fun _ _ _ h => (h : False).elim) (Or.inl ⟨?_, ?_⟩) hHeld ?_
          rotate_left 2
          · (simp only [List.getElem?_toArray, List.getElem?_cons_zero, List.getElem?_cons_succ]; rfl)
          · rfl
          · (intro W hSw; obtain ⟨hq1, hq2⟩ := hSw; obtain ⟨m0, m1, m2, m3, m4, m5, m6, m7, m8, m9, m10⟩ := hq1.cs; go_simp <;> with_reducible rfl)
          try simp only [Act.put, List.setIfInBounds_toArray, List.set_cons_zero, List.set_cons_succ]
          have hz9 : w5'.heap[wr.heap.size]? = some (Obj.cells #[.bool false, .bool false, .int .i64 0, .int .i64 0, .slice none 0 0, .slice none 0 0, .slice none 0 0, .int .i64 0, .bool false, .bool false, .bool false] 29) := (hT5.block wr.heap.size (by show _ < (wr.alloc (Obj.cells #[.bool false, .bool false, .int .i64 0, .int .i64 0, .slice none 0 0, .slice none 0 0, .slice none 0 0, .int .i64 0, .bool false, .bool false, .bool false] 29)).heap.size; omega) (fun e => by have := HLV.out.ol _ e; omega)).trans HZ0.out
          obtain ⟨e1, e2⟩ := st_fill w5' wr.heap.size x' (.slice a1 x'.out.length a4) (.slice a2 x'.inn.length a5) (.slice a3 x'.back.length a6) hz9
          have HS9 := hide (HSt.out _ _ h9 e2)
          have HE1 := hide e1
          have HE2x := hide e2
          have u0' := frozen_of_row w5' wr.heap.size 0 _ _ hz9
          have u1' := frozen_of_row w5' wr.heap.size 1 _ _ hz9
          have u2' := frozen_of_row w5' wr.heap.size 2 _ _ hz9
          have u3' := frozen_of_row w5' wr.heap.size 3 _ _ hz9
          have u4' := frozen_of_row w5' wr.heap.size 4 _ _ hz9
          have u5' := frozen_of_row w5' wr.heap.size 5 _ _ hz9
          have u6' := frozen_of_row w5' wr.heap.size 6 _ _ hz9
          have u7' := frozen_of_row w5' wr.heap.size 7 _ _ hz9
          have u8' := frozen_of_row w5' wr.heap.size 8 _ _ hz9
          have u9' := frozen_of_row w5' wr.heap.size 9 _ _ hz9
          have u10' := frozen_of_row w5' wr.heap.size 10 _ _ hz9
          have z0' := cell_of_row w5' wr.heap.size 0 _ _ _ hz9
          have z1' := cell_of_row w5' wr.heap.size 1 _ _ _ hz9
          have z2' := cell_of_row w5' wr.heap.size 2 _ _ _ hz9
          have z3' := cell_of_row w5' wr.heap.size 3 _ _ _ hz9
          have z4' := cell_of_row w5' wr.heap.size 4 _ _ _ hz9
          have z5' := cell_of_row w5' wr.heap.size 5 _ _ _ hz9
          have z6' := cell_of_row w5' wr.heap.size 6 _ _ _ hz9
          have z7' := cell_of_row w5' wr.heap.size 7 _ _ _ hz9
          have z8' := cell_of_row w5' wr.heap.size 8 _ _ _ hz9
          have z9' := cell_of_row w5' wr.heap.size 9 _ _ _ hz9
          have z10' := cell_of_row w5' wr.heap.size 10 _ _ _ hz9
          simp at z0' z1' z2' z3' z4' z5' z6' z7' z8' z9' z10'
          clear e1 e2 hz9 hT5
          refine wpAnyH_ready (rs := [12]) (by kernel_rfl) (by simp) ?_
          refine AllReadyH.cons (o := ?_) ?_ (fun K' hK => ?_) AllReadyH.nil
          rotate_left 1
          · (simp only [List.getElem?_toArray, List.getElem?_cons_zero, List.getElem?_cons_succ]; rfl)
          go_simp
          refine hK.out _ _ (HS9.out) (fun hHeld2 => ?_)
          clear hK K' hHeld
          have hHeld := hHeld2
          clear hHeld2
          try simp only [Act.put, List.setIfInBounds_toArray, List.set_cons_zero, List.set_cons_succ]
          clear u0' z0' u1' z1' u2' z2' u3' z3' u4' z4' u5' z5' u6' z6' u7' z7' u8' z8' u9' z9' u10' z10'
          refine wpAnyH_take (i := 13) (oi := ?_) (v := ?_) ?_ (by kernel_rfl) (by kernel_rfl) (by kernel_rfl) (fun _ _ _ h => (h : False).elim) (Or.inl ⟨?_, ?_⟩) hHeld ?_
          rotate_left 2
          · (simp only [List.getElem?_toArray, List.getElem?_cons_zero, List.getElem?_cons_succ]; rfl)
          · rfl
          · (intro W hSw; obtain ⟨hq1, hq2⟩ := hSw; obtain ⟨m0, m1, m2, m3, m4, m5, m6, m7, m8, m9, m10⟩ := hq1.cs; go_simp <;> with_reducible rfl)
          try simp only [Act.put, List.setIfInBounds_toArray, List.set_cons_zero, List.set_cons_succ]
          refine wpAnyH_done (by kernel_rfl) ?_ _
          refine NoPanic.normal ?_
          clear hHeld h9
          go_wp2
          go_meet
          exact ⟨_, _, _, _, _, _, _, rfl, rfl, HE1, hide (SOut.fin (fun s => gmem_o g s) HS5.out (show Below wr.heap.size wr.drew (wr.alloc (Obj.cells #[.bool false, .bool false, .int .i64 0, .int .i64 0, .slice none 0 0, .slice none 0 0, .slice none 0 0, .int .i64 0, .bool false, .bool false, .bool false] 29)).drew from recv_below wr.drew (Obj.cells #[.bool false, .bool false, .int .i64 0, .int .i64 0, .slice none 0 0, .slice none 0 0, .slice none 0 0, .int .i64 0, .bool false, .bool false, .bool false] 29)) (by show wr.heap.size < (wr.alloc (Obj.cells #[.bool false, .bool false, .int .i64 0, .int .i64 0, .slice none 0 0, .slice none 0 0, .slice none 0 0, .int .i64 0, .bool false, .bool false, .bool false] 29)).heap.size; omega) (Nat.le_refl _) HLV.out.ol HE2x.out)⟩
      case rest =>
        obtain ⟨gt, a1, a2, a3, a4, a5, a6, rfl, rfl, HTb, HSo⟩ := hcut
        clear d1 HP HPz2 HPzK HZ0 HSn HSt HSb HLow
        obtain ⟨t0, t1, t2, t3, t4, t5, t6, t7, t8, t9, t10⟩ := HTb.out.cs
        obtain ⟨O5, hL5, hI5, hT5, -, -⟩ := LV.keepS HVd.out HSZ.out HSo.out
        have HTT5 := hide ((HTT.out.trans (Turned.of_below (S := fun k => w.heap.size ≤ k) (Below.refl _ wr).drew) (fun _ _ e => e)).trans hT5 (fun _ _ e => e))
        have HL5 := hide hL5
        have hz5 := HTT5.out.size
        have hp := ptell_any (gro_raw g) (fun s => gmem_o g s) (bears_true msR) (gro_seek g) (bearsS_true _) hI5 hL5.raw hL5.ol trivial HXl.out.1 HXl.out.2.1 HXl.out.2.2
        clear hL5 hI5 hT5 HSo HTb HVd
        generalize x'.tell msR MS.seek S' = X at *
        obtain ⟨x2, n2, e2, S2⟩ := X
        simp only at hp HN2 HE2 HNx HO2
        have HP := hide hp
        clear hp
        go_wp2_with fail
        clear t0 t1 t2 t3 t4 t5 t6 t7 t8 t9 t10
        refine HP.out.mono ?_
        rintro _ w7 ⟨o', i', b', rfl, hS⟩
        obtain ⟨b1, b4, rfl, -⟩ := hS.choose_spec.1.so
        obtain ⟨b2, b5, rfl, -⟩ := hS.choose_spec.1.si
        obtain ⟨b3, b6, rfl, -⟩ := hS.choose_spec.1.sb
        obtain ⟨hst, ⟨O7, hl7⟩, ht7⟩ := LV.next (fun s => gmem_o g s) HL5.out hz5 (SOut.below (fun s => gmem_o g s) hS (recv_below w7 (Obj.cells #[.bool x2.rd, .bool x2.wt, .int .i64 x2.mode, .int .i64 x2.size, .slice b1 x2.out.length b4, .slice b2 x2.inn.length b5, .slice b3 x2.back.length b6, .int .i64 x2.dir, .bool x2.fin, .bool x2.bad, .bool x2.closed] 29)) rfl rfl rfl)
        have HLn := hide hl7
        have HTn := hide (HTT5.out.trans ht7 (fun _ _ e => e))
        obtain ⟨c0, c1, c2, c3, c4, c5, c6, c7, c8, c9, c10⟩ := hst.cs
        have f0 := hst.soft 0
        have f1 := hst.soft 1
        have f2 := hst.soft 2
        have f3 := hst.soft 3
        have f4 := hst.soft 4
        have f5 := hst.soft 5
        have f6 := hst.soft 6
        have f7 := hst.soft 7
        have f8 := hst.soft 8
        have f9 := hst.soft 9
        have f10 := hst.soft 10
        unfold filled at HLn HTn
        clear hS hst hl7 ht7 HP HL5 HTT5
        obtain rfl := HN2.out
        obtain rfl := HE2.out
        have hn0 : ¬ 0 < x2.out.length := by rw [HO2.out]; simp
        go_wp2_with (first | (go_at_call 8; refine (num14 _ _).mono ?_; rintro _ _ ⟨rfl, rfl⟩) | fail)
        go_roundw
        case rel => exact ⟨k + 1, x2, S2, _, _, _, _, by omega, by go_num, HNx, HLn, HTn⟩
        case measure => simp [intOf]; omega
    · obtain rfl : k = pz.length := by omega
      have hlt2 : decide ((pz.length : Int) < (pz.length : Int)) = false := by simp
      have hLl := laid_len l pz pz.length (Nat.le_refl _)
      have hLt : (pz.take pz.length ++ l.drop pz.length).take pz.length = pz := by rw [List.take_length, List.take_left]
      obtain ⟨L, hL⟩ : ∃ L, L = pz.take pz.length ++ l.drop pz.length := ⟨_, rfl⟩
      rw [← hL] at HW hLl hLt
      have hsk := HW.out.seek0 (by omega) (by omega)
      obtain ⟨xb, hxb⟩ : ∃ xb, xb = x.bare := ⟨_, rfl⟩
      rw [← hxb] at hsk
      have HRb := hide hsk.2
      have hp := pseek_any (gro_raw g) (fun s => gmem_o g s) (bears_true msR) (gro_seek g) (bearsS_true _) 0 0 HLV.out.ls HLV.out.raw HLV.out.ol trivial (by rw [HW.out.out]; simp) (by rw [HW.out.inn]; simp) (by rw [HW.out.back]; simp) (by decide)
      rw [hsk.1] at hp
      simp only at hp
      have HP := hide hp
      have HLl := hide hLl
      have HLt := hide hLt
      clear hp hsk hL hxb hLl hLt hlt
      obtain ⟨c0, c1, c2, c3, c4, c5, c6, c7, c8, c9, c10⟩ := HLV.out.st.cs
      go_wp2_with fail
      clear c0 c1 c2 c3 c4 c5 c6 c7 c8 c9 c10
      refine HP.out.mono ?_
      rintro _ w7 ⟨o', i', b', rfl, hS⟩
      obtain ⟨a1, a4, rfl, -⟩ := hS.choose_spec.1.so
      obtain ⟨a2, a5, rfl, -⟩ := hS.choose_spec.1.si
      obtain ⟨a3, a6, rfl, -⟩ := hS.choose_spec.1.sb
      obtain ⟨hst, ⟨O7, hl⟩, ht⟩ := LV.next (fun s => gmem_o g s) HLV.out HSZ.out hS
      have HLn := hide hl
      have HTn := hide (HTT.out.trans ht (fun _ _ e => e))
      obtain ⟨c0, c1, c2, c3, c4, c5, c6, c7, c8, c9, c10⟩ := hst.cs
      have f0 := hst.soft 0
      have f1 := hst.soft 1
      have f2 := hst.soft 2
      have f3 := hst.soft 3
      have f4 := hst.soft 4
      have f5 := hst.soft 5
      have f6 := hst.soft 6
      have f7 := hst.soft 7
      have f8 := hst.soft 8
      have f9 := hst.soft 9
      have f10 := hst.soft 10
      clear hS hst hl ht HP
      unfold filled at HLn HTn
      have HP := hide (gmbytes_any _ g _ _ HLn.out.raw)
      go_wp2_with (first | (go_at_call 8; refine (num14 _ _).mono ?_; rintro _ _ ⟨rfl, rfl⟩) | fail)
      generalize (((((((((((w7.setCell ⟨gv, 0, none⟩ (.bool xb.rd)).setCell ⟨gv, 1, none⟩ (.bool xb.wt)).setCell ⟨gv, 2, none⟩ (.int .i64 xb.mode)).setCell ⟨gv, 3, none⟩ (.int .i64 xb.size)).setCell ⟨gv, 4, none⟩ (.slice a1 xb.out.length a4)).setCell ⟨gv, 5, none⟩ (.slice a2 xb.inn.length a5)).setCell ⟨gv, 6, none⟩ (.slice a3 xb.back.length a6)).setCell ⟨gv, 7, none⟩ (.int .i64 xb.dir)).setCell ⟨gv, 8, none⟩ (.bool xb.fin)).setCell ⟨gv, 9, none⟩ (.bool xb.bad)).setCell ⟨gv, 10, none⟩ (.bool xb.closed)) = w8 at *
      clear c0 c1 c2 c3 c4 c5 c6 c7 c8 c9 c10 f0 f1 f2 f3 f4 f5 f6 f7 f8 f9 f10 HLV HTT HSZ
      have HLV := HLn
      have HTT := HTn
      have HSZ := hide HTT.out.size
      clear HLn HTn
      refine HP.out.mono ?_
      rintro _ w10 ⟨v10, rfl, hO10, hB10⟩
      obtain ⟨la, lc, rfl⟩ := owns_slice hO10
      have HAp : Hid (Apart w10 O7 gv (.slice la L.length lc) L) := hide ⟨Bys.of_owns hO10, fun k e _ => ⟨fun e2 => by have := HLV.out.ol k e2; have := (hO10.lt k e).1; omega, by have := HLV.out.st.lt; have := (hO10.lt k e).1; omega⟩⟩
      have HAl : Hid (∀ k, (Value.slice la L.length lc).ownBlock = some k → k < w10.heap.size) := hide (fun k e => (hO10.lt k e).2)
      have hlc : L.length ≤ lc := owns_cap hO10
      have HLV10 := hide (HLV.out.below (fun s => gmem_o g s) hB10)
      have HTT10 := hide (HTT.out.trans (Turned.of_below (S := fun k => w.heap.size ≤ k) hB10) (fun _ _ e => e))
      clear hO10 hB10 HP HLV HTT HSZ
      obtain ⟨m, hm, hm9⟩ := rem14 gets 40 (by decide) (by decide)
      go_wp2_with (first | (go_at_call 8; refine (num14 _ _).mono ?_; rintro _ _ ⟨rfl, rfl⟩) | fail)
      clear hm
      have HLV0 := HLV10
      have HTT0 := HTT10
      go_loopw [24] (fun s24 wr => ∃ (k : Nat) (x : SS) (S : MS) (o' i' b' : Value) (O : Nat → Prop), k ≤ m ∧ k ≤ L.length ∧ s24 = .int .i64 k ∧ Hid (RdS x S L k) ∧ Hid (LV (fun w O S => MemAt w O g S) wr w.heap.size gv O x S o' i' b') ∧ Hid (Turned (fun k => w.heap.size ≤ k) w wr) ∧ Hid (Apart wr O gv (.slice la L.length lc) L ∧ ∀ k, (Value.slice la L.length lc).ownBlock = some k → k < wr.heap.size)) (fun s24 _ => m - (intOf s24).toNat)
      case atStart => exact ⟨0, _, _, _, _, _, _, Nat.zero_le _, Nat.zero_le _, rfl, HRb, HLV0, HTT0, hide ⟨HAp.out, HAl.out⟩⟩
      case round =>
        clear HLV0 HTT0 HLV10 HTT10 HRb HAp HAl HW
        obtain ⟨k, x, S, o', i', b', O, hkm, hkL, rfl, HR, HLV, HTT, HAp⟩ := hrel
        obtain ⟨y1, y4, rfl, -⟩ := HLV.out.ls.so
        obtain ⟨y2, y5, rfl, -⟩ := HLV.out.ls.si
        obtain ⟨y3, y6, rfl, -⟩ := HLV.out.ls.sb
        have HSZ := hide HTT.out.size
        by_cases hlt : k < m
        · by_cases hlt3 : k < L.length
          · have hg := HR.out.get
            rw [show min (k + 1) L.length = k + 1 by omega, if_pos hlt3] at hg
            have hp := sGet_any (gro_raw g) (fun s => gmem_o g s) (bears_true msR) HLV.out.ls HLV.out.raw HLV.out.ol trivial (by rw [HR.out.out]; simp) (Nat.le_trans HR.out.il (by decide)) (by rw [HR.out.back]; simp)
            have hch := hg.2.2.1 hlt3
            generalize x.get msR S = q at *
            obtain ⟨x', c', e', S'⟩ := q
            simp only at hp hg hch
            obtain ⟨hg1, hg2, -, -⟩ := hg
            subst hg2
            subst hch
            have HRn := hide hg1
            have HP := hide hp
            have hb1 : (k : Int) < (m : Int) := by omega
            have hb2 : (k : Int) < (L.length : Int) := by omega
            clear hp hg1
            obtain ⟨c0, c1, c2, c3, c4, c5, c6, c7, c8, c9, c10⟩ := HLV.out.st.cs
            go_wp2_with fail
            clear c0 c1 c2 c3 c4 c5 c6 c7 c8 c9 c10
            refine HP.out.mono ?_
            rintro _ w5 ⟨o', i', b', rfl, hS⟩
            obtain ⟨a1, a4, rfl, -⟩ := hS.choose_spec.1.so
            obtain ⟨a2, a5, rfl, -⟩ := hS.choose_spec.1.si
            obtain ⟨a3, a6, rfl, -⟩ := hS.choose_spec.1.sb
            obtain ⟨O5, hL5, hI5, hT5, no5, hTO⟩ := LV.keepS HLV.out HSZ.out hS
            have hA5 : Apart w5 O5 gv (.slice la L.length lc) L := HAp.out.1.turned (hTO.mono fun _ e => .inl e) no5 HAp.out.2
            have hz5 := hTO.size
            have hBt := recv_below w5 (Obj.cells #[.bool x'.rd, .bool x'.wt, .int .i64 x'.mode, .int .i64 x'.size, .slice a1 x'.out.length a4, .slice a2 x'.inn.length a5, .slice a3 x'.back.length a6, .int .i64 x'.dir, .bool x'.fin, .bool x'.bad, .bool x'.closed] 29)
            have HL6 := hide (hL5.below (fun s => gmem_o g s) hBt)
            have HA6 : Hid (Apart (w5.alloc (Obj.cells #[.bool x'.rd, .bool x'.wt, .int .i64 x'.mode, .int .i64 x'.size, .slice a1 x'.out.length a4, .slice a2 x'.inn.length a5, .slice a3 x'.back.length a6, .int .i64 x'.dir, .bool x'.fin, .bool x'.bad, .bool x'.closed] 29)) O5 gv (.slice la L.length lc) L ∧ ∀ k, (Value.slice la L.length lc).ownBlock = some k → k < (w5.alloc (Obj.cells #[.bool x'.rd, .bool x'.wt, .int .i64 x'.mode, .int .i64 x'.size, .slice a1 x'.out.length a4, .slice a2 x'.inn.length a5, .slice a3 x'.back.length a6, .int .i64 x'.dir, .bool x'.fin, .bool x'.bad, .bool x'.closed] 29)).heap.size) := hide ⟨⟨hA5.1.below hBt, fun k e _ => hA5.2 k e (by have := HAp.out.2 k e; omega)⟩, fun k e => by have := HAp.out.2 k e; have := hBt.size; omega⟩
            have HTT6 := hide ((HTT.out.trans hT5 (fun _ _ e => e)).trans (Turned.of_below (S := fun k => w.heap.size ≤ k) hBt) (fun _ _ e => e))
            have hp := ptell_any (gro_raw g) (fun s => gmem_o g s) (bears_true msR) (gro_seek g) (bearsS_true _) (hI5.below hBt) HL6.out.raw HL6.out.ol trivial (by rw [HRn.out.out]; simp) (Nat.le_trans HRn.out.il (by decide)) (by rw [HRn.out.back]; simp)
            rw [HRn.out.tell] at hp
            simp only at hp
            have HP := hide hp
            clear hp hS hL5 hI5 hT5 no5 hTO hA5 hBt hz5
            go_wp2_with fail
            generalize w5.alloc (Obj.cells #[.bool x'.rd, .bool x'.wt, .int .i64 x'.mode, .int .i64 x'.size, .slice a1 x'.out.length a4, .slice a2 x'.inn.length a5, .slice a3 x'.back.length a6, .int .i64 x'.dir, .bool x'.fin, .bool x'.bad, .bool x'.closed] 29) = w6 at *
            refine HP.out.mono ?_
            rintro _ w7 ⟨o', i', b', rfl, hS⟩
            obtain ⟨b1, b4, rfl, -⟩ := hS.choose_spec.1.so
            obtain ⟨b2, b5, rfl, -⟩ := hS.choose_spec.1.si
            obtain ⟨b3, b6, rfl, -⟩ := hS.choose_spec.1.sb
            have hSb := SOut.below (x' := x') (fun s => gmem_o g s) hS (recv_below w7 (Obj.cells #[.bool x'.rd, .bool x'.wt, .int .i64 x'.mode, .int .i64 x'.size, .slice b1 x'.out.length b4, .slice b2 x'.inn.length b5, .slice b3 x'.back.length b6, .int .i64 x'.dir, .bool x'.fin, .bool x'.bad, .bool x'.closed] 29)) rfl rfl rfl
            have hTb : Turned O5 w6 (w7.alloc (Obj.cells #[.bool x'.rd, .bool x'.wt, .int .i64 x'.mode, .int .i64 x'.size, .slice b1 x'.out.length b4, .slice b2 x'.inn.length b5, .slice b3 x'.back.length b6, .int .i64 x'.dir, .bool x'.fin, .bool x'.bad, .bool x'.closed] 29)) := by obtain ⟨_, _, _, _, _, t⟩ := hSb; exact t
            obtain ⟨hst, ⟨O7, hl7, no7⟩, ht7, htA⟩ := LV.nextA (fun s => gmem_o g s) HL6.out HTT6.out.size hSb
            have hA7 : Apart (w7.alloc (Obj.cells #[.bool x'.rd, .bool x'.wt, .int .i64 x'.mode, .int .i64 x'.size, .slice b1 x'.out.length b4, .slice b2 x'.inn.length b5, .slice b3 x'.back.length b6, .int .i64 x'.dir, .bool x'.fin, .bool x'.bad, .bool x'.closed] 29)) O5 gv (.slice la L.length lc) L := HA6.out.1.turned (hTb.mono fun _ e => .inl e) (fun _ _ h => h) HA6.out.2
            have HA8 := hide (HA6.out.1.turned htA no7 HA6.out.2)
            have HA9 := hide (fun k e => Nat.lt_of_lt_of_le (HA6.out.2 k e) ht7.size)
            obtain ⟨-, lb, lo, rfl, -, hcell⟩ := bys_block hA7.1 (by omega)
            have d1 := hcell k hlt3
            have HLn := hide hl7
            have HTn := hide (HTT6.out.trans ht7 (fun _ _ e => e))
            obtain ⟨c0, c1, c2, c3, c4, c5, c6, c7, c8, c9, c10⟩ := hst.cs
            have f0 := hst.soft 0
            have f1 := hst.soft 1
            have f2 := hst.soft 2
            have f3 := hst.soft 3
            have f4 := hst.soft 4
            have f5 := hst.soft 5
            have f6 := hst.soft 6
            have f7 := hst.soft 7
            have f8 := hst.soft 8
            have f9 := hst.soft 9
            have f10 := hst.soft 10
            unfold filled at HLn HTn HA8 HA9
            clear hS hSb hTb hst hl7 no7 ht7 htA hA7 hcell HP HL6 HTT6 HA6 HAp
            go_wp2_with (first | (go_at_call 8; refine (num14 _ _).mono ?_; rintro _ _ ⟨rfl, rfl⟩) | fail)
            go_roundw
            case rel => exact ⟨k + 1, x', S', _, _, _, _, by omega, by omega, by go_num, HRn, HLn, HTn, hide ⟨HA8.out, HA9.out⟩⟩
            case measure => simp [intOf]; omega
          · have hb1 : (k : Int) < (m : Int) := by omega
            have hb2 : ¬ (k : Int) < (L.length : Int) := by omega
            have hA9 := HAp.out.1.1
            have HSm := hide (same_any (.slice la pz.length lc) (.slice pa pz.length pc) pz wr (by have := bys_first14 hA9 pz.length (by have := HLl.out; omega); rwa [HLt.out] at this) (HPz.out.below (HTT.out.below (B := w.heap.size) (fun _ e => e) (Nat.le_refl _))) (by unfold maxLen; omega))
            have HQ : ((L.length : Int) == max (l.length : Int) (pz.length : Int)) = true := by rw [beq_iff_eq]; have := HLl.out; omega
            have hc1 : (pz.length : Int) ≤ (lc : Int) := by have := HLl.out; omega
            have hc2 : (0 : Int) ≤ (pz.length : Int) := by omega
            clear hA9
            go_wp2_with (first | (go_at_call 14; refine HSm.out.mono ?_; rintro _ w9 ⟨rfl, hB9⟩) | fail)
            go_ret
            exact ⟨rfl, (HTT.out.below (B := w.heap.size) (fun _ e => e) (Nat.le_refl _)).trans (hB9.mono HSZ.out)⟩
        · have hb1 : ¬ (k : Int) < (m : Int) := by omega
          have hA9 := HAp.out.1.1
          have HSm := hide (same_any (.slice la pz.length lc) (.slice pa pz.length pc) pz wr (by have := bys_first14 hA9 pz.length (by have := HLl.out; omega); rwa [HLt.out] at this) (HPz.out.below (HTT.out.below (B := w.heap.size) (fun _ e => e) (Nat.le_refl _))) (by unfold maxLen; omega))
          have HQ : ((L.length : Int) == max (l.length : Int) (pz.length : Int)) = true := by rw [beq_iff_eq]; have := HLl.out; omega
          have hc1 : (pz.length : Int) ≤ (lc : Int) := by have := HLl.out; omega
          have hc2 : (0 : Int) ≤ (pz.length : Int) := by omega
          clear hA9
          go_wp2_with (first | (go_at_call 14; refine HSm.out.mono ?_; rintro _ w9 ⟨rfl, hB9⟩) | fail)
          go_ret
          exact ⟨rfl, (HTT.out.below (B := w.heap.size) (fun _ e => e) (Nat.le_refl _)).trans (hB9.mono HSZ.out)⟩
theorem pcounts_fr (ta : Option Addr) (tn tc : Nat) (l : List UInt8) (mode size : Int) (pa : Option Addr) (pn pc : Nat) (pz : List UInt8) (gets : Int) (w : World) (hX : Bys w (.slice ta tn tc) l) (hXl : l.length ≤ 140737488351232) (hP : Bys w (.slice pa pn pc) pz) (hPl : pz.length ≤ 140737488351232) :
    Calls Try.prog 4 #[.slice ta tn tc, .int .i64 mode, .int .i64 size, .slice pa pn pc, .int .i64 gets] w fun e w' => e = .returned (.bool true) ∧ Below w.heap.size w w' := by
  obtain rfl := bys_len14 hX
  obtain rfl := bys_len14 hP
  exact pcounts_any ta tc l mode size pa pc pz gets w hX hXl hP hPl
end Go.Proofs.Ytckmfbjpjakbcaa

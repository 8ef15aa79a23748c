/- What the proof stands on, part 9: the contracts of the program's calls that it reaches. -/
import Derived.Test.YtmogciopaffccaaKG8
import Derived.Deep.DeepCutAuto
/- LinesGrow: the walk. -/
namespace Go.Proofs.Ytmogciopaffccaa
open Go.RowKit

theorem ten_bys (w : World) : Bys (w.alloc (Obj.cells #[.int .u8 10] 5)) (.slice (some ⟨w.heap.size, 0, none⟩) 1 1) [10] := .inr (.inr ⟨_, _, _, rfl, Nat.zero_lt_one, fun j hj => by
  obtain rfl : j = 0 := by simpa using hj
  exact cell_of_row _ w.heap.size 0 _ _ _ (heap_alloc_new w _)⟩)
theorem bys_first15 {W : World} {va : Option Addr} {vc : Nat} {t : List UInt8} (h : Bys W (.slice va t.length vc) t) (m : Nat) (hm : m ≤ t.length) : Bys W (.slice va m vc) (t.take m) := by
  by_cases h0 : 0 < t.length
  · obtain ⟨_, yb, yo, rfl, _, _⟩ := bys_block h h0
    simpa using bys_cut h 0 m vc (by omega)
  · obtain rfl : m = t.length := by omega
    rw [List.take_of_length_le (Nat.le_refl _)]
    exact h
set_option maxRecDepth 100000 in
set_option maxHeartbeats 8000000 in
theorem lgrow_any15 (pa : Option Addr) (pc : Nat) (p : List UInt8) (ra : Option Addr) (rc : Nat) (r : List UInt8) (lim mode size : Int) (w : World) (hX : Bys w (.slice pa p.length pc) p) (hY : Bys w (.slice ra r.length rc) r) (hXl : p.length + r.length ≤ 140737488000000) :
    Calls Try.prog 5 #[.slice pa p.length pc, .slice ra r.length rc, .int .i64 lim, .int .i64 mode, .int .i64 size] w fun e w' => e = .returned (.bool true) ∧ Below w.heap.size w w' := by
  have HX := hide hX
  have HY := hide hY
  have HXl := hide hXl
  clear hX hY hXl
  go_enter Try.func5, Try.ntmps5
  go_wp2_with fail
  refine (alive15 _).mono ?_
  rintro _ w1 ⟨rfl, hB1⟩
  have HB1 := hide hB1
  clear hB1
  go_wp2_with fail
  go_loopw [11, 12] (fun s11 s12 wr => ∃ (c : Bool) (i : Nat), s11 = .bool c ∧ s12 = .int .i64 i ∧ i ≤ p.length ∧ (c = true → p.length ≤ 3000 ∧ ∀ j, j < i → p.getD j 0 ≠ 10) ∧ w1 = wr) (fun _ s12 _ => p.length - (intOf s12).toNat)
  case atStart => exact ⟨_, 0, rfl, rfl, Nat.zero_le _, fun e => ⟨by have := of_decide_eq_true e; omega, fun j hj => by omega⟩, rfl⟩
  case round =>
    obtain ⟨c, i, rfl, rfl, hi, hc, hw⟩ := hrel
    subst hw
    have HC := hide hc
    clear hc
    by_cases hi2 : i < p.length
    · cases c
      case false =>
        have hif : (i : Int) < (p.length : Int) := by omega
        obtain ⟨m0, hm, hm9⟩ := rem15 lim 90 (by decide) (by decide)
        obtain ⟨N, hN⟩ : ∃ N, N = m0 + 1 := ⟨_, rfl⟩
        have hm1 : wrap64 (1 + (m0 : Int)) = (N : Int) := by rw [hN]; unfold wrap64; omega
        have HN1 : Hid (1 ≤ N ∧ N ≤ 65536) := hide (by omega)
        clear hN hm9
        have HCp := hide (copy_any _ p w1 (HX.out.below HB1.out) (by have := HXl.out; omega))
        go_wp2_with fail
        try simp only [hm1]
        clear hm hm1
        refine HCp.out.mono ?_
        rintro _ w2 ⟨v2, rfl, hO2, hB2⟩
        obtain ⟨va, vc, rfl⟩ := owns_slice hO2
        have hBc := recv_below w2 (Obj.cells #[.int .u8 10] 5)
        obtain ⟨s3, w3', hr1, HO3, hg3, hwh3⟩ := run_append_bytes (w2.alloc (Obj.cells #[.int .u8 10] 5)) 22 w1.heap.size _ _ p [10] (owns_below hO2 hBc) (ten_bys w2) (by have := HXl.out; simp only [List.length_cons, List.length_nil]; omega) (by have := hB2.size; have := hBc.size; omega)
        have t3 : Turned (fun k => w1.heap.size ≤ k) w1 w3' := ((Turned.of_below hB2).trans (Turned.of_below (S := fun k => w1.heap.size ≤ k) hBc) (fun _ _ e => e)).grown hg3 (fun k e => .inl (hO2.lt k e).1)
        have b3 := t3.below (B := w1.heap.size) (fun _ e => e) (Nat.le_refl _)
        obtain ⟨s4, w4', hr2, HO4, hg4, hwh4⟩ := run_append_bytes w3' 22 w1.heap.size s3 (.slice ra r.length rc) (p ++ [10]) r HO3.out ((HY.out.below HB1.out).below b3) (by have := HXl.out; simp only [List.length_append, List.length_cons, List.length_nil]; omega) t3.size
        have t4 : Turned (fun k => w1.heap.size ≤ k) w1 w4' := t3.grown hg4 (fun k e => .inl (HO3.out.lt k e).1)
        have HBb := hide (HB1.out.trans ((t4.below (B := w1.heap.size) (fun _ e => e) (Nat.le_refl _)).mono HB1.out.size))
        obtain ⟨l, hl0⟩ : ∃ l, l = p ++ [10] ++ r := ⟨_, rfl⟩
        have HLf : Hid (p.length < l.length ∧ l.getD p.length 0 = 10 ∧ (∀ j, j < p.length → l.getD j 0 = p.getD j 0) ∧ l.take p.length = p) := hide (by
          subst hl0
          refine ⟨by simp, by simp, fun j hj => ?_, by simp⟩
          rw [List.getD_eq_getElem?_getD, List.getD_eq_getElem?_getD, List.append_assoc, List.getElem?_append_left hj])
        rw [← hl0] at HO4
        have HTx := hide (Bys.of_owns HO4.out)
        have HAp1 := hide hr1
        have HAp2 := hide hr2
        clear hr1 hr2 HO3 HO4 hg3 hg4 hwh3 hwh4 t3 t4 b3 hO2 hB2 hBc hl0 HCp
        clear HB1
        have HB1 := HBb
        clear HBb
        generalize hw1 : w4' = w1' at *
        clear hw1
        have hM := fun W => sNew_any moR mode size W
        by_cases hl : 1048576 < l.length
        case pos =>
          have HNg := hide (newReader_long (s4) l w1' (HTx.out) hl)
          generalize SS.new moR mode size = q at *
          obtain ⟨qx, qe⟩ := q
          unfold mv at hM
          simp only at hM
          have HM := hide hM
          clear hM
          go_wp2_with (first | (at_builtin; have hh := HAp1.out; clear HAp1; refine Lib.wpList_append_run _ rfl _ _ _ _ rfl _ _ rfl rfl _ _ hh ?_; clear hh) | (at_builtin; have hh := HAp2.out; clear HAp2; refine Lib.wpList_append_run _ rfl _ _ _ _ rfl _ _ rfl rfl _ _ hh ?_; clear hh) | fail)
          refine HNg.out.mono ?_
          rintro _ w2 ⟨rfl, hB2⟩
          have HB2 := hide (HB1.out.trans (hB2.mono HB1.out.size))
          clear hB2
          go_wp2_with fail
          refine (HM.out _).mono ?_
          rintro _ w3 ⟨rfl, hB3⟩
          have HB3 := hide (HB2.out.trans (hB3.mono HB2.out.size))
          clear hB3
          go_wp2_with (first | (go_at_call 9; refine (num15 _ _).mono ?_; rintro _ _ ⟨rfl, rfl⟩) | fail)
          go_ret
          exact ⟨rfl, HB3.out.trans ((recv_below w3 _).mono HB3.out.size)⟩
        have HNg := hide (newReader_good (s4) l w1' (HTx.out) (by omega))
        rw [new_R] at hM
        unfold mv at hM
        go_wp2_with (first | (at_builtin; have hh := HAp1.out; clear HAp1; refine Lib.wpList_append_run _ rfl _ _ _ _ rfl _ _ rfl rfl _ _ hh ?_; clear hh) | (at_builtin; have hh := HAp2.out; clear HAp2; refine Lib.wpList_append_run _ rfl _ _ _ _ rfl _ _ rfl rfl _ _ hh ?_; clear hh) | fail)
        refine HNg.out.mono ?_
        rintro _ w2 ⟨g, rfl, hMm, hB2⟩
        have HM2 := hide hMm
        have HB2 := hide (HB1.out.trans (hB2.mono HB1.out.size))
        have hz12 := HB1.out.size
        clear hB2 hMm HNg
        by_cases hok : (1 ≤ mode ∧ mode ≤ 3) ∧ (1 ≤ size ∧ size ≤ 65536)
        case neg =>
          obtain ⟨q, hq, hq0⟩ : ∃ q : SS × Int, (if 1 ≤ mode ∧ mode ≤ 3 then (if 1 ≤ size ∧ size ≤ 65536 then (xR mode size, 0) else (ss0, 4)) else (ss0, 1)) = q ∧ q.2 ≠ 0 := by
            refine ⟨_, rfl, ?_⟩
            by_cases h1 : 1 ≤ mode ∧ mode ≤ 3
            · rw [if_pos h1, if_neg (fun h2 => hok ⟨h1, h2⟩)]; decide
            · rw [if_neg h1]; decide
          rw [hq] at hM
          obtain ⟨qx, qe⟩ := q
          simp only at hM hq0
          have HM := hide hM
          have hb1 : (qe == 0) = false := by simp [hq0]
          have hb2 : (qe != 0) = true := by simp [hq0]
          clear hM hq hq0 hok
          go_wp2_with fail
          refine (HM.out _).mono ?_
          rintro _ w3 ⟨rfl, hB3⟩
          have HB3 := hide (HB2.out.trans (hB3.mono HB2.out.size))
          clear hB3
          go_wp2_with (first | (go_at_call 9; refine (num15 _ _).mono ?_; rintro _ _ ⟨rfl, rfl⟩) | fail)
          go_ret
          exact ⟨rfl, HB3.out.trans ((recv_below w3 _).mono HB3.out.size)⟩
        rw [if_pos hok.1, if_pos hok.2] at hM
        simp only at hM
        have HM := hide hM
        clear hM
        go_wp2_with fail
        refine (HM.out _).mono ?_
        rintro _ w3 ⟨rfl, hB3⟩
        have HM3 := hide (HM2.out.below hB3)
        have HB3 := hide (HB2.out.trans (hB3.mono HB2.out.size))
        clear hB3 HM HM2 HB2
        have HS3 := hide (StAt.new w3 (xR mode size) (.slice none 0 0) (.slice none 0 0) (.slice none 0 0))
        have HB4 := hide (recv_below w3 (Obj.cells #[.bool (xR mode size).rd, .bool (xR mode size).wt, .int .i64 (xR mode size).mode, .int .i64 (xR mode size).size, .slice none 0 0, .slice none 0 0, .slice none 0 0, .int .i64 (xR mode size).dir, .bool (xR mode size).fin, .bool (xR mode size).bad, .bool (xR mode size).closed] 29))
        have HLV : Hid (LV (fun w O S => MemAt w O g S) (w3.alloc (Obj.cells #[.bool (xR mode size).rd, .bool (xR mode size).wt, .int .i64 (xR mode size).mode, .int .i64 (xR mode size).size, .slice none 0 0, .slice none 0 0, .slice none 0 0, .int .i64 (xR mode size).dir, .bool (xR mode size).fin, .bool (xR mode size).bad, .bool (xR mode size).closed] 29)) w.heap.size w3.heap.size (fun k => w1'.heap.size ≤ k ∧ k < w3.heap.size) (xR mode size) ⟨l, l.length, 0⟩ (.slice none (xR mode size).out.length 0) (.slice none (xR mode size).inn.length 0) (.slice none (xR mode size).back.length 0)) := hide
          ⟨HS3.out, SIn.nils0 rfl rfl rfl, HM3.out.trim.below HB4.out, fun j e => Nat.lt_of_lt_of_le e.2 HB4.out.size, fun j e => by have := e.1; omega, fun e => by omega, HB3.out.size⟩
        have HTT : Hid (Turned (fun k => w.heap.size ≤ k) w (w3.alloc (Obj.cells #[.bool (xR mode size).rd, .bool (xR mode size).wt, .int .i64 (xR mode size).mode, .int .i64 (xR mode size).size, .slice none 0 0, .slice none 0 0, .slice none 0 0, .int .i64 (xR mode size).dir, .bool (xR mode size).fin, .bool (xR mode size).bad, .bool (xR mode size).closed] 29))) := hide ((Turned.of_below HB3.out).trans (Turned.of_below (S := fun k => w.heap.size ≤ k) HB4.out) (fun _ _ e => e))
        have HSZ := hide HTT.out.size
        have HR0 := hide (rr_new mode size l hok (by omega))
        clear HS3 HB4 HM3 hok
        go_wp2_with (first | (go_at_call 9; refine (num15 _ _).mono ?_; rintro _ _ ⟨rfl, rfl⟩) | fail)
        go_ret
        exact ⟨rfl, HTT.out.below (B := w.heap.size) (fun _ e => e) (Nat.le_refl _)⟩
      case true =>
        obtain ⟨-, qb, qo, rfl, hqb, hcell⟩ := bys_block HX.out (by omega)
        have d1 := (HB1.out.cell (World.block_lt_of_cell? w _ (hcell i hi2))).trans (hcell i hi2)
        have e4 : (i : Int) < (p.length : Int) := by omega
        have e1 : wrap64 ((i : Int) + 1) = (i : Int) + 1 := by have := HXl.out; unfold wrap64; omega
        have HD : Hid (((p.getD i 0).toNat : Int) != 10 → p.getD i 0 ≠ 10) := hide (fun e e2 => by rw [e2] at e; exact absurd e (by decide))
        generalize hch : p.getD i 0 = ch at *
        have HCh := hide hch
        clear hch hcell hqb
        go_wp2_with fail
        simp only [e1]
        go_roundw
        case rel => exact ⟨_, i + 1, rfl, by go_num, by omega, fun e => ⟨(HC.out rfl).1, fun j hj => by
          by_cases hji : j = i
          · rw [hji, HCh.out]; exact HD.out e
          · exact (HC.out rfl).2 j (by omega)⟩, by simp⟩
        case measure =>
          show p.length - ((i : Int) + 1).toNat < p.length - (i : Int).toNat
          have h7 : ((i : Int) + 1).toNat = i + 1 := by omega
          rw [h7, Int.toNat_natCast]
          omega
    · obtain rfl : i = p.length := by omega
      cases c
      case false =>
        obtain ⟨m0, hm, hm9⟩ := rem15 lim 90 (by decide) (by decide)
        obtain ⟨N, hN⟩ : ∃ N, N = m0 + 1 := ⟨_, rfl⟩
        have hm1 : wrap64 (1 + (m0 : Int)) = (N : Int) := by rw [hN]; unfold wrap64; omega
        have HN1 : Hid (1 ≤ N ∧ N ≤ 65536) := hide (by omega)
        clear hN hm9
        have HCp := hide (copy_any _ p w1 (HX.out.below HB1.out) (by have := HXl.out; omega))
        go_wp2_with fail
        try simp only [hm1]
        clear hm hm1
        refine HCp.out.mono ?_
        rintro _ w2 ⟨v2, rfl, hO2, hB2⟩
        obtain ⟨va, vc, rfl⟩ := owns_slice hO2
        have hBc := recv_below w2 (Obj.cells #[.int .u8 10] 5)
        obtain ⟨s3, w3', hr1, HO3, hg3, hwh3⟩ := run_append_bytes (w2.alloc (Obj.cells #[.int .u8 10] 5)) 22 w1.heap.size _ _ p [10] (owns_below hO2 hBc) (ten_bys w2) (by have := HXl.out; simp only [List.length_cons, List.length_nil]; omega) (by have := hB2.size; have := hBc.size; omega)
        have t3 : Turned (fun k => w1.heap.size ≤ k) w1 w3' := ((Turned.of_below hB2).trans (Turned.of_below (S := fun k => w1.heap.size ≤ k) hBc) (fun _ _ e => e)).grown hg3 (fun k e => .inl (hO2.lt k e).1)
        have b3 := t3.below (B := w1.heap.size) (fun _ e => e) (Nat.le_refl _)
        obtain ⟨s4, w4', hr2, HO4, hg4, hwh4⟩ := run_append_bytes w3' 22 w1.heap.size s3 (.slice ra r.length rc) (p ++ [10]) r HO3.out ((HY.out.below HB1.out).below b3) (by have := HXl.out; simp only [List.length_append, List.length_cons, List.length_nil]; omega) t3.size
        have t4 : Turned (fun k => w1.heap.size ≤ k) w1 w4' := t3.grown hg4 (fun k e => .inl (HO3.out.lt k e).1)
        have HBb := hide (HB1.out.trans ((t4.below (B := w1.heap.size) (fun _ e => e) (Nat.le_refl _)).mono HB1.out.size))
        obtain ⟨l, hl0⟩ : ∃ l, l = p ++ [10] ++ r := ⟨_, rfl⟩
        have HLf : Hid (p.length < l.length ∧ l.getD p.length 0 = 10 ∧ (∀ j, j < p.length → l.getD j 0 = p.getD j 0) ∧ l.take p.length = p) := hide (by
          subst hl0
          refine ⟨by simp, by simp, fun j hj => ?_, by simp⟩
          rw [List.getD_eq_getElem?_getD, List.getD_eq_getElem?_getD, List.append_assoc, List.getElem?_append_left hj])
        rw [← hl0] at HO4
        have HTx := hide (Bys.of_owns HO4.out)
        have HAp1 := hide hr1
        have HAp2 := hide hr2
        clear hr1 hr2 HO3 HO4 hg3 hg4 hwh3 hwh4 t3 t4 b3 hO2 hB2 hBc hl0 HCp
        clear HB1
        have HB1 := HBb
        clear HBb
        generalize hw1 : w4' = w1' at *
        clear hw1
        have hM := fun W => sNew_any moR mode size W
        by_cases hl : 1048576 < l.length
        case pos =>
          have HNg := hide (newReader_long (s4) l w1' (HTx.out) hl)
          generalize SS.new moR mode size = q at *
          obtain ⟨qx, qe⟩ := q
          unfold mv at hM
          simp only at hM
          have HM := hide hM
          clear hM
          go_wp2_with (first | (at_builtin; have hh := HAp1.out; clear HAp1; refine Lib.wpList_append_run _ rfl _ _ _ _ rfl _ _ rfl rfl _ _ hh ?_; clear hh) | (at_builtin; have hh := HAp2.out; clear HAp2; refine Lib.wpList_append_run _ rfl _ _ _ _ rfl _ _ rfl rfl _ _ hh ?_; clear hh) | fail)
          refine HNg.out.mono ?_
          rintro _ w2 ⟨rfl, hB2⟩
          have HB2 := hide (HB1.out.trans (hB2.mono HB1.out.size))
          clear hB2
          go_wp2_with fail
          refine (HM.out _).mono ?_
          rintro _ w3 ⟨rfl, hB3⟩
          have HB3 := hide (HB2.out.trans (hB3.mono HB2.out.size))
          clear hB3
          go_wp2_with (first | (go_at_call 9; refine (num15 _ _).mono ?_; rintro _ _ ⟨rfl, rfl⟩) | fail)
          go_ret
          exact ⟨rfl, HB3.out.trans ((recv_below w3 _).mono HB3.out.size)⟩
        have HNg := hide (newReader_good (s4) l w1' (HTx.out) (by omega))
        rw [new_R] at hM
        unfold mv at hM
        go_wp2_with (first | (at_builtin; have hh := HAp1.out; clear HAp1; refine Lib.wpList_append_run _ rfl _ _ _ _ rfl _ _ rfl rfl _ _ hh ?_; clear hh) | (at_builtin; have hh := HAp2.out; clear HAp2; refine Lib.wpList_append_run _ rfl _ _ _ _ rfl _ _ rfl rfl _ _ hh ?_; clear hh) | fail)
        refine HNg.out.mono ?_
        rintro _ w2 ⟨g, rfl, hMm, hB2⟩
        have HM2 := hide hMm
        have HB2 := hide (HB1.out.trans (hB2.mono HB1.out.size))
        have hz12 := HB1.out.size
        clear hB2 hMm HNg
        by_cases hok : (1 ≤ mode ∧ mode ≤ 3) ∧ (1 ≤ size ∧ size ≤ 65536)
        case neg =>
          obtain ⟨q, hq, hq0⟩ : ∃ q : SS × Int, (if 1 ≤ mode ∧ mode ≤ 3 then (if 1 ≤ size ∧ size ≤ 65536 then (xR mode size, 0) else (ss0, 4)) else (ss0, 1)) = q ∧ q.2 ≠ 0 := by
            refine ⟨_, rfl, ?_⟩
            by_cases h1 : 1 ≤ mode ∧ mode ≤ 3
            · rw [if_pos h1, if_neg (fun h2 => hok ⟨h1, h2⟩)]; decide
            · rw [if_neg h1]; decide
          rw [hq] at hM
          obtain ⟨qx, qe⟩ := q
          simp only at hM hq0
          have HM := hide hM
          have hb1 : (qe == 0) = false := by simp [hq0]
          have hb2 : (qe != 0) = true := by simp [hq0]
          clear hM hq hq0 hok
          go_wp2_with fail
          refine (HM.out _).mono ?_
          rintro _ w3 ⟨rfl, hB3⟩
          have HB3 := hide (HB2.out.trans (hB3.mono HB2.out.size))
          clear hB3
          go_wp2_with (first | (go_at_call 9; refine (num15 _ _).mono ?_; rintro _ _ ⟨rfl, rfl⟩) | fail)
          go_ret
          exact ⟨rfl, HB3.out.trans ((recv_below w3 _).mono HB3.out.size)⟩
        rw [if_pos hok.1, if_pos hok.2] at hM
        simp only at hM
        have HM := hide hM
        clear hM
        go_wp2_with fail
        refine (HM.out _).mono ?_
        rintro _ w3 ⟨rfl, hB3⟩
        have HM3 := hide (HM2.out.below hB3)
        have HB3 := hide (HB2.out.trans (hB3.mono HB2.out.size))
        clear hB3 HM HM2 HB2
        have HS3 := hide (StAt.new w3 (xR mode size) (.slice none 0 0) (.slice none 0 0) (.slice none 0 0))
        have HB4 := hide (recv_below w3 (Obj.cells #[.bool (xR mode size).rd, .bool (xR mode size).wt, .int .i64 (xR mode size).mode, .int .i64 (xR mode size).size, .slice none 0 0, .slice none 0 0, .slice none 0 0, .int .i64 (xR mode size).dir, .bool (xR mode size).fin, .bool (xR mode size).bad, .bool (xR mode size).closed] 29))
        have HLV : Hid (LV (fun w O S => MemAt w O g S) (w3.alloc (Obj.cells #[.bool (xR mode size).rd, .bool (xR mode size).wt, .int .i64 (xR mode size).mode, .int .i64 (xR mode size).size, .slice none 0 0, .slice none 0 0, .slice none 0 0, .int .i64 (xR mode size).dir, .bool (xR mode size).fin, .bool (xR mode size).bad, .bool (xR mode size).closed] 29)) w.heap.size w3.heap.size (fun k => w1'.heap.size ≤ k ∧ k < w3.heap.size) (xR mode size) ⟨l, l.length, 0⟩ (.slice none (xR mode size).out.length 0) (.slice none (xR mode size).inn.length 0) (.slice none (xR mode size).back.length 0)) := hide
          ⟨HS3.out, SIn.nils0 rfl rfl rfl, HM3.out.trim.below HB4.out, fun j e => Nat.lt_of_lt_of_le e.2 HB4.out.size, fun j e => by have := e.1; omega, fun e => by omega, HB3.out.size⟩
        have HTT : Hid (Turned (fun k => w.heap.size ≤ k) w (w3.alloc (Obj.cells #[.bool (xR mode size).rd, .bool (xR mode size).wt, .int .i64 (xR mode size).mode, .int .i64 (xR mode size).size, .slice none 0 0, .slice none 0 0, .slice none 0 0, .int .i64 (xR mode size).dir, .bool (xR mode size).fin, .bool (xR mode size).bad, .bool (xR mode size).closed] 29))) := hide ((Turned.of_below HB3.out).trans (Turned.of_below (S := fun k => w.heap.size ≤ k) HB4.out) (fun _ _ e => e))
        have HSZ := hide HTT.out.size
        have HR0 := hide (rr_new mode size l hok (by omega))
        clear HS3 HB4 HM3 hok
        go_wp2_with (first | (go_at_call 9; refine (num15 _ _).mono ?_; rintro _ _ ⟨rfl, rfl⟩) | fail)
        go_ret
        exact ⟨rfl, HTT.out.below (B := w.heap.size) (fun _ e => e) (Nat.le_refl _)⟩
      case true =>
        obtain ⟨m0, hm, hm9⟩ := rem15 lim 90 (by decide) (by decide)
        obtain ⟨N, hN⟩ : ∃ N, N = m0 + 1 := ⟨_, rfl⟩
        have hm1 : wrap64 (1 + (m0 : Int)) = (N : Int) := by rw [hN]; unfold wrap64; omega
        have HN1 : Hid (1 ≤ N ∧ N ≤ 65536) := hide (by omega)
        clear hN hm9
        have HCp := hide (copy_any _ p w1 (HX.out.below HB1.out) (by have := HXl.out; omega))
        go_wp2_with fail
        try simp only [hm1]
        clear hm hm1
        refine HCp.out.mono ?_
        rintro _ w2 ⟨v2, rfl, hO2, hB2⟩
        obtain ⟨va, vc, rfl⟩ := owns_slice hO2
        have hBc := recv_below w2 (Obj.cells #[.int .u8 10] 5)
        obtain ⟨s3, w3', hr1, HO3, hg3, hwh3⟩ := run_append_bytes (w2.alloc (Obj.cells #[.int .u8 10] 5)) 22 w1.heap.size _ _ p [10] (owns_below hO2 hBc) (ten_bys w2) (by have := HXl.out; simp only [List.length_cons, List.length_nil]; omega) (by have := hB2.size; have := hBc.size; omega)
        have t3 : Turned (fun k => w1.heap.size ≤ k) w1 w3' := ((Turned.of_below hB2).trans (Turned.of_below (S := fun k => w1.heap.size ≤ k) hBc) (fun _ _ e => e)).grown hg3 (fun k e => .inl (hO2.lt k e).1)
        have b3 := t3.below (B := w1.heap.size) (fun _ e => e) (Nat.le_refl _)
        obtain ⟨s4, w4', hr2, HO4, hg4, hwh4⟩ := run_append_bytes w3' 22 w1.heap.size s3 (.slice ra r.length rc) (p ++ [10]) r HO3.out ((HY.out.below HB1.out).below b3) (by have := HXl.out; simp only [List.length_append, List.length_cons, List.length_nil]; omega) t3.size
        have t4 : Turned (fun k => w1.heap.size ≤ k) w1 w4' := t3.grown hg4 (fun k e => .inl (HO3.out.lt k e).1)
        have HBb := hide (HB1.out.trans ((t4.below (B := w1.heap.size) (fun _ e => e) (Nat.le_refl _)).mono HB1.out.size))
        obtain ⟨l, hl0⟩ : ∃ l, l = p ++ [10] ++ r := ⟨_, rfl⟩
        have HLf : Hid (p.length < l.length ∧ l.getD p.length 0 = 10 ∧ (∀ j, j < p.length → l.getD j 0 = p.getD j 0) ∧ l.take p.length = p) := hide (by
          subst hl0
          refine ⟨by simp, by simp, fun j hj => ?_, by simp⟩
          rw [List.getD_eq_getElem?_getD, List.getD_eq_getElem?_getD, List.append_assoc, List.getElem?_append_left hj])
        rw [← hl0] at HO4
        have HTx := hide (Bys.of_owns HO4.out)
        have HAp1 := hide hr1
        have HAp2 := hide hr2
        clear hr1 hr2 HO3 HO4 hg3 hg4 hwh3 hwh4 t3 t4 b3 hO2 hB2 hBc hl0 HCp
        clear HB1
        have HB1 := HBb
        clear HBb
        generalize hw1 : w4' = w1' at *
        clear hw1
        have hM := fun W => sNew_any moR mode size W
        by_cases hl : 1048576 < l.length
        case pos =>
          have HNg := hide (newReader_long (s4) l w1' (HTx.out) hl)
          generalize SS.new moR mode size = q at *
          obtain ⟨qx, qe⟩ := q
          unfold mv at hM
          simp only at hM
          have HM := hide hM
          clear hM
          go_wp2_with (first | (at_builtin; have hh := HAp1.out; clear HAp1; refine Lib.wpList_append_run _ rfl _ _ _ _ rfl _ _ rfl rfl _ _ hh ?_; clear hh) | (at_builtin; have hh := HAp2.out; clear HAp2; refine Lib.wpList_append_run _ rfl _ _ _ _ rfl _ _ rfl rfl _ _ hh ?_; clear hh) | fail)
          refine HNg.out.mono ?_
          rintro _ w2 ⟨rfl, hB2⟩
          have HB2 := hide (HB1.out.trans (hB2.mono HB1.out.size))
          clear hB2
          go_wp2_with fail
          refine (HM.out _).mono ?_
          rintro _ w3 ⟨rfl, hB3⟩
          have HB3 := hide (HB2.out.trans (hB3.mono HB2.out.size))
          clear hB3
          go_wp2_with (first | (go_at_call 9; refine (num15 _ _).mono ?_; rintro _ _ ⟨rfl, rfl⟩) | fail)
          go_ret
          exact ⟨rfl, HB3.out.trans ((recv_below w3 _).mono HB3.out.size)⟩
        have HNg := hide (newReader_good (s4) l w1' (HTx.out) (by omega))
        rw [new_R] at hM
        unfold mv at hM
        go_wp2_with (first | (at_builtin; have hh := HAp1.out; clear HAp1; refine Lib.wpList_append_run _ rfl _ _ _ _ rfl _ _ rfl rfl _ _ hh ?_; clear hh) | (at_builtin; have hh := HAp2.out; clear HAp2; refine Lib.wpList_append_run _ rfl _ _ _ _ rfl _ _ rfl rfl _ _ hh ?_; clear hh) | fail)
        refine HNg.out.mono ?_
        rintro _ w2 ⟨g, rfl, hMm, hB2⟩
        have HM2 := hide hMm
        have HB2 := hide (HB1.out.trans (hB2.mono HB1.out.size))
        have hz12 := HB1.out.size
        clear hB2 hMm HNg
        by_cases hok : (1 ≤ mode ∧ mode ≤ 3) ∧ (1 ≤ size ∧ size ≤ 65536)
        case neg =>
          obtain ⟨q, hq, hq0⟩ : ∃ q : SS × Int, (if 1 ≤ mode ∧ mode ≤ 3 then (if 1 ≤ size ∧ size ≤ 65536 then (xR mode size, 0) else (ss0, 4)) else (ss0, 1)) = q ∧ q.2 ≠ 0 := by
            refine ⟨_, rfl, ?_⟩
            by_cases h1 : 1 ≤ mode ∧ mode ≤ 3
            · rw [if_pos h1, if_neg (fun h2 => hok ⟨h1, h2⟩)]; decide
            · rw [if_neg h1]; decide
          rw [hq] at hM
          obtain ⟨qx, qe⟩ := q
          simp only at hM hq0
          have HM := hide hM
          have hb1 : (qe == 0) = false := by simp [hq0]
          have hb2 : (qe != 0) = true := by simp [hq0]
          clear hM hq hq0 hok
          go_wp2_with fail
          refine (HM.out _).mono ?_
          rintro _ w3 ⟨rfl, hB3⟩
          have HB3 := hide (HB2.out.trans (hB3.mono HB2.out.size))
          clear hB3
          go_wp2_with (first | (go_at_call 9; refine (num15 _ _).mono ?_; rintro _ _ ⟨rfl, rfl⟩) | fail)
          go_ret
          exact ⟨rfl, HB3.out.trans ((recv_below w3 _).mono HB3.out.size)⟩
        rw [if_pos hok.1, if_pos hok.2] at hM
        simp only at hM
        have HM := hide hM
        clear hM
        go_wp2_with fail
        refine (HM.out _).mono ?_
        rintro _ w3 ⟨rfl, hB3⟩
        have HM3 := hide (HM2.out.below hB3)
        have HB3 := hide (HB2.out.trans (hB3.mono HB2.out.size))
        clear hB3 HM HM2 HB2
        have HS3 := hide (StAt.new w3 (xR mode size) (.slice none 0 0) (.slice none 0 0) (.slice none 0 0))
        have HB4 := hide (recv_below w3 (Obj.cells #[.bool (xR mode size).rd, .bool (xR mode size).wt, .int .i64 (xR mode size).mode, .int .i64 (xR mode size).size, .slice none 0 0, .slice none 0 0, .slice none 0 0, .int .i64 (xR mode size).dir, .bool (xR mode size).fin, .bool (xR mode size).bad, .bool (xR mode size).closed] 29))
        have HLV : Hid (LV (fun w O S => MemAt w O g S) (w3.alloc (Obj.cells #[.bool (xR mode size).rd, .bool (xR mode size).wt, .int .i64 (xR mode size).mode, .int .i64 (xR mode size).size, .slice none 0 0, .slice none 0 0, .slice none 0 0, .int .i64 (xR mode size).dir, .bool (xR mode size).fin, .bool (xR mode size).bad, .bool (xR mode size).closed] 29)) w.heap.size w3.heap.size (fun k => w1'.heap.size ≤ k ∧ k < w3.heap.size) (xR mode size) ⟨l, l.length, 0⟩ (.slice none (xR mode size).out.length 0) (.slice none (xR mode size).inn.length 0) (.slice none (xR mode size).back.length 0)) := hide
          ⟨HS3.out, SIn.nils0 rfl rfl rfl, HM3.out.trim.below HB4.out, fun j e => Nat.lt_of_lt_of_le e.2 HB4.out.size, fun j e => by have := e.1; omega, fun e => by omega, HB3.out.size⟩
        have HTT : Hid (Turned (fun k => w.heap.size ≤ k) w (w3.alloc (Obj.cells #[.bool (xR mode size).rd, .bool (xR mode size).wt, .int .i64 (xR mode size).mode, .int .i64 (xR mode size).size, .slice none 0 0, .slice none 0 0, .slice none 0 0, .int .i64 (xR mode size).dir, .bool (xR mode size).fin, .bool (xR mode size).bad, .bool (xR mode size).closed] 29))) := hide ((Turned.of_below HB3.out).trans (Turned.of_below (S := fun k => w.heap.size ≤ k) HB4.out) (fun _ _ e => e))
        have HSZ := hide HTT.out.size
        have HR0 := hide (rr_new mode size l hok (by omega))
        clear HS3 HB4 HM3 hok
        obtain ⟨hc1, hc2⟩ := HC.out (by simp)
        have HC2 := hide hc2
        clear hc2 HC hl
        go_wp2_with (first | (go_at_call 9; refine (num15 _ _).mono ?_; rintro _ _ ⟨rfl, rfl⟩) | fail)
        generalize w3.alloc (Obj.cells #[.bool (xR mode size).rd, .bool (xR mode size).wt, .int .i64 (xR mode size).mode, .int .i64 (xR mode size).size, .slice none 0 0, .slice none 0 0, .slice none 0 0, .int .i64 (xR mode size).dir, .bool (xR mode size).fin, .bool (xR mode size).bad, .bool (xR mode size).closed] 29) = w4 at *
        generalize w3.heap.size = gv at *
        go_loopw [17, 18] (fun s17 s18 wr => ∃ (k j : Nat) (x : SS) (S : MS) (o' i' b' : Value) (O : Nat → Prop), j ≤ k ∧ k ≤ p.length ∧ s18 = .int .i64 j ∧ Hid (RdR x S l k) ∧ Hid (LV (fun w O S => MemAt w O g S) wr w.heap.size gv O x S o' i' b') ∧ Hid (Turned (fun k => w.heap.size ≤ k) w wr) ∧ Hid (Hel wr w.heap.size O gv o' i' b' s17 (l.take k))) (fun _ s18 _ => p.length + 1 - (intOf s18).toNat)
        case atStart => exact ⟨0, 0, _, _, _, _, _, _, Nat.zero_le _, Nat.zero_le _, rfl, HR0, HLV, HTT, hide (by rw [List.take_zero]; exact Hel.none)⟩
        case round =>
          clear HLV HTT HSZ HR0
          obtain ⟨k, j, x, S, o', i', b', O, hj, hk, rfl, HR, HLV, HTT, HAl⟩ := hrel
          obtain ⟨y1, y4, rfl, -⟩ := HLV.out.ls.so
          obtain ⟨y2, y5, rfl, -⟩ := HLV.out.ls.si
          obtain ⟨y3, y6, rfl, -⟩ := HLV.out.ls.sb
          obtain ⟨f1, f2, f3, f4⟩ := HLf.out
          obtain ⟨aa, ac, h0⟩ := HAl.out.slice
          rw [List.length_take, show min k l.length = k by omega] at h0
          subst h0
          have HSZ := hide HTT.out.size
          obtain ⟨m, hm1, hm2, hm3, hm4, hm5, hm6, -⟩ := HR.out.until 10 N HN1.out.1 HN1.out.2
          have hp := lget_any (rdr_raw g) (fun s => gmem_o g s) (bears_true rdR) _ _ _ _ _ _ (N : Int) HLV.out.ls HLV.out.raw HLV.out.ol trivial HR.out.lens.1 HR.out.lens.2.1 HR.out.lens.2.2
          generalize x.until rdR S 10 N = q at *
          obtain ⟨x', acc, E, S'⟩ := q
          simp only at hp hm1 hm2 hm6
          have hacl : acc.length = m := by rw [hm1, List.length_take, List.length_drop]; omega
          obtain rfl := hacl.symm
          have hget : ∀ j, j < acc.length → acc.getD j 0 = l.getD (k + j) 0 := fun j hj => by
            rw [hm1, List.getD_eq_getElem?_getD, List.getD_eq_getElem?_getD, List.getElem?_take_of_lt hj, List.getElem?_drop]
          have HCat : Hid (l.take k ++ acc = l.take (k + acc.length)) := hide (by conv => lhs; rw [hm1]
                                                                                  rw [← List.take_add])
          have HRn := hide hm2
          have HP := hide hp
          obtain ⟨g1, g2, g3⟩ := hm6 (by omega)
          subst g2
          have hend : acc.getD (acc.length - 1) 0 = 10 → k + acc.length = p.length + 1 := fun e => by
            rw [hget _ (by omega)] at e
            have h1 : ¬ k + (acc.length - 1) < p.length := fun e2 => HC2.out _ e2 (by rw [← f3 _ e2]; exact e)
            have h2 : ¬ p.length < k + (acc.length - 1) := fun e2 => hm5 (p.length - k) (by omega) (by rw [show k + (p.length - k) = p.length by omega]; exact f2)
            omega
          have hgo : acc.getD (acc.length - 1) 0 ≠ 10 → k + acc.length ≤ p.length := fun e => by
            rw [hget _ (by omega)] at e
            by_cases h1 : k + acc.length ≤ p.length
            · exact h1
            · exfalso
              by_cases h2 : p.length = k + (acc.length - 1)
              · exact e (by rw [← h2]; exact f2)
              · exact hm5 (p.length - k) (by omega) (by rw [show k + (p.length - k) = p.length by omega]; exact f2)
          have HE1 := hide hend
          have HE2 := hide hgo
          have HF4 := hide f4
          have hkl : k ≤ l.length := by omega
          clear hp hm1 hm2 hm5 hm6 hget hacl g3 hend hgo f2 f3 f4
          obtain ⟨c0, c1, c2, c3, c4, c5, c6, c7, c8, c9, c10⟩ := HLV.out.st.cs
          go_wp2_with fail
          clear c0 c1 c2 c3 c4 c5 c6 c7 c8 c9 c10
          refine HP.out.mono ?_
          rintro _ w5 ⟨o', i', b', uu, rfl, hS⟩
          obtain ⟨a1, a4, rfl, -⟩ := hS.choose_spec.1.1.so
          obtain ⟨a2, a5, rfl, -⟩ := hS.choose_spec.1.1.si
          obtain ⟨a3, a6, rfl, -⟩ := hS.choose_spec.1.1.sb
          obtain ⟨u1, u2, rfl⟩ := owns_slice hS.choose_spec.2.1
          obtain ⟨hst, ht, O5, hl, hu, hk⟩ := LV.nextG (fun s => gmem_o g s) HLV.out HSZ.out (hS.below (fun s => gmem_o g s) (recv_below w5 (Obj.cells #[.bool x'.rd, .bool x'.wt, .int .i64 x'.mode, .int .i64 x'.size, .slice a1 x'.out.length a4, .slice a2 x'.inn.length a5, .slice a3 x'.back.length a6, .int .i64 x'.dir, .bool x'.fin, .bool x'.bad, .bool x'.closed] 29)))
          simp only at hl hu ht hk
          have HLn := hide hl
          have HTn := hide (HTT.out.trans ht (fun _ _ e => e))
          have HU := hide hu
          have HOff := hide (hk _ _ HAl.out).2
          have HAl := hide (hk _ _ HAl.out).1
          obtain ⟨c0, c1, c2, c3, c4, c5, c6, c7, c8, c9, c10⟩ := hst.cs
          have f0 := hst.soft 0
          have f1 := hst.soft 1
          have f2 := hst.soft 2
          have f3 := hst.soft 3
          have f4 := hst.soft 4
          have f5 := hst.soft 5
          have f6 := hst.soft 6
          have f7 := hst.soft 7
          have f8 := hst.soft 8
          have f9 := hst.soft 9
          have f10 := hst.soft 10
          clear hS hst hl ht hu hk HP
          unfold filled at HLn HTn HU HAl
          go_upto_region 19 with fail
          generalize ((((((((((((w5.alloc (Obj.cells #[.bool x'.rd, .bool x'.wt, .int .i64 x'.mode, .int .i64 x'.size, .slice a1 x'.out.length a4, .slice a2 x'.inn.length a5, .slice a3 x'.back.length a6, .int .i64 x'.dir, .bool x'.fin, .bool x'.bad, .bool x'.closed] 29)).setCell ⟨gv, 0, none⟩ (.bool x'.rd)).setCell ⟨gv, 1, none⟩ (.bool x'.wt)).setCell ⟨gv, 2, none⟩ (.int .i64 x'.mode)).setCell ⟨gv, 3, none⟩ (.int .i64 x'.size)).setCell ⟨gv, 4, none⟩ (.slice a1 x'.out.length a4)).setCell ⟨gv, 5, none⟩ (.slice a2 x'.inn.length a5)).setCell ⟨gv, 6, none⟩ (.slice a3 x'.back.length a6)).setCell ⟨gv, 7, none⟩ (.int .i64 x'.dir)).setCell ⟨gv, 8, none⟩ (.bool x'.fin)).setCell ⟨gv, 9, none⟩ (.bool x'.bad)).setCell ⟨gv, 10, none⟩ (.bool x'.closed)) = w6 at *
          clear c0 c1 c2 c3 c4 c5 c6 c7 c8 c9 c10 f0 f1 f2 f3 f4 f5 f6 f7 f8 f9 f10 HLV HTT HSZ
          have HLV := HLn
          have HTT := HTn
          have HSZ := hide HTT.out.size
          clear HLn HTn
          obtain ⟨-, qb, qo, rfl, hqb, hcell⟩ := bys_block HU.out.bys g1
          have d1 := hcell (acc.length - 1) (by omega)
          clear hcell hqb
          have hN2 := HN1.out.2
          have b1 : ((acc.length : Int) == 0) = false := by rw [beq_eq_false_iff_ne]; omega
          have b3 : ¬ (acc.length : Int) = 0 := by omega
          have e3 : wrap64 ((acc.length : Int) - 1) = ((acc.length - 1 : Nat) : Int) := by unfold wrap64; omega
          have e4 : ((acc.length - 1 : Nat) : Int) < (acc.length : Int) := by omega
          have e4' : acc.length - 1 < acc.length := by omega
          have e5 := lu8_eq (acc.getD (acc.length - 1) 0) 10
          have hap := HX.out.below (HTT.out.below (B := w.heap.size) (fun _ e => e) (Nat.le_refl _))
          obtain ⟨s', w7, hr, HO', hg', hwhere⟩ := run_append_bytes w6 22 w.heap.size (.slice aa k ac) (.slice (some ⟨qb, qo, none⟩) acc.length u2) (l.take k) acc HAl.out.own HU.out.bys (by rw [List.length_take]; omega) HSZ.out
          obtain ⟨hLn, hHn⟩ := LV.grown (fun s => gmem_o g s) HLV.out HAl.out hg' HO'.out hwhere
          have HTn := hide (HTT.out.grown hg' (fun k e => .inl (HAl.out.lt k e).1))
          obtain ⟨na, nc, h0⟩ := hHn.slice
          rw [List.length_append, List.length_take, show min k l.length = k by omega] at h0
          subst h0
          have HLn := hide hLn
          have HHn := hide hHn
          have HAp := hide hr
          have hcap : k + acc.length ≤ nc := by
            have h9 := HO'.out
            rw [List.length_append, List.length_take, show min k l.length = k by omega] at h9
            exact owns_cap h9
          have d1n : w7.cell? ⟨qb, qo + (acc.length - 1), none⟩ = _ := ((Turned.refl (fun kk => (Value.slice aa k ac).ownBlock = some kk) w6).grown hg' (fun kk e => .inl e)).cell d1 (fun e => HOff.out _ e rfl)
          clear hr HO' hg' hwhere hLn hHn
          generalize acc.getD (acc.length - 1) 0 = ch at *
          by_cases hc : ch = 10
          · have hkk := HE1.out hc
            subst hc
            have d1m : w7.cell? ⟨qb, qo + (acc.length - 1), none⟩ = some (.int .u8 10) := d1n
            have hA := HHn.out.bys
            have hlen : (l.take k ++ acc).length = p.length + 1 := by rw [List.length_append, List.length_take]; omega
            have hB := hA
            rw [show k + acc.length = (l.take k ++ acc).length by rw [hlen, hkk]] at hB
            have hC := bys_first15 hB p.length (by omega)
            rw [HCat.out, hkk, List.take_take, show min p.length (p.length + 1) = p.length by omega, HF4.out] at hC
            have HSm := hide (same_any _ _ p w7 hC (HX.out.below (HTn.out.below (B := w.heap.size) (fun _ e => e) (Nat.le_refl _))) (by unfold maxLen; omega))
            have hq1 : (p.length : Int) ≤ (nc : Int) := by omega
            have hq2 : (0 : Int) ≤ (p.length : Int) := by omega
            obtain ⟨n', hn'⟩ : ∃ n', n' = k + acc.length := ⟨_, rfl⟩
            rw [← hn'] at HAp
            have e6 : ((n' : Int) == (p.length : Int) + 1) = true := by rw [beq_iff_eq]; omega
            clear hn'
            clear hA hB hC hlen hcap d1 d1n e5 HE1 HE2 hkk HHn HLn HRn HCat
            go_wp2_with (first | (go_at_call 9; refine (num15 _ _).mono ?_; rintro _ _ ⟨rfl, rfl⟩) | (at_builtin; refine Lib.wpList_append_run _ rfl _ _ _ _ rfl _ _ rfl rfl _ _ HAp.out ?_) | (go_at_call 11; refine HSm.out.mono ?_; rintro _ w9 ⟨rfl, hB9⟩) | fail)
            go_ret
            exact ⟨rfl, (HTn.out.below (B := w.heap.size) (fun _ e => e) (Nat.le_refl _)).trans (hB9.mono HTn.out.size)⟩
          · have hkk := HE2.out hc
            rw [decide_eq_false hc] at e5
            have e6 : ((ch.toNat : Int) == 10) = false := e5
            clear hc HE1 HE2 hcap d1 e5
            go_wp2_with (first | (go_at_call 9; refine (num15 _ _).mono ?_; rintro _ _ ⟨rfl, rfl⟩) | (at_builtin; refine Lib.wpList_append_run _ rfl _ _ _ _ rfl _ _ rfl rfl _ _ HAp.out ?_) | fail)
            go_roundw
            case rel => exact ⟨k + acc.length, j + 1, x', S', _, _, _, O5, by omega, hkk, by go_num, HRn, HLn, HTn, by rw [← HCat.out]; exact HHn⟩
            case measure => simp [intOf]; omega
theorem lgrow_fr15 (pa : Option Addr) (pn pc : Nat) (p : List UInt8) (ra : Option Addr) (rn rc : Nat) (r : List UInt8) (lim mode size : Int) (w : World) (hX : Bys w (.slice pa pn pc) p) (hY : Bys w (.slice ra rn rc) r) (hXl : p.length + r.length ≤ 140737488000000) :
    Calls Try.prog 5 #[.slice pa pn pc, .slice ra rn rc, .int .i64 lim, .int .i64 mode, .int .i64 size] w fun e w' => e = .returned (.bool true) ∧ Below w.heap.size w w' := by
  obtain rfl := bys_len15 hX
  obtain rfl := bys_len15 hY
  exact lgrow_any15 pa pc p ra rc r lim mode size w hX hY hXl
end Go.Proofs.Ytmogciopaffccaa

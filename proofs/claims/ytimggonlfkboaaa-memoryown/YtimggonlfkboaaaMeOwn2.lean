/- MemoryOwn, walked. -/
import Derived.Test.YtimggonlfkboaaaMeOwn
import Derived.Test.YtimggonlfkboaaaKpTurn
namespace Go.Proofs.Ytimggonlfkboaaa
open Go.RowKit

theorem void_at (w : World) (t : TypeId) : Void (w.alloc (Obj.cells #[.pointer none, .int .i64 0, .int .i64 0] t)) w.heap.size := by
  refine ⟨?_, ?_, ?_⟩
  · simp only [World.cell?, heap_alloc_new]; rfl
  · simp only [World.cell?, heap_alloc_new]; rfl
  · simp only [World.frozen?, heap_alloc_new]; rfl
theorem Void.below {w w' : World} {g : Nat} (h : Void w g) (hB : Below w.heap.size w w') : Void w' g := h.other (hB.block g (World.block_lt_of_cell? w _ h.c0))
set_option maxRecDepth 100000 in
set_option maxHeartbeats 4000000 in
theorem mown_any (v : Value) (l : List UInt8) (w : World) (h : Bys w v l) (hs : l.length ≤ 140737488351232) :
    Calls Try.prog 6 #[v] w fun e w' => e = .returned (.bool true) ∧ Below w.heap.size w w' := by
  have H0 := hide h
  obtain ⟨a1, c1, rfl, -⟩ := bys_form h
  clear h
  go_enter Try.func6, Try.ntmps6
  go_wp2_with fail
  refine (malive_any _).mono ?_
  rintro _ w1 ⟨rfl, hB1⟩
  have HB1 := hide hB1
  clear hB1
  go_wp2_with fail
  refine (nothing_nil _).mono ?_
  rintro _ _ ⟨rfl, rfl⟩
  go_wp2_with fail
  have v1 := void_at w1 71
  have hb1 := recv4 w1 (Obj.cells #[.pointer none, .int .i64 0, .int .i64 0] 71)
  have hs1 : (w1.alloc (Obj.cells #[.pointer none, .int .i64 0, .int .i64 0] 71)).heap.size = w1.heap.size + 1 := by simp
  generalize w1.alloc (Obj.cells #[.pointer none, .int .i64 0, .int .i64 0] 71) = x1 at *
  have v2 := void_at x1 72
  have hb2 := recv4 x1 (Obj.cells #[.pointer none, .int .i64 0, .int .i64 0] 72)
  have hs2 : (x1.alloc (Obj.cells #[.pointer none, .int .i64 0, .int .i64 0] 72)).heap.size = w1.heap.size + 1 + 1 := by simp [hs1]
  rw [hs1] at v2
  generalize x1.alloc (Obj.cells #[.pointer none, .int .i64 0, .int .i64 0] 72) = x2 at *
  have v3 := void_at x2 73
  have hb3 := recv4 x2 (Obj.cells #[.pointer none, .int .i64 0, .int .i64 0] 73)
  have hs3 : (x2.alloc (Obj.cells #[.pointer none, .int .i64 0, .int .i64 0] 73)).heap.size = w1.heap.size + 1 + 1 + 1 := by simp [hs2]
  rw [hs2] at v3
  generalize x2.alloc (Obj.cells #[.pointer none, .int .i64 0, .int .i64 0] 73) = x3 at *
  have v4 : (x3.alloc (Obj.cells #[.bool false, .slice none 0 0, .slice none 0 0, .slice none 0 0] 75)).cell? ⟨w1.heap.size + 1 + 1 + 1, 0, none⟩ = some (.bool false) := by rw [← hs3]; simp only [World.cell?, heap_alloc_new]; rfl
  have hb4 := recv4 x3 (Obj.cells #[.bool false, .slice none 0 0, .slice none 0 0, .slice none 0 0] 75)
  generalize x3.alloc (Obj.cells #[.bool false, .slice none 0 0, .slice none 0 0, .slice none 0 0] 75) = x4 at *
  have hb14 : Below w1.heap.size w1 x4 := hb1.trans ((hb2.trans ((hb3.trans (hb4.mono (by omega))).mono (by omega))).mono (by omega))
  refine (nothing_void w1.heap.size _ _ _ _ x4 (((v1.below hb2).below hb3).below hb4) ((v2.below hb3).below hb4) (v3.below hb4) v4 (by omega) (by omega) (by omega) (by omega) (by omega) (by omega) (by omega) (by omega) (by omega)).mono ?_
  rintro _ w2 ⟨rfl, hT2⟩
  have HB2 := hide (HB1.out.trans ((hb14.trans (hT2.below (fun _ e => e) hb14.size)).mono HB1.out.size))
  clear v1 v2 v3 v4 hb1 hb2 hb3 hb4 hs1 hs2 hs3 hb14 hT2
  go_wp2_with fail
  refine (copy_any _ l w2 (H0.out.below HB2.out) hs).mono ?_
  rintro _ w3 ⟨ov, rfl, ho3, hB3⟩
  have HO3 := hide ho3
  have HB3 := hide (HB2.out.trans (hB3.mono HB2.out.size))
  obtain ⟨oa, oc, rfl⟩ := owns_slice ho3
  have hz3 := hB3.size
  have H23 := hide hB3
  clear ho3 hB3
  by_cases hl : 1048576 < l.length
  · go_wp2_with fail
    refine (newGrowing_long _ l _ (Bys.of_owns HO3.out) hl).mono ?_
    rintro _ w4 ⟨rfl, hB4⟩
    go_wp2_with (first | (go_at_call 17; refine (num_me _ _).mono ?_; rintro _ _ ⟨rfl, rfl⟩) | fail)
    go_ret
    exact ⟨rfl, HB3.out.trans (hB4.mono HB3.out.size)⟩
  go_wp2_with fail
  refine (newGrowing_good _ l _ (Bys.of_owns HO3.out) (by omega)).mono ?_
  rintro _ w4 ⟨g, rfl, hG, hB4⟩
  have HG := hide hG
  have HB4 := hide hB4
  clear hG hB4
  go_wp2_with (first | (go_at_call 17; refine (num_me _ _).mono ?_; rintro _ _ ⟨rfl, rfl⟩) | fail)
  refine (newReader_good _ l _ ((Bys.of_owns HO3.out).below HB4.out) (by omega)).mono ?_
  rintro _ w5 ⟨r, rfl, hR, hB5⟩
  have hz4 := HB4.out.size
  have hz5 := hB5.size
  have HP : Hid (Both (fun w O => MemAt w O g ⟨l, 1048576, 0⟩) (fun w O => MemAt w O r ⟨l, l.length, 0⟩) w5 (fun j => w3.heap.size ≤ j)) :=
    hide (Both.make (mem_o _ _) (mem_o _ _) HG.out (fun j e _ => e) (fun j e _ => by show w3.heap.size ≤ j; omega) hB5 hR)
  have HB35 := hide (HB4.out.trans (hB5.mono hz4))
  have HO5 := hide (owns_below HO3.out HB35.out)
  have HL := hide fun k hk => (HO3.out.lt k hk)
  clear HG HO3 hR hB5 HB4
  go_wp2_with fail
  refine (Kp_spoil_turn _ _ _ _ w5 HO5.out (Kp_bv_ints l) (by unfold maxLen; omega)).mono ?_
  rintro _ w6 ⟨rfl, hT6⟩
  have hz6 := hT6.size
  have HP6 : Hid (Both (fun w O => MemAt w O g ⟨l, 1048576, 0⟩) (fun w O => MemAt w O r ⟨l, l.length, 0⟩) w6 (fun j => w3.heap.size ≤ j)) := hide (by
    obtain ⟨O, P, p1, p2, p3, p4⟩ := HP.out
    refine ⟨O, P, p1.keep (fun j e hl => hT6.block j hl (fun e' => by have := (HL.out j e').2; have e3 : w3.heap.size ≤ j := (p3 j e).1; omega)), p2.keep (fun j e hl => hT6.block j hl (fun e' => by have := (HL.out j e').2; have e3 : w3.heap.size ≤ j := (p4 j e).1; omega)), fun j e => ⟨(p3 j e).1, by have := (p3 j e).2.1; omega, (p3 j e).2.2⟩, fun j e => ⟨(p4 j e).1, by have := (p4 j e).2; omega⟩⟩)
  have HB6 : Hid (Below w2.heap.size w2 w6) := hide (by
    exact (H23.out.trans (HB35.out.mono hz3)).trans (hT6.below (fun k e => (HL.out k e).1) (by omega)))
  clear HP HO5 hT6 HB35
  go_wp2_with fail
  obtain ⟨O, P, p1, p2, p3, p4⟩ := HP6.out
  refine (gmbytes_any O g _ w6 p1).mono ?_
  rintro _ w7 ⟨xv, rfl, ho7, hB7⟩
  have HP7 := hide (HP6.out.below (mem_o _ _) (mem_o _ _) hB7)
  have HO7 := hide ho7
  have HB7 := hide (HB6.out.trans (hB7.mono HB6.out.size))
  have hz7 := hB7.size
  clear p1 p2 p3 p4 ho7 hB7 HP6
  go_wp2_with fail
  refine (Kp_spoil_turn _ _ _ _ w7 HO7.out (Kp_bv_ints l) (by unfold maxLen; omega)).mono ?_
  rintro _ w8 ⟨rfl, hT8⟩
  have hz8 := hT8.size
  have HP8 : Hid (Both (fun w O => MemAt w O g ⟨l, 1048576, 0⟩) (fun w O => MemAt w O r ⟨l, l.length, 0⟩) w8 (fun j => w3.heap.size ≤ j)) := hide (by
    obtain ⟨O, P, p1, p2, p3, p4⟩ := HP7.out
    refine ⟨O, P, p1.keep (fun j e hl => hT8.block j hl (fun e' => by have h1 := HO7.out.lt j e'; rcases (p3 j e).1.2 with e3 | e3 <;> omega)), p2.keep (fun j e hl => hT8.block j hl (fun e' => by have h1 := HO7.out.lt j e'; rcases (p4 j e).1.2 with e3 | e3 <;> omega)), fun j e => ⟨(p3 j e).1.1, by have := (p3 j e).2.1; omega, (p3 j e).2.2⟩, fun j e => ⟨(p4 j e).1.1, by have := (p4 j e).2; omega⟩⟩)
  have HB8 := hide (HB7.out.trans (hT8.below (B := w2.heap.size) (fun k e => by have := (HO7.out.lt k e).1; omega) (by omega)))
  clear HP7 HO7 hT8
  go_wp2_with (first | (go_at_call 17; refine (num_me _ _).mono ?_; rintro _ _ ⟨rfl, rfl⟩) | fail)
  obtain ⟨P, p1, p2, -, p3⟩ := HP8.out.two (mem_o _ _)
  refine (rmread_any P r ⟨l, l.length, 0⟩ (l.length : Int) w8 p1).mono ?_
  rintro _ w9 ⟨yv, rfl, ho9, hM9, hT9⟩
  have hrd : (⟨l, l.length, 0⟩ : MS).read (l.length : Int) = (l, 0, ⟨l, l.length, l.length⟩) := by
    unfold MS.read
    rw [if_pos (inR_yes (by omega) (by omega)), Int.toNat_natCast]
    simp [piece]
  rw [hrd] at ho9 hM9 ⊢
  obtain ⟨HPn, hT9'⟩ := p3 (fun w O => MemAt w O r ⟨l, l.length, l.length⟩) w9 hM9 hT9
  have HP9 := hide HPn
  have HO9 := hide ho9
  have hz9 := hT9.size
  have HB9 := hide (HB8.out.trans (hT9'.below (B := w2.heap.size) (fun k e => by have e3 : w3.heap.size ≤ k := e; omega) (by omega)))
  obtain ⟨ya, yc, rfl⟩ := owns_slice ho9
  clear p1 p2 p3 hM9 hT9 hT9' HPn ho9 HP8 hrd
  go_wp2_with fail
  have hBa := recv4 w9 (Obj.cells #[.int .u8 1] 5)
  have HBa := hide (HB9.out.trans (hBa.mono HB9.out.size))
  have HPa := hide (HP9.out.below (mem_o _ _) (mem_o _ _) hBa)
  have HOa := hide (owns_below HO9.out hBa)
  clear hBa HP9 HO9
  generalize w9.alloc (Obj.cells #[.int .u8 1] 5) = wa at *
  obtain ⟨P2, t1, -⟩ := HPa.out.two (mem_o _ _)
  obtain ⟨O2, t2, -⟩ := HPa.out.one (mem_o _ _)
  refine (rmwrite_any P2 r _ _ wa t1).mono ?_
  rintro _ _ ⟨rfl, rfl⟩
  have Ht2 := hide t2
  have HBw := hide (HB2.out.trans (HBa.out.mono HB2.out.size))
  clear t1 t2 HPa
  go_wp2_with (first | (go_at_call 17; refine (num_me _ _).mono ?_; rintro _ _ ⟨rfl, rfl⟩) | fail)
  refine (same_any _ _ l wa (Bys.of_owns HOa.out) (H0.out.below HBw.out) (by unfold maxLen; omega)).mono ?_
  rintro _ wb ⟨rfl, hBb⟩
  have HBb := hide hBb
  clear hBb
  go_wp2_with (first | (go_at_call 17; refine (num_me _ _).mono ?_; rintro _ _ ⟨rfl, rfl⟩) | fail)
  refine (gmbytes_any O2 g _ wb (Ht2.out.below HBb.out)).mono ?_
  rintro _ wc ⟨zv, rfl, hoc, hBc⟩
  have HOc := hide hoc
  have HBc := hide hBc
  clear hoc hBc
  go_wp2_with fail
  have HBwc := hide (HBw.out.trans ((HBb.out.trans (HBc.out.mono HBb.out.size)).mono HBw.out.size))
  refine (same_any _ _ l wc (Bys.of_owns HOc.out) (H0.out.below HBwc.out) (by unfold maxLen; omega)).mono ?_
  rintro _ wd ⟨rfl, hBd⟩
  go_wp2
  go_ret
  exact ⟨rfl, HBwc.out.trans (hBd.mono HBwc.out.size)⟩
end Go.Proofs.Ytimggonlfkboaaa

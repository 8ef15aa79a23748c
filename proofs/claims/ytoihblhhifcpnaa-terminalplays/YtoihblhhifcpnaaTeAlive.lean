/- The statements' own example holds: alive answers true; terminals that no call made. -/
import Derived.Test.YtoihblhhifcpnaaTeWrite
import Derived.Lib.SlBytesConst
namespace Go.Proofs.Ytoihblhhifcpnaa
open Go.RowKit

set_option maxHeartbeats 1000000 in
theorem num_any (x : Int) (w : World) :
    Calls Try.prog 10 #[.int .i64 x] w fun e w' => e = .returned (.int .i64 x) ∧ w' = w := by
  go_enter Try.func10, Try.ntmps10
  go_wp2
  go_ret
  exact ⟨rfl, rfl⟩

theorem lit_bys (w : World) (l : List UInt8) (cs : Array Value) (n g : Nat) (fr : Nat × Nat) (hg : g = w.heap.size) (hn : n = l.length) (hcs : cs.toList = l.map bv) : Bys (w.alloc (Obj.cells cs 5 fr)) (.slice (some ⟨g, 0, none⟩) n n) l := by
  subst hn
  subst hg
  by_cases h0 : l.length = 0
  · exact .inr (.inl ⟨_, _, by rw [h0], List.length_eq_zero_iff.1 h0⟩)
  · refine .inr (.inr ⟨w.heap.size, 0, l.length, rfl, by omega, fun j hj => ?_⟩)
    rw [cell_of_row _ w.heap.size _ cs _ fr (heap_alloc_new w _)]
    have h1 : cs.toList[0 + j]? = (l.map bv)[j]? := by rw [hcs, Nat.zero_add]
    rw [Array.getElem?_toList] at h1
    rw [h1]
    simp [List.getD_eq_getElem?_getD, List.getElem?_eq_getElem hj, bv]

set_option maxRecDepth 100000 in
set_option maxHeartbeats 2000000 in
theorem nothing_any (pv : Value) (w : World) (hm : Calls Try.prog 25 #[pv] w fun e w' => e = .returned (.bool false) ∧ w' = w) :
    Calls Try.prog 21 #[pv] w fun e w' => e = .returned (.bool true) ∧ w' = w := by
  have HM := hide hm
  have hR : Calls Try.prog 11 #[pv, .int .i64 1] w fun e w' => e = .returned (.tuple #[.slice none 0 0, .int .i64 2]) ∧ w' = w := by
    clear hm
    go_enter Try.func11, Try.ntmps11
    go_wp2_with fail
    refine HM.out.mono ?_
    rintro e w1 ⟨rfl, rfl⟩
    go_wp2
    go_ret2
    exact ⟨rfl, rfl⟩
  have hW : Calls Try.prog 14 #[pv, .slice none 0 0] w fun e w' => e = .returned (.int .i64 2) ∧ w' = w := by
    clear hm
    go_enter Try.func14, Try.ntmps14
    go_wp2_with fail
    refine HM.out.mono ?_
    rintro e w1 ⟨rfl, rfl⟩
    go_wp2
    go_ret
    exact ⟨rfl, rfl⟩
  have hS : Calls Try.prog 18 #[pv] w fun e w' => e = .returned (.int .i64 0) ∧ w' = w := by
    clear hm
    go_enter Try.func18, Try.ntmps18
    go_wp2_with fail
    refine HM.out.mono ?_
    rintro e w1 ⟨rfl, rfl⟩
    go_wp2
    go_ret
    exact ⟨rfl, rfl⟩
  have hB : Calls Try.prog 19 #[pv] w fun e w' => e = .returned (.slice none 0 0) ∧ w' = w := by
    clear hm
    go_enter Try.func19, Try.ntmps19
    go_wp2_with fail
    refine HM.out.mono ?_
    rintro e w1 ⟨rfl, rfl⟩
    go_wp2
    go_ret
    exact ⟨rfl, rfl⟩
  have hC : Calls Try.prog 17 #[pv] w fun e w' => e = .returned (.pointer none) ∧ w' = w := by
    clear hm
    go_enter Try.func17, Try.ntmps17
    go_wp2_with fail
    refine HM.out.mono ?_
    rintro e w1 ⟨rfl, rfl⟩
    go_wp2
    go_ret
    exact ⟨rfl, rfl⟩
  have HR := hide hR
  have HW := hide hW
  have HS := hide hS
  have HB := hide hB
  have HC := hide hC
  clear hm hR hW hS hB hC HM
  go_enter Try.func21, Try.ntmps21
  go_wp2_with fail
  refine HR.out.mono ?_
  rintro e w1 ⟨rfl, rfl⟩
  go_wp2_with fail
  refine (num_any _ _).mono ?_
  rintro e w2 ⟨rfl, rfl⟩
  go_wp2_with fail
  refine HW.out.mono ?_
  rintro e w3 ⟨rfl, rfl⟩
  go_wp2_with fail
  refine (num_any _ _).mono ?_
  rintro e w2 ⟨rfl, rfl⟩
  go_wp2_with fail
  refine HS.out.mono ?_
  rintro e w3 ⟨rfl, rfl⟩
  go_wp2_with fail
  refine HB.out.mono ?_
  rintro e w3 ⟨rfl, rfl⟩
  go_wp2_with fail
  refine HC.out.mono ?_
  rintro e w4 ⟨rfl, rfl⟩
  go_wp2
  go_ret
  exact ⟨rfl, rfl⟩

/-- The lines of the example. -/
def exL : List (List UInt8) := [[97, 98, 10], [], [99]]
theorem ex_e : newE exL = 0 := by decide
theorem ex_lns (w : World) (a b g : Nat) (cs : Array Value) (hg : g = w.heap.size) (h1 : Bys w (.slice (some ⟨a, 0, none⟩) 3 3) [97, 98, 10]) (h2 : Bys w (.slice (some ⟨b, 0, none⟩) 1 1) [99]) (hcs : cs = #[.slice (some ⟨a, 0, none⟩) 3 3, .slice none 0 0, .slice (some ⟨b, 0, none⟩) 1 1]) :
    Lns (w.alloc (Obj.cells cs 33)) (.slice (some ⟨g, 0, none⟩) 3 3) exL := by
  subst hcs
  subst hg
  have hBa : Below w.heap.size w (w.alloc (Obj.cells #[.slice (some ⟨a, 0, none⟩) 3 3, .slice none 0 0, .slice (some ⟨b, 0, none⟩) 1 1] 33)) := (Below.refl _ _).alloc (Nat.le_refl _) _
  refine ⟨_, 3, rfl, fun _ => ⟨w.heap.size, 0, rfl, fun j hj => ?_⟩⟩
  simp only [World.cell?, heap_alloc_new]
  have : j = 0 ∨ j = 1 ∨ j = 2 := by simp [exL] at hj; omega
  rcases this with rfl | rfl | rfl
  · exact ⟨_, _, rfl, h1.below hBa⟩
  · exact ⟨_, _, rfl, .inl ⟨rfl, rfl⟩⟩
  · exact ⟨_, _, rfl, h2.below hBa⟩

/-- A literal's bytes, turned to their own type. -/
theorem conv_lit (w : World) (C : Array Value) (n g m : Nat) (hg : g = w.heap.size) (hm : C.size = m) : (convert 33 33 (.slice (some ⟨g, 0, none⟩) n n)).run Try.prog (w.alloc (.cells C 5)) = .ok (.slice (some ⟨g, 0, none⟩) n n) (w.alloc (.cells C 5 (m, m + 1))) := by
  subst hg
  subst hm
  exact Lib.run_convert_bytes_const w 33 5 C n n Try.underlying33 Try.underlying5
/-- A read of the example. -/
theorem ex_read (B t : Nat) (O : Nat → Prop) (ls ls' : List (List UInt8)) (x : List UInt8) (n : Nat) (w : World) (h : PTerm w B t O ls []) (hn1 : 1 ≤ n) (hn : n ≤ 1048576) (h1 : headL ls n = x) (h2 : restL ls n = ls') :
    Calls Try.prog 11 #[.pointer (some ⟨t, 0, none⟩), .int .i64 n] w fun e w' => ∃ a c, e = .returned (.tuple #[.slice a x.length c, .int .i64 0]) ∧ Hid (w'.ownsRow w.heap.size 5 1 (.slice a x.length c) x.length (x.map bv)) ∧ Hid (PTerm w' B t O ls' []) ∧ Turned O w w' := by
  refine (read_good B t O ls [] n w h hn1 hn).mono ?_
  rintro e w' ⟨v, rfl, h3, h4, h5⟩
  rw [h1] at h3
  rw [h2] at h4
  obtain ⟨a, c, rfl⟩ := owns_slice h3
  exact ⟨a, c, rfl, h3, h4, h5⟩

set_option maxRecDepth 100000 in
set_option maxHeartbeats 4000000 in
theorem alive_any (w : World) : Calls Try.prog 20 #[] w fun e w' => e = .returned (.bool true) ∧ Below w.heap.size w w' := by
  have c1 := conv_lit w #[.int .u8 97, .int .u8 98, .int .u8 10] 3 w.heap.size 3 rfl rfl
  have c2 := conv_lit (w.alloc (.cells #[.int .u8 97, .int .u8 98, .int .u8 10] 5 (3, 3 + 1))) #[.int .u8 99] 1 (w.heap.size + 1) 1 (by simp) rfl
  simp only [Nat.reduceAdd] at c1 c2
  go_enter Try.func20, Try.ntmps20
  go_wp2_with fail
  have hBa : Below w.heap.size w (w.alloc (Obj.cells #[.int .u8 97, .int .u8 98, .int .u8 10] 5 (3, 4))) := (Below.refl _ _).alloc (Nat.le_refl _) _
  have hb1 := lit_bys w [97, 98, 10] #[.int .u8 97, .int .u8 98, .int .u8 10] 3 w.heap.size (3, 4) rfl rfl rfl
  have hs1 : (w.alloc (Obj.cells #[.int .u8 97, .int .u8 98, .int .u8 10] 5 (3, 4))).heap.size = w.heap.size + 1 := by simp
  generalize w.alloc (Obj.cells #[.int .u8 97, .int .u8 98, .int .u8 10] 5 (3, 4)) = w1 at *
  have hb2 := lit_bys w1 [99] #[.int .u8 99] 1 (w.heap.size + 1) (1, 2) hs1.symm rfl rfl
  have hBb : Below w1.heap.size w1 (w1.alloc (Obj.cells #[.int .u8 99] 5 (1, 2))) := (Below.refl _ _).alloc (Nat.le_refl _) _
  have hb1' := hb1.below hBb
  have hs2 : (w1.alloc (Obj.cells #[.int .u8 99] 5 (1, 2))).heap.size = w.heap.size + 1 + 1 := by simp [hs1]
  generalize w1.alloc (Obj.cells #[.int .u8 99] 5 (1, 2)) = w2 at *
  have HL := hide (ex_lns w2 w.heap.size (w.heap.size + 1) (w.heap.size + 1 + 1) #[.slice (some ⟨w.heap.size, 0, none⟩) 3 3, .slice none 0 0, .slice (some ⟨w.heap.size + 1, 0, none⟩) 1 1] hs2.symm hb1' hb2 rfl)
  have hBc : Below w2.heap.size w2 (w2.alloc (Obj.cells #[.slice (some ⟨w.heap.size, 0, none⟩) 3 3, .slice none 0 0, .slice (some ⟨w.heap.size + 1, 0, none⟩) 1 1] 33)) := (Below.refl _ _).alloc (Nat.le_refl _) _
  generalize w2.alloc (Obj.cells #[.slice (some ⟨w.heap.size, 0, none⟩) 3 3, .slice none 0 0, .slice (some ⟨w.heap.size + 1, 0, none⟩) 1 1] 33) = w3 at *
  have hB3 : Below w.heap.size w w3 := (hBa.trans (hBb.mono hBa.size)).trans (hBc.mono (by omega))
  clear hb1 hb2 hb1' hBa hBb hBc c1 c2 hs1 hs2
  refine (new_good _ exL _ HL.out ex_e).mono ?_
  rintro e w4 ⟨t, O, rfl, hP4, hB4⟩
  have hB04 := hB3.trans (hB4.mono hB3.size)
  have H4 := hide hP4
  have HO4 := hide hP4.lt
  have hz3 := hB3.size
  generalize w3.heap.size = B at *
  clear HL hP4 hB4 hB3
  go_wp2_with fail
  refine (num_any 0 _).mono ?_
  rintro e w5 ⟨rfl, rfl⟩
  go_wp2_with fail
  refine (ex_read B t O exL [[10], [], [99]] [97, 98] 2 _ H4.out (by decide) (by decide) rfl rfl).mono ?_
  rintro e w6 ⟨a6, c6, rfl, O6, H6, hT6⟩
  clear H4
  go_wp2_with fail
  refine (ex_read B t O _ [[], [99]] [10] 9 _ H6.out (by decide) (by decide) rfl rfl).mono ?_
  rintro e w7 ⟨a7, c7, rfl, O7, H7, hT7⟩
  have O67 := hide (owns_turned O6.out hT7 fun k hk ho => by have := (O6.out.lt k hk).1; have := (HO4.out k ho).2; omega)
  clear H6 O6
  go_wp2_with fail
  refine (ex_read B t O _ [[99]] [] 9 _ H7.out (by decide) (by decide) rfl rfl).mono ?_
  rintro e w8 ⟨a8, c8, rfl, -, H8, hT8⟩
  have hz6 := hT6.size
  have hz7 := hT7.size
  have hz8 := hT8.size
  have O68 := hide (owns_turned O67.out hT8 fun k hk ho => by have := (O67.out.lt k hk).1; have := (HO4.out k ho).2; omega)
  have O78 := hide (owns_turned O7.out hT8 fun k hk ho => by have := (O7.out.lt k hk).1; have := (HO4.out k ho).2; omega)
  clear H7 O7 O67
  go_wp2_with fail
  refine (ex_read B t O _ [] [99] 9 _ H8.out (by decide) (by decide) rfl rfl).mono ?_
  rintro e w9 ⟨a9, c9, rfl, O9, H9, hT9⟩
  have hz9 := hT9.size
  have O69 := hide (owns_turned O68.out hT9 fun k hk ho => by have := (O68.out.lt k hk).1; have := (HO4.out k ho).2; omega)
  have O79 := hide (owns_turned O78.out hT9 fun k hk ho => by have := (O78.out.lt k hk).1; have := (HO4.out k ho).2; omega)
  have hT59 : Turned O w5 w9 := ((hT6.trans hT7 (fun _ _ h => h)).trans hT8 (fun _ _ h => h)).trans hT9 (fun _ _ h => h)
  have hB09 : Below w.heap.size w w9 := hB04.trans (hT59.below (fun k h => by have := (HO4.out k h).1; omega) (by have := hB04.size; omega))
  clear H8 O68 O78 hT6 hT7 hT8 hT9 hT59
  have c3 := conv_lit w9 #[.int .u8 104, .int .u8 105] 2 w9.heap.size 2 rfl rfl
  simp only [Nat.reduceAdd] at c3
  go_wp2_with fail
  have hBa : Below w9.heap.size w9 (w9.alloc (Obj.cells #[.int .u8 104, .int .u8 105] 5 (2, 3))) := (Below.refl _ _).alloc (Nat.le_refl _) _
  have Hb := hide (lit_bys w9 [104, 105] #[.int .u8 104, .int .u8 105] 2 w9.heap.size (2, 3) rfl rfl rfl)
  generalize w9.alloc (Obj.cells #[.int .u8 104, .int .u8 105] 5 (2, 3)) = wa at *
  refine (write_any B t O [] [] _ [104, 105] _ (H9.out.below hBa) Hb.out).mono ?_
  rintro e wb ⟨rfl, O', hPb, hOb, hTb⟩
  rw [show wrE ([] : List UInt8).length ([104, 105] : List UInt8).length = 0 from rfl]
  rw [show wrS [] [104, 105] = [104, 105] from rfl] at hPb
  have Hpb := hide hPb
  have hzb := hTb.size
  have hza := hBa.size
  have s6 := owns_string (owns_turned (owns_below O69.out hBa) hTb fun k hk ho => by have := (O69.out.lt k hk).1; have := (HO4.out k ho).2; omega)
  have s7 := owns_string (owns_turned (owns_below O79.out hBa) hTb fun k hk ho => by have := (O79.out.lt k hk).1; have := (HO4.out k ho).2; omega)
  have s9 := owns_string (owns_turned (owns_below O9.out hBa) hTb fun k hk ho => by have := (O9.out.lt k hk).1; have := (HO4.out k ho).2; omega)
  have hB0a := hB09.trans (hBa.mono hB09.size)
  have hB0b : Below w.heap.size w wb := hB0a.trans (hTb.below (fun k h => by have := (HO4.out k h).1; omega) hB0a.size)
  clear hPb O69 O79 O9 c3 H9 hTb hOb hBa Hb hB09 hB04 hB0a
  simp only [List.length_cons, List.length_nil, Nat.reduceAdd] at s6 s7 s9
  go_wp2_with fail
  refine (num_any 0 _).mono ?_
  rintro e wc ⟨rfl, rfl⟩
  go_wp2_with fail
  refine (num_any 0 _).mono ?_
  rintro e wd ⟨rfl, rfl⟩
  go_wp2_with fail
  refine (num_any 0 _).mono ?_
  rintro e we ⟨rfl, rfl⟩
  go_wp2_with fail
  refine (num_any 0 _).mono ?_
  rintro e wf ⟨rfl, rfl⟩
  go_wp2_with fail
  refine (num_any 0 _).mono ?_
  rintro e wg ⟨rfl, rfl⟩
  go_wp2_with fail
  refine (left_any B t O' _ _ _ Hpb.out).mono ?_
  rintro e wh ⟨rfl, rfl⟩
  go_wp2_with fail
  refine (screen_any B t O' _ _ _ Hpb.out).mono ?_
  rintro e wi ⟨rfl, hown, hBi⟩
  have si := owns_string hown
  simp only [List.length_cons, List.length_nil, Nat.reduceAdd] at si
  go_wp2
  go_ret
  exact ⟨rfl, hB0b.trans (hBi.mono hB0b.size)⟩
end Go.Proofs.Ytoihblhhifcpnaa

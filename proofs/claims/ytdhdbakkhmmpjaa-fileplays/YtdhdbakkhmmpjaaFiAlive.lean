/- The statements' own example holds: alive answers true, and nothing that lay has turned; files that no call made. -/
import Derived.Test.YtdhdbakkhmmpjaaFiRef3
namespace Go.Proofs.Ytdhdbakkhmmpjaa
open Go.RowKit

set_option maxHeartbeats 1000000 in
theorem num_any (x : Int) (w : World) :
    Calls Try.prog 10 #[.int .i64 x] w fun e w' => e = .returned (.int .i64 x) ∧ w' = w := by
  go_enter Try.func10, Try.ntmps10
  go_wp2
  go_ret
  exact ⟨rfl, rfl⟩

theorem lit_bys (w : World) (l : List UInt8) (cs : Array Value) (n : Nat) (hn : n = l.length) (hcs : cs.toList = l.map bv) : Bys (w.alloc (Obj.cells cs 5)) (.slice (some ⟨w.heap.size, 0, none⟩) n n) l := by
  subst hn
  by_cases h0 : l.length = 0
  · exact .inr (.inl ⟨_, _, by rw [h0], List.length_eq_zero_iff.1 h0⟩)
  · refine .inr (.inr ⟨w.heap.size, 0, l.length, rfl, by omega, fun j hj => ?_⟩)
    rw [cell_of_row _ w.heap.size _ cs _ (0, 0) (heap_alloc_new w _)]
    have h1 : cs.toList[0 + j]? = (l.map bv)[j]? := by rw [hcs, Nat.zero_add]
    rw [Array.getElem?_toList] at h1
    rw [h1]
    simp [List.getD_eq_getElem?_getD, List.getElem?_eq_getElem hj, bv]

theorem ex_wrE : wrE 5 1 = 0 := by decide
theorem ex_wrL : wrL [1, 2, 3] 5 [9] = [1, 2, 3, 0, 0, 9] := by decide
theorem ex_rdE : rdE 2 10 = 0 := by decide
theorem ex_rdL : rdL [1, 2, 3, 0, 0, 9] 2 10 = [3, 0, 0, 9] := by decide

set_option maxRecDepth 100000 in
set_option maxHeartbeats 2000000 in
theorem alive_any (w : World) : Calls Try.prog 21 #[] w fun e w' => e = .returned (.bool true) ∧ Below w.heap.size w w' := by
  go_enter Try.func21, Try.ntmps21
  go_wp2_with fail
  refine (new_good _ [1, 2, 3] _ (lit_bys w [1, 2, 3] #[.int .u8 1, .int .u8 2, .int .u8 3] 3 rfl rfl) (by decide)).mono ?_
  rintro e w1 ⟨g, rfl, hF, hg1, hB1⟩
  have hB01 := ((Below.refl w.heap.size w).alloc (Nat.le_refl _) (Obj.cells #[.int .u8 1, .int .u8 2, .int .u8 3] 5)).trans (hB1.mono (Nat.le_of_lt (size_new _ _)))
  have hs0 := size_new w (Obj.cells #[.int .u8 1, .int .u8 2, .int .u8 3] 5)
  have hs1 := hB1.size
  generalize (w.alloc (Obj.cells #[.int .u8 1, .int .u8 2, .int .u8 3] 5)).heap.size = B at *
  have HF := hide hF
  have hgl := hF.lt
  have hbl := hF.row.lt
  clear hF hB1
  go_wp2_with fail
  refine (num_any 0 _).mono ?_
  rintro e w2 ⟨rfl, rfl⟩
  go_wp2_with fail
  have hBa : Below w2.heap.size w2 (w2.alloc (Obj.cells #[.int .u8 9] 5)) := (Below.refl _ _).alloc (Nat.le_refl _) _
  refine (writeAt_any g B _ [1, 2, 3] 5 _ [9] _ (HF.out.below hBa) (lit_bys w2 [9] #[.int .u8 9] 1 rfl rfl) (fun _ k e => by cases e; dsimp only; omega)).mono ?_
  rintro e w3 ⟨rfl, b', cap', hF3, hb3, hT3⟩
  rw [show (([9] : List UInt8).length) = 1 from rfl, ex_wrE]
  rw [ex_wrL] at hF3
  have hB3 : Below w.heap.size w w3 := (hB01.alloc hB01.size (Obj.cells #[.int .u8 9] 5)).trans (hT3.below (fun k hk => by omega) (Nat.le_trans hB01.size hBa.size))
  have HF3 := hide hF3
  clear hF3 HF hT3 hb3 hB01 hBa
  go_wp2_with fail
  refine (readAt_any g b' cap' [1, 2, 3, 0, 0, 9] 2 10 _ HF3.out (by decide)).mono ?_
  rintro e w4 ⟨v4, rfl, hown4, hB4⟩
  rw [ex_rdE]
  rw [ex_rdL] at hown4
  obtain ⟨a4, c4, rfl⟩ := owns_slice hown4
  have HO4 := hide hown4
  have HF4 := hide (HF3.out.below hB4)
  have hB04 := hB3.trans (hB4.mono hB3.size)
  clear hown4 HF3 hB3 hB4
  go_wp2_with fail
  refine (num_any 0 _).mono ?_
  rintro e w5 ⟨rfl, rfl⟩
  go_wp2_with fail
  refine (num_any 0 _).mono ?_
  rintro e w6 ⟨rfl, rfl⟩
  go_wp2_with fail
  have hBb : Below w6.heap.size w6 (w6.alloc (Obj.cells #[.int .u8 3, .int .u8 0, .int .u8 0, .int .u8 9] 5)) := (Below.refl _ _).alloc (Nat.le_refl _) _
  refine (same_any _ _ [3, 0, 0, 9] _ ((Bys.of_owns HO4.out).below hBb) (lit_bys w6 [3, 0, 0, 9] #[.int .u8 3, .int .u8 0, .int .u8 0, .int .u8 9] 4 rfl rfl) (by decide)).mono ?_
  rintro e w7 ⟨rfl, hB7⟩
  have hB07 := hBb.trans (hB7.mono hBb.size)
  have HF7 := hide (HF4.out.below hB07)
  have hB08 := hB04.trans (hB07.mono hB04.size)
  clear HF4 HO4 hB07 hB04 hB7 hBb
  go_wp2_with fail
  refine (size_any g b' cap' _ _ HF7.out).mono ?_
  rintro e w8 ⟨rfl, rfl⟩
  go_wp2
  go_ret
  exact ⟨rfl, hB08⟩

set_option maxRecDepth 100000 in
set_option maxHeartbeats 2000000 in
theorem nothing_any (pv : Value) (w : World) (hm : Calls Try.prog 25 #[pv] w fun e w' => e = .returned (.bool false) ∧ w' = w) :
    Calls Try.prog 22 #[pv] w fun e w' => e = .returned (.bool true) ∧ w' = w := by
  have HM := hide hm
  have hR : Calls Try.prog 11 #[pv, .int .i64 0, .int .i64 1] w fun e w' => e = .returned (.tuple #[.slice none 0 0, .int .i64 2]) ∧ w' = w := by
    clear hm
    go_enter Try.func11, Try.ntmps11
    go_wp2_with fail
    refine HM.out.mono ?_
    rintro e w1 ⟨rfl, rfl⟩
    go_wp2
    go_ret2
    exact ⟨rfl, rfl⟩
  have hW : Calls Try.prog 14 #[pv, .int .i64 0, .slice none 0 0] w fun e w' => e = .returned (.int .i64 2) ∧ w' = w := by
    clear hm
    go_enter Try.func14, Try.ntmps14
    go_wp2_with fail
    refine HM.out.mono ?_
    rintro e w1 ⟨rfl, rfl⟩
    go_wp2
    go_ret
    exact ⟨rfl, rfl⟩
  have hT : Calls Try.prog 16 #[pv, .int .i64 0] w fun e w' => e = .returned (.int .i64 2) ∧ w' = w := by
    clear hm
    go_enter Try.func16, Try.ntmps16
    go_wp2_with fail
    refine HM.out.mono ?_
    rintro e w1 ⟨rfl, rfl⟩
    go_wp2
    go_ret
    exact ⟨rfl, rfl⟩
  have hS : Calls Try.prog 19 #[pv] w fun e w' => e = .returned (.int .i64 0) ∧ w' = w := by
    clear hm
    go_enter Try.func19, Try.ntmps19
    go_wp2_with fail
    refine HM.out.mono ?_
    rintro e w1 ⟨rfl, rfl⟩
    go_wp2
    go_ret
    exact ⟨rfl, rfl⟩
  have hB : Calls Try.prog 20 #[pv] w fun e w' => e = .returned (.slice none 0 0) ∧ w' = w := by
    clear hm
    go_enter Try.func20, Try.ntmps20
    go_wp2_with fail
    refine HM.out.mono ?_
    rintro e w1 ⟨rfl, rfl⟩
    go_wp2
    go_ret
    exact ⟨rfl, rfl⟩
  have hC : Calls Try.prog 18 #[pv] w fun e w' => e = .returned (.pointer none) ∧ w' = w := by
    clear hm
    go_enter Try.func18, Try.ntmps18
    go_wp2_with fail
    refine HM.out.mono ?_
    rintro e w1 ⟨rfl, rfl⟩
    go_wp2
    go_ret
    exact ⟨rfl, rfl⟩
  have HR := hide hR
  have HW := hide hW
  have HT := hide hT
  have HS := hide hS
  have HB := hide hB
  have HC := hide hC
  clear hm hR hW hT hS hB hC HM
  go_enter Try.func22, Try.ntmps22
  go_wp2_with fail
  refine HR.out.mono ?_
  rintro e w1 ⟨rfl, rfl⟩
  go_wp2_with fail
  refine (num_any _ _).mono ?_
  rintro e w2 ⟨rfl, rfl⟩
  go_wp2_with fail
  refine HW.out.mono ?_
  rintro e w3 ⟨rfl, rfl⟩
  go_wp2_with fail
  refine (num_any _ _).mono ?_
  rintro e w2 ⟨rfl, rfl⟩
  go_wp2_with fail
  refine HT.out.mono ?_
  rintro e w3 ⟨rfl, rfl⟩
  go_wp2_with fail
  refine (num_any _ _).mono ?_
  rintro e w2 ⟨rfl, rfl⟩
  go_wp2_with fail
  refine HS.out.mono ?_
  rintro e w3 ⟨rfl, rfl⟩
  go_wp2_with fail
  refine HB.out.mono ?_
  rintro e w3 ⟨rfl, rfl⟩
  go_wp2_with fail
  refine HC.out.mono ?_
  rintro e w4 ⟨rfl, rfl⟩
  go_wp2
  go_ret
  exact ⟨rfl, rfl⟩
end Go.Proofs.Ytdhdbakkhmmpjaa

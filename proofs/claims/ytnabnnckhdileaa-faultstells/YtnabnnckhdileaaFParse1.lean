/- Parse: its closure, and first over it. -/
import Derived.Test.YtnabnnckhdileaaFFault
namespace Go.Proofs.Ytnabnnckhdileaa
open Go.RowKit

theorem wd_le (l : List UInt8) : (wd l).length ≤ l.length := (List.takeWhile_sublist _).length_le
/-- The fault at place a of a text. -/
noncomputable def fat (s : ByteArray) (a : Nat) : Fault × Bool := fo (wd (s.data.toList.drop a))
theorem grown_of {W W' : World} {r : Option Nat} (h : Below W.heap.size W W') : W.grownBy W' r := ⟨h.os, h.tape, h.output, h.size, fun k hk _ => h.block k hk⟩
theorem grown_trans {a b c : World} {r : Option Nat} (h : a.grownBy b r) (k : b.grownBy c r) : a.grownBy c r :=
  ⟨k.os.trans h.os, k.tape.trans h.tape, k.output.trans h.output, Nat.le_trans h.size k.size, fun j hj hr => (k.block j (Nat.lt_of_lt_of_le hj h.size) hr).trans (h.block j hj hr)⟩

set_option maxRecDepth 100000 in
set_option maxHeartbeats 2000000 in
theorem parse1_any (s : ByteArray) (hs : s.size ≤ 65536) (c1 c2 c3 b o n cap k a base g : Nat) (xs : List Value) (w : World)
    (h1 : w.cell? ⟨c1, 0, none⟩ = some (.string s)) (h2 : w.cell? ⟨c2, 0, none⟩ = some (.slice (some ⟨b, o, none⟩) n cap)) (h3 : w.cell? ⟨c3, 0, none⟩ = some (.slice (some ⟨g, 0, none⟩) n n))
    (hk : k < n) (ha : w.cell? ⟨b, o + k, none⟩ = some (.int .i64 a)) (hal : a ≤ s.size) (hown : w.ownsRow base 60 2 (.slice (some ⟨g, 0, none⟩) n n) n xs) :
    Calls Try.prog 32 #[.int .i64 k, .pointer (some ⟨c1, 0, none⟩), .pointer (some ⟨c2, 0, none⟩), .pointer (some ⟨c3, 0, none⟩)] w fun e w' =>
      e = .returned (.bool (!(fat s a).2)) ∧ w'.ownsRow base 60 2 (.slice (some ⟨g, 0, none⟩) n n) n ((xs.set (k * 2) (.int .i64 (fat s a).1.1)).set (k * 2 + 1) (.int .i64 (fat s a).1.2)) ∧ w.grownBy w' (some g) := by
  have hk1 : (0 : Int) ≤ (k : Int) := by omega
  have hk2 : (k : Int) < (n : Int) := by omega
  have hc3 := World.block_lt_of_cell? w _ h3
  have HO := hide hown
  have HW := hide fun w => wordAt_any s a hs hal w
  have HF := hide fun w => faultOf_any ⟨(wd (s.data.toList.drop a)).toArray⟩ (by
    have h1 := wd_le (s.data.toList.drop a)
    have h2 : s.data.toList.length = s.size := Array.length_toList
    rw [List.length_drop, h2] at h1
    have h3 : (⟨(wd (s.data.toList.drop a)).toArray⟩ : ByteArray).size = (wd (s.data.toList.drop a)).length := by simp [ByteArray.size]
    omega) w
  unfold fat
  simp only [fv] at HF
  generalize (fo (wd (s.data.toList.drop a))).2 = ok at *
  generalize (fo (wd (s.data.toList.drop a))).1.1 = fx at *
  generalize (fo (wd (s.data.toList.drop a))).1.2 = fy at *
  generalize (⟨(wd (s.data.toList.drop a)).toArray⟩ : ByteArray) = T at *
  have HS : Hid (∀ w', Below w.heap.size w w' → w'.cell? ⟨c1, 0, none⟩ = some (.string s) ∧ w'.cell? ⟨c2, 0, none⟩ = some (.slice (some ⟨b, o, none⟩) n cap) ∧ w'.cell? ⟨b, o + k, none⟩ = some (.int .i64 a)) := fun w' hb =>
    ⟨(hb.cell (p := ⟨c1, 0, none⟩) (World.block_lt_of_cell? w _ h1)).trans h1, (hb.cell (p := ⟨c2, 0, none⟩) (World.block_lt_of_cell? w _ h2)).trans h2, (hb.cell (p := ⟨b, o + k, none⟩) (World.block_lt_of_cell? w _ ha)).trans ha⟩
  clear hown
  go_enter Try.func32, Try.ntmps32
  go_wp2_with fail
  go_region_held3 (fun w' => w'.cell? ⟨c1, 0, none⟩ = some (.string s) ∧ w'.cell? ⟨c2, 0, none⟩ = some (.slice (some ⟨b, o, none⟩) n cap) ∧ w'.cell? ⟨b, o + k, none⟩ = some (.int .i64 a))
    (first | exact HS.out _ ((hb4.setCell (p := ⟨w3.heap.size, 0, none⟩) hb3.size _).setCell (p := ⟨w3.heap.size, 1, none⟩) hb3.size _) | exact HS.out _ ((hb4.setCell (p := ⟨w.heap.size, 0, none⟩) (Nat.le_refl _) _).setCell (p := ⟨w.heap.size, 1, none⟩) (Nat.le_refl _) _) | exact HS.out _ (hb4.alloc hb4.size _) | exact HS.out _ hb4 | exact HS.out _ (hb3.alloc hb3.size _) | exact HS.out _ hb3 | exact HS.out _ ((Below.refl _ _).drew.alloc (Nat.le_refl _) _) | exact HS.out _ ((Below.refl _ _).alloc (Nat.le_refl _) _).drew | exact HS.out _ (Below.refl _ _).drew | go_keep)
    (first
      | (go_at_call 34; refine (HW.out _).mono ?_; rintro e w3 ⟨rfl, hB3⟩; first
          | (have hb3 : Below w.heap.size w w3 := (Below.refl _ _).drew.trans hB3)
          | (have yy := new_zero ((Below.refl _ _).drew.trans hB3); have hb3 : Below w.heap.size w w3 := (((Below.refl _ _).alloc (Nat.le_refl _) _).drew).trans (hB3.mono (Nat.le_of_lt (size_new _ _)))))
      | (go_at_call 33; refine (HF.out _).mono ?_; rintro e w4 ⟨rfl, hB4⟩; first
          | (have hb4 : Below w.heap.size w w4 := hb3.trans (hB4.mono hb3.size); have zz := carry_zero hB4 yy; obtain ⟨z0, z1, q0, q1⟩ := zz; clear yy)
          | (have hb4 : Below w.heap.size w w4 := hb3.trans (hB4.mono hb3.size))
          | (have zz := new_zero hB4; obtain ⟨z0, z1, q0, q1⟩ := zz; have hb4 : Below w.heap.size w w4 := (hb3.alloc hb3.size _).trans (hB4.mono (Nat.le_trans hb3.size (Nat.le_of_lt (size_new _ _)))))))
  · have hb5 := hb4.alloc hb4.size (Obj.cells #[.int .i64 fx, .int .i64 fy] 60)
    have y0 : (w4.alloc (Obj.cells #[.int .i64 fx, .int .i64 fy] 60)).cell? ⟨w4.heap.size, 0, none⟩ = some (.int .i64 fx) := by simp only [World.cell?, heap_alloc_new]; rfl
    have y1 : (w4.alloc (Obj.cells #[.int .i64 fx, .int .i64 fy] 60)).cell? ⟨w4.heap.size, 1, none⟩ = some (.int .i64 fy) := by simp only [World.cell?, heap_alloc_new]; rfl
    generalize w4.alloc (Obj.cells #[.int .i64 fx, .int .i64 fy] 60) = w5 at hb5 y0 y1 ⊢
    generalize w4.heap.size = blk at y0 y1 ⊢
    have hown5 := owns_below HO.out hb5
    have e3 := (hb5.cell (p := ⟨c3, 0, none⟩) hc3).trans h3
    have hxl : xs.length = n * 2 := hown5.1
    have d0 := hown5.cellAt (k * 2) (by omega)
    have d1 := hown5.cellAt (k * 2 + 1) (by omega)
    have f0 := hown5.frozenAt (k * 2)
    have f1 := hown5.frozenAt (k * 2 + 1)
    rw [List.getElem?_eq_getElem (show k * 2 < xs.length by omega)] at d0
    rw [List.getElem?_eq_getElem (show k * 2 + 1 < xs.length by omega)] at d1
    generalize xs[k * 2]'(by omega) = old0 at d0
    generalize xs[k * 2 + 1]'(by omega) = old1 at d1
    have HO5 := hide hown5
    have HB5 := hide hb5
    clear hown5 hb5 h1 h2 h3 ha HO HS HW HF hxl
    go_wp2
    go_ret
    obtain ⟨q1, q2⟩ := HO5.out.stored (k * 2) (.int .i64 fx)
    obtain ⟨q3, q4⟩ := q1.stored (k * 2 + 1) (.int .i64 fy)
    exact ⟨rfl, q3, grown_trans (grown_of HB5.out) (grown_trans q2 q4)⟩
  · have hb5 := (hb4.setCell (p := ⟨w3.heap.size, 0, none⟩) hb3.size (.int .i64 fx)).setCell (p := ⟨w3.heap.size, 1, none⟩) hb3.size (.int .i64 fy)
    have y0 : ((w4.setCell ⟨w3.heap.size, 0, none⟩ (.int .i64 fx)).setCell ⟨w3.heap.size, 1, none⟩ (.int .i64 fy)).cell? ⟨w3.heap.size, 0, none⟩ = some (.int .i64 fx) := by rw [World.cell?_setCell_other _ _ _ _ (by simp)]; exact World.cell?_setCell_same _ _ _ z0
    have y1 : ((w4.setCell ⟨w3.heap.size, 0, none⟩ (.int .i64 fx)).setCell ⟨w3.heap.size, 1, none⟩ (.int .i64 fy)).cell? ⟨w3.heap.size, 1, none⟩ = some (.int .i64 fy) := World.cell?_setCell_same _ _ _ ((World.cell?_setCell_other _ _ _ _ (by simp)).trans z1)
    generalize (w4.setCell ⟨w3.heap.size, 0, none⟩ (.int .i64 fx)).setCell ⟨w3.heap.size, 1, none⟩ (.int .i64 fy) = w5 at hb5 y0 y1 ⊢
    generalize w3.heap.size = blk at y0 y1 ⊢
    have hown5 := owns_below HO.out hb5
    have e3 := (hb5.cell (p := ⟨c3, 0, none⟩) hc3).trans h3
    have hxl : xs.length = n * 2 := hown5.1
    have d0 := hown5.cellAt (k * 2) (by omega)
    have d1 := hown5.cellAt (k * 2 + 1) (by omega)
    have f0 := hown5.frozenAt (k * 2)
    have f1 := hown5.frozenAt (k * 2 + 1)
    rw [List.getElem?_eq_getElem (show k * 2 < xs.length by omega)] at d0
    rw [List.getElem?_eq_getElem (show k * 2 + 1 < xs.length by omega)] at d1
    generalize xs[k * 2]'(by omega) = old0 at d0
    generalize xs[k * 2 + 1]'(by omega) = old1 at d1
    have HO5 := hide hown5
    have HB5 := hide hb5
    clear hown5 hb5 h1 h2 h3 ha HO HS HW HF hxl
    go_wp2
    go_ret
    obtain ⟨q1, q2⟩ := HO5.out.stored (k * 2) (.int .i64 fx)
    obtain ⟨q3, q4⟩ := q1.stored (k * 2 + 1) (.int .i64 fy)
    exact ⟨rfl, q3, grown_trans (grown_of HB5.out) (grown_trans q2 q4)⟩
  · have hb5 := (hb4.setCell (p := ⟨w.heap.size, 0, none⟩) (Nat.le_refl _) (.int .i64 fx)).setCell (p := ⟨w.heap.size, 1, none⟩) (Nat.le_refl _) (.int .i64 fy)
    have y0 : ((w4.setCell ⟨w.heap.size, 0, none⟩ (.int .i64 fx)).setCell ⟨w.heap.size, 1, none⟩ (.int .i64 fy)).cell? ⟨w.heap.size, 0, none⟩ = some (.int .i64 fx) := by rw [World.cell?_setCell_other _ _ _ _ (by simp)]; exact World.cell?_setCell_same _ _ _ z0
    have y1 : ((w4.setCell ⟨w.heap.size, 0, none⟩ (.int .i64 fx)).setCell ⟨w.heap.size, 1, none⟩ (.int .i64 fy)).cell? ⟨w.heap.size, 1, none⟩ = some (.int .i64 fy) := World.cell?_setCell_same _ _ _ ((World.cell?_setCell_other _ _ _ _ (by simp)).trans z1)
    generalize (w4.setCell ⟨w.heap.size, 0, none⟩ (.int .i64 fx)).setCell ⟨w.heap.size, 1, none⟩ (.int .i64 fy) = w5 at hb5 y0 y1 ⊢
    generalize w.heap.size = blk at y0 y1 ⊢
    have hown5 := owns_below HO.out hb5
    have e3 := (hb5.cell (p := ⟨c3, 0, none⟩) hc3).trans h3
    have hxl : xs.length = n * 2 := hown5.1
    have d0 := hown5.cellAt (k * 2) (by omega)
    have d1 := hown5.cellAt (k * 2 + 1) (by omega)
    have f0 := hown5.frozenAt (k * 2)
    have f1 := hown5.frozenAt (k * 2 + 1)
    rw [List.getElem?_eq_getElem (show k * 2 < xs.length by omega)] at d0
    rw [List.getElem?_eq_getElem (show k * 2 + 1 < xs.length by omega)] at d1
    generalize xs[k * 2]'(by omega) = old0 at d0
    generalize xs[k * 2 + 1]'(by omega) = old1 at d1
    have HO5 := hide hown5
    have HB5 := hide hb5
    clear hown5 hb5 h1 h2 h3 ha HO HS HW HF hxl
    go_wp2
    go_ret
    obtain ⟨q1, q2⟩ := HO5.out.stored (k * 2) (.int .i64 fx)
    obtain ⟨q3, q4⟩ := q1.stored (k * 2 + 1) (.int .i64 fy)
    exact ⟨rfl, q3, grown_trans (grown_of HB5.out) (grown_trans q2 q4)⟩
end Go.Proofs.Ytnabnnckhdileaa

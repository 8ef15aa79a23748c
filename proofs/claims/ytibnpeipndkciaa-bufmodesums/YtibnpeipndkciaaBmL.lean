/- The page's examples of buffers' modes; numbers that are the same. -/
import Derived.Test.YtibnpeipndkciaaBmS
import Derived.Lib.SlBytesConst
import Derived.Deep.RegionHeld3
namespace Go.Proofs.Ytibnpeipndkciaa
open Go.RowKit

theorem bnum_is (x : Int) (w : World) : Calls Try.prog 13 #[.int .i64 x] w fun e w' => e = .returned (.int .i64 x) ∧ w = w' := by
  go_enter Try.func13, Try.ntmps13
  go_wp2
  go_ret
  exact ⟨rfl, rfl⟩
/-- A slice value that holds numbers. -/
def Nus (W : World) (v : Value) (l : List Nat) : Prop := ∃ a c, v = .slice a l.length c ∧ (0 < l.length → ∃ b off, a = some ⟨b, off, none⟩ ∧ ∀ j, j < l.length → W.cell? ⟨b, off + j, none⟩ = some (.int .i64 ((l.getD j 0 : Nat) : Int)))
theorem Nus.below {W W' : World} {v : Value} {l : List Nat} (h : Nus W v l) (hB : Below W.heap.size W W') : Nus W' v l := by
  obtain ⟨a, c, rfl, h⟩ := h
  refine ⟨a, c, rfl, fun h0 => ?_⟩
  obtain ⟨b, off, rfl, hc⟩ := h h0
  exact ⟨b, off, rfl, fun j hj => (hB.cell (p := ⟨b, off + j, none⟩) (World.block_lt_of_cell? W _ (hc j hj))).trans (hc j hj)⟩
theorem nvs_at (l : List Nat) (k : Nat) (h : k < l.length) : (nvs l)[k]? = some (.int .i64 ((l[k] : Nat) : Int)) := by simp [nvs, h]
theorem nvs_cell {W : World} {B : Nat} {va : Option Addr} {vc N k : Nat} {xs : List Value} {u : Value} (h : W.ownsRow B 3 1 (.slice va N vc) N xs) (hk : k < N) (hs : xs[k]? = some u) : ∃ vb, va = some ⟨vb, 0, none⟩ ∧ W.cell? ⟨vb, k, none⟩ = some u := by
  have hx := h
  rcases h.2 with ⟨e, _⟩ | ⟨g, cap, cur, e, _⟩
  · simp only [Value.slice.injEq] at e; omega
  · simp only [Value.slice.injEq] at e
    obtain ⟨rfl, _, rfl⟩ := e
    refine ⟨g, rfl, ?_⟩
    rw [hx.cellAt k (by omega), hs]
theorem Nus.of_owns {W : World} {B : Nat} {v : Value} {l : List Nat} (h : W.ownsRow B 3 1 v l.length (nvs l)) : Nus W v l := by
  obtain ⟨a, c, rfl⟩ := owns_slice h
  refine ⟨a, c, rfl, fun h0 => ?_⟩
  obtain ⟨b, rfl, _⟩ := nvs_cell h h0 (nvs_at l 0 h0)
  refine ⟨b, 0, rfl, fun j hj => ?_⟩
  obtain ⟨b', e, hc⟩ := nvs_cell h hj (nvs_at l j hj)
  cases e
  rw [Nat.zero_add, hc]
  simp [hj]
set_option maxRecDepth 100000 in
set_option maxHeartbeats 2000000 in
theorem sameNus_any (x y : Value) (l : List Nat) (w : World) (hx : Nus w x l) (hy : Nus w y l) (hl : l.length ≤ 9223372036854775807) :
    Calls Try.prog 12 #[x, y] w fun e w' => e = .returned (.bool true) ∧ Below w.heap.size w w' := by
  obtain ⟨xa, xc, rfl, hx⟩ := hx
  obtain ⟨ya, yc, rfl, hy⟩ := hy
  have HX := hide hx
  have HY := hide hy
  clear hx hy
  go_enter Try.func12, Try.ntmps12
  go_wp2
  go_loopw [5] (fun i wr => ∃ (k : Nat), k ≤ l.length ∧ i = .int .i64 k ∧ ∃ q, wr = w.drewN q) (fun i _ => l.length - (intOf i).toNat)
  case atStart => exact ⟨0, Nat.zero_le _, rfl, 0, rfl⟩
  case round =>
    obtain ⟨k, hk, rfl, q, rfl⟩ := hrel
    by_cases hlt : k < l.length
    · obtain ⟨b1, o1, rfl, hc1⟩ := HX.out (by omega)
      obtain ⟨b2, o2, rfl, hc2⟩ := HY.out (by omega)
      have g1 := hc1 k hlt
      have g2 := hc2 k hlt
      clear hc1 hc2 HX HY
      have hk1 : (0 : Int) ≤ (k : Int) := by omega
      have hk2 : (k : Int) < (l.length : Int) := by omega
      generalize ((l.getD k 0 : Nat) : Int) = x at g1 g2
      go_wp2
      go_quiet (fail)
      go_wp2
      go_roundw
      case rel => exact ⟨k + 1, by omega, by go_num, _, rfl⟩
      case measure => simp [intOf]; omega
    · go_wp2
      go_ret
      exact ⟨rfl, below_drewN (Below.refl _ _) _⟩
theorem nus_lit (w : World) (l : List Nat) (cs : Array Value) (n : Nat) (hn : n = l.length) (hcs : cs.toList = nvs l) : Nus (w.alloc (Obj.cells cs 3)) (.slice (some ⟨w.heap.size, 0, none⟩) n n) l := by
  subst hn
  refine ⟨_, _, rfl, fun _ => ⟨w.heap.size, 0, rfl, fun j hj => ?_⟩⟩
  rw [cell_of_row _ w.heap.size _ cs _ _ (heap_alloc_new w _)]
  have h1 : cs.toList[0 + j]? = (nvs l)[j]? := by rw [hcs, Nat.zero_add]
  rw [Array.getElem?_toList] at h1
  rw [h1, nvs_at l j hj]
  simp [hj]
theorem blit_bys (w : World) (l : List UInt8) (cs : Array Value) (n : Nat) (fr : Nat × Nat) (hn : n = l.length) (hcs : cs.toList = l.map bv) : Bys (w.alloc (Obj.cells cs 5 fr)) (.slice (some ⟨w.heap.size, 0, none⟩) n n) l := by
  subst hn
  by_cases h0 : l.length = 0
  · exact .inr (.inl ⟨_, _, by rw [h0], List.length_eq_zero_iff.1 h0⟩)
  · refine .inr (.inr ⟨w.heap.size, 0, l.length, rfl, by omega, fun j hj => ?_⟩)
    rw [cell_of_row _ w.heap.size _ cs _ fr (heap_alloc_new w _)]
    have h1 : cs.toList[0 + j]? = (l.map bv)[j]? := by rw [hcs, Nat.zero_add]
    rw [Array.getElem?_toList] at h1
    rw [h1]
    simp [List.getD_eq_getElem?_getD, List.getElem?_eq_getElem hj, bv]
theorem bconv_lit (w : World) (C : Array Value) (n m : Nat) (hm : C.size = m) : (convert 22 22 (.slice (some ⟨w.heap.size, 0, none⟩) n n)).run Try.prog (w.alloc (.cells C 5)) = .ok (.slice (some ⟨w.heap.size, 0, none⟩) n n) (w.alloc (.cells C 5 (m, m + 1))) := by
  subst hm
  exact Lib.run_convert_bytes_const w 22 5 C n n Try.underlying22 Try.underlying5
set_option maxRecDepth 100000 in
set_option maxHeartbeats 4000000 in
theorem balive_any (w : World) : Calls Try.prog 14 #[] w fun e w' => e = .returned (.bool true) ∧ Below w.heap.size w w' := by
  have v1 : bwL 3 4 [0, 0, 0, 0, 0, 0, 0, 0, 0, 0] = [4, 4, 2] := by decide
  have v2 : bwL 2 4 [97, 98, 10, 99, 100, 101, 102, 103, 104] = [3, 4, 2] := by decide
  have v3 : bwE 3 4 [0, 0, 0, 0, 0, 0, 0, 0, 0, 0] = 0 := by decide
  have v4 : bwE 2 4 [97, 98, 10, 99, 100, 101, 102, 103, 104] = 0 := by decide
  have v5 : brN 3 4 10 6 = 3 := by decide
  have v6 : brE 3 4 10 6 = 0 := by decide
  obtain ⟨i0, hi, hz0, hz1, hz2⟩ := info_parts Try.infoB
  have HV := hide (And.intro v1 (And.intro v2 (And.intro v3 (And.intro v4 (And.intro v5 v6)))))
  clear v1 v2 v3 v4 v5 v6
  go_enter Try.func14, Try.ntmps14
  go_wp2_with (first | (at_make; refine wpList_make_full _ rfl _ _ 22 rfl w.heap.size 5 i0 (.int .u8 0) 1 Try.underlying22 hi hz0 hz1 _ _ _ _ 10 rfl rfl rfl rfl (by rw [hz2]; decide) (by decide) (Nat.le_refl _) ?_; intro w1 hown hgrow) | fail)
  have hby : Bys w1 (.slice (some ⟨w.heap.size, 0, none⟩) 10 10) [0, 0, 0, 0, 0, 0, 0, 0, 0, 0] := Bys.of_owns (base := w.heap.size) (by
    have e : (madeCells (Value.int .u8 0).cells (10 * 1)).toList = ([0, 0, 0, 0, 0, 0, 0, 0, 0, 0] : List UInt8).map bv := by kernel_rfl
    rw [e] at hown
    exact hown)
  have HB1 := hide ((Below.refl _ w).grown hgrow (Nat.le_refl _) (fun k e => by cases e))
  have HW1 := hide (bwrites_any 3 4 _ 10 [0, 0, 0, 0, 0, 0, 0, 0, 0, 0] (Nat.le_refl _) w1 hby)
  rw [HV.out.1, HV.out.2.2.1] at HW1
  clear hown hgrow hby
  refine HW1.out.mono ?_
  rintro _ w2 ⟨u, rfl, hO2, hB2⟩
  obtain ⟨ua, uc, rfl⟩ := owns_slice hO2
  have HN2 := hide (Nus.of_owns hO2)
  have HB2 := hide (HB1.out.trans (hB2.mono HB1.out.size))
  clear hO2 hB2 HW1
  have cl := bconv_lit w2 #[.int .u8 97, .int .u8 98, .int .u8 10, .int .u8 99, .int .u8 100, .int .u8 101, .int .u8 102, .int .u8 103, .int .u8 104] 9 9 rfl
  have hb3 := blit_bys w2 [97, 98, 10, 99, 100, 101, 102, 103, 104] #[.int .u8 97, .int .u8 98, .int .u8 10, .int .u8 99, .int .u8 100, .int .u8 101, .int .u8 102, .int .u8 103, .int .u8 104] 9 (9, 10) rfl rfl
  have HB3 := hide ((Below.refl _ w2).alloc (Nat.le_refl _) (Obj.cells #[.int .u8 97, .int .u8 98, .int .u8 10, .int .u8 99, .int .u8 100, .int .u8 101, .int .u8 102, .int .u8 103, .int .u8 104] 5 (9, 10)))
  have HW3 := hide (bwrites_any 2 4 _ 9 [97, 98, 10, 99, 100, 101, 102, 103, 104] (Nat.le_refl _) _ hb3)
  rw [HV.out.2.1, HV.out.2.2.2.1] at HW3
  clear hb3
  go_wp2_with fail
  refine HW3.out.mono ?_
  rintro _ w4 ⟨u, rfl, hO4, hB4⟩
  obtain ⟨va, vc, rfl⟩ := owns_slice hO4
  have HN4 := hide (Nus.of_owns hO4)
  have hB24 := HB3.out.trans (hB4.mono HB3.out.size)
  have HN24 := hide (HN2.out.below hB24)
  have HB4 := hide (HB2.out.trans (hB24.mono HB2.out.size))
  clear hO4 hB4 HW3 cl HB3 hB24
  have HR := hide (fun W => breads_any 3 4 10 6 W)
  rw [HV.out.2.2.2.2.1, HV.out.2.2.2.2.2] at HR
  go_wp2_with (first | (go_at_call 10; refine (HR.out _).mono ?_; rintro _ _ ⟨rfl, rfl⟩) | (go_at_call 13; refine (bnum_is _ _).mono ?_; rintro _ _ ⟨rfl, rfl⟩) | fail)
  have hBa : Below w4.heap.size w4 (w4.alloc (Obj.cells #[.int .i64 4, .int .i64 4, .int .i64 2] 3)) := (Below.refl _ w4).alloc (Nat.le_refl _) _
  refine (sameNus_any _ _ [4, 4, 2] _ (HN24.out.below hBa) (nus_lit w4 [4, 4, 2] #[.int .i64 4, .int .i64 4, .int .i64 2] 3 rfl rfl) (by decide)).mono ?_
  rintro _ w5 ⟨rfl, hB5⟩
  have hB45 := hBa.trans (hB5.mono hBa.size)
  have HN5 := hide (HN4.out.below hB45)
  have HB5 := hide (HB4.out.trans (hB45.mono HB4.out.size))
  clear hBa hB5 hB45
  go_wp2_with fail
  have hBb : Below w5.heap.size w5 (w5.alloc (Obj.cells #[.int .i64 3, .int .i64 4, .int .i64 2] 3)) := (Below.refl _ w5).alloc (Nat.le_refl _) _
  refine (sameNus_any _ _ [3, 4, 2] _ (HN5.out.below hBb) (nus_lit w5 [3, 4, 2] #[.int .i64 3, .int .i64 4, .int .i64 2] 3 rfl rfl) (by decide)).mono ?_
  rintro _ w6 ⟨rfl, hB6⟩
  go_wp2
  go_ret
  exact ⟨rfl, HB5.out.trans ((hBb.trans (hB6.mono hBb.size)).mono HB5.out.size)⟩
end Go.Proofs.Ytibnpeipndkciaa

/- Check of faults: the closure, first, Check. -/
import Derived.Test.YtnabnnckhdileaaFChk
namespace Go.Proofs.Ytnabnnckhdileaa
open Go.RowKit

theorem cell_new (w : World) (x : Value) (t : TypeId) : (w.alloc (Obj.cells #[x] t)).cell? ⟨w.heap.size, 0, none⟩ = some x := by
  simp only [World.cell?, heap_alloc_new]
  rfl
theorem size_new (w : World) (o : Obj) : w.heap.size < (w.alloc o).heap.size := by simp

set_option maxRecDepth 100000 in
set_option maxHeartbeats 1000000 in
theorem check1_any (c b off cap len k : Nat) (x y : Int) (w : World) (h1 : w.cell? ⟨c, 0, none⟩ = some (.slice (some ⟨b, off, none⟩) len cap)) (hk : k < len)
    (h2 : w.cell? ⟨b, off + k * 2, none⟩ = some (.int .i64 x)) (h3 : w.cell? ⟨b, off + k * 2 + 1, none⟩ = some (.int .i64 y)) :
    Calls Try.prog 25 #[.int .i64 k, .pointer (some ⟨c, 0, none⟩)] w fun e w' => e = .returned (.bool (!may (x, y))) ∧ Below w.heap.size w w' := by
  have hk1 : (0 : Int) ≤ (k : Int) := by omega
  have hk2 : (k : Int) < (len : Int) := by omega
  go_enter Try.func25, Try.ntmps25
  go_wp2_with fail
  refine (mayBe_any x y _).mono ?_
  rintro e w1 ⟨rfl, hB1⟩
  go_wp2
  go_ret
  exact ⟨rfl, hB1⟩

set_option maxRecDepth 100000 in
set_option maxHeartbeats 1000000 in
theorem first_check (c : Nat) (a1 : Option Addr) (c1 : Nat) (l : List Fault) (w : World) (hs : l.length ≤ 9223372036854775807) (h1 : w.cell? ⟨c, 0, none⟩ = some (.slice a1 l.length c1))
    (HC : Hid (0 < l.length → ∃ b off, a1 = some ⟨b, off, none⟩ ∧ ∀ j, j < l.length → w.cell? ⟨b, off + j * 2, none⟩ = some (.int .i64 (l.getD j (0, 0)).1) ∧ w.cell? ⟨b, off + j * 2 + 1, none⟩ = some (.int .i64 (l.getD j (0, 0)).2))) :
    Calls Try.prog 24 #[.int .i64 l.length, .func (.func 25) #[] #[.pointer (some ⟨c, 0, none⟩)]] w fun e w' => e = .returned (.int .i64 (fb l)) ∧ Below w.heap.size w w' := by
  have hcw := World.block_lt_of_cell? w _ h1
  generalize hR : fb l = R
  have HR := hide hR
  clear hR
  go_enter Try.func24, Try.ntmps24
  go_wp2
  go_loopw [5, 7] (fun u5 i wr => ∃ (k : Nat), k ≤ l.length ∧ i = .int .i64 k ∧ (∀ j, j < k → may (l.getD j (0, 0)) = true) ∧ Below w.heap.size w wr) (fun _ i _ => l.length - (intOf i).toNat)
  case atStart => exact ⟨0, Nat.zero_le _, rfl, fun j hj => absurd hj (by omega), Below.refl _ _⟩
  case round =>
    obtain ⟨k, hk, rfl, ha, hB⟩ := hrel
    have HA := hide ha
    clear ha
    by_cases hlt : k < l.length
    · obtain ⟨b1, o1, rfl, hc1⟩ := HC.out (by omega)
      obtain ⟨g1, g2⟩ := hc1 k hlt
      have hb1 := World.block_lt_of_cell? w _ g1
      have e1 := (hB.cell (p := ⟨b1, o1 + k * 2, none⟩) hb1).trans g1
      have e2 := (hB.cell (p := ⟨b1, o1 + k * 2 + 1, none⟩) hb1).trans g2
      have e0 := (hB.cell (p := ⟨c, 0, none⟩) hcw).trans h1
      clear hc1 HC g1 g2 h1
      obtain ⟨x, y, hxy⟩ : ∃ x y, l.getD k (0, 0) = (x, y) := ⟨_, _, rfl⟩
      rw [hxy] at e1 e2
      simp only at e1 e2
      have HX := hide hxy
      clear hxy
      have hcl := check1_any c b1 o1 c1 l.length k x y _ e0 hlt e1 e2
      have HL := hide hcl
      clear hcl e0 e1 e2
      go_wp2_with fail
      refine HL.out.mono ?_
      rintro e w1 ⟨rfl, hB1⟩
      have hB2 := hB.trans (hB1.mono hB.size)
      by_cases hm : may (x, y) = true
      · rw [hm]
        go_wp2
        go_roundw
        case rel =>
          refine ⟨k + 1, by omega, by go_num, fun j hj => ?_, hB2⟩
          by_cases hjk : j < k
          · exact HA.out j hjk
          · rw [show j = k by omega, HX.out]; exact hm
        case measure => simp [intOf]; omega
      · have hm' : may (x, y) = false := by simpa using hm
        rw [hm']
        clear hm
        go_wp2
        go_ret
        have hfb : fb l = k := fb_at hlt HA.out (by rw [HX.out]; exact hm')
        rw [← HR.out, hfb]
        exact ⟨rfl, hB2⟩
    · go_wp2
      go_ret
      have hfb : fb l = l.length := fb_all fun j hj => HA.out j (by omega)
      rw [← HR.out, hfb]
      exact ⟨rfl, hB⟩

set_option maxRecDepth 100000 in
set_option maxHeartbeats 1000000 in
theorem check_any (v : Value) (l : List Fault) (w : World) (h : Flts w v l) (hs : l.length ≤ maxLen) :
    Calls Try.prog 9 #[v] w fun e w' => e = .returned (.tuple #[.int .i64 (chk l).1, .int .i64 (chk l).2]) ∧ Below w.heap.size w w' := by
  unfold maxLen at hs
  by_cases hlong : 4096 < l.length
  · obtain ⟨a1, c1, rfl, hc⟩ := flts_form h
    rw [chk_long hlong]
    clear hc h
    go_enter Try.func9, Try.ntmps9
    go_wp2
    go_ret2
    exact ⟨rfl, (Below.refl _ _).alloc (Nat.le_refl _) _⟩
  · obtain ⟨a1, c1, rfl, -⟩ := flts_form h
    have hc2 : ∀ o, Flts (w.alloc o) (.slice a1 l.length c1) l := fun o => h.below ((Below.refl _ _).alloc (Nat.le_refl _) _)
    have HC := hide hc2
    clear hc2 h
    have hle := fb_le l
    generalize hR : chk l = R
    have HR := hide hR
    clear hR
    go_enter Try.func9, Try.ntmps9
    go_wp2_with fail
    obtain ⟨a2, c2, heq, hf⟩ := flts_form (HC.out (Obj.cells #[Value.slice a1 l.length c1] 22))
    cases heq
    refine (first_check w.heap.size _ _ l _ (by omega) (cell_new _ _ _) (hide hf)).mono ?_
    clear hf HC
    rintro e w1 ⟨rfl, hB1⟩
    have hB2 := ((Below.refl w.heap.size w).alloc (Nat.le_refl _) (Obj.cells #[Value.slice a1 l.length c1] 22)).trans (hB1.mono (Nat.le_of_lt (size_new _ _)))
    have e0 : w1.cell? ⟨w.heap.size, 0, none⟩ = some (.slice a1 l.length c1) := (hB1.cell (p := ⟨w.heap.size, 0, none⟩) (size_new _ _)).trans (cell_new _ _ _)
    by_cases hb : fb l < l.length
    · go_wp2
      go_ret2
      rw [← HR.out, chk_bad hlong hb]
      exact ⟨rfl, hB2⟩
    · have hb' : fb l = l.length := by omega
      rw [hb']
      go_wp2
      go_quiet (fail)
      go_wp2
      go_ret2
      rw [← HR.out, chk_good hlong hb']
      exact ⟨rfl, below_drewN hB2 _⟩
end Go.Proofs.Ytnabnnckhdileaa

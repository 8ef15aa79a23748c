/- Check and the reference's Check, for any faults. -/
import Derived.Test.YtnabnnckhdileaaFltsB
namespace Go.Proofs.Ytnabnnckhdileaa
open Go.RowKit

/-- The number of the first fault that may not be. -/
def fb (l : List Fault) : Nat := l.findIdx fun x => !may x
theorem fb_le (l : List Fault) : fb l ≤ l.length := List.findIdx_le_length
theorem fb_at {l : List Fault} {k : Nat} (hk : k < l.length) (ha : ∀ j, j < k → may (l.getD j (0, 0)) = true) (hb : may (l.getD k (0, 0)) = false) : fb l = k := by
  unfold fb
  refine (List.findIdx_eq hk).2 ⟨?_, fun j hj => ?_⟩
  · rw [List.getD_eq_getElem?_getD, List.getElem?_eq_getElem hk] at hb
    simpa using hb
  · have := ha j hj
    rw [List.getD_eq_getElem?_getD, List.getElem?_eq_getElem (by omega)] at this
    simpa using this
theorem fb_all {l : List Fault} (ha : ∀ j, j < l.length → may (l.getD j (0, 0)) = true) : fb l = l.length := by
  unfold fb
  refine List.findIdx_eq_length.2 fun x hx => ?_
  obtain ⟨j, hj, rfl⟩ := List.getElem_of_mem hx
  have := ha j hj
  rw [List.getD_eq_getElem?_getD, List.getElem?_eq_getElem hj] at this
  simpa using this
theorem fb_good {l : List Fault} (h : fb l = l.length) : ∀ j, j < l.length → may (l.getD j (0, 0)) = true := by
  intro j hj
  have := List.findIdx_eq_length.1 h l[j] (List.getElem_mem hj)
  rw [List.getD_eq_getElem?_getD, List.getElem?_eq_getElem hj]
  simpa using this
/-- What Check answers. -/
def chk (l : List Fault) : Int × Int := if 4096 < l.length then (3, 0) else if fb l < l.length then (21, (fb l : Int)) else (0, (l.length : Int))
theorem chk_long {l : List Fault} (h : 4096 < l.length) : chk l = (3, 0) := by simp [chk, h]
theorem chk_bad {l : List Fault} (h : ¬ 4096 < l.length) (hb : fb l < l.length) : chk l = (21, (fb l : Int)) := by simp [chk, h, hb]
theorem chk_good {l : List Fault} (h : ¬ 4096 < l.length) (hb : fb l = l.length) : chk l = (0, (l.length : Int)) := by simp [chk, h, hb]

set_option maxRecDepth 100000 in
set_option maxHeartbeats 1000000 in
theorem rcheck_any (v : Value) (l : List Fault) (w : World) (h : Flts w v l) (hs : l.length ≤ maxLen) :
    Calls Try.prog 10 #[v] w fun e w' => e = .returned (.tuple #[.int .i64 (chk l).1, .int .i64 (chk l).2]) ∧ Below w.heap.size w w' := by
  unfold maxLen at hs
  obtain ⟨a1, c1, rfl, hc⟩ := flts_form h
  have HC := hide hc
  clear hc h
  by_cases hlong : 4096 < l.length
  · rw [chk_long hlong]
    go_enter Try.func10, Try.ntmps10
    go_wp2
    go_ret2
    exact ⟨rfl, Below.refl _ _⟩
  · generalize hR : chk l = R
    have HR := hide hR
    clear hR
    go_enter Try.func10, Try.ntmps10
    go_wp2
    go_loopw [4] (fun i wr => ∃ (k : Nat), k ≤ l.length ∧ i = .int .i64 k ∧ (∀ j, j < k → may (l.getD j (0, 0)) = true) ∧ Below w.heap.size w wr) (fun i _ => l.length - (intOf i).toNat)
    case atStart => exact ⟨0, Nat.zero_le _, rfl, fun j hj => absurd hj (by omega), Below.refl _ _⟩
    case round =>
      obtain ⟨k, hk, rfl, ha, hB⟩ := hrel
      have HA := hide ha
      clear ha
      by_cases hlt : k < l.length
      · obtain ⟨b1, o1, rfl, hc1⟩ := HC.out (by omega)
        obtain ⟨g1, g2⟩ := hc1 k hlt
        have hb1 := World.block_lt_of_cell? w _ g1
        have e1 := (hB.cell (p := ⟨b1, o1 + k * 2, none⟩) hb1).trans g1
        have e2 := (hB.cell (p := ⟨b1, o1 + k * 2 + 1, none⟩) hb1).trans g2
        clear hc1 HC g1 g2
        have hk1 : (0 : Int) ≤ (k : Int) := by omega
        have hk2 : (k : Int) < (l.length : Int) := by omega
        have hmay : ∃ x y, l.getD k (0, 0) = (x, y) := ⟨_, _, rfl⟩
        obtain ⟨x, y, hxy⟩ := hmay
        rw [hxy] at e1 e2
        simp only at e1 e2
        have HX := hide hxy
        clear hxy
        go_wp2_with fail
        refine (may_any x y _).mono ?_
        rintro e w1 ⟨rfl, hB1⟩
        have hB2 := hB.trans (hB1.mono hB.size)
        by_cases hm : may (x, y) = true
        · rw [hm]
          go_wp2
          go_roundw
          case rel =>
            refine ⟨k + 1, by omega, by go_num, fun j hj => ?_, hB2⟩
            by_cases hjk : j < k
            · exact HA.out j hjk
            · rw [show j = k by omega, HX.out]; exact hm
          case measure => simp [intOf]; omega
        · have hm' : may (x, y) = false := by simpa using hm
          rw [hm']
          clear hm
          go_wp2
          go_ret2
          have hfb : fb l = k := fb_at hlt HA.out (by rw [HX.out]; exact hm')
          rw [← HR.out, chk_bad hlong (by omega), hfb]
          exact ⟨rfl, hB2⟩
      · go_wp2
        go_ret2
        have hfb : fb l = l.length := fb_all fun j hj => HA.out j (by omega)
        rw [← HR.out, chk_good hlong hfb]
        exact ⟨rfl, hB⟩
end Go.Proofs.Ytnabnnckhdileaa

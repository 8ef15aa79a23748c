/- Openmode: OpenmodeBack. -/
import Derived.Test.YtlkohgnapaoegaaOmBackP
namespace Go.Proofs.Ytlkohgnapaoegaa
open Go.RowKit

/-- Does c stand among the first k? -/
def sk (l : List UInt8) (c : UInt8) (k : Nat) : Bool := (List.range k).any fun j => decide (l.getD j 0 = c)
theorem sk_succ (l : List UInt8) (c : UInt8) (k : Nat) : sk l c (k + 1) = (sk l c k || decide (l.getD k 0 = c)) := by simp [sk, List.range_succ]
theorem sk_mem {l : List UInt8} {c : UInt8} {n : Nat} (h : c ∈ l) (hn : l.length = n) : sk l c n = true := by
  obtain ⟨j, hj, rfl⟩ := List.getElem_of_mem h
  simp only [sk, List.any_eq_true, List.mem_range, decide_eq_true_eq]
  exact ⟨j, by omega, by simp [List.getD_eq_getElem?_getD, List.getElem?_eq_getElem hj]⟩
theorem getD_mem {l : List UInt8} {i : Nat} (h : i < l.length) : l.getD i 0 ∈ l := by
  rw [List.getD_eq_getElem?_getD, List.getElem?_eq_getElem h]
  exact List.getElem_mem h
set_option maxRecDepth 100000 in
set_option maxHeartbeats 2000000 in
theorem back_any (m : Mo) (s : ByteArray) (w : World) (hs : s.size ≤ maxLen) : Calls Try.prog 5 #[mv m, .string s] w fun e w' => e = .returned (.bool true) ∧ Below w.heap.size w w' := by
  have h1 := hide (print_any m)
  have h2 := hide (fun (hc : chkM m = 0) w => parse_any ⟨(spl m).toArray⟩ w (by have := spl_len m; unfold maxLen; simp [ByteArray.size]; omega))
  have h3 := hide (fun w => parse_any s w hs)
  have hn := hide num_om
  have hT := hide (fun (n : Nat) (h : (prs mo0 0 s.data.toList) = ((prs mo0 0 s.data.toList).1, 0, n)) => text_back h)
  have hP := hide (fun x => print_any x)
  have hpt := hide (prs_two mo0 0 s.data.toList)
  generalize prs mo0 0 s.data.toList = R at *
  obtain ⟨y, f, n⟩ := R
  unfold maxLen at hs
  simp only [mv] at h1 h3 ⊢
  go_enter Try.func5, Try.ntmps5
  go_wp2_with fail
  refine (oalive_any _).mono ?_
  rintro e0 w0 ⟨rfl, hB0⟩
  have hA : MoAt (w.alloc (Obj.cells (mc m) 23)) w.heap.size m := heap_alloc_new _ _
  have HM0 := hide (hA.below hB0)
  have HB0 := hide (((Below.refl w.heap.size w).alloc (Nat.le_refl _) (Obj.cells (mc m) 23)).trans (hB0.mono (Nat.le_of_lt (size_new _ _))))
  clear hB0 hA
  obtain ⟨c0, c1, c2, c3, c4, c5, c6, c7⟩ := HM0.out.mc
  rcases chk_two m with hc | hc
  case inl =>
    obtain ⟨k1, k2⟩ := chk_back hc
    have h2' := hide (h2.out hc)
    rw [hc, k2] at h1
    have hdat : (⟨(spl m).toArray⟩ : ByteArray).data.toList = spl m := by simp
    rw [k1] at h2'
    simp only [mv] at h2'
    have hszt : (spl m).length = (⟨(spl m).toArray⟩ : ByteArray).size := by simp [ByteArray.size]
    rw [hszt] at h2'
    generalize (⟨(spl m).toArray⟩ : ByteArray) = t at *
    clear h2 k1 k2 hc hdat hszt
    go_wp2_with fail
    refine (h1.out _).mono ?_
    rintro e1 w1 ⟨rfl, hB1⟩
    have HM1 := hide (HM0.out.below hB1)
    have HB1 := hide (HB0.out.trans (hB1.mono HB0.out.size))
    clear hB1 c0 c1 c2 c3 c4 c5 c6 c7 HM0 HB0
    go_wp2_with (go_at_call 8; refine (hn.out _ _).mono ?_; rintro e w' ⟨rfl, rfl⟩)
    refine (h2'.out _).mono ?_
    rintro e2 w2 ⟨rfl, hB2⟩
    have hMx : ∀ o, MoAt (w2.alloc o) w.heap.size m := fun o => (HM1.out.below hB2).below ((Below.refl _ _).alloc (Nat.le_refl _) o)
    have c0 : ∀ o, (w2.alloc o).cell? ⟨w.heap.size, 0, none⟩ = some (.bool m.rd) := fun o => (hMx o).cell 0
    have c1 : ∀ o, (w2.alloc o).cell? ⟨w.heap.size, 1, none⟩ = some (.bool m.wr) := fun o => (hMx o).cell 1
    have c2 : ∀ o, (w2.alloc o).cell? ⟨w.heap.size, 2, none⟩ = some (.bool m.ap) := fun o => (hMx o).cell 2
    have c3 : ∀ o, (w2.alloc o).cell? ⟨w.heap.size, 3, none⟩ = some (.bool m.cr) := fun o => (hMx o).cell 3
    have c4 : ∀ o, (w2.alloc o).cell? ⟨w.heap.size, 4, none⟩ = some (.bool m.tr) := fun o => (hMx o).cell 4
    have c5 : ∀ o, (w2.alloc o).cell? ⟨w.heap.size, 5, none⟩ = some (.bool m.ex) := fun o => (hMx o).cell 5
    have c6 : ∀ o, (w2.alloc o).cell? ⟨w.heap.size, 6, none⟩ = some (.bool m.bi) := fun o => (hMx o).cell 6
    have c7 : ∀ o, (w2.alloc o).cell? ⟨w.heap.size, 7, none⟩ = some (.bool m.ma) := fun o => (hMx o).cell 7
    have HBz := hide (fun o => (HB1.out.trans (hB2.mono HB1.out.size)).alloc (HB1.out.trans (hB2.mono HB1.out.size)).size o)
    clear hB2 HB1 HM1 hMx h1 h2'
    go_wp2_with (go_at_call 8; refine (hn.out _ _).mono ?_; rintro e w' ⟨rfl, rfl⟩)
    have HZ := hide (HBz.out (Obj.cells (mc m) 23))
    change Calls _ _ _ (w2.alloc (Obj.cells (mc m) 23)) _
    generalize w2.alloc (Obj.cells (mc m) 23) = wz at *
    clear HBz c0 c1 c2 c3 c4 c5 c6 c7
    refine (h3.out _).mono ?_
    rintro e3 w3 ⟨rfl, hB3⟩
    have HB3 := hide (HZ.out.trans (hB3.mono HZ.out.size))
    clear hB3 HZ h3
    rcases hpt.out with hf | ⟨hf, hy⟩
    · have hf' : f = 0 := hf
      subst hf'
      obtain ⟨t1, t2, t3⟩ : chkM y = 0 ∧ (spl y).length = s.data.toList.length ∧ ∀ c ∈ s.data.toList, c ∈ spl y := hT.out n rfl
      have hpy := hide (hP.out y)
      rw [t1, show prt y = spl y by simp [prt, t1]] at hpy
      have hsz2 : (⟨(spl y).toArray⟩ : ByteArray).size = s.size := by simp only [ByteArray.size, List.size_toArray, t2, Array.length_toList]
      have hin : ∀ c ∈ s.data.toList, c ∈ (⟨(spl y).toArray⟩ : ByteArray).data.toList := t3
      generalize (⟨(spl y).toArray⟩ : ByteArray) = t' at *
      have HI := hide hin
      clear hin t1 t2 t3 hP hT hpt
      simp only [mv] at hpy
      go_wp2_with (first | (go_at_call 8; refine (hn.out _ _).mono ?_; rintro e w' ⟨rfl, rfl⟩) | (go_at_call 10; refine (hpy.out _).mono ?_; rintro e4 w4 ⟨rfl, hB4⟩; have HB4 := hide ((HB3.out.alloc HB3.out.size (Obj.cells (mc y) 23)).trans (hB4.mono (Nat.le_trans HB3.out.size (Nat.le_of_lt (size_new _ _))))); clear hB4))
      go_loopg [13] s.size (fun g s13 wx => ∃ i : Nat, i + g = s.size ∧ s13 = .int .i64 i ∧ Hid (Below w.heap.size w wx))
      case atStart => exact ⟨0, by omega, rfl, HB4⟩
      case round =>
        clear HB4 HB3
        obtain ⟨i, hig, rfl, HB⟩ := hrel
        by_cases hlt : i < s.size
        · have hl1 : (i : Int) < (s.size : Int) := by omega
          have hl0 : (0 : Int) ≤ (i : Int) := by omega
          obtain ⟨g, rfl⟩ : ∃ g, gk = g + 1 := ⟨gk - 1, by omega⟩
          go_wp2
          go_loopg [14, 15] t'.size (fun g2 s14 s15 wy => ∃ k : Nat, k + g2 = t'.size ∧ s15 = .int .i64 k ∧ s14 = .bool (sk t'.data.toList (s.data.toList.getD i 0) k) ∧ Hid (Below w.heap.size w wy))
          case atStart => exact ⟨0, by omega, rfl, rfl, HB⟩
          case round =>
            clear HB
            obtain ⟨k, hkg, rfl, rfl, HB⟩ := hrel
            by_cases hki : k < t'.size
            · have hk3 : (k : Int) < (t'.size : Int) := by omega
              have hk4 : (0 : Int) ≤ (k : Int) := by omega
              have hk5 : (k : Int) < (s.size : Int) := by omega
              obtain ⟨g2, rfl⟩ : ∃ g2, gk = g2 + 1 := ⟨gk - 1, by omega⟩
              have HS := hide (sk_succ t'.data.toList (s.data.toList.getD i 0) k)
              have HX := hide (at_getD hki)
              have HY := hide (at_getD hlt)
              cases ht : sk t'.data.toList (s.data.toList.getD i 0) k with
              | true =>
                have HT := hide ht
                clear ht
                go_wp2
                go_quiet (fail)
                go_wp2
                go_roundg g2
                case measure => omega
                case rel => exact ⟨k + 1, by omega, by go_num, by rw [HS.out, HT.out]; rfl, below_drewN HB.out _⟩
              | false =>
                have HT := hide ht
                clear ht
                go_wp2
                go_quiet (fail)
                go_wp2
                go_roundg g2
                case measure => omega
                case rel => exact ⟨k + 1, by omega, by go_num, by rw [HS.out, HT.out, ← HX.out, ← HY.out, Bool.false_or, u8_eq], below_drewN HB.out _⟩
            · obtain rfl : k = t'.size := by omega
              have htrue : sk t'.data.toList (s.data.toList.getD i 0) t'.size = true := sk_mem (HI.out _ (getD_mem (by rw [Array.length_toList]; exact hlt))) (Array.length_toList)
              rw [htrue]
              clear htrue
              go_wp2
              go_roundg g
              case measure => omega
              case rel => exact ⟨i + 1, by omega, by go_num, HB⟩
        · have hl1 : ¬ (i : Int) < (s.size : Int) := by omega
          go_wp2
          go_ret
          exact ⟨rfl, HB.out⟩
    · have hf' : f = 91 := hf
      have hy' : y = mo0 := hy
      subst hf' hy'
      clear hP hT hpt
      go_wp2_with (go_at_call 8; refine (hn.out _ _).mono ?_; rintro e w' ⟨rfl, rfl⟩)
      go_ret
      exact ⟨rfl, HB3.out.alloc HB3.out.size _⟩
  case inr =>
    rw [hc, show prt m = [] by simp [prt, hc]] at h1
    clear h2 hc
    go_wp2_with fail
    refine (h1.out _).mono ?_
    rintro e1 wz ⟨rfl, hB1⟩
    have HZ := hide (HB0.out.trans (hB1.mono HB0.out.size))
    clear hB1 c0 c1 c2 c3 c4 c5 c6 c7 HM0 HB0 h1
    go_wp2_with (go_at_call 8; refine (hn.out _ _).mono ?_; rintro e w' ⟨rfl, rfl⟩)
    refine (h3.out _).mono ?_
    rintro e3 w3 ⟨rfl, hB3⟩
    have HB3 := hide (HZ.out.trans (hB3.mono HZ.out.size))
    clear hB3 HZ h3
    rcases hpt.out with hf | ⟨hf, hy⟩
    · have hf' : f = 0 := hf
      subst hf'
      obtain ⟨t1, t2, t3⟩ : chkM y = 0 ∧ (spl y).length = s.data.toList.length ∧ ∀ c ∈ s.data.toList, c ∈ spl y := hT.out n rfl
      have hpy := hide (hP.out y)
      rw [t1, show prt y = spl y by simp [prt, t1]] at hpy
      have hsz2 : (⟨(spl y).toArray⟩ : ByteArray).size = s.size := by simp only [ByteArray.size, List.size_toArray, t2, Array.length_toList]
      have hin : ∀ c ∈ s.data.toList, c ∈ (⟨(spl y).toArray⟩ : ByteArray).data.toList := t3
      generalize (⟨(spl y).toArray⟩ : ByteArray) = t' at *
      have HI := hide hin
      clear hin t1 t2 t3 hP hT hpt
      simp only [mv] at hpy
      go_wp2_with (first | (go_at_call 8; refine (hn.out _ _).mono ?_; rintro e w' ⟨rfl, rfl⟩) | (go_at_call 10; refine (hpy.out _).mono ?_; rintro e4 w4 ⟨rfl, hB4⟩; have HB4 := hide ((HB3.out.alloc HB3.out.size (Obj.cells (mc y) 23)).trans (hB4.mono (Nat.le_trans HB3.out.size (Nat.le_of_lt (size_new _ _))))); clear hB4))
      go_loopg [13] s.size (fun g s13 wx => ∃ i : Nat, i + g = s.size ∧ s13 = .int .i64 i ∧ Hid (Below w.heap.size w wx))
      case atStart => exact ⟨0, by omega, rfl, HB4⟩
      case round =>
        clear HB4 HB3
        obtain ⟨i, hig, rfl, HB⟩ := hrel
        by_cases hlt : i < s.size
        · have hl1 : (i : Int) < (s.size : Int) := by omega
          have hl0 : (0 : Int) ≤ (i : Int) := by omega
          obtain ⟨g, rfl⟩ : ∃ g, gk = g + 1 := ⟨gk - 1, by omega⟩
          go_wp2
          go_loopg [14, 15] t'.size (fun g2 s14 s15 wy => ∃ k : Nat, k + g2 = t'.size ∧ s15 = .int .i64 k ∧ s14 = .bool (sk t'.data.toList (s.data.toList.getD i 0) k) ∧ Hid (Below w.heap.size w wy))
          case atStart => exact ⟨0, by omega, rfl, rfl, HB⟩
          case round =>
            clear HB
            obtain ⟨k, hkg, rfl, rfl, HB⟩ := hrel
            by_cases hki : k < t'.size
            · have hk3 : (k : Int) < (t'.size : Int) := by omega
              have hk4 : (0 : Int) ≤ (k : Int) := by omega
              have hk5 : (k : Int) < (s.size : Int) := by omega
              obtain ⟨g2, rfl⟩ : ∃ g2, gk = g2 + 1 := ⟨gk - 1, by omega⟩
              have HS := hide (sk_succ t'.data.toList (s.data.toList.getD i 0) k)
              have HX := hide (at_getD hki)
              have HY := hide (at_getD hlt)
              cases ht : sk t'.data.toList (s.data.toList.getD i 0) k with
              | true =>
                have HT := hide ht
                clear ht
                go_wp2
                go_quiet (fail)
                go_wp2
                go_roundg g2
                case measure => omega
                case rel => exact ⟨k + 1, by omega, by go_num, by rw [HS.out, HT.out]; rfl, below_drewN HB.out _⟩
              | false =>
                have HT := hide ht
                clear ht
                go_wp2
                go_quiet (fail)
                go_wp2
                go_roundg g2
                case measure => omega
                case rel => exact ⟨k + 1, by omega, by go_num, by rw [HS.out, HT.out, ← HX.out, ← HY.out, Bool.false_or, u8_eq], below_drewN HB.out _⟩
            · obtain rfl : k = t'.size := by omega
              have htrue : sk t'.data.toList (s.data.toList.getD i 0) t'.size = true := sk_mem (HI.out _ (getD_mem (by rw [Array.length_toList]; exact hlt))) (Array.length_toList)
              rw [htrue]
              clear htrue
              go_wp2
              go_roundg g
              case measure => omega
              case rel => exact ⟨i + 1, by omega, by go_num, HB⟩
        · have hl1 : ¬ (i : Int) < (s.size : Int) := by omega
          go_wp2
          go_ret
          exact ⟨rfl, HB.out⟩
    · have hf' : f = 91 := hf
      have hy' : y = mo0 := hy
      subst hf' hy'
      clear hP hT hpt
      go_wp2_with (go_at_call 8; refine (hn.out _ _).mono ?_; rintro e w' ⟨rfl, rfl⟩)
      go_ret
      exact ⟨rfl, HB3.out.alloc HB3.out.size _⟩
end Go.Proofs.Ytlkohgnapaoegaa

/- Openmode: the laws. -/
import Derived.Test.YtlkohgnapaoegaaOmAlive
import Derived.Deep.RegionHeld3
namespace Go.Proofs.Ytlkohgnapaoegaa
open Go.RowKit

set_option maxRecDepth 100000 in
set_option maxHeartbeats 1000000 in
theorem parses_any (s : ByteArray) (w : World) (hs : s.size ≤ maxLen) : Calls Try.prog 3 #[.string s] w fun e w' => e = .returned (.bool true) ∧ Below w.heap.size w w' := by
  have h1 := hide (fun w => parse_any s w hs)
  have h2 := hide (fun w => rparse_any s w hs)
  have hn := hide num_om
  generalize prs mo0 0 s.data.toList = R at *
  obtain ⟨m, e, n⟩ := R
  simp only [mv] at h1 h2
  go_enter Try.func3, Try.ntmps3
  go_wp2_with fail
  refine (h1.out _).mono ?_
  rintro e1 w1 ⟨rfl, hB1⟩
  go_wp2_with fail
  refine (h2.out _).mono ?_
  rintro e2 w2 ⟨rfl, hB2⟩
  have hM : ∀ o, MoAt (w2.alloc o) w1.heap.size m := fun o => ((show MoAt (w1.alloc (Obj.cells (mc m) 23)) w1.heap.size m from heap_alloc_new _ _).below hB2).below ((Below.refl _ _).alloc (Nat.le_refl _) o)
  have c0 : ∀ o, (w2.alloc o).cell? ⟨w1.heap.size, 0, none⟩ = some (.bool m.rd) := fun o => (hM o).cell 0
  have c1 : ∀ o, (w2.alloc o).cell? ⟨w1.heap.size, 1, none⟩ = some (.bool m.wr) := fun o => (hM o).cell 1
  have c2 : ∀ o, (w2.alloc o).cell? ⟨w1.heap.size, 2, none⟩ = some (.bool m.ap) := fun o => (hM o).cell 2
  have c3 : ∀ o, (w2.alloc o).cell? ⟨w1.heap.size, 3, none⟩ = some (.bool m.cr) := fun o => (hM o).cell 3
  have c4 : ∀ o, (w2.alloc o).cell? ⟨w1.heap.size, 4, none⟩ = some (.bool m.tr) := fun o => (hM o).cell 4
  have c5 : ∀ o, (w2.alloc o).cell? ⟨w1.heap.size, 5, none⟩ = some (.bool m.ex) := fun o => (hM o).cell 5
  have c6 : ∀ o, (w2.alloc o).cell? ⟨w1.heap.size, 6, none⟩ = some (.bool m.bi) := fun o => (hM o).cell 6
  have c7 : ∀ o, (w2.alloc o).cell? ⟨w1.heap.size, 7, none⟩ = some (.bool m.ma) := fun o => (hM o).cell 7
  have hBB : ∀ o, Below w.heap.size w (w2.alloc o) := fun o => by
    have q2 := (hB1.alloc hB1.size (Obj.cells (mc m) 23)).trans (hB2.mono (Nat.le_trans hB1.size (Nat.le_of_lt (size_new _ _))))
    exact q2.alloc q2.size o
  have HBB := hide hBB
  clear hM hBB hB1 hB2 h1 h2
  go_wp2_with (first | (go_at_call 8; refine (hn.out _ _).mono ?_; rintro e w' ⟨rfl, rfl⟩) | (go_at_call 9; refine (oalive_any _).mono ?_; rintro e w3 ⟨rfl, hB3⟩))
  go_ret
  exact ⟨rfl, (HBB.out _).trans (hB3.mono (HBB.out _).size)⟩
set_option maxRecDepth 100000 in
set_option maxHeartbeats 1000000 in
theorem prints_any (m : Mo) (w : World) : Calls Try.prog 4 #[mv m] w fun e w' => e = .returned (.bool true) ∧ Below w.heap.size w w' := by
  have h1 := hide (print_any m)
  have h2 := hide (rprint_any m)
  have h3 := hide (flags_any m)
  have h4 := hide (rflags_any m)
  have h5 := hide (check_any m)
  have h6 := hide (rcheck_any m)
  rw [chk_same] at h6
  have hn := hide num_om
  generalize (⟨(prt m).toArray⟩ : ByteArray) = t at *
  generalize flg m = fl at *
  generalize chkM m = e at *
  simp only [mv] at h1 h2 h3 h4 h5 h6 ⊢
  go_enter Try.func4, Try.ntmps4
  go_wp2_with fail
  refine (h1.out _).mono ?_
  rintro e1 w1 ⟨rfl, hB1⟩
  obtain ⟨⟨c0, c1, c2, c3, c4, c5, c6, c7⟩, hBB1, hM1⟩ := mode_new (m := m) hB1
  have HM1 := hide hM1
  have HB1 := hide hBB1
  clear hB1 hM1 hBB1
  go_wp2_with fail
  refine (h2.out _).mono ?_
  rintro e2 w2 ⟨rfl, hB2⟩
  have HM2 := hide (HM1.out.below hB2)
  have HB2 := hide (HB1.out.trans (hB2.mono HB1.out.size))
  clear hB2 c0 c1 c2 c3 c4 c5 c6 c7
  obtain ⟨c0, c1, c2, c3, c4, c5, c6, c7⟩ := HM2.out.mc
  go_wp2_with fail
  refine (h3.out _).mono ?_
  rintro e3 w3 ⟨rfl, hB3⟩
  have HM3 := hide (HM2.out.below hB3)
  have HB3 := hide (HB2.out.trans (hB3.mono HB2.out.size))
  clear hB3 c0 c1 c2 c3 c4 c5 c6 c7
  obtain ⟨c0, c1, c2, c3, c4, c5, c6, c7⟩ := HM3.out.mc
  go_wp2_with fail
  refine (h4.out _).mono ?_
  rintro e4 w4 ⟨rfl, hB4⟩
  have HM4 := hide (HM3.out.below hB4)
  have HB4 := hide (HB3.out.trans (hB4.mono HB3.out.size))
  clear hB4 c0 c1 c2 c3 c4 c5 c6 c7
  obtain ⟨c0, c1, c2, c3, c4, c5, c6, c7⟩ := HM4.out.mc
  go_wp2_with fail
  have HS : Hid (∀ w', Below w4.heap.size w4 w' → (fun w' => w'.cell? ⟨w.heap.size, 0, none⟩ = some (.bool m.rd) ∧ w'.cell? ⟨w.heap.size, 1, none⟩ = some (.bool m.wr) ∧ w'.cell? ⟨w.heap.size, 2, none⟩ = some (.bool m.ap) ∧ w'.cell? ⟨w.heap.size, 3, none⟩ = some (.bool m.cr) ∧ w'.cell? ⟨w.heap.size, 4, none⟩ = some (.bool m.tr) ∧ w'.cell? ⟨w.heap.size, 5, none⟩ = some (.bool m.ex) ∧ w'.cell? ⟨w.heap.size, 6, none⟩ = some (.bool m.bi) ∧ w'.cell? ⟨w.heap.size, 7, none⟩ = some (.bool m.ma)) w') := fun w' hb => (HM4.out.below hb).mc
  go_region_held3 (fun w' => w'.cell? ⟨w.heap.size, 0, none⟩ = some (.bool m.rd) ∧ w'.cell? ⟨w.heap.size, 1, none⟩ = some (.bool m.wr) ∧ w'.cell? ⟨w.heap.size, 2, none⟩ = some (.bool m.ap) ∧ w'.cell? ⟨w.heap.size, 3, none⟩ = some (.bool m.cr) ∧ w'.cell? ⟨w.heap.size, 4, none⟩ = some (.bool m.tr) ∧ w'.cell? ⟨w.heap.size, 5, none⟩ = some (.bool m.ex) ∧ w'.cell? ⟨w.heap.size, 6, none⟩ = some (.bool m.bi) ∧ w'.cell? ⟨w.heap.size, 7, none⟩ = some (.bool m.ma))
    (first | exact HS.out _ hb7 | exact HS.out _ hb6 | exact HS.out _ hb5 | exact HS.out _ (Below.refl _ _).drew | go_keep)
    (first | (go_at_call 8; refine (hn.out _ _).mono ?_; rintro e w' ⟨rfl, rfl⟩) | (go_at_call 14; refine (h5.out _).mono ?_; rintro e w5 ⟨rfl, hB5⟩; have hb5 : Below w4.heap.size w4 w5 := (Below.refl _ _).drew.trans hB5) | (go_at_call 15; refine (h6.out _).mono ?_; rintro e w6 ⟨rfl, hB6⟩; have hb6 := hb5.trans (hB6.mono hb5.size)) | (go_at_call 9; refine (oalive_any _).mono ?_; rintro e w7 ⟨rfl, hB7⟩; have hb7 := hb6.trans (hB7.mono hb6.size)) | fail)
  all_goals go_wp2
  all_goals go_ret
  all_goals exact ⟨rfl, HB4.out.trans (hb7.mono HB4.out.size)⟩
end Go.Proofs.Ytlkohgnapaoegaa

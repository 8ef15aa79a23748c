/- What the proof stands on, part 6: the contracts of the program's calls that it reaches. -/
import Derived.Test.YtcmfpafcipgejaaDoorKM5
import Derived.KernelRfl
import Derived.Lib.SlBytesConst
/- Scan: the law's num; alive. -/
namespace Go.Proofs.YtcmfpafcipgejaaDoor
open Go.RowKit
def sA1 : Ag := ⟨1, -5, 0, ⟨#[]⟩⟩
def sA2 : Ag := ⟨4, 0, 0, ⟨#[97, 98]⟩⟩
def sA3 : Ag := ⟨1, 12, 0, ⟨#[]⟩⟩
def sA4 : Ag := ⟨1, 34, 0, ⟨#[]⟩⟩
theorem sex_1 : scanV [37, 100, 32, 37, 115] [32, 45, 53, 32, 97, 98, 32, 99] = (([sA1, sA2], 6), 0) := by kernel_rfl
theorem sex_2 : scanV [37, 50, 100, 37, 100] [49, 50, 51, 52] = (([sA3, sA4], 4), 0) := by kernel_rfl
theorem sex_3 : scanV [120, 37, 100] [121, 49] = (([], 0), 181) := by kernel_rfl
theorem sex_4 : scanV [37, 100] [43] = (([], 1), 111) := by kernel_rfl
theorem sab_1 : ∀ x ∈ [sA1, sA2], AB x := by
  intro x hx
  simp only [List.mem_cons, List.not_mem_nil, or_false] at hx
  rcases hx with rfl | rfl
  · exact ⟨⟨by decide, by decide⟩, ⟨by decide, by decide⟩, by decide, by decide, by decide⟩
  · exact ⟨⟨by decide, by decide⟩, ⟨by decide, by decide⟩, by decide, by decide, by decide⟩
theorem sab_2 : ∀ x ∈ [sA3, sA4], AB x := by
  intro x hx
  simp only [List.mem_cons, List.not_mem_nil, or_false] at hx
  rcases hx with rfl | rfl
  · exact ⟨⟨by decide, by decide⟩, ⟨by decide, by decide⟩, by decide, by decide, by decide⟩
  · exact ⟨⟨by decide, by decide⟩, ⟨by decide, by decide⟩, by decide, by decide, by decide⟩
theorem lit_bys (W : World) (l : List UInt8) (cs : Array Value) (fr : Nat × Nat) (n : Nat) (hn : n = l.length) (h0 : 0 < l.length) (hc : cs = (l.map bv).toArray) : Bys (W.alloc (Obj.cells cs 5 fr)) (.slice (some ⟨W.heap.size, 0, none⟩) n n) l := by
  subst hn
  refine .inr (.inr ⟨_, _, _, rfl, h0, fun j hj => ?_⟩)
  have := cell_of_row (W.alloc (Obj.cells cs 5 fr)) W.heap.size j _ _ _ (heap_alloc_new W _)
  rw [Nat.zero_add, this, hc]
  simp [bv, hj, List.getD_eq_getElem?_getD]
theorem conv_lit18 (w : World) (C : Array Value) (n m : Nat) (hm : C.size = m) : (convert 22 22 (.slice (some ⟨w.heap.size, 0, none⟩) n n)).run Tryd.prog (w.alloc (.cells C 5)) = .ok (.slice (some ⟨w.heap.size, 0, none⟩) n n) (w.alloc (.cells C 5 (m, m + 1))) := by
  subst hm
  exact Lib.run_convert_bytes_const w 22 5 C n n Tryd.underlying22 Tryd.underlying5
set_option maxRecDepth 100000 in
set_option maxHeartbeats 4000000 in
theorem alive18 (w : World) : Calls Tryd.prog 4 #[] w fun e w' => e = .returned (.bool true) ∧ Below w.heap.size w w' := by
  have HX1 := hide (fun W => scan_is ⟨#[37, 100, 32, 37, 115]⟩ (some ⟨W.heap.size, 0, none⟩) 8 [32, 45, 53, 32, 97, 98, 32, 99] (W.alloc (Obj.cells #[.int .u8 32, .int .u8 45, .int .u8 53, .int .u8 32, .int .u8 97, .int .u8 98, .int .u8 32, .int .u8 99] 5 (8, 9))) (by decide) (lit_bys W _ _ _ _ rfl (by decide) rfl) (by decide) sex_1)
  have HX2 := hide (fun W => scan_is ⟨#[37, 50, 100, 37, 100]⟩ (some ⟨W.heap.size, 0, none⟩) 4 [49, 50, 51, 52] (W.alloc (Obj.cells #[.int .u8 49, .int .u8 50, .int .u8 51, .int .u8 52] 5 (4, 5))) (by decide) (lit_bys W _ _ _ _ rfl (by decide) rfl) (by decide) sex_2)
  have HX3 := hide (fun W => scan_is ⟨#[120, 37, 100]⟩ (some ⟨W.heap.size, 0, none⟩) 2 [121, 49] (W.alloc (Obj.cells #[.int .u8 121, .int .u8 49] 5 (2, 3))) (by decide) (lit_bys W _ _ _ _ rfl (by decide) rfl) (by decide) sex_3)
  have HX4 := hide (fun W => scan_is ⟨#[37, 100]⟩ (some ⟨W.heap.size, 0, none⟩) 1 [43] (W.alloc (Obj.cells #[.int .u8 43] 5 (1, 2))) (by decide) (lit_bys W _ _ _ _ rfl (by decide) rfl) (by decide) sex_4)
  simp only [List.length_cons, List.length_nil, Nat.zero_add, Nat.reduceAdd] at HX1 HX2 HX3 HX4
  go_enter Tryd.func4, Tryd.ntmps4
  have cl := conv_lit18 w #[.int .u8 32, .int .u8 45, .int .u8 53, .int .u8 32, .int .u8 97, .int .u8 98, .int .u8 32, .int .u8 99] 8 8 rfl
  go_wp2_with fail
  refine (HX1.out _).mono ?_
  rintro _ w1 ⟨u1, rfl, hu, hB⟩
  have HB1 := hide ((fm_below w (Obj.cells #[.int .u8 32, .int .u8 45, .int .u8 53, .int .u8 32, .int .u8 97, .int .u8 98, .int .u8 32, .int .u8 99] 5 (8, 9))).trans (hB.mono (fm_below w (Obj.cells #[.int .u8 32, .int .u8 45, .int .u8 53, .int .u8 32, .int .u8 97, .int .u8 98, .int .u8 32, .int .u8 99] 5 (8, 9))).size))
  have HU1 := hide hu
  obtain ⟨a1, c1, rfl⟩ := owns_slice hu
  clear hu hB HX1
  have cl := conv_lit18 w1 #[.int .u8 49, .int .u8 50, .int .u8 51, .int .u8 52] 4 4 rfl
  go_wp2_with fail
  refine (HX2.out _).mono ?_
  rintro _ w2 ⟨u2, rfl, hu, hB⟩
  have HB2 := hide (HB1.out.trans (((fm_below w1 (Obj.cells #[.int .u8 49, .int .u8 50, .int .u8 51, .int .u8 52] 5 (4, 5))).trans (hB.mono (fm_below w1 (Obj.cells #[.int .u8 49, .int .u8 50, .int .u8 51, .int .u8 52] 5 (4, 5))).size)).mono HB1.out.size))
  have HU12 := hide (owns_below HU1.out ((fm_below w1 (Obj.cells #[.int .u8 49, .int .u8 50, .int .u8 51, .int .u8 52] 5 (4, 5))).trans (hB.mono (fm_below w1 (Obj.cells #[.int .u8 49, .int .u8 50, .int .u8 51, .int .u8 52] 5 (4, 5))).size)))
  have HU2 := hide hu
  obtain ⟨a2, c2, rfl⟩ := owns_slice hu
  clear hu hB HX2 HU1 HB1
  have cl := conv_lit18 w2 #[.int .u8 121, .int .u8 49] 2 2 rfl
  go_wp2_with fail
  refine (HX3.out _).mono ?_
  rintro _ w3 ⟨u3, rfl, hu, hB⟩
  have HB3 := hide (HB2.out.trans (((fm_below w2 (Obj.cells #[.int .u8 121, .int .u8 49] 5 (2, 3))).trans (hB.mono (fm_below w2 (Obj.cells #[.int .u8 121, .int .u8 49] 5 (2, 3))).size)).mono HB2.out.size))
  have HU13 := hide (owns_below HU12.out ((fm_below w2 (Obj.cells #[.int .u8 121, .int .u8 49] 5 (2, 3))).trans (hB.mono (fm_below w2 (Obj.cells #[.int .u8 121, .int .u8 49] 5 (2, 3))).size)))
  have HU23 := hide (owns_below HU2.out ((fm_below w2 (Obj.cells #[.int .u8 121, .int .u8 49] 5 (2, 3))).trans (hB.mono (fm_below w2 (Obj.cells #[.int .u8 121, .int .u8 49] 5 (2, 3))).size)))
  obtain ⟨a3, c3, rfl⟩ := owns_slice hu
  clear hu hB HX3 HU12 HU2 HB2
  have cl := conv_lit18 w3 #[.int .u8 43] 1 1 rfl
  go_wp2_with fail
  refine (HX4.out _).mono ?_
  rintro _ w4 ⟨u4, rfl, hu, hB⟩
  have HB4 := hide (HB3.out.trans (((fm_below w3 (Obj.cells #[.int .u8 43] 5 (1, 2))).trans (hB.mono (fm_below w3 (Obj.cells #[.int .u8 43] 5 (1, 2))).size)).mono HB3.out.size))
  have hU1 := (AgsV.of_owns (owns_below HU13.out ((fm_below w3 (Obj.cells #[.int .u8 43] 5 (1, 2))).trans (hB.mono (fm_below w3 (Obj.cells #[.int .u8 43] 5 (1, 2))).size))) sab_1).1
  have hU2 := (AgsV.of_owns (owns_below HU23.out ((fm_below w3 (Obj.cells #[.int .u8 43] 5 (1, 2))).trans (hB.mono (fm_below w3 (Obj.cells #[.int .u8 43] 5 (1, 2))).size))) sab_2).1
  obtain ⟨a4, c4, rfl⟩ := owns_slice hu
  clear hu hB HX4 HU13 HU23 HB3
  obtain ⟨_, _, e1, -, hd1, -⟩ := hU1
  obtain ⟨_, _, e2, -, hd2, -⟩ := hU2
  cases e1
  cases e2
  obtain ⟨g1, o1, rfl, hc1⟩ := hd1 (by decide)
  obtain ⟨g2, o2, rfl, hc2⟩ := hd2 (by decide)
  have k1 := (hc1 0 (by decide)).c1
  have k2 := (hc1 1 (by decide)).c3
  have k3 := (hc2 1 (by decide)).c1
  simp only [List.getElem_cons_zero, List.getElem_cons_succ, sA1, sA2, sA4, Nat.zero_mul, Nat.add_zero, Nat.one_mul] at k1 k2 k3
  clear hd1 hd2 hc1 hc2
  go_wp2
  go_ret
  exact ⟨rfl, HB4.out⟩
end Go.Proofs.YtcmfpafcipgejaaDoor

/- What num.written answers, for every number and base: its digits, in memory of its own. -/
import Derived.Test.YtnabnnckhdileaaIter
import Derived.Test.YtnabnnckhdileaaLib
namespace Go.Proofs.Ytnabnnckhdileaa
open Go.RowKit Go.Shelf

attribute [local go_sem] Oper.semAt_some

theorem cell_putObj_other {W : World} {l : Nat} {o' : Obj} {b off : Nat} (h : b ≠ l) : (W.putObj l o').cell? ⟨b, off, none⟩ = W.cell? ⟨b, off, none⟩ := by
  simp only [World.cell?]
  rw [World.putObj_heap_other h]


set_option maxRecDepth 100000 in
set_option maxHeartbeats 2000000 in
theorem written_in (f : Nat) (hn : 3 ≤ f) (n b : Nat) (hb : 2 ≤ b) (hb2 : b ≤ 16) (hlt : n < 18446744073709551616) (w : World) :
    CallsIn Fence.wide f Try.prog 48 #[.int .u64 (n : Int), .int .u64 (b : Int)] w fun e W' => e = .returned (.string ⟨(digs b n).toArray⟩) ∧ Below w.heap.size w W' := by
  have h1 : 1 ≤ f := by omega
  obtain ⟨i0, hi, hz0, hz1, hz2⟩ := info_parts Try.infoB
  have htop := top_lt b n hb hlt
  refine callsIn_of_wp_marks Try.func48 rfl trivial ?_ rfl
  simp only [Try.ntmps48, List.size_toArray, List.length_cons, List.length_nil, Nat.reduceAdd, Nat.reduceSub, Array.replicate_succ, Array.replicate_zero, List.push_toArray, List.append_toArray, List.nil_append, List.cons_append]
  have hmx : Try.prog.follows .mixedOrders = true := by kernel_rfl
  gi_wp2_with (refine ⟨trivial, ?_⟩; gi_at_call 55; refine (digits_in (f - 1) _ _ _).mono ?_; rintro e w' ⟨rfl, rfl⟩)
  have bO := Boxed.new w 75 (.slice none 0 0)
  have bN := Boxed.new (w.alloc (.cells #[.slice none 0 0] 75)) 85 (.int .u64 (n : Int))
  have bB := Boxed.new ((w.alloc (.cells #[.slice none 0 0] 75)).alloc (.cells #[.int .u64 (n : Int)] 85)) 85 (.int .u64 (b : Int))
  simp only [World.size_alloc] at bN bB
  have bN2 := bN.alloc (.cells #[.int .u64 (b : Int)] 85)
  have hB0 : Below w.heap.size w (((w.alloc (.cells #[.slice none 0 0] 75)).alloc (.cells #[.int .u64 (n : Int)] 85)).alloc (.cells #[.int .u64 (b : Int)] 85)) := (((Below.refl _ w).alloc (Nat.le_refl _) _).alloc (by simp) _).alloc (by simp; omega) _
  have hsz : (((w.alloc (.cells #[.slice none 0 0] 75)).alloc (.cells #[.int .u64 (n : Int)] 85)).alloc (.cells #[.int .u64 (b : Int)] 85)).heap.size = w.heap.size + 3 := by simp
  refine wpIn_rangeFunc_ownG rfl h1 (gf := 63) (lb := #[.pointer (some ⟨w.heap.size + 1, 0, none⟩), .pointer (some ⟨w.heap.size + 2, 0, none⟩)]) rfl trivial (enters_of Try.func63 (by kernel_rfl) rfl)
    (digits_stops (f - 1) (by omega) (w.heap.size + 1) (w.heap.size + 2) n b hb hb2 hlt _ (by rw [hsz]; omega) (by rw [hsz]; omega) bN2.cell bB.cell) (fun h1 h2 => h2.trans h1) (fun W l o o' hl _ _ _ => cell_putObj_other (by rw [hsz] at hl; omega)) (Below.refl _ _) (fun _ => rfl)
    (fun (pre : List (Fin 16)) W => ((∃ v, Boxed W w.heap.size 75 v ∧ W.ownsRow w.heap.size 5 1 v (pre.map sgn).length ((pre.map sgn).map bv) ∧ True) ∧ Boxed W (w.heap.size + 2) 85 (.int .u64 (b : Int))) ∧ Below w.heap.size w W)
    (fun _ _ _ => False)
    (OwnFrom.and (OwnFrom.and (Own.from (holdsRow_own w.heap.size w.heap.size 75 5 1 (fun pre : List (Fin 16) => (pre.map sgn).length) (fun pre => (pre.map sgn).map bv) (fun _ _ => True)) _) (Own.from (boxed_own _ _ _) _)) (ownFrom_below (Nat.le_refl _) (by rw [hsz]; omega)))
    (fun _ _ _ _ _ hs _ _ => hs)
    ⟨⟨⟨_, (bO.alloc _).alloc _, World.ownsRow_nil _ _ _ _, trivial⟩, bB⟩, hB0⟩
    (fun x => { tmps := #[.int .u64 (n : Int), .int .u64 (b : Int), undef, undef, .string ⟨#[]⟩, .pointer (some ⟨w.heap.size, 0, none⟩), .int .u64 (x.val : Int), .int .u64 (n : Int), .int .u64 (b : Int), .func (.func 63) #[] #[.pointer (some ⟨w.heap.size + 1, 0, none⟩), .pointer (some ⟨w.heap.size + 2, 0, none⟩)], .int .u64 (x.val : Int), undef, undef, undef, undef, undef, undef, undef], defers := [] }) ?assign ?body ?done ?stop
  case assign =>
    intro l x W K hK
    gi_wp2
    exact hK
  case body =>
    rintro l pre x W ⟨⟨⟨v, hv, hrow, -⟩, hbb⟩, hB⟩ hlt'
    have hc := hv.cell
    have hcA := fun o => (hv.alloc o).cell
    have hpl : (pre.map sgn).length = pre.length := List.length_map _
    have HX : Hid ((⟨#[48, 49, 50, 51, 52, 53, 54, 55, 56, 57, 97, 98, 99, 100, 101, 102]⟩ : ByteArray)[x.val] = sgn x) := rfl
    have hx1 : ((x.val : Nat) : Int) < 16 := by have := x.isLt; omega
    gi_wp2
    refine wpIn_region_any hmx ?_
    change wpAnyIn _ _ _ _ _ _ _ _ _ (World.drew _)
    have hpre : pre.length ≤ 64 := by omega
    refine wpAnyIn_ready (rs := [0, 1]) (by kernel_rfl) (by simp) (AllReadyIn.cons rfl (fun K hK => ?_) (AllReadyIn.cons rfl (fun K hK => ?_) AllReadyIn.nil))
    · go_simp; refine hK _ _ ?_; clear hK K
      refine wpAnyIn_ready (rs := [1]) (by kernel_rfl) (by simp) (AllReadyIn.cons rfl (fun K hK => ?_) AllReadyIn.nil); go_simp; refine hK _ _ ?_; clear hK K
      refine wpAnyIn_ready (rs := [2]) (by kernel_rfl) (by simp) (AllReadyIn.cons rfl (fun K hK => ?_) AllReadyIn.nil); go_simp; refine hK _ _ ?_; clear hK K
      refine wpAnyIn_ready (rs := [3]) (by kernel_rfl) (by simp) (AllReadyIn.cons rfl (fun K hK => ?_) AllReadyIn.nil); go_simp; refine hK _ _ ?_; clear hK K
      refine wpAnyIn_ready (rs := [4]) (by kernel_rfl) (by simp) (AllReadyIn.cons rfl (fun K hK => ?_) AllReadyIn.nil)
      refine stepIn_append_own _ (by rfl) _ _ 75 (by rfl) w.heap.size 5 i0 (.int .u8 0) 1 1 Try.underlying75 hi hz0 hz1 hz2 rfl (by decide) _ _ _ (by rfl) ((hrow.alloc _).drew) ⟨W.heap.size, 0, none⟩ 1 1 [bv (sgn x)] (by rfl) rfl (by exact cell_one_new W (bv (sgn x)) 5) (by simp [bv, Value.oneCell']) (by unfold maxLen; omega) (by omega) (by have := hB.size; simp; omega) ?_
      intro v' w1 hown' hgrow _
      obtain ⟨g', cap', rfl⟩ := ownsRow_succ hown'
      have hgrow' : (W.alloc (.cells #[bv (sgn x)] 5)).grownBy w1 v.ownBlock := ⟨hgrow.os, hgrow.tape, hgrow.output, hgrow.size, hgrow.block⟩
      obtain ⟨hv1, hv2, hr2, hk2, hb2⟩ := hv.appended (by decide) hrow hB.size (Nat.le_refl _) hown' hgrow'
      have hbb1 := ((hbb.alloc _).kept hgrow' (hbb.not_row (by decide) hrow)).other (B' := w.heap.size) (by omega) (.slice (some ⟨g', 0, none⟩) ((pre.map sgn).length + 1) cap')
      have hc1 := hv1.cell
      have hf1 := hv1.frozen
      refine hK _ _ ?_
      clear hK K
      refine wpAnyIn_ready (rs := [5]) (by kernel_rfl) (by simp) (AllReadyIn.cons rfl (fun K hK => ?_) AllReadyIn.nil)
      go_simp
      refine hK _ _ ?_
      clear hK K
      refine wpAnyIn_done (by kernel_rfl) ?_ _
      rw [hpl] at hv2 hbb1 hb2 hk2 hr2
      exact ⟨hk2.from _, hbb1.cell.trans hbb.cell.symm, ⟨⟨_, hv2, by simpa using hr2, trivial⟩, hbb1⟩, hB.trans hb2⟩
    · go_simp; refine hK _ _ ?_; clear hK K
      refine wpAnyIn_ready (rs := [0, 2]) (by kernel_rfl) (by simp) (AllReadyIn.cons rfl (fun K hK => ?_) (AllReadyIn.cons rfl (fun K hK => ?_) AllReadyIn.nil))
      · go_simp; refine hK _ _ ?_; clear hK K
        refine wpAnyIn_ready (rs := [2]) (by kernel_rfl) (by simp) (AllReadyIn.cons rfl (fun K hK => ?_) AllReadyIn.nil); go_simp; refine hK _ _ ?_; clear hK K
        refine wpAnyIn_ready (rs := [3]) (by kernel_rfl) (by simp) (AllReadyIn.cons rfl (fun K hK => ?_) AllReadyIn.nil); go_simp; refine hK _ _ ?_; clear hK K
        refine wpAnyIn_ready (rs := [4]) (by kernel_rfl) (by simp) (AllReadyIn.cons rfl (fun K hK => ?_) AllReadyIn.nil)
        refine stepIn_append_own _ (by rfl) _ _ 75 (by rfl) w.heap.size 5 i0 (.int .u8 0) 1 1 Try.underlying75 hi hz0 hz1 hz2 rfl (by decide) _ _ _ (by rfl) ((hrow.alloc _).drew) ⟨W.heap.size, 0, none⟩ 1 1 [bv (sgn x)] (by rfl) rfl (by exact cell_one_new W (bv (sgn x)) 5) (by simp [bv, Value.oneCell']) (by unfold maxLen; omega) (by omega) (by have := hB.size; simp; omega) ?_
        intro v' w1 hown' hgrow _
        obtain ⟨g', cap', rfl⟩ := ownsRow_succ hown'
        have hgrow' : (W.alloc (.cells #[bv (sgn x)] 5)).grownBy w1 v.ownBlock := ⟨hgrow.os, hgrow.tape, hgrow.output, hgrow.size, hgrow.block⟩
        obtain ⟨hv1, hv2, hr2, hk2, hb2⟩ := hv.appended (by decide) hrow hB.size (Nat.le_refl _) hown' hgrow'
        have hbb1 := ((hbb.alloc _).kept hgrow' (hbb.not_row (by decide) hrow)).other (B' := w.heap.size) (by omega) (.slice (some ⟨g', 0, none⟩) ((pre.map sgn).length + 1) cap')
        have hc1 := hv1.cell
        have hf1 := hv1.frozen
        refine hK _ _ ?_
        clear hK K
        refine wpAnyIn_ready (rs := [5]) (by kernel_rfl) (by simp) (AllReadyIn.cons rfl (fun K hK => ?_) AllReadyIn.nil)
        go_simp
        refine hK _ _ ?_
        clear hK K
        refine wpAnyIn_done (by kernel_rfl) ?_ _
        rw [hpl] at hv2 hbb1 hb2 hk2 hr2
        exact ⟨hk2.from _, hbb1.cell.trans hbb.cell.symm, ⟨⟨_, hv2, by simpa using hr2, trivial⟩, hbb1⟩, hB.trans hb2⟩
      · go_simp; refine hK _ _ ?_; clear hK K
        refine wpAnyIn_ready (rs := [0, 3]) (by kernel_rfl) (by simp) (AllReadyIn.cons rfl (fun K hK => ?_) (AllReadyIn.cons rfl (fun K hK => ?_) AllReadyIn.nil))
        · go_simp; refine hK _ _ ?_; clear hK K
          refine wpAnyIn_ready (rs := [3]) (by kernel_rfl) (by simp) (AllReadyIn.cons rfl (fun K hK => ?_) AllReadyIn.nil); go_simp; refine hK _ _ ?_; clear hK K
          refine wpAnyIn_ready (rs := [4]) (by kernel_rfl) (by simp) (AllReadyIn.cons rfl (fun K hK => ?_) AllReadyIn.nil)
          refine stepIn_append_own _ (by rfl) _ _ 75 (by rfl) w.heap.size 5 i0 (.int .u8 0) 1 1 Try.underlying75 hi hz0 hz1 hz2 rfl (by decide) _ _ _ (by rfl) ((hrow.alloc _).drew) ⟨W.heap.size, 0, none⟩ 1 1 [bv (sgn x)] (by rfl) rfl (by exact cell_one_new W (bv (sgn x)) 5) (by simp [bv, Value.oneCell']) (by unfold maxLen; omega) (by omega) (by have := hB.size; simp; omega) ?_
          intro v' w1 hown' hgrow _
          obtain ⟨g', cap', rfl⟩ := ownsRow_succ hown'
          have hgrow' : (W.alloc (.cells #[bv (sgn x)] 5)).grownBy w1 v.ownBlock := ⟨hgrow.os, hgrow.tape, hgrow.output, hgrow.size, hgrow.block⟩
          obtain ⟨hv1, hv2, hr2, hk2, hb2⟩ := hv.appended (by decide) hrow hB.size (Nat.le_refl _) hown' hgrow'
          have hbb1 := ((hbb.alloc _).kept hgrow' (hbb.not_row (by decide) hrow)).other (B' := w.heap.size) (by omega) (.slice (some ⟨g', 0, none⟩) ((pre.map sgn).length + 1) cap')
          have hc1 := hv1.cell
          have hf1 := hv1.frozen
          refine hK _ _ ?_
          clear hK K
          refine wpAnyIn_ready (rs := [5]) (by kernel_rfl) (by simp) (AllReadyIn.cons rfl (fun K hK => ?_) AllReadyIn.nil)
          go_simp
          refine hK _ _ ?_
          clear hK K
          refine wpAnyIn_done (by kernel_rfl) ?_ _
          rw [hpl] at hv2 hbb1 hb2 hk2 hr2
          exact ⟨hk2.from _, hbb1.cell.trans hbb.cell.symm, ⟨⟨_, hv2, by simpa using hr2, trivial⟩, hbb1⟩, hB.trans hb2⟩
        · go_simp; refine hK _ _ ?_; clear hK K
          refine wpAnyIn_ready (rs := [0]) (by kernel_rfl) (by simp) (AllReadyIn.cons rfl (fun K hK => ?_) AllReadyIn.nil); go_simp; refine hK _ _ ?_; clear hK K
          refine wpAnyIn_ready (rs := [4]) (by kernel_rfl) (by simp) (AllReadyIn.cons rfl (fun K hK => ?_) AllReadyIn.nil)
          refine stepIn_append_own _ (by rfl) _ _ 75 (by rfl) w.heap.size 5 i0 (.int .u8 0) 1 1 Try.underlying75 hi hz0 hz1 hz2 rfl (by decide) _ _ _ (by rfl) ((hrow.alloc _).drew) ⟨W.heap.size, 0, none⟩ 1 1 [bv (sgn x)] (by rfl) rfl (by exact cell_one_new W (bv (sgn x)) 5) (by simp [bv, Value.oneCell']) (by unfold maxLen; omega) (by omega) (by have := hB.size; simp; omega) ?_
          intro v' w1 hown' hgrow _
          obtain ⟨g', cap', rfl⟩ := ownsRow_succ hown'
          have hgrow' : (W.alloc (.cells #[bv (sgn x)] 5)).grownBy w1 v.ownBlock := ⟨hgrow.os, hgrow.tape, hgrow.output, hgrow.size, hgrow.block⟩
          obtain ⟨hv1, hv2, hr2, hk2, hb2⟩ := hv.appended (by decide) hrow hB.size (Nat.le_refl _) hown' hgrow'
          have hbb1 := ((hbb.alloc _).kept hgrow' (hbb.not_row (by decide) hrow)).other (B' := w.heap.size) (by omega) (.slice (some ⟨g', 0, none⟩) ((pre.map sgn).length + 1) cap')
          have hc1 := hv1.cell
          have hf1 := hv1.frozen
          refine hK _ _ ?_
          clear hK K
          refine wpAnyIn_ready (rs := [5]) (by kernel_rfl) (by simp) (AllReadyIn.cons rfl (fun K hK => ?_) AllReadyIn.nil)
          go_simp
          refine hK _ _ ?_
          clear hK K
          refine wpAnyIn_done (by kernel_rfl) ?_ _
          rw [hpl] at hv2 hbb1 hb2 hk2 hr2
          exact ⟨hk2.from _, hbb1.cell.trans hbb.cell.symm, ⟨⟨_, hv2, by simpa using hr2, trivial⟩, hbb1⟩, hB.trans hb2⟩
  case done =>
    rintro D ys W hD rfl ⟨⟨⟨v, hv, hrow, -⟩, hbb⟩, hB⟩ hK
    have hc := hv.cell
    have hs := owns_string hrow
    gi_wp2
    refine ⟨by simp, .inl ⟨_, _, rfl, run_takeDeferred hK, ?_⟩⟩
    exact ⟨_, results_tmp rfl _ _ _, rfl, hB.trans (belowK_b (w := w) (Nat.le_refl _) W D _ _ (by rw [hsz] at hD; omega) hK rfl rfl)⟩
  case stop =>
    rintro D c pre W _ _ h _
    exact h.elim

/-- num.written: a number's digits; nothing that lay has turned. -/
theorem written_any (n b : Int) (hb : 2 ≤ b) (hb2 : b ≤ 16) (h0 : 0 ≤ n) (hlt : n ≤ 18446744073709551615) (w : World) :
    Calls Try.prog 48 #[.int .u64 n, .int .u64 b] w fun e W' => e = .returned (.string ⟨(digs b.toNat n.toNat).toArray⟩) ∧ Below w.heap.size w W' := by
  obtain ⟨n', rfl⟩ := Int.eq_ofNat_of_zero_le h0
  obtain ⟨b', rfl⟩ := Int.eq_ofNat_of_zero_le (show 0 ≤ b by omega)
  exact callsIn_wide.1 (written_in 3 (Nat.le_refl _) n' b' (by omega) (by omega) (by omega) w)
end Go.Proofs.Ytnabnnckhdileaa

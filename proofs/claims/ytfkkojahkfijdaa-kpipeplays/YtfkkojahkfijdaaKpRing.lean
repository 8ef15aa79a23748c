/- The ring of a pipe: front. -/
import Derived.Test.YtfkkojahkfijdaaKpLeaf
import Derived.Deep.RegionLaw
namespace Go.Proofs.Ytfkkojahkfijdaa
open Go.RowKit

theorem made_row {w w1 : World} {T n : Nat} {xs : List Value} (h : w1.ownsRow w.heap.size T 1 (.slice (some ⟨w.heap.size, 0, none⟩) n n) n xs) (hg : w.grownBy w1 none) :
    ∃ cur : List Value, cur.length = n ∧ Hid (w1.heap[w.heap.size]? = some (.cells cur.toArray T (0, 0))) ∧ Below w.heap.size w w1 := by
  refine (?_ : ∃ cur : List Value, cur.length = n ∧ w1.heap[w.heap.size]? = some (.cells cur.toArray T (0, 0)) ∧ Below w.heap.size w w1)
  rcases h.2 with ⟨h0, _⟩ | ⟨g, c, cur, h1, h2, h3, h4, h5, h6, h7⟩
  · cases h0
  · cases h1
    exact ⟨cur.toList, by rw [Array.length_toList]; omega, by rw [Array.toArray_toList]; exact h3, (Below.refl _ w).grown hg (Nat.le_refl _) (fun k e => by cases e)⟩
/-- The bytes of a slice, as cells to be copied. -/
theorem bys_src {w : World} {a1 : Option Addr} {n c1 : Nat} {l : List UInt8} {X : List Value} (h : Bys w (.slice a1 n c1) l) (hX : X = l.map bv) :
    0 < X.length → ∃ ad, a1 = some ad ∧ ∀ j v, X[j]? = some v → w.cell? (ad.add j) = some v := by
  intro h0
  obtain ⟨a, c, he, hc⟩ := bys_form h
  cases he
  obtain ⟨b, off, rfl, hd⟩ := hc (by rw [hX] at h0; simpa using h0)
  exact ⟨_, rfl, fun j v hj => bys_news hd j v (by rw [← hX]; exact hj)⟩

theorem splice_two (cur X : List Value) (k : Nat) (h : cur.length = X.length) (hk : k ≤ X.length) : splice (splice cur 0 (X.take k)) k (X.drop k) = X := by
  have h1 : splice cur 0 (X.take k) = X.take k ++ cur.drop k := by simp [splice, Nat.min_eq_left hk]
  rw [h1]
  unfold splice
  have h2 : (X.take k ++ cur.drop k).drop (k + (X.drop k).length) = [] := List.drop_eq_nil_of_le (by simp only [List.length_append, List.length_take, List.length_drop]; omega)
  rw [h2, List.take_left' (by simp only [List.length_take]; omega), List.append_nil, List.take_append_drop]
/-- What lies from the first place on. -/
theorem ring_src {W : World} {g f c rd wr m : Nat} {R X : List Value} (h : Pp W g R f c rd wr) (hX : (R.drop f ++ R).take m = X) (k : Nat) (hk : k ≤ 4096 - f) :
    ∀ j v, (X.take k)[j]? = some v → W.cell? ((⟨g, 1 + f, none⟩ : Addr).add j) = some v := by
  intro j v hj
  have hjk : j < k := by
    have := (List.getElem?_eq_some_iff.1 hj).1
    simp at this; omega
  rw [List.getElem?_take, if_pos hjk, ← hX, List.getElem?_take] at hj
  split at hj
  · rw [List.getElem?_append_left (by simp [h.len]; omega), List.getElem?_drop] at hj
    rw [show (⟨g, 1 + f, none⟩ : Addr).add j = ⟨g, 1 + (f + j), none⟩ by unfold Addr.add; split <;> simp_all [Nat.add_assoc], h.place (f + j) (by omega)]
    exact hj
  · cases hj
/-- What lies from the array's beginning on. -/
theorem ring_src2 {W : World} {g f c rd wr m : Nat} {R X : List Value} (h : Pp W g R f c rd wr) (hX : (R.drop f ++ R).take m = X) (hm : m ≤ 4096) :
    ∀ j v, (X.drop (4096 - f))[j]? = some v → W.cell? ((⟨g, 1, none⟩ : Addr).add j) = some v := by
  intro j v hj
  have hf := h.lf
  rw [List.getElem?_drop, ← hX, List.getElem?_take] at hj
  split at hj
  · rw [List.getElem?_append_right (by simp [h.len]), List.length_drop, h.len, show 4096 - f + j - (4096 - f) = j by omega] at hj
    rw [show (⟨g, 1, none⟩ : Addr).add j = ⟨g, 1 + j, none⟩ by unfold Addr.add; split <;> simp_all, h.place j (by omega)]
    exact hj
  · cases hj

set_option maxRecDepth 100000 in
set_option maxHeartbeats 2000000 in
theorem front_any (g : Nat) (R : List Value) (f rd wr : Nat) (q : List UInt8) (n : Nat) (w : World) (h : Pp w g R f q.length rd wr) (hq : (R.drop f ++ R).take q.length = q.map bv) (hn : n ≤ 1048576) :
    Calls Try.prog 38 #[.pointer (some ⟨g, 1, none⟩), .int .i64 n] w fun e w' => e = .returned (.slice (some ⟨w.heap.size, 0, none⟩) (q.take n).length (q.take n).length) ∧ w'.ownsRow w.heap.size 5 1 (.slice (some ⟨w.heap.size, 0, none⟩) (q.take n).length (q.take n).length) (q.take n).length ((q.take n).map bv) ∧ Below w.heap.size w w' := by
  obtain ⟨i0, hi, hz0, hz1, hz2⟩ := info_parts Try.infoB
  have hf := h.lf
  have hc := h.lc
  have hgl := h.lt
  have HP := hide h
  have hcf := h.cf
  have hcc := h.cc
  obtain ⟨m, hm⟩ : ∃ m, m = (q.take n).length := ⟨_, rfl⟩
  have hm' : m = min n q.length := by rw [hm]; simp
  have hX : (R.drop f ++ R).take m = (q.take n).map bv := by
    rw [List.map_take, ← hq, List.take_take, hm']
  have H1 : Hid (∀ v ∈ (q.take n).map bv, v.oneCell' = true) := hide (bys_one _)
  have hXl : ((q.take n).map bv).length = m := by rw [List.length_map, hm]
  rw [← hm]
  generalize (q.take n).map bv = X at *
  generalize q.length = c at *
  have HX := hide hX
  clear h hq hm hX
  obtain ⟨k, hk⟩ : ∃ k, k = min m (4096 - f) := ⟨_, rfl⟩
  have hkl : (X.take k).length = k := by rw [List.length_take, hXl]; omega
  have hkd : (X.drop k).length = m - k := by rw [List.length_drop, hXl]
  have H1a : Hid (∀ v ∈ X.take k, v.oneCell' = true) := hide fun v hv => H1.out v (List.mem_of_mem_take hv)
  have H1b : Hid (∀ v ∈ X.drop k, v.oneCell' = true) := hide fun v hv => H1.out v (List.mem_of_mem_drop hv)
  have hfl : ¬ 4096 = f := by omega
  have hfi : (f : Int) ≤ 4096 := by omega
  have hkc : k = m ∨ (k = 4096 - f ∧ k < m) := by omega
  rcases (show n < c ∨ c < n ∨ n = c by omega) with hnc | hnc | rfl
  case' inl =>
    have hd : ¬ (c : Int) < (n : Int) := by omega
    obtain rfl : m = n := by omega
  case' inr.inl =>
    have hd : (c : Int) < (n : Int) := by omega
    obtain rfl : m = c := by omega
  case' inr.inr =>
    have hd : ¬ (n : Int) < (n : Int) := by omega
    obtain rfl : m = n := by omega
  all_goals
    clear hm'
    have HK := hide hk
    clear hk
    rcases hkc with rfl | ⟨hk1, hk2⟩
    · go_enter Try.func38, Try.ntmps38
      go_wp2_with (at_make; refine wpList_make_full _ rfl _ _ 26 rfl w.heap.size 5 i0 (.int .u8 0) 1 Try.underlying26 hi hz0 hz1 _ _ _ _ k rfl rfl rfl rfl (by rw [hz2]; omega) (by unfold maxLen; omega) (Nat.le_refl _) ?_; intro w1 hown1 hgrow1; obtain ⟨cur, hcl, HR, hB1⟩ := made_row hown1 hgrow1; clear hown1 hgrow1; obtain ⟨w2, hrun, HG2, hgr2⟩ := run_copy_tag w1.drew 3 (some ⟨w.heap.size, 0, none⟩) (some ⟨g, 1 + f, none⟩) k k (4096 - f) (4096 - f) w.heap.size 0 5 cur HR.out (X.take k) (by rw [hkl]; have := HK.out; show k = min (4096 - f) k; omega) (fun h0 => ⟨rfl, _, rfl, ring_src ((HP.out.keep (hB1.block g hgl)).keep (W' := w1.drew) rfl) HX.out k (by have := HK.out; omega)⟩) (by have := HK.out; omega) H1a.out; have hcf1 := (HP.out.keep (hB1.block g hgl)).cf; have HP2 := hide ((HP.out.keep (hB1.block g hgl)).keep (W' := w2) (hgr2.block g (HP.out.keep (hB1.block g hgl)).lt (by intro e; cases e; omega))); rw [hkl] at hrun; obtain ⟨w3, hrun3, HG3, hgr3⟩ := run_copy_tag w2.drew 3 (some ⟨w.heap.size, 0, none⟩) (some ⟨g, 1, none⟩) 0 0 4096 4096 w.heap.size 0 5 _ HG2.out [] (by simp) (fun h0 => by simp at h0) (by simp) (by simp))
      go_region
      go_wp2_with fail
      go_region
      go_wp2
      go_ret
      have hG : splice (splice cur 0 (X.take k)) 0 [] = X := by
        have := splice_two cur X k (by omega) (by omega)
        have hx0 : X.drop k = [] := List.drop_eq_nil_of_le (by omega)
        rw [hx0] at this
        simpa [splice] using this
      have hG3 := HG3.out
      rw [hG] at hG3
      exact ⟨rfl, ⟨by simp [hXl], .inr ⟨w.heap.size, k, _, rfl, Nat.le_refl _, hG3, Nat.le_refl _, by unfold maxLen; omega, by simp [hXl], by simpa using List.take_of_length_le (Nat.le_of_eq hXl)⟩⟩, (hB1.drew.grown hgr2 hB1.size (fun k e => by cases e; exact Nat.le_refl _)).drew.grown hgr3 (Nat.le_trans hB1.size hgr2.size) (fun k e => by cases e; exact Nat.le_refl _)⟩
    · have hk3 : ¬ m = k := by omega
      have hk4 : (k : Int) ≤ (m : Int) := by omega
      have hk5 : (k : Int) < (m : Int) := by omega
      go_enter Try.func38, Try.ntmps38
      go_wp2_with (at_make; refine wpList_make_full _ rfl _ _ 26 rfl w.heap.size 5 i0 (.int .u8 0) 1 Try.underlying26 hi hz0 hz1 _ _ _ _ m rfl rfl rfl rfl (by rw [hz2]; omega) (by unfold maxLen; omega) (Nat.le_refl _) ?_; intro w1 hown1 hgrow1; obtain ⟨cur, hcl, HR, hB1⟩ := made_row hown1 hgrow1; clear hown1 hgrow1; obtain ⟨w2, hrun, HG2, hgr2⟩ := run_copy_tag w1.drew 3 (some ⟨w.heap.size, 0, none⟩) (some ⟨g, 1 + f, none⟩) m m (4096 - f) (4096 - f) w.heap.size 0 5 cur HR.out (X.take k) (by rw [hkl]; have := HK.out; show k = min (4096 - f) m; omega) (fun h0 => ⟨rfl, _, rfl, ring_src ((HP.out.keep (hB1.block g hgl)).keep (W' := w1.drew) rfl) HX.out k (by have := HK.out; omega)⟩) (by have := HK.out; omega) H1a.out; have hcf1 := (HP.out.keep (hB1.block g hgl)).cf; have HP2 := hide ((HP.out.keep (hB1.block g hgl)).keep (W' := w2) (hgr2.block g (HP.out.keep (hB1.block g hgl)).lt (by intro e; cases e; omega))); rw [hkl] at hrun; obtain ⟨w3, hrun3, HG3, hgr3⟩ := run_copy_tag w2.drew 3 (some ⟨w.heap.size, k, none⟩) (some ⟨g, 1, none⟩) (m - k) (m - k) 4096 4096 w.heap.size k 5 _ HG2.out (X.drop k) (by rw [hkd]; show m - k = min 4096 (m - k); omega) (fun h0 => ⟨rfl, _, rfl, by rw [hk1]; exact ring_src2 (HP2.out.keep (W' := w2.drew) rfl) HX.out (by omega)⟩) (by rw [length_splice cur 0 _ (by omega)]; omega) H1b.out; rw [hkd] at hrun3; have HK1 := hide hk1; clear hk1)
      go_region
      go_wp2_with fail
      go_region
      go_wp2
      go_ret
      have hG3 := HG3.out
      rw [splice_two cur X k (by omega) (by omega)] at hG3
      exact ⟨rfl, ⟨by simp [hXl], .inr ⟨w.heap.size, m, _, rfl, Nat.le_refl _, hG3, Nat.le_refl _, by unfold maxLen; omega, by simp [hXl], by simpa using List.take_of_length_le (Nat.le_of_eq hXl)⟩⟩, (hB1.drew.grown hgr2 hB1.size (fun k e => by cases e; exact Nat.le_refl _)).drew.grown hgr3 (Nat.le_trans hB1.size hgr2.size) (fun k e => by cases e; exact Nat.le_refl _)⟩
end Go.Proofs.Ytfkkojahkfijdaa

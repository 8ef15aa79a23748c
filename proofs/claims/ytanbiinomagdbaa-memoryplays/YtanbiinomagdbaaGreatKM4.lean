/- What the proof stands on, part 4: the contracts of the program's calls that it reaches. -/
import Derived.Test.YtanbiinomagdbaaGreatKM3
import Derived.Deep.RegionLaw
import Derived.Deep.RegionWith
/- What the small functions of a pipe answer: isMade, mayBeAsked, room, place, side, readWaits, refuses, fitting. -/
namespace Go.Proofs.YtanbiinomagdbaaGreat
open Go.RowKit

def inN (n : Int) : Bool := decide (1 ≤ n) && decide (n ≤ 1048576)
theorem inN_true {n : Int} (h : inN n = true) : 1 ≤ n ∧ n ≤ 1048576 := by simpa [inN] using h
theorem inN_nat {n : Int} (h : inN n = true) : ∃ m : Nat, n = (m : Int) ∧ 1 ≤ m ∧ m ≤ 1048576 := by
  have := inN_true h
  exact ⟨n.toNat, by omega, by omega, by omega⟩

theorem isMade_is (g : Nat) (x : Bool) (w : World) (h : w.cell? ⟨g, 0, none⟩ = some (.bool x)) :
    Calls Tryz.prog 209 #[.pointer (some ⟨g, 0, none⟩)] w fun e w' => e = .returned (.bool x) ∧ w' = w := by
  go_enter Tryz.func209, Tryz.ntmps209
  go_wp2
  go_ret
  exact ⟨rfl, rfl⟩
theorem mayBeAsked_any (n : Int) (w : World) :
    Calls Tryz.prog 306 #[.int .i64 n] w fun e w' => e = .returned (.bool (inN n)) ∧ w' = w := by
  unfold inN
  rcases (show n < 1 ∨ (1 ≤ n ∧ n ≤ 1048576) ∨ 1048576 < n by omega) with h | ⟨h, h1⟩ | h
  · rw [show decide (1 ≤ n) = false by simp; omega]
    go_enter Tryz.func306, Tryz.ntmps306
    go_wp2
    go_ret
    exact ⟨rfl, rfl⟩
  · rw [show decide (1 ≤ n) = true by simp; omega, show decide (n ≤ 1048576) = true by simp; omega]
    go_enter Tryz.func306, Tryz.ntmps306
    go_wp2
    go_ret
    exact ⟨rfl, rfl⟩
  · rw [show decide (1 ≤ n) = true by simp; omega, show decide (n ≤ 1048576) = false by simp; omega]
    have h1 : 1 ≤ n := by omega
    go_enter Tryz.func306, Tryz.ntmps306
    go_wp2
    go_ret
    exact ⟨ret_bool (by simp; omega), rfl⟩
theorem room_is (g c : Nat) (w : World) (h : w.cell? ⟨g, 4098, none⟩ = some (.int .i64 c)) (hc : c ≤ 4096) :
    Calls Tryz.prog 312 #[.pointer (some ⟨g, 1, none⟩)] w fun e w' => e = .returned (.int .i64 ((4096 - c : Nat) : Int)) ∧ w' = w := by
  go_enter Tryz.func312, Tryz.ntmps312
  go_wp2
  go_ret
  exact ⟨ret_int (by omega), rfl⟩
theorem place_is (g f n : Nat) (w : World) (h : w.cell? ⟨g, 4097, none⟩ = some (.int .i64 f)) (hf : f < 4096) (hn : n ≤ 4096) :
    Calls Tryz.prog 313 #[.pointer (some ⟨g, 1, none⟩), .int .i64 n] w fun e w' => e = .returned (.int .i64 (((f + n) % 4096 : Nat) : Int)) ∧ w' = w := by
  go_enter Tryz.func313, Tryz.ntmps313
  go_wp2
  go_ret
  exact ⟨ret_int (by omega), rfl⟩
theorem readWaits_is (g : Nat) (R : List Value) (f c rd wr : Nat) (w : World) (h : Pp w g R f c rd wr) :
    Calls Tryz.prog 307 #[.pointer (some ⟨g, 0, none⟩)] w fun e w' => e = .returned (.bool (decide (c = 0 ∧ 0 < wr))) ∧ w' = w := by
  have h1 := h.cc
  have h2 := h.cw
  have h3 := h.lc
  clear h
  rcases (show 0 < c ∨ (c = 0 ∧ 0 < wr) ∨ (c = 0 ∧ wr = 0) by omega) with hc | ⟨rfl, hw⟩ | ⟨rfl, rfl⟩
  · rw [show decide (c = 0 ∧ 0 < wr) = false by simp; omega]
    have k1 : ¬ ((4096 - c : Nat) : Int) = 4096 := by omega
    have k2 : (((4096 - c : Nat) : Int) == 4096) = false := by simp; omega
    go_enter Tryz.func307, Tryz.ntmps307
    go_wp2_with fail
    refine (room_is g c w h1 h3).mono ?_
    rintro e w1 ⟨rfl, rfl⟩
    generalize ((4096 - c : Nat) : Int) = y at *
    go_wp2
    go_ret
    exact ⟨rfl, rfl⟩
  · rw [show decide (0 = 0 ∧ 0 < wr) = true by simp; omega]
    have k2 : (0 : Int) < (wr : Int) := by omega
    go_enter Tryz.func307, Tryz.ntmps307
    go_wp2_with fail
    refine (room_is g 0 w h1 h3).mono ?_
    rintro e w1 ⟨rfl, rfl⟩
    go_wp2
    go_ret
    exact ⟨rfl, rfl⟩
  · go_enter Tryz.func307, Tryz.ntmps307
    go_wp2_with fail
    refine (room_is g 0 w h1 h3).mono ?_
    rintro e w1 ⟨rfl, rfl⟩
    go_wp2
    go_ret
    exact ⟨rfl, rfl⟩

def fitN (n most c : Nat) : Nat := if 512 < n then min n (min most (4096 - c)) else if 4096 - c < n then 0 else n
theorem fitN_le (n most c : Nat) : fitN n most c ≤ n ∧ (c ≤ 4096 → c + fitN n most c ≤ 4096) := by unfold fitN; split <;> (try split) <;> omega

set_option maxHeartbeats 1000000 in
theorem fitting_is (g : Nat) (R : List Value) (f c rd wr n most : Nat) (w : World) (h : Pp w g R f c rd wr) (hn : n ≤ 1048576) :
    Calls Tryz.prog 310 #[.pointer (some ⟨g, 0, none⟩), .int .i64 n, .int .i64 most] w fun e w' => e = .returned (.int .i64 (fitN n most c : Nat)) ∧ w' = w := by
  have h1 := h.cc
  have h3 := h.lc
  clear h
  unfold fitN
  by_cases hb : 512 < n
  · rw [if_pos hb]
    go_enter Tryz.func310, Tryz.ntmps310
    go_wp2_with fail
    refine (room_is g c w h1 h3).mono ?_
    rintro e w1 ⟨rfl, rfl⟩
    generalize hy : 4096 - c = y at *
    go_wp2
    all_goals
      go_ret
      exact ⟨ret_int (by omega), rfl⟩
  · rw [if_neg hb]
    by_cases hr : 4096 - c < n
    · rw [if_pos hr]
      have k1 : ((4096 - c : Nat) : Int) < (n : Int) := by omega
      go_enter Tryz.func310, Tryz.ntmps310
      go_wp2_with fail
      refine (room_is g c w h1 h3).mono ?_
      rintro e w1 ⟨rfl, rfl⟩
      generalize hy : 4096 - c = y at *
      go_wp2
      go_ret
      exact ⟨rfl, rfl⟩
    · rw [if_neg hr]
      have k1 : ¬ ((4096 - c : Nat) : Int) < (n : Int) := by omega
      go_enter Tryz.func310, Tryz.ntmps310
      go_wp2_with fail
      refine (room_is g c w h1 h3).mono ?_
      rintro e w1 ⟨rfl, rfl⟩
      generalize hy : 4096 - c = y at *
      go_wp2
      go_ret
      exact ⟨rfl, rfl⟩

def refE (n : Nat) (most : Int) (rd wr : Nat) : Int := if 1048576 < n then 5 else if inN most = false then 4 else if wr = 0 then 51 else if rd = 0 then 53 else 0

set_option maxHeartbeats 1000000 in
theorem refuses_is (g : Nat) (R : List Value) (f c rd wr : Nat) (a : Option Addr) (n k : Nat) (most : Int) (w : World) (h : Pp w g R f c rd wr) (hn : n ≤ 140737488351232) :
    Calls Tryz.prog 309 #[.pointer (some ⟨g, 0, none⟩), .slice a n k, .int .i64 most] w fun e w' => e = .returned (.int .i64 (refE n most rd wr)) ∧ w' = w := by
  have h1 := h.c0
  have h2 := h.cr
  have h3 := h.cw
  clear h
  unfold refE
  by_cases hb : 1048576 < n
  · rw [if_pos hb]
    have k1 : (1048576 : Int) < (n : Int) := by omega
    go_enter Tryz.func309, Tryz.ntmps309
    go_wp2_with fail
    refine (isMade_is g true w h1).mono ?_
    rintro e w1 ⟨rfl, rfl⟩
    go_wp2
    go_ret
    exact ⟨rfl, rfl⟩
  · rw [if_neg hb]
    have k1 : ¬ (1048576 : Int) < (n : Int) := by omega
    by_cases hi : inN most = false
    · rw [if_pos hi]
      have HI := hide hi
      clear hi
      go_enter Tryz.func309, Tryz.ntmps309
      go_wp2_with fail
      refine (isMade_is g true w h1).mono ?_
      rintro e w1 ⟨rfl, rfl⟩
      go_wp2_with fail
      refine (mayBeAsked_any most _).mono ?_
      rintro e w1 ⟨rfl, rfl⟩
      rw [HI.out]
      go_wp2
      go_ret
      exact ⟨rfl, rfl⟩
    · rw [if_neg hi]
      have HI : Hid (inN most = true) := hide (by simpa using hi)
      clear hi
      rcases (show wr = 0 ∨ (0 < wr ∧ rd = 0) ∨ (0 < wr ∧ 0 < rd) by omega) with rfl | ⟨hw, rfl⟩ | ⟨hw, hr⟩
      · rw [if_pos rfl]
        go_enter Tryz.func309, Tryz.ntmps309
        go_wp2_with fail
        refine (isMade_is g true w h1).mono ?_
        rintro e w1 ⟨rfl, rfl⟩
        go_wp2_with fail
        refine (mayBeAsked_any most _).mono ?_
        rintro e w1 ⟨rfl, rfl⟩
        rw [HI.out]
        go_wp2
        go_ret
        exact ⟨rfl, rfl⟩
      · rw [if_neg (by omega), if_pos rfl]
        have k2 : ¬ (wr : Int) = 0 := by omega
        have k3 : ((wr : Int) == 0) = false := by simp; omega
        go_enter Tryz.func309, Tryz.ntmps309
        go_wp2_with fail
        refine (isMade_is g true w h1).mono ?_
        rintro e w1 ⟨rfl, rfl⟩
        go_wp2_with fail
        refine (mayBeAsked_any most _).mono ?_
        rintro e w1 ⟨rfl, rfl⟩
        rw [HI.out]
        go_wp2
        go_ret
        exact ⟨rfl, rfl⟩
      · rw [if_neg (by omega), if_neg (by omega)]
        have k2 : ¬ (wr : Int) = 0 := by omega
        have k3 : ((wr : Int) == 0) = false := by simp; omega
        have k4 : ¬ (rd : Int) = 0 := by omega
        have k5 : ((rd : Int) == 0) = false := by simp; omega
        go_enter Tryz.func309, Tryz.ntmps309
        go_wp2_with fail
        refine (isMade_is g true w h1).mono ?_
        rintro e w1 ⟨rfl, rfl⟩
        go_wp2_with fail
        refine (mayBeAsked_any most _).mono ?_
        rintro e w1 ⟨rfl, rfl⟩
        rw [HI.out]
        go_wp2
        go_ret
        exact ⟨rfl, rfl⟩
end Go.Proofs.YtanbiinomagdbaaGreat

/- The ring of a pipe: front. -/
namespace Go.Proofs.YtanbiinomagdbaaGreat
open Go.RowKit

theorem Kp_made_row {w w1 : World} {T n : Nat} {xs : List Value} (h : w1.ownsRow w.heap.size T 1 (.slice (some ⟨w.heap.size, 0, none⟩) n n) n xs) (hg : w.grownBy w1 none) :
    ∃ cur : List Value, cur.length = n ∧ Hid (w1.heap[w.heap.size]? = some (.cells cur.toArray T (0, 0))) ∧ Below w.heap.size w w1 := by
  refine (?_ : ∃ cur : List Value, cur.length = n ∧ w1.heap[w.heap.size]? = some (.cells cur.toArray T (0, 0)) ∧ Below w.heap.size w w1)
  rcases h.2 with ⟨h0, _⟩ | ⟨g, c, cur, h1, h2, h3, h4, h5, h6, h7⟩
  · cases h0
  · cases h1
    exact ⟨cur.toList, by rw [Array.length_toList]; omega, by rw [Array.toArray_toList]; exact h3, (Below.refl _ w).grown hg (Nat.le_refl _) (fun k e => by cases e)⟩
theorem Kp_bys_src {w : World} {a1 : Option Addr} {n c1 : Nat} {l : List UInt8} {X : List Value} (h : Bys w (.slice a1 n c1) l) (hX : X = l.map bv) :
    0 < X.length → ∃ ad, a1 = some ad ∧ ∀ j v, X[j]? = some v → w.cell? (ad.add j) = some v := by
  intro h0
  obtain ⟨a, c, he, hc⟩ := bys_form h
  cases he
  obtain ⟨b, off, rfl, hd⟩ := hc (by rw [hX] at h0; simpa using h0)
  exact ⟨_, rfl, fun j v hj => bys_news hd j v (by rw [← hX]; exact hj)⟩

theorem splice_two (cur X : List Value) (k : Nat) (h : cur.length = X.length) (hk : k ≤ X.length) : splice (splice cur 0 (X.take k)) k (X.drop k) = X := by
  have h1 : splice cur 0 (X.take k) = X.take k ++ cur.drop k := by simp [splice, Nat.min_eq_left hk]
  rw [h1]
  unfold splice
  have h2 : (X.take k ++ cur.drop k).drop (k + (X.drop k).length) = [] := List.drop_eq_nil_of_le (by simp only [List.length_append, List.length_take, List.length_drop]; omega)
  rw [h2, List.take_left' (by simp only [List.length_take]; omega), List.append_nil, List.take_append_drop]
theorem ring_src {W : World} {g f c rd wr m : Nat} {R X : List Value} (h : Pp W g R f c rd wr) (hX : (R.drop f ++ R).take m = X) (k : Nat) (hk : k ≤ 4096 - f) :
    ∀ j v, (X.take k)[j]? = some v → W.cell? ((⟨g, 1 + f, none⟩ : Addr).add j) = some v := by
  intro j v hj
  have hjk : j < k := by
    have := (List.getElem?_eq_some_iff.1 hj).1
    simp at this; omega
  rw [List.getElem?_take, if_pos hjk, ← hX, List.getElem?_take] at hj
  split at hj
  · rw [List.getElem?_append_left (by simp [h.len]; omega), List.getElem?_drop] at hj
    rw [show (⟨g, 1 + f, none⟩ : Addr).add j = ⟨g, 1 + (f + j), none⟩ by unfold Addr.add; split <;> simp_all [Nat.add_assoc], h.place (f + j) (by omega)]
    exact hj
  · cases hj
theorem ring_src2 {W : World} {g f c rd wr m : Nat} {R X : List Value} (h : Pp W g R f c rd wr) (hX : (R.drop f ++ R).take m = X) (hm : m ≤ 4096) :
    ∀ j v, (X.drop (4096 - f))[j]? = some v → W.cell? ((⟨g, 1, none⟩ : Addr).add j) = some v := by
  intro j v hj
  have hf := h.lf
  rw [List.getElem?_drop, ← hX, List.getElem?_take] at hj
  split at hj
  · rw [List.getElem?_append_right (by simp [h.len]), List.length_drop, h.len, show 4096 - f + j - (4096 - f) = j by omega] at hj
    rw [show (⟨g, 1, none⟩ : Addr).add j = ⟨g, 1 + j, none⟩ by unfold Addr.add; split <;> simp_all, h.place j (by omega)]
    exact hj
  · cases hj

set_option maxRecDepth 100000 in
set_option maxHeartbeats 2000000 in
theorem front_any (g : Nat) (R : List Value) (f rd wr : Nat) (q : List UInt8) (n : Nat) (w : World) (h : Pp w g R f q.length rd wr) (hq : (R.drop f ++ R).take q.length = q.map bv) (hn : n ≤ 1048576) :
    Calls Tryz.prog 215 #[.pointer (some ⟨g, 1, none⟩), .int .i64 n] w fun e w' => e = .returned (.slice (some ⟨w.heap.size, 0, none⟩) (q.take n).length (q.take n).length) ∧ w'.ownsRow w.heap.size 5 1 (.slice (some ⟨w.heap.size, 0, none⟩) (q.take n).length (q.take n).length) (q.take n).length ((q.take n).map bv) ∧ Below w.heap.size w w' := by
  obtain ⟨i0, hi, hz0, hz1, hz2⟩ := info_parts Tryz.infoB
  have hf := h.lf
  have hc := h.lc
  have hgl := h.lt
  have HP := hide h
  have hcf := h.cf
  have hcc := h.cc
  obtain ⟨m, hm⟩ : ∃ m, m = (q.take n).length := ⟨_, rfl⟩
  have hm' : m = min n q.length := by rw [hm]; simp
  have hX : (R.drop f ++ R).take m = (q.take n).map bv := by
    rw [List.map_take, ← hq, List.take_take, hm']
  have H1 : Hid (∀ v ∈ (q.take n).map bv, v.oneCell' = true) := hide (bys_one _)
  have hXl : ((q.take n).map bv).length = m := by rw [List.length_map, hm]
  rw [← hm]
  generalize (q.take n).map bv = X at *
  generalize q.length = c at *
  have HX := hide hX
  clear h hq hm hX
  obtain ⟨k, hk⟩ : ∃ k, k = min m (4096 - f) := ⟨_, rfl⟩
  have hkl : (X.take k).length = k := by rw [List.length_take, hXl]; omega
  have hkd : (X.drop k).length = m - k := by rw [List.length_drop, hXl]
  have H1a : Hid (∀ v ∈ X.take k, v.oneCell' = true) := hide fun v hv => H1.out v (List.mem_of_mem_take hv)
  have H1b : Hid (∀ v ∈ X.drop k, v.oneCell' = true) := hide fun v hv => H1.out v (List.mem_of_mem_drop hv)
  have hfl : ¬ 4096 = f := by omega
  have hfi : (f : Int) ≤ 4096 := by omega
  have hkc : k = m ∨ (k = 4096 - f ∧ k < m) := by omega
  rcases (show n < c ∨ c < n ∨ n = c by omega) with hnc | hnc | rfl
  case' inl =>
    have hd : ¬ (c : Int) < (n : Int) := by omega
    obtain rfl : m = n := by omega
  case' inr.inl =>
    have hd : (c : Int) < (n : Int) := by omega
    obtain rfl : m = c := by omega
  case' inr.inr =>
    have hd : ¬ (n : Int) < (n : Int) := by omega
    obtain rfl : m = n := by omega
  all_goals
    clear hm'
    have HK := hide hk
    clear hk
    rcases hkc with rfl | ⟨hk1, hk2⟩
    · go_enter Tryz.func215, Tryz.ntmps215
      go_wp2_with (at_make; refine wpList_make_full _ rfl _ _ 40 rfl w.heap.size 5 i0 (.int .u8 0) 1 Tryz.underlying40 hi hz0 hz1 _ _ _ _ k rfl rfl rfl rfl (by rw [hz2]; omega) (by unfold maxLen; omega) (Nat.le_refl _) ?_; intro w1 hown1 hgrow1; obtain ⟨cur, hcl, HR, hB1⟩ := Kp_made_row hown1 hgrow1; clear hown1 hgrow1; obtain ⟨w2, hrun, HG2, hgr2⟩ := run_copy_tag w1.drew 3 (some ⟨w.heap.size, 0, none⟩) (some ⟨g, 1 + f, none⟩) k k (4096 - f) (4096 - f) w.heap.size 0 5 cur HR.out (X.take k) (by rw [hkl]; have := HK.out; show k = min (4096 - f) k; omega) (fun h0 => ⟨rfl, _, rfl, ring_src ((HP.out.keep (hB1.block g hgl)).keep (W' := w1.drew) rfl) HX.out k (by have := HK.out; omega)⟩) (by have := HK.out; omega) H1a.out; have hcf1 := (HP.out.keep (hB1.block g hgl)).cf; have HP2 := hide ((HP.out.keep (hB1.block g hgl)).keep (W' := w2) (hgr2.block g (HP.out.keep (hB1.block g hgl)).lt (by intro e; cases e; omega))); rw [hkl] at hrun; obtain ⟨w3, hrun3, HG3, hgr3⟩ := run_copy_tag w2.drew 3 (some ⟨w.heap.size, 0, none⟩) (some ⟨g, 1, none⟩) 0 0 4096 4096 w.heap.size 0 5 _ HG2.out [] (by simp) (fun h0 => by simp at h0) (by simp) (by simp))
      go_region
      go_wp2_with fail
      go_region
      go_wp2
      go_ret
      have hG : splice (splice cur 0 (X.take k)) 0 [] = X := by
        have := splice_two cur X k (by omega) (by omega)
        have hx0 : X.drop k = [] := List.drop_eq_nil_of_le (by omega)
        rw [hx0] at this
        simpa [splice] using this
      have hG3 := HG3.out
      rw [hG] at hG3
      exact ⟨rfl, ⟨by simp [hXl], .inr ⟨w.heap.size, k, _, rfl, Nat.le_refl _, hG3, Nat.le_refl _, by unfold maxLen; omega, by simp [hXl], by simpa using List.take_of_length_le (Nat.le_of_eq hXl)⟩⟩, (hB1.drew.grown hgr2 hB1.size (fun k e => by cases e; exact Nat.le_refl _)).drew.grown hgr3 (Nat.le_trans hB1.size hgr2.size) (fun k e => by cases e; exact Nat.le_refl _)⟩
    · have hk3 : ¬ m = k := by omega
      have hk4 : (k : Int) ≤ (m : Int) := by omega
      have hk5 : (k : Int) < (m : Int) := by omega
      go_enter Tryz.func215, Tryz.ntmps215
      go_wp2_with (at_make; refine wpList_make_full _ rfl _ _ 40 rfl w.heap.size 5 i0 (.int .u8 0) 1 Tryz.underlying40 hi hz0 hz1 _ _ _ _ m rfl rfl rfl rfl (by rw [hz2]; omega) (by unfold maxLen; omega) (Nat.le_refl _) ?_; intro w1 hown1 hgrow1; obtain ⟨cur, hcl, HR, hB1⟩ := Kp_made_row hown1 hgrow1; clear hown1 hgrow1; obtain ⟨w2, hrun, HG2, hgr2⟩ := run_copy_tag w1.drew 3 (some ⟨w.heap.size, 0, none⟩) (some ⟨g, 1 + f, none⟩) m m (4096 - f) (4096 - f) w.heap.size 0 5 cur HR.out (X.take k) (by rw [hkl]; have := HK.out; show k = min (4096 - f) m; omega) (fun h0 => ⟨rfl, _, rfl, ring_src ((HP.out.keep (hB1.block g hgl)).keep (W' := w1.drew) rfl) HX.out k (by have := HK.out; omega)⟩) (by have := HK.out; omega) H1a.out; have hcf1 := (HP.out.keep (hB1.block g hgl)).cf; have HP2 := hide ((HP.out.keep (hB1.block g hgl)).keep (W' := w2) (hgr2.block g (HP.out.keep (hB1.block g hgl)).lt (by intro e; cases e; omega))); rw [hkl] at hrun; obtain ⟨w3, hrun3, HG3, hgr3⟩ := run_copy_tag w2.drew 3 (some ⟨w.heap.size, k, none⟩) (some ⟨g, 1, none⟩) (m - k) (m - k) 4096 4096 w.heap.size k 5 _ HG2.out (X.drop k) (by rw [hkd]; show m - k = min 4096 (m - k); omega) (fun h0 => ⟨rfl, _, rfl, by rw [hk1]; exact ring_src2 (HP2.out.keep (W' := w2.drew) rfl) HX.out (by omega)⟩) (by rw [length_splice cur 0 _ (by omega)]; omega) H1b.out; rw [hkd] at hrun3; have HK1 := hide hk1; clear hk1)
      go_region
      go_wp2_with fail
      go_region
      go_wp2
      go_ret
      have hG3 := HG3.out
      rw [splice_two cur X k (by omega) (by omega)] at hG3
      exact ⟨rfl, ⟨by simp [hXl], .inr ⟨w.heap.size, m, _, rfl, Nat.le_refl _, hG3, Nat.le_refl _, by unfold maxLen; omega, by simp [hXl], by simpa using List.take_of_length_le (Nat.le_of_eq hXl)⟩⟩, (hB1.drew.grown hgr2 hB1.size (fun k e => by cases e; exact Nat.le_refl _)).drew.grown hgr3 (Nat.le_trans hB1.size hgr2.size) (fun k e => by cases e; exact Nat.le_refl _)⟩
end Go.Proofs.YtanbiinomagdbaaGreat

/- The ring of a pipe: take and put. -/
namespace Go.Proofs.YtanbiinomagdbaaGreat
open Go.RowKit

theorem add_at (b o j : Nat) : (⟨b, o, none⟩ : Addr).add j = ⟨b, o + j, none⟩ := by unfold Addr.add; split <;> simp_all
def RHeld (R : List Value) (f : Nat) (q : List UInt8) : Prop := (R.drop f ++ R).take q.length = q.map bv
theorem ring_at (R : List Value) (f j : Nat) (hR : R.length = 4096) (hf : f < 4096) (hj : j < 4096) : (R.drop f ++ R)[j]? = R[(f + j) % 4096]? := by
  by_cases h : f + j < 4096
  · rw [List.getElem?_append_left (by simp [hR]; omega), List.getElem?_drop, Nat.mod_eq_of_lt h]
  · rw [List.getElem?_append_right (by simp [hR]; omega), List.length_drop, hR]
    congr 1
    omega
theorem rheld_iff {R : List Value} {f : Nat} {q : List UInt8} (hR : R.length = 4096) (hf : f < 4096) (hc : q.length ≤ 4096) : RHeld R f q ↔ ∀ j, j < q.length → R[(f + j) % 4096]? = (q.map bv)[j]? := by
  constructor
  · intro h j hj
    rw [← h, List.getElem?_take, if_pos hj, ring_at R f j hR hf (by omega)]
  · intro h
    apply List.ext_getElem?
    intro j
    rw [List.getElem?_take]
    split
    · rename_i hj
      rw [ring_at R f j hR hf (by omega), h j hj]
    · rename_i hj
      rw [List.getElem?_eq_none (by simp; omega)]
theorem RHeld.drop {R : List Value} {f : Nat} {q : List UInt8} (h : RHeld R f q) (hR : R.length = 4096) (hf : f < 4096) (hc : q.length ≤ 4096) (m : Nat) (hm : m ≤ q.length) : RHeld R ((f + m) % 4096) (q.drop m) := by
  rw [rheld_iff hR (Nat.mod_lt _ (by omega)) (by simp; omega)]
  intro j hj
  rw [List.length_drop] at hj
  rw [List.map_drop, List.getElem?_drop, ← (rheld_iff hR hf hc).1 h (m + j) (by omega)]
  congr 1
  omega
theorem splice_get (L cs : List Value) (off i : Nat) (h : off + cs.length ≤ L.length) : (splice L off cs)[i]? = if i < off then L[i]? else if i < off + cs.length then cs[i - off]? else L[i]? := by
  unfold splice
  split
  · rename_i h1
    rw [List.getElem?_append_left (by simp; omega), List.getElem?_take, if_pos h1]
  · rename_i h1
    rw [List.getElem?_append_right (by simp; omega), List.length_take, Nat.min_eq_left (by omega)]
    split
    · rename_i h2
      rw [List.getElem?_append_left (by omega)]
    · rename_i h2
      rw [List.getElem?_append_right (by omega), List.getElem?_drop]
      congr 1
      omega
theorem RHeld.put {R : List Value} {f : Nat} {q x : List UInt8} (h : RHeld R f q) (hR : R.length = 4096) (hf : f < 4096) (hc : q.length + x.length ≤ 4096) (k : Nat) (hk : k = min (4096 - (f + q.length) % 4096) x.length) :
    RHeld (splice (splice R ((f + q.length) % 4096) ((x.map bv).take k)) 0 ((x.map bv).drop k)) f (q ++ x) := by
  have hp : (f + q.length) % 4096 < 4096 := Nat.mod_lt _ (by omega)
  have hk1 : ((x.map bv).take k).length = k := by simp; omega
  have hk2 : ((x.map bv).drop k).length = x.length - k := by simp
  have hR1 : (splice R ((f + q.length) % 4096) ((x.map bv).take k)).length = 4096 := by rw [length_splice _ _ _ (by rw [hk1]; omega), hR]
  have hR2 : (splice (splice R ((f + q.length) % 4096) ((x.map bv).take k)) 0 ((x.map bv).drop k)).length = 4096 := by rw [length_splice _ _ _ (by rw [hk2, hR1]; omega), hR1]
  rw [rheld_iff hR2 hf (by simpa using hc)]
  intro j hj
  rw [List.length_append] at hj
  rw [splice_get _ _ _ _ (by rw [hk2, hR1]; omega), if_neg (by omega), hk2, splice_get _ _ _ _ (by rw [hk1, hR]; omega), hk1, List.map_append]
  by_cases hjq : j < q.length
  · rw [if_neg (by omega), List.getElem?_append_left (by simpa using hjq), ← (rheld_iff hR hf (by omega)).1 h j hjq]
    by_cases h1 : (f + j) % 4096 < (f + q.length) % 4096
    · rw [if_pos h1]
    · rw [if_neg h1, if_neg (by omega)]
  · rw [List.getElem?_append_right (by simpa using hjq), List.length_map]
    by_cases hjk : j - q.length < k
    · have he : (f + j) % 4096 = (f + q.length) % 4096 + (j - q.length) := by omega
      rw [if_neg (by omega), if_neg (by omega), if_pos (by omega), he, List.getElem?_take, if_pos (by omega)]
      congr 1
      omega
    · have he : (f + j) % 4096 = j - q.length - k := by omega
      rw [if_pos (by omega), he, List.getElem?_drop]
      congr 1
      omega

def PipeAt (W : World) (g : Nat) (q : List UInt8) (rd wr : Nat) : Prop := ∃ R f, Pp W g R f q.length rd wr ∧ RHeld R f q
theorem PipeAt.keep {W W' : World} {g : Nat} {q : List UInt8} {rd wr : Nat} (h : PipeAt W g q rd wr) (hB : W'.heap[g]? = W.heap[g]?) : PipeAt W' g q rd wr := by
  obtain ⟨R, f, h1, h2⟩ := h
  exact ⟨R, f, h1.keep hB, h2⟩
theorem PipeAt.lt {W : World} {g : Nat} {q : List UInt8} {rd wr : Nat} (h : PipeAt W g q rd wr) : g < W.heap.size := by
  obtain ⟨R, f, h1, h2⟩ := h
  exact h1.lt
theorem PipeAt.len {W : World} {g : Nat} {q : List UInt8} {rd wr : Nat} (h : PipeAt W g q rd wr) : q.length ≤ 4096 := by
  obtain ⟨R, f, h1, h2⟩ := h
  exact h1.lc

set_option maxRecDepth 100000 in
set_option maxHeartbeats 2000000 in
theorem Kp_take_any (g : Nat) (rd wr : Nat) (q : List UInt8) (n : Nat) (w : World) (h : PipeAt w g q rd wr) (hn : n ≤ 1048576) :
    Calls Tryz.prog 308 #[.pointer (some ⟨g, 1, none⟩), .int .i64 n] w fun e w' => e = .returned (.slice (some ⟨w.heap.size, 0, none⟩) (q.take n).length (q.take n).length) ∧ w'.ownsRow w.heap.size 5 1 (.slice (some ⟨w.heap.size, 0, none⟩) (q.take n).length (q.take n).length) (q.take n).length ((q.take n).map bv) ∧ PipeAt w' g (q.drop n) rd wr ∧ Turned (fun k => k = g) w w' := by
  obtain ⟨R, f, hP, hq⟩ := h
  have HP := hide hP
  have hgl := hP.lt
  have hlf := hP.lf
  have hlc := hP.lc
  have HQ := hide hq
  obtain ⟨m, hm⟩ : ∃ m, m = (q.take n).length := ⟨_, rfl⟩
  have hm' : m ≤ q.length := by rw [hm]; simp; omega
  have hdr : q.drop n = q.drop m := by
    rw [hm, List.length_take]
    by_cases hnq : n ≤ q.length
    · rw [Nat.min_eq_left hnq]
    · rw [Nat.min_eq_right (by omega), List.drop_eq_nil_of_le (by omega), List.drop_eq_nil_of_le (by omega)]
  have HM := hide hm
  have hdl : (q.drop m).length = q.length - m := by simp
  have HDl := hide hdl
  have HDr := hide (hq.drop hP.len hlf hlc m hm')
  rw [hdr, ← hm]
  clear hP hq hm hdr hdl
  go_enter Tryz.func308, Tryz.ntmps308
  go_wp2_with fail
  refine (front_any g R f rd wr q n w HP.out HQ.out hn).mono ?_
  rintro e w1 ⟨rfl, hown, hB1⟩
  rw [← HM.out] at hown ⊢
  have HO := hide hown
  have HP1 := hide (HP.out.keep (hB1.block g hgl))
  clear hown
  have hp1 := HP1.out.cf
  have hp2 := HP1.out.soft 4097
  go_wp2_with fail
  refine (place_is g f m w1 hp1 hlf (by omega)).mono ?_
  rintro e w2 ⟨rfl, rfl⟩
  have hp' : (f + m) % 4096 < 4096 := Nat.mod_lt _ (by omega)
  have HP3 := hide (HP1.out.setf _ hp')
  have hp3 := HP3.out.cc
  have hp4 := HP3.out.soft 4098
  have hw3 : ∀ k, k ≠ g → (w2.setCell ⟨g, 4097, none⟩ (.int .i64 (((f + m) % 4096 : Nat) : Int))).heap[k]? = w2.heap[k]? := fun k hk => Below.heap_setCell _ _ _ _ hk
  have HW3 := hide hw3
  have HP4 := hide (HP3.out.setc (q.length - m) (by omega))
  clear hw3
  generalize hF : (f + m) % 4096 = f' at *
  clear hF
  go_wp2
  go_ret
  rw [show (q.length : Int) - (m : Int) = ((q.length - m : Nat) : Int) by omega]
  refine ⟨rfl, owns_keep HO.out fun k hk => ?_, ⟨R, f', by rw [HDl.out]; exact HP4.out, HDr.out⟩, ((Turned.of_below (S := fun k => k = g) hB1).set (.inl rfl)).set (.inl rfl)⟩
  have hkg : k ≠ g := by
    have : w.heap.size = k := by simpa [Value.ownBlock] using hk
    omega
  rw [Below.heap_setCell _ _ _ _ hkg, Below.heap_setCell _ _ _ _ hkg]

set_option maxRecDepth 100000 in
set_option maxHeartbeats 2000000 in
theorem put_any (g : Nat) (rd wr : Nat) (q x : List UInt8) (a : Option Addr) (n cx : Nat) (w : World) (h : PipeAt w g q rd wr) (hx : Bys w (.slice a n cx) x) (hx0 : 0 < x.length) (hcx : x.length ≤ cx) (hxg : (Value.slice a n cx).ownBlock ≠ some g) (hfit : q.length + x.length ≤ 4096) :
    Calls Tryz.prog 311 #[.pointer (some ⟨g, 1, none⟩), .slice a n cx] w fun e w' => e = .returned (.tuple #[]) ∧ PipeAt w' g (q ++ x) rd wr ∧ Turned (fun k => k = g) w w' := by
  obtain ⟨R, f, hP, hq⟩ := h
  obtain ⟨rfl, b, off, rfl, hbl, -⟩ := bys_block hx hx0
  have HP := hide hP
  have hgl := hP.lt
  have hlf := hP.lf
  have hlc := hP.lc
  have hlR := hP.len
  have hbg : b ≠ g := fun e => hxg (by rw [e]; rfl)
  obtain ⟨X, hX⟩ : ∃ X, X = x.map bv := ⟨_, rfl⟩
  have hXl : X.length = x.length := by rw [hX]; simp
  obtain ⟨k, hk⟩ : ∃ k, k = min (4096 - (f + q.length) % 4096) x.length := ⟨_, rfl⟩
  have HPut := hide (hq.put hlR hlf hfit k hk)
  have H1 : ∀ v ∈ X, v.oneCell' = true := by rw [hX]; exact bys_one x
  have hsrc := Kp_bys_src hx hX (by omega)
  have hlast : (q ++ x).length = q.length + x.length := by simp
  rw [← hX] at HPut
  have hkl : (X.take k).length = k := by rw [List.length_take, hXl]; omega
  have hkd : (X.drop k).length = x.length - k := by rw [List.length_drop, hXl]
  have hp : (f + q.length) % 4096 < 4096 := Nat.mod_lt _ (by omega)
  have hp1 := hP.cf
  have hp2 := hP.cc
  obtain ⟨p, hpe⟩ : ∃ p, p = (f + q.length) % 4096 := ⟨_, rfl⟩
  have HPl := hide (place_is g f q.length w.drew hp1 hlf hlc)
  rw [← hpe] at hp hk HPut HPl
  have hR1 : (splice R p (X.take k)).length = 4096 := by rw [length_splice _ _ _ (by rw [hkl]; omega), hlR]
  have hR2 : (splice (splice R p (X.take k)) 0 (X.drop k)).length = 4096 := by rw [length_splice _ _ _ (by rw [hkd, hR1]; omega), hR1]
  obtain ⟨w2, hrun, HG2, hgr2⟩ := run_copy_tag w.drew 3 (some ⟨g, 1 + p, none⟩) (some ⟨b, off, none⟩) (4096 - p) (4096 - p) x.length cx g (1 + p) 324 _ hP.blk (X.take k) (by rw [hkl, hk]; exact Nat.min_comm _ _) (fun h0 => ⟨rfl, _, rfl, fun j v hj => by
    obtain ⟨ad, he, hs⟩ := hsrc
    cases he
    refine hs j v ?_
    rw [List.getElem?_take] at hj
    split at hj
    · exact hj
    · cases hj⟩) (by rw [hkl, pcells_len _ _ _ _ _ hlR]; omega) (fun v hv => H1 v (List.mem_of_mem_take hv))
  have hP2 : Pp w2 g (splice R p (X.take k)) f q.length rd wr := ⟨by rw [← pcells_splice R f q.length rd wr hlR p _ (by rw [hkl]; omega)]; exact HG2.out, hR1, hlf, hlc, hP.lr, hP.lw⟩
  have hsrc2 : ∀ j v, (X.drop k)[j]? = some v → w2.drew.cell? ((⟨b, off + k, none⟩ : Addr).add j) = some v := fun j v hj => by
    obtain ⟨ad, he, hs⟩ := hsrc
    cases he
    have h1 := hs (k + j) v (by rw [List.getElem?_drop] at hj; exact hj)
    rw [add_at, ← Nat.add_assoc] at h1
    rw [add_at]
    exact (World.cell?_of_block (w := w) (hgr2.block b hbl (by intro e; cases e; exact hbg rfl))).trans h1
  rw [hkl] at hrun
  have HP2 := hide hP2
  have HPf : Hid (∀ w3, w3.heap[g]? = some (.cells (splice (pcells (splice R p (X.take k)) f q.length rd wr) 1 (X.drop k)).toArray 324 (0, 0)) → Pp w3 g (splice (splice R p (X.take k)) 0 (X.drop k)) f q.length rd wr) := hide fun w3 h3 => ⟨by rw [← pcells_splice _ f q.length rd wr hR1 0 _ (by rw [hkd]; omega)]; exact h3, hR2, hlf, hlc, hP.lr, hP.lw⟩
  have hkx : k ≤ x.length := by omega
  have H1b : Hid (∀ v ∈ X.drop k, v.oneCell' = true) := hide fun v hv => H1 v (List.mem_of_mem_drop hv)
  have HS2 := hide hsrc2
  have hpl : (pcells (splice R p (X.take k)) f q.length rd wr).length = 4101 := pcells_len _ _ _ _ _ hR1
  have HPL := hide hpl
  have HL := hide hlast
  have hP2b := HP2.out.blk
  have HB2 := hide hP2b
  unfold PipeAt
  rw [hlast]
  clear hsrc hP hq hx hX H1 hP2 hsrc2 hR1 hR2 hlR hpe hkl hXl hxg hpl hP2b HG2 hlast HP hx0
  generalize splice R p (X.take k) = R1 at *
  generalize q.length = c at *
  generalize x.length = L at *
  have hpi : (p : Int) ≤ 4096 := by omega
  have hpn : ¬ 4096 = p := by omega
  have hk1 : (k : Int) ≤ (L : Int) := by omega
  have HK := hide hk
  clear hk
  rcases (show (cx = k ∧ L = k) ∨ k < cx by omega) with ⟨rfl, rfl⟩ | hck
  · obtain ⟨w3, hrun3, HG3, hgr3⟩ := run_copy_tag w2.drew 3 (some ⟨g, 1, none⟩) (some ⟨b, off, none⟩) 4096 4096 0 0 g 1 324 _ HB2.out (X.drop L) (by rw [hkd]; simp) (fun h0 => by rw [hkd] at h0; simp at h0) (by rw [hkd, HPL.out]; omega) H1b.out
    rw [hkd] at hrun3
    have HP3 := hide (HPf.out w3 HG3.out)
    have hp3 := HP3.out.cc
    have hp4 := HP3.out.soft 4098
    have HP4 := hide (HP3.out.setc (c + L) (by omega))
    go_enter Tryz.func311, Tryz.ntmps311
    go_wp2_with fail
    go_region_with (go_at_call 313; refine HPl.out.mono ?_; rintro e w' ⟨rfl, rfl⟩)
    go_wp2_with fail
    go_region
    go_wp2
    go_end0
    rw [show (c : Int) + (L : Int) = ((c + L : Nat) : Int) by omega]
    exact ⟨rfl, ⟨_, _, HP4.out, HPut.out⟩, ((((Turned.of_below (S := fun k => k = g) (Below.refl _ w).drew).grown hgr2 (fun k e => by cases e; exact .inl rfl)).trans (Turned.of_below (S := fun k => k = g) (Below.refl _ w2).drew) (fun k _ e => e)).grown hgr3 (fun k e => by cases e; exact .inl rfl)).set (.inl rfl)⟩
  · have hci : (k : Int) < (cx : Int) := by omega
    have hcn : ¬ cx = k := by omega
    obtain ⟨w3, hrun3, HG3, hgr3⟩ := run_copy_tag w2.drew 3 (some ⟨g, 1, none⟩) (some ⟨b, off + k, none⟩) 4096 4096 (L - k) (cx - k) g 1 324 _ HB2.out (X.drop k) (by rw [hkd]; show L - k = min (L - k) 4096; omega) (fun h0 => ⟨rfl, _, rfl, HS2.out⟩) (by rw [hkd, HPL.out]; omega) H1b.out
    rw [hkd] at hrun3
    have HP3 := hide (HPf.out w3 HG3.out)
    have hp3 := HP3.out.cc
    have hp4 := HP3.out.soft 4098
    have HP4 := hide (HP3.out.setc (c + L) (by omega))
    go_enter Tryz.func311, Tryz.ntmps311
    go_wp2_with fail
    go_region_with (go_at_call 313; refine HPl.out.mono ?_; rintro e w' ⟨rfl, rfl⟩)
    go_wp2_with fail
    go_region
    go_wp2
    go_end0
    rw [show (c : Int) + (L : Int) = ((c + L : Nat) : Int) by omega]
    exact ⟨rfl, ⟨_, _, HP4.out, HPut.out⟩, ((((Turned.of_below (S := fun k => k = g) (Below.refl _ w).drew).grown hgr2 (fun k e => by cases e; exact .inl rfl)).trans (Turned.of_below (S := fun k => k = g) (Below.refl _ w2).drew) (fun k _ e => e)).grown hgr3 (fun k e => by cases e; exact .inl rfl)).set (.inl rfl)⟩
end Go.Proofs.YtanbiinomagdbaaGreat

/- What the calls of a pipe answer, and what they leave: New, Join, Leave, Held, Ends, CanRead, CanWrite. -/
namespace Go.Proofs.YtanbiinomagdbaaGreat
open Go.RowKit

end Go.Proofs.YtanbiinomagdbaaGreat

/- What the calls of a pipe answer, and what they leave: Join, Leave, Held, Ends, CanRead, CanWrite. -/
namespace Go.Proofs.YtanbiinomagdbaaGreat
open Go.RowKit

set_option maxHeartbeats 1000000 in
theorem ends_any (g : Nat) (q : List UInt8) (rd wr : Nat) (w : World) (h : PipeAt w g q rd wr) :
    Calls Tryz.prog 319 #[.pointer (some ⟨g, 0, none⟩)] w fun e w' => e = .returned (.tuple #[.int .i64 rd, .int .i64 wr]) ∧ Below w.heap.size w w' := by
  obtain ⟨R, f, hP, hq⟩ := h
  have h1 := hP.c0
  have h2 := hP.cr
  have h3 := hP.cw
  clear hP hq
  go_enter Tryz.func319, Tryz.ntmps319
  go_wp2_with fail
  refine (isMade_is g true w h1).mono ?_
  rintro e w1 ⟨rfl, rfl⟩
  go_wp2
  go_quiet (fail)
  go_wp2
  go_ret2
  exact ⟨rfl, below_drewN (Below.refl _ _) _⟩

def canR (n rd wr : Nat) : Bool := decide (0 < rd) && !decide (n = 0 ∧ 0 < wr)
set_option maxHeartbeats 1000000 in
theorem canRead_any (g : Nat) (q : List UInt8) (rd wr : Nat) (w : World) (h : PipeAt w g q rd wr) :
    Calls Tryz.prog 303 #[.pointer (some ⟨g, 0, none⟩)] w fun e w' => e = .returned (.bool (canR q.length rd wr)) ∧ w' = w := by
  obtain ⟨R, f, hP, hq⟩ := h
  have HP := hide hP
  have h1 := hP.c0
  have h2 := hP.cr
  clear hP hq
  unfold canR
  by_cases hr : 0 < rd
  · rw [show decide (0 < rd) = true by simp; omega]
    have k1 : (0 : Int) < (rd : Int) := by omega
    generalize hy : decide (q.length = 0 ∧ 0 < wr) = y
    have HY := hide hy
    clear hy
    go_enter Tryz.func303, Tryz.ntmps303
    go_wp2_with fail
    refine (isMade_is g true w h1).mono ?_
    rintro e w1 ⟨rfl, rfl⟩
    go_wp2_with fail
    refine (readWaits_is g R f q.length rd wr _ HP.out).mono ?_
    rintro e w2 ⟨rfl, rfl⟩
    rw [HY.out]
    go_wp2
    go_ret
    exact ⟨ret_bool (by simp), rfl⟩
  · obtain rfl : rd = 0 := by omega
    go_enter Tryz.func303, Tryz.ntmps303
    go_wp2_with fail
    refine (isMade_is g true w h1).mono ?_
    rintro e w1 ⟨rfl, rfl⟩
    go_wp2
    go_ret
    exact ⟨rfl, rfl⟩

def canW (n : Int) (c rd wr : Nat) : Bool := inN n && (decide (0 < wr) && (decide (rd = 0) || decide (0 < fitN n.toNat n.toNat c)))
set_option maxHeartbeats 1000000 in
theorem canWrite_any (n : Int) (g : Nat) (q : List UInt8) (rd wr : Nat) (w : World) (h : PipeAt w g q rd wr) :
    Calls Tryz.prog 320 #[.pointer (some ⟨g, 0, none⟩), .int .i64 n] w fun e w' => e = .returned (.bool (canW n q.length rd wr)) ∧ w' = w := by
  obtain ⟨R, f, hP, hq⟩ := h
  have HP := hide hP
  have h1 := hP.c0
  have h2 := hP.cr
  have h3 := hP.cw
  clear hP hq
  unfold canW
  by_cases hi : inN n = false
  · rw [hi]
    have HI := hide hi
    clear hi
    go_enter Tryz.func320, Tryz.ntmps320
    go_wp2_with fail
    refine (isMade_is g true w h1).mono ?_
    rintro e w1 ⟨rfl, rfl⟩
    go_wp2_with fail
    refine (mayBeAsked_any n _).mono ?_
    rintro e w1 ⟨rfl, rfl⟩
    rw [HI.out]
    go_wp2
    go_ret
    exact ⟨rfl, rfl⟩
  · have hi' : inN n = true := by simpa using hi
    obtain ⟨m, rfl, hm1, hm2⟩ := inN_nat hi'
    rw [hi']
    have HI := hide hi'
    clear hi hi'
    simp only [Int.toNat_natCast]
    rcases (show wr = 0 ∨ (0 < wr ∧ rd = 0) ∨ (0 < wr ∧ 0 < rd) by omega) with rfl | ⟨hw, rfl⟩ | ⟨hw, hr⟩
    · go_enter Tryz.func320, Tryz.ntmps320
      go_wp2_with fail
      refine (isMade_is g true w h1).mono ?_
      rintro e w1 ⟨rfl, rfl⟩
      go_wp2_with fail
      refine (mayBeAsked_any m _).mono ?_
      rintro e w1 ⟨rfl, rfl⟩
      rw [HI.out]
      go_wp2
      go_ret
      exact ⟨rfl, rfl⟩
    · rw [show decide (0 < wr) = true by simp; omega]
      have k1 : ¬ (wr : Int) = 0 := by omega
      have k2 : ((wr : Int) == 0) = false := by simp; omega
      go_enter Tryz.func320, Tryz.ntmps320
      go_wp2_with fail
      refine (isMade_is g true w h1).mono ?_
      rintro e w1 ⟨rfl, rfl⟩
      go_wp2_with fail
      refine (mayBeAsked_any m _).mono ?_
      rintro e w1 ⟨rfl, rfl⟩
      rw [HI.out]
      go_wp2
      go_ret
      exact ⟨rfl, rfl⟩
    · rw [show decide (0 < wr) = true by simp; omega, show decide (rd = 0) = false by simp; omega]
      have k1 : ¬ (wr : Int) = 0 := by omega
      have k2 : ((wr : Int) == 0) = false := by simp; omega
      have k3 : ¬ (rd : Int) = 0 := by omega
      have k4 : ((rd : Int) == 0) = false := by simp; omega
      go_enter Tryz.func320, Tryz.ntmps320
      go_wp2_with fail
      refine (isMade_is g true w h1).mono ?_
      rintro e w1 ⟨rfl, rfl⟩
      go_wp2_with fail
      refine (mayBeAsked_any m _).mono ?_
      rintro e w1 ⟨rfl, rfl⟩
      rw [HI.out]
      go_wp2_with fail
      refine (fitting_is g R f q.length rd wr m m _ HP.out hm2).mono ?_
      rintro e w1 ⟨rfl, rfl⟩
      go_wp2
      go_ret
      exact ⟨ret_bool (by simp), rfl⟩
end Go.Proofs.YtanbiinomagdbaaGreat

/- What Read and Write of a pipe answer, and what they leave. -/
namespace Go.Proofs.YtanbiinomagdbaaGreat
open Go.RowKit

def Kp_rdE (n : Int) (c rd wr : Nat) : Int := if inN n = false then 4 else if rd = 0 then 51 else if decide (c = 0 ∧ 0 < wr) = true then 52 else 0
def rdB (n : Int) (q : List UInt8) (rd wr : Nat) : List UInt8 := if Kp_rdE n q.length rd wr = 0 then q.take n.toNat else []
def rdQ (n : Int) (q : List UInt8) (rd wr : Nat) : List UInt8 := if Kp_rdE n q.length rd wr = 0 then q.drop n.toNat else q
def Kp_wrE (n : Nat) (most : Int) (c rd wr : Nat) : Int := if refE n most rd wr = 0 then (if n = 0 then 0 else if fitN n most.toNat c = 0 then 52 else 0) else refE n most rd wr
def wrN (n : Nat) (most : Int) (c rd wr : Nat) : Nat := if refE n most rd wr = 0 then fitN n most.toNat c else 0
theorem wrN_le (n : Nat) (most : Int) (c rd wr : Nat) : wrN n most c rd wr ≤ n ∧ (c ≤ 4096 → c + wrN n most c rd wr ≤ 4096) := by
  unfold wrN
  split
  · exact fitN_le _ _ _
  · exact ⟨Nat.zero_le _, fun h => by omega⟩
theorem refE_zero {n : Nat} {most : Int} {rd wr : Nat} (h : refE n most rd wr = 0) : n ≤ 1048576 ∧ inN most = true ∧ 0 < wr ∧ 0 < rd := by
  unfold refE at h
  split at h
  · simp at h
  · split at h
    · simp at h
    · split at h
      · simp at h
      · split at h
        · simp at h
        · rename_i h1 h2 h3 h4
          exact ⟨by omega, by simpa using h2, by omega, by omega⟩

set_option maxRecDepth 100000 in
set_option maxHeartbeats 1000000 in
theorem Kp_read_any (n : Int) (g : Nat) (q : List UInt8) (rd wr : Nat) (w : World) (h : PipeAt w g q rd wr) :
    Calls Tryz.prog 304 #[.pointer (some ⟨g, 0, none⟩), .int .i64 n] w fun e w' => ∃ v, e = .returned (.tuple #[v, .int .i64 (Kp_rdE n q.length rd wr)]) ∧ w'.ownsRow w.heap.size 5 1 v (rdB n q rd wr).length ((rdB n q rd wr).map bv) ∧ PipeAt w' g (rdQ n q rd wr) rd wr ∧ Turned (fun k => k = g) w w' := by
  have HA := hide h
  obtain ⟨R, f, hP, hq⟩ := h
  have HP := hide hP
  have h1 := hP.c0
  have h2 := hP.cr
  clear hP hq
  unfold rdB rdQ
  by_cases hi : inN n = false
  · have he : Kp_rdE n q.length rd wr = 4 := by rw [Kp_rdE, if_pos hi]
    rw [he, if_neg (by decide), if_neg (by decide)]
    have HI := hide hi
    clear hi he
    go_enter Tryz.func304, Tryz.ntmps304
    go_wp2_with fail
    refine (isMade_is g true w h1).mono ?_
    rintro e w1 ⟨rfl, rfl⟩
    go_wp2_with fail
    refine (mayBeAsked_any n _).mono ?_
    rintro e w1 ⟨rfl, rfl⟩
    rw [HI.out]
    go_wp2
    go_ret2
    exact ⟨_, rfl, World.ownsRow_nil _ _ _ _, HA.out, Turned.refl _ _⟩
  · have hi' : inN n = true := by simpa using hi
    obtain ⟨m, rfl, hm1, hm2⟩ := inN_nat hi'
    have HI := hide hi'
    clear hi'
    simp only [Int.toNat_natCast]
    by_cases hr : rd = 0
    · subst hr
      have he : Kp_rdE m q.length 0 wr = 51 := by rw [Kp_rdE, if_neg hi, if_pos rfl]
      rw [he, if_neg (by decide), if_neg (by decide)]
      clear hi he
      go_enter Tryz.func304, Tryz.ntmps304
      go_wp2_with fail
      refine (isMade_is g true w h1).mono ?_
      rintro e w1 ⟨rfl, rfl⟩
      go_wp2_with fail
      refine (mayBeAsked_any m _).mono ?_
      rintro e w1 ⟨rfl, rfl⟩
      rw [HI.out]
      go_wp2
      go_ret2
      exact ⟨_, rfl, World.ownsRow_nil _ _ _ _, HA.out, Turned.refl _ _⟩
    · have k1 : ¬ (rd : Int) = 0 := by omega
      have k2 : ((rd : Int) == 0) = false := by simp; omega
      by_cases hb : decide (q.length = 0 ∧ 0 < wr) = true
      · have he : Kp_rdE m q.length rd wr = 52 := by rw [Kp_rdE, if_neg hi, if_neg hr, if_pos hb]
        rw [he, if_neg (by decide), if_neg (by decide)]
        have HB := hide hb
        clear hi he hb
        go_enter Tryz.func304, Tryz.ntmps304
        go_wp2_with fail
        refine (isMade_is g true w h1).mono ?_
        rintro e w1 ⟨rfl, rfl⟩
        go_wp2_with fail
        refine (mayBeAsked_any m _).mono ?_
        rintro e w1 ⟨rfl, rfl⟩
        rw [HI.out]
        go_wp2_with fail
        refine (readWaits_is g R f q.length rd wr _ HP.out).mono ?_
        rintro e w1 ⟨rfl, rfl⟩
        rw [HB.out]
        go_wp2
        go_ret2
        exact ⟨_, rfl, World.ownsRow_nil _ _ _ _, HA.out, Turned.refl _ _⟩
      · have he : Kp_rdE m q.length rd wr = 0 := by rw [Kp_rdE, if_neg hi, if_neg hr, if_neg hb]
        rw [he, if_pos rfl, if_pos rfl]
        have HB : Hid (decide (q.length = 0 ∧ 0 < wr) = false) := hide (by simpa using hb)
        obtain ⟨L, hL⟩ : ∃ L, L = (q.take m).length := ⟨_, rfl⟩
        have HL := hide hL
        rw [← hL]
        clear hi he hb hL
        go_enter Tryz.func304, Tryz.ntmps304
        go_wp2_with fail
        refine (isMade_is g true w h1).mono ?_
        rintro e w1 ⟨rfl, rfl⟩
        go_wp2_with fail
        refine (mayBeAsked_any m _).mono ?_
        rintro e w1 ⟨rfl, rfl⟩
        rw [HI.out]
        go_wp2_with fail
        refine (readWaits_is g R f q.length rd wr _ HP.out).mono ?_
        rintro e w1 ⟨rfl, rfl⟩
        rw [HB.out]
        go_wp2_with fail
        refine (Kp_take_any g rd wr q m _ HA.out hm2).mono ?_
        rintro e w2 ⟨rfl, hown, hP2, hT⟩
        rw [← HL.out] at hown ⊢
        have HO := hide hown
        have HP2 := hide hP2
        clear hown hP2
        go_wp2
        go_ret2
        exact ⟨_, rfl, HO.out, HP2.out, hT⟩

set_option maxRecDepth 100000 in
set_option maxHeartbeats 1000000 in
theorem Kp_write_any (most : Int) (g : Nat) (q x : List UInt8) (a : Option Addr) (n cx : Nat) (rd wr : Nat) (w : World) (h : PipeAt w g q rd wr) (hx : Bys w (.slice a n cx) x) (hcx : x.length ≤ cx) (hxs : x.length ≤ 140737488351232) (hxg : 0 < x.length → (Value.slice a n cx).ownBlock ≠ some g) :
    Calls Tryz.prog 305 #[.pointer (some ⟨g, 0, none⟩), .slice a n cx, .int .i64 most] w fun e w' => e = .returned (.tuple #[.int .i64 (wrN x.length most q.length rd wr : Nat), .int .i64 (Kp_wrE x.length most q.length rd wr)]) ∧ PipeAt w' g (q ++ x.take (wrN x.length most q.length rd wr)) rd wr ∧ Turned (fun k => k = g) w w' := by
  have HA := hide h
  have hql := h.len
  obtain ⟨R, f, hP, hq⟩ := h
  have HP := hide hP
  clear hP hq
  obtain ⟨a1, c1, he1, -⟩ := bys_form hx
  obtain ⟨rfl, rfl, rfl⟩ : a = a1 ∧ n = x.length ∧ cx = c1 := by simpa using he1
  have HX := hide hx
  have HG := hide hxg
  clear hx he1 hxg
  unfold wrN Kp_wrE
  by_cases hr : refE x.length most rd wr = 0
  · obtain ⟨hl, hi, hw0, hr0⟩ := refE_zero hr
    obtain ⟨m, rfl, hm1, hm2⟩ := inN_nat hi
    rw [if_pos hr, if_pos hr]
    simp only [Int.toNat_natCast]
    have HR := hide hr
    clear hr hi
    by_cases hx0 : x.length = 0
    · obtain rfl : x = [] := List.length_eq_zero_iff.1 hx0
      rw [if_pos hx0]
      simp only [List.length_nil] at *
      go_enter Tryz.func305, Tryz.ntmps305
      go_wp2_with fail
      refine (refuses_is g R f q.length rd wr _ 0 _ m _ HP.out (by omega)).mono ?_
      rintro e w1 ⟨rfl, rfl⟩
      rw [HR.out]
      go_wp2
      go_ret2
      exact ⟨rfl, by simpa using HA.out, Turned.refl _ _⟩
    · rw [if_neg hx0]
      have k1 : ¬ (x.length : Int) = 0 := by omega
      have k2 : ((x.length : Int) == 0) = false := by rw [beq_eq_false_iff_ne]; omega
      obtain ⟨y, hy⟩ : ∃ y, y = fitN x.length m q.length := ⟨_, rfl⟩
      have hyl := fitN_le x.length m q.length
      by_cases hy0 : fitN x.length m q.length = 0
      · rw [if_pos hy0]
        rw [← hy] at hyl hy0 ⊢
        subst hy0
        have HY := hide hy
        clear hy hyl
        go_enter Tryz.func305, Tryz.ntmps305
        go_wp2_with fail
        refine (refuses_is g R f q.length rd wr _ x.length _ m _ HP.out hxs).mono ?_
        rintro e w1 ⟨rfl, rfl⟩
        rw [HR.out]
        go_wp2_with fail
        refine (fitting_is g R f q.length rd wr x.length m _ HP.out hl).mono ?_
        rintro e w1 ⟨rfl, rfl⟩
        rw [← HY.out]
        go_wp2
        go_ret2
        exact ⟨rfl, by simpa using HA.out, Turned.refl _ _⟩
      · rw [if_neg hy0]
        rw [← hy] at hyl hy0 ⊢
        have k3 : ¬ (y : Int) = 0 := by omega
        have k4 : ((y : Int) == 0) = false := by simp; omega
        have k5 : (y : Int) ≤ (cx : Int) := by omega
        obtain ⟨-, b, off, rfl, hbl, -⟩ := bys_block HX.out (by omega)
        have HXc : Hid (Bys w (.slice (some ⟨b, off, none⟩) y cx) (x.take y)) := hide (by simpa using bys_cut HX.out 0 y cx (by omega))
        have htl : (x.take y).length = y := by simp; omega
        have HTL := hide htl
        have hyf : q.length + y ≤ 4096 := by have := hyl.2 hql; omega
        have HY := hide hy
        clear hy hyl htl
        have HPut := hide (put_any g rd wr q (x.take y) (some ⟨b, off, none⟩) y cx w.drew (HA.out.keep (W' := w.drew) rfl) (HXc.out.below (Below.refl _ w).drew) (by rw [HTL.out]; omega) (by rw [HTL.out]; omega) (HG.out (by omega)) (by rw [HTL.out]; omega))
        go_enter Tryz.func305, Tryz.ntmps305
        go_wp2_with fail
        refine (refuses_is g R f q.length rd wr _ x.length _ m _ HP.out hxs).mono ?_
        rintro e w1 ⟨rfl, rfl⟩
        rw [HR.out]
        go_wp2_with fail
        refine (fitting_is g R f q.length rd wr x.length m _ HP.out hl).mono ?_
        rintro e w1 ⟨rfl, rfl⟩
        rw [← HY.out]
        go_wp2_with fail
        go_region_with (go_at_call 311; refine HPut.out.mono ?_; rintro e w' ⟨rfl, hP2, hT⟩; have HP2 := hide hP2; have HT := hide hT; clear hP2 hT)
        go_wp2
        go_ret2
        exact ⟨rfl, HP2.out, (Turned.of_below (S := fun k => k = g) (Below.refl _ _).drew).trans HT.out (fun _ _ e => e)⟩
  · rw [if_neg hr, if_neg hr]
    have HR := hide hr
    obtain ⟨y, hy⟩ : ∃ y, y = refE x.length most rd wr := ⟨_, rfl⟩
    rw [← hy] at hr ⊢
    have k1 : (y == 0) = false := by simpa using hr
    have HY := hide hy
    clear hy HR
    go_enter Tryz.func305, Tryz.ntmps305
    go_wp2_with fail
    refine (refuses_is g R f q.length rd wr _ x.length _ most _ HP.out hxs).mono ?_
    rintro e w1 ⟨rfl, rfl⟩
    rw [← HY.out]
    go_wp2
    go_ret2
    exact ⟨rfl, by simpa using HA.out, Turned.refl _ _⟩
end Go.Proofs.YtanbiinomagdbaaGreat

/- The reference's pipe: Join, Leave, Read, CanRead, CanWrite. -/
namespace Go.Proofs.YtanbiinomagdbaaGreat
open Go.RowKit

structure RP (W : World) (B t : Nat) (a : Option Addr) (c : Nat) (q : List UInt8) (rd wr : Nat) : Prop where
  blk : W.heap[t]? = some (.cells ([.slice a q.length c, .int .i64 rd, .int .i64 wr] : List Value).toArray 250 (0, 0))
  bys : Bys W (.slice a q.length c) q
  cap : q.length ≤ c
  lq : q.length ≤ 4096
  lr : rd ≤ 1024
  lw : wr ≤ 1024
  ad : (a = none ∧ c = 0 ∧ q = []) ∨ ∃ b off, a = some ⟨b, off, none⟩ ∧ b ≠ t ∧ B ≤ b ∧ b < W.heap.size
theorem RP.lt {W : World} {B t : Nat} {a : Option Addr} {c : Nat} {q : List UInt8} {rd wr : Nat} (h : RP W B t a c q rd wr) : t < W.heap.size := (Array.getElem?_eq_some_iff.1 h.blk).1
theorem RP.soft {W : World} {B t : Nat} {a : Option Addr} {c : Nat} {q : List UInt8} {rd wr : Nat} (h : RP W B t a c q rd wr) (j : Nat) : W.frozen? ⟨t, j, none⟩ = false := frozen_of_row W t j _ _ h.blk
theorem RP.c0 {W : World} {B t : Nat} {a : Option Addr} {c : Nat} {q : List UInt8} {rd wr : Nat} (h : RP W B t a c q rd wr) : W.cell? ⟨t, 0, none⟩ = some (.slice a q.length c) := by rw [cell_of_row W t 0 _ _ _ h.blk]; rfl
theorem RP.c1 {W : World} {B t : Nat} {a : Option Addr} {c : Nat} {q : List UInt8} {rd wr : Nat} (h : RP W B t a c q rd wr) : W.cell? ⟨t, 1, none⟩ = some (.int .i64 rd) := by rw [cell_of_row W t 1 _ _ _ h.blk]; rfl
theorem RP.c2 {W : World} {B t : Nat} {a : Option Addr} {c : Nat} {q : List UInt8} {rd wr : Nat} (h : RP W B t a c q rd wr) : W.cell? ⟨t, 2, none⟩ = some (.int .i64 wr) := by rw [cell_of_row W t 2 _ _ _ h.blk]; rfl
theorem RP.keep {S : Nat → Prop} {W W' : World} {B t : Nat} {a : Option Addr} {c : Nat} {q : List UInt8} {rd wr : Nat} (h : RP W B t a c q rd wr) (hT : Turned S W W') (ht : ¬ S t) (hb : ∀ b, B ≤ b → b ≠ t → b < W.heap.size → (Value.slice a q.length c).ownBlock = some b → ¬ S b) : RP W' B t a c q rd wr := by
  refine ⟨(hT.block t h.lt ht).trans h.blk, h.bys.turned hT fun k hk hlt => ?_, h.cap, h.lq, h.lr, h.lw, ?_⟩
  · rcases h.ad with ⟨rfl, _⟩ | ⟨b, off, rfl, h1, h2, h3⟩
    · cases hk
    · obtain rfl : b = k := by simpa [Value.ownBlock] using hk
      exact hb b h2 h1 h3 rfl
  · rcases h.ad with h | ⟨b, off, h0, h1, h2, h3⟩
    · exact .inl h
    · exact .inr ⟨b, off, h0, h1, h2, Nat.lt_of_lt_of_le h3 hT.size⟩
theorem RP.below {W W' : World} {B t : Nat} {a : Option Addr} {c : Nat} {q : List UInt8} {rd wr : Nat} (h : RP W B t a c q rd wr) (hB : Below W.heap.size W W') : RP W' B t a c q rd wr :=
  h.keep (Turned.of_below (S := fun _ => False) hB) id (fun _ _ _ _ _ => id)
theorem RP.set {W : World} {B t : Nat} {a : Option Addr} {c : Nat} {q : List UInt8} {rd wr : Nat} (h : RP W B t a c q rd wr) (j : Nat) (v : Value) {a' : Option Addr} {c' : Nat} {q' : List UInt8} {rd' wr' : Nat}
    (hl : ([.slice a q.length c, .int .i64 rd, .int .i64 wr] : List Value).set j v = [.slice a' q'.length c', .int .i64 rd', .int .i64 wr']) (hb : Bys W (.slice a' q'.length c') q') (hc : q'.length ≤ c') (hq : q'.length ≤ 4096) (hr : rd' ≤ 1024) (hw : wr' ≤ 1024)
    (ha : (a' = none ∧ c' = 0 ∧ q' = []) ∨ ∃ b off, a' = some ⟨b, off, none⟩ ∧ b ≠ t ∧ B ≤ b ∧ b < W.heap.size) : RP (W.setCell ⟨t, j, none⟩ v) B t a' c' q' rd' wr' := by
  have hs : (W.setCell ⟨t, j, none⟩ v).heap.size = W.heap.size := by simp [World.setCell]
  refine ⟨by rw [heap_setCell_same j v h.blk, hl], hb.keep fun k hk _ => Below.heap_setCell _ _ _ _ ?_, hc, hq, hr, hw, ?_⟩
  · rcases ha with ⟨rfl, _⟩ | ⟨b, off, rfl, h1, _⟩
    · cases hk
    · obtain rfl : b = k := by simpa [Value.ownBlock] using hk
      exact h1
  · rw [hs]; exact ha

set_option maxHeartbeats 1000000 in
theorem rcanRead_any (B t : Nat) (a : Option Addr) (c : Nat) (q : List UInt8) (rd wr : Nat) (w : World) (h : RP w B t a c q rd wr) :
    Calls Tryz.prog 153 #[.pointer (some ⟨t, 0, none⟩)] w fun e w' => e = .returned (.bool (canR q.length rd wr)) ∧ w' = w := by
  have h1 := h.c0
  have h2 := h.c1
  have h3 := h.c2
  clear h
  unfold canR
  generalize q.length = n at *
  rcases (show rd = 0 ∨ (0 < rd ∧ 0 < n) ∨ (0 < rd ∧ n = 0 ∧ 0 < wr) ∨ (0 < rd ∧ n = 0 ∧ wr = 0) by omega) with rfl | ⟨hr, hn⟩ | ⟨hr, rfl, hw⟩ | ⟨hr, rfl, rfl⟩
  · go_enter Tryz.func153, Tryz.ntmps153
    go_wp2
    go_ret
    exact ⟨rfl, rfl⟩
  · rw [show decide (0 < rd) = true by simp; omega, show decide (n = 0 ∧ 0 < wr) = false by rw [decide_eq_false_iff_not]; omega]
    have k1 : (0 : Int) < (rd : Int) := by omega
    have k2 : (0 : Int) < (n : Int) := by omega
    go_enter Tryz.func153, Tryz.ntmps153
    go_wp2
    go_ret
    exact ⟨rfl, rfl⟩
  · rw [show decide (0 < rd) = true by simp; omega, show decide (0 = 0 ∧ 0 < wr) = true by rw [decide_eq_true_iff]; omega]
    have k1 : (0 : Int) < (rd : Int) := by omega
    have k2 : ((wr : Int) == 0) = false := by simp; omega
    go_enter Tryz.func153, Tryz.ntmps153
    go_wp2
    go_ret
    exact ⟨rfl, rfl⟩
  · rw [show decide (0 < rd) = true by simp; omega]
    have k1 : (0 : Int) < (rd : Int) := by omega
    go_enter Tryz.func153, Tryz.ntmps153
    go_wp2
    go_ret
    exact ⟨rfl, rfl⟩

set_option maxHeartbeats 2000000 in
theorem rcanWrite_any (n : Int) (B t : Nat) (a : Option Addr) (c : Nat) (q : List UInt8) (rd wr : Nat) (w : World) (h : RP w B t a c q rd wr) :
    Calls Tryz.prog 157 #[.pointer (some ⟨t, 0, none⟩), .int .i64 n] w fun e w' => e = .returned (.bool (canW n q.length rd wr)) ∧ w' = w := by
  have h1 := h.c0
  have h2 := h.c1
  have h3 := h.c2
  have h4 := h.lq
  clear h
  unfold canW
  generalize q.length = z at *
  by_cases hi : inN n = false
  · rw [hi]
    have h5 : n < 1 ∨ 1048576 < n := by
      simp only [inN, Bool.and_eq_false_iff, decide_eq_false_iff_not] at hi
      omega
    clear hi
    rcases (show wr = 0 ∨ (0 < wr ∧ n < 1) ∨ (0 < wr ∧ 1048576 < n) by omega) with rfl | ⟨hw, hn⟩ | ⟨hw, hn⟩
    · go_enter Tryz.func157, Tryz.ntmps157
      go_wp2
      go_ret
      exact ⟨rfl, rfl⟩
    · have k1 : (0 : Int) < (wr : Int) := by omega
      have k2 : ¬ 1 ≤ n := by omega
      go_enter Tryz.func157, Tryz.ntmps157
      go_wp2
      go_ret
      exact ⟨rfl, rfl⟩
    · have k1 : (0 : Int) < (wr : Int) := by omega
      have k2 : 1 ≤ n := by omega
      have k3 : ¬ n ≤ 1048576 := by omega
      go_enter Tryz.func157, Tryz.ntmps157
      go_wp2
      go_ret
      exact ⟨rfl, rfl⟩
  · have hi' : inN n = true := by simpa using hi
    obtain ⟨m, rfl, hm1, hm2⟩ := inN_nat hi'
    rw [hi']
    clear hi hi'
    simp only [Int.toNat_natCast]
    have k2 : (1 : Int) ≤ (m : Int) := by omega
    have k3 : (m : Int) ≤ 1048576 := by omega
    rcases (show wr = 0 ∨ (0 < wr ∧ rd = 0) ∨ (0 < wr ∧ 0 < rd ∧ m ≤ 512 ∧ m ≤ 4096 - z) ∨ (0 < wr ∧ 0 < rd ∧ m ≤ 512 ∧ ¬ m ≤ 4096 - z) ∨ (0 < wr ∧ 0 < rd ∧ 512 < m ∧ 0 < 4096 - z) ∨ (0 < wr ∧ 0 < rd ∧ 512 < m ∧ z = 4096) by omega) with rfl | ⟨hw, rfl⟩ | ⟨hw, hr, hm, hz⟩ | ⟨hw, hr, hm, hz⟩ | ⟨hw, hr, hm, hz⟩ | ⟨hw, hr, hm, rfl⟩
    · go_enter Tryz.func157, Tryz.ntmps157
      go_wp2
      go_ret
      exact ⟨rfl, rfl⟩
    · rw [show decide (0 < wr) = true by simp; omega]
      have k1 : (0 : Int) < (wr : Int) := by omega
      go_enter Tryz.func157, Tryz.ntmps157
      go_wp2
      go_ret
      exact ⟨rfl, rfl⟩
    · have hy : fitN m m z = m := by unfold fitN; rw [if_neg (by omega), if_neg (by omega)]
      rw [show decide (0 < wr) = true by simp; omega, show decide (rd = 0) = false by simp; omega, show decide (0 < fitN m m z) = true by rw [hy]; simp; omega]
      have k1 : (0 : Int) < (wr : Int) := by omega
      have k4 : ((rd : Int) == 0) = false := by simp; omega
      have k5 : (m : Int) ≤ 512 := by omega
      have k6 : (m : Int) ≤ 4096 - (z : Int) := by omega
      clear hy
      go_enter Tryz.func157, Tryz.ntmps157
      go_wp2
      go_ret
      exact ⟨rfl, rfl⟩
    · have hy : fitN m m z = 0 := by unfold fitN; rw [if_neg (by omega), if_pos (by omega)]
      rw [show decide (0 < wr) = true by simp; omega, show decide (rd = 0) = false by simp; omega, show decide (0 < fitN m m z) = false by rw [hy]; rfl]
      have k1 : (0 : Int) < (wr : Int) := by omega
      have k4 : ((rd : Int) == 0) = false := by simp; omega
      have k5 : (m : Int) ≤ 512 := by omega
      have k6 : ¬ (m : Int) ≤ 4096 - (z : Int) := by omega
      have k7 : ¬ (512 : Int) < (m : Int) := by omega
      clear hy
      go_enter Tryz.func157, Tryz.ntmps157
      go_wp2
      go_ret
      exact ⟨rfl, rfl⟩
    · have hy : 0 < fitN m m z := by unfold fitN; rw [if_pos (by omega)]; omega
      rw [show decide (0 < wr) = true by simp; omega, show decide (rd = 0) = false by simp; omega, show decide (0 < fitN m m z) = true by simp; omega]
      have k1 : (0 : Int) < (wr : Int) := by omega
      have k4 : ((rd : Int) == 0) = false := by simp; omega
      have k5 : ¬ (m : Int) ≤ 512 := by omega
      have k7 : (512 : Int) < (m : Int) := by omega
      have k6 : (0 : Int) < 4096 - (z : Int) := by omega
      clear hy
      go_enter Tryz.func157, Tryz.ntmps157
      go_wp2
      go_ret
      exact ⟨ret_bool (by simp; omega), rfl⟩
    · have hy : fitN m m 4096 = 0 := by unfold fitN; rw [if_pos (by omega)]; omega
      rw [show decide (0 < wr) = true by simp; omega, show decide (rd = 0) = false by simp; omega, show decide (0 < fitN m m 4096) = false by rw [hy]; rfl]
      have k1 : (0 : Int) < (wr : Int) := by omega
      have k4 : ((rd : Int) == 0) = false := by simp; omega
      have k5 : ¬ (m : Int) ≤ 512 := by omega
      have k7 : (512 : Int) < (m : Int) := by omega
      clear hy
      go_enter Tryz.func157, Tryz.ntmps157
      go_wp2
      go_ret
      exact ⟨rfl, rfl⟩
end Go.Proofs.YtanbiinomagdbaaGreat

/- The reference's pipe: Read. -/
namespace Go.Proofs.YtanbiinomagdbaaGreat
open Go.RowKit

theorem inN_no {n : Int} (h : inN n = false) : n < 1 ∨ (1 ≤ n ∧ 1048576 < n) := by
  simp only [inN, Bool.and_eq_false_iff, decide_eq_false_iff_not] at h
  omega

def RRead (w : World) (B t : Nat) (va : Value) (rd wr : Nat) (E : Int) (Y q' : List UInt8) (e : Ending) (w' : World) : Prop :=
  ∃ v a' c', e = .returned (.tuple #[v, .int .i64 E]) ∧ Bys w' v Y ∧ RP w' B t a' c' q' rd wr ∧ Turned (fun k => k = t) w w' ∧ ∀ b, (Value.slice a' q'.length c').ownBlock = some b → va.ownBlock = some b

set_option maxRecDepth 100000 in
set_option maxHeartbeats 1000000 in
theorem rread_ok (n : Nat) (B t : Nat) (a : Option Addr) (c : Nat) (q : List UInt8) (rd wr : Nat) (w : World) (h : RP w B t a c q rd wr) (hn1 : 1 ≤ n) (hn : n ≤ 1048576) (hr : 0 < rd) (hb : ¬ (q.length = 0 ∧ 0 < wr)) :
    Calls Tryz.prog 156 #[.pointer (some ⟨t, 0, none⟩), .int .i64 n] w (RRead w B t (.slice a q.length c) rd wr 0 (q.take n) (q.drop n)) := by
  have HP := hide h
  have h1 := h.c0
  have h2 := h.c1
  have h3 := h.c2
  have h4 := h.soft 0
  have hcap := h.cap
  have hlq := h.lq
  have had := h.ad
  clear h
  have d1 : ¬ (n : Int) < 1 := by omega
  have d2 : ¬ (1048576 : Int) < (n : Int) := by omega
  have d3 : ((rd : Int) == 0) = false := by simp; omega
  rcases had with ⟨rfl, rfl, rfl⟩ | ⟨b, off, rfl, hbt, hBb, hbl⟩
  · obtain rfl : wr = 0 := by simp at hb; omega
    have HP2 := hide (HP.out.set 0 (.slice none 0 0) (a' := none) (c' := 0) (q' := []) (rd' := rd) (wr' := 0) rfl HP.out.bys HP.out.cap HP.out.lq HP.out.lr HP.out.lw (.inl ⟨rfl, rfl, rfl⟩))
    simp only [List.length_nil] at h1
    have d4 : (0 : Int) < (n : Int) := by omega
    rw [List.take_nil, List.drop_nil, List.length_nil]
    have HF : Hid (∀ w' e, e = .returned (.tuple #[.slice none 0 0, .int .i64 0]) → w' = w.setCell ⟨t, 0, none⟩ (.slice none 0 0) → RRead w B t (.slice none 0 0) rd 0 0 [] [] e w') := hide fun w' e h5 h6 => by
      subst h6
      exact ⟨_, none, 0, h5, .inl ⟨rfl, rfl⟩, HP2.out, (Turned.refl _ _).set (.inl rfl), fun b e => e⟩
    go_enter Tryz.func156, Tryz.ntmps156
    go_wp2
    go_ret2
    exact HF.out _ _ rfl rfl
  · rcases (show (q.length = 0 ∧ wr = 0) ∨ 0 < q.length by omega) with ⟨hq0, rfl⟩ | hq0
    · obtain rfl : q = [] := List.length_eq_zero_iff.1 hq0
      rcases (show c = 0 ∨ 0 < c by omega) with rfl | hc0
      case' inl => have d6 : (0 : Int) ≤ 0 := by omega
      case' inr => have d6 : ¬ c = 0 := by omega
      all_goals
        simp only [List.length_nil] at h1
        have d4 : (0 : Int) < (n : Int) := by omega
        rw [List.take_nil, List.drop_nil, List.length_nil]
        go_enter Tryz.func156, Tryz.ntmps156
        go_wp2
        go_ret2
        refine ⟨_, some ⟨b, off, none⟩, _, rfl, .inr (.inl ⟨_, _, rfl, rfl⟩), ?_, (Turned.refl _ _).set (.inl rfl), fun b e => e⟩
        exact HP.out.set 0 _ rfl (.inr (.inl ⟨_, _, rfl, rfl⟩)) (by simp) (by simp) HP.out.lr HP.out.lw (.inr ⟨b, off, rfl, hbt, hBb, hbl⟩)
    · have d5 : ((q.length : Int) == 0) = false := by rw [beq_eq_false_iff_ne]; omega
      by_cases hnq : n < q.length
      · have d4 : ¬ (q.length : Int) < (n : Int) := by omega
        have d6 : (n : Int) ≤ (c : Int) := by omega
        have d7 : (n : Int) ≤ (q.length : Int) := by omega
        have d8 : ¬ c = n := by omega
        have htl : (q.take n).length = n := by simp; omega
        have hdl : (q.drop n).length = q.length - n := by simp
        have HB1 : Hid (Bys w (.slice (some ⟨b, off, none⟩) n c) (q.take n)) := hide (by simpa using bys_cut HP.out.bys 0 n c (by omega))
        have HB2 : Hid (Bys w (.slice (some ⟨b, off + n, none⟩) (q.drop n).length (c - n)) (q.drop n)) := hide (by
          have := bys_cut HP.out.bys n (q.length - n) (c - n) (by omega)
          rw [List.take_of_length_le (by simp)] at this
          rw [hdl]; exact this)
        have HP2 := hide (HP.out.set 0 (.slice (some ⟨b, off + n, none⟩) (q.length - n) (c - n)) (a' := some ⟨b, off + n, none⟩) (c' := c - n) (q' := q.drop n) (rd' := rd) (wr' := wr) (by rw [hdl]; rfl) HB2.out (by omega) (by omega) HP.out.lr HP.out.lw (.inr ⟨b, off + n, rfl, hbt, hBb, hbl⟩))
        have HF : Hid (∀ w' e, e = .returned (.tuple #[.slice (some ⟨b, off, none⟩) n c, .int .i64 0]) → w' = w.setCell ⟨t, 0, none⟩ (.slice (some ⟨b, off + n, none⟩) (q.length - n) (c - n)) → RRead w B t (.slice (some ⟨b, off, none⟩) q.length c) rd wr 0 (q.take n) (q.drop n) e w') := hide fun w' e h5 h6 => by
          subst h6
          refine ⟨_, _, _, h5, HB1.out.keep fun k hk _ => Below.heap_setCell _ _ _ _ ?_, HP2.out, (Turned.refl _ _).set (.inl rfl), fun b e => e⟩
          obtain rfl : b = k := by simpa [Value.ownBlock] using hk
          exact hbt
        clear HB1 HB2 HP2 htl hdl
        go_enter Tryz.func156, Tryz.ntmps156
        go_wp2
        go_ret2
        exact HF.out _ _ rfl rfl
      · rw [List.take_of_length_le (by omega), List.drop_eq_nil_of_le (by omega)]
        have d9 : (q.length : Int) ≤ (c : Int) := by omega
        have HF : Hid (∀ a' c' w' e, a' = some ⟨b, off, none⟩ ∨ a' = some ⟨b, off + q.length, none⟩ → e = .returned (.tuple #[.slice (some ⟨b, off, none⟩) q.length c, .int .i64 0]) → w' = w.setCell ⟨t, 0, none⟩ (.slice a' 0 c') → RRead w B t (.slice (some ⟨b, off, none⟩) q.length c) rd wr 0 q [] e w') := hide fun a' c' w' e h5 h6 h7 => by
          subst h7
          have h8 : ∃ o', a' = some ⟨b, o', none⟩ := by rcases h5 with h5 | h5 <;> exact ⟨_, h5⟩
          obtain ⟨o', rfl⟩ := h8
          refine ⟨_, _, c', h6, HP.out.bys.keep fun k hk _ => Below.heap_setCell _ _ _ _ ?_, HP.out.set 0 _ rfl (.inr (.inl ⟨_, _, rfl, rfl⟩)) (by simp) (by simp) HP.out.lr HP.out.lw (.inr ⟨b, o', rfl, hbt, hBb, hbl⟩), (Turned.refl _ _).set (.inl rfl), fun b e => e⟩
          obtain rfl : b = k := by simpa [Value.ownBlock] using hk
          exact hbt
        rcases (show q.length < n ∨ n = q.length by omega) with hlt | rfl
        case' inl => have d4 : (q.length : Int) < (n : Int) := by omega
        case' inr => have d4 : ¬ (q.length : Int) < (q.length : Int) := by omega
        all_goals
          rcases (show c = q.length ∨ q.length < c by omega) with rfl | hc
          · go_enter Tryz.func156, Tryz.ntmps156
            go_wp2
            go_ret2
            exact HF.out _ _ _ _ (.inl rfl) rfl rfl
          · have d8 : ¬ c = q.length := by omega
            go_enter Tryz.func156, Tryz.ntmps156
            go_wp2
            go_ret2
            exact HF.out _ _ _ _ (.inr rfl) rfl rfl

set_option maxRecDepth 100000 in
set_option maxHeartbeats 1000000 in
theorem Kp_rread_any (n : Int) (B t : Nat) (a : Option Addr) (c : Nat) (q : List UInt8) (rd wr : Nat) (w : World) (h : RP w B t a c q rd wr) :
    Calls Tryz.prog 156 #[.pointer (some ⟨t, 0, none⟩), .int .i64 n] w (RRead w B t (.slice a q.length c) rd wr (Kp_rdE n q.length rd wr) (rdB n q rd wr) (rdQ n q rd wr)) := by
  have HP := hide h
  have h1 := h.c0
  have h2 := h.c1
  have h3 := h.c2
  unfold rdB rdQ
  by_cases hi : inN n = false
  · have he : Kp_rdE n q.length rd wr = 4 := by rw [Kp_rdE, if_pos hi]
    rw [he, if_neg (by decide), if_neg (by decide)]
    have hn := inN_no hi
    have HF : Hid (RRead w B t (.slice a q.length c) rd wr 4 [] q (.returned (.tuple #[.slice none 0 0, .int .i64 4])) w) := hide ⟨_, a, c, rfl, .inl ⟨rfl, rfl⟩, h, Turned.refl _ _, fun b e => e⟩
    clear h he hi
    rcases hn with hn | ⟨hn, hn2⟩
    · go_enter Tryz.func156, Tryz.ntmps156
      go_wp2
      go_ret2
      exact HF.out
    · have d1 : ¬ n < 1 := by omega
      go_enter Tryz.func156, Tryz.ntmps156
      go_wp2
      go_ret2
      exact HF.out
  · have hi' : inN n = true := by simpa using hi
    obtain ⟨m, rfl, hm1, hm2⟩ := inN_nat hi'
    simp only [Int.toNat_natCast]
    have d1 : ¬ (m : Int) < 1 := by omega
    have d2 : ¬ (1048576 : Int) < (m : Int) := by omega
    by_cases hr : rd = 0
    · subst hr
      have he : Kp_rdE m q.length 0 wr = 51 := by rw [Kp_rdE, if_neg hi, if_pos rfl]
      rw [he, if_neg (by decide), if_neg (by decide)]
      have HF : Hid (RRead w B t (.slice a q.length c) 0 wr 51 [] q (.returned (.tuple #[.slice none 0 0, .int .i64 51])) w) := hide ⟨_, a, c, rfl, .inl ⟨rfl, rfl⟩, h, Turned.refl _ _, fun b e => e⟩
      clear h he hi hi'
      go_enter Tryz.func156, Tryz.ntmps156
      go_wp2
      go_ret2
      exact HF.out
    · by_cases hb : q.length = 0 ∧ 0 < wr
      · have he : Kp_rdE m q.length rd wr = 52 := by rw [Kp_rdE, if_neg hi, if_neg hr, if_pos (decide_eq_true hb)]
        rw [he, if_neg (by decide), if_neg (by decide)]
        have HF : Hid (RRead w B t (.slice a q.length c) rd wr 52 [] q (.returned (.tuple #[.slice none 0 0, .int .i64 52])) w) := hide ⟨_, a, c, rfl, .inl ⟨rfl, rfl⟩, h, Turned.refl _ _, fun b e => e⟩
        have d3 : ((rd : Int) == 0) = false := by simp; omega
        obtain ⟨hq0, hw⟩ := hb
        have d4 : (0 : Int) < (wr : Int) := by omega
        have HQ := hide hq0
        rw [hq0] at h1
        clear h he hi hi' hq0
        go_enter Tryz.func156, Tryz.ntmps156
        go_wp2
        go_ret2
        exact HF.out
      · have he : Kp_rdE m q.length rd wr = 0 := by rw [Kp_rdE, if_neg hi, if_neg hr, if_neg (by simpa using hb)]
        rw [he, if_pos rfl, if_pos rfl]
        exact rread_ok m B t a c q rd wr w h hm1 hm2 (by omega) hb
end Go.Proofs.YtanbiinomagdbaaGreat

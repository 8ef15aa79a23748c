/- The ring of a pipe: take and put. -/
import Derived.Test.YtfkkojahkfijdaaKpRing
import Derived.Deep.RegionWith
namespace Go.Proofs.Ytfkkojahkfijdaa
open Go.RowKit

theorem add_at (b o j : Nat) : (⟨b, o, none⟩ : Addr).add j = ⟨b, o + j, none⟩ := by unfold Addr.add; split <;> simp_all
/-- The ring R holds, from place f on, the bytes q. -/
def RHeld (R : List Value) (f : Nat) (q : List UInt8) : Prop := (R.drop f ++ R).take q.length = q.map bv
theorem ring_at (R : List Value) (f j : Nat) (hR : R.length = 4096) (hf : f < 4096) (hj : j < 4096) : (R.drop f ++ R)[j]? = R[(f + j) % 4096]? := by
  by_cases h : f + j < 4096
  · rw [List.getElem?_append_left (by simp [hR]; omega), List.getElem?_drop, Nat.mod_eq_of_lt h]
  · rw [List.getElem?_append_right (by simp [hR]; omega), List.length_drop, hR]
    congr 1
    omega
theorem rheld_iff {R : List Value} {f : Nat} {q : List UInt8} (hR : R.length = 4096) (hf : f < 4096) (hc : q.length ≤ 4096) : RHeld R f q ↔ ∀ j, j < q.length → R[(f + j) % 4096]? = (q.map bv)[j]? := by
  constructor
  · intro h j hj
    rw [← h, List.getElem?_take, if_pos hj, ring_at R f j hR hf (by omega)]
  · intro h
    apply List.ext_getElem?
    intro j
    rw [List.getElem?_take]
    split
    · rename_i hj
      rw [ring_at R f j hR hf (by omega), h j hj]
    · rename_i hj
      rw [List.getElem?_eq_none (by simp; omega)]
theorem RHeld.drop {R : List Value} {f : Nat} {q : List UInt8} (h : RHeld R f q) (hR : R.length = 4096) (hf : f < 4096) (hc : q.length ≤ 4096) (m : Nat) (hm : m ≤ q.length) : RHeld R ((f + m) % 4096) (q.drop m) := by
  rw [rheld_iff hR (Nat.mod_lt _ (by omega)) (by simp; omega)]
  intro j hj
  rw [List.length_drop] at hj
  rw [List.map_drop, List.getElem?_drop, ← (rheld_iff hR hf hc).1 h (m + j) (by omega)]
  congr 1
  omega
theorem splice_get (L cs : List Value) (off i : Nat) (h : off + cs.length ≤ L.length) : (splice L off cs)[i]? = if i < off then L[i]? else if i < off + cs.length then cs[i - off]? else L[i]? := by
  unfold splice
  split
  · rename_i h1
    rw [List.getElem?_append_left (by simp; omega), List.getElem?_take, if_pos h1]
  · rename_i h1
    rw [List.getElem?_append_right (by simp; omega), List.length_take, Nat.min_eq_left (by omega)]
    split
    · rename_i h2
      rw [List.getElem?_append_left (by omega)]
    · rename_i h2
      rw [List.getElem?_append_right (by omega), List.getElem?_drop]
      congr 1
      omega
theorem RHeld.put {R : List Value} {f : Nat} {q x : List UInt8} (h : RHeld R f q) (hR : R.length = 4096) (hf : f < 4096) (hc : q.length + x.length ≤ 4096) (k : Nat) (hk : k = min (4096 - (f + q.length) % 4096) x.length) :
    RHeld (splice (splice R ((f + q.length) % 4096) ((x.map bv).take k)) 0 ((x.map bv).drop k)) f (q ++ x) := by
  have hp : (f + q.length) % 4096 < 4096 := Nat.mod_lt _ (by omega)
  have hk1 : ((x.map bv).take k).length = k := by simp; omega
  have hk2 : ((x.map bv).drop k).length = x.length - k := by simp
  have hR1 : (splice R ((f + q.length) % 4096) ((x.map bv).take k)).length = 4096 := by rw [length_splice _ _ _ (by rw [hk1]; omega), hR]
  have hR2 : (splice (splice R ((f + q.length) % 4096) ((x.map bv).take k)) 0 ((x.map bv).drop k)).length = 4096 := by rw [length_splice _ _ _ (by rw [hk2, hR1]; omega), hR1]
  rw [rheld_iff hR2 hf (by simpa using hc)]
  intro j hj
  rw [List.length_append] at hj
  rw [splice_get _ _ _ _ (by rw [hk2, hR1]; omega), if_neg (by omega), hk2, splice_get _ _ _ _ (by rw [hk1, hR]; omega), hk1, List.map_append]
  by_cases hjq : j < q.length
  · rw [if_neg (by omega), List.getElem?_append_left (by simpa using hjq), ← (rheld_iff hR hf (by omega)).1 h j hjq]
    by_cases h1 : (f + j) % 4096 < (f + q.length) % 4096
    · rw [if_pos h1]
    · rw [if_neg h1, if_neg (by omega)]
  · rw [List.getElem?_append_right (by simpa using hjq), List.length_map]
    by_cases hjk : j - q.length < k
    · have he : (f + j) % 4096 = (f + q.length) % 4096 + (j - q.length) := by omega
      rw [if_neg (by omega), if_neg (by omega), if_pos (by omega), he, List.getElem?_take, if_pos (by omega)]
      congr 1
      omega
    · have he : (f + j) % 4096 = j - q.length - k := by omega
      rw [if_pos (by omega), he, List.getElem?_drop]
      congr 1
      omega

/-- The block g is a pipe that holds the bytes q. -/
def PipeAt (W : World) (g : Nat) (q : List UInt8) (rd wr : Nat) : Prop := ∃ R f, Pp W g R f q.length rd wr ∧ RHeld R f q
theorem PipeAt.keep {W W' : World} {g : Nat} {q : List UInt8} {rd wr : Nat} (h : PipeAt W g q rd wr) (hB : W'.heap[g]? = W.heap[g]?) : PipeAt W' g q rd wr := by
  obtain ⟨R, f, h1, h2⟩ := h
  exact ⟨R, f, h1.keep hB, h2⟩
theorem PipeAt.lt {W : World} {g : Nat} {q : List UInt8} {rd wr : Nat} (h : PipeAt W g q rd wr) : g < W.heap.size := by
  obtain ⟨R, f, h1, h2⟩ := h
  exact h1.lt
theorem PipeAt.below {W W' : World} {g : Nat} {q : List UInt8} {rd wr : Nat} (h : PipeAt W g q rd wr) (hB : Below W.heap.size W W') : PipeAt W' g q rd wr := h.keep (hB.block g h.lt)
theorem PipeAt.len {W : World} {g : Nat} {q : List UInt8} {rd wr : Nat} (h : PipeAt W g q rd wr) : q.length ≤ 4096 := by
  obtain ⟨R, f, h1, h2⟩ := h
  exact h1.lc

set_option maxRecDepth 100000 in
set_option maxHeartbeats 2000000 in
theorem take_any (g : Nat) (rd wr : Nat) (q : List UInt8) (n : Nat) (w : World) (h : PipeAt w g q rd wr) (hn : n ≤ 1048576) :
    Calls Try.prog 33 #[.pointer (some ⟨g, 1, none⟩), .int .i64 n] w fun e w' => e = .returned (.slice (some ⟨w.heap.size, 0, none⟩) (q.take n).length (q.take n).length) ∧ w'.ownsRow w.heap.size 5 1 (.slice (some ⟨w.heap.size, 0, none⟩) (q.take n).length (q.take n).length) (q.take n).length ((q.take n).map bv) ∧ PipeAt w' g (q.drop n) rd wr ∧ Turned (fun k => k = g) w w' := by
  obtain ⟨R, f, hP, hq⟩ := h
  have HP := hide hP
  have hgl := hP.lt
  have hlf := hP.lf
  have hlc := hP.lc
  have HQ := hide hq
  obtain ⟨m, hm⟩ : ∃ m, m = (q.take n).length := ⟨_, rfl⟩
  have hm' : m ≤ q.length := by rw [hm]; simp; omega
  have hdr : q.drop n = q.drop m := by
    rw [hm, List.length_take]
    by_cases hnq : n ≤ q.length
    · rw [Nat.min_eq_left hnq]
    · rw [Nat.min_eq_right (by omega), List.drop_eq_nil_of_le (by omega), List.drop_eq_nil_of_le (by omega)]
  have HM := hide hm
  have hdl : (q.drop m).length = q.length - m := by simp
  have HDl := hide hdl
  have HDr := hide (hq.drop hP.len hlf hlc m hm')
  rw [hdr, ← hm]
  clear hP hq hm hdr hdl
  go_enter Try.func33, Try.ntmps33
  go_wp2_with fail
  refine (front_any g R f rd wr q n w HP.out HQ.out hn).mono ?_
  rintro e w1 ⟨rfl, hown, hB1⟩
  rw [← HM.out] at hown ⊢
  have HO := hide hown
  have HP1 := hide (HP.out.keep (hB1.block g hgl))
  clear hown
  have hp1 := HP1.out.cf
  have hp2 := HP1.out.soft 4097
  go_wp2_with fail
  refine (place_is g f m w1 hp1 hlf (by omega)).mono ?_
  rintro e w2 ⟨rfl, rfl⟩
  have hp' : (f + m) % 4096 < 4096 := Nat.mod_lt _ (by omega)
  have HP3 := hide (HP1.out.setf _ hp')
  have hp3 := HP3.out.cc
  have hp4 := HP3.out.soft 4098
  have hw3 : ∀ k, k ≠ g → (w2.setCell ⟨g, 4097, none⟩ (.int .i64 (((f + m) % 4096 : Nat) : Int))).heap[k]? = w2.heap[k]? := fun k hk => Below.heap_setCell _ _ _ _ hk
  have HW3 := hide hw3
  have HP4 := hide (HP3.out.setc (q.length - m) (by omega))
  clear hw3
  generalize hF : (f + m) % 4096 = f' at *
  clear hF
  go_wp2
  go_ret
  rw [show (q.length : Int) - (m : Int) = ((q.length - m : Nat) : Int) by omega]
  refine ⟨rfl, owns_keep HO.out fun k hk => ?_, ⟨R, f', by rw [HDl.out]; exact HP4.out, HDr.out⟩, ((Turned.of_below (S := fun k => k = g) hB1).set (.inl rfl)).set (.inl rfl)⟩
  have hkg : k ≠ g := by
    have : w.heap.size = k := by simpa [Value.ownBlock] using hk
    omega
  rw [Below.heap_setCell _ _ _ _ hkg, Below.heap_setCell _ _ _ _ hkg]

set_option maxRecDepth 100000 in
set_option maxHeartbeats 2000000 in
theorem put_any (g : Nat) (rd wr : Nat) (q x : List UInt8) (a : Option Addr) (n cx : Nat) (w : World) (h : PipeAt w g q rd wr) (hx : Bys w (.slice a n cx) x) (hx0 : 0 < x.length) (hcx : x.length ≤ cx) (hxg : (Value.slice a n cx).ownBlock ≠ some g) (hfit : q.length + x.length ≤ 4096) :
    Calls Try.prog 36 #[.pointer (some ⟨g, 1, none⟩), .slice a n cx] w fun e w' => e = .returned (.tuple #[]) ∧ PipeAt w' g (q ++ x) rd wr ∧ Turned (fun k => k = g) w w' := by
  obtain ⟨R, f, hP, hq⟩ := h
  obtain ⟨rfl, b, off, rfl, hbl, -⟩ := bys_block hx hx0
  have HP := hide hP
  have hgl := hP.lt
  have hlf := hP.lf
  have hlc := hP.lc
  have hlR := hP.len
  have hbg : b ≠ g := fun e => hxg (by rw [e]; rfl)
  obtain ⟨X, hX⟩ : ∃ X, X = x.map bv := ⟨_, rfl⟩
  have hXl : X.length = x.length := by rw [hX]; simp
  obtain ⟨k, hk⟩ : ∃ k, k = min (4096 - (f + q.length) % 4096) x.length := ⟨_, rfl⟩
  have HPut := hide (hq.put hlR hlf hfit k hk)
  have H1 : ∀ v ∈ X, v.oneCell' = true := by rw [hX]; exact bys_one x
  have hsrc := bys_src hx hX (by omega)
  have hlast : (q ++ x).length = q.length + x.length := by simp
  rw [← hX] at HPut
  have hkl : (X.take k).length = k := by rw [List.length_take, hXl]; omega
  have hkd : (X.drop k).length = x.length - k := by rw [List.length_drop, hXl]
  have hp : (f + q.length) % 4096 < 4096 := Nat.mod_lt _ (by omega)
  have hp1 := hP.cf
  have hp2 := hP.cc
  obtain ⟨p, hpe⟩ : ∃ p, p = (f + q.length) % 4096 := ⟨_, rfl⟩
  have HPl := hide (place_is g f q.length w.drew hp1 hlf hlc)
  rw [← hpe] at hp hk HPut HPl
  have hR1 : (splice R p (X.take k)).length = 4096 := by rw [length_splice _ _ _ (by rw [hkl]; omega), hlR]
  have hR2 : (splice (splice R p (X.take k)) 0 (X.drop k)).length = 4096 := by rw [length_splice _ _ _ (by rw [hkd, hR1]; omega), hR1]
  obtain ⟨w2, hrun, HG2, hgr2⟩ := run_copy_tag w.drew 3 (some ⟨g, 1 + p, none⟩) (some ⟨b, off, none⟩) (4096 - p) (4096 - p) x.length cx g (1 + p) 58 _ hP.blk (X.take k) (by rw [hkl, hk]; exact Nat.min_comm _ _) (fun h0 => ⟨rfl, _, rfl, fun j v hj => by
    obtain ⟨ad, he, hs⟩ := hsrc
    cases he
    refine hs j v ?_
    rw [List.getElem?_take] at hj
    split at hj
    · exact hj
    · cases hj⟩) (by rw [hkl, pcells_len _ _ _ _ _ hlR]; omega) (fun v hv => H1 v (List.mem_of_mem_take hv))
  have hP2 : Pp w2 g (splice R p (X.take k)) f q.length rd wr := ⟨by rw [← pcells_splice R f q.length rd wr hlR p _ (by rw [hkl]; omega)]; exact HG2.out, hR1, hlf, hlc, hP.lr, hP.lw⟩
  have hsrc2 : ∀ j v, (X.drop k)[j]? = some v → w2.drew.cell? ((⟨b, off + k, none⟩ : Addr).add j) = some v := fun j v hj => by
    obtain ⟨ad, he, hs⟩ := hsrc
    cases he
    have h1 := hs (k + j) v (by rw [List.getElem?_drop] at hj; exact hj)
    rw [add_at, ← Nat.add_assoc] at h1
    rw [add_at]
    exact (World.cell?_of_block (w := w) (hgr2.block b hbl (by intro e; cases e; exact hbg rfl))).trans h1
  rw [hkl] at hrun
  have HP2 := hide hP2
  have HPf : Hid (∀ w3, w3.heap[g]? = some (.cells (splice (pcells (splice R p (X.take k)) f q.length rd wr) 1 (X.drop k)).toArray 58 (0, 0)) → Pp w3 g (splice (splice R p (X.take k)) 0 (X.drop k)) f q.length rd wr) := hide fun w3 h3 => ⟨by rw [← pcells_splice _ f q.length rd wr hR1 0 _ (by rw [hkd]; omega)]; exact h3, hR2, hlf, hlc, hP.lr, hP.lw⟩
  have hkx : k ≤ x.length := by omega
  have H1b : Hid (∀ v ∈ X.drop k, v.oneCell' = true) := hide fun v hv => H1 v (List.mem_of_mem_drop hv)
  have HS2 := hide hsrc2
  have hpl : (pcells (splice R p (X.take k)) f q.length rd wr).length = 4101 := pcells_len _ _ _ _ _ hR1
  have HPL := hide hpl
  have HL := hide hlast
  have hP2b := HP2.out.blk
  have HB2 := hide hP2b
  unfold PipeAt
  rw [hlast]
  clear hsrc hP hq hx hX H1 hP2 hsrc2 hR1 hR2 hlR hpe hkl hXl hxg hpl hP2b HG2 hlast HP hx0
  generalize splice R p (X.take k) = R1 at *
  generalize q.length = c at *
  generalize x.length = L at *
  have hpi : (p : Int) ≤ 4096 := by omega
  have hpn : ¬ 4096 = p := by omega
  have hk1 : (k : Int) ≤ (L : Int) := by omega
  have HK := hide hk
  clear hk
  rcases (show (cx = k ∧ L = k) ∨ k < cx by omega) with ⟨rfl, rfl⟩ | hck
  · obtain ⟨w3, hrun3, HG3, hgr3⟩ := run_copy_tag w2.drew 3 (some ⟨g, 1, none⟩) (some ⟨b, off, none⟩) 4096 4096 0 0 g 1 58 _ HB2.out (X.drop L) (by rw [hkd]; simp) (fun h0 => by rw [hkd] at h0; simp at h0) (by rw [hkd, HPL.out]; omega) H1b.out
    rw [hkd] at hrun3
    have HP3 := hide (HPf.out w3 HG3.out)
    have hp3 := HP3.out.cc
    have hp4 := HP3.out.soft 4098
    have HP4 := hide (HP3.out.setc (c + L) (by omega))
    go_enter Try.func36, Try.ntmps36
    go_wp2_with fail
    go_region_with (go_at_call 40; refine HPl.out.mono ?_; rintro e w' ⟨rfl, rfl⟩)
    go_wp2_with fail
    go_region
    go_wp2
    go_end0
    rw [show (c : Int) + (L : Int) = ((c + L : Nat) : Int) by omega]
    exact ⟨rfl, ⟨_, _, HP4.out, HPut.out⟩, ((((Turned.of_below (S := fun k => k = g) (Below.refl _ w).drew).grown hgr2 (fun k e => by cases e; exact .inl rfl)).trans (Turned.of_below (S := fun k => k = g) (Below.refl _ w2).drew) (fun k _ e => e)).grown hgr3 (fun k e => by cases e; exact .inl rfl)).set (.inl rfl)⟩
  · have hci : (k : Int) < (cx : Int) := by omega
    have hcn : ¬ cx = k := by omega
    obtain ⟨w3, hrun3, HG3, hgr3⟩ := run_copy_tag w2.drew 3 (some ⟨g, 1, none⟩) (some ⟨b, off + k, none⟩) 4096 4096 (L - k) (cx - k) g 1 58 _ HB2.out (X.drop k) (by rw [hkd]; show L - k = min (L - k) 4096; omega) (fun h0 => ⟨rfl, _, rfl, HS2.out⟩) (by rw [hkd, HPL.out]; omega) H1b.out
    rw [hkd] at hrun3
    have HP3 := hide (HPf.out w3 HG3.out)
    have hp3 := HP3.out.cc
    have hp4 := HP3.out.soft 4098
    have HP4 := hide (HP3.out.setc (c + L) (by omega))
    go_enter Try.func36, Try.ntmps36
    go_wp2_with fail
    go_region_with (go_at_call 40; refine HPl.out.mono ?_; rintro e w' ⟨rfl, rfl⟩)
    go_wp2_with fail
    go_region
    go_wp2
    go_end0
    rw [show (c : Int) + (L : Int) = ((c + L : Nat) : Int) by omega]
    exact ⟨rfl, ⟨_, _, HP4.out, HPut.out⟩, ((((Turned.of_below (S := fun k => k = g) (Below.refl _ w).drew).grown hgr2 (fun k e => by cases e; exact .inl rfl)).trans (Turned.of_below (S := fun k => k = g) (Below.refl _ w2).drew) (fun k _ e => e)).grown hgr3 (fun k e => by cases e; exact .inl rfl)).set (.inl rfl)⟩
end Go.Proofs.Ytfkkojahkfijdaa

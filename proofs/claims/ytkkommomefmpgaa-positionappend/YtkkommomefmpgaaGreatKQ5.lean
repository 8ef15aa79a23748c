/- What the proof stands on, part 5: the contracts of the program's calls that it reaches. -/
import Derived.Test.YtkkommomefmpgaaGreatKQ4
import Derived.Deep.RegionWith
import Derived.Maps.OwnSet
import Derived.Sort.KeysCollected
/- The ring of a pipe: take and put. -/
namespace Go.Proofs.YtkkommomefmpgaaGreat
open Go.RowKit

theorem add_at (b o j : Nat) : (⟨b, o, none⟩ : Addr).add j = ⟨b, o + j, none⟩ := by unfold Addr.add; split <;> simp_all
def RHeld (R : List Value) (f : Nat) (q : List UInt8) : Prop := (R.drop f ++ R).take q.length = q.map bv
theorem ring_at (R : List Value) (f j : Nat) (hR : R.length = 4096) (hf : f < 4096) (hj : j < 4096) : (R.drop f ++ R)[j]? = R[(f + j) % 4096]? := by
  by_cases h : f + j < 4096
  · rw [List.getElem?_append_left (by simp [hR]; omega), List.getElem?_drop, Nat.mod_eq_of_lt h]
  · rw [List.getElem?_append_right (by simp [hR]; omega), List.length_drop, hR]
    congr 1
    omega
theorem rheld_iff {R : List Value} {f : Nat} {q : List UInt8} (hR : R.length = 4096) (hf : f < 4096) (hc : q.length ≤ 4096) : RHeld R f q ↔ ∀ j, j < q.length → R[(f + j) % 4096]? = (q.map bv)[j]? := by
  constructor
  · intro h j hj
    rw [← h, List.getElem?_take, if_pos hj, ring_at R f j hR hf (by omega)]
  · intro h
    apply List.ext_getElem?
    intro j
    rw [List.getElem?_take]
    split
    · rename_i hj
      rw [ring_at R f j hR hf (by omega), h j hj]
    · rename_i hj
      rw [List.getElem?_eq_none (by simp; omega)]
theorem RHeld.drop {R : List Value} {f : Nat} {q : List UInt8} (h : RHeld R f q) (hR : R.length = 4096) (hf : f < 4096) (hc : q.length ≤ 4096) (m : Nat) (hm : m ≤ q.length) : RHeld R ((f + m) % 4096) (q.drop m) := by
  rw [rheld_iff hR (Nat.mod_lt _ (by omega)) (by simp; omega)]
  intro j hj
  rw [List.length_drop] at hj
  rw [List.map_drop, List.getElem?_drop, ← (rheld_iff hR hf hc).1 h (m + j) (by omega)]
  congr 1
  omega
theorem splice_get (L cs : List Value) (off i : Nat) (h : off + cs.length ≤ L.length) : (splice L off cs)[i]? = if i < off then L[i]? else if i < off + cs.length then cs[i - off]? else L[i]? := by
  unfold splice
  split
  · rename_i h1
    rw [List.getElem?_append_left (by simp; omega), List.getElem?_take, if_pos h1]
  · rename_i h1
    rw [List.getElem?_append_right (by simp; omega), List.length_take, Nat.min_eq_left (by omega)]
    split
    · rename_i h2
      rw [List.getElem?_append_left (by omega)]
    · rename_i h2
      rw [List.getElem?_append_right (by omega), List.getElem?_drop]
      congr 1
      omega
theorem RHeld.put {R : List Value} {f : Nat} {q x : List UInt8} (h : RHeld R f q) (hR : R.length = 4096) (hf : f < 4096) (hc : q.length + x.length ≤ 4096) (k : Nat) (hk : k = min (4096 - (f + q.length) % 4096) x.length) :
    RHeld (splice (splice R ((f + q.length) % 4096) ((x.map bv).take k)) 0 ((x.map bv).drop k)) f (q ++ x) := by
  have hp : (f + q.length) % 4096 < 4096 := Nat.mod_lt _ (by omega)
  have hk1 : ((x.map bv).take k).length = k := by simp; omega
  have hk2 : ((x.map bv).drop k).length = x.length - k := by simp
  have hR1 : (splice R ((f + q.length) % 4096) ((x.map bv).take k)).length = 4096 := by rw [length_splice _ _ _ (by rw [hk1]; omega), hR]
  have hR2 : (splice (splice R ((f + q.length) % 4096) ((x.map bv).take k)) 0 ((x.map bv).drop k)).length = 4096 := by rw [length_splice _ _ _ (by rw [hk2, hR1]; omega), hR1]
  rw [rheld_iff hR2 hf (by simpa using hc)]
  intro j hj
  rw [List.length_append] at hj
  rw [splice_get _ _ _ _ (by rw [hk2, hR1]; omega), if_neg (by omega), hk2, splice_get _ _ _ _ (by rw [hk1, hR]; omega), hk1, List.map_append]
  by_cases hjq : j < q.length
  · rw [if_neg (by omega), List.getElem?_append_left (by simpa using hjq), ← (rheld_iff hR hf (by omega)).1 h j hjq]
    by_cases h1 : (f + j) % 4096 < (f + q.length) % 4096
    · rw [if_pos h1]
    · rw [if_neg h1, if_neg (by omega)]
  · rw [List.getElem?_append_right (by simpa using hjq), List.length_map]
    by_cases hjk : j - q.length < k
    · have he : (f + j) % 4096 = (f + q.length) % 4096 + (j - q.length) := by omega
      rw [if_neg (by omega), if_neg (by omega), if_pos (by omega), he, List.getElem?_take, if_pos (by omega)]
      congr 1
      omega
    · have he : (f + j) % 4096 = j - q.length - k := by omega
      rw [if_pos (by omega), he, List.getElem?_drop]
      congr 1
      omega

def PipeAt (W : World) (g : Nat) (q : List UInt8) (rd wr : Nat) : Prop := ∃ R f, Pp W g R f q.length rd wr ∧ RHeld R f q
theorem PipeAt.keep {W W' : World} {g : Nat} {q : List UInt8} {rd wr : Nat} (h : PipeAt W g q rd wr) (hB : W'.heap[g]? = W.heap[g]?) : PipeAt W' g q rd wr := by
  obtain ⟨R, f, h1, h2⟩ := h
  exact ⟨R, f, h1.keep hB, h2⟩
theorem PipeAt.lt {W : World} {g : Nat} {q : List UInt8} {rd wr : Nat} (h : PipeAt W g q rd wr) : g < W.heap.size := by
  obtain ⟨R, f, h1, h2⟩ := h
  exact h1.lt
theorem PipeAt.len {W : World} {g : Nat} {q : List UInt8} {rd wr : Nat} (h : PipeAt W g q rd wr) : q.length ≤ 4096 := by
  obtain ⟨R, f, h1, h2⟩ := h
  exact h1.lc

set_option maxRecDepth 100000 in
set_option maxHeartbeats 2000000 in
theorem Kp_take_any (g : Nat) (rd wr : Nat) (q : List UInt8) (n : Nat) (w : World) (h : PipeAt w g q rd wr) (hn : n ≤ 1048576) :
    Calls Tryz.prog 317 #[.pointer (some ⟨g, 1, none⟩), .int .i64 n] w fun e w' => e = .returned (.slice (some ⟨w.heap.size, 0, none⟩) (q.take n).length (q.take n).length) ∧ w'.ownsRow w.heap.size 5 1 (.slice (some ⟨w.heap.size, 0, none⟩) (q.take n).length (q.take n).length) (q.take n).length ((q.take n).map bv) ∧ PipeAt w' g (q.drop n) rd wr ∧ Turned (fun k => k = g) w w' := by
  obtain ⟨R, f, hP, hq⟩ := h
  have HP := hide hP
  have hgl := hP.lt
  have hlf := hP.lf
  have hlc := hP.lc
  have HQ := hide hq
  obtain ⟨m, hm⟩ : ∃ m, m = (q.take n).length := ⟨_, rfl⟩
  have hm' : m ≤ q.length := by rw [hm]; simp; omega
  have hdr : q.drop n = q.drop m := by
    rw [hm, List.length_take]
    by_cases hnq : n ≤ q.length
    · rw [Nat.min_eq_left hnq]
    · rw [Nat.min_eq_right (by omega), List.drop_eq_nil_of_le (by omega), List.drop_eq_nil_of_le (by omega)]
  have HM := hide hm
  have hdl : (q.drop m).length = q.length - m := by simp
  have HDl := hide hdl
  have HDr := hide (hq.drop hP.len hlf hlc m hm')
  rw [hdr, ← hm]
  clear hP hq hm hdr hdl
  go_enter Tryz.func317, Tryz.ntmps317
  go_wp2_with fail
  refine (front_any g R f rd wr q n w HP.out HQ.out hn).mono ?_
  rintro e w1 ⟨rfl, hown, hB1⟩
  rw [← HM.out] at hown ⊢
  have HO := hide hown
  have HP1 := hide (HP.out.keep (hB1.block g hgl))
  clear hown
  have hp1 := HP1.out.cf
  have hp2 := HP1.out.soft 4097
  go_wp2_with fail
  refine (place_is g f m w1 hp1 hlf (by omega)).mono ?_
  rintro e w2 ⟨rfl, rfl⟩
  have hp' : (f + m) % 4096 < 4096 := Nat.mod_lt _ (by omega)
  have HP3 := hide (HP1.out.setf _ hp')
  have hp3 := HP3.out.cc
  have hp4 := HP3.out.soft 4098
  have hw3 : ∀ k, k ≠ g → (w2.setCell ⟨g, 4097, none⟩ (.int .i64 (((f + m) % 4096 : Nat) : Int))).heap[k]? = w2.heap[k]? := fun k hk => Below.heap_setCell _ _ _ _ hk
  have HW3 := hide hw3
  have HP4 := hide (HP3.out.setc (q.length - m) (by omega))
  clear hw3
  generalize hF : (f + m) % 4096 = f' at *
  clear hF
  go_wp2
  go_ret
  rw [show (q.length : Int) - (m : Int) = ((q.length - m : Nat) : Int) by omega]
  refine ⟨rfl, owns_keep HO.out fun k hk => ?_, ⟨R, f', by rw [HDl.out]; exact HP4.out, HDr.out⟩, ((Turned.of_below (S := fun k => k = g) hB1).set (.inl rfl)).set (.inl rfl)⟩
  have hkg : k ≠ g := by
    have : w.heap.size = k := by simpa [Value.ownBlock] using hk
    omega
  rw [Below.heap_setCell _ _ _ _ hkg, Below.heap_setCell _ _ _ _ hkg]

set_option maxRecDepth 100000 in
set_option maxHeartbeats 2000000 in
theorem put_any (g : Nat) (rd wr : Nat) (q x : List UInt8) (a : Option Addr) (n cx : Nat) (w : World) (h : PipeAt w g q rd wr) (hx : Bys w (.slice a n cx) x) (hx0 : 0 < x.length) (hcx : x.length ≤ cx) (hxg : (Value.slice a n cx).ownBlock ≠ some g) (hfit : q.length + x.length ≤ 4096) :
    Calls Tryz.prog 320 #[.pointer (some ⟨g, 1, none⟩), .slice a n cx] w fun e w' => e = .returned (.tuple #[]) ∧ PipeAt w' g (q ++ x) rd wr ∧ Turned (fun k => k = g) w w' := by
  obtain ⟨R, f, hP, hq⟩ := h
  obtain ⟨rfl, b, off, rfl, hbl, -⟩ := bys_block hx hx0
  have HP := hide hP
  have hgl := hP.lt
  have hlf := hP.lf
  have hlc := hP.lc
  have hlR := hP.len
  have hbg : b ≠ g := fun e => hxg (by rw [e]; rfl)
  obtain ⟨X, hX⟩ : ∃ X, X = x.map bv := ⟨_, rfl⟩
  have hXl : X.length = x.length := by rw [hX]; simp
  obtain ⟨k, hk⟩ : ∃ k, k = min (4096 - (f + q.length) % 4096) x.length := ⟨_, rfl⟩
  have HPut := hide (hq.put hlR hlf hfit k hk)
  have H1 : ∀ v ∈ X, v.oneCell' = true := by rw [hX]; exact bys_one x
  have hsrc := Kp_bys_src hx hX (by omega)
  have hlast : (q ++ x).length = q.length + x.length := by simp
  rw [← hX] at HPut
  have hkl : (X.take k).length = k := by rw [List.length_take, hXl]; omega
  have hkd : (X.drop k).length = x.length - k := by rw [List.length_drop, hXl]
  have hp : (f + q.length) % 4096 < 4096 := Nat.mod_lt _ (by omega)
  have hp1 := hP.cf
  have hp2 := hP.cc
  obtain ⟨p, hpe⟩ : ∃ p, p = (f + q.length) % 4096 := ⟨_, rfl⟩
  have HPl := hide (place_is g f q.length w.drew hp1 hlf hlc)
  rw [← hpe] at hp hk HPut HPl
  have hR1 : (splice R p (X.take k)).length = 4096 := by rw [length_splice _ _ _ (by rw [hkl]; omega), hlR]
  have hR2 : (splice (splice R p (X.take k)) 0 (X.drop k)).length = 4096 := by rw [length_splice _ _ _ (by rw [hkd, hR1]; omega), hR1]
  obtain ⟨w2, hrun, HG2, hgr2⟩ := run_copy_tag w.drew 3 (some ⟨g, 1 + p, none⟩) (some ⟨b, off, none⟩) (4096 - p) (4096 - p) x.length cx g (1 + p) 324 _ hP.blk (X.take k) (by rw [hkl, hk]; exact Nat.min_comm _ _) (fun h0 => ⟨rfl, _, rfl, fun j v hj => by
    obtain ⟨ad, he, hs⟩ := hsrc
    cases he
    refine hs j v ?_
    rw [List.getElem?_take] at hj
    split at hj
    · exact hj
    · cases hj⟩) (by rw [hkl, pcells_len _ _ _ _ _ hlR]; omega) (fun v hv => H1 v (List.mem_of_mem_take hv))
  have hP2 : Pp w2 g (splice R p (X.take k)) f q.length rd wr := ⟨by rw [← pcells_splice R f q.length rd wr hlR p _ (by rw [hkl]; omega)]; exact HG2.out, hR1, hlf, hlc, hP.lr, hP.lw⟩
  have hsrc2 : ∀ j v, (X.drop k)[j]? = some v → w2.drew.cell? ((⟨b, off + k, none⟩ : Addr).add j) = some v := fun j v hj => by
    obtain ⟨ad, he, hs⟩ := hsrc
    cases he
    have h1 := hs (k + j) v (by rw [List.getElem?_drop] at hj; exact hj)
    rw [add_at, ← Nat.add_assoc] at h1
    rw [add_at]
    exact (World.cell?_of_block (w := w) (hgr2.block b hbl (by intro e; cases e; exact hbg rfl))).trans h1
  rw [hkl] at hrun
  have HP2 := hide hP2
  have HPf : Hid (∀ w3, w3.heap[g]? = some (.cells (splice (pcells (splice R p (X.take k)) f q.length rd wr) 1 (X.drop k)).toArray 324 (0, 0)) → Pp w3 g (splice (splice R p (X.take k)) 0 (X.drop k)) f q.length rd wr) := hide fun w3 h3 => ⟨by rw [← pcells_splice _ f q.length rd wr hR1 0 _ (by rw [hkd]; omega)]; exact h3, hR2, hlf, hlc, hP.lr, hP.lw⟩
  have hkx : k ≤ x.length := by omega
  have H1b : Hid (∀ v ∈ X.drop k, v.oneCell' = true) := hide fun v hv => H1 v (List.mem_of_mem_drop hv)
  have HS2 := hide hsrc2
  have hpl : (pcells (splice R p (X.take k)) f q.length rd wr).length = 4101 := pcells_len _ _ _ _ _ hR1
  have HPL := hide hpl
  have HL := hide hlast
  have hP2b := HP2.out.blk
  have HB2 := hide hP2b
  unfold PipeAt
  rw [hlast]
  clear hsrc hP hq hx hX H1 hP2 hsrc2 hR1 hR2 hlR hpe hkl hXl hxg hpl hP2b HG2 hlast HP hx0
  generalize splice R p (X.take k) = R1 at *
  generalize q.length = c at *
  generalize x.length = L at *
  have hpi : (p : Int) ≤ 4096 := by omega
  have hpn : ¬ 4096 = p := by omega
  have hk1 : (k : Int) ≤ (L : Int) := by omega
  have HK := hide hk
  clear hk
  rcases (show (cx = k ∧ L = k) ∨ k < cx by omega) with ⟨rfl, rfl⟩ | hck
  · obtain ⟨w3, hrun3, HG3, hgr3⟩ := run_copy_tag w2.drew 3 (some ⟨g, 1, none⟩) (some ⟨b, off, none⟩) 4096 4096 0 0 g 1 324 _ HB2.out (X.drop L) (by rw [hkd]; simp) (fun h0 => by rw [hkd] at h0; simp at h0) (by rw [hkd, HPL.out]; omega) H1b.out
    rw [hkd] at hrun3
    have HP3 := hide (HPf.out w3 HG3.out)
    have hp3 := HP3.out.cc
    have hp4 := HP3.out.soft 4098
    have HP4 := hide (HP3.out.setc (c + L) (by omega))
    go_enter Tryz.func320, Tryz.ntmps320
    go_wp2_with fail
    go_region_with (go_at_call 322; refine HPl.out.mono ?_; rintro e w' ⟨rfl, rfl⟩)
    go_wp2_with fail
    go_region
    go_wp2
    go_end0
    rw [show (c : Int) + (L : Int) = ((c + L : Nat) : Int) by omega]
    exact ⟨rfl, ⟨_, _, HP4.out, HPut.out⟩, ((((Turned.of_below (S := fun k => k = g) (Below.refl _ w).drew).grown hgr2 (fun k e => by cases e; exact .inl rfl)).trans (Turned.of_below (S := fun k => k = g) (Below.refl _ w2).drew) (fun k _ e => e)).grown hgr3 (fun k e => by cases e; exact .inl rfl)).set (.inl rfl)⟩
  · have hci : (k : Int) < (cx : Int) := by omega
    have hcn : ¬ cx = k := by omega
    obtain ⟨w3, hrun3, HG3, hgr3⟩ := run_copy_tag w2.drew 3 (some ⟨g, 1, none⟩) (some ⟨b, off + k, none⟩) 4096 4096 (L - k) (cx - k) g 1 324 _ HB2.out (X.drop k) (by rw [hkd]; show L - k = min (L - k) 4096; omega) (fun h0 => ⟨rfl, _, rfl, HS2.out⟩) (by rw [hkd, HPL.out]; omega) H1b.out
    rw [hkd] at hrun3
    have HP3 := hide (HPf.out w3 HG3.out)
    have hp3 := HP3.out.cc
    have hp4 := HP3.out.soft 4098
    have HP4 := hide (HP3.out.setc (c + L) (by omega))
    go_enter Tryz.func320, Tryz.ntmps320
    go_wp2_with fail
    go_region_with (go_at_call 322; refine HPl.out.mono ?_; rintro e w' ⟨rfl, rfl⟩)
    go_wp2_with fail
    go_region
    go_wp2
    go_end0
    rw [show (c : Int) + (L : Int) = ((c + L : Nat) : Int) by omega]
    exact ⟨rfl, ⟨_, _, HP4.out, HPut.out⟩, ((((Turned.of_below (S := fun k => k = g) (Below.refl _ w).drew).grown hgr2 (fun k e => by cases e; exact .inl rfl)).trans (Turned.of_below (S := fun k => k = g) (Below.refl _ w2).drew) (fun k _ e => e)).grown hgr3 (fun k e => by cases e; exact .inl rfl)).set (.inl rfl)⟩
end Go.Proofs.YtkkommomefmpgaaGreat

/- What the calls of a pipe answer, and what they leave: New, Join, Leave, Held, Ends, CanRead, CanWrite. -/
namespace Go.Proofs.YtkkommomefmpgaaGreat
open Go.RowKit

end Go.Proofs.YtkkommomefmpgaaGreat

/- What the calls of a pipe answer, and what they leave: Join, Leave, Held, Ends, CanRead, CanWrite. -/
namespace Go.Proofs.YtkkommomefmpgaaGreat
open Go.RowKit

set_option maxHeartbeats 1000000 in
theorem ends_any (g : Nat) (q : List UInt8) (rd wr : Nat) (w : World) (h : PipeAt w g q rd wr) :
    Calls Tryz.prog 328 #[.pointer (some ⟨g, 0, none⟩)] w fun e w' => e = .returned (.tuple #[.int .i64 rd, .int .i64 wr]) ∧ Below w.heap.size w w' := by
  obtain ⟨R, f, hP, hq⟩ := h
  have h1 := hP.c0
  have h2 := hP.cr
  have h3 := hP.cw
  clear hP hq
  go_enter Tryz.func328, Tryz.ntmps328
  go_wp2_with fail
  refine (isMade_is g true w h1).mono ?_
  rintro e w1 ⟨rfl, rfl⟩
  go_wp2
  go_quiet (fail)
  go_wp2
  go_ret2
  exact ⟨rfl, below_drewN (Below.refl _ _) _⟩

def canR (n rd wr : Nat) : Bool := decide (0 < rd) && !decide (n = 0 ∧ 0 < wr)
set_option maxHeartbeats 1000000 in
theorem canRead_any (g : Nat) (q : List UInt8) (rd wr : Nat) (w : World) (h : PipeAt w g q rd wr) :
    Calls Tryz.prog 312 #[.pointer (some ⟨g, 0, none⟩)] w fun e w' => e = .returned (.bool (canR q.length rd wr)) ∧ w' = w := by
  obtain ⟨R, f, hP, hq⟩ := h
  have HP := hide hP
  have h1 := hP.c0
  have h2 := hP.cr
  clear hP hq
  unfold canR
  by_cases hr : 0 < rd
  · rw [show decide (0 < rd) = true by simp; omega]
    have k1 : (0 : Int) < (rd : Int) := by omega
    generalize hy : decide (q.length = 0 ∧ 0 < wr) = y
    have HY := hide hy
    clear hy
    go_enter Tryz.func312, Tryz.ntmps312
    go_wp2_with fail
    refine (isMade_is g true w h1).mono ?_
    rintro e w1 ⟨rfl, rfl⟩
    go_wp2_with fail
    refine (readWaits_is g R f q.length rd wr _ HP.out).mono ?_
    rintro e w2 ⟨rfl, rfl⟩
    rw [HY.out]
    go_wp2
    go_ret
    exact ⟨ret_bool (by simp), rfl⟩
  · obtain rfl : rd = 0 := by omega
    go_enter Tryz.func312, Tryz.ntmps312
    go_wp2_with fail
    refine (isMade_is g true w h1).mono ?_
    rintro e w1 ⟨rfl, rfl⟩
    go_wp2
    go_ret
    exact ⟨rfl, rfl⟩

def canW (n : Int) (c rd wr : Nat) : Bool := inN n && (decide (0 < wr) && (decide (rd = 0) || decide (0 < fitN n.toNat n.toNat c)))
set_option maxHeartbeats 1000000 in
theorem canWrite_any (n : Int) (g : Nat) (q : List UInt8) (rd wr : Nat) (w : World) (h : PipeAt w g q rd wr) :
    Calls Tryz.prog 329 #[.pointer (some ⟨g, 0, none⟩), .int .i64 n] w fun e w' => e = .returned (.bool (canW n q.length rd wr)) ∧ w' = w := by
  obtain ⟨R, f, hP, hq⟩ := h
  have HP := hide hP
  have h1 := hP.c0
  have h2 := hP.cr
  have h3 := hP.cw
  clear hP hq
  unfold canW
  by_cases hi : inN n = false
  · rw [hi]
    have HI := hide hi
    clear hi
    go_enter Tryz.func329, Tryz.ntmps329
    go_wp2_with fail
    refine (isMade_is g true w h1).mono ?_
    rintro e w1 ⟨rfl, rfl⟩
    go_wp2_with fail
    refine (mayBeAsked_any n _).mono ?_
    rintro e w1 ⟨rfl, rfl⟩
    rw [HI.out]
    go_wp2
    go_ret
    exact ⟨rfl, rfl⟩
  · have hi' : inN n = true := by simpa using hi
    obtain ⟨m, rfl, hm1, hm2⟩ := inN_nat hi'
    rw [hi']
    have HI := hide hi'
    clear hi hi'
    simp only [Int.toNat_natCast]
    rcases (show wr = 0 ∨ (0 < wr ∧ rd = 0) ∨ (0 < wr ∧ 0 < rd) by omega) with rfl | ⟨hw, rfl⟩ | ⟨hw, hr⟩
    · go_enter Tryz.func329, Tryz.ntmps329
      go_wp2_with fail
      refine (isMade_is g true w h1).mono ?_
      rintro e w1 ⟨rfl, rfl⟩
      go_wp2_with fail
      refine (mayBeAsked_any m _).mono ?_
      rintro e w1 ⟨rfl, rfl⟩
      rw [HI.out]
      go_wp2
      go_ret
      exact ⟨rfl, rfl⟩
    · rw [show decide (0 < wr) = true by simp; omega]
      have k1 : ¬ (wr : Int) = 0 := by omega
      have k2 : ((wr : Int) == 0) = false := by simp; omega
      go_enter Tryz.func329, Tryz.ntmps329
      go_wp2_with fail
      refine (isMade_is g true w h1).mono ?_
      rintro e w1 ⟨rfl, rfl⟩
      go_wp2_with fail
      refine (mayBeAsked_any m _).mono ?_
      rintro e w1 ⟨rfl, rfl⟩
      rw [HI.out]
      go_wp2
      go_ret
      exact ⟨rfl, rfl⟩
    · rw [show decide (0 < wr) = true by simp; omega, show decide (rd = 0) = false by simp; omega]
      have k1 : ¬ (wr : Int) = 0 := by omega
      have k2 : ((wr : Int) == 0) = false := by simp; omega
      have k3 : ¬ (rd : Int) = 0 := by omega
      have k4 : ((rd : Int) == 0) = false := by simp; omega
      go_enter Tryz.func329, Tryz.ntmps329
      go_wp2_with fail
      refine (isMade_is g true w h1).mono ?_
      rintro e w1 ⟨rfl, rfl⟩
      go_wp2_with fail
      refine (mayBeAsked_any m _).mono ?_
      rintro e w1 ⟨rfl, rfl⟩
      rw [HI.out]
      go_wp2_with fail
      refine (fitting_is g R f q.length rd wr m m _ HP.out hm2).mono ?_
      rintro e w1 ⟨rfl, rfl⟩
      go_wp2
      go_ret
      exact ⟨ret_bool (by simp), rfl⟩
end Go.Proofs.YtkkommomefmpgaaGreat

/- What Read and Write of a pipe answer, and what they leave. -/
namespace Go.Proofs.YtkkommomefmpgaaGreat
open Go.RowKit

def Kp_rdE (n : Int) (c rd wr : Nat) : Int := if inN n = false then 4 else if rd = 0 then 51 else if decide (c = 0 ∧ 0 < wr) = true then 52 else 0
def rdB (n : Int) (q : List UInt8) (rd wr : Nat) : List UInt8 := if Kp_rdE n q.length rd wr = 0 then q.take n.toNat else []
def rdQ (n : Int) (q : List UInt8) (rd wr : Nat) : List UInt8 := if Kp_rdE n q.length rd wr = 0 then q.drop n.toNat else q
def Kp_wrE (n : Nat) (most : Int) (c rd wr : Nat) : Int := if refE n most rd wr = 0 then (if n = 0 then 0 else if fitN n most.toNat c = 0 then 52 else 0) else refE n most rd wr
def wrN (n : Nat) (most : Int) (c rd wr : Nat) : Nat := if refE n most rd wr = 0 then fitN n most.toNat c else 0
theorem refE_zero {n : Nat} {most : Int} {rd wr : Nat} (h : refE n most rd wr = 0) : n ≤ 1048576 ∧ inN most = true ∧ 0 < wr ∧ 0 < rd := by
  unfold refE at h
  split at h
  · simp at h
  · split at h
    · simp at h
    · split at h
      · simp at h
      · split at h
        · simp at h
        · rename_i h1 h2 h3 h4
          exact ⟨by omega, by simpa using h2, by omega, by omega⟩

set_option maxRecDepth 100000 in
set_option maxHeartbeats 1000000 in
theorem Kp_read_any (n : Int) (g : Nat) (q : List UInt8) (rd wr : Nat) (w : World) (h : PipeAt w g q rd wr) :
    Calls Tryz.prog 313 #[.pointer (some ⟨g, 0, none⟩), .int .i64 n] w fun e w' => ∃ v, e = .returned (.tuple #[v, .int .i64 (Kp_rdE n q.length rd wr)]) ∧ w'.ownsRow w.heap.size 5 1 v (rdB n q rd wr).length ((rdB n q rd wr).map bv) ∧ PipeAt w' g (rdQ n q rd wr) rd wr ∧ Turned (fun k => k = g) w w' := by
  have HA := hide h
  obtain ⟨R, f, hP, hq⟩ := h
  have HP := hide hP
  have h1 := hP.c0
  have h2 := hP.cr
  clear hP hq
  unfold rdB rdQ
  by_cases hi : inN n = false
  · have he : Kp_rdE n q.length rd wr = 4 := by rw [Kp_rdE, if_pos hi]
    rw [he, if_neg (by decide), if_neg (by decide)]
    have HI := hide hi
    clear hi he
    go_enter Tryz.func313, Tryz.ntmps313
    go_wp2_with fail
    refine (isMade_is g true w h1).mono ?_
    rintro e w1 ⟨rfl, rfl⟩
    go_wp2_with fail
    refine (mayBeAsked_any n _).mono ?_
    rintro e w1 ⟨rfl, rfl⟩
    rw [HI.out]
    go_wp2
    go_ret2
    exact ⟨_, rfl, World.ownsRow_nil _ _ _ _, HA.out, Turned.refl _ _⟩
  · have hi' : inN n = true := by simpa using hi
    obtain ⟨m, rfl, hm1, hm2⟩ := inN_nat hi'
    have HI := hide hi'
    clear hi'
    simp only [Int.toNat_natCast]
    by_cases hr : rd = 0
    · subst hr
      have he : Kp_rdE m q.length 0 wr = 51 := by rw [Kp_rdE, if_neg hi, if_pos rfl]
      rw [he, if_neg (by decide), if_neg (by decide)]
      clear hi he
      go_enter Tryz.func313, Tryz.ntmps313
      go_wp2_with fail
      refine (isMade_is g true w h1).mono ?_
      rintro e w1 ⟨rfl, rfl⟩
      go_wp2_with fail
      refine (mayBeAsked_any m _).mono ?_
      rintro e w1 ⟨rfl, rfl⟩
      rw [HI.out]
      go_wp2
      go_ret2
      exact ⟨_, rfl, World.ownsRow_nil _ _ _ _, HA.out, Turned.refl _ _⟩
    · have k1 : ¬ (rd : Int) = 0 := by omega
      have k2 : ((rd : Int) == 0) = false := by simp; omega
      by_cases hb : decide (q.length = 0 ∧ 0 < wr) = true
      · have he : Kp_rdE m q.length rd wr = 52 := by rw [Kp_rdE, if_neg hi, if_neg hr, if_pos hb]
        rw [he, if_neg (by decide), if_neg (by decide)]
        have HB := hide hb
        clear hi he hb
        go_enter Tryz.func313, Tryz.ntmps313
        go_wp2_with fail
        refine (isMade_is g true w h1).mono ?_
        rintro e w1 ⟨rfl, rfl⟩
        go_wp2_with fail
        refine (mayBeAsked_any m _).mono ?_
        rintro e w1 ⟨rfl, rfl⟩
        rw [HI.out]
        go_wp2_with fail
        refine (readWaits_is g R f q.length rd wr _ HP.out).mono ?_
        rintro e w1 ⟨rfl, rfl⟩
        rw [HB.out]
        go_wp2
        go_ret2
        exact ⟨_, rfl, World.ownsRow_nil _ _ _ _, HA.out, Turned.refl _ _⟩
      · have he : Kp_rdE m q.length rd wr = 0 := by rw [Kp_rdE, if_neg hi, if_neg hr, if_neg hb]
        rw [he, if_pos rfl, if_pos rfl]
        have HB : Hid (decide (q.length = 0 ∧ 0 < wr) = false) := hide (by simpa using hb)
        obtain ⟨L, hL⟩ : ∃ L, L = (q.take m).length := ⟨_, rfl⟩
        have HL := hide hL
        rw [← hL]
        clear hi he hb hL
        go_enter Tryz.func313, Tryz.ntmps313
        go_wp2_with fail
        refine (isMade_is g true w h1).mono ?_
        rintro e w1 ⟨rfl, rfl⟩
        go_wp2_with fail
        refine (mayBeAsked_any m _).mono ?_
        rintro e w1 ⟨rfl, rfl⟩
        rw [HI.out]
        go_wp2_with fail
        refine (readWaits_is g R f q.length rd wr _ HP.out).mono ?_
        rintro e w1 ⟨rfl, rfl⟩
        rw [HB.out]
        go_wp2_with fail
        refine (Kp_take_any g rd wr q m _ HA.out hm2).mono ?_
        rintro e w2 ⟨rfl, hown, hP2, hT⟩
        rw [← HL.out] at hown ⊢
        have HO := hide hown
        have HP2 := hide hP2
        clear hown hP2
        go_wp2
        go_ret2
        exact ⟨_, rfl, HO.out, HP2.out, hT⟩

set_option maxRecDepth 100000 in
set_option maxHeartbeats 1000000 in
theorem Kp_write_any (most : Int) (g : Nat) (q x : List UInt8) (a : Option Addr) (n cx : Nat) (rd wr : Nat) (w : World) (h : PipeAt w g q rd wr) (hx : Bys w (.slice a n cx) x) (hcx : x.length ≤ cx) (hxs : x.length ≤ 140737488351232) (hxg : 0 < x.length → (Value.slice a n cx).ownBlock ≠ some g) :
    Calls Tryz.prog 314 #[.pointer (some ⟨g, 0, none⟩), .slice a n cx, .int .i64 most] w fun e w' => e = .returned (.tuple #[.int .i64 (wrN x.length most q.length rd wr : Nat), .int .i64 (Kp_wrE x.length most q.length rd wr)]) ∧ PipeAt w' g (q ++ x.take (wrN x.length most q.length rd wr)) rd wr ∧ Turned (fun k => k = g) w w' := by
  have HA := hide h
  have hql := h.len
  obtain ⟨R, f, hP, hq⟩ := h
  have HP := hide hP
  clear hP hq
  obtain ⟨a1, c1, he1, -⟩ := bys_form hx
  obtain ⟨rfl, rfl, rfl⟩ : a = a1 ∧ n = x.length ∧ cx = c1 := by simpa using he1
  have HX := hide hx
  have HG := hide hxg
  clear hx he1 hxg
  unfold wrN Kp_wrE
  by_cases hr : refE x.length most rd wr = 0
  · obtain ⟨hl, hi, hw0, hr0⟩ := refE_zero hr
    obtain ⟨m, rfl, hm1, hm2⟩ := inN_nat hi
    rw [if_pos hr, if_pos hr]
    simp only [Int.toNat_natCast]
    have HR := hide hr
    clear hr hi
    by_cases hx0 : x.length = 0
    · obtain rfl : x = [] := List.length_eq_zero_iff.1 hx0
      rw [if_pos hx0]
      simp only [List.length_nil] at *
      go_enter Tryz.func314, Tryz.ntmps314
      go_wp2_with fail
      refine (refuses_is g R f q.length rd wr _ 0 _ m _ HP.out (by omega)).mono ?_
      rintro e w1 ⟨rfl, rfl⟩
      rw [HR.out]
      go_wp2
      go_ret2
      exact ⟨rfl, by simpa using HA.out, Turned.refl _ _⟩
    · rw [if_neg hx0]
      have k1 : ¬ (x.length : Int) = 0 := by omega
      have k2 : ((x.length : Int) == 0) = false := by rw [beq_eq_false_iff_ne]; omega
      obtain ⟨y, hy⟩ : ∃ y, y = fitN x.length m q.length := ⟨_, rfl⟩
      have hyl := fitN_le x.length m q.length
      by_cases hy0 : fitN x.length m q.length = 0
      · rw [if_pos hy0]
        rw [← hy] at hyl hy0 ⊢
        subst hy0
        have HY := hide hy
        clear hy hyl
        go_enter Tryz.func314, Tryz.ntmps314
        go_wp2_with fail
        refine (refuses_is g R f q.length rd wr _ x.length _ m _ HP.out hxs).mono ?_
        rintro e w1 ⟨rfl, rfl⟩
        rw [HR.out]
        go_wp2_with fail
        refine (fitting_is g R f q.length rd wr x.length m _ HP.out hl).mono ?_
        rintro e w1 ⟨rfl, rfl⟩
        rw [← HY.out]
        go_wp2
        go_ret2
        exact ⟨rfl, by simpa using HA.out, Turned.refl _ _⟩
      · rw [if_neg hy0]
        rw [← hy] at hyl hy0 ⊢
        have k3 : ¬ (y : Int) = 0 := by omega
        have k4 : ((y : Int) == 0) = false := by simp; omega
        have k5 : (y : Int) ≤ (cx : Int) := by omega
        obtain ⟨-, b, off, rfl, hbl, -⟩ := bys_block HX.out (by omega)
        have HXc : Hid (Bys w (.slice (some ⟨b, off, none⟩) y cx) (x.take y)) := hide (by simpa using bys_cut HX.out 0 y cx (by omega))
        have htl : (x.take y).length = y := by simp; omega
        have HTL := hide htl
        have hyf : q.length + y ≤ 4096 := by have := hyl.2 hql; omega
        have HY := hide hy
        clear hy hyl htl
        have HPut := hide (put_any g rd wr q (x.take y) (some ⟨b, off, none⟩) y cx w.drew (HA.out.keep (W' := w.drew) rfl) (HXc.out.below (Below.refl _ w).drew) (by rw [HTL.out]; omega) (by rw [HTL.out]; omega) (HG.out (by omega)) (by rw [HTL.out]; omega))
        go_enter Tryz.func314, Tryz.ntmps314
        go_wp2_with fail
        refine (refuses_is g R f q.length rd wr _ x.length _ m _ HP.out hxs).mono ?_
        rintro e w1 ⟨rfl, rfl⟩
        rw [HR.out]
        go_wp2_with fail
        refine (fitting_is g R f q.length rd wr x.length m _ HP.out hl).mono ?_
        rintro e w1 ⟨rfl, rfl⟩
        rw [← HY.out]
        go_wp2_with fail
        go_region_with (go_at_call 320; refine HPut.out.mono ?_; rintro e w' ⟨rfl, hP2, hT⟩; have HP2 := hide hP2; have HT := hide hT; clear hP2 hT)
        go_wp2
        go_ret2
        exact ⟨rfl, HP2.out, (Turned.of_below (S := fun k => k = g) (Below.refl _ _).drew).trans HT.out (fun _ _ e => e)⟩
  · rw [if_neg hr, if_neg hr]
    have HR := hide hr
    obtain ⟨y, hy⟩ : ∃ y, y = refE x.length most rd wr := ⟨_, rfl⟩
    rw [← hy] at hr ⊢
    have k1 : (y == 0) = false := by simpa using hr
    have HY := hide hy
    clear hy HR
    go_enter Tryz.func314, Tryz.ntmps314
    go_wp2_with fail
    refine (refuses_is g R f q.length rd wr _ x.length _ most _ HP.out hxs).mono ?_
    rintro e w1 ⟨rfl, rfl⟩
    rw [← HY.out]
    go_wp2
    go_ret2
    exact ⟨rfl, by simpa using HA.out, Turned.refl _ _⟩
end Go.Proofs.YtkkommomefmpgaaGreat

/- A kernel by the page, as a value: what it is, and what calls answer and leave. No program. -/
namespace Go.Proofs.YtkkommomefmpgaaGreat
open Go.RowKit

theorem kempty_yes (s : ByteArray) (h : s.size = 0) : s.toList.isEmpty = true := by
  rw [ByteArray.toList_eq, List.isEmpty_iff, ← List.length_eq_zero_iff]; simpa using h
theorem kempty_no (s : ByteArray) (h : s.size ≠ 0) : s.toList.isEmpty = false := by
  rw [ByteArray.toList_eq, Bool.eq_false_iff, Ne, List.isEmpty_iff, ← List.length_eq_zero_iff]; simpa using h
def nameOk (s : ByteArray) : Bool := decide (0 < s.size) && (decide (s.size ≤ 64) && s.data.toList.all (fun c => decide (33 ≤ c.toNat) && decide (c.toNat ≤ 126)))

abbrev fbit (f m : Int) : Int := bits .and .i64 f m
def flagsOk (f : Int) : Bool := decide (0 ≤ f ∧ f ≤ 63) && (!(fbit f 3 == 0) && ((fbit f 20 == 0 || !(fbit f 2 == 0)) && (fbit f 32 == 0 || !(fbit f 8 == 0))))
def inNames (s : ByteArray) (ss : List ByteArray) : Bool := ss.any (fun x => x.data.toList == s.data.toList)
theorem bytes_ne {x s : ByteArray} (h : ¬ x = s) : ¬ x.data.toList = s.data.toList := fun e => h (Go.WideShapes.bytes_inj e)
theorem inNames_iff (s : ByteArray) (ss : List ByteArray) : inNames s ss = true ↔ s ∈ ss := by
  unfold inNames
  rw [List.any_eq_true]
  constructor
  · rintro ⟨x, hx, he⟩
    have : x = s := Go.WideShapes.bytes_inj (by simpa using he)
    rw [← this]; exact hx
  · intro h
    exact ⟨s, h, by simp⟩

def kfiles : List ByteArray → List Nm → Int × List ByteArray
  | ns, [] => (0, ns)
  | ns, (n, d) :: l => if nameOk n = false then (61, ns) else if inNames n ns = true then (6, ns) else if 1048576 < d.length then (5, ns) else kfiles (ns ++ [n]) l
def kterms : List ByteArray → List Tp → Int
  | _, [] => 0
  | ns, (n, ls) :: l => if nameOk n = false then 61 else if inNames n ns = true then 6 else if newE ls = 0 then kterms (ns ++ [n]) l else newE ls
def checkE (fs : List Nm) (ts : List Tp) (l : List Fault) : Int :=
  if 256 < fs.length + ts.length then 3 else if (kfiles [] fs).1 = 0 then (if kterms (kfiles [] fs).2 ts = 0 then (chk l).1 else kterms (kfiles [] fs).2 ts) else (kfiles [] fs).1
theorem drop_at {α : Type} (l : List α) (k : Nat) (h : k < l.length) : l.drop k = l[k] :: l.drop (k + 1) := List.drop_eq_getElem_cons h

inductive Ob where
  | file (b : List UInt8)
  | term (ls : List (List UInt8)) (scr : List UInt8)
  | pipe (q : List UInt8) (rd wt : Nat)
def Ob.kind : Ob → Int
  | .file _ => 1
  | .term _ _ => 2
  | .pipe _ _ _ => 3
def Ob.ok : Ob → Prop
  | .file b => b.length ≤ 1048576
  | .term ls scr => ls.length ≤ 256 ∧ (∀ j (hj : j < ls.length), ls[j].length ≤ 4096) ∧ scr.length ≤ 1048576
  | .pipe q rd wt => q.length ≤ 4096 ∧ rd ≤ 1024 ∧ wt ≤ 1024
structure Th where
  name : ByteArray
  ob : Ob
structure De where
  n : Nat
  th : Nat
  flags : Int
  pos : Nat
  held : Nat
structure KS where
  th : List Th
  nm : List Nat
  de : List De
  next : Nat
  plan : List Fault
  reads : Nat
  writes : Nat
def KS.find (K : KS) (d : Int) : Option De := K.de.find? (fun x => decide ((x.n : Int) = d))

def planOk (l : List Fault) : Prop := l.length ≤ 4096 ∧ ∀ f ∈ l, f.1 = 1 → 1 ≤ f.2 ∧ f.2 ≤ 1048576
theorem planOk.tail {l : List Fault} (h : planOk l) : planOk l.tail := ⟨by have := h.1; simp; omega, fun f hf => h.2 f (List.mem_of_mem_tail hf)⟩
theorem nxt_good {l : List Fault} {want : Int} (h : planOk l) (h1 : 1 ≤ want) (h2 : want ≤ 1048576) (he : (nxt l want).2 = 0) : 1 ≤ (nxt l want).1 ∧ (nxt l want).1 ≤ want := by
  unfold nxt at he ⊢
  rw [if_neg (by omega)] at he ⊢
  cases l with
  | nil => simp; omega
  | cons f r =>
    simp only at he ⊢
    by_cases e1 : f.1 = 1
    · have := h.2 f (by simp) e1
      rw [if_pos e1]
      simp only
      omega
    · rw [if_neg e1] at he ⊢
      by_cases e2 : f.1 = 2
      · rw [if_pos e2] at he; simp at he
      · rw [if_neg e2] at he ⊢
        by_cases e3 : f.1 = 3
        · rw [if_pos e3] at he; simp at he
        · rw [if_neg e3] at he ⊢
          simp only
          omega
structure KOk (K : KS) : Prop where
  few : K.de.length ≤ 256
  named : K.nm.length ≤ 256
  th : ∀ d ∈ K.de, d.th < K.th.length
  nm : ∀ i ∈ K.nm, i < K.th.length
  num : ∀ d ∈ K.de, 1 ≤ d.n ∧ d.n < K.next
  once : ∀ d ∈ K.de, ∀ d' ∈ K.de, d.n = d'.n → d = d'
  flags : ∀ d ∈ K.de, flagsOk d.flags = true
  pos : ∀ d ∈ K.de, d.pos ≤ 1048576
  held : ∀ d ∈ K.de, 1 ≤ d.held ∧ d.held ≤ 1024
  plan : planOk K.plan
theorem KS.find_some {K : KS} {d : Int} {x : De} (h : K.find d = some x) : x ∈ K.de ∧ (x.n : Int) = d := by
  unfold KS.find at h
  exact ⟨List.mem_of_find?_eq_some h, by simpa using List.find?_some h⟩
def KS.tho (K : KS) (x : De) : Ob := (K.th[x.th]?.map Th.ob).getD (.file [])
theorem KS.tho_eq {K : KS} {x : De} (h : x.th < K.th.length) : K.tho x = K.th[x.th].ob := by simp [KS.tho, h]
def KS.kindOf (K : KS) (d : Int) : Int := match K.find d with | none => 0 | some x => (K.tho x).kind
def KS.canRead (K : KS) (d : Int) : Bool := match K.find d with
  | none => false
  | some x => !(fbit x.flags 1 == 0) && (match K.tho x with | .pipe q rd wt => canR q.length rd wt | _ => true)
def KS.setDe (K : KS) (x : De) : KS := { K with de := K.de.map fun y => if y.n = x.n then x else y }
theorem mem_setDe {K : KS} {x y : De} (h : y ∈ (K.setDe x).de) : y = x ∨ (y ∈ K.de ∧ y.n ≠ x.n) := by
  obtain ⟨z, hz, he⟩ := List.mem_map.1 h
  by_cases e : z.n = x.n
  · rw [if_pos e] at he; exact .inl he.symm
  · rw [if_neg e] at he; subst he; exact .inr ⟨hz, e⟩
theorem setDe_ns {K : KS} {x : De} (f : Nat → Value) : (K.setDe x).de.map (fun d => f d.n) = K.de.map fun d => f d.n := by
  unfold KS.setDe
  simp only [List.map_map]
  apply List.map_congr_left
  intro y _
  simp only [Function.comp]
  split
  · rename_i e; rw [e]
  · rfl
theorem KOk.setDe {K : KS} (h : KOk K) {x x' : De} (hx : x ∈ K.de) (hn : x'.n = x.n) (ht : x'.th = x.th) (hf : x'.flags = x.flags) (hp : x'.pos ≤ 1048576) (hh : 1 ≤ x'.held ∧ x'.held ≤ 1024) : KOk (K.setDe x') := by
  have el : ∀ y ∈ (K.setDe x').de, y = x' ∨ (y ∈ K.de ∧ y.n ≠ x'.n) := fun y hy => mem_setDe hy
  refine ⟨by simpa [KS.setDe] using h.few, h.named, fun y hy => ?_, h.nm, fun y hy => ?_, fun y hy z hz e => ?_, fun y hy => ?_, fun y hy => ?_, fun y hy => ?_, h.plan⟩
  · rcases el y hy with rfl | ⟨h1, _⟩
    · rw [ht]; exact h.th x hx
    · exact h.th y h1
  · rcases el y hy with rfl | ⟨h1, _⟩
    · rw [hn]; exact h.num x hx
    · exact h.num y h1
  · rcases el y hy with rfl | ⟨h1, h2⟩
    · rcases el z hz with rfl | ⟨h3, h4⟩
      · rfl
      · exact absurd e.symm h4
    · rcases el z hz with rfl | ⟨h3, h4⟩
      · exact absurd e h2
      · exact h.once y h1 z h3 e
  · rcases el y hy with rfl | ⟨h1, _⟩
    · rw [hf]; exact h.flags x hx
    · exact h.flags y h1
  · rcases el y hy with rfl | ⟨h1, _⟩
    · exact hp
    · exact h.pos y h1
  · rcases el y hy with rfl | ⟨h1, _⟩
    · exact hh
    · exact h.held y h1
def KS.setOb (K : KS) (i : Nat) (ob : Ob) : KS := { K with th := K.th.modify i fun t => { t with ob := ob } }
theorem setOb_len (K : KS) (i : Nat) (ob : Ob) : (K.setOb i ob).th.length = K.th.length := by simp [KS.setOb]
theorem setOb_same {K : KS} {i : Nat} {ob : Ob} (h : i < (K.setOb i ob).th.length) (h' : i < K.th.length) : (K.setOb i ob).th[i] = { K.th[i] with ob := ob } := by simp [KS.setOb]
theorem setOb_other {K : KS} {i j : Nat} {ob : Ob} (hne : j ≠ i) (h : j < (K.setOb i ob).th.length) (h' : j < K.th.length) : (K.setOb i ob).th[j] = K.th[j] := by simp [KS.setOb, Ne.symm hne]
def Ob.waits : Ob → Bool
  | .pipe q rd wt => !canR q.length rd wt
  | _ => false
def KS.readUp (K : KS) : KS := { K with reads := K.reads + 1, plan := K.plan.tail }
def KS.read (K : KS) (d n : Int) : List UInt8 × Int × KS :=
  match K.find d with
  | none => ([], 64, K)
  | some x =>
    if fbit x.flags 1 = 0 then ([], 65, K) else if n < 0 ∨ 1048576 < n then ([], 4, K) else if n = 0 then ([], 0, K) else if (K.tho x).waits = true then ([], 52, K)
    else if (nxt K.plan n).2 = 0 then
      match K.tho x with
      | .file b => (piece b x.pos (nxt K.plan n).1.toNat, 0, K.readUp.setDe { x with pos := x.pos + (piece b x.pos (nxt K.plan n).1.toNat).length })
      | .term ls scr => (rdH ls (nxt K.plan n).1, Te_rdE (nxt K.plan n).1, K.readUp.setOb x.th (.term (rdR ls (nxt K.plan n).1) scr))
      | .pipe q rd wt => (rdB (nxt K.plan n).1 q rd wt, Kp_rdE (nxt K.plan n).1 q.length rd wt, K.readUp.setOb x.th (.pipe (rdQ (nxt K.plan n).1 q rd wt) rd wt))
    else ([], (nxt K.plan n).2, K.readUp)
def KS.seek (K : KS) (d off wh : Int) : Int × Int × KS :=
  match K.find d with
  | none => (0, 64, K)
  | some x => match K.tho x with
    | .file b => if wh < 0 ∨ 2 < wh then (0, 1, K) else
        if 0 ≤ (if wh = 1 then (x.pos : Int) else if wh = 2 then (b.length : Int) else 0) + off ∧ (if wh = 1 then (x.pos : Int) else if wh = 2 then (b.length : Int) else 0) + off ≤ 1048576 then
          ((if wh = 1 then (x.pos : Int) else if wh = 2 then (b.length : Int) else 0) + off, 0, K.setDe { x with pos := ((if wh = 1 then (x.pos : Int) else if wh = 2 then (b.length : Int) else 0) + off).toNat })
        else (0, 4, K)
    | _ => (0, 66, K)
end Go.Proofs.YtkkommomefmpgaaGreat

/- A kernel by the page, as a value: writes, drops, opens, pipes, beginnings. No program. -/
namespace Go.Proofs.YtkkommomefmpgaaGreat
open Go.RowKit

def bit (f m : Int) : Bool := !(fbit f m == 0)
theorem bit_no {f m : Int} (h : fbit f m = 0) : bit f m = false := by unfold bit; rw [h]; rfl
theorem bit_yes {f m : Int} (h : fbit f m ≠ 0) : bit f m = true := by unfold bit; simpa using h
def placeOf (f : List UInt8) (flags : Int) (pos : Nat) : Nat := if bit flags 4 = true then f.length else pos
def refusal (ob : Ob) (flags : Int) (pos : Nat) (n : Int) : Int := match ob with
  | .pipe q rd wt => if rd = 0 then 53 else if canW n q.length rd wt = false then 52 else 0
  | .term _ scr => if scr.length = 1048576 then 31 else 0
  | .file f => if placeOf f flags pos = 1048576 then 31 else 0
def KS.writeUp (K : KS) : KS := { K with writes := K.writes + 1, plan := K.plan.tail }
def KS.write (K : KS) (d : Int) (b : List UInt8) : Int × Int × KS :=
  match K.find d with
  | none => (0, 64, K)
  | some x =>
    if fbit x.flags 2 = 0 then (0, 65, K) else if 1048576 < b.length then (0, 5, K) else if b.length = 0 then (0, 0, K)
    else if refusal (K.tho x) x.flags x.pos b.length = 0 then
      if (nxt K.plan b.length).2 = 0 then
        match K.tho x with
        | .file f => ((min (nxt K.plan b.length).1.toNat (1048576 - placeOf f x.flags x.pos) : Nat), 0, (K.writeUp.setOb x.th (.file (wrL f (placeOf f x.flags x.pos) (b.take (min (nxt K.plan b.length).1.toNat (1048576 - placeOf f x.flags x.pos)))))).setDe { x with pos := placeOf f x.flags x.pos + min (nxt K.plan b.length).1.toNat (1048576 - placeOf f x.flags x.pos) })
        | .term ls scr => ((min (nxt K.plan b.length).1.toNat (1048576 - scr.length) : Nat), 0, K.writeUp.setOb x.th (.term ls (scr ++ b.take (min (nxt K.plan b.length).1.toNat (1048576 - scr.length)))))
        | .pipe q rd wt => ((wrN b.length (nxt K.plan b.length).1 q.length rd wt : Nat), Kp_wrE b.length (nxt K.plan b.length).1 q.length rd wt, K.writeUp.setOb x.th (.pipe (q ++ b.take (wrN b.length (nxt K.plan b.length).1 q.length rd wt)) rd wt))
      else (0, (nxt K.plan b.length).2, K.writeUp)
    else (0, refusal (K.tho x) x.flags x.pos b.length, K)
def KS.newDe (K : KS) (i : Nat) (flags : Int) : KS := { K with de := K.de ++ [⟨K.next, i, flags, 0, 1⟩], next := K.next + 1 }
def KS.obOf (K : KS) (i : Nat) : Ob := (K.th[i]?.map Th.ob).getD (.file [])
def KS.nameOf (K : KS) (i : Nat) : ByteArray := (K.th[i]?.map Th.name).getD ByteArray.empty
def nlt (a b : ByteArray) : Prop := a.data.toList < b.data.toList
instance (a b : ByteArray) : Decidable (nlt a b) := inferInstanceAs (Decidable (a.data.toList < b.data.toList))
def insN (f : Nat → ByteArray) (i : Nat) : List Nat → List Nat
  | [] => [i]
  | j :: r => if nlt (f i) (f j) then i :: j :: r else j :: insN f i r
def KS.addTh (K : KS) (t : Th) : KS := { K with th := K.th ++ [t], nm := insN (fun j => ((K.th ++ [t])[j]?.map Th.name).getD ByteArray.empty) K.th.length K.nm }
def KS.byName (K : KS) (s : ByteArray) : Option Nat := K.nm.find? fun i => decide (K.nameOf i = s)
def KS.cut (K : KS) (i : Nat) (flags : Int) : KS := if bit flags 16 = true then (match K.obOf i with | .file _ => K.setOb i (.file []) | _ => K) else K
def KS.open (K : KS) (s : ByteArray) (flags : Int) : Int × Int × KS :=
  if nameOk s = false then (0, 61, K) else if flagsOk flags = false then (0, 65, K) else if 256 ≤ K.de.length then (0, 3, K) else
  match K.byName s with
  | some i => if fbit flags 32 = 0 then (K.next, 0, (K.cut i flags).newDe i flags) else (0, 63, K)
  | none => if fbit flags 8 = 0 then (0, 62, K) else if 256 ≤ K.nm.length then (0, 3, K) else (K.next, 0, (K.addTh ⟨s, .file []⟩).newDe K.th.length flags)
def KS.nought (l : List Fault) : KS := ⟨[], [], [], 1, l, 0, 0⟩
def KS.new (fs : List Nm) (ts : List Tp) (l : List Fault) : KS := ts.foldl (fun K t => K.addTh ⟨t.1, .term t.2 []⟩) (fs.foldl (fun K f => K.addTh ⟨f.1, .file f.2⟩) (KS.nought l))
structure KNm (K : KS) : Prop where
  sorted : K.nm.Pairwise fun i j => nlt (K.nameOf i) (K.nameOf j)
  kind : ∀ i ∈ K.nm, (K.obOf i).kind = 1 ∨ (K.obOf i).kind = 2
  all : ∀ i, i < K.th.length → (K.obOf i).kind ≠ 3 → i ∈ K.nm
  ok : ∀ i ∈ K.nm, nameOk (K.nameOf i) = true

theorem KS.obOf_eq {K : KS} {i : Nat} (h : i < K.th.length) : K.obOf i = K.th[i].ob := by simp [KS.obOf, h]
theorem KS.tho_obOf (K : KS) (x : De) : K.tho x = K.obOf x.th := rfl
theorem KS.nameOf_setOb (K : KS) (i j : Nat) (ob : Ob) : (K.setOb i ob).nameOf j = K.nameOf j := by
  unfold KS.nameOf KS.setOb
  simp only [List.getElem?_modify]
  by_cases h : i = j
  · subst h; cases K.th[i]? <;> simp
  · simp [h]
theorem KS.obOf_setOb_same {K : KS} {i : Nat} (ob : Ob) (h : i < K.th.length) : (K.setOb i ob).obOf i = ob := by simp [KS.obOf, KS.setOb, h]
theorem KS.obOf_setOb_other {K : KS} {i j : Nat} (ob : Ob) (h : j ≠ i) : (K.setOb i ob).obOf j = K.obOf j := by
  unfold KS.obOf KS.setOb
  simp [Ne.symm h]
theorem KS.kind_setOb {K : KS} {i : Nat} {ob : Ob} (h : i < K.th.length) (hk : ob.kind = K.th[i].ob.kind) (j : Nat) : ((K.setOb i ob).obOf j).kind = (K.obOf j).kind := by
  by_cases e : j = i
  · subst e; rw [KS.obOf_setOb_same ob h, hk, KS.obOf_eq h]
  · rw [KS.obOf_setOb_other ob e]
theorem KNm.setOb {K : KS} (h : KNm K) {i : Nat} {ob : Ob} (hi : i < K.th.length) (hk : ob.kind = K.th[i].ob.kind) : KNm (K.setOb i ob) := by
  refine ⟨?_, fun j hj => by rw [KS.kind_setOb hi hk]; exact h.kind j hj, fun j hj e => h.all j (by rw [setOb_len] at hj; exact hj) (by rw [KS.kind_setOb hi hk] at e; exact e), fun j hj => by rw [KS.nameOf_setOb]; exact h.ok j hj⟩
  refine List.Pairwise.imp (fun {a b} hab => ?_) h.sorted
  rw [KS.nameOf_setOb, KS.nameOf_setOb]; exact hab
theorem KNm.same {K K' : KS} (h : KNm K) (ht : K'.th = K.th) (hn : K'.nm = K.nm) : KNm K' := by
  have e1 : K'.nameOf = K.nameOf := by funext i; simp [KS.nameOf, ht]
  have e2 : K'.obOf = K.obOf := by funext i; simp [KS.obOf, ht]
  exact ⟨by rw [hn, e1]; exact h.sorted, by rw [hn, e2]; exact h.kind, by rw [hn, e2, ht]; exact h.all, by rw [hn, e1]; exact h.ok⟩
theorem KOk.setOb {K : KS} (h : KOk K) (i : Nat) (ob : Ob) : KOk (K.setOb i ob) :=
  ⟨h.few, h.named, fun d hd => by rw [setOb_len]; exact h.th d hd, fun j hj => by rw [setOb_len]; exact h.nm j hj, h.num, h.once, h.flags, h.pos, h.held, h.plan⟩
theorem nlt_ne {a b : ByteArray} (h : nlt a b) : a ≠ b := fun e => by subst e; exact List.lt_irrefl _ h
theorem nlt_trans {a b c : ByteArray} (h : nlt a b) (h' : nlt b c) : nlt a c := List.lt_trans h h'
theorem nlt_total {a b : ByteArray} (h : ¬ nlt a b) (hne : a ≠ b) : nlt b a := by
  unfold nlt at *
  by_cases h1 : b.data.toList < a.data.toList
  · exact h1
  · exact absurd (Go.WideShapes.bytes_inj (List.le_antisymm (List.not_lt.1 h1) (List.not_lt.1 h))) hne
theorem mem_insN {f : Nat → ByteArray} {i j : Nat} : ∀ {l : List Nat}, j ∈ insN f i l ↔ j = i ∨ j ∈ l
  | [] => by simp [insN]
  | a :: r => by
    unfold insN
    split
    · simp
    · simp only [List.mem_cons, mem_insN (l := r)]
      constructor
      · rintro (h | h | h) <;> simp [h]
      · rintro (h | h | h) <;> simp [h]
theorem insN_perm (f : Nat → ByteArray) (i : Nat) : ∀ l : List Nat, (insN f i l).Perm (i :: l)
  | [] => List.Perm.refl _
  | a :: r => by
    unfold insN
    split
    · exact List.Perm.refl _
    · exact ((insN_perm f i r).cons a).trans (List.Perm.swap i a r)
theorem insN_sorted {f : Nat → ByteArray} {i : Nat} : ∀ {l : List Nat}, l.Pairwise (fun a b => nlt (f a) (f b)) → (∀ j ∈ l, f j ≠ f i) → (insN f i l).Pairwise fun a b => nlt (f a) (f b)
  | [], _, _ => by simp [insN]
  | a :: r, h, hne => by
    obtain ⟨h1, h2⟩ := List.pairwise_cons.1 h
    unfold insN
    split
    · rename_i hlt
      refine List.pairwise_cons.2 ⟨fun b hb => ?_, h⟩
      rcases List.mem_cons.1 hb with rfl | hb
      · exact hlt
      · exact nlt_trans hlt (h1 b hb)
    · rename_i hlt
      refine List.pairwise_cons.2 ⟨fun b hb => ?_, insN_sorted h2 fun j hj => hne j (by simp [hj])⟩
      rcases mem_insN.1 hb with rfl | hb
      · exact nlt_total hlt (Ne.symm (hne a (by simp)))
      · exact h1 b hb
end Go.Proofs.YtkkommomefmpgaaGreat

/- Spoil turns the block of its slice, and no other. -/
namespace Go.Proofs.YtkkommomefmpgaaGreat
open Go.RowKit

end Go.Proofs.YtkkommomefmpgaaGreat

/- The program's files, terminals and pipes in one notion, each within a set of blocks of its own. -/
namespace Go.Proofs.YtkkommomefmpgaaGreat
open Go.RowKit

def PObj (W : World) (O : Nat → Prop) (p : Nat) : Ob → Prop
  | .file b => b.length ≤ 1048576 ∧ ∃ r cap, FileAt W p r cap b ∧ O p ∧ O r
  | .term ls scr => ∃ B O1, PTerm W B p O1 ls scr ∧ ∀ k, O1 k → O k
  | .pipe q rd wt => PipeAt W p q rd wt ∧ O p
theorem PObj.ok {W : World} {O : Nat → Prop} {p : Nat} {ob : Ob} (h : PObj W O p ob) : ob.ok := by
  cases ob with
  | file b => exact h.1
  | term ls scr => obtain ⟨B, O1, h1, _⟩ := h; exact ⟨h1.few, h1.short, h1.room⟩
  | pipe q rd wt => obtain ⟨⟨R, f, h1, _⟩, _⟩ := h; exact ⟨h1.lc, h1.lr, h1.lw⟩
theorem PObj.mono {W : World} {O O' : Nat → Prop} {p : Nat} {ob : Ob} (h : PObj W O p ob) (hO : ∀ k, O k → O' k) : PObj W O' p ob := by
  cases ob with
  | file b => obtain ⟨h0, r, cap, h1, h2, h3⟩ := h; exact ⟨h0, r, cap, h1, hO _ h2, hO _ h3⟩
  | term ls scr => obtain ⟨B, O1, h1, h2⟩ := h; exact ⟨B, O1, h1, fun k e => hO _ (h2 k e)⟩
  | pipe q rd wt => exact ⟨h.1, hO _ h.2⟩
theorem PObj.keep {W W' : World} {O : Nat → Prop} {p : Nat} {ob : Ob} (h : PObj W O p ob) (hk : ∀ k, O k → k < W.heap.size → W'.heap[k]? = W.heap[k]?) (hs : W.heap.size ≤ W'.heap.size) : PObj W' O p ob := by
  cases ob with
  | file b =>
    obtain ⟨h0, r, cap, h1, h2, h3⟩ := h
    have hp := hk p h2 h1.lt
    exact ⟨h0, r, cap, ⟨(World.cell?_of_block (w := W) hp).trans h1.made, (World.cell?_of_block (w := W) hp).trans h1.data, (World.frozen?_of_block (w := W) hp).trans h1.soft, h1.row.keep (hk r h3 h1.row.lt), h1.apart⟩, h2, h3⟩
  | term ls scr =>
    obtain ⟨B, O1, h1, h2⟩ := h
    obtain ⟨la, lc, s, h3⟩ := h1.term
    have hp := hk p (h2 _ h3.ot) (h3.lt _ h3.ot).2
    exact ⟨B, O1, ⟨(World.cell?_of_block (w := W) hp).trans h1.made, ⟨la, lc, s, h3.keep (fun k e => hk k (h2 k e) (h3.lt k e).2) hs⟩, h1.few, h1.short, h1.room⟩, h2⟩
  | pipe q rd wt => exact ⟨h.1.keep (hk p h.2 h.1.lt), h.2⟩
def PStep (w : World) (O : Nat → Prop) (p : Nat) (ob' : Ob) (w' : World) : Prop := ∃ O', PObj w' O' p ob' ∧ (∀ k, O' k → O k ∨ w.heap.size ≤ k) ∧ Turned O w w'
theorem po_fread (O : Nat → Prop) (p : Nat) (b : List UInt8) (off n : Int) (w : World) (h : PObj w O p (.file b)) :
    Calls Tryz.prog 282 #[.pointer (some ⟨p, 0, none⟩), .int .i64 off, .int .i64 n] w fun e w' => ∃ v, e = .returned (.tuple #[v, .int .i64 (Fi_rdE off n)]) ∧ w'.ownsRow w.heap.size 5 1 v (rdL b off n).length ((rdL b off n).map bv) ∧ Below w.heap.size w w' := by
  obtain ⟨h0, r, cap, h1, h2, h3⟩ := h
  exact readAt_any p r cap b off n w h1 h0
theorem po_fsize (O : Nat → Prop) (p : Nat) (b : List UInt8) (w : World) (h : PObj w O p (.file b)) :
    Calls Tryz.prog 154 #[.pointer (some ⟨p, 0, none⟩)] w fun e w' => e = .returned (.int .i64 b.length) ∧ w' = w := by
  obtain ⟨h0, r, cap, h1, h2, h3⟩ := h
  exact size_any p r cap b w h1
theorem po_fbytes (O : Nat → Prop) (p : Nat) (b : List UInt8) (w : World) (h : PObj w O p (.file b)) :
    Calls Tryz.prog 120 #[.pointer (some ⟨p, 0, none⟩)] w fun e w' => e = .returned (.slice (some ⟨w.heap.size, 0, none⟩) b.length b.length) ∧ w'.ownsRow w.heap.size 5 1 (.slice (some ⟨w.heap.size, 0, none⟩) b.length b.length) b.length (b.map bv) ∧ Below w.heap.size w w' := by
  obtain ⟨h0, r, cap, h1, h2, h3⟩ := h
  exact bytes_any p r cap b w h1 h0
theorem po_fwrite (O : Nat → Prop) (p : Nat) (b x : List UInt8) (off : Int) (vx : Value) (w : World) (h : PObj w O p (.file b)) (hx : Bys w vx x) (hd : 0 < x.length → ∀ k, vx.ownBlock = some k → ¬ O k) :
    Calls Tryz.prog 283 #[.pointer (some ⟨p, 0, none⟩), .int .i64 off, vx] w fun e w' => e = .returned (.int .i64 (Fi_wrE off x.length)) ∧ PStep w O p (.file (wrL b off x)) w' := by
  obtain ⟨h0, r, cap, h1, h2, h3⟩ := h
  refine (writeAt_any p r cap b off vx x w h1 hx (fun h0 k e => ⟨fun e' => hd h0 k e (by rw [e']; exact h2), fun e' => hd h0 k e (by rw [e']; exact h3)⟩)).mono ?_
  rintro e w' ⟨rfl, r', cap', h4, h5, h6⟩
  refine ⟨rfl, fun k => O k ∨ k = r', ⟨wrL_len h0, r', cap', h4, .inl h2, .inr rfl⟩, fun k e => ?_, h6.mono fun k e => ?_⟩
  · rcases e with e | rfl
    · exact .inl e
    · rcases h5 with h5 | h5
      · left; rw [h5]; exact h3
      · exact .inr h5
  · rcases e with rfl | rfl
    · exact h2
    · exact h3
theorem po_ftrunc (O : Nat → Prop) (p : Nat) (b : List UInt8) (n : Int) (w : World) (h : PObj w O p (.file b)) (hl : (trL b n).length ≤ 1048576) :
    Calls Tryz.prog 198 #[.pointer (some ⟨p, 0, none⟩), .int .i64 n] w fun e w' => e = .returned (.int .i64 (trE n)) ∧ PStep w O p (.file (trL b n)) w' := by
  obtain ⟨h0, r, cap, h1, h2, h3⟩ := h
  refine (truncate_any p r cap b n w h1).mono ?_
  rintro e w' ⟨rfl, r', cap', h4, h5, h6⟩
  refine ⟨rfl, fun k => O k ∨ k = r', ⟨hl, r', cap', h4, .inl h2, .inr rfl⟩, fun k e => ?_, h6.mono fun k e => ?_⟩
  · rcases e with e | rfl
    · exact .inl e
    · rcases h5 with h5 | h5
      · left; rw [h5]; exact h3
      · exact .inr h5
  · rcases e with rfl | rfl
    · exact h2
    · exact h3
theorem po_tread (O : Nat → Prop) (p : Nat) (ls : List (List UInt8)) (scr : List UInt8) (n : Int) (w : World) (h : PObj w O p (.term ls scr)) :
    Calls Tryz.prog 293 #[.pointer (some ⟨p, 0, none⟩), .int .i64 n] w fun e w' => ∃ v, e = .returned (.tuple #[v, .int .i64 (Te_rdE n)]) ∧ w'.ownsRow w.heap.size 5 1 v (rdH ls n).length ((rdH ls n).map bv) ∧ PObj w' O p (.term (rdR ls n) scr) ∧ Turned O w w' := by
  obtain ⟨B, O1, h1, h2⟩ := h
  refine (Te_read_any B p O1 ls scr n w h1).mono ?_
  rintro e w' ⟨v, rfl, h3, h4, h5⟩
  exact ⟨v, rfl, h3, ⟨B, O1, h4, h2⟩, h5.mono h2⟩
theorem po_twrite (O : Nat → Prop) (p : Nat) (ls : List (List UInt8)) (scr x : List UInt8) (vx : Value) (w : World) (h : PObj w O p (.term ls scr)) (hx : Bys w vx x) :
    Calls Tryz.prog 294 #[.pointer (some ⟨p, 0, none⟩), vx] w fun e w' => e = .returned (.int .i64 (Te_wrE scr.length x.length)) ∧ PStep w O p (.term ls (wrS scr x)) w' := by
  obtain ⟨B, O1, h1, h2⟩ := h
  refine (Te_write_any B p O1 ls scr vx x w h1 hx).mono ?_
  rintro e w' ⟨rfl, O2, h3, h4, h5⟩
  refine ⟨rfl, fun k => O k ∨ O2 k, ⟨B, O2, h3, fun k e => .inr e⟩, fun k e => ?_, h5.mono h2⟩
  rcases e with e | e
  · exact .inl e
  · exact (h4 k e).imp (h2 k) id
theorem po_pread (O : Nat → Prop) (p : Nat) (q : List UInt8) (rd wt : Nat) (n : Int) (w : World) (h : PObj w O p (.pipe q rd wt)) :
    Calls Tryz.prog 313 #[.pointer (some ⟨p, 0, none⟩), .int .i64 n] w fun e w' => ∃ v, e = .returned (.tuple #[v, .int .i64 (Kp_rdE n q.length rd wt)]) ∧ w'.ownsRow w.heap.size 5 1 v (rdB n q rd wt).length ((rdB n q rd wt).map bv) ∧ PObj w' O p (.pipe (rdQ n q rd wt) rd wt) ∧ Turned O w w' := by
  refine (Kp_read_any n p q rd wt w h.1).mono ?_
  rintro e w' ⟨v, rfl, h3, h4, h5⟩
  exact ⟨v, rfl, h3, ⟨h4, h.2⟩, h5.mono fun k e => by rw [e]; exact h.2⟩
theorem po_pwrite (O : Nat → Prop) (p : Nat) (q x : List UInt8) (rd wt : Nat) (most : Int) (a1 : Option Addr) (n cx : Nat) (w : World) (h : PObj w O p (.pipe q rd wt)) (hx : Bys w (.slice a1 n cx) x) (hcx : x.length ≤ cx) (hxs : x.length ≤ 140737488351232) (hd : 0 < x.length → ∀ k, (Value.slice a1 n cx).ownBlock = some k → ¬ O k) :
    Calls Tryz.prog 314 #[.pointer (some ⟨p, 0, none⟩), .slice a1 n cx, .int .i64 most] w fun e w' => e = .returned (.tuple #[.int .i64 (wrN x.length most q.length rd wt : Nat), .int .i64 (Kp_wrE x.length most q.length rd wt)]) ∧ PStep w O p (.pipe (q ++ x.take (wrN x.length most q.length rd wt)) rd wt) w' := by
  refine (Kp_write_any most p q x a1 n cx rd wt w h.1 hx hcx hxs (fun h0 e => hd h0 p e h.2)).mono ?_
  rintro e w' ⟨rfl, h4, h5⟩
  exact ⟨rfl, O, ⟨h4, h.2⟩, fun _ e => .inl e, h5.mono fun k e => by rw [e]; exact h.2⟩
theorem po_new_file (v : Value) (b : List UInt8) (w : World) (hv : Bys w v b) (hl : b.length ≤ 1048576) :
    Calls Tryz.prog 122 #[v] w fun e w' => ∃ p, e = .returned (.tuple #[.pointer (some ⟨p, 0, none⟩), .int .i64 0]) ∧ PObj w' (fun k => w.heap.size ≤ k ∧ k < w'.heap.size) p (.file b) ∧ Below w.heap.size w w' := by
  refine (Fi_new_good v b w hv hl).mono ?_
  rintro e w' ⟨p, rfl, h1, h2, h3⟩
  exact ⟨p, rfl, ⟨hl, _, _, h1, ⟨by omega, h1.lt⟩, ⟨Nat.le_refl _, h1.row.lt⟩⟩, h3⟩
theorem po_new_term (v : Value) (ls : List (List UInt8)) (w : World) (hv : Lns w v ls) (hl : newE ls = 0) :
    Calls Tryz.prog 38 #[v] w fun e w' => ∃ p, e = .returned (.tuple #[.pointer (some ⟨p, 0, none⟩), .int .i64 0]) ∧ PObj w' (fun k => w.heap.size ≤ k ∧ k < w'.heap.size) p (.term ls []) ∧ Below w.heap.size w w' := by
  refine (Te_new_good v ls w hv hl).mono ?_
  rintro e w' ⟨p, O, rfl, h1, h2⟩
  obtain ⟨la, lc, s, h3⟩ := h1.term
  exact ⟨p, rfl, ⟨_, O, h1, fun k e => h3.lt k e⟩, h2⟩
end Go.Proofs.YtkkommomefmpgaaGreat

/- Maps whose values are pointers to blocks: what they hold, as a list of keys and blocks in any order. -/
namespace Go.Proofs.YtkkommomefmpgaaGreat
open Go.RowKit Go.Maps

def ptrElem : Value → Option (DataW Unit × List MemPlace)
  | .pointer (some ⟨g, 0, none⟩) => some (.lit (.int .i64 g), [])
  | .pointer none => some (.nil, [])
  | _ => none
theorem ptrElem_inv {v : Value} {g : Nat} {ps : List MemPlace} (h : ptrElem v = some (.lit (.int .i64 g), ps)) : v = .pointer (some ⟨g, 0, none⟩) := by
  unfold ptrElem at h
  split at h
  · simp at h; obtain ⟨h, _⟩ := h; obtain rfl := Int.ofNat_inj.1 h; rfl
  · simp at h
  · cases h
structure PMap (W : World) (P : Program) (k : TypeId) (b : Nat) (l : List (Lit × Nat)) : Prop where
  own : ∃ D : DataW Unit, W.ownsMap P k ptrElem b l.length D ∧ Maps.size D = l.length ∧ (∀ p ∈ l, ∀ z, D.atKey p.1 z = .lit (.int .i64 p.2)) ∧ ∀ kl, Maps.has D kl = true → ∃ p ∈ l, p.1 = kl
  nodup : l.Pairwise (fun p q => p.1 ≠ q.1)
theorem PMap.lt {W : World} {P : Program} {k : TypeId} {b : Nat} {l : List (Lit × Nat)} (h : PMap W P k b l) : b < W.heap.size := by
  obtain ⟨D, h1, _⟩ := h.own; exact h1.lt
theorem PMap.keep {W W' : World} {P : Program} {k : TypeId} {b : Nat} {l : List (Lit × Nat)} (h : PMap W P k b l) (hk : W'.heap[b]? = W.heap[b]?) : PMap W' P k b l := by
  obtain ⟨D, ⟨es, clock, hb, F, hs, hD⟩, h2, h3⟩ := h.own
  exact ⟨⟨D, ⟨es, clock, hk.trans hb, F, hs, hD⟩, h2, h3⟩, h.nodup⟩
theorem PMap.perm {W : World} {P : Program} {k : TypeId} {b : Nat} {l l' : List (Lit × Nat)} (h : PMap W P k b l) (hp : l.Perm l') : PMap W P k b l' := by
  obtain ⟨D, h1, h2, h3, h4⟩ := h.own
  refine ⟨⟨D, by rw [← hp.length_eq]; exact h1, by rw [← hp.length_eq]; exact h2, fun p hm => h3 p (hp.mem_iff.2 hm), fun kl hh => ?_⟩, ?_⟩
  · obtain ⟨p, hm, e⟩ := h4 kl hh
    exact ⟨p, hp.mem_iff.1 hm, e⟩
  · exact hp.pairwise h.nodup (fun {a b} hab => Ne.symm hab)
theorem PMap.made (w : World) (P : Program) (k : TypeId) : PMap (w.alloc (.map #[] 0)) P k w.heap.size [] :=
  ⟨⟨.map [], World.ownsMap_made w P k ptrElem, rfl, fun _ h => by simp at h, fun kl h => by simp [Maps.has] at h⟩, List.Pairwise.nil⟩
theorem PMap.hit {W : World} {P : Program} {k t e : TypeId} {b : Nat} {l : List (Lit × Nat)} (h : PMap W P k b l) (K : Keyed P k) (ht : P.underlying t = some (.map k e)) (hz : (zeroValue e).run P W = .ok (.pointer none) W)
    {key : Value} {kl : Lit} {g : Nat} (hkey : keyOf P k key = some kl) (hm : (kl, g) ∈ l) (c : Bool) : (Instr.lookup t (.map (some b)) key c).run P W = .ok (if c then .tuple #[.pointer (some ⟨g, 0, none⟩), .bool true] else .pointer (some ⟨g, 0, none⟩)) W := by
  obtain ⟨D, ⟨es, clock, hb, F, hs, hD⟩, h2, h3, h4⟩ := h.own
  rcases Maps.fit_look c K ht hz hb F hkey with ⟨_, _, hat⟩ | ⟨e0, y, _, _, hrun, hRv, hat, _⟩
  · have := h3 _ hm .nil
    rw [hD] at this
    rw [hat] at this
    cases this
  · have := h3 _ hm .nil
    rw [hD] at this
    rw [hat] at this
    obtain ⟨y1, y2⟩ := y
    simp only at this
    subst this
    rw [hrun, ptrElem_inv hRv]
theorem PMap.miss {W : World} {P : Program} {k t e : TypeId} {b : Nat} {l : List (Lit × Nat)} (h : PMap W P k b l) (K : Keyed P k) (ht : P.underlying t = some (.map k e)) (hz : (zeroValue e).run P W = .ok (.pointer none) W)
    {key : Value} {kl : Lit} (hkey : keyOf P k key = some kl) (hm : ∀ p ∈ l, p.1 ≠ kl) (c : Bool) : (Instr.lookup t (.map (some b)) key c).run P W = .ok (if c then .tuple #[.pointer none, .bool false] else .pointer none) W := by
  obtain ⟨D, ⟨es, clock, hb, F, hs, hD⟩, h2, h3, h4⟩ := h.own
  rcases Maps.fit_look c K ht hz hb F hkey with ⟨hrun, _, hat⟩ | ⟨e0, y, _, _, hrun, hRv, hat, _⟩
  · exact hrun
  · have : Maps.has D kl = true := by rw [hD]; exact Maps.has_true_of_atKey hat
    obtain ⟨p, hp, e⟩ := h4 kl this
    exact absurd e (hm p hp)
theorem PMap.len {W : World} {P : Program} {k t e : TypeId} {b : Nat} {l : List (Lit × Nat)} (h : PMap W P k b l) (ht : P.underlying t = some (.map k e)) (ty : TypeId) : (Builtin.len_ #[t] ty #[.map (some b)]).run P W = .ok (.int .i64 l.length) W := by
  obtain ⟨D, h1, h2, _⟩ := h.own
  rw [h1.len ht ty, h2]
theorem mapTurned_turned {w w' : World} {b : Nat} (h : w.mapTurned w' b) : Turned (fun k => k = b) w w' := (Turned.refl _ w).grown h.grown (fun k e => by cases e; exact .inl rfl)
theorem PMap.store {W : World} {P : Program} {k t e : TypeId} {b : Nat} {l : List (Lit × Nat)} (h : PMap W P k b l) (K : Keyed P k) (ht : P.underlying t = some (.map k e)) (hn : l.length < maxLen)
    {key : Value} {kl : Lit} (g : Nat) (hkey : keyOf P k key = some kl) (hm : ∀ p ∈ l, p.1 ≠ kl) : ∃ w', (Instr.mapUpdate t (.map (some b)) key (.pointer (some ⟨g, 0, none⟩))).run P W = .ok () w' ∧ PMap w' P k b ((kl, g) :: l) ∧ W.mapTurned w' b := by
  obtain ⟨D, h1, h2, h3, h4⟩ := h.own
  have hno : Maps.has D kl = false := by
    rcases hh : Maps.has D kl with _ | _
    · rfl
    · obtain ⟨p, hp, e⟩ := h4 kl hh
      exact absurd e (hm p hp)
  obtain ⟨w', hrun, ho, hT⟩ := h1.store K ht hn hkey (d := .lit (.int .i64 g)) (ps := []) (val := .pointer (some ⟨g, 0, none⟩)) rfl
  refine ⟨w', hrun, ⟨⟨_, ho, ?_, ?_, ?_⟩, List.pairwise_cons.2 ⟨fun p hp e => hm p hp e.symm, h.nodup⟩⟩, hT⟩
  · rw [Maps.size_put (h1.tidy K), hno, h2]; rfl
  · intro p hp z
    rcases List.mem_cons.1 hp with rfl | hp
    · exact Maps.atKey_put_same h1.isMap (K.key hkey) _ _
    · rw [Maps.atKey_put_other (hm p hp)]; exact h3 p hp z
  · intro kl' hh
    by_cases e : kl' = kl
    · exact ⟨(kl, g), by simp, e.symm⟩
    · rw [Maps.has_put_other e] at hh
      obtain ⟨p, hp, e2⟩ := h4 kl' hh
      exact ⟨p, List.mem_cons_of_mem _ hp, e2⟩
theorem PMap.keys {W : World} {P : Program} {k : TypeId} {b : Nat} {l : List (Lit × Nat)} (h : PMap W P k b l) (K : Keyed P k) (hk : P.underlying k = some .string) :
    ∃ D : DataW Unit, W.ownsMap P k ptrElem b l.length D ∧ Maps.size D = l.length ∧ (strKeys D).Perm (l.map fun p => strOf p.1) := by
  obtain ⟨D, h1, h2, h3, h4⟩ := h.own
  refine ⟨D, h1, h2, ?_⟩
  have key : ∀ p ∈ l, ∃ x, p.1 = .string x := by
    intro p hp
    obtain ⟨es, rfl, hko⟩ := h1.keysOf
    have hh : Maps.has (DataW.map es) p.1 = true := Maps.has_true_of_atKey (h3 p hp)
    rw [Maps.has_eq, List.any_eq_true] at hh
    obtain ⟨q, hq, hs⟩ := hh
    obtain ⟨v, hv⟩ := hko q hq
    obtain ⟨y, _, hy, _⟩ := Maps.keyOf_str hk hv
    rw [hy] at hs
    exact ⟨y, by cases hp1 : p.1 <;> rw [hp1] at hs <;> simp [Lit.sameKey] at hs; rw [hs]⟩
  obtain ⟨es, hD, hpw, _⟩ := h1.entries K
  obtain ⟨es', hD', hko⟩ := h1.keysOf
  obtain rfl : es = es' := by rw [hD] at hD'; simpa using hD'
  subst hD
  refine (perm_strKeys hpw (fun p hp => by obtain ⟨v, hv⟩ := hko p hp; obtain ⟨x, _, hx, _⟩ := Maps.keyOf_str hk hv; exact ⟨x, hx⟩) ?_ ?_).symm
  · refine List.pairwise_map.2 (h.nodup.imp_of_mem fun {p q} hp hq hne e => hne ?_)
    obtain ⟨a, ha⟩ := key p hp
    obtain ⟨c, hc⟩ := key q hq
    rw [ha, hc] at e ⊢
    exact congrArg _ e
  · intro x
    constructor
    · intro hx
      obtain ⟨p, hp, rfl⟩ := List.mem_map.1 hx
      obtain ⟨a, ha⟩ := key p hp
      have := Maps.has_true_of_atKey (h3 p hp)
      rw [ha] at this ⊢
      exact this
    · intro hh
      obtain ⟨p, hp, e⟩ := h4 _ hh
      exact List.mem_map.2 ⟨p, hp, by rw [e]; rfl⟩
end Go.Proofs.YtkkommomefmpgaaGreat

/- What the proof stands on, part 4: the contracts of the program's calls that it reaches. -/
import Derived.Test.YtkkommomefmpgaaGreatKQ3
import Derived.Deep.RegionLaw
import Derived.Laws.AppendOwnNone
import Derived.Laws.OwnMore
import Derived.Lib.BufferMore
import Derived.Deep.QuietTactic
import Derived.BigQuiet
import Derived.Laws.StructEq
/- What Read and Write of a pipe answer, and what they leave. -/
namespace Go.Proofs.YtkkommomefmpgaaGreat
open Go.RowKit

def Kp_rdE (n : Int) (c rd wr : Nat) : Int := if inN n = false then 4 else if rd = 0 then 51 else if decide (c = 0 ∧ 0 < wr) = true then 52 else 0
def rdB (n : Int) (q : List UInt8) (rd wr : Nat) : List UInt8 := if Kp_rdE n q.length rd wr = 0 then q.take n.toNat else []
def rdQ (n : Int) (q : List UInt8) (rd wr : Nat) : List UInt8 := if Kp_rdE n q.length rd wr = 0 then q.drop n.toNat else q
def Kp_wrE (n : Nat) (most : Int) (c rd wr : Nat) : Int := if refE n most rd wr = 0 then (if n = 0 then 0 else if fitN n most.toNat c = 0 then 52 else 0) else refE n most rd wr
def wrN (n : Nat) (most : Int) (c rd wr : Nat) : Nat := if refE n most rd wr = 0 then fitN n most.toNat c else 0
theorem refE_zero {n : Nat} {most : Int} {rd wr : Nat} (h : refE n most rd wr = 0) : n ≤ 1048576 ∧ inN most = true ∧ 0 < wr ∧ 0 < rd := by
  unfold refE at h
  split at h
  · simp at h
  · split at h
    · simp at h
    · split at h
      · simp at h
      · split at h
        · simp at h
        · rename_i h1 h2 h3 h4
          exact ⟨by omega, by simpa using h2, by omega, by omega⟩

set_option maxRecDepth 100000 in
set_option maxHeartbeats 1000000 in
theorem Kp_read_any (n : Int) (g : Nat) (q : List UInt8) (rd wr : Nat) (w : World) (h : PipeAt w g q rd wr) :
    Calls Tryz.prog 313 #[.pointer (some ⟨g, 0, none⟩), .int .i64 n] w fun e w' => ∃ v, e = .returned (.tuple #[v, .int .i64 (Kp_rdE n q.length rd wr)]) ∧ w'.ownsRow w.heap.size 5 1 v (rdB n q rd wr).length ((rdB n q rd wr).map bv) ∧ PipeAt w' g (rdQ n q rd wr) rd wr ∧ Turned (fun k => k = g) w w' := by
  have HA := hide h
  obtain ⟨R, f, hP, hq⟩ := h
  have HP := hide hP
  have h1 := hP.c0
  have h2 := hP.cr
  clear hP hq
  unfold rdB rdQ
  by_cases hi : inN n = false
  · have he : Kp_rdE n q.length rd wr = 4 := by rw [Kp_rdE, if_pos hi]
    rw [he, if_neg (by decide), if_neg (by decide)]
    have HI := hide hi
    clear hi he
    go_enter Tryz.func313, Tryz.ntmps313
    go_wp2_with fail
    refine (isMade_is g true w h1).mono ?_
    rintro e w1 ⟨rfl, rfl⟩
    go_wp2_with fail
    refine (mayBeAsked_any n _).mono ?_
    rintro e w1 ⟨rfl, rfl⟩
    rw [HI.out]
    go_wp2
    go_ret2
    exact ⟨_, rfl, World.ownsRow_nil _ _ _ _, HA.out, Turned.refl _ _⟩
  · have hi' : inN n = true := by simpa using hi
    obtain ⟨m, rfl, hm1, hm2⟩ := inN_nat hi'
    have HI := hide hi'
    clear hi'
    simp only [Int.toNat_natCast]
    by_cases hr : rd = 0
    · subst hr
      have he : Kp_rdE m q.length 0 wr = 51 := by rw [Kp_rdE, if_neg hi, if_pos rfl]
      rw [he, if_neg (by decide), if_neg (by decide)]
      clear hi he
      go_enter Tryz.func313, Tryz.ntmps313
      go_wp2_with fail
      refine (isMade_is g true w h1).mono ?_
      rintro e w1 ⟨rfl, rfl⟩
      go_wp2_with fail
      refine (mayBeAsked_any m _).mono ?_
      rintro e w1 ⟨rfl, rfl⟩
      rw [HI.out]
      go_wp2
      go_ret2
      exact ⟨_, rfl, World.ownsRow_nil _ _ _ _, HA.out, Turned.refl _ _⟩
    · have k1 : ¬ (rd : Int) = 0 := by omega
      have k2 : ((rd : Int) == 0) = false := by simp; omega
      by_cases hb : decide (q.length = 0 ∧ 0 < wr) = true
      · have he : Kp_rdE m q.length rd wr = 52 := by rw [Kp_rdE, if_neg hi, if_neg hr, if_pos hb]
        rw [he, if_neg (by decide), if_neg (by decide)]
        have HB := hide hb
        clear hi he hb
        go_enter Tryz.func313, Tryz.ntmps313
        go_wp2_with fail
        refine (isMade_is g true w h1).mono ?_
        rintro e w1 ⟨rfl, rfl⟩
        go_wp2_with fail
        refine (mayBeAsked_any m _).mono ?_
        rintro e w1 ⟨rfl, rfl⟩
        rw [HI.out]
        go_wp2_with fail
        refine (readWaits_is g R f q.length rd wr _ HP.out).mono ?_
        rintro e w1 ⟨rfl, rfl⟩
        rw [HB.out]
        go_wp2
        go_ret2
        exact ⟨_, rfl, World.ownsRow_nil _ _ _ _, HA.out, Turned.refl _ _⟩
      · have he : Kp_rdE m q.length rd wr = 0 := by rw [Kp_rdE, if_neg hi, if_neg hr, if_neg hb]
        rw [he, if_pos rfl, if_pos rfl]
        have HB : Hid (decide (q.length = 0 ∧ 0 < wr) = false) := hide (by simpa using hb)
        obtain ⟨L, hL⟩ : ∃ L, L = (q.take m).length := ⟨_, rfl⟩
        have HL := hide hL
        rw [← hL]
        clear hi he hb hL
        go_enter Tryz.func313, Tryz.ntmps313
        go_wp2_with fail
        refine (isMade_is g true w h1).mono ?_
        rintro e w1 ⟨rfl, rfl⟩
        go_wp2_with fail
        refine (mayBeAsked_any m _).mono ?_
        rintro e w1 ⟨rfl, rfl⟩
        rw [HI.out]
        go_wp2_with fail
        refine (readWaits_is g R f q.length rd wr _ HP.out).mono ?_
        rintro e w1 ⟨rfl, rfl⟩
        rw [HB.out]
        go_wp2_with fail
        refine (Kp_take_any g rd wr q m _ HA.out hm2).mono ?_
        rintro e w2 ⟨rfl, hown, hP2, hT⟩
        rw [← HL.out] at hown ⊢
        have HO := hide hown
        have HP2 := hide hP2
        clear hown hP2
        go_wp2
        go_ret2
        exact ⟨_, rfl, HO.out, HP2.out, hT⟩

set_option maxRecDepth 100000 in
set_option maxHeartbeats 1000000 in
theorem Kp_write_any (most : Int) (g : Nat) (q x : List UInt8) (a : Option Addr) (n cx : Nat) (rd wr : Nat) (w : World) (h : PipeAt w g q rd wr) (hx : Bys w (.slice a n cx) x) (hcx : x.length ≤ cx) (hxs : x.length ≤ 140737488351232) (hxg : 0 < x.length → (Value.slice a n cx).ownBlock ≠ some g) :
    Calls Tryz.prog 314 #[.pointer (some ⟨g, 0, none⟩), .slice a n cx, .int .i64 most] w fun e w' => e = .returned (.tuple #[.int .i64 (wrN x.length most q.length rd wr : Nat), .int .i64 (Kp_wrE x.length most q.length rd wr)]) ∧ PipeAt w' g (q ++ x.take (wrN x.length most q.length rd wr)) rd wr ∧ Turned (fun k => k = g) w w' := by
  have HA := hide h
  have hql := h.len
  obtain ⟨R, f, hP, hq⟩ := h
  have HP := hide hP
  clear hP hq
  obtain ⟨a1, c1, he1, -⟩ := bys_form hx
  obtain ⟨rfl, rfl, rfl⟩ : a = a1 ∧ n = x.length ∧ cx = c1 := by simpa using he1
  have HX := hide hx
  have HG := hide hxg
  clear hx he1 hxg
  unfold wrN Kp_wrE
  by_cases hr : refE x.length most rd wr = 0
  · obtain ⟨hl, hi, hw0, hr0⟩ := refE_zero hr
    obtain ⟨m, rfl, hm1, hm2⟩ := inN_nat hi
    rw [if_pos hr, if_pos hr]
    simp only [Int.toNat_natCast]
    have HR := hide hr
    clear hr hi
    by_cases hx0 : x.length = 0
    · obtain rfl : x = [] := List.length_eq_zero_iff.1 hx0
      rw [if_pos hx0]
      simp only [List.length_nil] at *
      go_enter Tryz.func314, Tryz.ntmps314
      go_wp2_with fail
      refine (refuses_is g R f q.length rd wr _ 0 _ m _ HP.out (by omega)).mono ?_
      rintro e w1 ⟨rfl, rfl⟩
      rw [HR.out]
      go_wp2
      go_ret2
      exact ⟨rfl, by simpa using HA.out, Turned.refl _ _⟩
    · rw [if_neg hx0]
      have k1 : ¬ (x.length : Int) = 0 := by omega
      have k2 : ((x.length : Int) == 0) = false := by rw [beq_eq_false_iff_ne]; omega
      obtain ⟨y, hy⟩ : ∃ y, y = fitN x.length m q.length := ⟨_, rfl⟩
      have hyl := fitN_le x.length m q.length
      by_cases hy0 : fitN x.length m q.length = 0
      · rw [if_pos hy0]
        rw [← hy] at hyl hy0 ⊢
        subst hy0
        have HY := hide hy
        clear hy hyl
        go_enter Tryz.func314, Tryz.ntmps314
        go_wp2_with fail
        refine (refuses_is g R f q.length rd wr _ x.length _ m _ HP.out hxs).mono ?_
        rintro e w1 ⟨rfl, rfl⟩
        rw [HR.out]
        go_wp2_with fail
        refine (fitting_is g R f q.length rd wr x.length m _ HP.out hl).mono ?_
        rintro e w1 ⟨rfl, rfl⟩
        rw [← HY.out]
        go_wp2
        go_ret2
        exact ⟨rfl, by simpa using HA.out, Turned.refl _ _⟩
      · rw [if_neg hy0]
        rw [← hy] at hyl hy0 ⊢
        have k3 : ¬ (y : Int) = 0 := by omega
        have k4 : ((y : Int) == 0) = false := by simp; omega
        have k5 : (y : Int) ≤ (cx : Int) := by omega
        obtain ⟨-, b, off, rfl, hbl, -⟩ := bys_block HX.out (by omega)
        have HXc : Hid (Bys w (.slice (some ⟨b, off, none⟩) y cx) (x.take y)) := hide (by simpa using bys_cut HX.out 0 y cx (by omega))
        have htl : (x.take y).length = y := by simp; omega
        have HTL := hide htl
        have hyf : q.length + y ≤ 4096 := by have := hyl.2 hql; omega
        have HY := hide hy
        clear hy hyl htl
        have HPut := hide (put_any g rd wr q (x.take y) (some ⟨b, off, none⟩) y cx w.drew (HA.out.keep (W' := w.drew) rfl) (HXc.out.below (Below.refl _ w).drew) (by rw [HTL.out]; omega) (by rw [HTL.out]; omega) (HG.out (by omega)) (by rw [HTL.out]; omega))
        go_enter Tryz.func314, Tryz.ntmps314
        go_wp2_with fail
        refine (refuses_is g R f q.length rd wr _ x.length _ m _ HP.out hxs).mono ?_
        rintro e w1 ⟨rfl, rfl⟩
        rw [HR.out]
        go_wp2_with fail
        refine (fitting_is g R f q.length rd wr x.length m _ HP.out hl).mono ?_
        rintro e w1 ⟨rfl, rfl⟩
        rw [← HY.out]
        go_wp2_with fail
        go_region_with (go_at_call 320; refine HPut.out.mono ?_; rintro e w' ⟨rfl, hP2, hT⟩; have HP2 := hide hP2; have HT := hide hT; clear hP2 hT)
        go_wp2
        go_ret2
        exact ⟨rfl, HP2.out, (Turned.of_below (S := fun k => k = g) (Below.refl _ _).drew).trans HT.out (fun _ _ e => e)⟩
  · rw [if_neg hr, if_neg hr]
    have HR := hide hr
    obtain ⟨y, hy⟩ : ∃ y, y = refE x.length most rd wr := ⟨_, rfl⟩
    rw [← hy] at hr ⊢
    have k1 : (y == 0) = false := by simpa using hr
    have HY := hide hy
    clear hy HR
    go_enter Tryz.func314, Tryz.ntmps314
    go_wp2_with fail
    refine (refuses_is g R f q.length rd wr _ x.length _ most _ HP.out hxs).mono ?_
    rintro e w1 ⟨rfl, rfl⟩
    rw [← HY.out]
    go_wp2
    go_ret2
    exact ⟨rfl, by simpa using HA.out, Turned.refl _ _⟩
end Go.Proofs.YtkkommomefmpgaaGreat

/- The reference's pipe: Join, Leave, Read, CanRead, CanWrite. -/
namespace Go.Proofs.YtkkommomefmpgaaGreat
open Go.RowKit

structure RP (W : World) (B t : Nat) (a : Option Addr) (c : Nat) (q : List UInt8) (rd wr : Nat) : Prop where
  blk : W.heap[t]? = some (.cells ([.slice a q.length c, .int .i64 rd, .int .i64 wr] : List Value).toArray 241 (0, 0))
  bys : Bys W (.slice a q.length c) q
  cap : q.length ≤ c
  lq : q.length ≤ 4096
  lr : rd ≤ 1024
  lw : wr ≤ 1024
  ad : (a = none ∧ c = 0 ∧ q = []) ∨ ∃ b off, a = some ⟨b, off, none⟩ ∧ b ≠ t ∧ B ≤ b ∧ b < W.heap.size
theorem RP.lt {W : World} {B t : Nat} {a : Option Addr} {c : Nat} {q : List UInt8} {rd wr : Nat} (h : RP W B t a c q rd wr) : t < W.heap.size := (Array.getElem?_eq_some_iff.1 h.blk).1
end Go.Proofs.YtkkommomefmpgaaGreat

/- The reference's pipe: Read. -/
namespace Go.Proofs.YtkkommomefmpgaaGreat
open Go.RowKit

end Go.Proofs.YtkkommomefmpgaaGreat

/- The reference's pipe: Write. -/
namespace Go.Proofs.YtkkommomefmpgaaGreat
open Go.RowKit

end Go.Proofs.YtkkommomefmpgaaGreat

/- Names, and lists of named bytes: what holds them; Named, has, CopyNamed. -/
namespace Go.Proofs.YtkkommomefmpgaaGreat
open Go.RowKit

def I64 (d : Int) : Prop := -9223372036854775808 ≤ d ∧ d ≤ 9223372036854775807
theorem I64.wf {d : Int} (h : I64 d) : (Lit.int .i64 d).wf = true := by
  simp only [Lit.wf, Bool.and_eq_true, decide_eq_true_eq]
  exact ⟨h.1, h.2⟩
abbrev Nm := ByteArray × List UInt8
def Nms (W : World) (v : Value) (l : List Nm) : Prop :=
  ∃ a c, v = .slice a l.length c ∧ l.length ≤ c ∧ (0 < l.length → ∃ b off, a = some ⟨b, off, none⟩ ∧ ∀ j (hj : j < l.length), ∃ va vc, W.cell? ⟨b, off + j * 2, none⟩ = some (.string l[j].1) ∧ W.cell? ⟨b, off + j * 2 + 1, none⟩ = some (.slice va l[j].2.length vc) ∧ Bys W (.slice va l[j].2.length vc) l[j].2 ∧ l[j].2.length ≤ vc ∧ l[j].1.size ≤ maxLen)
theorem Nms.form {W : World} {v : Value} {l : List Nm} (h : Nms W v l) : ∃ a c, v = .slice a l.length c := by
  obtain ⟨a, c, rfl, _⟩ := h
  exact ⟨a, c, rfl⟩
theorem Nms.below {W W' : World} {v : Value} {l : List Nm} (h : Nms W v l) (hB : Below W.heap.size W W') : Nms W' v l := by
  obtain ⟨a, c, rfl, hl, hc⟩ := h
  refine ⟨a, c, rfl, hl, fun h0 => ?_⟩
  obtain ⟨b, off, rfl, hd⟩ := hc h0
  refine ⟨b, off, rfl, fun j hj => ?_⟩
  obtain ⟨va, vc, h1, h2, h3, h4⟩ := hd j hj
  have hb := World.block_lt_of_cell? W _ h1
  exact ⟨va, vc, (hB.cell (p := ⟨b, off + j * 2, none⟩) hb).trans h1, (hB.cell (p := ⟨b, off + j * 2 + 1, none⟩) hb).trans h2, h3.below hB, h4⟩
theorem Nms.at {W : World} {a : Option Addr} {n c : Nat} {l : List Nm} (h : Nms W (.slice a n c) l) (j : Nat) (hj : j < l.length) :
    ∃ b off va vc, a = some ⟨b, off, none⟩ ∧ b < W.heap.size ∧ W.cell? ⟨b, off + j * 2, none⟩ = some (.string l[j].1) ∧ W.cell? ⟨b, off + j * 2 + 1, none⟩ = some (.slice va l[j].2.length vc) ∧ Bys W (.slice va l[j].2.length vc) l[j].2 ∧ l[j].2.length ≤ vc ∧ l[j].1.size ≤ maxLen := by
  obtain ⟨a', c', he, _, hc⟩ := h
  cases he
  obtain ⟨b, off, rfl, hd⟩ := hc (by omega)
  obtain ⟨va, vc, h1, h2, h3, h4⟩ := hd j hj
  exact ⟨b, off, va, vc, rfl, World.block_lt_of_cell? W _ h1, h1, h2, h3, h4⟩

def ncs {α : Type} : List (ByteArray × α) → List Value → List Value
  | p :: l, u :: us => .string p.1 :: u :: ncs l us
  | _, _ => []
theorem ncs_snoc {α : Type} : ∀ (l : List (ByteArray × α)) (us : List Value) (p : ByteArray × α) (u : Value), us.length = l.length → ncs (l ++ [p]) (us ++ [u]) = ncs l us ++ [.string p.1, u]
  | [], [], _, _, _ => rfl
  | q :: l, v :: us, p, u, h => by
    show .string q.1 :: v :: ncs (l ++ [p]) (us ++ [u]) = _
    rw [ncs_snoc l us p u (by simpa using h)]
    rfl
theorem ncs_get {α : Type} : ∀ (l : List (ByteArray × α)) (us : List Value) (j : Nat) (hj : j < l.length), us.length = l.length → (ncs l us)[j * 2]? = some (.string l[j].1) ∧ (ncs l us)[j * 2 + 1]? = us[j]?
  | q :: l, v :: us, 0, _, _ => ⟨rfl, rfl⟩
  | q :: l, v :: us, j + 1, hj, h => by
    have := ncs_get l us j (by simpa using hj) (by simpa using h)
    rw [show (j + 1) * 2 = j * 2 + 2 by omega]
    exact this

theorem Tryz.infoN : (Tryz.prog.info? 86).map (fun i => (i.zero, i.size, i.bytes)) = some (some (.agg #[.string ByteArray.empty, .slice none 0 0]), 2, 40) := by kernel_rfl
theorem run_append_named (w : World) (ty : TypeId) (base : Nat) (s : Value) (n : Nat) (xs : List Value) (g c : Nat) (nm : ByteArray) (u : Value) (hs : w.ownsRow base 86 2 s n xs) (hx0 : w.cell? ⟨g, 0, none⟩ = some (.string nm)) (hx1 : w.cell? ⟨g, 1, none⟩ = some u) (hu : u.oneCell' = true) (hn : (n + 1) * 40 ≤ 140737488355328) (hb : base ≤ w.heap.size) :
    ∃ s' w', (Builtin.append_ #[22, 22] ty #[s, .slice (some ⟨g, 0, none⟩) 1 c]).run Tryz.prog w = .ok s' w' ∧ Hid (w'.ownsRow base 86 2 s' (n + 1) (xs ++ [.string nm, u])) ∧ w.grownBy w' s.ownBlock ∧ (s'.ownBlock = s.ownBlock ∨ s'.ownBlock = some w.heap.size) := by
  refine (?_ : ∃ s' w', (Builtin.append_ #[22, 22] ty #[s, .slice (some ⟨g, 0, none⟩) 1 c]).run Tryz.prog w = .ok s' w' ∧ w'.ownsRow base 86 2 s' (n + 1) (xs ++ [.string nm, u]) ∧ w.grownBy w' s.ownBlock ∧ (s'.ownBlock = s.ownBlock ∨ s'.ownBlock = some w.heap.size))
  obtain ⟨i0, hi, hz0, hz1, hz2⟩ := info_parts Tryz.infoN
  obtain ⟨v', w', h1, h2, h3, _, h5⟩ := run_append_own_at (P := Tryz.prog) w base 22 ty 86 i0 (.agg #[.string ByteArray.empty, .slice none 0 0]) 2 40 Tryz.underlying22 hi hz0 hz1 hz2 rfl (by decide) s _ _ hs ⟨g, 0, none⟩ 1 c [.string nm, u] rfl (fun j v hj => by
    match j, hj with
    | 0, hj =>
      obtain rfl : Value.string nm = v := by simpa using hj
      have hadd : (⟨g, 0, none⟩ : Addr).add 0 = ⟨g, 0, none⟩ := by unfold Addr.add; split <;> simp_all
      rw [hadd]; exact hx0
    | 1, hj =>
      obtain rfl : u = v := by simpa using hj
      have hadd : (⟨g, 0, none⟩ : Addr).add 1 = ⟨g, 1, none⟩ := by unfold Addr.add; split <;> simp_all
      rw [hadd]; exact hx1) (by intro v hv; simp at hv; rcases hv with rfl | rfl; rfl; exact hu) (by unfold maxLen; omega) (by omega) hb
  exact ⟨v', w', h1, h2, h3, h5⟩
abbrev Tp := ByteArray × List (List UInt8)
def Tps (W : World) (v : Value) (l : List Tp) : Prop :=
  ∃ a c, v = .slice a l.length c ∧ l.length ≤ c ∧ (0 < l.length → ∃ b off, a = some ⟨b, off, none⟩ ∧ ∀ j (hj : j < l.length), ∃ va vc, W.cell? ⟨b, off + j * 2, none⟩ = some (.string l[j].1) ∧ W.cell? ⟨b, off + j * 2 + 1, none⟩ = some (.slice va l[j].2.length vc) ∧ Lns W (.slice va l[j].2.length vc) l[j].2 ∧ l[j].1.size ≤ maxLen)
theorem Tps.form {W : World} {v : Value} {l : List Tp} (h : Tps W v l) : ∃ a c, v = .slice a l.length c := by
  obtain ⟨a, c, rfl, _⟩ := h
  exact ⟨a, c, rfl⟩
theorem Tps.below {W W' : World} {v : Value} {l : List Tp} (h : Tps W v l) (hB : Below W.heap.size W W') : Tps W' v l := by
  obtain ⟨a, c, rfl, hl, hc⟩ := h
  refine ⟨a, c, rfl, hl, fun h0 => ?_⟩
  obtain ⟨b, off, rfl, hd⟩ := hc h0
  refine ⟨b, off, rfl, fun j hj => ?_⟩
  obtain ⟨va, vc, h1, h2, h3⟩ := hd j hj
  have hb := World.block_lt_of_cell? W _ h1
  exact ⟨va, vc, (hB.cell (p := ⟨b, off + j * 2, none⟩) hb).trans h1, (hB.cell (p := ⟨b, off + j * 2 + 1, none⟩) hb).trans h2, h3.1.below hB, h3.2⟩
theorem Tps.at {W : World} {a : Option Addr} {n c : Nat} {l : List Tp} (h : Tps W (.slice a n c) l) (j : Nat) (hj : j < l.length) :
    ∃ b off va vc, a = some ⟨b, off, none⟩ ∧ b < W.heap.size ∧ W.cell? ⟨b, off + j * 2, none⟩ = some (.string l[j].1) ∧ W.cell? ⟨b, off + j * 2 + 1, none⟩ = some (.slice va l[j].2.length vc) ∧ Lns W (.slice va l[j].2.length vc) l[j].2 ∧ l[j].1.size ≤ maxLen := by
  obtain ⟨a', c', he, _, hc⟩ := h
  cases he
  obtain ⟨b, off, rfl, hd⟩ := hc (by omega)
  obtain ⟨va, vc, h1, h2, h3⟩ := hd j hj
  exact ⟨b, off, va, vc, rfl, World.block_lt_of_cell? W _ h1, h1, h2, h3⟩
end Go.Proofs.YtkkommomefmpgaaGreat

/- Faults: what a fault that may be is, and what mayBe, may answer. -/
namespace Go.Proofs.YtkkommomefmpgaaGreat
open Go.RowKit

def fv (x : Int × Int) : Value := .agg #[.int .i64 x.1, .int .i64 x.2]
def may (x : Int × Int) : Bool := if x.1 = 1 then decide (1 ≤ x.2 ∧ x.2 ≤ 1048576) else decide (0 ≤ x.1 ∧ x.1 ≤ 3 ∧ x.2 = 0)

theorem may_one (n : Int) : may (1, n) = decide (1 ≤ n ∧ n ≤ 1048576) := by simp [may]
theorem may_else {k n : Int} (h : k ≠ 1) : may (k, n) = decide (0 ≤ k ∧ k ≤ 3 ∧ n = 0) := by simp [may, h]

set_option maxHeartbeats 1000000 in
theorem mayBe_any (k n : Int) (w : World) :
    Calls Tryz.prog 132 #[.agg #[.int .i64 k, .int .i64 n]] w fun e w' => e = .returned (.bool (may (k, n))) ∧ Below w.heap.size w w' := by
  by_cases h1 : k = 1
  · subst h1
    rw [may_one]
    go_enter Tryz.func132, Tryz.ntmps132
    go_wp2
    all_goals
      go_ret
      exact ⟨ret_bool (by first | (simp; done) | (simp; omega) | (simp_all; done)), (Below.refl _ _).alloc (Nat.le_refl _) _⟩
  · rw [may_else h1]
    by_cases h2 : 0 ≤ k
    · by_cases h3 : k ≤ 3
      · go_enter Tryz.func132, Tryz.ntmps132
        go_wp2
        all_goals
          go_ret
          exact ⟨ret_bool (by simp [h2, h3]; by_cases hn : n = 0 <;> simp [hn]), (Below.refl _ _).alloc (Nat.le_refl _) _⟩
      · go_enter Tryz.func132, Tryz.ntmps132
        go_wp2
        all_goals
          go_ret
          exact ⟨ret_bool (by simp; omega), (Below.refl _ _).alloc (Nat.le_refl _) _⟩
    · go_enter Tryz.func132, Tryz.ntmps132
      go_wp2
      all_goals
        go_ret
        exact ⟨ret_bool (by simp; omega), (Below.refl _ _).alloc (Nat.le_refl _) _⟩
set_option maxHeartbeats 1000000 in
theorem may_any (k n : Int) (w : World) :
    Calls Tryz.prog 125 #[.agg #[.int .i64 k, .int .i64 n]] w fun e w' => e = .returned (.bool (may (k, n))) ∧ Below w.heap.size w w' := by
  by_cases h1 : k = 1
  · subst h1
    rw [may_one]
    go_enter Tryz.func125, Tryz.ntmps125
    go_wp2
    all_goals
      go_ret
      exact ⟨ret_bool (by first | (simp; done) | (simp; omega) | (simp_all; done)), (Below.refl _ _).alloc (Nat.le_refl _) _⟩
  · rw [may_else h1]
    by_cases h2 : 0 ≤ k
    · by_cases h3 : k ≤ 3
      · go_enter Tryz.func125, Tryz.ntmps125
        go_wp2
        all_goals
          go_ret
          exact ⟨ret_bool (by simp [h2, h3]; by_cases hn : n = 0 <;> simp [hn]), (Below.refl _ _).alloc (Nat.le_refl _) _⟩
      · go_enter Tryz.func125, Tryz.ntmps125
        go_wp2
        all_goals
          go_ret
          exact ⟨ret_bool (by simp; omega), (Below.refl _ _).alloc (Nat.le_refl _) _⟩
    · go_enter Tryz.func125, Tryz.ntmps125
      go_wp2
      all_goals
        go_ret
        exact ⟨ret_bool (by simp; omega), (Below.refl _ _).alloc (Nat.le_refl _) _⟩
end Go.Proofs.YtkkommomefmpgaaGreat

/- Lists of faults in memory; CopyFaults, SameFaults, Clone, Check and the reference's Check, for any faults. -/
namespace Go.Proofs.YtkkommomefmpgaaGreat
open Go.RowKit

abbrev Fault := Int × Int
def fcs (l : List Fault) : List Value := l.flatMap fun x => [.int .i64 x.1, .int .i64 x.2]
def Flts (W : World) (v : Value) (l : List Fault) : Prop :=
  (v = .slice none 0 0 ∧ l = []) ∨ (∃ a cap, v = .slice (some a) 0 cap ∧ l = []) ∨
  ∃ b off cap, v = .slice (some ⟨b, off, none⟩) l.length cap ∧ 0 < l.length ∧ l.length ≤ cap ∧ ∀ j, j < l.length → W.cell? ⟨b, off + j * 2, none⟩ = some (.int .i64 (l.getD j (0, 0)).1) ∧ W.cell? ⟨b, off + j * 2 + 1, none⟩ = some (.int .i64 (l.getD j (0, 0)).2)

theorem fcs_length (l : List Fault) : (fcs l).length = l.length * 2 := by
  induction l with
  | nil => rfl
  | cons x r ih => simp only [fcs, List.flatMap_cons, List.length_append, List.length_cons, List.length_nil] at ih ⊢; omega
theorem fcs_even (l : List Fault) (j : Nat) (h : j < l.length) : (fcs l)[j * 2]? = some (.int .i64 (l.getD j (0, 0)).1) := by
  induction l generalizing j with
  | nil => simp at h
  | cons x r ih =>
    cases j with
    | zero => simp [fcs]
    | succ j =>
      have := ih j (by simpa using h)
      simp only [fcs, List.flatMap_cons] at this ⊢
      rw [show (j + 1) * 2 = j * 2 + 2 by omega]
      simpa using this
theorem fcs_odd (l : List Fault) (j : Nat) (h : j < l.length) : (fcs l)[j * 2 + 1]? = some (.int .i64 (l.getD j (0, 0)).2) := by
  induction l generalizing j with
  | nil => simp at h
  | cons x r ih =>
    cases j with
    | zero => simp [fcs]
    | succ j =>
      have := ih j (by simpa using h)
      simp only [fcs, List.flatMap_cons] at this ⊢
      rw [show (j + 1) * 2 + 1 = j * 2 + 1 + 2 by omega]
      simpa using this
theorem fcs_one (l : List Fault) : ∀ u ∈ fcs l, u.oneCell' = true := by
  intro u hu
  simp only [fcs, List.mem_flatMap, List.mem_cons, List.not_mem_nil, or_false] at hu
  obtain ⟨x, _, rfl | rfl⟩ := hu <;> rfl
theorem Flts.lift {W W' : World} {v : Value} {l : List Fault} (h : Flts W v l) (hB : ∀ k, v.ownBlock = some k → k < W.heap.size → W'.heap[k]? = W.heap[k]?) : Flts W' v l := by
  rcases h with h | h | ⟨b, off, cap, rfl, h0, hcap, hc⟩
  · exact .inl h
  · exact .inr (.inl h)
  · refine .inr (.inr ⟨b, off, cap, rfl, h0, hcap, fun j hj => ?_⟩)
    have h1 := World.block_lt_of_cell? W _ (hc j hj).1
    have h2 := hB b rfl h1
    exact ⟨(World.cell?_of_block (w := W) h2).trans (hc j hj).1, (World.cell?_of_block (w := W) h2).trans (hc j hj).2⟩
theorem Flts.below {W W' : World} {v : Value} {l : List Fault} (h : Flts W v l) (hB : Below W.heap.size W W') : Flts W' v l :=
  h.lift fun k _ hk => hB.block k hk
theorem Flts.of_owns {W : World} {base : Nat} {v : Value} {l : List Fault} (h : W.ownsRow base 211 2 v l.length (fcs l)) : Flts W v l := by
  rcases h.2 with ⟨rfl, h0⟩ | ⟨g, cap, cur, rfl, _, _, hcap, _⟩
  · exact .inl ⟨rfl, by simpa using h0⟩
  · by_cases hl : l.length = 0
    · exact .inr (.inl ⟨_, _, by rw [hl], List.length_eq_zero_iff.1 hl⟩)
    · refine .inr (.inr ⟨g, 0, cap, rfl, by omega, hcap, fun j hj => ?_⟩)
      rw [Nat.zero_add, h.cellAt (j * 2) (by omega), h.cellAt (j * 2 + 1) (by omega), fcs_even l j hj, fcs_odd l j hj]
      exact ⟨rfl, rfl⟩
theorem flts_form {W : World} {v : Value} {l : List Fault} (h : Flts W v l) : ∃ a1 c1, v = .slice a1 l.length c1 ∧ (0 < l.length → ∃ b off, a1 = some ⟨b, off, none⟩ ∧ ∀ j, j < l.length → W.cell? ⟨b, off + j * 2, none⟩ = some (.int .i64 (l.getD j (0, 0)).1) ∧ W.cell? ⟨b, off + j * 2 + 1, none⟩ = some (.int .i64 (l.getD j (0, 0)).2)) := by
  rcases h with ⟨rfl, rfl⟩ | ⟨a, cap, rfl, rfl⟩ | ⟨b, off, cap, rfl, h0, -, hc⟩
  · exact ⟨_, _, rfl, fun h => absurd h (by decide)⟩
  · exact ⟨_, _, rfl, fun h => absurd h (by decide)⟩
  · exact ⟨_, _, rfl, fun _ => ⟨b, off, rfl, hc⟩⟩
theorem flts_news {W : World} {b off : Nat} {l : List Fault} (hc : ∀ j, j < l.length → W.cell? ⟨b, off + j * 2, none⟩ = some (.int .i64 (l.getD j (0, 0)).1) ∧ W.cell? ⟨b, off + j * 2 + 1, none⟩ = some (.int .i64 (l.getD j (0, 0)).2)) :
    ∀ j u, (fcs l)[j]? = some u → W.cell? ((⟨b, off, none⟩ : Addr).add j) = some u := by
  intro j u hj
  have hjl : j < l.length * 2 := by have := (List.getElem?_eq_some_iff.1 hj).1; rwa [fcs_length] at this
  have hadd : (⟨b, off, none⟩ : Addr).add j = ⟨b, off + j, none⟩ := by unfold Addr.add; split <;> simp_all
  rw [hadd, ← hj]
  have hk : j / 2 < l.length := by omega
  rcases Nat.mod_two_eq_zero_or_one j with hm | hm
  · rw [show j = j / 2 * 2 by omega, fcs_even l _ hk, (hc _ hk).1]
  · rw [show j = j / 2 * 2 + 1 by omega, fcs_odd l _ hk, ← Nat.add_assoc, (hc _ hk).2]

theorem Tryz.infoF : (Tryz.prog.info? 211).map (fun i => (i.zero, i.size, i.bytes)) = some (some (.agg #[.int .i64 0, .int .i64 0]), 2, 16) := by kernel_rfl

set_option maxHeartbeats 1000000 in
theorem copyf_any (v : Value) (l : List Fault) (w : World) (h : Flts w v l) (hs : l.length * 16 ≤ 140737488351232) :
    Calls Tryz.prog 36 #[v] w fun e w' => ∃ v', e = .returned v' ∧ w'.ownsRow w.heap.size 211 2 v' l.length (fcs l) ∧ Below w.heap.size w w' := by
  obtain ⟨i0, hi, hz0, hz1, hz2⟩ := info_parts Tryz.infoF
  rcases h with ⟨rfl, rfl⟩ | ⟨a, cap, rfl, rfl⟩ | ⟨b, off, cap, rfl, h0, -, hc⟩
  · go_enter Tryz.func36, Tryz.ntmps36
    go_wp2_with (at_builtin; refine wpList_append_own_none rfl _ _ 24 rfl w.heap.size 211 i0 2 Tryz.underlying24 hi _ _ _ rfl (World.ownsRow_nil _ _ _ _) rfl ?_)
    go_ret
    exact ⟨_, rfl, World.ownsRow_nil _ _ _ _, Below.refl _ _⟩
  · go_enter Tryz.func36, Tryz.ntmps36
    go_wp2_with (at_builtin; refine wpList_append_own _ rfl _ _ 24 rfl w.heap.size 211 i0 (.agg #[.int .i64 0, .int .i64 0]) 2 16 Tryz.underlying24 hi hz0 hz1 hz2 rfl (by decide) _ _ _ rfl (World.ownsRow_nil _ _ _ _) a 0 cap [] rfl rfl (by simp) (by simp) (by decide) (by decide) (Nat.le_refl _) ?_; intro v' w1 hown hgrow hnil)
    go_ret
    exact ⟨v', rfl, hown, (Below.refl _ _).grown hgrow (Nat.le_refl _) (fun j e => by cases e)⟩
  · go_enter Tryz.func36, Tryz.ntmps36
    go_wp2_with (at_builtin; refine wpList_append_own _ rfl _ _ 24 rfl w.heap.size 211 i0 (.agg #[.int .i64 0, .int .i64 0]) 2 16 Tryz.underlying24 hi hz0 hz1 hz2 rfl (by decide) _ _ _ rfl (World.ownsRow_nil _ _ _ _) ⟨b, off, none⟩ l.length cap (fcs l) rfl (fcs_length l) (flts_news hc) (fcs_one l) (by unfold maxLen; omega) (by omega) (Nat.le_refl _) ?_; intro v' w1 hown hgrow hnil)
    go_ret
    exact ⟨v', rfl, by simpa using hown, (Below.refl _ _).grown hgrow (Nat.le_refl _) (fun j e => by cases e)⟩

set_option maxRecDepth 100000 in
set_option maxHeartbeats 1000000 in
theorem clone_any (v : Value) (l : List Fault) (w : World) (h : Flts w v l) (hs : l.length * 16 ≤ 140737488351232) :
    Calls Tryz.prog 124 #[v] w fun e w' => ∃ v', e = .returned v' ∧ w'.ownsRow w.heap.size 211 2 v' l.length (fcs l) ∧ Below w.heap.size w w' := by
  obtain ⟨i0, hi, hz0, hz1, hz2⟩ := info_parts Tryz.infoF
  rcases h with ⟨rfl, rfl⟩ | ⟨a, cap, rfl, rfl⟩ | ⟨b, off, cap, rfl, h0, -, hc⟩
  · have hnil : ∀ W, (binOp .eql 24 (.slice none 0 0) (.slice none 0 0)).run Tryz.prog W = .ok (.bool true) W := fun W => Lib.run_eql_slice_nil_nil W _ _ Tryz.underlying24
    go_enter Tryz.func124, Tryz.ntmps124
    go_wp2
    go_ret
    exact ⟨_, rfl, World.ownsRow_nil _ _ _ _, Below.refl _ _⟩
  · have hnil : ∀ W, (binOp .eql 24 (.slice (some a) 0 cap) (.slice none 0 0)).run Tryz.prog W = .ok (.bool false) W := fun W => Lib.run_eql_slice_some_nil W _ _ _ Tryz.underlying24
    go_enter Tryz.func124, Tryz.ntmps124
    go_wp2_with (at_builtin; refine wpList_append_own _ rfl _ _ 24 rfl w.heap.size 211 i0 (.agg #[.int .i64 0, .int .i64 0]) 2 16 Tryz.underlying24 hi hz0 hz1 hz2 rfl (by decide) _ _ _ rfl (World.ownsRow_made _ _ _ (Nat.le_refl _) (by decide) rfl) a 0 cap [] rfl rfl (by simp) (by simp) (by decide) (by decide) (by simp) ?_; intro v' w1 hown hgrow hnil)
    go_ret
    exact ⟨v', rfl, hown, ((Below.refl _ _).alloc (Nat.le_refl _) _).grown hgrow (by simp) (fun j e => by cases e; exact Nat.le_refl _)⟩
  · have hnil : ∀ W, (binOp .eql 24 (.slice (some ⟨b, off, none⟩) l.length cap) (.slice none 0 0)).run Tryz.prog W = .ok (.bool false) W := fun W => Lib.run_eql_slice_some_nil W _ _ _ Tryz.underlying24
    have hc' := flts_news hc
    have hc2 : ∀ (o : Obj) j u, (fcs l)[j]? = some u → (w.alloc o).cell? ((⟨b, off, none⟩ : Addr).add j) = some u := fun o j u hj => by
      have := hc' j u hj
      exact (World.cell?_of_block (w := w) (Below.heap_alloc w o _ (World.block_lt_of_cell? w _ this))).trans this
    have H2 := hide hc2
    clear hc hc' hc2
    go_enter Tryz.func124, Tryz.ntmps124
    go_wp2_with (at_builtin; refine wpList_append_own _ rfl _ _ 24 rfl w.heap.size 211 i0 (.agg #[.int .i64 0, .int .i64 0]) 2 16 Tryz.underlying24 hi hz0 hz1 hz2 rfl (by decide) _ _ _ rfl (World.ownsRow_made _ _ _ (Nat.le_refl _) (by decide) rfl) ⟨b, off, none⟩ l.length cap (fcs l) rfl (fcs_length l) (H2.out _) (fcs_one l) (by unfold maxLen; omega) (by omega) (by simp) ?_; intro v' w1 hown hgrow hnil)
    go_ret
    exact ⟨v', rfl, by simpa using hown, ((Below.refl _ _).alloc (Nat.le_refl _) _).grown hgrow (by simp) (fun j e => by cases e; exact Nat.le_refl _)⟩
end Go.Proofs.YtkkommomefmpgaaGreat

/- SameFaults and the reference's Check, for any faults. -/
namespace Go.Proofs.YtkkommomefmpgaaGreat
open Go.RowKit

end Go.Proofs.YtkkommomefmpgaaGreat

/- Check and the reference's Check, for any faults. -/
namespace Go.Proofs.YtkkommomefmpgaaGreat
open Go.RowKit

def fb (l : List Fault) : Nat := l.findIdx fun x => !may x
theorem fb_le (l : List Fault) : fb l ≤ l.length := List.findIdx_le_length
theorem fb_at {l : List Fault} {k : Nat} (hk : k < l.length) (ha : ∀ j, j < k → may (l.getD j (0, 0)) = true) (hb : may (l.getD k (0, 0)) = false) : fb l = k := by
  unfold fb
  refine (List.findIdx_eq hk).2 ⟨?_, fun j hj => ?_⟩
  · rw [List.getD_eq_getElem?_getD, List.getElem?_eq_getElem hk] at hb
    simpa using hb
  · have := ha j hj
    rw [List.getD_eq_getElem?_getD, List.getElem?_eq_getElem (by omega)] at this
    simpa using this
theorem fb_all {l : List Fault} (ha : ∀ j, j < l.length → may (l.getD j (0, 0)) = true) : fb l = l.length := by
  unfold fb
  refine List.findIdx_eq_length.2 fun x hx => ?_
  obtain ⟨j, hj, rfl⟩ := List.getElem_of_mem hx
  have := ha j hj
  rw [List.getD_eq_getElem?_getD, List.getElem?_eq_getElem hj] at this
  simpa using this
theorem fb_good {l : List Fault} (h : fb l = l.length) : ∀ j, j < l.length → may (l.getD j (0, 0)) = true := by
  intro j hj
  have := List.findIdx_eq_length.1 h l[j] (List.getElem_mem hj)
  rw [List.getD_eq_getElem?_getD, List.getElem?_eq_getElem hj]
  simpa using this
def chk (l : List Fault) : Int × Int := if 4096 < l.length then (3, 0) else if fb l < l.length then (21, (fb l : Int)) else (0, (l.length : Int))
theorem chk_long {l : List Fault} (h : 4096 < l.length) : chk l = (3, 0) := by simp [chk, h]
theorem chk_bad {l : List Fault} (h : ¬ 4096 < l.length) (hb : fb l < l.length) : chk l = (21, (fb l : Int)) := by simp [chk, h, hb]
theorem chk_good {l : List Fault} (h : ¬ 4096 < l.length) (hb : fb l = l.length) : chk l = (0, (l.length : Int)) := by simp [chk, h, hb]

set_option maxRecDepth 100000 in
set_option maxHeartbeats 1000000 in
theorem rcheck_any (v : Value) (l : List Fault) (w : World) (h : Flts w v l) (hs : l.length ≤ maxLen) :
    Calls Tryz.prog 43 #[v] w fun e w' => e = .returned (.tuple #[.int .i64 (chk l).1, .int .i64 (chk l).2]) ∧ Below w.heap.size w w' := by
  unfold maxLen at hs
  obtain ⟨a1, c1, rfl, hc⟩ := flts_form h
  have HC := hide hc
  clear hc h
  by_cases hlong : 4096 < l.length
  · rw [chk_long hlong]
    go_enter Tryz.func43, Tryz.ntmps43
    go_wp2
    go_ret2
    exact ⟨rfl, Below.refl _ _⟩
  · generalize hR : chk l = R
    have HR := hide hR
    clear hR
    go_enter Tryz.func43, Tryz.ntmps43
    go_wp2
    go_loopw [4] (fun i wr => ∃ (k : Nat), k ≤ l.length ∧ i = .int .i64 k ∧ (∀ j, j < k → may (l.getD j (0, 0)) = true) ∧ Below w.heap.size w wr) (fun i _ => l.length - (intOf i).toNat)
    case atStart => exact ⟨0, Nat.zero_le _, rfl, fun j hj => absurd hj (by omega), Below.refl _ _⟩
    case round =>
      obtain ⟨k, hk, rfl, ha, hB⟩ := hrel
      have HA := hide ha
      clear ha
      by_cases hlt : k < l.length
      · obtain ⟨b1, o1, rfl, hc1⟩ := HC.out (by omega)
        obtain ⟨g1, g2⟩ := hc1 k hlt
        have hb1 := World.block_lt_of_cell? w _ g1
        have e1 := (hB.cell (p := ⟨b1, o1 + k * 2, none⟩) hb1).trans g1
        have e2 := (hB.cell (p := ⟨b1, o1 + k * 2 + 1, none⟩) hb1).trans g2
        clear hc1 HC g1 g2
        have hk1 : (0 : Int) ≤ (k : Int) := by omega
        have hk2 : (k : Int) < (l.length : Int) := by omega
        have hmay : ∃ x y, l.getD k (0, 0) = (x, y) := ⟨_, _, rfl⟩
        obtain ⟨x, y, hxy⟩ := hmay
        rw [hxy] at e1 e2
        simp only at e1 e2
        have HX := hide hxy
        clear hxy
        go_wp2_with fail
        refine (may_any x y _).mono ?_
        rintro e w1 ⟨rfl, hB1⟩
        have hB2 := hB.trans (hB1.mono hB.size)
        by_cases hm : may (x, y) = true
        · rw [hm]
          go_wp2
          go_roundw
          case rel =>
            refine ⟨k + 1, by omega, by go_num, fun j hj => ?_, hB2⟩
            by_cases hjk : j < k
            · exact HA.out j hjk
            · rw [show j = k by omega, HX.out]; exact hm
          case measure => simp [intOf]; omega
        · have hm' : may (x, y) = false := by simpa using hm
          rw [hm']
          clear hm
          go_wp2
          go_ret2
          have hfb : fb l = k := fb_at hlt HA.out (by rw [HX.out]; exact hm')
          rw [← HR.out, chk_bad hlong (by omega), hfb]
          exact ⟨rfl, hB2⟩
      · go_wp2
        go_ret2
        have hfb : fb l = l.length := fb_all fun j hj => HA.out j (by omega)
        rw [← HR.out, chk_good hlong hfb]
        exact ⟨rfl, hB⟩
end Go.Proofs.YtkkommomefmpgaaGreat

/- Check of faults: the closure, first, Check. -/
namespace Go.Proofs.YtkkommomefmpgaaGreat
open Go.RowKit

theorem cell_new (w : World) (x : Value) (t : TypeId) : (w.alloc (Obj.cells #[x] t)).cell? ⟨w.heap.size, 0, none⟩ = some x := by
  simp only [World.cell?, heap_alloc_new]
  rfl
set_option maxRecDepth 100000 in
set_option maxHeartbeats 1000000 in
theorem check1_any (c b off cap len k : Nat) (x y : Int) (w : World) (h1 : w.cell? ⟨c, 0, none⟩ = some (.slice (some ⟨b, off, none⟩) len cap)) (hk : k < len)
    (h2 : w.cell? ⟨b, off + k * 2, none⟩ = some (.int .i64 x)) (h3 : w.cell? ⟨b, off + k * 2 + 1, none⟩ = some (.int .i64 y)) :
    Calls Tryz.prog 131 #[.int .i64 k, .pointer (some ⟨c, 0, none⟩)] w fun e w' => e = .returned (.bool (!may (x, y))) ∧ Below w.heap.size w w' := by
  have hk1 : (0 : Int) ≤ (k : Int) := by omega
  have hk2 : (k : Int) < (len : Int) := by omega
  go_enter Tryz.func131, Tryz.ntmps131
  go_wp2_with fail
  refine (mayBe_any x y _).mono ?_
  rintro e w1 ⟨rfl, hB1⟩
  go_wp2
  go_ret
  exact ⟨rfl, hB1⟩

set_option maxRecDepth 100000 in
set_option maxHeartbeats 1000000 in
theorem first_check (c : Nat) (a1 : Option Addr) (c1 : Nat) (l : List Fault) (w : World) (hs : l.length ≤ 9223372036854775807) (h1 : w.cell? ⟨c, 0, none⟩ = some (.slice a1 l.length c1))
    (HC : Hid (0 < l.length → ∃ b off, a1 = some ⟨b, off, none⟩ ∧ ∀ j, j < l.length → w.cell? ⟨b, off + j * 2, none⟩ = some (.int .i64 (l.getD j (0, 0)).1) ∧ w.cell? ⟨b, off + j * 2 + 1, none⟩ = some (.int .i64 (l.getD j (0, 0)).2))) :
    Calls Tryz.prog 130 #[.int .i64 l.length, .func (.func 131) #[] #[.pointer (some ⟨c, 0, none⟩)]] w fun e w' => e = .returned (.int .i64 (fb l)) ∧ Below w.heap.size w w' := by
  have hcw := World.block_lt_of_cell? w _ h1
  generalize hR : fb l = R
  have HR := hide hR
  clear hR
  go_enter Tryz.func130, Tryz.ntmps130
  go_wp2
  go_loopw [5, 7] (fun u5 i wr => ∃ (k : Nat), k ≤ l.length ∧ i = .int .i64 k ∧ (∀ j, j < k → may (l.getD j (0, 0)) = true) ∧ Below w.heap.size w wr) (fun _ i _ => l.length - (intOf i).toNat)
  case atStart => exact ⟨0, Nat.zero_le _, rfl, fun j hj => absurd hj (by omega), Below.refl _ _⟩
  case round =>
    obtain ⟨k, hk, rfl, ha, hB⟩ := hrel
    have HA := hide ha
    clear ha
    by_cases hlt : k < l.length
    · obtain ⟨b1, o1, rfl, hc1⟩ := HC.out (by omega)
      obtain ⟨g1, g2⟩ := hc1 k hlt
      have hb1 := World.block_lt_of_cell? w _ g1
      have e1 := (hB.cell (p := ⟨b1, o1 + k * 2, none⟩) hb1).trans g1
      have e2 := (hB.cell (p := ⟨b1, o1 + k * 2 + 1, none⟩) hb1).trans g2
      have e0 := (hB.cell (p := ⟨c, 0, none⟩) hcw).trans h1
      clear hc1 HC g1 g2 h1
      obtain ⟨x, y, hxy⟩ : ∃ x y, l.getD k (0, 0) = (x, y) := ⟨_, _, rfl⟩
      rw [hxy] at e1 e2
      simp only at e1 e2
      have HX := hide hxy
      clear hxy
      have hcl := check1_any c b1 o1 c1 l.length k x y _ e0 hlt e1 e2
      have HL := hide hcl
      clear hcl e0 e1 e2
      go_wp2_with fail
      refine HL.out.mono ?_
      rintro e w1 ⟨rfl, hB1⟩
      have hB2 := hB.trans (hB1.mono hB.size)
      by_cases hm : may (x, y) = true
      · rw [hm]
        go_wp2
        go_roundw
        case rel =>
          refine ⟨k + 1, by omega, by go_num, fun j hj => ?_, hB2⟩
          by_cases hjk : j < k
          · exact HA.out j hjk
          · rw [show j = k by omega, HX.out]; exact hm
        case measure => simp [intOf]; omega
      · have hm' : may (x, y) = false := by simpa using hm
        rw [hm']
        clear hm
        go_wp2
        go_ret
        have hfb : fb l = k := fb_at hlt HA.out (by rw [HX.out]; exact hm')
        rw [← HR.out, hfb]
        exact ⟨rfl, hB2⟩
    · go_wp2
      go_ret
      have hfb : fb l = l.length := fb_all fun j hj => HA.out j (by omega)
      rw [← HR.out, hfb]
      exact ⟨rfl, hB⟩

set_option maxRecDepth 100000 in
set_option maxHeartbeats 1000000 in
theorem Fa_check_any (v : Value) (l : List Fault) (w : World) (h : Flts w v l) (hs : l.length ≤ maxLen) :
    Calls Tryz.prog 46 #[v] w fun e w' => e = .returned (.tuple #[.int .i64 (chk l).1, .int .i64 (chk l).2]) ∧ Below w.heap.size w w' := by
  unfold maxLen at hs
  by_cases hlong : 4096 < l.length
  · obtain ⟨a1, c1, rfl, hc⟩ := flts_form h
    rw [chk_long hlong]
    clear hc h
    go_enter Tryz.func46, Tryz.ntmps46
    go_wp2
    go_ret2
    exact ⟨rfl, (Below.refl _ _).alloc (Nat.le_refl _) _⟩
  · obtain ⟨a1, c1, rfl, -⟩ := flts_form h
    have hc2 : ∀ o, Flts (w.alloc o) (.slice a1 l.length c1) l := fun o => h.below ((Below.refl _ _).alloc (Nat.le_refl _) _)
    have HC := hide hc2
    clear hc2 h
    have hle := fb_le l
    generalize hR : chk l = R
    have HR := hide hR
    clear hR
    go_enter Tryz.func46, Tryz.ntmps46
    go_wp2_with fail
    obtain ⟨a2, c2, heq, hf⟩ := flts_form (HC.out (Obj.cells #[Value.slice a1 l.length c1] 24))
    cases heq
    refine (first_check w.heap.size _ _ l _ (by omega) (cell_new _ _ _) (hide hf)).mono ?_
    clear hf HC
    rintro e w1 ⟨rfl, hB1⟩
    have hB2 := ((Below.refl w.heap.size w).alloc (Nat.le_refl _) (Obj.cells #[Value.slice a1 l.length c1] 24)).trans (hB1.mono (Nat.le_of_lt (size_new _ _)))
    have e0 : w1.cell? ⟨w.heap.size, 0, none⟩ = some (.slice a1 l.length c1) := (hB1.cell (p := ⟨w.heap.size, 0, none⟩) (size_new _ _)).trans (cell_new _ _ _)
    by_cases hb : fb l < l.length
    · go_wp2
      go_ret2
      rw [← HR.out, chk_bad hlong hb]
      exact ⟨rfl, hB2⟩
    · have hb' : fb l = l.length := by omega
      rw [hb']
      go_wp2
      go_quiet (fail)
      go_wp2
      go_ret2
      rw [← HR.out, chk_good hlong hb']
      exact ⟨rfl, below_drewN hB2 _⟩
end Go.Proofs.YtkkommomefmpgaaGreat

/- Plans: isMade, New, Next, Rest, Copy, the reference's Next. -/
namespace Go.Proofs.YtkkommomefmpgaaGreat
open Go.RowKit

structure PlanAt (W : World) (g : Nat) (v : Value) (l : List Fault) : Prop where
  made : W.cell? ⟨g, 0, none⟩ = some (.bool true)
  left : W.cell? ⟨g, 1, none⟩ = some v
  soft : W.frozen? ⟨g, 1, none⟩ = false
  list : Flts W v l
  apart : v.ownBlock ≠ some g
structure RPlanAt (W : World) (g : Nat) (v : Value) (l : List Fault) : Prop where
  left : W.cell? ⟨g, 0, none⟩ = some v
  soft : W.frozen? ⟨g, 0, none⟩ = false
  list : Flts W v l
  apart : v.ownBlock ≠ some g

def nxt (l : List Fault) (want : Int) : Int × Int :=
  if want < 1 ∨ 1048576 < want then (0, 4) else match l with
  | [] => (want, 0)
  | f :: _ => if f.1 = 1 then (min want f.2, 0) else if f.1 = 2 then (0, 22) else if f.1 = 3 then (0, 23) else (want, 0)
set_option maxHeartbeats 1000000 in
theorem Fa_isMade_yes (g : Nat) (w : World) (h : w.cell? ⟨g, 0, none⟩ = some (.bool true)) :
    Calls Tryz.prog 201 #[.pointer (some ⟨g, 0, none⟩)] w fun e w' => e = .returned (.bool true) ∧ w' = w := by
  go_enter Tryz.func201, Tryz.ntmps201
  go_wp2
  go_ret
  exact ⟨rfl, rfl⟩
set_option maxRecDepth 100000 in
set_option maxHeartbeats 1000000 in
theorem Fa_new_bad (v : Value) (l : List Fault) (w : World) (h : Flts w v l) (hs : l.length ≤ maxLen) (hc : (chk l).1 ≠ 0) :
    Calls Tryz.prog 39 #[v] w fun e w' => e = .returned (.tuple #[.pointer none, .int .i64 (chk l).1]) ∧ Below w.heap.size w w' := by
  have hk := Fa_check_any v l w h hs
  have HK := hide hk
  have hc' : ((chk l).1 == 0) = false := by simpa using hc
  generalize (chk l).1 = x at *
  generalize (chk l).2 = y at *
  clear hk h hs hc
  go_enter Tryz.func39, Tryz.ntmps39
  go_wp2_with fail
  refine HK.out.mono ?_
  rintro e w1 ⟨rfl, hB⟩
  go_wp2
  go_ret2
  exact ⟨rfl, hB⟩

set_option maxRecDepth 100000 in
set_option maxHeartbeats 1000000 in
theorem Fa_new_good (v : Value) (l : List Fault) (w : World) (h : Flts w v l) (hs : l.length * 16 ≤ 140737488351232) (hc : (chk l).1 = 0) :
    Calls Tryz.prog 39 #[v] w fun e w' => ∃ g v', e = .returned (.tuple #[.pointer (some ⟨g, 0, none⟩), .int .i64 0]) ∧ PlanAt w' g v' l ∧ w.heap.size ≤ g ∧ g < w'.heap.size ∧ (∀ k, v'.ownBlock = some k → w.heap.size ≤ k ∧ k < w'.heap.size) ∧ Below w.heap.size w w' := by
  have hk := Fa_check_any v l w h (by unfold maxLen; omega)
  rw [hc] at hk
  have HK := hide hk
  generalize (chk l).2 = y at *
  clear hk
  go_enter Tryz.func39, Tryz.ntmps39
  go_wp2_with fail
  refine HK.out.mono ?_
  rintro e w1 ⟨rfl, hB⟩
  have HF := hide (h.below hB)
  clear h HK
  go_wp2_with fail
  refine (clone_any v l w1 HF.out hs).mono ?_
  rintro e w2 ⟨v', rfl, hown, hB2⟩
  obtain ⟨a2, c2, rfl⟩ := owns_slice hown
  have HO := hide hown
  clear hown
  go_wp2
  go_ret2
  have hB3 := hB.trans (hB2.mono hB.size)
  have hl := HO.out.lt
  have hz := hB.size
  refine ⟨_, .slice a2 l.length c2, rfl, ⟨?_, ?_, ?_, ?_, ?_⟩, hB3.size, ?_, ?_, hB3.alloc hB3.size _⟩
  · simp only [World.cell?, heap_alloc_new]; rfl
  · simp only [World.cell?, heap_alloc_new]; rfl
  · simp only [World.frozen?, heap_alloc_new]; rfl
  · exact (Flts.of_owns HO.out).below ((Below.refl _ _).alloc (Nat.le_refl _) _)
  · intro he
    have := (hl _ he).2
    omega
  · exact size_new _ _
  · intro k hk
    have := hl k hk
    have := size_new w2 (Obj.cells #[Value.bool true, Value.slice a2 l.length c2] 213)
    omega

theorem PlanAt.form {W : World} {g : Nat} {v : Value} {l : List Fault} (h : PlanAt W g v l) : ∃ a c, v = .slice a l.length c := by
  obtain ⟨a, c, rfl, _⟩ := flts_form h.list
  exact ⟨a, c, rfl⟩
theorem PlanAt.keep {W W' : World} {g : Nat} {v : Value} {l : List Fault} (h : PlanAt W g v l) (hB : ∀ k, k < W.heap.size → k = g ∨ v.ownBlock = some k → W'.heap[k]? = W.heap[k]?) : PlanAt W' g v l := by
  have hg := World.block_lt_of_cell? W _ h.made
  have e := hB g hg (.inl rfl)
  exact ⟨(World.cell?_of_block (w := W) e).trans h.made, (World.cell?_of_block (w := W) e).trans h.left, (World.frozen?_of_block (w := W) e).trans h.soft, h.list.lift fun k hk hl => hB k hl (.inr hk), h.apart⟩
theorem RPlanAt.keep {W W' : World} {g : Nat} {v : Value} {l : List Fault} (h : RPlanAt W g v l) (hB : ∀ k, k < W.heap.size → k = g ∨ v.ownBlock = some k → W'.heap[k]? = W.heap[k]?) : RPlanAt W' g v l := by
  have hg := World.block_lt_of_cell? W _ h.left
  have e := hB g hg (.inl rfl)
  exact ⟨(World.cell?_of_block (w := W) e).trans h.left, (World.frozen?_of_block (w := W) e).trans h.soft, h.list.lift fun k hk hl => hB k hl (.inr hk), h.apart⟩
set_option maxRecDepth 100000 in
set_option maxHeartbeats 1000000 in
theorem next_end (g : Nat) (v : Value) (want : Int) (w : World) (h : PlanAt w g v []) (hw1 : 1 ≤ want) (hw2 : want ≤ 1048576) :
    Calls Tryz.prog 141 #[.pointer (some ⟨g, 0, none⟩), .int .i64 want] w fun e w' => e = .returned (.tuple #[.int .i64 want, .int .i64 0]) ∧ w' = w := by
  obtain ⟨a, c, rfl⟩ := h.form
  have h1 := h.made
  have h2 := h.left
  simp only [List.length_nil] at h2
  clear h
  go_enter Tryz.func141, Tryz.ntmps141
  go_wp2_with fail
  refine (Fa_isMade_yes g w h1).mono ?_
  rintro e w1 ⟨rfl, rfl⟩
  go_wp2
  go_ret2
  exact ⟨rfl, rfl⟩
theorem nxt_in {x y want : Int} {r : List Fault} (h1 : 1 ≤ want) (h2 : want ≤ 1048576) : nxt ((x, y) :: r) want = if x = 1 then (min want y, 0) else if x = 2 then (0, 22) else if x = 3 then (0, 23) else (want, 0) := by
  simp only [nxt]
  rw [if_neg (by omega)]

theorem plan_world {w : World} {g b off cap n : Nat} {f : Fault} {r : List Fault} {o : Obj} {v' : Value} (h : PlanAt w g (.slice (some ⟨b, off, none⟩) n cap) (f :: r)) (hn : n = r.length + 1) (hcap : n ≤ cap)
    (hv : v' = .slice (some ⟨b, off + 2, none⟩) r.length (cap - 1) ∨ v' = .slice (some ⟨b, off, none⟩) r.length 0 ∧ cap = 1) :
    PlanAt ((w.setCell ⟨g, 1, none⟩ v').alloc o) g v' r ∧ v'.ownBlock = some b ∧ w.grownBy ((w.setCell ⟨g, 1, none⟩ v').alloc o) (some g) := by
  have hne : g ≠ b := fun e => h.apart (by rw [e]; rfl)
  have hgl : g < w.heap.size := World.block_lt_of_cell? w _ h.made
  have hsz : (w.setCell ⟨g, 1, none⟩ v').heap.size = w.heap.size := by simp [World.setCell]
  have hal : ∀ k, k < w.heap.size → ((w.setCell ⟨g, 1, none⟩ v').alloc o).heap[k]? = (w.setCell ⟨g, 1, none⟩ v').heap[k]? := fun k hk => Below.heap_alloc _ _ _ (by rw [hsz]; exact hk)
  have hoth : ∀ k, k < w.heap.size → k ≠ g → ((w.setCell ⟨g, 1, none⟩ v').alloc o).heap[k]? = w.heap[k]? := fun k hk hkg => (hal k hk).trans (Below.heap_setCell _ _ _ _ hkg)
  have hob : v'.ownBlock = some b := by rcases hv with rfl | ⟨rfl, _⟩ <;> rfl
  refine ⟨⟨?_, ?_, ?_, ?_, by rw [hob]; intro e; exact hne (Option.some.inj e).symm⟩, hob, ⟨rfl, rfl, rfl, ?_, ?_⟩⟩
  · exact (World.cell?_of_block (hal g hgl)).trans ((World.cell?_setCell_other _ _ _ _ (by simp)).trans h.made)
  · exact (World.cell?_of_block (hal g hgl)).trans (World.cell?_setCell_same _ _ _ h.left)
  · exact (World.frozen?_of_block (hal g hgl)).trans ((World.frozen?_setCell _ _ _ _).trans h.soft)
  · rcases h.list with ⟨h0, _⟩ | ⟨a, c, h0, h1⟩ | ⟨b', off', cap', heq, h0, hc', hc⟩
    · cases h0
    · cases h1
    · cases heq
      rcases hv with rfl | ⟨rfl, h1⟩
      · by_cases hr : r.length = 0
        · exact .inr (.inl ⟨_, _, by rw [hr], List.length_eq_zero_iff.1 hr⟩)
        · refine .inr (.inr ⟨b, off + 2, cap - 1, rfl, by omega, by omega, fun j hj => ?_⟩)
          have hj' : j + 1 < (f :: r).length := by simp only [List.length_cons]; omega
          have hbl : b < w.heap.size := World.block_lt_of_cell? w _ (hc (j + 1) hj').1
          have e := hoth b hbl (Ne.symm hne)
          have e1 := (hc (j + 1) hj').1
          have e2 := (hc (j + 1) hj').2
          rw [List.getD_cons_succ] at e1 e2
          rw [show off + (j + 1) * 2 = off + 2 + j * 2 by omega] at e1 e2
          exact ⟨(World.cell?_of_block (w := w) e).trans e1, (World.cell?_of_block (w := w) e).trans e2⟩
      · have hr : r.length = 0 := by omega
        exact .inr (.inl ⟨_, _, by rw [hr], List.length_eq_zero_iff.1 hr⟩)
  · have := size_new (w.setCell ⟨g, 1, none⟩ v') o
    omega
  · intro k hk hkg
    exact hoth k hk fun e => hkg (by rw [e])

set_option maxRecDepth 100000 in
set_option maxHeartbeats 1000000 in
theorem next_some (g : Nat) (v : Value) (f : Fault) (r : List Fault) (want : Int) (w : World) (h : PlanAt w g v (f :: r)) (hw1 : 1 ≤ want) (hw2 : want ≤ 1048576) (hs : r.length < maxLen) :
    Calls Tryz.prog 141 #[.pointer (some ⟨g, 0, none⟩), .int .i64 want] w fun e w' => e = .returned (.tuple #[.int .i64 (nxt (f :: r) want).1, .int .i64 (nxt (f :: r) want).2]) ∧ ∃ v', PlanAt w' g v' r ∧ v'.ownBlock = v.ownBlock ∧ w.grownBy w' (some g) := by
  unfold maxLen at hs
  have h1 := h.made
  have h2 := h.left
  have h3 := h.soft
  rcases h.list with ⟨rfl, h0⟩ | ⟨a, cap, rfl, h0⟩ | ⟨b, off, cap, rfl, h0, hcap, hc⟩
  · cases h0
  · cases h0
  · have e1 := (hc 0 h0).1
    have e2 := (hc 0 h0).2
    simp only [Nat.zero_mul, Nat.add_zero, List.getD_cons_zero] at e1 e2
    obtain ⟨x, y⟩ := f
    simp only at e1 e2
    have hne : g ≠ b := fun e => h.apart (by rw [e]; rfl)
    simp only [List.length_cons] at h2 hcap
    have HC := hide hc
    have HP := hide h
    have hgl := World.block_lt_of_cell? w _ h1
    have h2' : ∀ o, (w.alloc o).cell? ⟨g, 1, none⟩ = some (.slice (some ⟨b, off, none⟩) (r.length + 1) cap) := fun o => (World.cell?_of_block (w := w) (Below.heap_alloc w o g hgl)).trans h2
    have h3' : ∀ o, (w.alloc o).frozen? ⟨g, 1, none⟩ = false := fun o => (World.frozen?_of_block (w := w) (Below.heap_alloc w o g hgl)).trans h3
    have hgn : w.heap.size ≠ g := by simp only at hgl; omega
    clear hc h h0 h3
    go_enter Tryz.func141, Tryz.ntmps141
    go_wp2_with fail
    refine (Fa_isMade_yes g w h1).mono ?_
    rintro e w1 ⟨rfl, rfl⟩
    go_wp2
    all_goals go_ret2
    all_goals refine ⟨ret2 (congrArg (Value.int .i64) ?_) (congrArg (Value.int .i64) ?_), _, plan_world HP.out (by simp) (by simp only [List.length_cons]; omega) (by first | exact .inl rfl | exact .inr ⟨rfl, by first | rfl | omega⟩)⟩
    all_goals clear HC HP
    all_goals rw [nxt_in hw1 hw2]
    all_goals simp_all
    all_goals omega
end Go.Proofs.YtkkommomefmpgaaGreat

/- A kernel by the page, as a value: what it is, and what calls answer and leave. No program. -/
namespace Go.Proofs.YtkkommomefmpgaaGreat
open Go.RowKit

theorem kempty_yes (s : ByteArray) (h : s.size = 0) : s.toList.isEmpty = true := by
  rw [ByteArray.toList_eq, List.isEmpty_iff, ← List.length_eq_zero_iff]; simpa using h
theorem kempty_no (s : ByteArray) (h : s.size ≠ 0) : s.toList.isEmpty = false := by
  rw [ByteArray.toList_eq, Bool.eq_false_iff, Ne, List.isEmpty_iff, ← List.length_eq_zero_iff]; simpa using h
def nameOk (s : ByteArray) : Bool := decide (0 < s.size) && (decide (s.size ≤ 64) && s.data.toList.all (fun c => decide (33 ≤ c.toNat) && decide (c.toNat ≤ 126)))

abbrev fbit (f m : Int) : Int := bits .and .i64 f m
def flagsOk (f : Int) : Bool := decide (0 ≤ f ∧ f ≤ 63) && (!(fbit f 3 == 0) && ((fbit f 20 == 0 || !(fbit f 2 == 0)) && (fbit f 32 == 0 || !(fbit f 8 == 0))))
def inNames (s : ByteArray) (ss : List ByteArray) : Bool := ss.any (fun x => x.data.toList == s.data.toList)
theorem bytes_ne {x s : ByteArray} (h : ¬ x = s) : ¬ x.data.toList = s.data.toList := fun e => h (Go.WideShapes.bytes_inj e)
theorem inNames_iff (s : ByteArray) (ss : List ByteArray) : inNames s ss = true ↔ s ∈ ss := by
  unfold inNames
  rw [List.any_eq_true]
  constructor
  · rintro ⟨x, hx, he⟩
    have : x = s := Go.WideShapes.bytes_inj (by simpa using he)
    rw [← this]; exact hx
  · intro h
    exact ⟨s, h, by simp⟩

def kfiles : List ByteArray → List Nm → Int × List ByteArray
  | ns, [] => (0, ns)
  | ns, (n, d) :: l => if nameOk n = false then (61, ns) else if inNames n ns = true then (6, ns) else if 1048576 < d.length then (5, ns) else kfiles (ns ++ [n]) l
def kterms : List ByteArray → List Tp → Int
  | _, [] => 0
  | ns, (n, ls) :: l => if nameOk n = false then 61 else if inNames n ns = true then 6 else if newE ls = 0 then kterms (ns ++ [n]) l else newE ls
def checkE (fs : List Nm) (ts : List Tp) (l : List Fault) : Int :=
  if 256 < fs.length + ts.length then 3 else if (kfiles [] fs).1 = 0 then (if kterms (kfiles [] fs).2 ts = 0 then (chk l).1 else kterms (kfiles [] fs).2 ts) else (kfiles [] fs).1
theorem drop_at {α : Type} (l : List α) (k : Nat) (h : k < l.length) : l.drop k = l[k] :: l.drop (k + 1) := List.drop_eq_getElem_cons h

inductive Ob where
  | file (b : List UInt8)
  | term (ls : List (List UInt8)) (scr : List UInt8)
  | pipe (q : List UInt8) (rd wt : Nat)
def Ob.kind : Ob → Int
  | .file _ => 1
  | .term _ _ => 2
  | .pipe _ _ _ => 3
def Ob.ok : Ob → Prop
  | .file b => b.length ≤ 1048576
  | .term ls scr => ls.length ≤ 256 ∧ (∀ j (hj : j < ls.length), ls[j].length ≤ 4096) ∧ scr.length ≤ 1048576
  | .pipe q rd wt => q.length ≤ 4096 ∧ rd ≤ 1024 ∧ wt ≤ 1024
structure Th where
  name : ByteArray
  ob : Ob
structure De where
  n : Nat
  th : Nat
  flags : Int
  pos : Nat
  held : Nat
structure KS where
  th : List Th
  nm : List Nat
  de : List De
  next : Nat
  plan : List Fault
  reads : Nat
  writes : Nat
def KS.find (K : KS) (d : Int) : Option De := K.de.find? (fun x => decide ((x.n : Int) = d))

def planOk (l : List Fault) : Prop := l.length ≤ 4096 ∧ ∀ f ∈ l, f.1 = 1 → 1 ≤ f.2 ∧ f.2 ≤ 1048576
theorem planOk.tail {l : List Fault} (h : planOk l) : planOk l.tail := ⟨by have := h.1; simp; omega, fun f hf => h.2 f (List.mem_of_mem_tail hf)⟩
theorem nxt_good {l : List Fault} {want : Int} (h : planOk l) (h1 : 1 ≤ want) (h2 : want ≤ 1048576) (he : (nxt l want).2 = 0) : 1 ≤ (nxt l want).1 ∧ (nxt l want).1 ≤ want := by
  unfold nxt at he ⊢
  rw [if_neg (by omega)] at he ⊢
  cases l with
  | nil => simp; omega
  | cons f r =>
    simp only at he ⊢
    by_cases e1 : f.1 = 1
    · have := h.2 f (by simp) e1
      rw [if_pos e1]
      simp only
      omega
    · rw [if_neg e1] at he ⊢
      by_cases e2 : f.1 = 2
      · rw [if_pos e2] at he; simp at he
      · rw [if_neg e2] at he ⊢
        by_cases e3 : f.1 = 3
        · rw [if_pos e3] at he; simp at he
        · rw [if_neg e3] at he ⊢
          simp only
          omega
structure KOk (K : KS) : Prop where
  few : K.de.length ≤ 256
  named : K.nm.length ≤ 256
  th : ∀ d ∈ K.de, d.th < K.th.length
  nm : ∀ i ∈ K.nm, i < K.th.length
  num : ∀ d ∈ K.de, 1 ≤ d.n ∧ d.n < K.next
  once : ∀ d ∈ K.de, ∀ d' ∈ K.de, d.n = d'.n → d = d'
  flags : ∀ d ∈ K.de, flagsOk d.flags = true
  pos : ∀ d ∈ K.de, d.pos ≤ 1048576
  held : ∀ d ∈ K.de, 1 ≤ d.held ∧ d.held ≤ 1024
  plan : planOk K.plan
theorem KS.find_some {K : KS} {d : Int} {x : De} (h : K.find d = some x) : x ∈ K.de ∧ (x.n : Int) = d := by
  unfold KS.find at h
  exact ⟨List.mem_of_find?_eq_some h, by simpa using List.find?_some h⟩
def KS.tho (K : KS) (x : De) : Ob := (K.th[x.th]?.map Th.ob).getD (.file [])
theorem KS.tho_eq {K : KS} {x : De} (h : x.th < K.th.length) : K.tho x = K.th[x.th].ob := by simp [KS.tho, h]
def KS.kindOf (K : KS) (d : Int) : Int := match K.find d with | none => 0 | some x => (K.tho x).kind
def KS.canRead (K : KS) (d : Int) : Bool := match K.find d with
  | none => false
  | some x => !(fbit x.flags 1 == 0) && (match K.tho x with | .pipe q rd wt => canR q.length rd wt | _ => true)
def KS.setDe (K : KS) (x : De) : KS := { K with de := K.de.map fun y => if y.n = x.n then x else y }
theorem mem_setDe {K : KS} {x y : De} (h : y ∈ (K.setDe x).de) : y = x ∨ (y ∈ K.de ∧ y.n ≠ x.n) := by
  obtain ⟨z, hz, he⟩ := List.mem_map.1 h
  by_cases e : z.n = x.n
  · rw [if_pos e] at he; exact .inl he.symm
  · rw [if_neg e] at he; subst he; exact .inr ⟨hz, e⟩
theorem setDe_ns {K : KS} {x : De} (f : Nat → Value) : (K.setDe x).de.map (fun d => f d.n) = K.de.map fun d => f d.n := by
  unfold KS.setDe
  simp only [List.map_map]
  apply List.map_congr_left
  intro y _
  simp only [Function.comp]
  split
  · rename_i e; rw [e]
  · rfl
theorem KOk.setDe {K : KS} (h : KOk K) {x x' : De} (hx : x ∈ K.de) (hn : x'.n = x.n) (ht : x'.th = x.th) (hf : x'.flags = x.flags) (hp : x'.pos ≤ 1048576) (hh : 1 ≤ x'.held ∧ x'.held ≤ 1024) : KOk (K.setDe x') := by
  have el : ∀ y ∈ (K.setDe x').de, y = x' ∨ (y ∈ K.de ∧ y.n ≠ x'.n) := fun y hy => mem_setDe hy
  refine ⟨by simpa [KS.setDe] using h.few, h.named, fun y hy => ?_, h.nm, fun y hy => ?_, fun y hy z hz e => ?_, fun y hy => ?_, fun y hy => ?_, fun y hy => ?_, h.plan⟩
  · rcases el y hy with rfl | ⟨h1, _⟩
    · rw [ht]; exact h.th x hx
    · exact h.th y h1
  · rcases el y hy with rfl | ⟨h1, _⟩
    · rw [hn]; exact h.num x hx
    · exact h.num y h1
  · rcases el y hy with rfl | ⟨h1, h2⟩
    · rcases el z hz with rfl | ⟨h3, h4⟩
      · rfl
      · exact absurd e.symm h4
    · rcases el z hz with rfl | ⟨h3, h4⟩
      · exact absurd e h2
      · exact h.once y h1 z h3 e
  · rcases el y hy with rfl | ⟨h1, _⟩
    · rw [hf]; exact h.flags x hx
    · exact h.flags y h1
  · rcases el y hy with rfl | ⟨h1, _⟩
    · exact hp
    · exact h.pos y h1
  · rcases el y hy with rfl | ⟨h1, _⟩
    · exact hh
    · exact h.held y h1
def KS.setOb (K : KS) (i : Nat) (ob : Ob) : KS := { K with th := K.th.modify i fun t => { t with ob := ob } }
theorem setOb_len (K : KS) (i : Nat) (ob : Ob) : (K.setOb i ob).th.length = K.th.length := by simp [KS.setOb]
theorem setOb_same {K : KS} {i : Nat} {ob : Ob} (h : i < (K.setOb i ob).th.length) (h' : i < K.th.length) : (K.setOb i ob).th[i] = { K.th[i] with ob := ob } := by simp [KS.setOb]
theorem setOb_other {K : KS} {i j : Nat} {ob : Ob} (hne : j ≠ i) (h : j < (K.setOb i ob).th.length) (h' : j < K.th.length) : (K.setOb i ob).th[j] = K.th[j] := by simp [KS.setOb, Ne.symm hne]
def Ob.waits : Ob → Bool
  | .pipe q rd wt => !canR q.length rd wt
  | _ => false
def KS.readUp (K : KS) : KS := { K with reads := K.reads + 1, plan := K.plan.tail }
def KS.read (K : KS) (d n : Int) : List UInt8 × Int × KS :=
  match K.find d with
  | none => ([], 64, K)
  | some x =>
    if fbit x.flags 1 = 0 then ([], 65, K) else if n < 0 ∨ 1048576 < n then ([], 4, K) else if n = 0 then ([], 0, K) else if (K.tho x).waits = true then ([], 52, K)
    else if (nxt K.plan n).2 = 0 then
      match K.tho x with
      | .file b => (piece b x.pos (nxt K.plan n).1.toNat, 0, K.readUp.setDe { x with pos := x.pos + (piece b x.pos (nxt K.plan n).1.toNat).length })
      | .term ls scr => (rdH ls (nxt K.plan n).1, Te_rdE (nxt K.plan n).1, K.readUp.setOb x.th (.term (rdR ls (nxt K.plan n).1) scr))
      | .pipe q rd wt => (rdB (nxt K.plan n).1 q rd wt, Kp_rdE (nxt K.plan n).1 q.length rd wt, K.readUp.setOb x.th (.pipe (rdQ (nxt K.plan n).1 q rd wt) rd wt))
    else ([], (nxt K.plan n).2, K.readUp)
def KS.seek (K : KS) (d off wh : Int) : Int × Int × KS :=
  match K.find d with
  | none => (0, 64, K)
  | some x => match K.tho x with
    | .file b => if wh < 0 ∨ 2 < wh then (0, 1, K) else
        if 0 ≤ (if wh = 1 then (x.pos : Int) else if wh = 2 then (b.length : Int) else 0) + off ∧ (if wh = 1 then (x.pos : Int) else if wh = 2 then (b.length : Int) else 0) + off ≤ 1048576 then
          ((if wh = 1 then (x.pos : Int) else if wh = 2 then (b.length : Int) else 0) + off, 0, K.setDe { x with pos := ((if wh = 1 then (x.pos : Int) else if wh = 2 then (b.length : Int) else 0) + off).toNat })
        else (0, 4, K)
    | _ => (0, 66, K)
end Go.Proofs.YtkkommomefmpgaaGreat

/- What the proof stands on, part 5: the contracts of the program's calls that it reaches. -/
import Derived.Test.YtdmkjbdlidadiaaGreatKP4
import Derived.Deep.RegionLaw
/- What Read and Write of a pipe answer, and what they leave. -/
namespace Go.Proofs.YtdmkjbdlidadiaaGreat
open Go.RowKit

def Kp_rdE (n : Int) (c rd wr : Nat) : Int := if inN n = false then 4 else if rd = 0 then 51 else if decide (c = 0 ∧ 0 < wr) = true then 52 else 0
def rdB (n : Int) (q : List UInt8) (rd wr : Nat) : List UInt8 := if Kp_rdE n q.length rd wr = 0 then q.take n.toNat else []
def rdQ (n : Int) (q : List UInt8) (rd wr : Nat) : List UInt8 := if Kp_rdE n q.length rd wr = 0 then q.drop n.toNat else q
def Kp_wrE (n : Nat) (most : Int) (c rd wr : Nat) : Int := if refE n most rd wr = 0 then (if n = 0 then 0 else if fitN n most.toNat c = 0 then 52 else 0) else refE n most rd wr
def wrN (n : Nat) (most : Int) (c rd wr : Nat) : Nat := if refE n most rd wr = 0 then fitN n most.toNat c else 0
theorem wrN_le (n : Nat) (most : Int) (c rd wr : Nat) : wrN n most c rd wr ≤ n ∧ (c ≤ 4096 → c + wrN n most c rd wr ≤ 4096) := by
  unfold wrN
  split
  · exact fitN_le _ _ _
  · exact ⟨Nat.zero_le _, fun h => by omega⟩
theorem refE_zero {n : Nat} {most : Int} {rd wr : Nat} (h : refE n most rd wr = 0) : n ≤ 1048576 ∧ inN most = true ∧ 0 < wr ∧ 0 < rd := by
  unfold refE at h
  split at h
  · simp at h
  · split at h
    · simp at h
    · split at h
      · simp at h
      · split at h
        · simp at h
        · rename_i h1 h2 h3 h4
          exact ⟨by omega, by simpa using h2, by omega, by omega⟩

set_option maxRecDepth 100000 in
set_option maxHeartbeats 1000000 in
theorem Kp_read_any (n : Int) (g : Nat) (q : List UInt8) (rd wr : Nat) (w : World) (h : PipeAt w g q rd wr) :
    Calls Tryz.prog 339 #[.pointer (some ⟨g, 0, none⟩), .int .i64 n] w fun e w' => ∃ v, e = .returned (.tuple #[v, .int .i64 (Kp_rdE n q.length rd wr)]) ∧ w'.ownsRow w.heap.size 5 1 v (rdB n q rd wr).length ((rdB n q rd wr).map bv) ∧ PipeAt w' g (rdQ n q rd wr) rd wr ∧ Turned (fun k => k = g) w w' := by
  have HA := hide h
  obtain ⟨R, f, hP, hq⟩ := h
  have HP := hide hP
  have h1 := hP.c0
  have h2 := hP.cr
  clear hP hq
  unfold rdB rdQ
  by_cases hi : inN n = false
  · have he : Kp_rdE n q.length rd wr = 4 := by rw [Kp_rdE, if_pos hi]
    rw [he, if_neg (by decide), if_neg (by decide)]
    have HI := hide hi
    clear hi he
    go_enter Tryz.func339, Tryz.ntmps339
    go_wp2_with fail
    refine (isMade_is g true w h1).mono ?_
    rintro e w1 ⟨rfl, rfl⟩
    go_wp2_with fail
    refine (mayBeAsked_any n _).mono ?_
    rintro e w1 ⟨rfl, rfl⟩
    rw [HI.out]
    go_wp2
    go_ret2
    exact ⟨_, rfl, World.ownsRow_nil _ _ _ _, HA.out, Turned.refl _ _⟩
  · have hi' : inN n = true := by simpa using hi
    obtain ⟨m, rfl, hm1, hm2⟩ := inN_nat hi'
    have HI := hide hi'
    clear hi'
    simp only [Int.toNat_natCast]
    by_cases hr : rd = 0
    · subst hr
      have he : Kp_rdE m q.length 0 wr = 51 := by rw [Kp_rdE, if_neg hi, if_pos rfl]
      rw [he, if_neg (by decide), if_neg (by decide)]
      clear hi he
      go_enter Tryz.func339, Tryz.ntmps339
      go_wp2_with fail
      refine (isMade_is g true w h1).mono ?_
      rintro e w1 ⟨rfl, rfl⟩
      go_wp2_with fail
      refine (mayBeAsked_any m _).mono ?_
      rintro e w1 ⟨rfl, rfl⟩
      rw [HI.out]
      go_wp2
      go_ret2
      exact ⟨_, rfl, World.ownsRow_nil _ _ _ _, HA.out, Turned.refl _ _⟩
    · have k1 : ¬ (rd : Int) = 0 := by omega
      have k2 : ((rd : Int) == 0) = false := by simp; omega
      by_cases hb : decide (q.length = 0 ∧ 0 < wr) = true
      · have he : Kp_rdE m q.length rd wr = 52 := by rw [Kp_rdE, if_neg hi, if_neg hr, if_pos hb]
        rw [he, if_neg (by decide), if_neg (by decide)]
        have HB := hide hb
        clear hi he hb
        go_enter Tryz.func339, Tryz.ntmps339
        go_wp2_with fail
        refine (isMade_is g true w h1).mono ?_
        rintro e w1 ⟨rfl, rfl⟩
        go_wp2_with fail
        refine (mayBeAsked_any m _).mono ?_
        rintro e w1 ⟨rfl, rfl⟩
        rw [HI.out]
        go_wp2_with fail
        refine (readWaits_is g R f q.length rd wr _ HP.out).mono ?_
        rintro e w1 ⟨rfl, rfl⟩
        rw [HB.out]
        go_wp2
        go_ret2
        exact ⟨_, rfl, World.ownsRow_nil _ _ _ _, HA.out, Turned.refl _ _⟩
      · have he : Kp_rdE m q.length rd wr = 0 := by rw [Kp_rdE, if_neg hi, if_neg hr, if_neg hb]
        rw [he, if_pos rfl, if_pos rfl]
        have HB : Hid (decide (q.length = 0 ∧ 0 < wr) = false) := hide (by simpa using hb)
        obtain ⟨L, hL⟩ : ∃ L, L = (q.take m).length := ⟨_, rfl⟩
        have HL := hide hL
        rw [← hL]
        clear hi he hb hL
        go_enter Tryz.func339, Tryz.ntmps339
        go_wp2_with fail
        refine (isMade_is g true w h1).mono ?_
        rintro e w1 ⟨rfl, rfl⟩
        go_wp2_with fail
        refine (mayBeAsked_any m _).mono ?_
        rintro e w1 ⟨rfl, rfl⟩
        rw [HI.out]
        go_wp2_with fail
        refine (readWaits_is g R f q.length rd wr _ HP.out).mono ?_
        rintro e w1 ⟨rfl, rfl⟩
        rw [HB.out]
        go_wp2_with fail
        refine (Kp_take_any g rd wr q m _ HA.out hm2).mono ?_
        rintro e w2 ⟨rfl, hown, hP2, hT⟩
        rw [← HL.out] at hown ⊢
        have HO := hide hown
        have HP2 := hide hP2
        clear hown hP2
        go_wp2
        go_ret2
        exact ⟨_, rfl, HO.out, HP2.out, hT⟩

set_option maxRecDepth 100000 in
set_option maxHeartbeats 1000000 in
theorem Kp_write_any (most : Int) (g : Nat) (q x : List UInt8) (a : Option Addr) (n cx : Nat) (rd wr : Nat) (w : World) (h : PipeAt w g q rd wr) (hx : Bys w (.slice a n cx) x) (hcx : x.length ≤ cx) (hxs : x.length ≤ 140737488351232) (hxg : 0 < x.length → (Value.slice a n cx).ownBlock ≠ some g) :
    Calls Tryz.prog 340 #[.pointer (some ⟨g, 0, none⟩), .slice a n cx, .int .i64 most] w fun e w' => e = .returned (.tuple #[.int .i64 (wrN x.length most q.length rd wr : Nat), .int .i64 (Kp_wrE x.length most q.length rd wr)]) ∧ PipeAt w' g (q ++ x.take (wrN x.length most q.length rd wr)) rd wr ∧ Turned (fun k => k = g) w w' := by
  have HA := hide h
  have hql := h.len
  obtain ⟨R, f, hP, hq⟩ := h
  have HP := hide hP
  clear hP hq
  obtain ⟨a1, c1, he1, -⟩ := bys_form hx
  obtain ⟨rfl, rfl, rfl⟩ : a = a1 ∧ n = x.length ∧ cx = c1 := by simpa using he1
  have HX := hide hx
  have HG := hide hxg
  clear hx he1 hxg
  unfold wrN Kp_wrE
  by_cases hr : refE x.length most rd wr = 0
  · obtain ⟨hl, hi, hw0, hr0⟩ := refE_zero hr
    obtain ⟨m, rfl, hm1, hm2⟩ := inN_nat hi
    rw [if_pos hr, if_pos hr]
    simp only [Int.toNat_natCast]
    have HR := hide hr
    clear hr hi
    by_cases hx0 : x.length = 0
    · obtain rfl : x = [] := List.length_eq_zero_iff.1 hx0
      rw [if_pos hx0]
      simp only [List.length_nil] at *
      go_enter Tryz.func340, Tryz.ntmps340
      go_wp2_with fail
      refine (refuses_is g R f q.length rd wr _ 0 _ m _ HP.out (by omega)).mono ?_
      rintro e w1 ⟨rfl, rfl⟩
      rw [HR.out]
      go_wp2
      go_ret2
      exact ⟨rfl, by simpa using HA.out, Turned.refl _ _⟩
    · rw [if_neg hx0]
      have k1 : ¬ (x.length : Int) = 0 := by omega
      have k2 : ((x.length : Int) == 0) = false := by rw [beq_eq_false_iff_ne]; omega
      obtain ⟨y, hy⟩ : ∃ y, y = fitN x.length m q.length := ⟨_, rfl⟩
      have hyl := fitN_le x.length m q.length
      by_cases hy0 : fitN x.length m q.length = 0
      · rw [if_pos hy0]
        rw [← hy] at hyl hy0 ⊢
        subst hy0
        have HY := hide hy
        clear hy hyl
        go_enter Tryz.func340, Tryz.ntmps340
        go_wp2_with fail
        refine (refuses_is g R f q.length rd wr _ x.length _ m _ HP.out hxs).mono ?_
        rintro e w1 ⟨rfl, rfl⟩
        rw [HR.out]
        go_wp2_with fail
        refine (fitting_is g R f q.length rd wr x.length m _ HP.out hl).mono ?_
        rintro e w1 ⟨rfl, rfl⟩
        rw [← HY.out]
        go_wp2
        go_ret2
        exact ⟨rfl, by simpa using HA.out, Turned.refl _ _⟩
      · rw [if_neg hy0]
        rw [← hy] at hyl hy0 ⊢
        have k3 : ¬ (y : Int) = 0 := by omega
        have k4 : ((y : Int) == 0) = false := by simp; omega
        have k5 : (y : Int) ≤ (cx : Int) := by omega
        obtain ⟨-, b, off, rfl, hbl, -⟩ := bys_block HX.out (by omega)
        have HXc : Hid (Bys w (.slice (some ⟨b, off, none⟩) y cx) (x.take y)) := hide (by simpa using bys_cut HX.out 0 y cx (by omega))
        have htl : (x.take y).length = y := by simp; omega
        have HTL := hide htl
        have hyf : q.length + y ≤ 4096 := by have := hyl.2 hql; omega
        have HY := hide hy
        clear hy hyl htl
        have HPut := hide (put_any g rd wr q (x.take y) (some ⟨b, off, none⟩) y cx w.drew (HA.out.keep (W' := w.drew) rfl) (HXc.out.below (Below.refl _ w).drew) (by rw [HTL.out]; omega) (by rw [HTL.out]; omega) (HG.out (by omega)) (by rw [HTL.out]; omega))
        go_enter Tryz.func340, Tryz.ntmps340
        go_wp2_with fail
        refine (refuses_is g R f q.length rd wr _ x.length _ m _ HP.out hxs).mono ?_
        rintro e w1 ⟨rfl, rfl⟩
        rw [HR.out]
        go_wp2_with fail
        refine (fitting_is g R f q.length rd wr x.length m _ HP.out hl).mono ?_
        rintro e w1 ⟨rfl, rfl⟩
        rw [← HY.out]
        go_wp2_with fail
        go_region_with (go_at_call 346; refine HPut.out.mono ?_; rintro e w' ⟨rfl, hP2, hT⟩; have HP2 := hide hP2; have HT := hide hT; clear hP2 hT)
        go_wp2
        go_ret2
        exact ⟨rfl, HP2.out, (Turned.of_below (S := fun k => k = g) (Below.refl _ _).drew).trans HT.out (fun _ _ e => e)⟩
  · rw [if_neg hr, if_neg hr]
    have HR := hide hr
    obtain ⟨y, hy⟩ : ∃ y, y = refE x.length most rd wr := ⟨_, rfl⟩
    rw [← hy] at hr ⊢
    have k1 : (y == 0) = false := by simpa using hr
    have HY := hide hy
    clear hy HR
    go_enter Tryz.func340, Tryz.ntmps340
    go_wp2_with fail
    refine (refuses_is g R f q.length rd wr _ x.length _ most _ HP.out hxs).mono ?_
    rintro e w1 ⟨rfl, rfl⟩
    rw [← HY.out]
    go_wp2
    go_ret2
    exact ⟨rfl, by simpa using HA.out, Turned.refl _ _⟩
end Go.Proofs.YtdmkjbdlidadiaaGreat

/- A kernel by the page, as a value: what it is, and what calls answer and leave. No program. -/
namespace Go.Proofs.YtdmkjbdlidadiaaGreat
open Go.RowKit

def nameOk (s : ByteArray) : Bool := decide (0 < s.size) && (decide (s.size ≤ 64) && s.data.toList.all (fun c => decide (33 ≤ c.toNat) && decide (c.toNat ≤ 126)))

abbrev fbit (f m : Int) : Int := bits .and .i64 f m
def flagsOk (f : Int) : Bool := decide (0 ≤ f ∧ f ≤ 63) && (!(fbit f 3 == 0) && ((fbit f 20 == 0 || !(fbit f 2 == 0)) && (fbit f 32 == 0 || !(fbit f 8 == 0))))
def inNames (s : ByteArray) (ss : List ByteArray) : Bool := ss.any (fun x => x.data.toList == s.data.toList)
theorem inNames_iff (s : ByteArray) (ss : List ByteArray) : inNames s ss = true ↔ s ∈ ss := by
  unfold inNames
  rw [List.any_eq_true]
  constructor
  · rintro ⟨x, hx, he⟩
    have : x = s := Go.WideShapes.bytes_inj (by simpa using he)
    rw [← this]; exact hx
  · intro h
    exact ⟨s, h, by simp⟩

inductive Ob where
  | file (b : List UInt8)
  | term (ls : List (List UInt8)) (scr : List UInt8)
  | pipe (q : List UInt8) (rd wt : Nat)
def Ob.kind : Ob → Int
  | .file _ => 1
  | .term _ _ => 2
  | .pipe _ _ _ => 3
def Ob.ok : Ob → Prop
  | .file b => b.length ≤ 1048576
  | .term ls scr => ls.length ≤ 256 ∧ (∀ j (hj : j < ls.length), ls[j].length ≤ 4096) ∧ scr.length ≤ 1048576
  | .pipe q rd wt => q.length ≤ 4096 ∧ rd ≤ 1024 ∧ wt ≤ 1024
structure Th where
  name : ByteArray
  ob : Ob
structure De where
  n : Nat
  th : Nat
  flags : Int
  pos : Nat
  held : Nat
structure KS where
  th : List Th
  nm : List Nat
  de : List De
  next : Nat
  plan : List Fault
  reads : Nat
  writes : Nat
def KS.find (K : KS) (d : Int) : Option De := K.de.find? (fun x => decide ((x.n : Int) = d))

def planOk (l : List Fault) : Prop := l.length ≤ 4096 ∧ ∀ f ∈ l, f.1 = 1 → 1 ≤ f.2 ∧ f.2 ≤ 1048576
theorem planOk.tail {l : List Fault} (h : planOk l) : planOk l.tail := ⟨by have := h.1; simp; omega, fun f hf => h.2 f (List.mem_of_mem_tail hf)⟩
theorem nxt_good {l : List Fault} {want : Int} (h : planOk l) (h1 : 1 ≤ want) (h2 : want ≤ 1048576) (he : (nxt l want).2 = 0) : 1 ≤ (nxt l want).1 ∧ (nxt l want).1 ≤ want := by
  unfold nxt at he ⊢
  rw [if_neg (by omega)] at he ⊢
  cases l with
  | nil => simp; omega
  | cons f r =>
    simp only at he ⊢
    by_cases e1 : f.1 = 1
    · have := h.2 f (by simp) e1
      rw [if_pos e1]
      simp only
      omega
    · rw [if_neg e1] at he ⊢
      by_cases e2 : f.1 = 2
      · rw [if_pos e2] at he; simp at he
      · rw [if_neg e2] at he ⊢
        by_cases e3 : f.1 = 3
        · rw [if_pos e3] at he; simp at he
        · rw [if_neg e3] at he ⊢
          simp only
          omega
structure KOk (K : KS) : Prop where
  few : K.de.length ≤ 256
  named : K.nm.length ≤ 256
  th : ∀ d ∈ K.de, d.th < K.th.length
  nm : ∀ i ∈ K.nm, i < K.th.length
  num : ∀ d ∈ K.de, 1 ≤ d.n ∧ d.n < K.next
  once : ∀ d ∈ K.de, ∀ d' ∈ K.de, d.n = d'.n → d = d'
  flags : ∀ d ∈ K.de, flagsOk d.flags = true
  pos : ∀ d ∈ K.de, d.pos ≤ 1048576
  held : ∀ d ∈ K.de, 1 ≤ d.held ∧ d.held ≤ 1024
  plan : planOk K.plan
theorem KS.find_some {K : KS} {d : Int} {x : De} (h : K.find d = some x) : x ∈ K.de ∧ (x.n : Int) = d := by
  unfold KS.find at h
  exact ⟨List.mem_of_find?_eq_some h, by simpa using List.find?_some h⟩
def KS.tho (K : KS) (x : De) : Ob := (K.th[x.th]?.map Th.ob).getD (.file [])
theorem KS.tho_eq {K : KS} {x : De} (h : x.th < K.th.length) : K.tho x = K.th[x.th].ob := by simp [KS.tho, h]
def KS.setDe (K : KS) (x : De) : KS := { K with de := K.de.map fun y => if y.n = x.n then x else y }
theorem mem_setDe {K : KS} {x y : De} (h : y ∈ (K.setDe x).de) : y = x ∨ (y ∈ K.de ∧ y.n ≠ x.n) := by
  obtain ⟨z, hz, he⟩ := List.mem_map.1 h
  by_cases e : z.n = x.n
  · rw [if_pos e] at he; exact .inl he.symm
  · rw [if_neg e] at he; subst he; exact .inr ⟨hz, e⟩
theorem setDe_ns {K : KS} {x : De} (f : Nat → Value) : (K.setDe x).de.map (fun d => f d.n) = K.de.map fun d => f d.n := by
  unfold KS.setDe
  simp only [List.map_map]
  apply List.map_congr_left
  intro y _
  simp only [Function.comp]
  split
  · rename_i e; rw [e]
  · rfl
theorem KOk.setDe {K : KS} (h : KOk K) {x x' : De} (hx : x ∈ K.de) (hn : x'.n = x.n) (ht : x'.th = x.th) (hf : x'.flags = x.flags) (hp : x'.pos ≤ 1048576) (hh : 1 ≤ x'.held ∧ x'.held ≤ 1024) : KOk (K.setDe x') := by
  have el : ∀ y ∈ (K.setDe x').de, y = x' ∨ (y ∈ K.de ∧ y.n ≠ x'.n) := fun y hy => mem_setDe hy
  refine ⟨by simpa [KS.setDe] using h.few, h.named, fun y hy => ?_, h.nm, fun y hy => ?_, fun y hy z hz e => ?_, fun y hy => ?_, fun y hy => ?_, fun y hy => ?_, h.plan⟩
  · rcases el y hy with rfl | ⟨h1, _⟩
    · rw [ht]; exact h.th x hx
    · exact h.th y h1
  · rcases el y hy with rfl | ⟨h1, _⟩
    · rw [hn]; exact h.num x hx
    · exact h.num y h1
  · rcases el y hy with rfl | ⟨h1, h2⟩
    · rcases el z hz with rfl | ⟨h3, h4⟩
      · rfl
      · exact absurd e.symm h4
    · rcases el z hz with rfl | ⟨h3, h4⟩
      · exact absurd e h2
      · exact h.once y h1 z h3 e
  · rcases el y hy with rfl | ⟨h1, _⟩
    · rw [hf]; exact h.flags x hx
    · exact h.flags y h1
  · rcases el y hy with rfl | ⟨h1, _⟩
    · exact hp
    · exact h.pos y h1
  · rcases el y hy with rfl | ⟨h1, _⟩
    · exact hh
    · exact h.held y h1
def KS.setOb (K : KS) (i : Nat) (ob : Ob) : KS := { K with th := K.th.modify i fun t => { t with ob := ob } }
theorem setOb_len (K : KS) (i : Nat) (ob : Ob) : (K.setOb i ob).th.length = K.th.length := by simp [KS.setOb]
theorem setOb_same {K : KS} {i : Nat} {ob : Ob} (h : i < (K.setOb i ob).th.length) (h' : i < K.th.length) : (K.setOb i ob).th[i] = { K.th[i] with ob := ob } := by simp [KS.setOb]
theorem setOb_other {K : KS} {i j : Nat} {ob : Ob} (hne : j ≠ i) (h : j < (K.setOb i ob).th.length) (h' : j < K.th.length) : (K.setOb i ob).th[j] = K.th[j] := by simp [KS.setOb, Ne.symm hne]
def Ob.waits : Ob → Bool
  | .pipe q rd wt => !canR q.length rd wt
  | _ => false
def KS.readUp (K : KS) : KS := { K with reads := K.reads + 1, plan := K.plan.tail }
def KS.read (K : KS) (d n : Int) : List UInt8 × Int × KS :=
  match K.find d with
  | none => ([], 64, K)
  | some x =>
    if fbit x.flags 1 = 0 then ([], 65, K) else if n < 0 ∨ 1048576 < n then ([], 4, K) else if n = 0 then ([], 0, K) else if (K.tho x).waits = true then ([], 52, K)
    else if (nxt K.plan n).2 = 0 then
      match K.tho x with
      | .file b => (piece b x.pos (nxt K.plan n).1.toNat, 0, K.readUp.setDe { x with pos := x.pos + (piece b x.pos (nxt K.plan n).1.toNat).length })
      | .term ls scr => (rdH ls (nxt K.plan n).1, Te_rdE (nxt K.plan n).1, K.readUp.setOb x.th (.term (rdR ls (nxt K.plan n).1) scr))
      | .pipe q rd wt => (rdB (nxt K.plan n).1 q rd wt, Kp_rdE (nxt K.plan n).1 q.length rd wt, K.readUp.setOb x.th (.pipe (rdQ (nxt K.plan n).1 q rd wt) rd wt))
    else ([], (nxt K.plan n).2, K.readUp)
theorem term_ok {ls : List (List UInt8)} {scr : List UInt8} {m : Int} (h : (Ob.term ls scr).ok) : (Ob.term (rdR ls m) scr).ok := by
  unfold rdR
  split
  · exact ⟨restL_few h.1, restL_short h.2.1, h.2.2⟩
  · exact h
theorem pipe_ok {q : List UInt8} {rd wt : Nat} {m : Int} (h : (Ob.pipe q rd wt).ok) : (Ob.pipe (rdQ m q rd wt) rd wt).ok := by
  unfold rdQ
  split
  · exact ⟨by have := h.1; simp; omega, h.2⟩
  · exact h

def roomOf (ob : Ob) (flags : Int) (pos : Nat) : Nat := match ob with
  | .file b => if fbit flags 4 = 0 then 1048576 - pos else 1048576 - b.length
  | .term _ scr => 1048576 - scr.length
  | .pipe _ _ _ => 0
end Go.Proofs.YtdmkjbdlidadiaaGreat

/- The reference's terminal: Check, New. -/
namespace Go.Proofs.YtdmkjbdlidadiaaGreat
open Go.RowKit

end Go.Proofs.YtdmkjbdlidadiaaGreat

/- The reference's terminal: Read, Write. -/
namespace Go.Proofs.YtdmkjbdlidadiaaGreat
open Go.RowKit

set_option maxRecDepth 100000 in
set_option maxHeartbeats 1000000 in
theorem rread_bad (t : Nat) (n : Int) (w : World) (hn : ¬ (1 ≤ n ∧ n ≤ 1048576)) :
    Calls Tryz.prog 164 #[.pointer (some ⟨t, 0, none⟩), .int .i64 n] w fun e w' => e = .returned (.tuple #[.slice none 0 0, .int .i64 4]) ∧ w' = w := by
  by_cases hd1 : n < 1
  · have hd : decide (n < 1) = true := by simp; omega
    go_enter Tryz.func164, Tryz.ntmps164
    go_wp2
    go_ret2
    exact ⟨rfl, rfl⟩
  · have hd : decide (n < 1) = false := by simp; omega
    have hd2 : decide (1048576 < n) = true := by simp; omega
    go_enter Tryz.func164, Tryz.ntmps164
    go_wp2
    go_ret2
    exact ⟨rfl, rfl⟩

set_option maxRecDepth 100000 in
set_option maxHeartbeats 2000000 in
theorem rread_good (B t : Nat) (O : Nat → Prop) (la : Option Addr) (lc : Nat) (s : Value) (ls : List (List UInt8)) (scr : List UInt8) (n : Nat) (w : World) (h : Term w B t 0 O la lc s ls scr) (hn1 : 1 ≤ n) (hn : n ≤ 1048576) (hf : ls.length ≤ 256) (hsh : ∀ j (hj : j < ls.length), ls[j].length ≤ 4096) :
    Calls Tryz.prog 164 #[.pointer (some ⟨t, 0, none⟩), .int .i64 n] w fun e w' => ∃ v, e = .returned (.tuple #[v, .int .i64 0]) ∧ Bys w' v (headL ls n) ∧ (∃ la' lc', Term w' B t 0 O la' lc' s (restL ls n) scr) ∧ Turned O w w' := by
  have HT := hide h
  have h2 := h.lines
  have h3 := h.soft1
  have hd : decide ((n : Int) < 1) = false := by simp; omega
  have hd2 : decide ((1048576 : Int) < (n : Int)) = false := by simp; omega
  cases ls with
  | nil =>
    simp only [List.length_nil] at h2
    clear h
    go_enter Tryz.func164, Tryz.ntmps164
    go_wp2
    go_ret2
    exact ⟨_, rfl, .inl ⟨rfl, rfl⟩, ⟨_, _, HT.out⟩, Turned.refl _ _⟩
  | cons l ls =>
    have hz : ((ls.length : Int) + 1 == 0) = false := by simp; omega
    have hz2 : ¬ (ls.length : Int) + 1 = 0 := by omega
    have hl := hsh 0 (by simp)
    simp only [List.getElem_cons_zero] at hl
    obtain ⟨r, off, rfl, hr⟩ := h.row (by simp)
    obtain ⟨hfz, va, vc, hc, hvc, hby, hkk⟩ := hr 0 (by simp)
    obtain ⟨ro, rt, rs⟩ := h.lo r rfl
    have hcap := h.cap
    simp only [Nat.add_zero, List.getElem_cons_zero, List.length_cons] at hc hfz h2 hcap hvc hby hkk
    have HBy := hide hby
    have HK := hide hkk
    clear hr h hby hkk hsh hf
    by_cases hlt : n < l.length
    · obtain ⟨_, b, o, rfl, hbl, -⟩ := bys_block HBy.out (by omega)
      have hd3 : decide ((n : Int) < (l.length : Int)) = true := by simp; omega
      have hq : ((n : Int) == (l.length : Int)) = false := by simp; omega
      have hq2 : ¬ (n : Int) = (l.length : Int) := by omega
      have hq3 : ¬ n = l.length := by omega
      obtain ⟨hC, hTn⟩ := HT.out.cut hc hlt
      have k1 : (n : Int) < (vc : Int) := by omega
      have k2 : (n : Int) ≤ (l.length : Int) := by omega
      have k3 : ¬ vc = n := by omega
      have k4 : (n : Int) ≤ (vc : Int) := by omega
      have hby1 : Bys (w.setCell ⟨r, off, none⟩ (.slice (some ⟨b, o + n, none⟩) (l.length - n) (vc - n))) (.slice (some ⟨b, o, none⟩) n vc) (l.take n) := by
        have h5 := bys_cut HBy.out 0 n vc (by omega)
        rw [List.drop_zero, Nat.add_zero] at h5
        exact h5.keep fun k e _ => Below.heap_setCell _ _ _ _ (HK.out k e).2.2.1
      have HB1 := hide hby1
      have HC := hide hC
      have HTn := hide hTn
      rw [show restL (l :: ls) n = l.drop n :: ls by rw [restL, if_pos hlt], show headL (l :: ls) n = l.take n from rfl]
      clear hby1 hC hTn
      go_enter Tryz.func164, Tryz.ntmps164
      go_wp2_with fail
      go_region
      go_wp2
      go_ret2
      generalize w.setCell ⟨r, off, none⟩ (.slice (some ⟨b, o + n, none⟩) (l.length - n) (vc - n)) = w1 at *
      have hBd : Below w1.heap.size w1 w1.drew := (Below.refl _ _).drew
      exact ⟨_, rfl, HB1.out.below hBd, ⟨_, _, HC.out.below hBd⟩, HTn.out.trans (Turned.of_below (S := O) hBd) (fun _ _ h => h)⟩
    · have hd3 : decide ((n : Int) < (l.length : Int)) = false := by simp; omega
      rw [show restL (l :: ls) n = ls by rw [restL, if_neg hlt], show headL (l :: ls) n = l from List.take_of_length_le (by omega)]
      have k4 : (l.length : Int) ≤ (vc : Int) := by omega
      have k5 : (l.length : Int) ≤ (n : Int) := by omega
      have hva : (va = none ∧ l.length = 0 ∧ vc = 0) ∨ (∃ ad, va = some ad ∧ l.length < n) ∨ ∃ ad, va = some ad ∧ n = l.length := by
        have hva : (va = none ∧ l.length = 0 ∧ vc = 0) ∨ ∃ ad, va = some ad := by
          rcases HBy.out with ⟨h5, h6⟩ | ⟨a, c, h5, h6⟩ | ⟨b, o, c, h5, _⟩
          · simp only [Value.slice.injEq] at h5
            exact .inl ⟨h5.1, h5.2.1, h5.2.2⟩
          · simp only [Value.slice.injEq] at h5
            exact .inr ⟨_, h5.1⟩
          · simp only [Value.slice.injEq] at h5
            exact .inr ⟨_, h5.1⟩
        rcases hva with h | ⟨ad, h⟩
        · exact .inl h
        · rcases Nat.lt_or_ge l.length n with h1 | h1
          · exact .inr (.inl ⟨ad, h, h1⟩)
          · exact .inr (.inr ⟨ad, h, by omega⟩)
      have HD := hide (fun la n' h5 h6 => HT.out.dropped (w1 := w) rfl rfl rfl rfl (fun k hk => rfl) (fun j => ⟨rfl, rfl⟩) la n' h5 h6)
      have HTo : Hid (∀ W, Turned (fun k => k = t ∨ k = r) w W → Turned O w W) := hide fun W h => h.mono fun k e => by
        rcases e with rfl | rfl
        · exact HT.out.ot
        · exact ro
      have HBk : Hid (∀ u, Bys (w.setCell ⟨t, 0, none⟩ u) (.slice va l.length vc) l) := hide fun u => HBy.out.keep fun k e _ => Below.heap_setCell _ _ _ _ (HK.out k e).2.1
      clear HBy HK
      rcases hva with ⟨rfl, hl0, rfl⟩ | ⟨ad, rfl, hcn⟩ | ⟨ad, rfl, rfl⟩
      case' inr.inr =>
        clear hd3 k5 hlt
        have hd3 : decide ((l.length : Int) < (l.length : Int)) = false := by simp
        have hd4 : ¬ l.length < l.length := by omega
      case' inl =>
        rw [hl0] at hc
        obtain rfl : l = [] := List.length_eq_zero_iff.1 hl0
        clear hd3 k4 k5 hlt hvc hl
        have hd3 : decide ((n : Int) < 0) = false := by simp
        have k5 : (0 : Int) < (n : Int) := by omega
        have k6 : 0 < n := hn1
      all_goals
        by_cases h1 : lc = 1
        · obtain rfl : ls = [] := List.length_eq_zero_iff.1 (by omega)
          subst h1
          simp only [List.length_nil, Nat.zero_add] at h2
          clear hz hz2 hcap
          go_enter Tryz.func164, Tryz.ntmps164
          go_wp2
          go_ret2
          obtain ⟨r1, r2⟩ := HD.out (some ⟨r, off, none⟩) 0 (.inr ⟨trivial, rfl⟩) rfl
          exact ⟨_, rfl, HBk.out _, ⟨_, _, r1⟩, HTo.out _ r2⟩
        · have k7 : (1 : Int) < (lc : Int) := by omega
          have k8 : (1 : Int) ≤ (ls.length : Int) + 1 := by omega
          go_enter Tryz.func164, Tryz.ntmps164
          go_wp2
          go_ret2
          obtain ⟨r1, r2⟩ := HD.out (some ⟨r, off + 1, none⟩) ls.length (.inl rfl) rfl
          exact ⟨_, rfl, HBk.out _, ⟨_, _, r1⟩, HTo.out _ r2⟩

theorem Te_rread_any (B t : Nat) (O : Nat → Prop) (la : Option Addr) (lc : Nat) (s : Value) (ls : List (List UInt8)) (scr : List UInt8) (n : Int) (w : World) (h : Term w B t 0 O la lc s ls scr) (hf : ls.length ≤ 256) (hsh : ∀ j (hj : j < ls.length), ls[j].length ≤ 4096) :
    Calls Tryz.prog 164 #[.pointer (some ⟨t, 0, none⟩), .int .i64 n] w fun e w' => ∃ v, e = .returned (.tuple #[v, .int .i64 (Te_rdE n)]) ∧ Bys w' v (rdH ls n) ∧ (∃ la' lc', Term w' B t 0 O la' lc' s (rdR ls n) scr) ∧ Turned O w w' := by
  by_cases hn : 1 ≤ n ∧ n ≤ 1048576
  · have hr := rOk_yes hn.1 hn.2
    rw [Te_rdE, rdH, rdR, if_pos hr, if_pos hr, if_pos hr]
    obtain ⟨m, rfl⟩ : ∃ m : Nat, n = m := ⟨n.toNat, by omega⟩
    rw [Int.toNat_natCast]
    exact rread_good B t O la lc s ls scr m w h (by omega) (by omega) hf hsh
  · have hr : ¬ rOk n = true := by rw [rOk_no hn]; simp
    rw [Te_rdE, rdH, rdR, if_neg hr, if_neg hr, if_neg hr]
    refine (rread_bad t n w hn).mono ?_
    rintro e w' ⟨rfl, rfl⟩
    exact ⟨_, rfl, .inl ⟨rfl, rfl⟩, ⟨_, _, h⟩, Turned.refl _ _⟩

set_option maxRecDepth 100000 in
set_option maxHeartbeats 1000000 in
theorem Te_rwrite_any (B t : Nat) (O : Nat → Prop) (la : Option Addr) (lc : Nat) (s : Value) (ls : List (List UInt8)) (scr : List UInt8) (vx : Value) (x : List UInt8) (w : World) (h : Term w B t 0 O la lc s ls scr) (hx : Bys w vx x) (h0 : scr.length ≤ 1048576) (hxs : x.length ≤ 140737488351232) :
    Calls Tryz.prog 170 #[.pointer (some ⟨t, 0, none⟩), vx] w fun e w' => e = .returned (.int .i64 (Te_wrE scr.length x.length)) ∧ ∃ O' s', Term w' B t 0 O' la lc s' ls (wrS scr x) ∧ (∀ k, O' k → O k ∨ w.heap.size ≤ k) ∧ Turned O w w' := by
  have HT := hide h
  have hlt := h.lt t h.ot
  obtain ⟨sa, sc, rfl⟩ := owns_slice h.scr
  have h2 := h.screen
  have h3 := h.soft2
  have hst := h.st t
  have HX := hide hx
  obtain ⟨a1, c1, rfl, -⟩ := bys_form hx
  clear h hx
  by_cases hf : 1048576 < scr.length + x.length
  · rw [Te_wrE, wrS, if_pos hf, if_pos hf]
    have hd : decide ((1048576 : Int) < (scr.length : Int) + (x.length : Int)) = true := by simp; omega
    clear hst
    go_enter Tryz.func170, Tryz.ntmps170
    go_wp2
    all_goals first
      | (exfalso; omega)
      | (go_ret; exact ⟨rfl, O, _, HT.out, fun k e => .inl e, Turned.refl _ _⟩)
  · rw [Te_wrE, wrS, if_neg hf, if_neg hf]
    have hd : decide ((1048576 : Int) < (scr.length : Int) + (x.length : Int)) = false := by simp; omega
    obtain ⟨s', w1, hrun, HO, hg, hb⟩ := run_append_bytes w 40 B _ _ scr x HT.out.scr HX.out (by omega) (by omega)
    obtain ⟨sa', sc', rfl⟩ := owns_slice HO.out
    have hgt : w1.heap[t]? = w.heap[t]? := hg.block t hlt.2 (fun e => (hst e.symm).2 rfl)
    have q1 : w1.cell? ⟨t, 1, none⟩ = some (.slice sa scr.length sc) := (World.cell?_of_block (w := w) hgt).trans h2
    have q2 : w1.frozen? ⟨t, 1, none⟩ = false := (World.frozen?_of_block (w := w) hgt).trans h3
    obtain ⟨r1, r2⟩ := HT.out.written HO.out hg hb
    simp only [List.length_append] at r1 r2 hrun hb
    have R1 := hide r1
    have R2 := hide r2
    have HB := hide hb
    have HR := hide hrun
    clear r1 r2 hgt hst hg hb hrun
    go_enter Tryz.func170, Tryz.ntmps170
    go_wp2_with (at_builtin; refine Lib.wpList_append_run _ rfl _ _ _ _ rfl _ _ rfl rfl _ _ HR.out ?_)
    all_goals first
      | (exfalso; omega)
      | skip
    go_ret
    refine ⟨rfl, _, _, R1.out, fun k e => ?_, R2.out⟩
    rcases e with e | e
    · exact .inl e
    · rcases HB.out with e' | e'
      · rw [e'] at e; exact .inl (HT.out.st k e).1
      · rw [e'] at e; cases e; exact .inr (Nat.le_refl _)
end Go.Proofs.YtdmkjbdlidadiaaGreat

/- The reference's pipe: Join, Leave, Read, CanRead, CanWrite. -/
namespace Go.Proofs.YtdmkjbdlidadiaaGreat
open Go.RowKit

structure RP (W : World) (B t : Nat) (a : Option Addr) (c : Nat) (q : List UInt8) (rd wr : Nat) : Prop where
  blk : W.heap[t]? = some (.cells ([.slice a q.length c, .int .i64 rd, .int .i64 wr] : List Value).toArray 254 (0, 0))
  bys : Bys W (.slice a q.length c) q
  cap : q.length ≤ c
  lq : q.length ≤ 4096
  lr : rd ≤ 1024
  lw : wr ≤ 1024
  ad : (a = none ∧ c = 0 ∧ q = []) ∨ ∃ b off, a = some ⟨b, off, none⟩ ∧ b ≠ t ∧ B ≤ b ∧ b < W.heap.size
theorem RP.lt {W : World} {B t : Nat} {a : Option Addr} {c : Nat} {q : List UInt8} {rd wr : Nat} (h : RP W B t a c q rd wr) : t < W.heap.size := (Array.getElem?_eq_some_iff.1 h.blk).1
theorem RP.soft {W : World} {B t : Nat} {a : Option Addr} {c : Nat} {q : List UInt8} {rd wr : Nat} (h : RP W B t a c q rd wr) (j : Nat) : W.frozen? ⟨t, j, none⟩ = false := frozen_of_row W t j _ _ h.blk
theorem RP.c0 {W : World} {B t : Nat} {a : Option Addr} {c : Nat} {q : List UInt8} {rd wr : Nat} (h : RP W B t a c q rd wr) : W.cell? ⟨t, 0, none⟩ = some (.slice a q.length c) := by rw [cell_of_row W t 0 _ _ _ h.blk]; rfl
theorem RP.c1 {W : World} {B t : Nat} {a : Option Addr} {c : Nat} {q : List UInt8} {rd wr : Nat} (h : RP W B t a c q rd wr) : W.cell? ⟨t, 1, none⟩ = some (.int .i64 rd) := by rw [cell_of_row W t 1 _ _ _ h.blk]; rfl
theorem RP.c2 {W : World} {B t : Nat} {a : Option Addr} {c : Nat} {q : List UInt8} {rd wr : Nat} (h : RP W B t a c q rd wr) : W.cell? ⟨t, 2, none⟩ = some (.int .i64 wr) := by rw [cell_of_row W t 2 _ _ _ h.blk]; rfl
theorem RP.keep {S : Nat → Prop} {W W' : World} {B t : Nat} {a : Option Addr} {c : Nat} {q : List UInt8} {rd wr : Nat} (h : RP W B t a c q rd wr) (hT : Turned S W W') (ht : ¬ S t) (hb : ∀ b, B ≤ b → b ≠ t → b < W.heap.size → (Value.slice a q.length c).ownBlock = some b → ¬ S b) : RP W' B t a c q rd wr := by
  refine ⟨(hT.block t h.lt ht).trans h.blk, h.bys.turned hT fun k hk hlt => ?_, h.cap, h.lq, h.lr, h.lw, ?_⟩
  · rcases h.ad with ⟨rfl, _⟩ | ⟨b, off, rfl, h1, h2, h3⟩
    · cases hk
    · obtain rfl : b = k := by simpa [Value.ownBlock] using hk
      exact hb b h2 h1 h3 rfl
  · rcases h.ad with h | ⟨b, off, h0, h1, h2, h3⟩
    · exact .inl h
    · exact .inr ⟨b, off, h0, h1, h2, Nat.lt_of_lt_of_le h3 hT.size⟩
theorem RP.below {W W' : World} {B t : Nat} {a : Option Addr} {c : Nat} {q : List UInt8} {rd wr : Nat} (h : RP W B t a c q rd wr) (hB : Below W.heap.size W W') : RP W' B t a c q rd wr :=
  h.keep (Turned.of_below (S := fun _ => False) hB) id (fun _ _ _ _ _ => id)
theorem RP.set {W : World} {B t : Nat} {a : Option Addr} {c : Nat} {q : List UInt8} {rd wr : Nat} (h : RP W B t a c q rd wr) (j : Nat) (v : Value) {a' : Option Addr} {c' : Nat} {q' : List UInt8} {rd' wr' : Nat}
    (hl : ([.slice a q.length c, .int .i64 rd, .int .i64 wr] : List Value).set j v = [.slice a' q'.length c', .int .i64 rd', .int .i64 wr']) (hb : Bys W (.slice a' q'.length c') q') (hc : q'.length ≤ c') (hq : q'.length ≤ 4096) (hr : rd' ≤ 1024) (hw : wr' ≤ 1024)
    (ha : (a' = none ∧ c' = 0 ∧ q' = []) ∨ ∃ b off, a' = some ⟨b, off, none⟩ ∧ b ≠ t ∧ B ≤ b ∧ b < W.heap.size) : RP (W.setCell ⟨t, j, none⟩ v) B t a' c' q' rd' wr' := by
  have hs : (W.setCell ⟨t, j, none⟩ v).heap.size = W.heap.size := by simp [World.setCell]
  refine ⟨by rw [heap_setCell_same j v h.blk, hl], hb.keep fun k hk _ => Below.heap_setCell _ _ _ _ ?_, hc, hq, hr, hw, ?_⟩
  · rcases ha with ⟨rfl, _⟩ | ⟨b, off, rfl, h1, _⟩
    · cases hk
    · obtain rfl : b = k := by simpa [Value.ownBlock] using hk
      exact h1
  · rw [hs]; exact ha

set_option maxRecDepth 100000 in
set_option maxHeartbeats 1000000 in
theorem rleave_any (x : Bool) (B t : Nat) (a : Option Addr) (c : Nat) (q : List UInt8) (rd wr : Nat) (w : World) (h : RP w B t a c q rd wr) :
    Calls Tryz.prog 176 #[.pointer (some ⟨t, 0, none⟩), .bool x] w fun e w' => e = .returned (.int .i64 (leaveE x rd wr)) ∧ RP w' B t a c q (leaveR x rd wr) (leaveW x rd wr) ∧ Turned (fun k => k = t) w w' := by
  have HP := hide h
  have h2 := h.c1
  have h3 := h.c2
  have h4 := h.soft 1
  have h5 := h.soft 2
  have h6 := h.lr
  have h7 := h.lw
  clear h
  cases x
  · by_cases hf : rd = 0
    · subst hf
      go_enter Tryz.func176, Tryz.ntmps176
      go_wp2
      go_ret
      exact ⟨rfl, HP.out, Turned.refl _ _⟩
    · have k1 : ¬ (rd : Int) = 0 := by omega
      have k2 : ((rd : Int) == 0) = false := by simp; omega
      have HP2 := hide (HP.out.set 1 (.int .i64 ((rd - 1 : Nat) : Int)) (a' := a) (c' := c) (q' := q) (rd' := rd - 1) (wr' := wr) rfl HP.out.bys HP.out.cap HP.out.lq (by omega) HP.out.lw HP.out.ad)
      go_enter Tryz.func176, Tryz.ntmps176
      go_wp2
      go_ret
      refine ⟨ret_int (by simp [leaveE, hf]), ?_, (Turned.refl _ _).set (.inl rfl)⟩
      rw [show (rd : Int) - 1 = ((rd - 1 : Nat) : Int) by omega]
      exact HP2.out
  · by_cases hf : wr = 0
    · subst hf
      go_enter Tryz.func176, Tryz.ntmps176
      go_wp2
      go_ret
      exact ⟨rfl, HP.out, Turned.refl _ _⟩
    · have k1 : ¬ (wr : Int) = 0 := by omega
      have k2 : ((wr : Int) == 0) = false := by simp; omega
      have HP2 := hide (HP.out.set 2 (.int .i64 ((wr - 1 : Nat) : Int)) (a' := a) (c' := c) (q' := q) (rd' := rd) (wr' := wr - 1) rfl HP.out.bys HP.out.cap HP.out.lq HP.out.lr (by omega) HP.out.ad)
      go_enter Tryz.func176, Tryz.ntmps176
      go_wp2
      go_ret
      refine ⟨ret_int (by simp [leaveE, hf]), ?_, (Turned.refl _ _).set (.inl rfl)⟩
      rw [show (wr : Int) - 1 = ((wr - 1 : Nat) : Int) by omega]
      exact HP2.out

set_option maxHeartbeats 1000000 in
theorem rcanRead_any (B t : Nat) (a : Option Addr) (c : Nat) (q : List UInt8) (rd wr : Nat) (w : World) (h : RP w B t a c q rd wr) :
    Calls Tryz.prog 162 #[.pointer (some ⟨t, 0, none⟩)] w fun e w' => e = .returned (.bool (canR q.length rd wr)) ∧ w' = w := by
  have h1 := h.c0
  have h2 := h.c1
  have h3 := h.c2
  clear h
  unfold canR
  generalize q.length = n at *
  rcases (show rd = 0 ∨ (0 < rd ∧ 0 < n) ∨ (0 < rd ∧ n = 0 ∧ 0 < wr) ∨ (0 < rd ∧ n = 0 ∧ wr = 0) by omega) with rfl | ⟨hr, hn⟩ | ⟨hr, rfl, hw⟩ | ⟨hr, rfl, rfl⟩
  · go_enter Tryz.func162, Tryz.ntmps162
    go_wp2
    go_ret
    exact ⟨rfl, rfl⟩
  · rw [show decide (0 < rd) = true by simp; omega, show decide (n = 0 ∧ 0 < wr) = false by rw [decide_eq_false_iff_not]; omega]
    have k1 : (0 : Int) < (rd : Int) := by omega
    have k2 : (0 : Int) < (n : Int) := by omega
    go_enter Tryz.func162, Tryz.ntmps162
    go_wp2
    go_ret
    exact ⟨rfl, rfl⟩
  · rw [show decide (0 < rd) = true by simp; omega, show decide (0 = 0 ∧ 0 < wr) = true by rw [decide_eq_true_iff]; omega]
    have k1 : (0 : Int) < (rd : Int) := by omega
    have k2 : ((wr : Int) == 0) = false := by simp; omega
    go_enter Tryz.func162, Tryz.ntmps162
    go_wp2
    go_ret
    exact ⟨rfl, rfl⟩
  · rw [show decide (0 < rd) = true by simp; omega]
    have k1 : (0 : Int) < (rd : Int) := by omega
    go_enter Tryz.func162, Tryz.ntmps162
    go_wp2
    go_ret
    exact ⟨rfl, rfl⟩

set_option maxHeartbeats 2000000 in
theorem rcanWrite_any (n : Int) (B t : Nat) (a : Option Addr) (c : Nat) (q : List UInt8) (rd wr : Nat) (w : World) (h : RP w B t a c q rd wr) :
    Calls Tryz.prog 167 #[.pointer (some ⟨t, 0, none⟩), .int .i64 n] w fun e w' => e = .returned (.bool (canW n q.length rd wr)) ∧ w' = w := by
  have h1 := h.c0
  have h2 := h.c1
  have h3 := h.c2
  have h4 := h.lq
  clear h
  unfold canW
  generalize q.length = z at *
  by_cases hi : inN n = false
  · rw [hi]
    have h5 : n < 1 ∨ 1048576 < n := by
      simp only [inN, Bool.and_eq_false_iff, decide_eq_false_iff_not] at hi
      omega
    clear hi
    rcases (show wr = 0 ∨ (0 < wr ∧ n < 1) ∨ (0 < wr ∧ 1048576 < n) by omega) with rfl | ⟨hw, hn⟩ | ⟨hw, hn⟩
    · go_enter Tryz.func167, Tryz.ntmps167
      go_wp2
      go_ret
      exact ⟨rfl, rfl⟩
    · have k1 : (0 : Int) < (wr : Int) := by omega
      have k2 : ¬ 1 ≤ n := by omega
      go_enter Tryz.func167, Tryz.ntmps167
      go_wp2
      go_ret
      exact ⟨rfl, rfl⟩
    · have k1 : (0 : Int) < (wr : Int) := by omega
      have k2 : 1 ≤ n := by omega
      have k3 : ¬ n ≤ 1048576 := by omega
      go_enter Tryz.func167, Tryz.ntmps167
      go_wp2
      go_ret
      exact ⟨rfl, rfl⟩
  · have hi' : inN n = true := by simpa using hi
    obtain ⟨m, rfl, hm1, hm2⟩ := inN_nat hi'
    rw [hi']
    clear hi hi'
    simp only [Int.toNat_natCast]
    have k2 : (1 : Int) ≤ (m : Int) := by omega
    have k3 : (m : Int) ≤ 1048576 := by omega
    rcases (show wr = 0 ∨ (0 < wr ∧ rd = 0) ∨ (0 < wr ∧ 0 < rd ∧ m ≤ 512 ∧ m ≤ 4096 - z) ∨ (0 < wr ∧ 0 < rd ∧ m ≤ 512 ∧ ¬ m ≤ 4096 - z) ∨ (0 < wr ∧ 0 < rd ∧ 512 < m ∧ 0 < 4096 - z) ∨ (0 < wr ∧ 0 < rd ∧ 512 < m ∧ z = 4096) by omega) with rfl | ⟨hw, rfl⟩ | ⟨hw, hr, hm, hz⟩ | ⟨hw, hr, hm, hz⟩ | ⟨hw, hr, hm, hz⟩ | ⟨hw, hr, hm, rfl⟩
    · go_enter Tryz.func167, Tryz.ntmps167
      go_wp2
      go_ret
      exact ⟨rfl, rfl⟩
    · rw [show decide (0 < wr) = true by simp; omega]
      have k1 : (0 : Int) < (wr : Int) := by omega
      go_enter Tryz.func167, Tryz.ntmps167
      go_wp2
      go_ret
      exact ⟨rfl, rfl⟩
    · have hy : fitN m m z = m := by unfold fitN; rw [if_neg (by omega), if_neg (by omega)]
      rw [show decide (0 < wr) = true by simp; omega, show decide (rd = 0) = false by simp; omega, show decide (0 < fitN m m z) = true by rw [hy]; simp; omega]
      have k1 : (0 : Int) < (wr : Int) := by omega
      have k4 : ((rd : Int) == 0) = false := by simp; omega
      have k5 : (m : Int) ≤ 512 := by omega
      have k6 : (m : Int) ≤ 4096 - (z : Int) := by omega
      clear hy
      go_enter Tryz.func167, Tryz.ntmps167
      go_wp2
      go_ret
      exact ⟨rfl, rfl⟩
    · have hy : fitN m m z = 0 := by unfold fitN; rw [if_neg (by omega), if_pos (by omega)]
      rw [show decide (0 < wr) = true by simp; omega, show decide (rd = 0) = false by simp; omega, show decide (0 < fitN m m z) = false by rw [hy]; rfl]
      have k1 : (0 : Int) < (wr : Int) := by omega
      have k4 : ((rd : Int) == 0) = false := by simp; omega
      have k5 : (m : Int) ≤ 512 := by omega
      have k6 : ¬ (m : Int) ≤ 4096 - (z : Int) := by omega
      have k7 : ¬ (512 : Int) < (m : Int) := by omega
      clear hy
      go_enter Tryz.func167, Tryz.ntmps167
      go_wp2
      go_ret
      exact ⟨rfl, rfl⟩
    · have hy : 0 < fitN m m z := by unfold fitN; rw [if_pos (by omega)]; omega
      rw [show decide (0 < wr) = true by simp; omega, show decide (rd = 0) = false by simp; omega, show decide (0 < fitN m m z) = true by simp; omega]
      have k1 : (0 : Int) < (wr : Int) := by omega
      have k4 : ((rd : Int) == 0) = false := by simp; omega
      have k5 : ¬ (m : Int) ≤ 512 := by omega
      have k7 : (512 : Int) < (m : Int) := by omega
      have k6 : (0 : Int) < 4096 - (z : Int) := by omega
      clear hy
      go_enter Tryz.func167, Tryz.ntmps167
      go_wp2
      go_ret
      exact ⟨ret_bool (by simp; omega), rfl⟩
    · have hy : fitN m m 4096 = 0 := by unfold fitN; rw [if_pos (by omega)]; omega
      rw [show decide (0 < wr) = true by simp; omega, show decide (rd = 0) = false by simp; omega, show decide (0 < fitN m m 4096) = false by rw [hy]; rfl]
      have k1 : (0 : Int) < (wr : Int) := by omega
      have k4 : ((rd : Int) == 0) = false := by simp; omega
      have k5 : ¬ (m : Int) ≤ 512 := by omega
      have k7 : (512 : Int) < (m : Int) := by omega
      clear hy
      go_enter Tryz.func167, Tryz.ntmps167
      go_wp2
      go_ret
      exact ⟨rfl, rfl⟩
end Go.Proofs.YtdmkjbdlidadiaaGreat

/- The reference's pipe: Read. -/
namespace Go.Proofs.YtdmkjbdlidadiaaGreat
open Go.RowKit

theorem inN_no {n : Int} (h : inN n = false) : n < 1 ∨ (1 ≤ n ∧ 1048576 < n) := by
  simp only [inN, Bool.and_eq_false_iff, decide_eq_false_iff_not] at h
  omega

def RRead (w : World) (B t : Nat) (va : Value) (rd wr : Nat) (E : Int) (Y q' : List UInt8) (e : Ending) (w' : World) : Prop :=
  ∃ v a' c', e = .returned (.tuple #[v, .int .i64 E]) ∧ Bys w' v Y ∧ RP w' B t a' c' q' rd wr ∧ Turned (fun k => k = t) w w' ∧ ∀ b, (Value.slice a' q'.length c').ownBlock = some b → va.ownBlock = some b

set_option maxRecDepth 100000 in
set_option maxHeartbeats 1000000 in
theorem rread_ok (n : Nat) (B t : Nat) (a : Option Addr) (c : Nat) (q : List UInt8) (rd wr : Nat) (w : World) (h : RP w B t a c q rd wr) (hn1 : 1 ≤ n) (hn : n ≤ 1048576) (hr : 0 < rd) (hb : ¬ (q.length = 0 ∧ 0 < wr)) :
    Calls Tryz.prog 165 #[.pointer (some ⟨t, 0, none⟩), .int .i64 n] w (RRead w B t (.slice a q.length c) rd wr 0 (q.take n) (q.drop n)) := by
  have HP := hide h
  have h1 := h.c0
  have h2 := h.c1
  have h3 := h.c2
  have h4 := h.soft 0
  have hcap := h.cap
  have hlq := h.lq
  have had := h.ad
  clear h
  have d1 : ¬ (n : Int) < 1 := by omega
  have d2 : ¬ (1048576 : Int) < (n : Int) := by omega
  have d3 : ((rd : Int) == 0) = false := by simp; omega
  rcases had with ⟨rfl, rfl, rfl⟩ | ⟨b, off, rfl, hbt, hBb, hbl⟩
  · obtain rfl : wr = 0 := by simp at hb; omega
    have HP2 := hide (HP.out.set 0 (.slice none 0 0) (a' := none) (c' := 0) (q' := []) (rd' := rd) (wr' := 0) rfl HP.out.bys HP.out.cap HP.out.lq HP.out.lr HP.out.lw (.inl ⟨rfl, rfl, rfl⟩))
    simp only [List.length_nil] at h1
    have d4 : (0 : Int) < (n : Int) := by omega
    rw [List.take_nil, List.drop_nil, List.length_nil]
    have HF : Hid (∀ w' e, e = .returned (.tuple #[.slice none 0 0, .int .i64 0]) → w' = w.setCell ⟨t, 0, none⟩ (.slice none 0 0) → RRead w B t (.slice none 0 0) rd 0 0 [] [] e w') := hide fun w' e h5 h6 => by
      subst h6
      exact ⟨_, none, 0, h5, .inl ⟨rfl, rfl⟩, HP2.out, (Turned.refl _ _).set (.inl rfl), fun b e => e⟩
    go_enter Tryz.func165, Tryz.ntmps165
    go_wp2
    go_ret2
    exact HF.out _ _ rfl rfl
  · rcases (show (q.length = 0 ∧ wr = 0) ∨ 0 < q.length by omega) with ⟨hq0, rfl⟩ | hq0
    · obtain rfl : q = [] := List.length_eq_zero_iff.1 hq0
      rcases (show c = 0 ∨ 0 < c by omega) with rfl | hc0
      case' inl => have d6 : (0 : Int) ≤ 0 := by omega
      case' inr => have d6 : ¬ c = 0 := by omega
      all_goals
        simp only [List.length_nil] at h1
        have d4 : (0 : Int) < (n : Int) := by omega
        rw [List.take_nil, List.drop_nil, List.length_nil]
        go_enter Tryz.func165, Tryz.ntmps165
        go_wp2
        go_ret2
        refine ⟨_, some ⟨b, off, none⟩, _, rfl, .inr (.inl ⟨_, _, rfl, rfl⟩), ?_, (Turned.refl _ _).set (.inl rfl), fun b e => e⟩
        exact HP.out.set 0 _ rfl (.inr (.inl ⟨_, _, rfl, rfl⟩)) (by simp) (by simp) HP.out.lr HP.out.lw (.inr ⟨b, off, rfl, hbt, hBb, hbl⟩)
    · have d5 : ((q.length : Int) == 0) = false := by rw [beq_eq_false_iff_ne]; omega
      by_cases hnq : n < q.length
      · have d4 : ¬ (q.length : Int) < (n : Int) := by omega
        have d6 : (n : Int) ≤ (c : Int) := by omega
        have d7 : (n : Int) ≤ (q.length : Int) := by omega
        have d8 : ¬ c = n := by omega
        have htl : (q.take n).length = n := by simp; omega
        have hdl : (q.drop n).length = q.length - n := by simp
        have HB1 : Hid (Bys w (.slice (some ⟨b, off, none⟩) n c) (q.take n)) := hide (by simpa using bys_cut HP.out.bys 0 n c (by omega))
        have HB2 : Hid (Bys w (.slice (some ⟨b, off + n, none⟩) (q.drop n).length (c - n)) (q.drop n)) := hide (by
          have := bys_cut HP.out.bys n (q.length - n) (c - n) (by omega)
          rw [List.take_of_length_le (by simp)] at this
          rw [hdl]; exact this)
        have HP2 := hide (HP.out.set 0 (.slice (some ⟨b, off + n, none⟩) (q.length - n) (c - n)) (a' := some ⟨b, off + n, none⟩) (c' := c - n) (q' := q.drop n) (rd' := rd) (wr' := wr) (by rw [hdl]; rfl) HB2.out (by omega) (by omega) HP.out.lr HP.out.lw (.inr ⟨b, off + n, rfl, hbt, hBb, hbl⟩))
        have HF : Hid (∀ w' e, e = .returned (.tuple #[.slice (some ⟨b, off, none⟩) n c, .int .i64 0]) → w' = w.setCell ⟨t, 0, none⟩ (.slice (some ⟨b, off + n, none⟩) (q.length - n) (c - n)) → RRead w B t (.slice (some ⟨b, off, none⟩) q.length c) rd wr 0 (q.take n) (q.drop n) e w') := hide fun w' e h5 h6 => by
          subst h6
          refine ⟨_, _, _, h5, HB1.out.keep fun k hk _ => Below.heap_setCell _ _ _ _ ?_, HP2.out, (Turned.refl _ _).set (.inl rfl), fun b e => e⟩
          obtain rfl : b = k := by simpa [Value.ownBlock] using hk
          exact hbt
        clear HB1 HB2 HP2 htl hdl
        go_enter Tryz.func165, Tryz.ntmps165
        go_wp2
        go_ret2
        exact HF.out _ _ rfl rfl
      · rw [List.take_of_length_le (by omega), List.drop_eq_nil_of_le (by omega)]
        have d9 : (q.length : Int) ≤ (c : Int) := by omega
        have HF : Hid (∀ a' c' w' e, a' = some ⟨b, off, none⟩ ∨ a' = some ⟨b, off + q.length, none⟩ → e = .returned (.tuple #[.slice (some ⟨b, off, none⟩) q.length c, .int .i64 0]) → w' = w.setCell ⟨t, 0, none⟩ (.slice a' 0 c') → RRead w B t (.slice (some ⟨b, off, none⟩) q.length c) rd wr 0 q [] e w') := hide fun a' c' w' e h5 h6 h7 => by
          subst h7
          have h8 : ∃ o', a' = some ⟨b, o', none⟩ := by rcases h5 with h5 | h5 <;> exact ⟨_, h5⟩
          obtain ⟨o', rfl⟩ := h8
          refine ⟨_, _, c', h6, HP.out.bys.keep fun k hk _ => Below.heap_setCell _ _ _ _ ?_, HP.out.set 0 _ rfl (.inr (.inl ⟨_, _, rfl, rfl⟩)) (by simp) (by simp) HP.out.lr HP.out.lw (.inr ⟨b, o', rfl, hbt, hBb, hbl⟩), (Turned.refl _ _).set (.inl rfl), fun b e => e⟩
          obtain rfl : b = k := by simpa [Value.ownBlock] using hk
          exact hbt
        rcases (show q.length < n ∨ n = q.length by omega) with hlt | rfl
        case' inl => have d4 : (q.length : Int) < (n : Int) := by omega
        case' inr => have d4 : ¬ (q.length : Int) < (q.length : Int) := by omega
        all_goals
          rcases (show c = q.length ∨ q.length < c by omega) with rfl | hc
          · go_enter Tryz.func165, Tryz.ntmps165
            go_wp2
            go_ret2
            exact HF.out _ _ _ _ (.inl rfl) rfl rfl
          · have d8 : ¬ c = q.length := by omega
            go_enter Tryz.func165, Tryz.ntmps165
            go_wp2
            go_ret2
            exact HF.out _ _ _ _ (.inr rfl) rfl rfl

set_option maxRecDepth 100000 in
set_option maxHeartbeats 1000000 in
theorem Kp_rread_any (n : Int) (B t : Nat) (a : Option Addr) (c : Nat) (q : List UInt8) (rd wr : Nat) (w : World) (h : RP w B t a c q rd wr) :
    Calls Tryz.prog 165 #[.pointer (some ⟨t, 0, none⟩), .int .i64 n] w (RRead w B t (.slice a q.length c) rd wr (Kp_rdE n q.length rd wr) (rdB n q rd wr) (rdQ n q rd wr)) := by
  have HP := hide h
  have h1 := h.c0
  have h2 := h.c1
  have h3 := h.c2
  unfold rdB rdQ
  by_cases hi : inN n = false
  · have he : Kp_rdE n q.length rd wr = 4 := by rw [Kp_rdE, if_pos hi]
    rw [he, if_neg (by decide), if_neg (by decide)]
    have hn := inN_no hi
    have HF : Hid (RRead w B t (.slice a q.length c) rd wr 4 [] q (.returned (.tuple #[.slice none 0 0, .int .i64 4])) w) := hide ⟨_, a, c, rfl, .inl ⟨rfl, rfl⟩, h, Turned.refl _ _, fun b e => e⟩
    clear h he hi
    rcases hn with hn | ⟨hn, hn2⟩
    · go_enter Tryz.func165, Tryz.ntmps165
      go_wp2
      go_ret2
      exact HF.out
    · have d1 : ¬ n < 1 := by omega
      go_enter Tryz.func165, Tryz.ntmps165
      go_wp2
      go_ret2
      exact HF.out
  · have hi' : inN n = true := by simpa using hi
    obtain ⟨m, rfl, hm1, hm2⟩ := inN_nat hi'
    simp only [Int.toNat_natCast]
    have d1 : ¬ (m : Int) < 1 := by omega
    have d2 : ¬ (1048576 : Int) < (m : Int) := by omega
    by_cases hr : rd = 0
    · subst hr
      have he : Kp_rdE m q.length 0 wr = 51 := by rw [Kp_rdE, if_neg hi, if_pos rfl]
      rw [he, if_neg (by decide), if_neg (by decide)]
      have HF : Hid (RRead w B t (.slice a q.length c) 0 wr 51 [] q (.returned (.tuple #[.slice none 0 0, .int .i64 51])) w) := hide ⟨_, a, c, rfl, .inl ⟨rfl, rfl⟩, h, Turned.refl _ _, fun b e => e⟩
      clear h he hi hi'
      go_enter Tryz.func165, Tryz.ntmps165
      go_wp2
      go_ret2
      exact HF.out
    · by_cases hb : q.length = 0 ∧ 0 < wr
      · have he : Kp_rdE m q.length rd wr = 52 := by rw [Kp_rdE, if_neg hi, if_neg hr, if_pos (decide_eq_true hb)]
        rw [he, if_neg (by decide), if_neg (by decide)]
        have HF : Hid (RRead w B t (.slice a q.length c) rd wr 52 [] q (.returned (.tuple #[.slice none 0 0, .int .i64 52])) w) := hide ⟨_, a, c, rfl, .inl ⟨rfl, rfl⟩, h, Turned.refl _ _, fun b e => e⟩
        have d3 : ((rd : Int) == 0) = false := by simp; omega
        obtain ⟨hq0, hw⟩ := hb
        have d4 : (0 : Int) < (wr : Int) := by omega
        have HQ := hide hq0
        rw [hq0] at h1
        clear h he hi hi' hq0
        go_enter Tryz.func165, Tryz.ntmps165
        go_wp2
        go_ret2
        exact HF.out
      · have he : Kp_rdE m q.length rd wr = 0 := by rw [Kp_rdE, if_neg hi, if_neg hr, if_neg (by simpa using hb)]
        rw [he, if_pos rfl, if_pos rfl]
        exact rread_ok m B t a c q rd wr w h hm1 hm2 (by omega) hb
end Go.Proofs.YtdmkjbdlidadiaaGreat

/- The reference's pipe: Write. -/
namespace Go.Proofs.YtdmkjbdlidadiaaGreat
open Go.RowKit

def RWrite (w : World) (B t : Nat) (va : Value) (rd wr : Nat) (N : Nat) (E : Int) (q' : List UInt8) (e : Ending) (w' : World) : Prop :=
  ∃ a' c', e = .returned (.tuple #[.int .i64 (N : Int), .int .i64 E]) ∧ RP w' B t a' c' q' rd wr ∧ Turned (fun k => k = t) w w' ∧ ∀ b, (Value.slice a' q'.length c').ownBlock = some b → va.ownBlock = some b ∨ w.heap.size ≤ b

theorem rwrite_facts {w : World} {B t : Nat} {a : Option Addr} {c : Nat} {q : List UInt8} {rd wr : Nat} (h : RP w B t a c q rd wr) (hB : B ≤ w.heap.size) {a1 : Option Addr} {N cx : Nat} {X : List UInt8} (hx : Bys w (.slice a1 N cx) X) (hXl : X.length = N) (hN : 1 ≤ N) (hfit : q.length + N ≤ 4096) :
    ∃ s1 w2 sa sc w3, Hid ((Builtin.append_ #[40, 40] 40 #[.slice none 0 0, .slice a q.length c]).run Tryz.prog w.drew = .ok s1 w2) ∧ Hid ((Builtin.append_ #[40, 40] 40 #[s1, .slice a1 N cx]).run Tryz.prog w2 = .ok (.slice sa (q.length + N) sc) w3) ∧
      w3.cell? ⟨t, 0, none⟩ = some (.slice a q.length c) ∧ w3.frozen? ⟨t, 0, none⟩ = false ∧ Hid (∀ w' e E, w' = w3.setCell ⟨t, 0, none⟩ (.slice sa (q.length + N) sc) → e = .returned (.tuple #[.int .i64 (N : Int), .int .i64 E]) → RWrite w B t (.slice a q.length c) rd wr N E (q ++ X) e w') := by
  obtain ⟨s1, w2, hr1, HO1, hg1, hb1⟩ := run_append_bytes w.drew 40 w.heap.size (.slice none 0 0) (.slice a q.length c) [] q (World.ownsRow_nil _ _ _ _) (h.bys.below (Below.refl _ w).drew) (by have := h.lq; simp; omega) (Nat.le_refl _)
  rw [List.nil_append] at HO1
  have hB2 : Below w.heap.size w w2 := (Below.refl _ w).drew.grown hg1 (Nat.le_refl _) (fun j e => by cases e)
  have hz2 := hB2.size
  obtain ⟨s2, w3, hr2, HO2, hg2, hb2⟩ := run_append_bytes w2 40 w.heap.size s1 (.slice a1 N cx) q X HO1.out (hx.below hB2) (by have := h.lq; omega) hz2
  have hB3 : Below w.heap.size w w3 := hB2.grown hg2 hz2 (fun j e => (HO1.out.lt j e).1)
  have hql : (q ++ X).length = q.length + N := by rw [List.length_append, hXl]
  obtain ⟨sa, sc, rfl⟩ := owns_slice HO2.out
  have hcap := owns_cap HO2.out
  have hO2 := HO2.out
  have hP3 := h.below hB3
  have htl := h.lt
  refine ⟨s1, w2, sa, sc, w3, hr1, by rw [← hql]; exact hr2, hP3.c0, hP3.soft 0, fun w' e E hw he => ?_⟩
  subst hw
  have hblk : ∀ b, (Value.slice sa (q ++ X).length sc).ownBlock = some b → w.heap.size ≤ b ∧ b < w3.heap.size := fun b e => hO2.lt b e
  refine ⟨sa, sc, he, hP3.set 0 _ (by rw [hql]; rfl) (Bys.of_owns hO2) hcap (by omega) h.lr h.lw ?_, (Turned.of_below (S := fun k => k = t) hB3).set (.inl rfl), fun b e => .inr (hblk b e).1⟩
  right
  rcases hO2.2 with ⟨h0, h1⟩ | ⟨g, c, cur, h1, h2, h3, _⟩
  · omega
  · cases h1
    have := hblk g rfl
    exact ⟨g, 0, rfl, by omega, by omega, by omega⟩

set_option maxRecDepth 100000 in
set_option maxHeartbeats 4000000 in
theorem Kp_rwrite_any (most : Int) (B t : Nat) (a : Option Addr) (c : Nat) (q x : List UInt8) (a1 : Option Addr) (n cx : Nat) (rd wr : Nat) (w : World) (h : RP w B t a c q rd wr) (hB : B ≤ w.heap.size) (hx : Bys w (.slice a1 n cx) x) (hcx : x.length ≤ cx) (hxs : x.length ≤ 140737488351232) :
    Calls Tryz.prog 169 #[.pointer (some ⟨t, 0, none⟩), .slice a1 n cx, .int .i64 most] w (RWrite w B t (.slice a q.length c) rd wr (wrN x.length most q.length rd wr) (Kp_wrE x.length most q.length rd wr) (q ++ x.take (wrN x.length most q.length rd wr))) := by
  obtain ⟨a2, c2, he1, -⟩ := bys_form hx
  obtain ⟨rfl, rfl, rfl⟩ : a1 = a2 ∧ n = x.length ∧ cx = c2 := by simpa using he1
  clear he1
  have HP := hide h
  have HX := hide hx
  have h1 := h.c0
  have h2 := h.c1
  have h3 := h.c2
  have hlq := h.lq
  have HF : Hid (∀ E, RWrite w B t (.slice a q.length c) rd wr 0 E q (.returned (.tuple #[.int .i64 ((0 : Nat) : Int), .int .i64 E])) w) := hide fun E => ⟨a, c, rfl, h, Turned.refl _ _, fun b e => .inl e⟩
  clear h hx
  unfold wrN Kp_wrE
  by_cases hr : refE x.length most rd wr = 0
  · obtain ⟨hl, hi, hw0, hr0⟩ := refE_zero hr
    obtain ⟨m, rfl, hm1, hm2⟩ := inN_nat hi
    rw [if_pos hr, if_pos hr]
    simp only [Int.toNat_natCast]
    clear hr hi
    have d0 : ¬ (1048576 : Int) < (x.length : Int) := by omega
    have d1 : ¬ (m : Int) < 1 := by omega
    have d2 : ¬ (1048576 : Int) < (m : Int) := by omega
    have d3 : ((wr : Int) == 0) = false := by simp; omega
    have d4 : ((rd : Int) == 0) = false := by simp; omega
    obtain ⟨room, hroom⟩ : ∃ room, room = 4096 - q.length := ⟨_, rfl⟩
    have hrv : (4096 : Int) - (q.length : Int) = (room : Int) := by omega
    by_cases hx0 : x.length = 0
    · obtain rfl : x = [] := List.length_eq_zero_iff.1 hx0
      rw [if_pos hx0]
      have hf : fitN ([] : List UInt8).length m q.length = 0 := by simp [fitN]
      rw [hf, List.take_zero, List.append_nil]
      simp only [List.length_nil] at *
      go_enter Tryz.func169, Tryz.ntmps169
      go_wp2
      go_ret2
      exact HF.out 0
    · rw [if_neg hx0]
      have d5 : ((x.length : Int) == 0) = false := by rw [beq_eq_false_iff_ne]; omega
      rcases (show (x.length ≤ 512 ∧ room < x.length) ∨ (512 < x.length ∧ room = 0) ∨ (0 < room ∧ x.length ≤ 512 ∧ x.length ≤ room) ∨ (0 < room ∧ 512 < x.length) by omega) with ⟨hs, hb⟩ | ⟨hs, hb⟩ | ⟨hr1, hs, hb⟩ | ⟨hr1, hs⟩
      · have hf : fitN x.length m q.length = 0 := by unfold fitN; rw [if_neg (by omega), if_pos (by omega)]
        rw [if_pos hf, hf, List.take_zero, List.append_nil]
        have d6 : (x.length : Int) ≤ 512 := by omega
        have d7 : (room : Int) < (x.length : Int) := by omega
        clear hf hroom
        go_enter Tryz.func169, Tryz.ntmps169
        go_wp2
        go_ret2
        exact HF.out 52
      · have hf : fitN x.length m q.length = 0 := by unfold fitN; rw [if_pos (by omega)]; omega
        rw [if_pos hf, hf, List.take_zero, List.append_nil]
        subst hb
        have d6 : ¬ (x.length : Int) ≤ 512 := by omega
        clear hf hroom
        go_enter Tryz.func169, Tryz.ntmps169
        go_wp2
        go_ret2
        exact HF.out 52
      · have hf : fitN x.length m q.length = x.length := by unfold fitN; rw [if_neg (by omega), if_neg (by omega)]
        rw [if_neg (by omega), hf, List.take_length]
        have d6 : (x.length : Int) ≤ 512 := by omega
        have d7 : ¬ (room : Int) < (x.length : Int) := by omega
        have d8 : ((room : Int) == 0) = false := by rw [beq_eq_false_iff_ne]; omega
        obtain ⟨-, b1, off1, rfl, -, -⟩ := bys_block HX.out (by omega)
        obtain ⟨s1, w2, sa, sc, w3, HR1, HR2, c3, f3, HFin⟩ := rwrite_facts HP.out hB HX.out rfl (by omega) (by omega)
        have d9 : (x.length : Int) ≤ (cx : Int) := by omega
        clear hf hroom HF
        all_goals
          go_enter Tryz.func169, Tryz.ntmps169
          go_wp2_with fail
          go_region_law (first | (refine step_append_run _ (by rfl) _ _ _ _ (by rfl) _ _ (by rfl) (by rfl) _ _ HR1.out ?_) | (refine step_append_run _ (by rfl) _ _ _ _ (by rfl) _ _ (by rfl) (by rfl) _ _ HR2.out ?_))
          all_goals
            go_wp2
            go_ret2
            exact HFin.out _ _ 0 rfl rfl
      · have hfe : fitN x.length m q.length = min x.length (min m room) := by unfold fitN; rw [if_pos (by omega), hroom]
        rw [if_neg (by omega), hfe]
        have d6 : ¬ (x.length : Int) ≤ 512 := by omega
        have d8 : ((room : Int) == 0) = false := by rw [beq_eq_false_iff_ne]; omega
        obtain ⟨-, b1, off1, rfl, -, -⟩ := bys_block HX.out (by omega)
        obtain ⟨N, hN⟩ : ∃ N, N = min x.length (min m room) := ⟨_, rfl⟩
        rw [← hN]
        have HXc : Hid (Bys w (.slice (some ⟨b1, off1, none⟩) N cx) (x.take N)) := hide (by simpa using bys_cut HX.out 0 N cx (by omega))
        obtain ⟨s1, w2, sa, sc, w3, HR1, HR2, c3, f3, HFin⟩ := rwrite_facts HP.out hB HXc.out (by simp; omega) (by omega) (by omega)
        have d9 : (N : Int) ≤ (cx : Int) := by omega
        clear hfe hroom HF HXc
        have hcs : (N = x.length ∧ x.length ≤ room ∧ x.length ≤ m) ∨ (N = room ∧ room < x.length ∧ room ≤ m) ∨ (N = m ∧ room < x.length ∧ m < room) ∨ (N = m ∧ x.length ≤ room ∧ m < x.length) := by omega
        clear hN
        rcases hcs with ⟨hNe, e1, e2⟩ | ⟨hNe, e1, e2⟩ | ⟨hNe, e1, e2⟩ | ⟨hNe, e1, e2⟩
        all_goals
          first
            | (have g1 : ¬ (room : Int) < (x.length : Int) := by omega
               have g2 : ¬ (m : Int) < (x.length : Int) := by omega
               subst hNe)
            | (have g1 : (room : Int) < (x.length : Int) := by omega
               have g2 : ¬ (m : Int) < (room : Int) := by omega
               subst hNe)
            | (have g1 : (room : Int) < (x.length : Int) := by omega
               have g2 : (m : Int) < (room : Int) := by omega
               subst hNe)
            | (have g1 : ¬ (room : Int) < (x.length : Int) := by omega
               have g2 : (m : Int) < (x.length : Int) := by omega
               subst hNe)
          go_enter Tryz.func169, Tryz.ntmps169
          go_wp2_with fail
          go_region_law (first | (refine step_append_run _ (by rfl) _ _ _ _ (by rfl) _ _ (by rfl) (by rfl) _ _ HR1.out ?_) | (refine step_append_run _ (by rfl) _ _ _ _ (by rfl) _ _ (by rfl) (by rfl) _ _ HR2.out ?_))
          all_goals
            go_wp2
            go_ret2
            exact HFin.out _ _ 0 rfl rfl
  · rw [if_neg hr, if_neg hr, List.take_zero, List.append_nil]
    unfold refE
    by_cases hl : 1048576 < x.length
    · rw [if_pos hl]
      have d0 : (1048576 : Int) < (x.length : Int) := by omega
      clear hr
      go_enter Tryz.func169, Tryz.ntmps169
      go_wp2
      go_ret2
      exact HF.out 5
    · rw [if_neg hl]
      have d0 : ¬ (1048576 : Int) < (x.length : Int) := by omega
      by_cases hi : inN most = false
      · rw [if_pos hi]
        have hn := inN_no hi
        clear hr hi
        rcases hn with hn | ⟨hn, hn2⟩
        · go_enter Tryz.func169, Tryz.ntmps169
          go_wp2
          go_ret2
          exact HF.out 4
        · have d1 : ¬ most < 1 := by omega
          go_enter Tryz.func169, Tryz.ntmps169
          go_wp2
          go_ret2
          exact HF.out 4
      · rw [if_neg hi]
        have hi' := inN_true (by simpa using hi : inN most = true)
        have d1 : ¬ most < 1 := by omega
        have d2 : ¬ 1048576 < most := by omega
        by_cases hw : wr = 0
        · subst hw
          rw [if_pos rfl]
          clear hr hi
          go_enter Tryz.func169, Tryz.ntmps169
          go_wp2
          go_ret2
          exact HF.out 51
        · rw [if_neg hw]
          have d3 : ((wr : Int) == 0) = false := by simp; omega
          by_cases hr0 : rd = 0
          · subst hr0
            rw [if_pos rfl]
            clear hr hi
            go_enter Tryz.func169, Tryz.ntmps169
            go_wp2
            go_ret2
            exact HF.out 53
          · exfalso
            apply hr
            unfold refE
            rw [if_neg hl, if_neg hi, if_neg hw, if_neg hr0]
end Go.Proofs.YtdmkjbdlidadiaaGreat

/- What the proof stands on, part 10: the contracts of the program's calls that it reaches. -/
import Derived.Test.YtibnpeipndkciaaKM9
import Derived.Deep.Cut
import Derived.Deep.RegionHeld3
import Derived.ProofKit
import Derived.OpenShut
import Derived.ChangeArms
import Derived.ChangeSlices
import Derived.SizedLaws
import Derived.Deep.Slices
/- Buffers' modes: Set, over any Raw. -/
namespace Go.Proofs.Ytibnpeipndkciaa
open Go.RowKit

def SS.brefuse (x : SS) (hasRaw : Bool) (mode size : Int) : Int := if x.refuse hasRaw ≠ 0 then x.refuse hasRaw else bref mode size
def SS.bset {S : Type} (D : RawD S) (x : SS) (s : S) (mode size : Int) : SS × Int × S :=
  if x.brefuse true mode size ≠ 0 then (x, x.brefuse true mode size, s)
  else (if (x.flush D s).2.1 = 0 then { (x.flush D s).1 with dir := x.dir, mode := mode, size := size } else { (x.flush D s).1 with dir := x.dir }, (x.flush D s).2.1, (x.flush D s).2.2)
theorem brefuse_ok {x : SS} {b : Bool} {mode size : Int} (h : x.brefuse b mode size = 0) : x.refuse b = 0 ∧ bref mode size = 0 := by
  unfold SS.brefuse at h
  split at h
  · contradiction
  rename_i h1
  exact ⟨by simpa using h1, h⟩
set_option maxRecDepth 100000 in
set_option maxHeartbeats 1000000 in
theorem brefusal_any (x : SS) (oa ia ba : Option Addr) (oc ic bc : Nat) (T : TypeId) (v : Value) (mode size : Int) (w : World) (hi : x.inn.length ≤ 140737488351232) (hb : x.back.length ≤ 140737488351232) :
    Calls Try.prog 41 #[.agg #[.bool x.rd, .bool x.wt, .int .i64 x.mode, .int .i64 x.size, .slice oa x.out.length oc, .slice ia x.inn.length ic, .slice ba x.back.length bc, .int .i64 x.dir, .bool x.fin, .bool x.bad, .bool x.closed], .iface T v, .int .i64 mode, .int .i64 size] w fun e w' => e = .returned (.int .i64 (x.brefuse true mode size)) ∧ Below w.heap.size w w' := by
  have HC := hide (fun W => scheck_any x oa ia ba oc ic bc W hi hb)
  generalize hr : x.brefuse true mode size = r
  unfold SS.brefuse SS.refuse at hr
  cases h1 : x.may with
  | false =>
    rw [h1] at HC
    simp only [Bool.false_eq_true, if_false] at HC
    have HR : Hid (51 = r) := hide (by rw [← hr, h1]; rfl)
    clear hr h1
    go_enter Try.func41, Try.ntmps41
    go_wp2_with fail
    have HB0 := hide (recv_below w (Obj.cells #[.bool x.rd, .bool x.wt, .int .i64 x.mode, .int .i64 x.size, .slice oa x.out.length oc, .slice ia x.inn.length ic, .slice ba x.back.length bc, .int .i64 x.dir, .bool x.fin, .bool x.bad, .bool x.closed] 39))
    generalize w.alloc (Obj.cells #[.bool x.rd, .bool x.wt, .int .i64 x.mode, .int .i64 x.size, .slice oa x.out.length oc, .slice ia x.inn.length ic, .slice ba x.back.length bc, .int .i64 x.dir, .bool x.fin, .bool x.bad, .bool x.closed] 39) = w0 at *
    refine (HC.out w0).mono ?_
    rintro _ w1 ⟨rfl, hB1⟩
    have HB1 := hide (HB0.out.trans (hB1.mono HB0.out.size))
    clear hB1
    go_wp2
    go_ret
    exact ⟨by rw [← HR.out]; rfl, HB1.out⟩
  | true =>
    rw [h1] at HC
    simp only [if_true] at HC
    rcases Bool.eq_false_or_eq_true x.closed with h2 | h2
    · have HR : Hid (113 = r) := hide (by rw [← hr, h1, h2]; rfl)
      have H2 := hide h2
      clear hr h1 h2
      go_enter Try.func41, Try.ntmps41
      go_wp2_with fail
      have HB0 := hide (recv_below w (Obj.cells #[.bool x.rd, .bool x.wt, .int .i64 x.mode, .int .i64 x.size, .slice oa x.out.length oc, .slice ia x.inn.length ic, .slice ba x.back.length bc, .int .i64 x.dir, .bool x.fin, .bool x.bad, .bool x.closed] 39))
      have HS0 := hide (StAt.new w x (.slice oa x.out.length oc) (.slice ia x.inn.length ic) (.slice ba x.back.length bc))
      generalize w.alloc (Obj.cells #[.bool x.rd, .bool x.wt, .int .i64 x.mode, .int .i64 x.size, .slice oa x.out.length oc, .slice ia x.inn.length ic, .slice ba x.back.length bc, .int .i64 x.dir, .bool x.fin, .bool x.bad, .bool x.closed] 39) = w0 at *
      refine (HC.out w0).mono ?_
      rintro _ w1 ⟨rfl, hB1⟩
      have HS1 := hide (HS0.out.below hB1)
      obtain ⟨-, -, -, -, -, -, -, -, -, -, c10⟩ := HS1.out.cs
      rw [H2.out] at c10
      have HB1 := hide (HB0.out.trans (hB1.mono HB0.out.size))
      clear hB1
      go_wp2
      go_ret
      exact ⟨by rw [← HR.out]; rfl, HB1.out⟩
    · have HR : Hid (bref mode size = r) := hide (by rw [← hr, h1, h2]; simp)
      have H2 := hide h2
      clear hr h1 h2
      go_enter Try.func41, Try.ntmps41
      go_wp2_with fail
      have HB0 := hide (recv_below w (Obj.cells #[.bool x.rd, .bool x.wt, .int .i64 x.mode, .int .i64 x.size, .slice oa x.out.length oc, .slice ia x.inn.length ic, .slice ba x.back.length bc, .int .i64 x.dir, .bool x.fin, .bool x.bad, .bool x.closed] 39))
      have HS0 := hide (StAt.new w x (.slice oa x.out.length oc) (.slice ia x.inn.length ic) (.slice ba x.back.length bc))
      generalize w.alloc (Obj.cells #[.bool x.rd, .bool x.wt, .int .i64 x.mode, .int .i64 x.size, .slice oa x.out.length oc, .slice ia x.inn.length ic, .slice ba x.back.length bc, .int .i64 x.dir, .bool x.fin, .bool x.bad, .bool x.closed] 39) = w0 at *
      refine (HC.out w0).mono ?_
      rintro _ w1 ⟨rfl, hB1⟩
      have HS1 := hide (HS0.out.below hB1)
      obtain ⟨-, -, -, -, -, -, -, -, -, -, c10⟩ := HS1.out.cs
      rw [H2.out] at c10
      have HB1 := hide (HB0.out.trans (hB1.mono HB0.out.size))
      clear hB1
      go_wp2_with (first | (go_at_call 25; refine (bref_any _ _ _).mono ?_; rintro _ _ ⟨rfl, rfl⟩) | fail)
      go_ret
      exact ⟨by rw [← HR.out]; rfl, HB1.out⟩
theorem SOut.below {S : Type} {At : World → (Nat → Prop) → S → Prop} (hT : ∀ s, OAt (fun w O => At w O s)) {w w2 w3 : World} {O : Nat → Prop} {x x' : SS} {s : S} {o i b : Value} (h : SOut At w O x s o i b w2) (hB : Below w2.heap.size w2 w3) (e1 : x'.out = x.out) (e2 : x'.inn = x.inn) (e3 : x'.back = x.back) : SOut At w O x' s o i b w3 := by
  obtain ⟨O', h1, h2, h3, h4, h5⟩ := h
  have hz := hB.size
  refine ⟨O', ?_, (hT s).keep h2 (fun j _ hj => hB.block j hj) hz, fun j e => Nat.lt_of_lt_of_le (h3 j e) hz, h4, h5.trans (Turned.of_below (S := O) hB) (fun _ _ e => e)⟩
  have h6 := (h1.below hB).mono (Q := fun k => w.heap.size ≤ k ∧ ¬ O' k ∧ k < w3.heap.size) fun k e => ⟨e.1, e.2.1, by have := e.2.2; omega⟩
  exact ⟨by rw [e1]; exact h6.so, by rw [e2]; exact h6.si, by rw [e3]; exact h6.sb, h6.po, h6.pi, h6.pb⟩
theorem SOut.more {S : Type} {At : World → (Nat → Prop) → S → Prop} {w w0 w3 : World} {O : Nat → Prop} {x : SS} {s : S} {o i b : Value} (h : SOut At w0 O x s o i b w3) (hB : Below w.heap.size w w0) : SOut At w O x s o i b w3 := by
  obtain ⟨O', h1, h2, h3, h4, h5⟩ := h
  have hz := hB.size
  exact ⟨O', h1.mono fun k e => ⟨by have := e.1; omega, e.2.1, e.2.2⟩, h2, h3, fun k e => (h4 k e).imp id (fun e => by omega), (Turned.of_below (S := O) hB).trans h5 (fun _ _ e => e)⟩
theorem SOut.of_own {S : Type} {At : World → (Nat → Prop) → S → Prop} (hT : ∀ s, OAt (fun w O => At w O s)) {w w3 : World} {O : Nat → Prop} {x : SS} {s : S} {o i b : Value} (hA : At w O s) (hO : ∀ j, O j → j < w.heap.size) (h1 : w3.ownsRow w.heap.size 5 1 o x.out.length (x.out.map bv)) (h2 : w3.ownsRow w.heap.size 5 1 i x.inn.length (x.inn.map bv)) (h3 : w3.ownsRow w.heap.size 5 1 b x.back.length (x.back.map bv)) (hB : Below w.heap.size w w3) : SOut At w O x s o i b w3 := by
  have hz := hB.size
  have far : ∀ k, w.heap.size ≤ k → ¬ O k := fun k h e => by have := hO k e; omega
  exact ⟨O, ⟨Sl.own h1, Sl.own h2, Sl.own h3, fun k e => ⟨(h1.lt k e).1, far k (h1.lt k e).1, (h1.lt k e).2⟩, fun k e => ⟨(h2.lt k e).1, far k (h2.lt k e).1, (h2.lt k e).2⟩, fun k e => ⟨(h3.lt k e).1, far k (h3.lt k e).1, (h3.lt k e).2⟩⟩, (hT s).keep hA (fun j _ hj => hB.block j hj) hz, fun j e => Nat.lt_of_lt_of_le (hO j e) hz, fun k e => .inl e, Turned.of_below (S := O) hB⟩
end Go.Proofs.Ytibnpeipndkciaa

/- Buffers' modes: Set, over any Raw. -/
namespace Go.Proofs.Ytibnpeipndkciaa
open Go.RowKit

theorem SOut.turned2 {S : Type} {At : World → (Nat → Prop) → S → Prop} (hT : ∀ s, OAt (fun w O => At w O s)) {w1 w2 wA wB : World} {O : Nat → Prop} {x x' : SS} {s : S} {o i b : Value} {g : Nat} (h : SOut At w1 O x s o i b w2) (hB : Below w2.heap.size w2 wA) (ht : Turned (fun k => k = g) wA wB) (e1 : x'.out = x.out) (e2 : x'.inn = x.inn) (e3 : x'.back = x.back) (hg : w2.heap.size ≤ g) : SOut At w1 O x' s o i b wB := by
  obtain ⟨O', h1, h2, h3, h4, h5⟩ := h
  have hzA := hB.size
  have hzB := ht.size
  have hz5 := h5.size
  have h6 := ((h1.below hB).turned ht (fun k e _ e' => by have := e.2.2; omega)).mono (Q := fun k => w1.heap.size ≤ k ∧ ¬ O' k ∧ k < wB.heap.size) fun k e => ⟨e.1, e.2.1, by have := e.2.2; omega⟩
  refine ⟨O', ⟨by rw [e1]; exact h6.so, by rw [e2]; exact h6.si, by rw [e3]; exact h6.sb, h6.po, h6.pi, h6.pb⟩, (hT s).keep ((hT s).keep h2 (fun j _ hj => hB.block j hj) hzA) (fun j e hj => ht.block j hj (fun e' => ?_)) hzB, fun j e => Nat.lt_of_lt_of_le (h3 j e) (by omega), h4, (h5.trans (Turned.of_below (S := O) hB) (fun _ _ e => e)).trans ht (fun k hk e => by omega)⟩
  have := h3 j e
  omega
set_option maxRecDepth 100000 in
set_option maxHeartbeats 4000000 in
theorem bset_any {S : Type} {D : RawD S} {T : TypeId} {v : Value} {fr fw : FuncId} {rok wok : S → Prop} {At : World → (Nat → Prop) → S → Prop} (R : RawM D T v fr fw rok wok At) (hT : ∀ s, OAt (fun w O => At w O s)) {G : Nat → S → Prop} (hG : Bears D rok wok G) {w : World} {O P : Nat → Prop} {s : S} {x : SS} {o i b : Value} (mode size : Int) (h : SIn w P x o i b) (hA : At w O s) (hO : ∀ j, O j → j < w.heap.size) (hg : G 2 s) (ho : x.out.length ≤ 140737488351232) (hi : x.inn.length ≤ 140737488351232) (hb : x.back.length ≤ 140737488351232) :
    Calls Try.prog 21 #[.agg #[.bool x.rd, .bool x.wt, .int .i64 x.mode, .int .i64 x.size, o, i, b, .int .i64 x.dir, .bool x.fin, .bool x.bad, .bool x.closed], .iface T v, .int .i64 mode, .int .i64 size] w fun e w' => ∃ o' i' b', e = .returned (.tuple #[.agg #[.bool (x.bset D s mode size).1.rd, .bool (x.bset D s mode size).1.wt, .int .i64 (x.bset D s mode size).1.mode, .int .i64 (x.bset D s mode size).1.size, o', i', b', .int .i64 (x.bset D s mode size).1.dir, .bool (x.bset D s mode size).1.fin, .bool (x.bset D s mode size).1.bad, .bool (x.bset D s mode size).1.closed], .int .i64 (x.bset D s mode size).2.1]) ∧ SOut At w O (x.bset D s mode size).1 (x.bset D s mode size).2.2 o' i' b' w' := by
  have HFl := hide (fun (W : World) (hW : Below w.heap.size w W) => sFlush_any R hT hG (h.below hW) ((hT s).keep hA (fun j _ hj => hW.block j hj) hW.size) (fun j e => Nat.lt_of_lt_of_le (hO j e) hW.size) hg ho hi hb)
  have HCp := hide (fun (W : World) (hW : Below w.heap.size w W) => bcopied_any x o i b P W (h.below hW) ho hi hb)
  obtain ⟨oa, oc, rfl, -⟩ := h.so
  obtain ⟨ia, ic, rfl, -⟩ := h.si
  obtain ⟨ba, bc, rfl, -⟩ := h.sb
  have HRf := hide (fun W => brefusal_any x oa ia ba oc ic bc T v mode size W hi hb)
  clear h
  generalize hq : x.bset D s mode size = q
  obtain ⟨qx, qe, qs⟩ := q
  unfold SS.bset at hq
  go_enter Try.func21, Try.ntmps21
  go_wp2_with fail
  have HB0 := hide ((recv_below w (Obj.cells #[.bool x.rd, .bool x.wt, .int .i64 x.mode, .int .i64 x.size, .slice oa x.out.length oc, .slice ia x.inn.length ic, .slice ba x.back.length bc, .int .i64 x.dir, .bool x.fin, .bool x.bad, .bool x.closed] 39)).trans ((recv_below (w.alloc (Obj.cells #[.bool x.rd, .bool x.wt, .int .i64 x.mode, .int .i64 x.size, .slice oa x.out.length oc, .slice ia x.inn.length ic, .slice ba x.back.length bc, .int .i64 x.dir, .bool x.fin, .bool x.bad, .bool x.closed] 39)) (Obj.cells #[.bool false, .bool false, .int .i64 0, .int .i64 0, .slice none 0 0, .slice none 0 0, .slice none 0 0, .int .i64 0, .bool false, .bool false, .bool false] 39)).mono (recv_below w (Obj.cells #[.bool x.rd, .bool x.wt, .int .i64 x.mode, .int .i64 x.size, .slice oa x.out.length oc, .slice ia x.inn.length ic, .slice ba x.back.length bc, .int .i64 x.dir, .bool x.fin, .bool x.bad, .bool x.closed] 39)).size))
  have HS0 := hide ((StAt.new w x (.slice oa x.out.length oc) (.slice ia x.inn.length ic) (.slice ba x.back.length bc)).below (recv_below _ (Obj.cells #[.bool false, .bool false, .int .i64 0, .int .i64 0, .slice none 0 0, .slice none 0 0, .slice none 0 0, .int .i64 0, .bool false, .bool false, .bool false] 39)))
  have HZ0 : Hid (((w.alloc (Obj.cells #[.bool x.rd, .bool x.wt, .int .i64 x.mode, .int .i64 x.size, .slice oa x.out.length oc, .slice ia x.inn.length ic, .slice ba x.back.length bc, .int .i64 x.dir, .bool x.fin, .bool x.bad, .bool x.closed] 39)).alloc (Obj.cells #[.bool false, .bool false, .int .i64 0, .int .i64 0, .slice none 0 0, .slice none 0 0, .slice none 0 0, .int .i64 0, .bool false, .bool false, .bool false] 39)).heap[w.heap.size + 1]? = some (Obj.cells #[.bool false, .bool false, .int .i64 0, .int .i64 0, .slice none 0 0, .slice none 0 0, .slice none 0 0, .int .i64 0, .bool false, .bool false, .bool false] 39)) := hide (by have := heap_alloc_new (w.alloc (Obj.cells #[.bool x.rd, .bool x.wt, .int .i64 x.mode, .int .i64 x.size, .slice oa x.out.length oc, .slice ia x.inn.length ic, .slice ba x.back.length bc, .int .i64 x.dir, .bool x.fin, .bool x.bad, .bool x.closed] 39)) (Obj.cells #[.bool false, .bool false, .int .i64 0, .int .i64 0, .slice none 0 0, .slice none 0 0, .slice none 0 0, .int .i64 0, .bool false, .bool false, .bool false] 39); rw [show (w.alloc (Obj.cells #[.bool x.rd, .bool x.wt, .int .i64 x.mode, .int .i64 x.size, .slice oa x.out.length oc, .slice ia x.inn.length ic, .slice ba x.back.length bc, .int .i64 x.dir, .bool x.fin, .bool x.bad, .bool x.closed] 39)).heap.size = w.heap.size + 1 from Array.size_push ..] at this; exact this)
  generalize (w.alloc (Obj.cells #[.bool x.rd, .bool x.wt, .int .i64 x.mode, .int .i64 x.size, .slice oa x.out.length oc, .slice ia x.inn.length ic, .slice ba x.back.length bc, .int .i64 x.dir, .bool x.fin, .bool x.bad, .bool x.closed] 39)).alloc (Obj.cells #[.bool false, .bool false, .int .i64 0, .int .i64 0, .slice none 0 0, .slice none 0 0, .slice none 0 0, .int .i64 0, .bool false, .bool false, .bool false] 39) = w0 at *
  have hz0 : w.heap.size + 1 < w0.heap.size := (Array.getElem?_eq_some_iff.1 HZ0.out).1
  refine (HRf.out _).mono ?_
  rintro _ w1 ⟨rfl, hB1⟩
  have HB1 := hide (HB0.out.trans (hB1.mono HB0.out.size))
  have HS1 := hide (HS0.out.below hB1)
  have HZ1 := hide ((hB1.block (w.heap.size + 1) hz0).trans HZ0.out)
  have hz1 := hB1.size
  clear hB1 HS0 HZ0 HB0 HRf
  obtain ⟨c0, c1, c2, c3, c4, c5, c6, c7, c8, c9, c10⟩ := HS1.out.cs
  by_cases hn : x.brefuse true mode size = 0
  case neg =>
    rw [if_pos hn] at hq
    obtain ⟨rfl, rfl, rfl⟩ : x = qx ∧ x.brefuse true mode size = qe ∧ s = qs := by simpa using hq
    obtain ⟨nw, hnw⟩ : ∃ nw, nw = x.brefuse true mode size := ⟨_, rfl⟩
    rw [← hnw] at hn ⊢
    have HNw := hide hnw
    have hn2 : (nw == 0) = false := by simp [hn]
    have hn3 : (nw != 0) = true := by simp [hn]
    clear hq hnw HFl
    go_wp2_with fail
    refine (HCp.out _ HB1.out).mono ?_
    rintro _ w2 ⟨o1, i1, b1, rfl, y3, y4, y5, hB2⟩
    have hOu := SOut.of_own hT ((hT s).keep hA (fun j _ hj => HB1.out.block j hj) HB1.out.size) (fun j e => Nat.lt_of_lt_of_le (hO j e) HB1.out.size) y3 y4 y5 hB2
    obtain ⟨a1, k1, rfl⟩ := owns_slice y3
    obtain ⟨a2, k2, rfl⟩ := owns_slice y4
    obtain ⟨a3, k3, rfl⟩ := owns_slice y5
    have HOu := hide hOu
    have HZ3 := hide ((hB2.block (w.heap.size + 1) (by omega)).trans HZ1.out)
    clear hOu y3 y4 y5 hB2 c0 c1 c2 c3 c4 c5 c6 c7 c8 c9 c10
    have z0 := cell_of_row w2 (w.heap.size + 1) 0 _ _ _ HZ3.out
    have z1 := cell_of_row w2 (w.heap.size + 1) 1 _ _ _ HZ3.out
    have z2 := cell_of_row w2 (w.heap.size + 1) 2 _ _ _ HZ3.out
    have z3 := cell_of_row w2 (w.heap.size + 1) 3 _ _ _ HZ3.out
    have z4 := cell_of_row w2 (w.heap.size + 1) 4 _ _ _ HZ3.out
    have z5 := cell_of_row w2 (w.heap.size + 1) 5 _ _ _ HZ3.out
    have z6 := cell_of_row w2 (w.heap.size + 1) 6 _ _ _ HZ3.out
    have z7 := cell_of_row w2 (w.heap.size + 1) 7 _ _ _ HZ3.out
    have z8 := cell_of_row w2 (w.heap.size + 1) 8 _ _ _ HZ3.out
    have z9 := cell_of_row w2 (w.heap.size + 1) 9 _ _ _ HZ3.out
    have z10 := cell_of_row w2 (w.heap.size + 1) 10 _ _ _ HZ3.out
    have u0 := frozen_of_row w2 (w.heap.size + 1) 0 _ _ HZ3.out
    have u1 := frozen_of_row w2 (w.heap.size + 1) 1 _ _ HZ3.out
    have u2 := frozen_of_row w2 (w.heap.size + 1) 2 _ _ HZ3.out
    have u3 := frozen_of_row w2 (w.heap.size + 1) 3 _ _ HZ3.out
    have u4 := frozen_of_row w2 (w.heap.size + 1) 4 _ _ HZ3.out
    have u5 := frozen_of_row w2 (w.heap.size + 1) 5 _ _ HZ3.out
    have u6 := frozen_of_row w2 (w.heap.size + 1) 6 _ _ HZ3.out
    have u7 := frozen_of_row w2 (w.heap.size + 1) 7 _ _ HZ3.out
    have u8 := frozen_of_row w2 (w.heap.size + 1) 8 _ _ HZ3.out
    have u9 := frozen_of_row w2 (w.heap.size + 1) 9 _ _ HZ3.out
    have u10 := frozen_of_row w2 (w.heap.size + 1) 10 _ _ HZ3.out
    simp at z0 z1 z2 z3 z4 z5 z6 z7 z8 z9 z10
    go_wp2
    obtain ⟨e1, e2⟩ := st_fill w2 (w.heap.size + 1) x (.slice a1 x.out.length k1) (.slice a2 x.inn.length k2) (.slice a3 x.back.length k3) HZ3.out
    refine bodyPost_ret (res_two rfl _ (w.heap.size + 1) rfl x _ _ _ e1) rfl ?_
    exact ⟨_, _, _, by rw [← HNw.out]; rfl, SOut.fin hT HOu.out HB1.out (by omega) (Nat.le_succ _) hO e2⟩
  rw [if_neg (by simp [hn])] at hq
  rw [hn]
  have hp := HFl.out _ HB1.out
  clear HFl HCp hn
  generalize x.flush D s = X at *
  obtain ⟨fx, fe, fs⟩ := X
  simp only at hp hq
  have HP := hide hp
  clear hp
  go_wp2_with fail
  refine HP.out.mono ?_
  rintro _ w2 ⟨o1, i1, b1, rfl, hS⟩
  obtain ⟨a1, k1, rfl, -⟩ := hS.choose_spec.1.so
  obtain ⟨a2, k2, rfl, -⟩ := hS.choose_spec.1.si
  obtain ⟨a3, k3, rfl, -⟩ := hS.choose_spec.1.sb
  have hTu : Turned O w1 w2 := by obtain ⟨_, _, _, _, _, t⟩ := hS; exact t
  have HOu := hide hS
  have hz2 := hTu.size
  have HS2 : Hid (StAt w2 w.heap.size x (.slice oa x.out.length oc) (.slice ia x.inn.length ic) (.slice ba x.back.length bc)) := hide ((hTu.block _ (by omega) (fun e => by have := hO _ e; omega)).trans HS1.out)
  have HZ2 := hide ((hTu.block (w.heap.size + 1) (by omega) (fun e => by have := hO _ e; omega)).trans HZ1.out)
  clear hS hTu HS1 HZ1 c0 c1 c2 c3 c4 c5 c6 c7 c8 c9 c10 HP
  have hBA := recv_below w2 (Obj.cells #[.bool fx.rd, .bool fx.wt, .int .i64 fx.mode, .int .i64 fx.size, .slice a1 fx.out.length k1, .slice a2 fx.inn.length k2, .slice a3 fx.back.length k3, .int .i64 fx.dir, .bool fx.fin, .bool fx.bad, .bool fx.closed] 39)
  have hzA : (w2.alloc (Obj.cells #[.bool fx.rd, .bool fx.wt, .int .i64 fx.mode, .int .i64 fx.size, .slice a1 fx.out.length k1, .slice a2 fx.inn.length k2, .slice a3 fx.back.length k3, .int .i64 fx.dir, .bool fx.fin, .bool fx.bad, .bool fx.closed] 39)).heap.size = w2.heap.size + 1 := Array.size_push ..
  have HSA := hide (HS2.out.below hBA)
  have HZA := hide ((hBA.block (w.heap.size + 1) (by omega)).trans HZ2.out)
  have HFA := hide (StAt.new w2 fx (.slice a1 fx.out.length k1) (.slice a2 fx.inn.length k2) (.slice a3 fx.back.length k3))
  have HOA := HOu
  have HBA := hide hBA
  have hg1 : w2.heap.size ≤ w2.heap.size := Nat.le_refl _
  have hzw : w.heap.size ≤ w1.heap.size := by omega
  clear HS2 HZ2 hBA HOu
  go_upto_region 5 with fail
  have hg2 : w.heap.size + 1 < w2.heap.size := by omega
  generalize w2.alloc (Obj.cells #[.bool fx.rd, .bool fx.wt, .int .i64 fx.mode, .int .i64 fx.size, .slice a1 fx.out.length k1, .slice a2 fx.inn.length k2, .slice a3 fx.back.length k3, .int .i64 fx.dir, .bool fx.fin, .bool fx.bad, .bool fx.closed] 39) = wA at *
  obtain ⟨g2, hg2e⟩ : ∃ g2, g2 = w2.heap.size := ⟨_, rfl⟩
  rw [← hg2e] at HFA hg2 ⊢
  have hg1 : w2.heap.size ≤ g2 := by omega
  have HG2 := hide hg2e
  clear hg2e
  obtain ⟨-, -, -, -, -, -, -, c7, -, -, -⟩ := HSA.out.cs
  have f7 := frozen_of_row _ g2 7 _ _ HFA.out
  have d7 := HFA.out.cs.2.2.2.2.2.2.2.1
  have e7 := Go.heap_setCell_same _ g2 7 _ _ (.int .i64 x.dir) HFA.out
  simp only [List.setIfInBounds_toArray, List.set_cons_zero, List.set_cons_succ] at e7
  have HT7 : Hid (Turned (fun k => k = g2) wA (wA.setCell ⟨g2, 7, none⟩ (.int .i64 x.dir))) := hide ((Turned.refl (fun k => k = g2) _).set (.inl rfl))
  have hg5 : g2 < wA.heap.size := (Array.getElem?_eq_some_iff.1 HFA.out).1
  have HZ5 := hide ((HT7.out.block (w.heap.size + 1) (by omega) (by omega)).trans HZA.out)
  go_upto_region 6 with fail
  clear c7 f7 d7
  generalize wA.setCell ⟨g2, 7, none⟩ (.int .i64 x.dir) = wB at *
  by_cases he : fe = 0
  · subst he
    rw [if_pos rfl] at hq
    obtain ⟨hq1, rfl, rfl⟩ : ({ fx with dir := x.dir, mode := mode, size := size } : SS) = qx ∧ 0 = qe ∧ fs = qs := by simpa using hq
    have f2 := frozen_of_row _ g2 2 _ _ e7
    have f3 := frozen_of_row _ g2 3 _ _ e7
    have m2 := cell_of_row _ g2 2 _ _ _ e7
    have m3 := cell_of_row _ g2 3 _ _ _ e7
    have e8 := Go.heap_setCell_same _ g2 2 _ _ (.int .i64 mode) e7
    simp only [List.setIfInBounds_toArray, List.set_cons_zero, List.set_cons_succ] at e8
    have f3b := frozen_of_row _ g2 3 _ _ e8
    have m3b := cell_of_row _ g2 3 _ _ _ e8
    have e9 := Go.heap_setCell_same _ g2 3 _ _ (.int .i64 size) e8
    simp only [List.setIfInBounds_toArray, List.set_cons_zero, List.set_cons_succ] at e9
    simp at m2 m3 m3b
    have hT8 : Turned (fun k => k = g2) wB ((wB.setCell ⟨g2, 2, none⟩ (.int .i64 mode)).setCell ⟨g2, 3, none⟩ (.int .i64 size)) := ((Turned.refl (fun k => k = g2) wB).set (j := 2) (u := .int .i64 mode) (.inl rfl)).set (j := 3) (u := .int .i64 size) (.inl rfl)
    have HT9 := hide (HT7.out.trans hT8 (fun _ _ e => e))
    have HZ9 := hide ((HT9.out.block (w.heap.size + 1) (by omega) (by omega)).trans HZA.out)
    have HE9 := hide e9
    have HQ1 := hide hq1
    clear hT8 e7 e8 e9 hq hq1 HT7 HZ5
    go_upto_region 8 with fail
    generalize (wB.setCell ⟨g2, 2, none⟩ (.int .i64 mode)).setCell ⟨g2, 3, none⟩ (.int .i64 size) = wC at *
    have HS9 : Hid (StAt wC g2 qx (.slice a1 fx.out.length k1) (.slice a2 fx.inn.length k2) (.slice a3 fx.back.length k3)) := hide (by rw [← HQ1.out]; exact HE9.out)
    have ho1 : fx.out = qx.out := by rw [← HQ1.out]
    have ho2 : fx.inn = qx.inn := by rw [← HQ1.out]
    have ho3 : fx.back = qx.back := by rw [← HQ1.out]
    have HOQ : Hid (SOut At w1 O qx fs (.slice a1 fx.out.length k1) (.slice a2 fx.inn.length k2) (.slice a3 fx.back.length k3) wC) := hide (SOut.turned2 hT HOA.out HBA.out HT9.out ho1.symm ho2.symm ho3.symm hg1)
    rw [ho1, ho2, ho3] at HS9 HOQ
    clear ho1 ho2 ho3 HE9 f2 f3 m2 m3 m3b f3b HQ1 HOA HT9
    obtain ⟨n0, n1, n2, n3, n4, n5, n6, n7, n8, n9, n10⟩ := HS9.out.cs
    have z0 := cell_of_row wC (w.heap.size + 1) 0 _ _ _ HZ9.out
    have z1 := cell_of_row wC (w.heap.size + 1) 1 _ _ _ HZ9.out
    have z2 := cell_of_row wC (w.heap.size + 1) 2 _ _ _ HZ9.out
    have z3 := cell_of_row wC (w.heap.size + 1) 3 _ _ _ HZ9.out
    have z4 := cell_of_row wC (w.heap.size + 1) 4 _ _ _ HZ9.out
    have z5 := cell_of_row wC (w.heap.size + 1) 5 _ _ _ HZ9.out
    have z6 := cell_of_row wC (w.heap.size + 1) 6 _ _ _ HZ9.out
    have z7 := cell_of_row wC (w.heap.size + 1) 7 _ _ _ HZ9.out
    have z8 := cell_of_row wC (w.heap.size + 1) 8 _ _ _ HZ9.out
    have z9 := cell_of_row wC (w.heap.size + 1) 9 _ _ _ HZ9.out
    have z10 := cell_of_row wC (w.heap.size + 1) 10 _ _ _ HZ9.out
    have u0 := frozen_of_row wC (w.heap.size + 1) 0 _ _ HZ9.out
    have u1 := frozen_of_row wC (w.heap.size + 1) 1 _ _ HZ9.out
    have u2 := frozen_of_row wC (w.heap.size + 1) 2 _ _ HZ9.out
    have u3 := frozen_of_row wC (w.heap.size + 1) 3 _ _ HZ9.out
    have u4 := frozen_of_row wC (w.heap.size + 1) 4 _ _ HZ9.out
    have u5 := frozen_of_row wC (w.heap.size + 1) 5 _ _ HZ9.out
    have u6 := frozen_of_row wC (w.heap.size + 1) 6 _ _ HZ9.out
    have u7 := frozen_of_row wC (w.heap.size + 1) 7 _ _ HZ9.out
    have u8 := frozen_of_row wC (w.heap.size + 1) 8 _ _ HZ9.out
    have u9 := frozen_of_row wC (w.heap.size + 1) 9 _ _ HZ9.out
    have u10 := frozen_of_row wC (w.heap.size + 1) 10 _ _ HZ9.out
    simp at z0 z1 z2 z3 z4 z5 z6 z7 z8 z9 z10
    go_wp2
    obtain ⟨e1, e2⟩ := st_fill wC (w.heap.size + 1) qx (.slice a1 qx.out.length k1) (.slice a2 qx.inn.length k2) (.slice a3 qx.back.length k3) HZ9.out
    refine bodyPost_ret (res_two rfl _ (w.heap.size + 1) rfl qx _ _ _ e1) rfl ?_
    exact ⟨_, _, _, rfl, SOut.fin hT HOQ.out HB1.out (by omega) (Nat.le_succ _) hO e2⟩
  · rw [if_neg he] at hq
    obtain ⟨hq1, rfl, rfl⟩ : ({ fx with dir := x.dir } : SS) = qx ∧ fe = qe ∧ fs = qs := by simpa using hq
    have he2 : (fe == 0) = false := by simpa using he
    have HE9 := hide e7
    have HQ1 := hide hq1
    have HT9 := HT7
    have HZ9 := HZ5
    clear e7 hq hq1 HT7 HZ5
    go_upto_region 8 with fail
    have HS9 : Hid (StAt wB g2 qx (.slice a1 fx.out.length k1) (.slice a2 fx.inn.length k2) (.slice a3 fx.back.length k3)) := hide (by rw [← HQ1.out]; exact HE9.out)
    have ho1 : fx.out = qx.out := by rw [← HQ1.out]
    have ho2 : fx.inn = qx.inn := by rw [← HQ1.out]
    have ho3 : fx.back = qx.back := by rw [← HQ1.out]
    have HOQ : Hid (SOut At w1 O qx fs (.slice a1 fx.out.length k1) (.slice a2 fx.inn.length k2) (.slice a3 fx.back.length k3) wB) := hide (SOut.turned2 hT HOA.out HBA.out HT9.out ho1.symm ho2.symm ho3.symm hg1)
    rw [ho1, ho2, ho3] at HS9 HOQ
    clear ho1 ho2 ho3 HE9 HQ1 HOA HT9
    obtain ⟨n0, n1, n2, n3, n4, n5, n6, n7, n8, n9, n10⟩ := HS9.out.cs
    have z0 := cell_of_row wB (w.heap.size + 1) 0 _ _ _ HZ9.out
    have z1 := cell_of_row wB (w.heap.size + 1) 1 _ _ _ HZ9.out
    have z2 := cell_of_row wB (w.heap.size + 1) 2 _ _ _ HZ9.out
    have z3 := cell_of_row wB (w.heap.size + 1) 3 _ _ _ HZ9.out
    have z4 := cell_of_row wB (w.heap.size + 1) 4 _ _ _ HZ9.out
    have z5 := cell_of_row wB (w.heap.size + 1) 5 _ _ _ HZ9.out
    have z6 := cell_of_row wB (w.heap.size + 1) 6 _ _ _ HZ9.out
    have z7 := cell_of_row wB (w.heap.size + 1) 7 _ _ _ HZ9.out
    have z8 := cell_of_row wB (w.heap.size + 1) 8 _ _ _ HZ9.out
    have z9 := cell_of_row wB (w.heap.size + 1) 9 _ _ _ HZ9.out
    have z10 := cell_of_row wB (w.heap.size + 1) 10 _ _ _ HZ9.out
    have u0 := frozen_of_row wB (w.heap.size + 1) 0 _ _ HZ9.out
    have u1 := frozen_of_row wB (w.heap.size + 1) 1 _ _ HZ9.out
    have u2 := frozen_of_row wB (w.heap.size + 1) 2 _ _ HZ9.out
    have u3 := frozen_of_row wB (w.heap.size + 1) 3 _ _ HZ9.out
    have u4 := frozen_of_row wB (w.heap.size + 1) 4 _ _ HZ9.out
    have u5 := frozen_of_row wB (w.heap.size + 1) 5 _ _ HZ9.out
    have u6 := frozen_of_row wB (w.heap.size + 1) 6 _ _ HZ9.out
    have u7 := frozen_of_row wB (w.heap.size + 1) 7 _ _ HZ9.out
    have u8 := frozen_of_row wB (w.heap.size + 1) 8 _ _ HZ9.out
    have u9 := frozen_of_row wB (w.heap.size + 1) 9 _ _ HZ9.out
    have u10 := frozen_of_row wB (w.heap.size + 1) 10 _ _ HZ9.out
    simp at z0 z1 z2 z3 z4 z5 z6 z7 z8 z9 z10
    go_wp2
    obtain ⟨e1, e2⟩ := st_fill wB (w.heap.size + 1) qx (.slice a1 qx.out.length k1) (.slice a2 qx.inn.length k2) (.slice a3 qx.back.length k3) HZ9.out
    refine bodyPost_ret (res_two rfl _ (w.heap.size + 1) rfl qx _ _ _ e1) rfl ?_
    exact ⟨_, _, _, rfl, SOut.fin hT HOQ.out HB1.out (by omega) (Nat.le_succ _) hO e2⟩
end Go.Proofs.Ytibnpeipndkciaa

/- Streams: the law's Given and Same. -/
namespace Go.Proofs.Ytibnpeipndkciaa
open Go.RowKit

set_option maxRecDepth 100000 in
set_option maxHeartbeats 4000000 in
theorem given_any (x : SS) (o i b : Value) (P : Nat → Prop) (w : World) (h : SIn w P x o i b) (ho : x.out.length ≤ 140737488351232) (hi : x.inn.length ≤ 140737488351232) (hb : x.back.length ≤ 140737488351232) :
    Calls Try.prog 22 #[.agg #[.bool x.rd, .bool x.wt, .int .i64 x.mode, .int .i64 x.size, o, i, b, .int .i64 x.dir, .bool x.fin, .bool x.bad, .bool x.closed]] w fun e w' => ∃ o' i' b', e = .returned (.agg #[.bool x.rd, .bool x.wt, .int .i64 x.mode, .int .i64 x.size, o', i', b', .int .i64 x.dir, .bool x.fin, .bool x.bad, .bool x.closed]) ∧ w'.ownsRow w.heap.size 5 1 o' x.out.length (x.out.map bv) ∧ w'.ownsRow w.heap.size 5 1 i' x.inn.length (x.inn.map bv) ∧ w'.ownsRow w.heap.size 5 1 b' x.back.length (x.back.map bv) ∧ Below w.heap.size w w' ∧ Ap3 o' i' b' := by
  have HOw := hide (fun (W : World) (hW : Below w.heap.size w W) => rown_any x o i b P W (h.below hW) ho hi hb)
  obtain ⟨oa, oc, rfl, -⟩ := h.so
  obtain ⟨ia, ic, rfl, -⟩ := h.si
  obtain ⟨ba, bc, rfl, -⟩ := h.sb
  clear h
  go_enter Try.func22, Try.ntmps22
  go_wp2_with fail
  have HB0 := hide ((recv_below w (Obj.cells #[.bool x.rd, .bool x.wt, .int .i64 x.mode, .int .i64 x.size, .slice oa x.out.length oc, .slice ia x.inn.length ic, .slice ba x.back.length bc, .int .i64 x.dir, .bool x.fin, .bool x.bad, .bool x.closed] 59)).trans ((recv_below (w.alloc (Obj.cells #[.bool x.rd, .bool x.wt, .int .i64 x.mode, .int .i64 x.size, .slice oa x.out.length oc, .slice ia x.inn.length ic, .slice ba x.back.length bc, .int .i64 x.dir, .bool x.fin, .bool x.bad, .bool x.closed] 59)) (Obj.cells #[.bool false, .bool false, .int .i64 0, .int .i64 0, .slice none 0 0, .slice none 0 0, .slice none 0 0, .int .i64 0, .bool false, .bool false, .bool false] 39)).mono (recv_below w (Obj.cells #[.bool x.rd, .bool x.wt, .int .i64 x.mode, .int .i64 x.size, .slice oa x.out.length oc, .slice ia x.inn.length ic, .slice ba x.back.length bc, .int .i64 x.dir, .bool x.fin, .bool x.bad, .bool x.closed] 59)).size))
  have HZ0 : Hid (((w.alloc (Obj.cells #[.bool x.rd, .bool x.wt, .int .i64 x.mode, .int .i64 x.size, .slice oa x.out.length oc, .slice ia x.inn.length ic, .slice ba x.back.length bc, .int .i64 x.dir, .bool x.fin, .bool x.bad, .bool x.closed] 59)).alloc (Obj.cells #[.bool false, .bool false, .int .i64 0, .int .i64 0, .slice none 0 0, .slice none 0 0, .slice none 0 0, .int .i64 0, .bool false, .bool false, .bool false] 39)).heap[w.heap.size + 1]? = some (Obj.cells #[.bool false, .bool false, .int .i64 0, .int .i64 0, .slice none 0 0, .slice none 0 0, .slice none 0 0, .int .i64 0, .bool false, .bool false, .bool false] 39)) := hide (by have := heap_alloc_new (w.alloc (Obj.cells #[.bool x.rd, .bool x.wt, .int .i64 x.mode, .int .i64 x.size, .slice oa x.out.length oc, .slice ia x.inn.length ic, .slice ba x.back.length bc, .int .i64 x.dir, .bool x.fin, .bool x.bad, .bool x.closed] 59)) (Obj.cells #[.bool false, .bool false, .int .i64 0, .int .i64 0, .slice none 0 0, .slice none 0 0, .slice none 0 0, .int .i64 0, .bool false, .bool false, .bool false] 39); rw [show (w.alloc (Obj.cells #[.bool x.rd, .bool x.wt, .int .i64 x.mode, .int .i64 x.size, .slice oa x.out.length oc, .slice ia x.inn.length ic, .slice ba x.back.length bc, .int .i64 x.dir, .bool x.fin, .bool x.bad, .bool x.closed] 59)).heap.size = w.heap.size + 1 from Array.size_push ..] at this; exact this)
  generalize (w.alloc (Obj.cells #[.bool x.rd, .bool x.wt, .int .i64 x.mode, .int .i64 x.size, .slice oa x.out.length oc, .slice ia x.inn.length ic, .slice ba x.back.length bc, .int .i64 x.dir, .bool x.fin, .bool x.bad, .bool x.closed] 59)).alloc (Obj.cells #[.bool false, .bool false, .int .i64 0, .int .i64 0, .slice none 0 0, .slice none 0 0, .slice none 0 0, .int .i64 0, .bool false, .bool false, .bool false] 39) = w0 at *
  have hz0 : w.heap.size + 1 < w0.heap.size := (Array.getElem?_eq_some_iff.1 HZ0.out).1
  refine (HOw.out _ HB0.out).mono ?_
  rintro _ w1 ⟨o1, i1, b1, rfl, y3, y4, y5, hB1, hAp⟩
  obtain ⟨a1, k1, rfl⟩ := owns_slice y3
  obtain ⟨a2, k2, rfl⟩ := owns_slice y4
  obtain ⟨a3, k3, rfl⟩ := owns_slice y5
  have HZ1 := hide ((hB1.block (w.heap.size + 1) hz0).trans HZ0.out)
  have HB1 := hide (HB0.out.trans (hB1.mono HB0.out.size))
  have HY := hide (And.intro y3 (And.intro y4 y5))
  have HAp := hide hAp
  clear hAp y3 y4 y5 hB1 HZ0 HB0 HOw
  have z0 := cell_of_row w1 (w.heap.size + 1) 0 _ _ _ HZ1.out
  have z1 := cell_of_row w1 (w.heap.size + 1) 1 _ _ _ HZ1.out
  have z2 := cell_of_row w1 (w.heap.size + 1) 2 _ _ _ HZ1.out
  have z3 := cell_of_row w1 (w.heap.size + 1) 3 _ _ _ HZ1.out
  have z4 := cell_of_row w1 (w.heap.size + 1) 4 _ _ _ HZ1.out
  have z5 := cell_of_row w1 (w.heap.size + 1) 5 _ _ _ HZ1.out
  have z6 := cell_of_row w1 (w.heap.size + 1) 6 _ _ _ HZ1.out
  have z7 := cell_of_row w1 (w.heap.size + 1) 7 _ _ _ HZ1.out
  have z8 := cell_of_row w1 (w.heap.size + 1) 8 _ _ _ HZ1.out
  have z9 := cell_of_row w1 (w.heap.size + 1) 9 _ _ _ HZ1.out
  have z10 := cell_of_row w1 (w.heap.size + 1) 10 _ _ _ HZ1.out
  have u0 := frozen_of_row w1 (w.heap.size + 1) 0 _ _ HZ1.out
  have u1 := frozen_of_row w1 (w.heap.size + 1) 1 _ _ HZ1.out
  have u2 := frozen_of_row w1 (w.heap.size + 1) 2 _ _ HZ1.out
  have u3 := frozen_of_row w1 (w.heap.size + 1) 3 _ _ HZ1.out
  have u4 := frozen_of_row w1 (w.heap.size + 1) 4 _ _ HZ1.out
  have u5 := frozen_of_row w1 (w.heap.size + 1) 5 _ _ HZ1.out
  have u6 := frozen_of_row w1 (w.heap.size + 1) 6 _ _ HZ1.out
  have u7 := frozen_of_row w1 (w.heap.size + 1) 7 _ _ HZ1.out
  have u8 := frozen_of_row w1 (w.heap.size + 1) 8 _ _ HZ1.out
  have u9 := frozen_of_row w1 (w.heap.size + 1) 9 _ _ HZ1.out
  have u10 := frozen_of_row w1 (w.heap.size + 1) 10 _ _ HZ1.out
  simp at z0 z1 z2 z3 z4 z5 z6 z7 z8 z9 z10
  go_wp2
  obtain ⟨e1, e2⟩ := st_fill w1 (w.heap.size + 1) x (.slice a1 x.out.length k1) (.slice a2 x.inn.length k2) (.slice a3 x.back.length k3) HZ1.out
  refine bodyPost_ret (results_cell_row rfl _ _ (w.heap.size + 1) _ _ _ _ rfl e1 Try.underlying39 rfl (by kernel_rfl)) rfl ?_
  obtain ⟨hr1, hr2, hr3⟩ := HY.out
  exact ⟨_, _, _, rfl, owns_mono (owns_turned hr1 e2 (fun k e => by have := (hr1.lt k e).1; omega)) (by omega), owns_mono (owns_turned hr2 e2 (fun k e => by have := (hr2.lt k e).1; omega)) (by omega), owns_mono (owns_turned hr3 e2 (fun k e => by have := (hr3.lt k e).1; omega)) (by omega), HB1.out.trans (e2.below (fun k e => by omega) HB1.out.size), HAp.out⟩
set_option maxRecDepth 100000 in
set_option maxHeartbeats 4000000 in
theorem ssame_any (x : SS) (o i b p q r : Value) (P Q : Nat → Prop) (w : World) (h : SIn w P x o i b) (h' : SIn w Q x p q r) (ho : x.out.length ≤ 140737488351232) (hi : x.inn.length ≤ 140737488351232) (hb : x.back.length ≤ 140737488351232) :
    Calls Try.prog 24 #[.agg #[.bool x.rd, .bool x.wt, .int .i64 x.mode, .int .i64 x.size, o, i, b, .int .i64 x.dir, .bool x.fin, .bool x.bad, .bool x.closed], .agg #[.bool x.rd, .bool x.wt, .int .i64 x.mode, .int .i64 x.size, p, q, r, .int .i64 x.dir, .bool x.fin, .bool x.bad, .bool x.closed]] w fun e w' => e = .returned (.bool true) ∧ Below w.heap.size w w' := by
  obtain ⟨oa, oc, rfl, hb1, -⟩ := h.so
  obtain ⟨ia, ic, rfl, hb2, -⟩ := h.si
  obtain ⟨ba, bc, rfl, hb3, -⟩ := h.sb
  obtain ⟨pa, pc, rfl, hb4, -⟩ := h'.so
  obtain ⟨qa, qc, rfl, hb5, -⟩ := h'.si
  obtain ⟨ra, rc, rfl, hb6, -⟩ := h'.sb
  have HS1 := hide (fun (W : World) (hW : Below w.heap.size w W) => same_any (.slice oa x.out.length oc) (.slice pa x.out.length pc) x.out W (hb1.below hW) (hb4.below hW) (by unfold maxLen; omega))
  have HS2 := hide (fun (W : World) (hW : Below w.heap.size w W) => same_any (.slice ia x.inn.length ic) (.slice qa x.inn.length qc) x.inn W (hb2.below hW) (hb5.below hW) (by unfold maxLen; omega))
  have HS3 := hide (fun (W : World) (hW : Below w.heap.size w W) => same_any (.slice ba x.back.length bc) (.slice ra x.back.length rc) x.back W (hb3.below hW) (hb6.below hW) (by unfold maxLen; omega))
  clear h h' hb1 hb2 hb3 hb4 hb5 hb6
  go_enter Try.func24, Try.ntmps24
  go_upto_region 1 with fail
  have HB0 := hide ((recv_below w (Obj.cells #[.bool x.rd, .bool x.wt, .int .i64 x.mode, .int .i64 x.size, .slice oa x.out.length oc, .slice ia x.inn.length ic, .slice ba x.back.length bc, .int .i64 x.dir, .bool x.fin, .bool x.bad, .bool x.closed] 39)).trans ((recv_below (w.alloc (Obj.cells #[.bool x.rd, .bool x.wt, .int .i64 x.mode, .int .i64 x.size, .slice oa x.out.length oc, .slice ia x.inn.length ic, .slice ba x.back.length bc, .int .i64 x.dir, .bool x.fin, .bool x.bad, .bool x.closed] 39)) (Obj.cells #[.bool x.rd, .bool x.wt, .int .i64 x.mode, .int .i64 x.size, .slice pa x.out.length pc, .slice qa x.inn.length qc, .slice ra x.back.length rc, .int .i64 x.dir, .bool x.fin, .bool x.bad, .bool x.closed] 59)).mono (recv_below w (Obj.cells #[.bool x.rd, .bool x.wt, .int .i64 x.mode, .int .i64 x.size, .slice oa x.out.length oc, .slice ia x.inn.length ic, .slice ba x.back.length bc, .int .i64 x.dir, .bool x.fin, .bool x.bad, .bool x.closed] 39)).size))
  have HA0 := hide ((StAt.new w x (.slice oa x.out.length oc) (.slice ia x.inn.length ic) (.slice ba x.back.length bc)).below (recv_below _ (Obj.cells #[.bool x.rd, .bool x.wt, .int .i64 x.mode, .int .i64 x.size, .slice pa x.out.length pc, .slice qa x.inn.length qc, .slice ra x.back.length rc, .int .i64 x.dir, .bool x.fin, .bool x.bad, .bool x.closed] 59)))
  have HR0 : Hid (RSt ((w.alloc (Obj.cells #[.bool x.rd, .bool x.wt, .int .i64 x.mode, .int .i64 x.size, .slice oa x.out.length oc, .slice ia x.inn.length ic, .slice ba x.back.length bc, .int .i64 x.dir, .bool x.fin, .bool x.bad, .bool x.closed] 39)).alloc (Obj.cells #[.bool x.rd, .bool x.wt, .int .i64 x.mode, .int .i64 x.size, .slice pa x.out.length pc, .slice qa x.inn.length qc, .slice ra x.back.length rc, .int .i64 x.dir, .bool x.fin, .bool x.bad, .bool x.closed] 59)) (w.heap.size + 1) x (.slice pa x.out.length pc) (.slice qa x.inn.length qc) (.slice ra x.back.length rc)) := hide (by have := RSt.new (w.alloc (Obj.cells #[.bool x.rd, .bool x.wt, .int .i64 x.mode, .int .i64 x.size, .slice oa x.out.length oc, .slice ia x.inn.length ic, .slice ba x.back.length bc, .int .i64 x.dir, .bool x.fin, .bool x.bad, .bool x.closed] 39)) x (.slice pa x.out.length pc) (.slice qa x.inn.length qc) (.slice ra x.back.length rc); rw [show (w.alloc (Obj.cells #[.bool x.rd, .bool x.wt, .int .i64 x.mode, .int .i64 x.size, .slice oa x.out.length oc, .slice ia x.inn.length ic, .slice ba x.back.length bc, .int .i64 x.dir, .bool x.fin, .bool x.bad, .bool x.closed] 39)).heap.size = w.heap.size + 1 from Array.size_push ..] at this; exact this)
  generalize (w.alloc (Obj.cells #[.bool x.rd, .bool x.wt, .int .i64 x.mode, .int .i64 x.size, .slice oa x.out.length oc, .slice ia x.inn.length ic, .slice ba x.back.length bc, .int .i64 x.dir, .bool x.fin, .bool x.bad, .bool x.closed] 39)).alloc (Obj.cells #[.bool x.rd, .bool x.wt, .int .i64 x.mode, .int .i64 x.size, .slice pa x.out.length pc, .slice qa x.inn.length qc, .slice ra x.back.length rc, .int .i64 x.dir, .bool x.fin, .bool x.bad, .bool x.closed] 59) = w0 at *
  have HK := hide (fun (W : World) (hW : Below w0.heap.size w0 W) => (show (fun W => W.cell? ⟨w.heap.size, 0, none⟩ = some (.bool x.rd) ∧ W.cell? ⟨w.heap.size, 1, none⟩ = some (.bool x.wt) ∧ W.cell? ⟨w.heap.size, 2, none⟩ = some (.int .i64 x.mode) ∧ W.cell? ⟨w.heap.size, 3, none⟩ = some (.int .i64 x.size) ∧ W.cell? ⟨w.heap.size, 4, none⟩ = some (.slice oa x.out.length oc) ∧ W.cell? ⟨w.heap.size, 5, none⟩ = some (.slice ia x.inn.length ic) ∧ W.cell? ⟨w.heap.size, 6, none⟩ = some (.slice ba x.back.length bc) ∧ W.cell? ⟨w.heap.size, 7, none⟩ = some (.int .i64 x.dir) ∧ W.cell? ⟨w.heap.size, 8, none⟩ = some (.bool x.fin) ∧ W.cell? ⟨w.heap.size, 9, none⟩ = some (.bool x.bad) ∧ W.cell? ⟨w.heap.size, 10, none⟩ = some (.bool x.closed) ∧ W.cell? ⟨w.heap.size + 1, 0, none⟩ = some (.bool x.rd) ∧ W.cell? ⟨w.heap.size + 1, 1, none⟩ = some (.bool x.wt) ∧ W.cell? ⟨w.heap.size + 1, 2, none⟩ = some (.int .i64 x.mode) ∧ W.cell? ⟨w.heap.size + 1, 3, none⟩ = some (.int .i64 x.size) ∧ W.cell? ⟨w.heap.size + 1, 4, none⟩ = some (.slice pa x.out.length pc) ∧ W.cell? ⟨w.heap.size + 1, 5, none⟩ = some (.slice qa x.inn.length qc) ∧ W.cell? ⟨w.heap.size + 1, 6, none⟩ = some (.slice ra x.back.length rc) ∧ W.cell? ⟨w.heap.size + 1, 7, none⟩ = some (.int .i64 x.dir) ∧ W.cell? ⟨w.heap.size + 1, 8, none⟩ = some (.bool x.fin) ∧ W.cell? ⟨w.heap.size + 1, 9, none⟩ = some (.bool x.bad) ∧ W.cell? ⟨w.heap.size + 1, 10, none⟩ = some (.bool x.closed)) W from by
    obtain ⟨c0, c1, c2, c3, c4, c5, c6, c7, c8, c9, c10⟩ := (HA0.out.below hW).cs
    obtain ⟨d0, d1, d2, d3, d4, d5, d6, d7, d8, d9, d10⟩ := (HR0.out.below hW).cs
    exact ⟨c0, c1, c2, c3, c4, c5, c6, c7, c8, c9, c10, d0, d1, d2, d3, d4, d5, d6, d7, d8, d9, d10⟩))
  clear HA0 HR0
  obtain ⟨c0, c1, c2, c3, c4, c5, c6, c7, c8, c9, c10, d0, d1, d2, d3, d4, d5, d6, d7, d8, d9, d10⟩ := HK.out w0 (Below.refl _ _)
  go_wp2_with fail
  refine (HS1.out _ HB0.out).mono ?_
  rintro _ w1 ⟨rfl, hB1⟩
  have HB1 : Hid (Below w0.heap.size w0 w1) := hide hB1
  clear hB1
  clear c0 c1 c2 c3 c4 c5 c6 c7 c8 c9 c10 d0 d1 d2 d3 d4 d5 d6 d7 d8 d9 d10
  obtain ⟨c0, c1, c2, c3, c4, c5, c6, c7, c8, c9, c10, d0, d1, d2, d3, d4, d5, d6, d7, d8, d9, d10⟩ := HK.out w1 HB1.out
  go_wp2_with fail
  refine (HS2.out _ (HB0.out.trans (HB1.out.mono HB0.out.size))).mono ?_
  rintro _ w2 ⟨rfl, hB2⟩
  have HB2 : Hid (Below w0.heap.size w0 w2) := hide (HB1.out.trans (hB2.mono HB1.out.size))
  clear hB2
  clear c0 c1 c2 c3 c4 c5 c6 c7 c8 c9 c10 d0 d1 d2 d3 d4 d5 d6 d7 d8 d9 d10
  obtain ⟨c0, c1, c2, c3, c4, c5, c6, c7, c8, c9, c10, d0, d1, d2, d3, d4, d5, d6, d7, d8, d9, d10⟩ := HK.out w2 HB2.out
  go_wp2_with fail
  refine (HS3.out _ (HB0.out.trans (HB2.out.mono HB0.out.size))).mono ?_
  rintro _ w3 ⟨rfl, hB3⟩
  have HB3 : Hid (Below w0.heap.size w0 w3) := hide (HB2.out.trans (hB3.mono HB2.out.size))
  clear hB3
  clear c0 c1 c2 c3 c4 c5 c6 c7 c8 c9 c10 d0 d1 d2 d3 d4 d5 d6 d7 d8 d9 d10
  obtain ⟨c0, c1, c2, c3, c4, c5, c6, c7, c8, c9, c10, d0, d1, d2, d3, d4, d5, d6, d7, d8, d9, d10⟩ := HK.out w3 HB3.out
  go_wp2
  go_ret
  exact ⟨rfl, HB0.out.trans (HB3.out.mono HB0.out.size)⟩
end Go.Proofs.Ytibnpeipndkciaa

/- Bytes that came in as an argument: what a walk is told of them. -/
namespace Go.Proofs.Ytibnpeipndkciaa
open Go.ChangeShapes Go.WideShapes Go.ChangeAt Go.RowKit

theorem bytes_arg {H : Type} {enc : TypeId × Value → H} {P : Program} {W : World} {base : Nat} {a : Option Addr} {len cap fuel t e : Nat} {d : DataW H} {p : List MemPlace}
    (ht : P.underlying t = some (.slice e)) (he : P.underlying e = some (.int .u8)) (hc : P.cellsOf e = 1)
    (hf : DataW.trod enc P W base (fun _ => true) true fuel t (Value.slice a len cap).cells.toList = some (d, p)) :
    ∃ l : List UInt8, Bys W (.slice a len cap) l ∧ ((d = .nil ∧ l = []) ∨ ∃ elems spare : List (DataW H), d = .slice elems spare ∧ l.length = elems.length) := by
  rcases open_ints ht he hc hf with ⟨hcs, hd⟩ | ⟨x, n, c, zs, hcs, _, hl, hm, hz, hx, hcell, hwz⟩
  · simp [Value.cells] at hcs
    obtain ⟨rfl, rfl, rfl⟩ := hcs
    exact ⟨[], .inl ⟨rfl, rfl⟩, .inl ⟨(Prod.mk.inj hd).1, rfl⟩⟩
  · simp [Value.cells] at hcs
    obtain ⟨rfl, rfl, rfl⟩ := hcs
    simp only [if_true] at hz
    have hlen : ((zs.take len).map fun n => UInt8.ofNat n.toNat).length = len := by rw [List.length_map, List.length_take]; omega
    refine ⟨(zs.take len).map fun n => UInt8.ofNat n.toNat, ?_, .inr ⟨_, _, (Prod.mk.inj hx).1, by simp [lits]⟩⟩
    by_cases h0 : len = 0
    · subst h0
      exact .inr (.inl ⟨x, cap, rfl, by simp⟩)
    · obtain ⟨b, off, spot⟩ := x
      have hspot : spot = none := by simpa [Addr.add] using World.cell?_spot (hcell 0 (by omega))
      subst hspot
      refine .inr (.inr ⟨b, off, cap, by rw [hlen], by rw [hlen]; omega, fun j hj => ?_⟩)
      rw [hlen] at hj
      have h1 := hcell j (by omega)
      have hadd : (⟨b, off, none⟩ : Addr).add j = ⟨b, off + j, none⟩ := by unfold Addr.add; split <;> simp_all
      rw [hadd] at h1
      rw [h1]
      have hjz : j < zs.length := by omega
      have hb := bounds_u8 (hwz zs[j] (List.getElem_mem hjz))
      simp only [List.getD_eq_getElem?_getD, List.getElem?_map, List.getElem?_take, if_pos hj, List.getElem?_eq_getElem hjz, Option.map_some, Option.getD_some]
      rw [UInt8.toNat_ofNat_of_lt' (by show _ < 256; omega), Int.toNat_of_nonneg hb.1]

theorem one_le {H : Type} (d : DataW H) : 1 ≤ Rows.uptoBulk d := by
  cases d with
  | lit l => cases l <;> simp [Rows.uptoBulk]
  | nil => simp [Rows.uptoBulk]
  | ptr d => simp [Rows.uptoBulk]
  | slice elems spare => simp [Rows.uptoBulk]
  | agg parts => simp [Rows.uptoBulk]
  | iface t d => simp [Rows.uptoBulk]
  | map entries => simp [Rows.uptoBulk]
  | held h => simp [Rows.uptoBulk]
theorem bulk_length {H : Type} (l : List (DataW H)) : l.length ≤ Rows.uptoBulkAll l := by
  induction l with
  | nil => simp [Rows.uptoBulkAll]
  | cons x r ih => have := one_le x; simp only [Rows.uptoBulkAll, List.length_cons]; omega
theorem bulk_slice {H : Type} (elems spare : List (DataW H)) : elems.length + 1 ≤ Rows.uptoBulk (.slice elems spare) := by
  have h1 := bulk_length elems
  simp only [Rows.uptoBulk]
  omega
end Go.Proofs.Ytibnpeipndkciaa

/- Bytes, and steps, that came in as an argument: what a walk is told of them. -/
namespace Go.Proofs.Ytibnpeipndkciaa
open Go.ChangeShapes Go.WideShapes Go.ChangeAt Go.RowKit Go.Deep

/-- A step: what, n, which side, data. -/
abbrev Kp_Stp := Int × Int × Bool × List UInt8
theorem Kp_bys_len {W : World} {a : Option Addr} {n c : Nat} {l : List UInt8} (h : Bys W (.slice a n c) l) : n = l.length := by
  obtain ⟨a', c', he, _⟩ := bys_form h
  cases he
  rfl
theorem bytes_arg2 {H : Type} {enc : TypeId × Value → H} {P : Program} {W : World} {base : Nat} {a : Option Addr} {len cap fuel t e : Nat} {d : DataW H} {p : List MemPlace}
    (ht : P.underlying t = some (.slice e)) (he : P.underlying e = some (.int .u8)) (hc : P.cellsOf e = 1)
    (hf : DataW.trod enc P W base (fun _ => true) true fuel t (Value.slice a len cap).cells.toList = some (d, p)) :
    ∃ l : List UInt8, Bys W (.slice a len cap) l ∧ l.length ≤ cap ∧ ((d = .nil ∧ l = []) ∨ ∃ elems spare : List (DataW H), d = .slice elems spare ∧ l.length = elems.length) := by
  rcases open_ints ht he hc hf with ⟨hcs, hd⟩ | ⟨x, n, c, zs, hcs, _, hl, hm, hz, hx, hcell, hwz⟩
  · simp [Value.cells] at hcs
    obtain ⟨rfl, rfl, rfl⟩ := hcs
    exact ⟨[], .inl ⟨rfl, rfl⟩, by simp, .inl ⟨(Prod.mk.inj hd).1, rfl⟩⟩
  · simp [Value.cells] at hcs
    obtain ⟨rfl, rfl, rfl⟩ := hcs
    simp only [if_true] at hz
    have hlen : ((zs.take len).map fun n => UInt8.ofNat n.toNat).length = len := by rw [List.length_map, List.length_take]; omega
    refine ⟨(zs.take len).map fun n => UInt8.ofNat n.toNat, ?_, by rw [hlen]; exact hl, .inr ⟨_, _, (Prod.mk.inj hx).1, by simp [lits]⟩⟩
    by_cases h0 : len = 0
    · subst h0
      exact .inr (.inl ⟨x, cap, rfl, by simp⟩)
    · obtain ⟨b, off, spot⟩ := x
      have hspot : spot = none := by simpa [Addr.add] using World.cell?_spot (hcell 0 (by omega))
      subst hspot
      refine .inr (.inr ⟨b, off, cap, by rw [hlen], by rw [hlen]; omega, fun j hj => ?_⟩)
      rw [hlen] at hj
      have h1 := hcell j (by omega)
      have hadd : (⟨b, off, none⟩ : Addr).add j = ⟨b, off + j, none⟩ := by unfold Addr.add; split <;> simp_all
      rw [hadd] at h1
      rw [h1]
      have hjz : j < zs.length := by omega
      have hb := bounds_u8 (hwz zs[j] (List.getElem_mem hjz))
      simp only [List.getD_eq_getElem?_getD, List.getElem?_map, List.getElem?_take, if_pos hj, List.getElem?_eq_getElem hjz, Option.map_some, Option.getD_some]
      rw [UInt8.toNat_ofNat_of_lt' (by show _ < 256; omega), Int.toNat_of_nonneg hb.1]



/-- How a slice of bytes inside a datum is told. -/
def Kp_DataOf {H : Type} (d : DataW H) (x : List UInt8) : Prop := (d = .nil ∧ x = []) ∨ ∃ elems spare : List (DataW H), d = .slice elems spare ∧ x.length = elems.length

theorem Kp_step_cells {H : Type} {enc : TypeId × Value → H} {P : Program} {W : World} {base : Nat} {fuel e u : Nat} {f0 f1 f2 f3 : Field} {cs : List Value} {d : DataW H} {p : List MemPlace}
    (he : P.underlying e = some (.struct #[f0, f1, f2, f3])) (ce : P.cellsOf e = 4) (o0 : f0.offset = 0) (o1 : f1.offset = 1) (o2 : f2.offset = 2) (o3 : f3.offset = 3)
    (c0 : P.cellsOf f0.type = 1) (c1 : P.cellsOf f1.type = 1) (c2 : P.cellsOf f2.type = 1) (c3 : P.cellsOf f3.type = 1)
    (t0 : P.underlying f0.type = some (.int .i64)) (t1 : P.underlying f1.type = some (.int .i64)) (t2 : P.underlying f2.type = some .bool) (t3 : P.underlying f3.type = some (.slice u)) (tu : P.underlying u = some (.int .u8)) (cu : P.cellsOf u = 1)
    (h : DataW.trod enc P W base (fun _ => true) true fuel e cs = some (d, p)) :
    ∃ (x : Kp_Stp) (va : Option Addr) (vc : Nat) (d3 : DataW H), cs = [.int .i64 x.1, .int .i64 x.2.1, .bool x.2.2.1, .slice va x.2.2.2.length vc] ∧ (Bys W (.slice va x.2.2.2.length vc) x.2.2.2 ∧ x.2.2.2.length ≤ vc) ∧ (∃ x0 x1 x2, d = .agg [x0, x1, x2, d3]) ∧ Kp_DataOf d3 x.2.2.2 := by
  obtain ⟨xs, k, hk, hxy, hcl, hxl, hf⟩ := DataW.trod_struct he h
  rw [ce] at hcl
  match xs, hxl, cs, hcl with
  | [y0, y1, y2, y3], _, [v0, v1, v2, v3], _ =>
    have g0 := hf 0 f0 rfl
    have g1 := hf 1 f1 rfl
    have g2 := hf 2 f2 rfl
    have g3 := hf 3 f3 rfl
    simp [o0, c0] at g0
    simp [o1, c1] at g1
    simp [o2, c2] at g2
    simp [o3, c3] at g3
    obtain ⟨a, ha, _⟩ := DataW.trod_int t0 g0
    obtain ⟨b, hb, _⟩ := DataW.trod_int t1 g1
    obtain ⟨c, hc, _⟩ := DataW.trod_bool t2 g2
    obtain rfl : v0 = .int .i64 a := by simpa using ha
    obtain rfl : v1 = .int .i64 b := by simpa using hb
    obtain rfl : v2 = .bool c := by simpa using hc
    obtain ⟨va, vl, vc, rfl⟩ : ∃ va vl vc, v3 = .slice va vl vc := by
      rcases DataW.trod_slice t3 g3 with ⟨h0, _⟩ | ⟨x, len, cap, _, _, _, _, h0, _⟩
      · exact ⟨_, _, _, by simpa using h0⟩
      · exact ⟨_, _, _, by simpa using h0⟩
    obtain ⟨y3a, y3b⟩ := y3
    obtain ⟨l, hl, hlc, hd⟩ := bytes_arg2 t3 tu cu (by simpa [Value.cells] using g3)
    obtain rfl := Kp_bys_len hl
    simp only [Prod.mk.injEq] at hxy
    exact ⟨(a, b, c, l), va, vc, y3a, rfl, ⟨hl, hlc⟩, ⟨_, _, _, by simpa using hxy.1⟩, hd⟩

/-- The slice value v holds the steps l. -/
def Kp_Stps (W : World) (v : Value) (l : List Kp_Stp) : Prop :=
  ∃ a c, v = .slice a l.length c ∧ (0 < l.length → ∃ b off, a = some ⟨b, off, none⟩ ∧ ∀ j (hj : j < l.length), ∃ va vc,
    W.cell? ⟨b, off + j * 4, none⟩ = some (.int .i64 l[j].1) ∧ W.cell? ⟨b, off + j * 4 + 1, none⟩ = some (.int .i64 l[j].2.1) ∧ W.cell? ⟨b, off + j * 4 + 2, none⟩ = some (.bool l[j].2.2.1) ∧ W.cell? ⟨b, off + j * 4 + 3, none⟩ = some (.slice va l[j].2.2.2.length vc) ∧ Bys W (.slice va l[j].2.2.2.length vc) l[j].2.2.2 ∧ l[j].2.2.2.length ≤ vc)

theorem Kp_stps_arg {H : Type} {enc : TypeId × Value → H} {P : Program} {W : World} {base : Nat} {a : Option Addr} {len cap fuel t e u : Nat} {f0 f1 f2 f3 : Field} {d : DataW H} {p : List MemPlace}
    (ht : P.underlying t = some (.slice e)) (he : P.underlying e = some (.struct #[f0, f1, f2, f3])) (ce : P.cellsOf e = 4) (o0 : f0.offset = 0) (o1 : f1.offset = 1) (o2 : f2.offset = 2) (o3 : f3.offset = 3)
    (c0 : P.cellsOf f0.type = 1) (c1 : P.cellsOf f1.type = 1) (c2 : P.cellsOf f2.type = 1) (c3 : P.cellsOf f3.type = 1)
    (t0 : P.underlying f0.type = some (.int .i64)) (t1 : P.underlying f1.type = some (.int .i64)) (t2 : P.underlying f2.type = some .bool) (t3 : P.underlying f3.type = some (.slice u)) (tu : P.underlying u = some (.int .u8)) (cu : P.cellsOf u = 1)
    (hf : DataW.trod enc P W base (fun _ => true) true fuel t (Value.slice a len cap).cells.toList = some (d, p)) :
    ∃ l : List Kp_Stp, Kp_Stps W (.slice a len cap) l ∧ ((d = .nil ∧ l = []) ∨ ∃ elems spare : List (DataW H), d = .slice elems spare ∧ l.length = elems.length ∧ ∀ i (hi : i < l.length), ∃ x0 x1 x2 d3, DataW.agg [x0, x1, x2, d3] ∈ elems ∧ Kp_DataOf d3 l[i].2.2.2) := by
  rcases open_slice ht hf with ⟨hcs, hd⟩ | ⟨x, n, c, m, k, D, Pl, hcs, _, hl, hm, hmm, hx, hel⟩
  · simp [Value.cells] at hcs
    obtain ⟨rfl, rfl, rfl⟩ := hcs
    exact ⟨[], ⟨_, _, rfl, fun h => absurd h (by decide)⟩, .inl ⟨(Prod.mk.inj hd).1, rfl⟩⟩
  · simp [Value.cells] at hcs
    obtain ⟨rfl, rfl, rfl⟩ := hcs
    simp only [if_true] at hmm
    subst hmm
    have each : ∀ i, i < len → ∃ s : Kp_Stp, ∃ va vc, (∃ x0 x1 x2 d3, D i = .agg [x0, x1, x2, d3] ∧ Kp_DataOf d3 s.2.2.2) ∧
        W.cell? ((x.add (i * 4)).add 0) = some (.int .i64 s.1) ∧ W.cell? ((x.add (i * 4)).add 1) = some (.int .i64 s.2.1) ∧ W.cell? ((x.add (i * 4)).add 2) = some (.bool s.2.2.1) ∧ W.cell? ((x.add (i * 4)).add 3) = some (.slice va s.2.2.2.length vc) ∧ Bys W (.slice va s.2.2.2.length vc) s.2.2.2 ∧ s.2.2.2.length ≤ vc := by
      intro i hi
      obtain ⟨cs', h1, h2⟩ := hel i (by omega)
      rw [ce] at h1
      obtain ⟨_, hlen, hcell⟩ := World.cells?_some h1
      obtain ⟨s, va, vc, d3, rfl, hb, ⟨x0, x1, x2, hD⟩, hO⟩ := Kp_step_cells he ce o0 o1 o2 o3 c0 c1 c2 c3 t0 t1 t2 t3 tu cu h2
      exact ⟨s, va, vc, ⟨x0, x1, x2, d3, hD, hO⟩, by simpa using hcell 0 (by omega), by simpa using hcell 1 (by omega), by simpa using hcell 2 (by omega), by simpa using hcell 3 (by omega), hb⟩
    obtain ⟨s, hs⟩ := choose_lt each
    refine ⟨(List.range len).map s, ⟨some x, m, by simp, fun h0 => ?_⟩, .inr ⟨_, _, (Prod.mk.inj hx).1, by simp, fun i hi => ?_⟩⟩
    · have h0' : 0 < len := by simpa using h0
      obtain ⟨b, off, spot⟩ := x
      obtain ⟨_, _, _, q0, _⟩ := hs 0 h0'
      have hspot : spot = none := by simpa [Addr.add] using World.cell?_spot q0
      subst hspot
      refine ⟨b, off, rfl, fun j hj => ?_⟩
      have hj' : j < len := by simpa using hj
      obtain ⟨va, vc, _, q0, q1, q2, q3, hb⟩ := hs j hj'
      have hadd : ∀ o k, (⟨b, o, none⟩ : Addr).add k = ⟨b, o + k, none⟩ := fun o k => by unfold Addr.add; split <;> simp_all
      rw [hadd, hadd] at q0 q1 q2 q3
      simp only [List.getElem_map, List.getElem_range]
      exact ⟨va, vc, by simpa using q0, q1, q2, q3, hb⟩
    · have hi' : i < len := by simpa using hi
      obtain ⟨va, vc, ⟨x0, x1, x2, d3, hD, hO⟩, _⟩ := hs i hi'
      refine ⟨x0, x1, x2, d3, ?_, by simpa using hO⟩
      rw [← hD]
      exact List.mem_map.2 ⟨i, by simpa using hi', rfl⟩

theorem Kp_weightsAll_mem {H : Type} {P : Program} {e : TypeId} : ∀ {l : List (DataW H)} {d : DataW H}, d ∈ l → ∀ n ∈ d.weights P e, n ∈ DataW.weightsAll P e l
  | d' :: r, d, hd, n, hn => by
    simp only [DataW.weightsAll, List.mem_append]
    rcases List.mem_cons.1 hd with rfl | h
    · exact Or.inl hn
    · exact Or.inr (Kp_weightsAll_mem h n hn)
theorem Kp_step_weight {H : Type} {P : Program} {e u : TypeId} {f0 f1 f2 f3 : Field} {x0 x1 x2 d3 : DataW H} {x : List UInt8} (he : P.underlying e = some (.struct #[f0, f1, f2, f3])) (t3 : P.underlying f3.type = some (.slice u)) (bu : P.bytesOf u = 1)
    (hO : Kp_DataOf d3 x) (h : ∀ n ∈ (DataW.agg [x0, x1, x2, d3]).weights P e, n ≤ reachBytes) : x.length ≤ 140737488351232 := by
  rcases hO with ⟨_, rfl⟩ | ⟨elems, spare, rfl, hl⟩
  · simp
  · have := h ((elems.length + spare.length) * P.bytesOf u) (by simp [DataW.weights, DataW.weightsEach, he, t3])
    rw [bu] at this
    simp only [reachBytes] at this
    omega
/-- The reach, of the data of each step. -/
theorem Kp_sized_steps {H : Type} {P : Program} {ts : List TypeId} {ds : List (DataW H)} (h : (DataW.weightsEach P ts ds).all (· ≤ reachBytes) = true) {j : Nat} {t e u : TypeId} {f0 f1 f2 f3 : Field} {x0 x1 x2 d3 : DataW H} {elems spare : List (DataW H)} {x : List UInt8}
    (ht : ts[j]? = some t) (hd : ds[j]? = some (.slice elems spare)) (hu : P.underlying t = some (.slice e)) (hm : DataW.agg [x0, x1, x2, d3] ∈ elems) (he : P.underlying e = some (.struct #[f0, f1, f2, f3])) (t3 : P.underlying f3.type = some (.slice u)) (bu : P.bytesOf u = 1) (hO : Kp_DataOf d3 x) : x.length ≤ 140737488351232 :=
  Kp_step_weight he t3 bu hO fun n hn => of_decide_eq_true (List.all_eq_true.1 h _ (DataW.weights_mem_each ht hd n (by
    simp only [DataW.weights, hu, List.mem_cons, List.mem_append]
    exact Or.inr (Or.inl (Kp_weightsAll_mem hm n hn)))))
theorem bulkAll_mem {H : Type} : ∀ {l : List (DataW H)} {d : DataW H}, d ∈ l → Rows.uptoBulk d ≤ Rows.uptoBulkAll l
  | d' :: r, d, hd => by
    simp only [Rows.uptoBulkAll]
    rcases List.mem_cons.1 hd with rfl | h
    · omega
    · have := bulkAll_mem h; omega
/-- The bulk, of the data of each step. -/
theorem bulk_steps {H : Type} {elems spare : List (DataW H)} {x0 x1 x2 d3 : DataW H} {x : List UInt8} (hm : DataW.agg [x0, x1, x2, d3] ∈ elems) (hO : Kp_DataOf d3 x) : x.length ≤ Rows.uptoBulk (.slice elems spare) := by
  have h1 := bulkAll_mem hm
  simp only [Rows.uptoBulk, Rows.uptoBulkAll] at h1
  have h2 : Rows.uptoBulkAll elems ≤ Rows.uptoBulk (.slice elems spare) := by simp only [Rows.uptoBulk]; omega
  rcases hO with ⟨_, rfl⟩ | ⟨es, sp, rfl, hl⟩
  · simp
  · have := bulk_slice es sp
    omega
theorem stps_form {W : World} {v : Value} {l : List Kp_Stp} (h : Kp_Stps W v l) : ∃ a c, v = .slice a l.length c := by
  obtain ⟨a, c, rfl, _⟩ := h
  exact ⟨a, c, rfl⟩
/-- Step j of the steps l, in any later world. -/
theorem Kp_stps_at {W W' : World} {a : Option Addr} {n c : Nat} {l : List Kp_Stp} (h : Kp_Stps W (.slice a n c) l) (hB : Below W.heap.size W W') (j : Nat) (hj : j < l.length) :
    ∃ b off va vc, a = some ⟨b, off, none⟩ ∧ b < W.heap.size ∧ W'.cell? ⟨b, off + j * 4, none⟩ = some (.int .i64 l[j].1) ∧ W'.cell? ⟨b, off + j * 4 + 1, none⟩ = some (.int .i64 l[j].2.1) ∧ W'.cell? ⟨b, off + j * 4 + 2, none⟩ = some (.bool l[j].2.2.1) ∧
      W'.cell? ⟨b, off + j * 4 + 3, none⟩ = some (.slice va l[j].2.2.2.length vc) ∧ Bys W (.slice va l[j].2.2.2.length vc) l[j].2.2.2 ∧ l[j].2.2.2.length ≤ vc := by
  obtain ⟨a', c', he, hc⟩ := h
  cases he
  obtain ⟨b, off, rfl, hd⟩ := hc (by omega)
  obtain ⟨va, vc, h0, h1, h2, h3, h4, h5⟩ := hd j hj
  have hb := World.block_lt_of_cell? W _ h0
  exact ⟨b, off, va, vc, rfl, hb, (hB.cell (p := ⟨b, off + j * 4, none⟩) hb).trans h0, (hB.cell (p := ⟨b, off + j * 4 + 1, none⟩) hb).trans h1, (hB.cell (p := ⟨b, off + j * 4 + 2, none⟩) hb).trans h2, (hB.cell (p := ⟨b, off + j * 4 + 3, none⟩) hb).trans h3, h4, h5⟩
end Go.Proofs.Ytibnpeipndkciaa

/- Slices of anything that came in as an argument: what a walk is told of them, and their sizes. -/
namespace Go.Proofs.Ytibnpeipndkciaa
open Go.ChangeShapes Go.WideShapes Go.ChangeAt Go.RowKit Go.Deep

/-- How a slice inside a datum is told. -/
def DatL {H : Type} {α : Type} (Dt : DataW H → α → Prop) (d : DataW H) (l : List α) : Prop := (d = .nil ∧ l = []) ∨ ∃ elems spare : List (DataW H), d = .slice elems spare ∧ l.length = elems.length ∧ ∀ i (hi : i < l.length), ∃ di, di ∈ elems ∧ Dt di l[i]
/-- Any slice: its elements, each of k cells, as a reader of cells tells them. -/
def RowsR {α : Type} (W : World) (k : Nat) (Rd : List Value → α → Prop) (v : Value) (l : List α) : Prop :=
  (v = .slice none 0 0 ∧ l = []) ∨ ∃ q cap, v = .slice (some q) l.length cap ∧ l.length ≤ cap ∧ (0 < l.length → ∃ b off, q = ⟨b, off, none⟩ ∧ ∀ j (hj : j < l.length), ∃ cs, Rd cs l[j] ∧ cs.length = k ∧ ∀ i v, cs[i]? = some v → W.cell? ⟨b, off + j * k + i, none⟩ = some v)
theorem rows_arg {H : Type} {enc : TypeId × Value → H} {P : Program} {W : World} {base : Nat} {a : Option Addr} {len cap fuel t e : Nat} {d : DataW H} {p : List MemPlace} {α : Type} (k : Nat) (Rd : List Value → α → Prop) (Dt : DataW H → α → Prop)
    (ht : P.underlying t = some (.slice e)) (ce : P.cellsOf e = k) (hk : 0 < k)
    (each : ∀ fuel cs d p, DataW.trod enc P W base (fun _ => true) true fuel e cs = some (d, p) → cs.length = k → ∃ x, Rd cs x ∧ Dt d x)
    (hf : DataW.trod enc P W base (fun _ => true) true fuel t (Value.slice a len cap).cells.toList = some (d, p)) :
    ∃ l : List α, RowsR W k Rd (.slice a len cap) l ∧ DatL Dt d l := by
  rcases open_slice ht hf with ⟨hcs, hd⟩ | ⟨x, n, c, m, kk, D, Pl, hcs, _, hl, hm, hmm, hx, hel⟩
  · simp [Value.cells] at hcs
    obtain ⟨rfl, rfl, rfl⟩ := hcs
    exact ⟨[], .inl ⟨rfl, rfl⟩, .inl ⟨(Prod.mk.inj hd).1, rfl⟩⟩
  · simp [Value.cells] at hcs
    obtain ⟨rfl, rfl, rfl⟩ := hcs
    simp only [if_true] at hmm
    subst hmm
    have ea : ∀ i, i < len → ∃ s : α, Dt (D i) s ∧ ∃ cs, Rd cs s ∧ cs.length = k ∧ ∀ j v, cs[j]? = some v → W.cell? ((x.add (i * k)).add j) = some v := by
      intro i hi
      obtain ⟨cs', h1, h2⟩ := hel i (by omega)
      rw [ce] at h1
      obtain ⟨_, hlen, hcell⟩ := World.cells?_some h1
      obtain ⟨s, hs, hD⟩ := each _ _ _ _ h2 hlen
      refine ⟨s, hD, cs', hs, hlen, fun j v hj => ?_⟩
      have hjl := (List.getElem?_eq_some_iff.1 hj).1
      rw [hcell j (by omega)]
      exact hj
    by_cases hα : 0 < len
    case neg =>
      obtain rfl : len = 0 := by omega
      exact ⟨[], .inr ⟨x, _, rfl, Nat.zero_le _, fun h => absurd h (by simp)⟩, .inr ⟨_, _, (Prod.mk.inj hx).1, by simp, fun i hi => absurd hi (by simp)⟩⟩
    obtain ⟨s, hs⟩ : ∃ s : Nat → α, ∀ i, i < len → Dt (D i) (s i) ∧ ∃ cs, Rd cs (s i) ∧ cs.length = k ∧ ∀ j v, cs[j]? = some v → W.cell? ((x.add (i * k)).add j) = some v := by
      exact ⟨fun i => if h : i < len then (ea i h).choose else (ea 0 hα).choose, fun i hi => by simp only [dif_pos hi]; exact (ea i hi).choose_spec⟩
    refine ⟨(List.range len).map s, .inr ⟨x, m, by simp, by simpa using hl, fun h0 => ?_⟩, .inr ⟨_, _, (Prod.mk.inj hx).1, by simp, fun i hi => ?_⟩⟩
    · obtain ⟨b, off, spot⟩ := x
      obtain ⟨_, cs0, _, hc0, q0⟩ := hs 0 hα
      have hspot : spot = none := by
        have h1 := q0 0 (cs0[0]'(by omega)) (List.getElem?_eq_getElem (by omega))
        simpa [Addr.add] using World.cell?_spot h1
      subst hspot
      refine ⟨b, off, rfl, fun j hj => ?_⟩
      have hj' : j < len := by simpa using hj
      obtain ⟨_, cs, h1, h2, h3⟩ := hs j hj'
      have hadd : ∀ o k, (⟨b, o, none⟩ : Addr).add k = ⟨b, o + k, none⟩ := fun o k => by unfold Addr.add; split <;> simp_all
      simp only [List.getElem_map, List.getElem_range]
      exact ⟨cs, h1, h2, fun i v hv => by have := h3 i v hv; rwa [hadd, hadd] at this⟩
    · have hi' : i < len := by simpa using hi
      exact ⟨D i, List.mem_map.2 ⟨i, by simpa using hi', rfl⟩, by simpa using (hs i hi').1⟩
theorem RowsR.form {α : Type} {W : World} {k : Nat} {Rd : List Value → α → Prop} {v : Value} {l : List α} (h : RowsR W k Rd v l) : ∃ a c, v = .slice a l.length c ∧ l.length ≤ c := by
  rcases h with ⟨rfl, rfl⟩ | ⟨q, cap, rfl, h1, _⟩
  · exact ⟨_, _, rfl, Nat.le_refl _⟩
  · exact ⟨_, _, rfl, h1⟩
theorem RowsR.at {α : Type} {W : World} {k : Nat} {Rd : List Value → α → Prop} {a : Option Addr} {n c : Nat} {l : List α} (h : RowsR W k Rd (.slice a n c) l) (j : Nat) (hj : j < l.length) :
    ∃ b off cs, a = some ⟨b, off, none⟩ ∧ Rd cs l[j] ∧ cs.length = k ∧ ∀ i v, cs[i]? = some v → W.cell? ⟨b, off + j * k + i, none⟩ = some v := by
  rcases h with ⟨_, rfl⟩ | ⟨q, cap, he, h1, h2⟩
  · simp at hj
  · cases he
    obtain ⟨b, off, rfl, hd⟩ := h2 (by omega)
    obtain ⟨cs, h3, h4, h5⟩ := hd j hj
    exact ⟨b, off, cs, rfl, h3, h4, h5⟩
/-- Within the reach of memory, through and through. -/
def MSmall {H : Type} (P : Program) (t : TypeId) (d : DataW H) : Prop := ∀ n ∈ d.weights P t, n ≤ reachBytes
theorem msmall_arg {H : Type} {P : Program} {ts : List TypeId} {ds : List (DataW H)} (h : (DataW.weightsEach P ts ds).all (· ≤ reachBytes) = true) {j : Nat} {t : TypeId} {d : DataW H} (ht : ts[j]? = some t) (hd : ds[j]? = some d) : MSmall P t d :=
  fun n hn => of_decide_eq_true (List.all_eq_true.1 h _ (DataW.weights_mem_each ht hd n hn))
theorem MSmall.slice {H : Type} {P : Program} {t e : TypeId} {es sp : List (DataW H)} (h : MSmall P t (.slice es sp)) (hu : P.underlying t = some (.slice e)) : (es.length + sp.length) * P.bytesOf e ≤ reachBytes ∧ ∀ d ∈ es, MSmall P e d :=
  ⟨h _ (by simp [DataW.weights, hu]), fun d hd n hn => h n (by
    simp only [DataW.weights, hu, List.mem_cons, List.mem_append]
    exact Or.inr (Or.inl (Kp_weightsAll_mem hd n hn)))⟩
theorem MSmall.fields {H : Type} {P : Program} {t : TypeId} {fs : Array Field} {ds : List (DataW H)} (h : MSmall P t (.agg ds)) (hu : P.underlying t = some (.struct fs)) (j : Nat) (f : Field) (d : DataW H) (hf : fs[j]? = some f) (hd : ds[j]? = some d) : MSmall P f.type d := fun n hn => h n (by
    simp only [DataW.weights, hu]
    exact DataW.weights_mem_each (by rw [List.getElem?_map, Array.getElem?_toList, hf]; rfl) hd n hn)
theorem mbytes_small {H : Type} {P : Program} {t e : TypeId} {d : DataW H} {x : List UInt8} (h : MSmall P t d) (hu : P.underlying t = some (.slice e)) (be : P.bytesOf e = 1) (hO : Kp_DataOf d x) : x.length ≤ 140737488351232 := by
  rcases hO with ⟨_, rfl⟩ | ⟨es, sp, rfl, hl⟩
  · simp
  · have := (h.slice hu).1
    rw [be] at this
    simp only [reachBytes] at this
    omega
theorem mrows_small {H : Type} {P : Program} {t e : TypeId} {d : DataW H} {α : Type} {Dt : DataW H → α → Prop} {l : List α} {n : Nat} (h : MSmall P t d) (hu : P.underlying t = some (.slice e)) (be : P.bytesOf e = n) (hO : DatL Dt d l) : l.length * n ≤ 140737488351232 ∧ ∀ i (hi : i < l.length), ∃ di, MSmall P e di ∧ Dt di l[i] := by
  rcases hO with ⟨_, rfl⟩ | ⟨es, sp, rfl, hl, hel⟩
  · exact ⟨by simp, fun i hi => absurd hi (by simp)⟩
  · obtain ⟨h1, h2⟩ := h.slice hu
    rw [be] at h1
    simp only [reachBytes] at h1
    refine ⟨Nat.le_trans (Nat.mul_le_mul_right _ (by omega)) h1, fun i hi => ?_⟩
    obtain ⟨di, hm, hO⟩ := hel i hi
    exact ⟨di, h2 di hm, hO⟩
/-- The bulk of what came in. -/
theorem mbulk_mem {H : Type} : ∀ {l : List (DataW H)} {d : DataW H}, d ∈ l → Rows.uptoBulk d ≤ Rows.uptoBulkAll l
  | d' :: r, d, hd => by
    simp only [Rows.uptoBulkAll]
    rcases List.mem_cons.1 hd with rfl | h
    · omega
    · have := mbulk_mem h; omega
theorem mbulk_rows {H : Type} {d : DataW H} {α : Type} {Dt : DataW H → α → Prop} {l : List α} {n : Nat} (h : Rows.uptoBulk d ≤ n) (hO : DatL Dt d l) : l.length ≤ n ∧ ∀ i (hi : i < l.length), ∃ di, Rows.uptoBulk di ≤ n ∧ Dt di l[i] := by
  rcases hO with ⟨_, rfl⟩ | ⟨es, sp, rfl, hl, hel⟩
  · exact ⟨by simp, fun i hi => absurd hi (by simp)⟩
  · have h1 := bulk_slice es sp
    refine ⟨by omega, fun i hi => ?_⟩
    obtain ⟨di, hm, hO⟩ := hel i hi
    refine ⟨di, ?_, hO⟩
    have := mbulk_mem hm
    simp only [Rows.uptoBulk] at h
    omega
theorem mbulk_bytes {H : Type} {d : DataW H} {x : List UInt8} {n : Nat} (h : Rows.uptoBulk d ≤ n) (hO : Kp_DataOf d x) : x.length ≤ n := by
  rcases hO with ⟨_, rfl⟩ | ⟨es, sp, rfl, hl⟩
  · simp
  · have := bulk_slice es sp; omega
theorem mbulk_field {H : Type} {ds : List (DataW H)} {d : DataW H} {n : Nat} (h : Rows.uptoBulk (.agg ds) ≤ n) (hd : d ∈ ds) : Rows.uptoBulk d ≤ n := by
  have := mbulk_mem hd
  simp only [Rows.uptoBulk] at h
  omega

/-- A slice of bytes in one cell. -/
def ByC (W : World) (v : Value) (x : List UInt8) : Prop := ∃ va vc, v = .slice va x.length vc ∧ Bys W (.slice va x.length vc) x ∧ x.length ≤ vc
theorem byc_arg {H : Type} {enc : TypeId × Value → H} {P : Program} {W : World} {base fuel e u : Nat} {v : Value} {d : DataW H} {p : List MemPlace} (he : P.underlying e = some (.slice u)) (hu : P.underlying u = some (.int .u8)) (cu : P.cellsOf u = 1)
    (h : DataW.trod enc P W base (fun _ => true) true fuel e [v] = some (d, p)) : ∃ x, ByC W v x ∧ Kp_DataOf d x := by
  obtain ⟨va, vl, vc, rfl⟩ : ∃ va vl vc, v = .slice va vl vc := by
    rcases DataW.trod_slice he h with ⟨h0, _⟩ | ⟨x, len, cap, _, _, _, _, h0, _⟩
    · exact ⟨_, _, _, by simpa using h0⟩
    · exact ⟨_, _, _, by simpa using h0⟩
  obtain ⟨s, hs, hc, hO⟩ := bytes_arg2 he hu cu (by simpa [Value.cells] using h)
  obtain rfl := Kp_bys_len hs
  exact ⟨s, ⟨va, vc, rfl, hs, hc⟩, hO⟩
end Go.Proofs.Ytibnpeipndkciaa

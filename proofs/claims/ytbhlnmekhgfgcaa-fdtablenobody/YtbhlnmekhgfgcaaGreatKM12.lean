/- What the proof stands on, part 12: the contracts of the program's calls that it reaches. -/
import Derived.Test.YtbhlnmekhgfgcaaGreatKM11
import Derived.ProofKit
import Derived.OpenShut
import Derived.ChangeSlices
import Derived.ChangeArms
import Derived.Deep.SlicePairs
import Derived.SizedLaws
import Derived.Deep.Slices
/- Tables over one kernel, all above a base: what each call answers and leaves. -/
namespace Go.Proofs.YtbhlnmekhgfgcaaGreat
open Go.RowKit Go.Maps

structure Tab where
  t : Nat
  ds : Nat → Int
  ms : Nat → Bool
/-- Tables over one kernel, all above B, and none of it among the blocks P. -/
def TM (B : Nat) (P : Nat → Prop) (w : World) (kb : Nat) (K : KS) (L : List Tab) : Prop := ∃ O, KAt w O kb K ∧ (∀ k, O k → B ≤ k ∧ k < w.heap.size ∧ ¬ P k) ∧ (∀ x ∈ L, Tb w x.t kb x.ds x.ms ∧ ¬ O x.t ∧ B ≤ x.t ∧ ¬ P x.t) ∧ (L.map Tab.t).Nodup ∧ ∀ k, P k → k < w.heap.size
def Held (P : Nat → Prop) (w w' : World) : Prop := ∀ k, P k → w'.heap[k]? = w.heap[k]?
theorem TM.base {B : Nat} {P : Nat → Prop} {w : World} {kb : Nat} {K : KS} {L : List Tab} (h : TM B P w kb K L) : B ≤ w.heap.size := by
  obtain ⟨O, h1, h2, _⟩ := h
  have := h1.lt
  exact Nat.le_trans (h2 kb this.1).1 (Nat.le_of_lt this.2)
/-- New blocks may be kept for oneself. -/
theorem TM.claim {B : Nat} {P : Nat → Prop} {w w' : World} {kb : Nat} {K : KS} {L : List Tab} (h : TM B P w kb K L) (hB : Below w.heap.size w w') (Q : Nat → Prop) (hQ : ∀ k, Q k → P k ∨ (w.heap.size ≤ k ∧ k < w'.heap.size)) : TM B Q w' kb K L := by
  obtain ⟨O, h1, h2, h3, h4, h5⟩ := h
  have hs := hB.size
  refine ⟨O, h1.below hB, fun k e => ⟨(h2 k e).1, Nat.lt_of_lt_of_le (h2 k e).2.1 hs, fun q => ?_⟩, fun x hx => ⟨(h3 x hx).1.below hB, (h3 x hx).2.1, (h3 x hx).2.2.1, fun q => ?_⟩, h4, fun k q => ?_⟩
  · rcases hQ k q with q | q
    · exact (h2 k e).2.2 q
    · have := (h2 k e).2.1; omega
  · rcases hQ _ q with q | q
    · exact (h3 x hx).2.2.2 q
    · have := (h3 x hx).1.lt; omega
  · rcases hQ k q with q | q
    · exact Nat.lt_of_lt_of_le (h5 k q) hs
    · exact q.2
theorem TM.below {B : Nat} {P : Nat → Prop} {w w' : World} {kb : Nat} {K : KS} {L : List Tab} (h : TM B P w kb K L) (hB : Below w.heap.size w w') : TM B P w' kb K L := h.claim hB P fun _ q => .inl q
theorem TM.held {B : Nat} {P : Nat → Prop} {w w' : World} {kb : Nat} {K : KS} {L : List Tab} (h : TM B P w kb K L) (hB : Below w.heap.size w w') : Held P w w' := by
  obtain ⟨O, h1, h2, h3, h4, h5⟩ := h
  exact fun k q => hB.block k (h5 k q)
/-- One's own blocks may be turned. -/
theorem TM.turned {B : Nat} {P : Nat → Prop} {w w' : World} {kb : Nat} {K : KS} {L : List Tab} {S : Nat → Prop} (h : TM B P w kb K L) (hT : Turned S w w') (hS : ∀ k, S k → P k ∨ w.heap.size ≤ k) : TM B P w' kb K L := by
  obtain ⟨O, h1, h2, h3, h4, h5⟩ := h
  refine ⟨O, h1.keep (fun k e hk => hT.block k hk (fun e' => ?_)) hT.size, fun k e => ⟨(h2 k e).1, Nat.lt_of_lt_of_le (h2 k e).2.1 hT.size, (h2 k e).2.2⟩, fun x hx => ⟨(h3 x hx).1.turned hT (fun e' => ?_), (h3 x hx).2⟩, h4, fun k q => Nat.lt_of_lt_of_le (h5 k q) hT.size⟩
  · rcases hS k e' with q | q
    · exact (h2 k e).2.2 q
    · omega
  · rcases hS _ e' with q | q
    · exact (h3 x hx).2.2.2 q
    · have := (h3 x hx).1.lt; omega
/-- One's own blocks may be turned, and new ones kept. -/
theorem TM.take {B : Nat} {P : Nat → Prop} {w w' : World} {kb : Nat} {K : KS} {L : List Tab} {S : Nat → Prop} (h : TM B P w kb K L) (hT : Turned S w w') (hS : ∀ k, S k → P k ∨ w.heap.size ≤ k) (Q : Nat → Prop) (hQ : ∀ k, Q k → P k ∨ (w.heap.size ≤ k ∧ k < w'.heap.size)) : TM B Q w' kb K L := by
  obtain ⟨O, h1, h2, h3, h4, h5⟩ := h
  refine ⟨O, h1.keep (fun k e hk => hT.block k hk (fun e' => ?_)) hT.size, fun k e => ⟨(h2 k e).1, Nat.lt_of_lt_of_le (h2 k e).2.1 hT.size, fun q => ?_⟩, fun x hx => ⟨(h3 x hx).1.turned hT (fun e' => ?_), (h3 x hx).2.1, (h3 x hx).2.2.1, fun q => ?_⟩, h4, fun k q => ?_⟩
  · rcases hS k e' with q | q
    · exact (h2 k e).2.2 q
    · omega
  · rcases hQ k q with q | q
    · exact (h2 k e).2.2 q
    · have := (h2 k e).2.1; omega
  · rcases hS _ e' with q | q
    · exact (h3 x hx).2.2.2 q
    · have := (h3 x hx).1.lt; omega
  · rcases hQ _ q with q | q
    · exact (h3 x hx).2.2.2 q
    · have := (h3 x hx).1.lt; omega
  · rcases hQ k q with q | q
    · exact Nat.lt_of_lt_of_le (h5 k q) hT.size
    · exact q.2
theorem TM.tb {B : Nat} {P : Nat → Prop} {w : World} {kb : Nat} {K : KS} {L : List Tab} (h : TM B P w kb K L) (x : Tab) (hx : x ∈ L) : Tb w x.t kb x.ds x.ms := by
  obtain ⟨O, h1, h2, h3, h4⟩ := h
  exact (h3 x hx).1
theorem TM.step {B : Nat} {P : Nat → Prop} {w : World} {kb : Nat} {K : KS} {L1 L2 : List Tab} {x : Tab} (h : TM B P w kb K (L1 ++ x :: L2)) :
    ∃ O, TW w O x.t kb ⟨K, x.ds, x.ms⟩ ∧ (∀ k, O k → k < w.heap.size) ∧ ∀ S' w', TStep w O x.t kb S' w' → TM B P w' kb S'.K (L1 ++ ⟨x.t, S'.ds, S'.ms⟩ :: L2) ∧ Below B w w' ∧ Held P w w' := by
  have hb := h.base
  obtain ⟨O, h1, h2, h3, h4, h5⟩ := h
  have hx := h3 x (List.mem_append.2 (.inr (List.mem_cons_self ..)))
  refine ⟨O, ⟨h1, hx.1, hx.2.1⟩, fun k e => (h2 k e).2.1, fun S' w' ⟨O', a1, a2, a3⟩ => ⟨⟨fun k => O' k ∧ k < w'.heap.size, a1.k.trim, fun k e => ⟨?_, e.2, fun q => ?_⟩, fun y hy => ?_, ?_, fun k q => Nat.lt_of_lt_of_le (h5 k q) a3.size⟩, a3.below (fun k e => ?_) hb, fun k q => a3.block k (h5 k q) (fun e => ?_)⟩⟩
  · rcases a2 k e.1 with e | e
    · exact (h2 k e).1
    · exact Nat.le_trans hb e
  · rcases a2 k e.1 with e | e
    · exact (h2 k e).2.2 q
    · have := h5 k q; omega
  · have key : y ∈ L1 ++ L2 → Tb w' y.t kb y.ds y.ms ∧ ¬ (O' y.t ∧ y.t < w'.heap.size) ∧ B ≤ y.t ∧ ¬ P y.t := fun hy => by
      have hyL : y ∈ L1 ++ x :: L2 := by
        rcases List.mem_append.1 hy with e | e
        · exact List.mem_append.2 (.inl e)
        · exact List.mem_append.2 (.inr (List.mem_cons_of_mem _ e))
      have hne : y.t ≠ x.t := fun e => by
        rw [List.map_append, List.map_cons] at h4
        have h5 := List.nodup_append.1 h4
        rcases List.mem_append.1 hy with e' | e'
        · exact h5.2.2 y.t (List.mem_map.2 ⟨y, e', rfl⟩) x.t (by simp) e
        · exact (List.nodup_cons.1 h5.2.1).1 (e ▸ List.mem_map.2 ⟨y, e', rfl⟩)
      have hy3 := h3 y hyL
      refine ⟨hy3.1.turned a3 (fun e => e.elim hy3.2.1 hne), fun e => ?_, hy3.2.2⟩
      rcases a2 _ e.1 with e | e
      · exact hy3.2.1 e
      · have := hy3.1.lt; omega
    rcases List.mem_append.1 hy with e | e
    · exact key (List.mem_append.2 (.inl e))
    · rcases List.mem_cons.1 e with e | e
      · subst e
        exact ⟨a1.tb, fun e => a1.apart e.1, hx.2.2⟩
      · exact key (List.mem_append.2 (.inr e))
  · rw [List.map_append, List.map_cons] at h4 ⊢
    exact h4
  · rcases e with e | e
    · exact (h2 k e).1
    · rw [e]; exact hx.2.2.1
  · rcases e with e | e
    · exact (h2 k e).2.2 q
    · exact hx.2.2.2 (e ▸ q)
theorem TM.open {B : Nat} {P : Nat → Prop} {w : World} {kb : Nat} {K : KS} {L1 L2 : List Tab} {x : Tab} (h : TM B P w kb K (L1 ++ x :: L2)) (s : ByteArray) (f : Int) (hs : s.size ≤ maxLen) (hl : K.next < 9223372036854775807) (r : Int × Int × TS) (hr : (⟨K, x.ds, x.ms⟩ : TS).open s f = r) :
    Calls Tryz.prog 21 #[.pointer (some ⟨x.t, 0, none⟩), .string s, .int .i64 f] w fun e w' => e = .returned (.tuple #[.int .i64 r.1, .int .i64 r.2.1]) ∧ TM B P w' kb r.2.2.K (L1 ++ ⟨x.t, r.2.2.ds, r.2.2.ms⟩ :: L2) ∧ Below B w w' ∧ Held P w w' := by
  obtain ⟨O, h1, _, h2⟩ := h.step
  subst hr
  exact (topen_any x.t kb O _ s f w h1 hs hl).mono fun e w' ⟨a, b⟩ => ⟨a, h2 _ _ b⟩
theorem TM.install {B : Nat} {P : Nat → Prop} {w : World} {kb : Nat} {K : KS} {L1 L2 : List Tab} {x : Tab} (h : TM B P w kb K (L1 ++ x :: L2)) (d : Int) (hd : I64 d) (r : Int × Int × TS) (hr : (⟨K, x.ds, x.ms⟩ : TS).install d = r) :
    Calls Tryz.prog 25 #[.pointer (some ⟨x.t, 0, none⟩), .int .i64 d] w fun e w' => e = .returned (.tuple #[.int .i64 r.1, .int .i64 r.2.1]) ∧ TM B P w' kb r.2.2.K (L1 ++ ⟨x.t, r.2.2.ds, r.2.2.ms⟩ :: L2) ∧ Below B w w' ∧ Held P w w' := by
  obtain ⟨O, h1, _, h2⟩ := h.step
  subst hr
  exact (tinstall_any x.t kb O _ d w h1 hd).mono fun e w' ⟨a, b⟩ => ⟨a, h2 _ _ b⟩
theorem TM.dup {B : Nat} {P : Nat → Prop} {w : World} {kb : Nat} {K : KS} {L1 L2 : List Tab} {x : Tab} (h : TM B P w kb K (L1 ++ x :: L2)) (fd : Int) (r : Int × Int × TS) (hr : (⟨K, x.ds, x.ms⟩ : TS).dup fd = r) :
    Calls Tryz.prog 23 #[.pointer (some ⟨x.t, 0, none⟩), .int .i64 fd] w fun e w' => e = .returned (.tuple #[.int .i64 r.1, .int .i64 r.2.1]) ∧ TM B P w' kb r.2.2.K (L1 ++ ⟨x.t, r.2.2.ds, r.2.2.ms⟩ :: L2) ∧ Below B w w' ∧ Held P w w' := by
  obtain ⟨O, h1, _, h2⟩ := h.step
  subst hr
  exact (tdup_any x.t kb O _ fd w h1).mono fun e w' ⟨a, b⟩ => ⟨a, h2 _ _ b⟩
theorem TM.close {B : Nat} {P : Nat → Prop} {w : World} {kb : Nat} {K : KS} {L1 L2 : List Tab} {x : Tab} (h : TM B P w kb K (L1 ++ x :: L2)) (fd : Int) (r : Int × TS) (hr : (⟨K, x.ds, x.ms⟩ : TS).close fd = r) :
    Calls Tryz.prog 26 #[.pointer (some ⟨x.t, 0, none⟩), .int .i64 fd] w fun e w' => e = .returned (.int .i64 r.1) ∧ TM B P w' kb r.2.K (L1 ++ ⟨x.t, r.2.ds, r.2.ms⟩ :: L2) ∧ Below B w w' ∧ Held P w w' := by
  obtain ⟨O, h1, _, h2⟩ := h.step
  subst hr
  exact (tclose_any x.t kb O _ fd w h1).mono fun e w' ⟨a, b⟩ => ⟨a, h2 _ _ b⟩
theorem TM.dupTo {B : Nat} {P : Nat → Prop} {w : World} {kb : Nat} {K : KS} {L1 L2 : List Tab} {x : Tab} (h : TM B P w kb K (L1 ++ x :: L2)) (fd to : Int) (r : Int × TS) (hr : (⟨K, x.ds, x.ms⟩ : TS).dupTo fd to = r) :
    Calls Tryz.prog 27 #[.pointer (some ⟨x.t, 0, none⟩), .int .i64 fd, .int .i64 to] w fun e w' => e = .returned (.int .i64 r.1) ∧ TM B P w' kb r.2.K (L1 ++ ⟨x.t, r.2.ds, r.2.ms⟩ :: L2) ∧ Below B w w' ∧ Held P w w' := by
  obtain ⟨O, h1, _, h2⟩ := h.step
  subst hr
  exact (tdupTo_any x.t kb O _ fd to w h1).mono fun e w' ⟨a, b⟩ => ⟨a, h2 _ _ b⟩
theorem TM.mark {B : Nat} {P : Nat → Prop} {w : World} {kb : Nat} {K : KS} {L1 L2 : List Tab} {x : Tab} (h : TM B P w kb K (L1 ++ x :: L2)) (fd : Int) (m : Bool) (r : Int × TS) (hr : (⟨K, x.ds, x.ms⟩ : TS).mark fd m = r) :
    Calls Tryz.prog 40 #[.pointer (some ⟨x.t, 0, none⟩), .int .i64 fd, .bool m] w fun e w' => e = .returned (.int .i64 r.1) ∧ TM B P w' kb r.2.K (L1 ++ ⟨x.t, r.2.ds, r.2.ms⟩ :: L2) ∧ Below B w w' ∧ Held P w w' := by
  obtain ⟨O, h1, _, h2⟩ := h.step
  subst hr
  exact (tmark_any x.t kb O _ fd m w h1).mono fun e w' ⟨a, b⟩ => ⟨a, h2 _ _ b⟩
theorem TM.closeAll {B : Nat} {P : Nat → Prop} {w : World} {kb : Nat} {K : KS} {L1 L2 : List Tab} {x : Tab} (h : TM B P w kb K (L1 ++ x :: L2)) (r : TS) (hr : (⟨K, x.ds, x.ms⟩ : TS).closeAll = r) :
    Calls Tryz.prog 58 #[.pointer (some ⟨x.t, 0, none⟩)] w fun e w' => (∃ v, e = .returned v) ∧ TM B P w' kb r.K (L1 ++ ⟨x.t, r.ds, r.ms⟩ :: L2) ∧ Below B w w' ∧ Held P w w' := by
  obtain ⟨O, h1, _, h2⟩ := h.step
  subst hr
  exact (tcloseAll_any x.t kb O _ w h1).mono fun e w' ⟨a, b⟩ => ⟨a, h2 _ _ b⟩
theorem TM.read {B : Nat} {P : Nat → Prop} {w : World} {kb : Nat} {K : KS} {L1 L2 : List Tab} {x : Tab} (h : TM B P w kb K (L1 ++ x :: L2)) (i : Nat) (n : Int) (hi : i < 64) (hz : x.ds i ≠ 0) (hr : K.reads < 9223372036854775807) (r : List UInt8 × Int × KS) (he : K.read (x.ds i) n = r) :
    Calls Tryz.prog 51 #[.pointer (some ⟨x.t, 0, none⟩), .int .i64 (i : Int), .int .i64 n] w fun e w' => ∃ v, e = .returned (.tuple #[v, .int .i64 r.2.1]) ∧ w'.ownsRow w.heap.size 5 1 v r.1.length (r.1.map bv) ∧ TM B P w' kb r.2.2 (L1 ++ x :: L2) ∧ Below B w w' ∧ Held P w w' := by
  obtain ⟨O, h1, h0, h2⟩ := h.step
  subst he
  refine (tread_yes x.t kb O _ i n w h1 hi hz hr).mono fun e w' ⟨v, a, b, c, d⟩ => ⟨v, a, b, ?_⟩
  exact h2 ⟨(K.read (x.ds i) n).2.2, x.ds, x.ms⟩ w' ⟨O, c, fun k e => .inl e, d.mono fun k e => .inl e⟩
theorem TM.list {B : Nat} {P : Nat → Prop} {w : World} {kb : Nat} {K : KS} {L : List Tab} {x : Tab} (h : TM B P w kb K L) (hx : x ∈ L) (r : List Nat) (hr : useds x.ds 64 = r) :
    Calls Tryz.prog 17 #[.pointer (some ⟨x.t, 0, none⟩)] w fun e w' => ∃ v, e = .returned v ∧ w'.ownsRow w.heap.size 3 1 v r.length (ivs r) ∧ Below w.heap.size w w' := by
  subst hr
  exact tlist_any x.t kb ⟨K, x.ds, x.ms⟩ w (h.tb x hx)
theorem TM.fork {B : Nat} {P : Nat → Prop} {w : World} {kb : Nat} {K : KS} {L1 L2 : List Tab} {x : Tab} (h : TM B P w kb K (L1 ++ x :: L2)) (r : KS × (Nat → Int)) (hr : (⟨K, x.ds, x.ms⟩ : TS).fork 64 = r) :
    Calls Tryz.prog 13 #[.pointer (some ⟨x.t, 0, none⟩)] w fun e w' => ∃ c, e = .returned (.pointer (some ⟨c, 0, none⟩)) ∧ TM B P w' kb r.1 (L1 ++ x :: L2 ++ [⟨c, r.2, fun _ => false⟩]) ∧ Below B w w' ∧ Held P w w' := by
  have hb := h.base
  obtain ⟨O, k1, k2, k3, k4, k5⟩ := h
  have hx := k3 x (List.mem_append.2 (.inr (List.mem_cons_self ..)))
  subst hr
  refine (tfork_any x.t kb O _ w ⟨k1, hx.1, hx.2.1⟩).mono fun e w' ⟨a, O', c1, c2, c3, c4, c5⟩ => ⟨w.heap.size, a, ⟨fun k => O' k ∧ k < w'.heap.size, c1.k.trim, fun k e => ⟨?_, e.2, fun q => ?_⟩, fun y hy => ?_, ?_, fun k q => Nat.lt_of_lt_of_le (k5 k q) c5.size⟩, c5.below (fun k e => (k2 k e.1).1) hb, fun k q => c5.block k (k5 k q) (fun e => (k2 k e.1).2.2 q)⟩
  · rcases c4 k e.1 with e' | e'
    · exact (k2 k e'.1).1
    · omega
  · rcases c4 k e.1 with e' | e'
    · exact (k2 k e'.1).2.2 q
    · have := k5 k q; omega
  · rcases List.mem_append.1 hy with e | e
    · have hy3 := k3 y e
      have hyl := hy3.1.lt
      refine ⟨hy3.1.turned c5 (fun e => hy3.2.1 e.1), fun e => ?_, hy3.2.2⟩
      rcases c4 _ e.1 with e | e
      · exact hy3.2.1 e.1
      · omega
    · simp only [List.mem_singleton] at e
      subst e
      exact ⟨c2, fun e => c3 e.1, hb, fun q => Nat.lt_irrefl _ (k5 _ q)⟩
  · rw [List.map_append, List.nodup_append]
    refine ⟨k4, by simp, fun p hp q hq => ?_⟩
    obtain ⟨y, hy, rfl⟩ := List.mem_map.1 hp
    simp only [List.map_cons, List.map_nil, List.mem_singleton] at hq
    have := (k3 y hy).1.lt
    omega
/-- None is kept for oneself. -/
abbrev noOne : Nat → Prop := fun _ => False
theorem TM.make {B : Nat} {w : World} {O : Nat → Prop} {kb : Nat} {K : KS} (h : KAt w O kb K) (hO : ∀ k, O k → B ≤ k) : TM B noOne w kb K [] :=
  ⟨fun k => O k ∧ k < w.heap.size, h.trim, fun k e => ⟨hO k e.1, e.2, id⟩, fun _ hx => absurd hx (List.not_mem_nil), List.nodup_nil, fun _ q => q.elim⟩
theorem TM.new {B : Nat} {P : Nat → Prop} {w : World} {kb : Nat} {K : KS} {L : List Tab} (h : TM B P w kb K L) :
    Calls Tryz.prog 11 #[.pointer (some ⟨kb, 0, none⟩)] w fun e w' => ∃ c, e = .returned (.pointer (some ⟨c, 0, none⟩)) ∧ TM B P w' kb K (L ++ [⟨c, fun _ => 0, fun _ => false⟩]) ∧ Below B w w' ∧ Held P w w' := by
  have hb := h.base
  refine (tnew_any kb w).mono fun e w' ⟨a, b, c, d⟩ => ⟨_, a, ?_, c.mono hb, h.held c⟩
  obtain ⟨O0, j1, j2, j3, j4, j5⟩ := h
  refine ⟨O0, j1.below c, fun k e => ⟨(j2 k e).1, by have := (j2 k e).2.1; omega, (j2 k e).2.2⟩, fun y hy => ?_, ?_, fun k q => by have := j5 k q; omega⟩
  · rcases List.mem_append.1 hy with e | e
    · exact ⟨(j3 y e).1.below c, (j3 y e).2⟩
    · simp only [List.mem_singleton] at e
      subst e
      exact ⟨b, fun e => Nat.lt_irrefl _ (j2 _ e).2.1, hb, fun q => Nat.lt_irrefl _ (j5 _ q)⟩
  · rw [List.map_append, List.nodup_append]
    refine ⟨j4, by simp, fun p hp q hq => ?_⟩
    obtain ⟨y, hy, rfl⟩ := List.mem_map.1 hp
    simp only [List.map_cons, List.map_nil, List.mem_singleton] at hq
    have := (j3 y hy).1.lt
    omega
theorem TM.kind {B : Nat} {P : Nat → Prop} {w : World} {kb : Nat} {K : KS} {L : List Tab} (h : TM B P w kb K L) (d : Int) (hd : I64 d) (r : Int) (hr : K.kindOf d = r) :
    Calls Tryz.prog 72 #[.pointer (some ⟨kb, 0, none⟩), .int .i64 d] w fun e w' => e = .returned (.int .i64 r) ∧ TM B P w' kb K L ∧ Below B w w' ∧ Held P w w' := by
  have hb := h.base
  have hx := h
  obtain ⟨O, h1, h2, h3, h4⟩ := h
  subst hr
  exact (h1.kinds d hd).mono fun e w' ⟨a, b⟩ => ⟨a, hx.below b, b.mono hb, hx.held b⟩
theorem TM.desc {B : Nat} {P : Nat → Prop} {w : World} {kb : Nat} {K : KS} {L : List Tab} {x : Tab} (h : TM B P w kb K L) (hx : x ∈ L) (i : Nat) (hi : i < 64) (hz : x.ds i ≠ 0) (d : Int) (hd : x.ds i = d) :
    Calls Tryz.prog 62 #[.pointer (some ⟨x.t, 0, none⟩), .int .i64 (i : Int)] w fun e w' => e = .returned (.tuple #[.int .i64 d, .int .i64 0]) ∧ w = w' := by
  subst hd
  exact tdesc_yes x.t kb ⟨K, x.ds, x.ms⟩ i w (h.tb x hx) hi hz
end Go.Proofs.YtbhlnmekhgfgcaaGreat

/- The law's examples. -/
namespace Go.Proofs.YtbhlnmekhgfgcaaGreat
open Go.RowKit Go.Maps

def exK0 : KS := KS.new [(⟨#[97]⟩, [104, 101, 108, 108, 111])] [] [(1, 2), (2, 0)]
def exK1 : KS := (exK0.open ⟨#[97]⟩ 1).2.2
theorem ex1 : (exK0.open ⟨#[97]⟩ 1).1 = 1 ∧ (exK0.open ⟨#[97]⟩ 1).2.1 = 0 := by constructor <;> rfl
def exK2 : KS := (exK1.read 1 5).2.2
theorem ex2 : (exK1.read 1 5).1 = [104, 101] ∧ (exK1.read 1 5).2.1 = 0 := by constructor <;> rfl
def exK3 : KS := (exK2.read 1 5).2.2
theorem ex3 : (exK2.read 1 5).1 = [] ∧ (exK2.read 1 5).2.1 = 22 := by constructor <;> rfl
def exK4 : KS := (exK3.read 1 5).2.2
theorem ex4 : (exK3.read 1 5).1 = [108, 108, 111] ∧ (exK3.read 1 5).2.1 = 0 := by constructor <;> rfl
def exK5 : KS := (exK4.open ⟨#[98]⟩ 1).2.2
theorem ex5 : (exK4.open ⟨#[98]⟩ 1).1 = 0 ∧ (exK4.open ⟨#[98]⟩ 1).2.1 = 62 := by constructor <;> rfl
def exK6 : KS := (exK5.open ⟨#[98]⟩ 42).2.2
theorem ex6 : (exK5.open ⟨#[98]⟩ 42).1 = 2 ∧ (exK5.open ⟨#[98]⟩ 42).2.1 = 0 := by constructor <;> rfl
theorem ex7 : (exK6.open ⟨#[98]⟩ 42).1 = 0 ∧ (exK6.open ⟨#[98]⟩ 42).2.1 = 63 := by constructor <;> rfl
theorem exc : checkE [(⟨#[97]⟩, [104, 101, 108, 108, 111])] [] [(1, 2), (2, 0)] = 0 := by rfl
theorem one_named {W : World} {g : Nat} {nm : ByteArray} {va : Option Addr} {vc : Nat} {b : List UInt8} (h0 : W.cell? ⟨g, 0, none⟩ = some (.string nm)) (h1 : W.cell? ⟨g, 1, none⟩ = some (.slice va b.length vc)) (hb : Bys W (.slice va b.length vc) b) (hc : b.length ≤ vc) (hs : nm.size ≤ maxLen) : Nms W (.slice (some ⟨g, 0, none⟩) 1 1) [(nm, b)] := by
  refine ⟨_, _, rfl, Nat.le_refl _, fun _ => ⟨g, 0, rfl, fun j hj => ?_⟩⟩
  obtain rfl : j = 0 := by simp at hj; omega
  exact ⟨va, vc, h0, h1, hb, hc, hs⟩
theorem no_typed (W : World) : Tps W (.slice none 0 0) [] := ⟨_, _, rfl, Nat.le_refl _, fun h => absurd h (Nat.lt_irrefl _)⟩

end Go.Proofs.YtbhlnmekhgfgcaaGreat

/- The law's examples of tables; SameInts. -/
namespace Go.Proofs.YtbhlnmekhgfgcaaGreat
open Go.RowKit Go.Maps

/-- A slice value that holds numbers. -/
def Nums (W : World) (v : Value) (l : List Int) : Prop := ∃ a c, v = .slice a l.length c ∧ (0 < l.length → ∃ b off, a = some ⟨b, off, none⟩ ∧ ∀ j, j < l.length → W.cell? ⟨b, off + j, none⟩ = some (.int .i64 (l.getD j 0)))
theorem Nums.below {W W' : World} {v : Value} {l : List Int} (h : Nums W v l) (hB : Below W.heap.size W W') : Nums W' v l := by
  obtain ⟨a, c, rfl, h⟩ := h
  refine ⟨a, c, rfl, fun h0 => ?_⟩
  obtain ⟨b, off, rfl, hc⟩ := h h0
  exact ⟨b, off, rfl, fun j hj => (hB.cell (p := ⟨b, off + j, none⟩) (World.block_lt_of_cell? W _ (hc j hj))).trans (hc j hj)⟩
theorem Nums.of_owns {W : World} {B : Nat} {v : Value} {l : List Nat} (h : W.ownsRow B 3 1 v l.length (ivs l)) : Nums W v (l.map fun i : Nat => (i : Int)) := by
  obtain ⟨a, c, rfl⟩ := owns_slice h
  refine ⟨a, c, by simp, fun h0 => ?_⟩
  rw [List.length_map] at h0
  obtain ⟨b, rfl, _⟩ := ints_cell h h0 (ivs_at l 0 h0)
  refine ⟨b, 0, rfl, fun j hj => ?_⟩
  rw [List.length_map] at hj
  obtain ⟨b', e, hc⟩ := ints_cell h hj (ivs_at l j hj)
  cases e
  rw [Nat.zero_add, hc]
  simp [hj]
set_option maxRecDepth 100000 in
set_option maxHeartbeats 2000000 in
theorem sameInts_any (x y : Value) (l : List Int) (w : World) (hx : Nums w x l) (hy : Nums w y l) (hl : l.length ≤ 9223372036854775807) :
    Calls Tryz.prog 16 #[x, y] w fun e w' => e = .returned (.bool true) ∧ Below w.heap.size w w' := by
  obtain ⟨xa, xc, rfl, hx⟩ := hx
  obtain ⟨ya, yc, rfl, hy⟩ := hy
  have HX := hide hx
  have HY := hide hy
  clear hx hy
  go_enter Tryz.func16, Tryz.ntmps16
  go_wp2
  go_loopw [5] (fun i wr => ∃ (k : Nat), k ≤ l.length ∧ i = .int .i64 k ∧ ∃ q, wr = w.drewN q) (fun i _ => l.length - (intOf i).toNat)
  case atStart => exact ⟨0, Nat.zero_le _, rfl, 0, rfl⟩
  case round =>
    obtain ⟨k, hk, rfl, q, rfl⟩ := hrel
    by_cases hlt : k < l.length
    · obtain ⟨b1, o1, rfl, hc1⟩ := HX.out (by omega)
      obtain ⟨b2, o2, rfl, hc2⟩ := HY.out (by omega)
      have g1 := hc1 k hlt
      have g2 := hc2 k hlt
      clear hc1 hc2 HX HY
      have hk1 : (0 : Int) ≤ (k : Int) := by omega
      have hk2 : (k : Int) < (l.length : Int) := by omega
      generalize l.getD k 0 = x at g1 g2
      go_wp2
      go_quiet (fail)
      go_wp2
      go_roundw
      case rel => exact ⟨k + 1, by omega, by go_num, _, rfl⟩
      case measure => simp [intOf]; omega
    · go_wp2
      go_ret
      exact ⟨rfl, below_drewN (Below.refl _ _) _⟩
theorem tnum_is (x : Int) (w : World) : Calls Tryz.prog 8 #[.int .i64 x] w fun e w' => e = .returned (.int .i64 x) ∧ w = w' := by
  go_enter Tryz.func8, Tryz.ntmps8
  go_wp2
  go_ret
  exact ⟨rfl, rfl⟩
/-- The page's example. -/
def xa0 : KS := KS.new [(⟨#[97]⟩, []), (⟨#[98]⟩, [])] [] []
def xa1 : Int × Int × TS := (⟨xa0, fun _ => 0, fun _ => false⟩ : TS).open ⟨#[97]⟩ 1
def xa2 : Int × Int × TS := xa1.2.2.dup 0
def xa3 : Int × TS := xa2.2.2.close 0
def xa4 : Int × Int × TS := xa3.2.open ⟨#[98]⟩ 1
def xa5 : Int × TS := xa4.2.2.dupTo 1 5
def xa6 : Int × TS := xa5.2.mark 1 true
def xa7 : KS × (Nat → Int) := xa6.2.fork 64
theorem xac : checkE [(⟨#[97]⟩, []), (⟨#[98]⟩, [])] [] [] = 0 := by rfl
theorem xa1_is : xa1.1 = 0 ∧ xa1.2.1 = 0 ∧ xa1.2.2.K.next = 2 := by constructor; · kernel_rfl
                                                                    constructor <;> kernel_rfl
theorem xa2_is : xa2.1 = 1 ∧ xa2.2.1 = 0 := by constructor <;> kernel_rfl
theorem xa3_is : xa3.1 = 0 ∧ xa3.2.K.next = 2 := by constructor <;> kernel_rfl
theorem xa4_is : xa4.1 = 0 ∧ xa4.2.1 = 0 := by constructor <;> kernel_rfl
theorem xa5_is : xa5.1 = 0 := by kernel_rfl
theorem xa6_is : xa6.1 = 0 := by kernel_rfl
theorem xa7_is : useds xa7.2 64 = [0, 5] := by kernel_rfl
theorem two_named {W : World} {g : Nat} {n1 n2 : ByteArray} (h0 : W.heap[g]? = some (.cells #[.string n1, .slice none 0 0, .string n2, .slice none 0 0] 77 (0, 0))) (hs1 : n1.size ≤ maxLen) (hs2 : n2.size ≤ maxLen) : Nms W (.slice (some ⟨g, 0, none⟩) 2 2) [(n1, []), (n2, [])] := by
  refine ⟨_, _, rfl, Nat.le_refl _, fun _ => ⟨g, 0, rfl, fun j hj => ?_⟩⟩
  have : j = 0 ∨ j = 1 := by simp at hj; omega
  rcases this with rfl | rfl
  · exact ⟨none, 0, by rw [cell_of_row _ _ _ _ _ _ h0]; rfl, by rw [cell_of_row _ _ _ _ _ _ h0]; rfl, .inl ⟨rfl, rfl⟩, Nat.le_refl _, hs1⟩
  · exact ⟨none, 0, by rw [cell_of_row _ _ _ _ _ _ h0]; rfl, by rw [cell_of_row _ _ _ _ _ _ h0]; rfl, .inl ⟨rfl, rfl⟩, Nat.le_refl _, hs2⟩
set_option maxRecDepth 100000 in
set_option maxHeartbeats 4000000 in
theorem talive_any (w : World) : Calls Tryz.prog 10 #[] w fun e w' => e = .returned (.bool true) ∧ Below w.heap.size w w' := by
  have hB0 := recv_below w (Obj.cells #[.string ⟨#[97]⟩, .slice none 0 0, .string ⟨#[98]⟩, .slice none 0 0] 77)
  have hN := two_named (heap_alloc_new w (Obj.cells #[.string ⟨#[97]⟩, .slice none 0 0, .string ⟨#[98]⟩, .slice none 0 0] 77)) (show (⟨#[97]⟩ : ByteArray).size ≤ maxLen by decide) (show (⟨#[98]⟩ : ByteArray).size ≤ maxLen by decide)
  have HN := hide (knew_good (some ⟨w.heap.size, 0, none⟩) none none 2 0 0 [(⟨#[97]⟩, []), (⟨#[98]⟩, [])] [] [] _ hN (no_typed _) (.inl ⟨rfl, rfl⟩) (by decide) (by decide) (by decide) xac)
  have HB0 := hide hB0
  clear hB0 hN
  go_enter Tryz.func10, Tryz.ntmps10
  go_wp2_with fail
  refine HN.out.mono ?_
  rintro e w1 ⟨kb, rfl, hK, hB⟩
  have HB1 := hide (HB0.out.trans (hB.mono HB0.out.size))
  have H0 := hide ((TM.make (B := w.heap.size) hK (fun k e => Nat.le_trans HB0.out.size e)).new)
  clear hK hB
  go_wp2_with fail
  refine H0.out.mono ?_
  rintro e w2 ⟨t, rfl, hM, hB, -⟩
  have HB2 := hide (HB1.out.trans hB)
  have H1 := hide (TM.open (L1 := []) (L2 := []) hM ⟨#[97]⟩ 1 (by decide) (by show (1 : Nat) < 9223372036854775807; decide) xa1 rfl)
  rw [xa1_is.1, xa1_is.2.1] at H1
  clear hM hB
  go_wp2_with (first | (go_at_call 8; refine (tnum_is _ _).mono ?_; rintro _ _ ⟨rfl, rfl⟩) | fail)
  refine H1.out.mono ?_
  rintro e w3 ⟨rfl, hM, hB, -⟩
  have HB3 := hide (HB2.out.trans hB)
  have H2 := hide (TM.dup (L1 := []) (L2 := []) hM 0 xa2 rfl)
  rw [xa2_is.1, xa2_is.2] at H2
  clear hM hB
  go_wp2_with (first | (go_at_call 8; refine (tnum_is _ _).mono ?_; rintro _ _ ⟨rfl, rfl⟩) | fail)
  refine H2.out.mono ?_
  rintro e w4 ⟨rfl, hM, hB, -⟩
  have HB4 := hide (HB3.out.trans hB)
  have H3 := hide (TM.close (L1 := []) (L2 := []) hM 0 xa3 rfl)
  rw [xa3_is.1] at H3
  clear hM hB
  go_wp2_with (first | (go_at_call 8; refine (tnum_is _ _).mono ?_; rintro _ _ ⟨rfl, rfl⟩) | fail)
  refine H3.out.mono ?_
  rintro e w5 ⟨rfl, hM, hB, -⟩
  have HB5 := hide (HB4.out.trans hB)
  have H4 := hide (TM.open (L1 := []) (L2 := []) hM ⟨#[98]⟩ 1 (by decide) (by rw [xa3_is.2]; decide) xa4 rfl)
  rw [xa4_is.1, xa4_is.2] at H4
  clear hM hB
  go_wp2_with (first | (go_at_call 8; refine (tnum_is _ _).mono ?_; rintro _ _ ⟨rfl, rfl⟩) | fail)
  refine H4.out.mono ?_
  rintro e w6 ⟨rfl, hM, hB, -⟩
  have HB6 := hide (HB5.out.trans hB)
  have H5 := hide (TM.dupTo (L1 := []) (L2 := []) hM 1 5 xa5 rfl)
  rw [xa5_is] at H5
  clear hM hB
  go_wp2_with (first | (go_at_call 8; refine (tnum_is _ _).mono ?_; rintro _ _ ⟨rfl, rfl⟩) | fail)
  refine H5.out.mono ?_
  rintro e w7 ⟨rfl, hM, hB, -⟩
  have HB7 := hide (HB6.out.trans hB)
  have H6 := hide (TM.mark (L1 := []) (L2 := []) hM 1 true xa6 rfl)
  rw [xa6_is] at H6
  clear hM hB
  go_wp2_with (first | (go_at_call 8; refine (tnum_is _ _).mono ?_; rintro _ _ ⟨rfl, rfl⟩) | fail)
  refine H6.out.mono ?_
  rintro e w8 ⟨rfl, hM, hB, -⟩
  have HB8 := hide (HB7.out.trans hB)
  have H7 := hide (TM.fork (L1 := []) (L2 := []) hM xa7 rfl)
  clear hM hB
  go_wp2_with (first | (go_at_call 8; refine (tnum_is _ _).mono ?_; rintro _ _ ⟨rfl, rfl⟩) | fail)
  refine H7.out.mono ?_
  rintro e w9 ⟨c, rfl, hM, hB, -⟩
  have HB9 := hide (HB8.out.trans hB)
  have H8 := hide (TM.list hM (x := ⟨c, xa7.2, fun _ => false⟩) (by simp) [0, 5] xa7_is)
  clear hM hB
  go_wp2_with (first | (go_at_call 8; refine (tnum_is _ _).mono ?_; rintro _ _ ⟨rfl, rfl⟩) | fail)
  refine H8.out.mono ?_
  rintro e w10 ⟨v, rfl, hO, hB⟩
  obtain ⟨va, vc, rfl⟩ := owns_slice hO
  have HB10 := hide (HB9.out.trans (hB.mono HB9.out.size))
  have hBl := recv_below w10 (Obj.cells #[.int .i64 0, .int .i64 5] 3)
  have hN1 := (Nums.of_owns hO).below hBl
  have hN2 : Nums (w10.alloc (Obj.cells #[.int .i64 0, .int .i64 5] 3)) (.slice (some ⟨w10.heap.size, 0, none⟩) 2 2) (([0, 5] : List Nat).map fun i : Nat => (i : Int)) := by
    refine ⟨_, _, rfl, fun _ => ⟨w10.heap.size, 0, rfl, fun j hj => ?_⟩⟩
    have : j = 0 ∨ j = 1 := by simp at hj; omega
    rcases this with rfl | rfl <;> (rw [cell_of_row _ _ _ _ _ _ (heap_alloc_new w10 _)]; rfl)
  have HSm := hide (sameInts_any _ _ _ _ hN1 hN2 (by decide))
  have HB11 := hide (HB10.out.trans (hBl.mono HB10.out.size))
  clear hO hB hBl hN1 hN2
  simp only [List.length_cons, List.length_nil, Nat.zero_add, Nat.reduceAdd] at *
  go_wp2_with (first | (go_at_call 16; refine HSm.out.mono ?_; rintro _ w12 ⟨rfl, hB12⟩) | fail)
  go_ret
  exact ⟨rfl, HB11.out.trans (hB12.mono HB11.out.size)⟩
end Go.Proofs.YtbhlnmekhgfgcaaGreat

/- KernPlace: the kernel's states, as values. -/
namespace Go.Proofs.YtbhlnmekhgfgcaaGreat
open Go.RowKit Go.Maps

def nmF : ByteArray := ⟨#[102]⟩
/-- One file, two descriptions of it: one read by two, one written. -/
def KPl (b : List UInt8) (p1 p2 rd wr : Nat) : KS := ⟨[⟨nmF, .file b⟩], [0], [⟨1, 0, 1, p1, 2⟩, ⟨2, 0, 3, p2, 1⟩], 3, [], rd, wr⟩
theorem pl_check (b : List UInt8) : checkE [(nmF, b)] [] [] = if 1048576 < b.length then 5 else 0 := by
  unfold checkE
  rw [if_neg (by simp)]
  rw [show kfiles [] [(nmF, b)] = if 1048576 < b.length then (5, []) else (0, [nmF]) from rfl]
  split
  · rw [if_neg (by decide)]
  · rw [if_pos rfl]; rfl
theorem pl_open1 (b : List UInt8) : (KS.new [(nmF, b)] [] []).open nmF 1 = (1, 0, ⟨[⟨nmF, .file b⟩], [0], [⟨1, 0, 1, 0, 1⟩], 2, [], 0, 0⟩) := rfl
theorem pl_open2 (b : List UInt8) : (⟨[⟨nmF, .file b⟩], [0], [⟨1, 0, 1, 0, 1⟩], 2, [], 0, 0⟩ : KS).open nmF 3 = (2, 0, ⟨[⟨nmF, .file b⟩], [0], [⟨1, 0, 1, 0, 1⟩, ⟨2, 0, 3, 0, 1⟩], 3, [], 0, 0⟩) := rfl
theorem pl_keep (b : List UInt8) : (⟨[⟨nmF, .file b⟩], [0], [⟨1, 0, 1, 0, 1⟩, ⟨2, 0, 3, 0, 1⟩], 3, [], 0, 0⟩ : KS).keepE 1 = 0 ∧ (⟨[⟨nmF, .file b⟩], [0], [⟨1, 0, 1, 0, 1⟩, ⟨2, 0, 3, 0, 1⟩], 3, [], 0, 0⟩ : KS).keepK 1 = KPl b 0 0 0 0 := ⟨rfl, rfl⟩
theorem nxt_nil {n : Int} (h1 : 1 ≤ n) (h2 : n ≤ 1048576) : nxt [] n = (n, 0) := by simp [nxt]; omega
theorem pl_read (b : List UInt8) (p1 p2 rd wr : Nat) (n : Int) (h1 : 1 ≤ n) (h2 : n ≤ 1048576) : (KPl b p1 p2 rd wr).read 1 n = (piece b p1 n.toNat, 0, KPl b (p1 + (piece b p1 n.toNat).length) p2 (rd + 1) wr) := by
  have hx : (KPl b p1 p2 rd wr).find 1 = some ⟨1, 0, 1, p1, 2⟩ := rfl
  rw [read_is hx (by show fbit 1 1 ≠ 0; decide) h1 h2 rfl]
  have e : nxt (KPl b p1 p2 rd wr).plan n = (n, 0) := nxt_nil h1 h2
  rw [e, if_pos rfl]
  rfl
theorem pl_write (b x : List UInt8) (p1 rd wr : Nat) (h1 : 1 ≤ x.length) (h2 : x.length ≤ 1048576) : (KPl b p1 0 rd wr).write 2 x = ((x.length : Int), 0, KPl (wrL b 0 x) p1 x.length rd (wr + 1)) := by
  have hx : (KPl b p1 0 rd wr).find 2 = some ⟨2, 0, 3, 0, 1⟩ := rfl
  have hr : refusal ((KPl b p1 0 rd wr).tho ⟨2, 0, 3, 0, 1⟩) 3 0 x.length = 0 := rfl
  rw [write_is hx (by show fbit 3 2 ≠ 0; decide) h1 h2 hr]
  have e : nxt (KPl b p1 0 rd wr).plan x.length = ((x.length : Int), 0) := nxt_nil (by omega) (by omega)
  rw [e, if_pos rfl]
  have hm : min x.length (1048576 - placeOf b 3 0) = x.length := by
    rw [show placeOf b 3 0 = 0 from rfl]; omega
  show (KPl b p1 0 rd wr).writeUp.wrx ⟨2, 0, 3, 0, 1⟩ x x.length = _
  rw [show (KPl b p1 0 rd wr).writeUp.wrx ⟨2, 0, 3, 0, 1⟩ x x.length = (((min x.length (1048576 - placeOf b 3 0) : Nat) : Int), 0, ((KPl b p1 0 rd wr).writeUp.setOb 0 (.file (wrL b (placeOf b 3 0) (x.take (min x.length (1048576 - placeOf b 3 0)))))).setDe ⟨2, 0, 3, placeOf b 3 0 + min x.length (1048576 - placeOf b 3 0), 1⟩) from rfl]
  rw [hm, show placeOf b 3 0 = 0 from rfl, List.take_length, Nat.zero_add]
  rfl
theorem pl_writeN (b x : List UInt8) (p1 rd wr : Nat) (h : x.length = 0 ∨ 1048576 < x.length) : ((KPl b p1 0 rd wr).write 2 x).1 = 0 := by
  have hx : (KPl b p1 0 rd wr).find 2 = some ⟨2, 0, 3, 0, 1⟩ := rfl
  unfold KS.write
  rw [hx]
  simp only
  rw [if_neg (by decide)]
  rcases h with h | h
  · rw [if_neg (by omega), if_pos h]
  · rw [if_pos h]
theorem pl_seek (b : List UInt8) (p1 p2 rd wr : Nat) : (KPl b p1 p2 rd wr).seek 1 0 0 = (0, 0, KPl b 0 p2 rd wr) := rfl
theorem pl_back (b x : List UInt8) (h2 : x.length ≤ 1048576) : piece (wrL b 0 x) 0 x.length = x := by
  unfold wrL
  have : Fi_wrE 0 x.length = 0 := wr_fits (at' := 0) (by omega)
  rw [if_pos this]
  by_cases hx : x = []
  · subst hx; simp [piece]
  · simp [piece, lay, hx]
theorem ktmod_bound (x k : Int) (hk : 0 < k) : -k < x.tmod k ∧ x.tmod k < k := by
  have h2 : ∀ y : Int, 0 ≤ y → 0 ≤ y.tmod k ∧ y.tmod k < k := fun y h => by
    rw [Int.tmod_eq_emod_of_nonneg h]
    exact ⟨Int.emod_nonneg _ (by omega), Int.emod_lt_of_pos _ hk⟩
  rcases Int.le_total 0 x with h | h
  · have := h2 x h; omega
  · have h3 := h2 (-x) (by omega)
    rw [Int.neg_tmod] at h3
    omega
theorem krem_twice (full k : Int) (hk : 0 < k) (hk2 : k ≤ 1048576) : ∃ m : Nat, (wrap64 (full.tmod k + k)).tmod k = (m : Int) ∧ (m : Int) < k := by
  have h1 := ktmod_bound full k hk
  have h2 : wrap64 (full.tmod k + k) = full.tmod k + k := by unfold wrap64; omega
  rw [h2, Int.tmod_eq_emod_of_nonneg (by omega)]
  have h3 := Int.emod_nonneg (full.tmod k + k) (b := k) (by omega)
  have h4 := Int.emod_lt_of_pos (full.tmod k + k) hk
  exact ⟨((full.tmod k + k) % k).toNat, by omega, by omega⟩
theorem take_piece {b : List UInt8} {p n : Nat} (hp : p ≤ b.length) : b.take p ++ piece b p n = b.take (p + (piece b p n).length) := by
  rw [piece_len]
  unfold piece
  rw [← List.take_add]
  by_cases h : n ≤ b.length - p
  · rw [Nat.min_eq_left h]
  · rw [Nat.min_eq_right (by omega), List.take_of_length_le (by omega), List.take_of_length_le (by omega)]
end Go.Proofs.YtbhlnmekhgfgcaaGreat

/- Faults, and ints, that came in as an argument: what a walk is told of them. -/
namespace Go.Proofs.YtbhlnmekhgfgcaaGreat
open Go.ChangeShapes Go.WideShapes Go.ChangeAt Go.RowKit Go.Deep

theorem faults_arg {H : Type} {enc : TypeId × Value → H} {P : Program} {W : World} {base : Nat} {a : Option Addr} {len cap fuel t e : Nat} {f0 f1 : Field} {d : DataW H} {p : List MemPlace}
    (ht : P.underlying t = some (.slice e)) (he : P.underlying e = some (.struct #[f0, f1])) (ce : P.cellsOf e = 2) (o0 : f0.offset = 0) (o1 : f1.offset = 1) (c0 : P.cellsOf f0.type = 1) (c1 : P.cellsOf f1.type = 1)
    (t0 : P.underlying f0.type = some (.int .i64)) (t1 : P.underlying f1.type = some (.int .i64))
    (hf : DataW.trod enc P W base (fun _ => true) true fuel t (Value.slice a len cap).cells.toList = some (d, p)) :
    ∃ l : List Fault, Flts W (.slice a len cap) l ∧ ((d = .nil ∧ l = []) ∨ ∃ elems spare : List (DataW H), d = .slice elems spare ∧ l.length = elems.length) := by
  rcases open_slice_pairs ht he ce o0 o1 c0 c1 hf with ⟨hcs, hd⟩ | ⟨x, n, c, m, q, V0, V1, D0, D1, P0, P1, hcs, _, hl, hm, hmm, hx, hcell⟩
  · simp [Value.cells] at hcs
    obtain ⟨rfl, rfl, rfl⟩ := hcs
    exact ⟨[], .inl ⟨rfl, rfl⟩, .inl ⟨(Prod.mk.inj hd).1, rfl⟩⟩
  · simp [Value.cells] at hcs
    obtain ⟨rfl, rfl, rfl⟩ := hcs
    simp only [if_true] at hmm
    subst hmm
    have hz : ∀ i, i < m → ∃ y z, V0 i = .int .i64 y ∧ V1 i = .int .i64 z := fun i hi => by
      obtain ⟨_, _, h0, h1⟩ := hcell i hi
      obtain ⟨y, hy, _⟩ := DataW.trod_int t0 h0
      obtain ⟨z, hz, _⟩ := DataW.trod_int t1 h1
      exact ⟨y, z, by simpa using hy, by simpa using hz⟩
    let val : Value → Int := fun | .int _ z => z | _ => 0
    refine ⟨(List.range len).map fun i => (val (V0 i), val (V1 i)), ?_, .inr ⟨_, _, (Prod.mk.inj hx).1, by simp⟩⟩
    by_cases h0 : len = 0
    · subst h0
      exact .inr (.inl ⟨x, m, rfl, by simp⟩)
    · obtain ⟨b, off, spot⟩ := x
      have hspot : spot = none := by simpa [Addr.add] using World.cell?_spot (hcell 0 (by omega)).1
      subst hspot
      refine .inr (.inr ⟨b, off, m, by simp, by simp; omega, by simpa using hl, fun j hj => ?_⟩)
      have hj' : j < len := by simpa using hj
      obtain ⟨h1, h2, _⟩ := hcell j (by omega)
      obtain ⟨y, z, hy, hz⟩ := hz j (by omega)
      have hadd : ∀ k, (⟨b, off, none⟩ : Addr).add k = ⟨b, off + k, none⟩ := fun k => by unfold Addr.add; split <;> simp_all
      rw [hadd] at h1 h2
      rw [h1, Nat.add_assoc, h2, hy, hz]
      simp [List.getD_eq_getElem?_getD, hj', hy, hz, val]

/-- The slice value v holds the ints l. -/
def Fa_Ints (W : World) (v : Value) (l : List Int) : Prop :=
  ∃ a c, v = .slice a l.length c ∧ (0 < l.length → ∃ b off, a = some ⟨b, off, none⟩ ∧ ∀ j, j < l.length → W.cell? ⟨b, off + j, none⟩ = some (.int .i64 (l.getD j 0)))
theorem Fa_Ints.below {W W' : World} {v : Value} {l : List Int} (h : Fa_Ints W v l) (hB : Below W.heap.size W W') : Fa_Ints W' v l := by
  obtain ⟨a, c, rfl, h⟩ := h
  refine ⟨a, c, rfl, fun h0 => ?_⟩
  obtain ⟨b, off, rfl, hc⟩ := h h0
  refine ⟨b, off, rfl, fun j hj => ?_⟩
  have := World.block_lt_of_cell? W _ (hc j hj)
  exact (hB.cell (p := ⟨b, off + j, none⟩) this).trans (hc j hj)

theorem ints_arg {H : Type} {enc : TypeId × Value → H} {P : Program} {W : World} {base : Nat} {a : Option Addr} {len cap fuel t e : Nat} {d : DataW H} {p : List MemPlace}
    (ht : P.underlying t = some (.slice e)) (he : P.underlying e = some (.int .i64)) (hc : P.cellsOf e = 1)
    (hf : DataW.trod enc P W base (fun _ => true) true fuel t (Value.slice a len cap).cells.toList = some (d, p)) :
    ∃ l : List Int, Fa_Ints W (.slice a len cap) l ∧ ((d = .nil ∧ l = []) ∨ ∃ elems spare : List (DataW H), d = .slice elems spare ∧ l.length = elems.length) := by
  rcases open_ints ht he hc hf with ⟨hcs, hd⟩ | ⟨x, n, c, zs, hcs, _, hl, hm, hz, hx, hcell, hwz⟩
  · simp [Value.cells] at hcs
    obtain ⟨rfl, rfl, rfl⟩ := hcs
    exact ⟨[], ⟨_, _, rfl, fun h => absurd h (by decide)⟩, .inl ⟨(Prod.mk.inj hd).1, rfl⟩⟩
  · simp [Value.cells] at hcs
    obtain ⟨rfl, rfl, rfl⟩ := hcs
    simp only [if_true] at hz
    have hlen : (zs.take len).length = len := by rw [List.length_take]; omega
    refine ⟨zs.take len, ⟨some x, cap, by rw [hlen], fun h0 => ?_⟩, .inr ⟨_, _, (Prod.mk.inj hx).1, by simp [lits]⟩⟩
    rw [hlen] at h0
    obtain ⟨b, off, spot⟩ := x
    have hspot : spot = none := by simpa [Addr.add] using World.cell?_spot (hcell 0 (by omega))
    subst hspot
    refine ⟨b, off, rfl, fun j hj => ?_⟩
    rw [hlen] at hj
    have h1 := hcell j (by omega)
    have hadd : (⟨b, off, none⟩ : Addr).add j = ⟨b, off + j, none⟩ := by unfold Addr.add; split <;> simp_all
    rw [hadd] at h1
    rw [h1]
    have hjz : j < zs.length := by omega
    simp [List.getD_eq_getElem?_getD, hj, List.getElem?_eq_getElem hjz]
end Go.Proofs.YtbhlnmekhgfgcaaGreat

/- Bytes that came in as an argument: what a walk is told of them. -/
namespace Go.Proofs.YtbhlnmekhgfgcaaGreat
open Go.ChangeShapes Go.WideShapes Go.ChangeAt Go.RowKit

theorem bytes_arg {H : Type} {enc : TypeId × Value → H} {P : Program} {W : World} {base : Nat} {a : Option Addr} {len cap fuel t e : Nat} {d : DataW H} {p : List MemPlace}
    (ht : P.underlying t = some (.slice e)) (he : P.underlying e = some (.int .u8)) (hc : P.cellsOf e = 1)
    (hf : DataW.trod enc P W base (fun _ => true) true fuel t (Value.slice a len cap).cells.toList = some (d, p)) :
    ∃ l : List UInt8, Bys W (.slice a len cap) l ∧ ((d = .nil ∧ l = []) ∨ ∃ elems spare : List (DataW H), d = .slice elems spare ∧ l.length = elems.length) := by
  rcases open_ints ht he hc hf with ⟨hcs, hd⟩ | ⟨x, n, c, zs, hcs, _, hl, hm, hz, hx, hcell, hwz⟩
  · simp [Value.cells] at hcs
    obtain ⟨rfl, rfl, rfl⟩ := hcs
    exact ⟨[], .inl ⟨rfl, rfl⟩, .inl ⟨(Prod.mk.inj hd).1, rfl⟩⟩
  · simp [Value.cells] at hcs
    obtain ⟨rfl, rfl, rfl⟩ := hcs
    simp only [if_true] at hz
    have hlen : ((zs.take len).map fun n => UInt8.ofNat n.toNat).length = len := by rw [List.length_map, List.length_take]; omega
    refine ⟨(zs.take len).map fun n => UInt8.ofNat n.toNat, ?_, .inr ⟨_, _, (Prod.mk.inj hx).1, by simp [lits]⟩⟩
    by_cases h0 : len = 0
    · subst h0
      exact .inr (.inl ⟨x, cap, rfl, by simp⟩)
    · obtain ⟨b, off, spot⟩ := x
      have hspot : spot = none := by simpa [Addr.add] using World.cell?_spot (hcell 0 (by omega))
      subst hspot
      refine .inr (.inr ⟨b, off, cap, by rw [hlen], by rw [hlen]; omega, fun j hj => ?_⟩)
      rw [hlen] at hj
      have h1 := hcell j (by omega)
      have hadd : (⟨b, off, none⟩ : Addr).add j = ⟨b, off + j, none⟩ := by unfold Addr.add; split <;> simp_all
      rw [hadd] at h1
      rw [h1]
      have hjz : j < zs.length := by omega
      have hb := bounds_u8 (hwz zs[j] (List.getElem_mem hjz))
      simp only [List.getD_eq_getElem?_getD, List.getElem?_map, List.getElem?_take, if_pos hj, List.getElem?_eq_getElem hjz, Option.map_some, Option.getD_some]
      rw [UInt8.toNat_ofNat_of_lt' (by show _ < 256; omega), Int.toNat_of_nonneg hb.1]

theorem one_le {H : Type} (d : DataW H) : 1 ≤ Rows.uptoBulk d := by
  cases d with
  | lit l => cases l <;> simp [Rows.uptoBulk]
  | nil => simp [Rows.uptoBulk]
  | ptr d => simp [Rows.uptoBulk]
  | slice elems spare => simp [Rows.uptoBulk]
  | agg parts => simp [Rows.uptoBulk]
  | iface t d => simp [Rows.uptoBulk]
  | map entries => simp [Rows.uptoBulk]
  | held h => simp [Rows.uptoBulk]
theorem bulk_length {H : Type} (l : List (DataW H)) : l.length ≤ Rows.uptoBulkAll l := by
  induction l with
  | nil => simp [Rows.uptoBulkAll]
  | cons x r ih => have := one_le x; simp only [Rows.uptoBulkAll, List.length_cons]; omega
theorem bulk_slice {H : Type} (elems spare : List (DataW H)) : elems.length + 1 ≤ Rows.uptoBulk (.slice elems spare) := by
  have h1 := bulk_length elems
  simp only [Rows.uptoBulk]
  omega
end Go.Proofs.YtbhlnmekhgfgcaaGreat

/- Bytes, and steps, that came in as an argument: what a walk is told of them. -/
namespace Go.Proofs.YtbhlnmekhgfgcaaGreat
open Go.ChangeShapes Go.WideShapes Go.ChangeAt Go.RowKit Go.Deep

/-- A step: what, n, which side, data. -/
abbrev Kp_Stp := Int × Int × Bool × List UInt8
theorem Kp_bys_len {W : World} {a : Option Addr} {n c : Nat} {l : List UInt8} (h : Bys W (.slice a n c) l) : n = l.length := by
  obtain ⟨a', c', he, _⟩ := bys_form h
  cases he
  rfl
theorem bytes_arg2 {H : Type} {enc : TypeId × Value → H} {P : Program} {W : World} {base : Nat} {a : Option Addr} {len cap fuel t e : Nat} {d : DataW H} {p : List MemPlace}
    (ht : P.underlying t = some (.slice e)) (he : P.underlying e = some (.int .u8)) (hc : P.cellsOf e = 1)
    (hf : DataW.trod enc P W base (fun _ => true) true fuel t (Value.slice a len cap).cells.toList = some (d, p)) :
    ∃ l : List UInt8, Bys W (.slice a len cap) l ∧ l.length ≤ cap ∧ ((d = .nil ∧ l = []) ∨ ∃ elems spare : List (DataW H), d = .slice elems spare ∧ l.length = elems.length) := by
  rcases open_ints ht he hc hf with ⟨hcs, hd⟩ | ⟨x, n, c, zs, hcs, _, hl, hm, hz, hx, hcell, hwz⟩
  · simp [Value.cells] at hcs
    obtain ⟨rfl, rfl, rfl⟩ := hcs
    exact ⟨[], .inl ⟨rfl, rfl⟩, by simp, .inl ⟨(Prod.mk.inj hd).1, rfl⟩⟩
  · simp [Value.cells] at hcs
    obtain ⟨rfl, rfl, rfl⟩ := hcs
    simp only [if_true] at hz
    have hlen : ((zs.take len).map fun n => UInt8.ofNat n.toNat).length = len := by rw [List.length_map, List.length_take]; omega
    refine ⟨(zs.take len).map fun n => UInt8.ofNat n.toNat, ?_, by rw [hlen]; exact hl, .inr ⟨_, _, (Prod.mk.inj hx).1, by simp [lits]⟩⟩
    by_cases h0 : len = 0
    · subst h0
      exact .inr (.inl ⟨x, cap, rfl, by simp⟩)
    · obtain ⟨b, off, spot⟩ := x
      have hspot : spot = none := by simpa [Addr.add] using World.cell?_spot (hcell 0 (by omega))
      subst hspot
      refine .inr (.inr ⟨b, off, cap, by rw [hlen], by rw [hlen]; omega, fun j hj => ?_⟩)
      rw [hlen] at hj
      have h1 := hcell j (by omega)
      have hadd : (⟨b, off, none⟩ : Addr).add j = ⟨b, off + j, none⟩ := by unfold Addr.add; split <;> simp_all
      rw [hadd] at h1
      rw [h1]
      have hjz : j < zs.length := by omega
      have hb := bounds_u8 (hwz zs[j] (List.getElem_mem hjz))
      simp only [List.getD_eq_getElem?_getD, List.getElem?_map, List.getElem?_take, if_pos hj, List.getElem?_eq_getElem hjz, Option.map_some, Option.getD_some]
      rw [UInt8.toNat_ofNat_of_lt' (by show _ < 256; omega), Int.toNat_of_nonneg hb.1]



/-- How a slice of bytes inside a datum is told. -/
def Kp_DataOf {H : Type} (d : DataW H) (x : List UInt8) : Prop := (d = .nil ∧ x = []) ∨ ∃ elems spare : List (DataW H), d = .slice elems spare ∧ x.length = elems.length

theorem Kp_step_cells {H : Type} {enc : TypeId × Value → H} {P : Program} {W : World} {base : Nat} {fuel e u : Nat} {f0 f1 f2 f3 : Field} {cs : List Value} {d : DataW H} {p : List MemPlace}
    (he : P.underlying e = some (.struct #[f0, f1, f2, f3])) (ce : P.cellsOf e = 4) (o0 : f0.offset = 0) (o1 : f1.offset = 1) (o2 : f2.offset = 2) (o3 : f3.offset = 3)
    (c0 : P.cellsOf f0.type = 1) (c1 : P.cellsOf f1.type = 1) (c2 : P.cellsOf f2.type = 1) (c3 : P.cellsOf f3.type = 1)
    (t0 : P.underlying f0.type = some (.int .i64)) (t1 : P.underlying f1.type = some (.int .i64)) (t2 : P.underlying f2.type = some .bool) (t3 : P.underlying f3.type = some (.slice u)) (tu : P.underlying u = some (.int .u8)) (cu : P.cellsOf u = 1)
    (h : DataW.trod enc P W base (fun _ => true) true fuel e cs = some (d, p)) :
    ∃ (x : Kp_Stp) (va : Option Addr) (vc : Nat) (d3 : DataW H), cs = [.int .i64 x.1, .int .i64 x.2.1, .bool x.2.2.1, .slice va x.2.2.2.length vc] ∧ (Bys W (.slice va x.2.2.2.length vc) x.2.2.2 ∧ x.2.2.2.length ≤ vc) ∧ (∃ x0 x1 x2, d = .agg [x0, x1, x2, d3]) ∧ Kp_DataOf d3 x.2.2.2 := by
  obtain ⟨xs, k, hk, hxy, hcl, hxl, hf⟩ := DataW.trod_struct he h
  rw [ce] at hcl
  match xs, hxl, cs, hcl with
  | [y0, y1, y2, y3], _, [v0, v1, v2, v3], _ =>
    have g0 := hf 0 f0 rfl
    have g1 := hf 1 f1 rfl
    have g2 := hf 2 f2 rfl
    have g3 := hf 3 f3 rfl
    simp [o0, c0] at g0
    simp [o1, c1] at g1
    simp [o2, c2] at g2
    simp [o3, c3] at g3
    obtain ⟨a, ha, _⟩ := DataW.trod_int t0 g0
    obtain ⟨b, hb, _⟩ := DataW.trod_int t1 g1
    obtain ⟨c, hc, _⟩ := DataW.trod_bool t2 g2
    obtain rfl : v0 = .int .i64 a := by simpa using ha
    obtain rfl : v1 = .int .i64 b := by simpa using hb
    obtain rfl : v2 = .bool c := by simpa using hc
    obtain ⟨va, vl, vc, rfl⟩ : ∃ va vl vc, v3 = .slice va vl vc := by
      rcases DataW.trod_slice t3 g3 with ⟨h0, _⟩ | ⟨x, len, cap, _, _, _, _, h0, _⟩
      · exact ⟨_, _, _, by simpa using h0⟩
      · exact ⟨_, _, _, by simpa using h0⟩
    obtain ⟨y3a, y3b⟩ := y3
    obtain ⟨l, hl, hlc, hd⟩ := bytes_arg2 t3 tu cu (by simpa [Value.cells] using g3)
    obtain rfl := Kp_bys_len hl
    simp only [Prod.mk.injEq] at hxy
    exact ⟨(a, b, c, l), va, vc, y3a, rfl, ⟨hl, hlc⟩, ⟨_, _, _, by simpa using hxy.1⟩, hd⟩

/-- The slice value v holds the steps l. -/
def Kp_Stps (W : World) (v : Value) (l : List Kp_Stp) : Prop :=
  ∃ a c, v = .slice a l.length c ∧ (0 < l.length → ∃ b off, a = some ⟨b, off, none⟩ ∧ ∀ j (hj : j < l.length), ∃ va vc,
    W.cell? ⟨b, off + j * 4, none⟩ = some (.int .i64 l[j].1) ∧ W.cell? ⟨b, off + j * 4 + 1, none⟩ = some (.int .i64 l[j].2.1) ∧ W.cell? ⟨b, off + j * 4 + 2, none⟩ = some (.bool l[j].2.2.1) ∧ W.cell? ⟨b, off + j * 4 + 3, none⟩ = some (.slice va l[j].2.2.2.length vc) ∧ Bys W (.slice va l[j].2.2.2.length vc) l[j].2.2.2 ∧ l[j].2.2.2.length ≤ vc)

theorem Kp_stps_arg {H : Type} {enc : TypeId × Value → H} {P : Program} {W : World} {base : Nat} {a : Option Addr} {len cap fuel t e u : Nat} {f0 f1 f2 f3 : Field} {d : DataW H} {p : List MemPlace}
    (ht : P.underlying t = some (.slice e)) (he : P.underlying e = some (.struct #[f0, f1, f2, f3])) (ce : P.cellsOf e = 4) (o0 : f0.offset = 0) (o1 : f1.offset = 1) (o2 : f2.offset = 2) (o3 : f3.offset = 3)
    (c0 : P.cellsOf f0.type = 1) (c1 : P.cellsOf f1.type = 1) (c2 : P.cellsOf f2.type = 1) (c3 : P.cellsOf f3.type = 1)
    (t0 : P.underlying f0.type = some (.int .i64)) (t1 : P.underlying f1.type = some (.int .i64)) (t2 : P.underlying f2.type = some .bool) (t3 : P.underlying f3.type = some (.slice u)) (tu : P.underlying u = some (.int .u8)) (cu : P.cellsOf u = 1)
    (hf : DataW.trod enc P W base (fun _ => true) true fuel t (Value.slice a len cap).cells.toList = some (d, p)) :
    ∃ l : List Kp_Stp, Kp_Stps W (.slice a len cap) l ∧ ((d = .nil ∧ l = []) ∨ ∃ elems spare : List (DataW H), d = .slice elems spare ∧ l.length = elems.length ∧ ∀ i (hi : i < l.length), ∃ x0 x1 x2 d3, DataW.agg [x0, x1, x2, d3] ∈ elems ∧ Kp_DataOf d3 l[i].2.2.2) := by
  rcases open_slice ht hf with ⟨hcs, hd⟩ | ⟨x, n, c, m, k, D, Pl, hcs, _, hl, hm, hmm, hx, hel⟩
  · simp [Value.cells] at hcs
    obtain ⟨rfl, rfl, rfl⟩ := hcs
    exact ⟨[], ⟨_, _, rfl, fun h => absurd h (by decide)⟩, .inl ⟨(Prod.mk.inj hd).1, rfl⟩⟩
  · simp [Value.cells] at hcs
    obtain ⟨rfl, rfl, rfl⟩ := hcs
    simp only [if_true] at hmm
    subst hmm
    have each : ∀ i, i < len → ∃ s : Kp_Stp, ∃ va vc, (∃ x0 x1 x2 d3, D i = .agg [x0, x1, x2, d3] ∧ Kp_DataOf d3 s.2.2.2) ∧
        W.cell? ((x.add (i * 4)).add 0) = some (.int .i64 s.1) ∧ W.cell? ((x.add (i * 4)).add 1) = some (.int .i64 s.2.1) ∧ W.cell? ((x.add (i * 4)).add 2) = some (.bool s.2.2.1) ∧ W.cell? ((x.add (i * 4)).add 3) = some (.slice va s.2.2.2.length vc) ∧ Bys W (.slice va s.2.2.2.length vc) s.2.2.2 ∧ s.2.2.2.length ≤ vc := by
      intro i hi
      obtain ⟨cs', h1, h2⟩ := hel i (by omega)
      rw [ce] at h1
      obtain ⟨_, hlen, hcell⟩ := World.cells?_some h1
      obtain ⟨s, va, vc, d3, rfl, hb, ⟨x0, x1, x2, hD⟩, hO⟩ := Kp_step_cells he ce o0 o1 o2 o3 c0 c1 c2 c3 t0 t1 t2 t3 tu cu h2
      exact ⟨s, va, vc, ⟨x0, x1, x2, d3, hD, hO⟩, by simpa using hcell 0 (by omega), by simpa using hcell 1 (by omega), by simpa using hcell 2 (by omega), by simpa using hcell 3 (by omega), hb⟩
    obtain ⟨s, hs⟩ := choose_lt each
    refine ⟨(List.range len).map s, ⟨some x, m, by simp, fun h0 => ?_⟩, .inr ⟨_, _, (Prod.mk.inj hx).1, by simp, fun i hi => ?_⟩⟩
    · have h0' : 0 < len := by simpa using h0
      obtain ⟨b, off, spot⟩ := x
      obtain ⟨_, _, _, q0, _⟩ := hs 0 h0'
      have hspot : spot = none := by simpa [Addr.add] using World.cell?_spot q0
      subst hspot
      refine ⟨b, off, rfl, fun j hj => ?_⟩
      have hj' : j < len := by simpa using hj
      obtain ⟨va, vc, _, q0, q1, q2, q3, hb⟩ := hs j hj'
      have hadd : ∀ o k, (⟨b, o, none⟩ : Addr).add k = ⟨b, o + k, none⟩ := fun o k => by unfold Addr.add; split <;> simp_all
      rw [hadd, hadd] at q0 q1 q2 q3
      simp only [List.getElem_map, List.getElem_range]
      exact ⟨va, vc, by simpa using q0, q1, q2, q3, hb⟩
    · have hi' : i < len := by simpa using hi
      obtain ⟨va, vc, ⟨x0, x1, x2, d3, hD, hO⟩, _⟩ := hs i hi'
      refine ⟨x0, x1, x2, d3, ?_, by simpa using hO⟩
      rw [← hD]
      exact List.mem_map.2 ⟨i, by simpa using hi', rfl⟩

theorem Kp_weightsAll_mem {H : Type} {P : Program} {e : TypeId} : ∀ {l : List (DataW H)} {d : DataW H}, d ∈ l → ∀ n ∈ d.weights P e, n ∈ DataW.weightsAll P e l
  | d' :: r, d, hd, n, hn => by
    simp only [DataW.weightsAll, List.mem_append]
    rcases List.mem_cons.1 hd with rfl | h
    · exact Or.inl hn
    · exact Or.inr (Kp_weightsAll_mem h n hn)
theorem Kp_step_weight {H : Type} {P : Program} {e u : TypeId} {f0 f1 f2 f3 : Field} {x0 x1 x2 d3 : DataW H} {x : List UInt8} (he : P.underlying e = some (.struct #[f0, f1, f2, f3])) (t3 : P.underlying f3.type = some (.slice u)) (bu : P.bytesOf u = 1)
    (hO : Kp_DataOf d3 x) (h : ∀ n ∈ (DataW.agg [x0, x1, x2, d3]).weights P e, n ≤ reachBytes) : x.length ≤ 140737488351232 := by
  rcases hO with ⟨_, rfl⟩ | ⟨elems, spare, rfl, hl⟩
  · simp
  · have := h ((elems.length + spare.length) * P.bytesOf u) (by simp [DataW.weights, DataW.weightsEach, he, t3])
    rw [bu] at this
    simp only [reachBytes] at this
    omega
/-- The reach, of the data of each step. -/
theorem Kp_sized_steps {H : Type} {P : Program} {ts : List TypeId} {ds : List (DataW H)} (h : (DataW.weightsEach P ts ds).all (· ≤ reachBytes) = true) {j : Nat} {t e u : TypeId} {f0 f1 f2 f3 : Field} {x0 x1 x2 d3 : DataW H} {elems spare : List (DataW H)} {x : List UInt8}
    (ht : ts[j]? = some t) (hd : ds[j]? = some (.slice elems spare)) (hu : P.underlying t = some (.slice e)) (hm : DataW.agg [x0, x1, x2, d3] ∈ elems) (he : P.underlying e = some (.struct #[f0, f1, f2, f3])) (t3 : P.underlying f3.type = some (.slice u)) (bu : P.bytesOf u = 1) (hO : Kp_DataOf d3 x) : x.length ≤ 140737488351232 :=
  Kp_step_weight he t3 bu hO fun n hn => of_decide_eq_true (List.all_eq_true.1 h _ (DataW.weights_mem_each ht hd n (by
    simp only [DataW.weights, hu, List.mem_cons, List.mem_append]
    exact Or.inr (Or.inl (Kp_weightsAll_mem hm n hn)))))
theorem bulkAll_mem {H : Type} : ∀ {l : List (DataW H)} {d : DataW H}, d ∈ l → Rows.uptoBulk d ≤ Rows.uptoBulkAll l
  | d' :: r, d, hd => by
    simp only [Rows.uptoBulkAll]
    rcases List.mem_cons.1 hd with rfl | h
    · omega
    · have := bulkAll_mem h; omega
/-- The bulk, of the data of each step. -/
theorem bulk_steps {H : Type} {elems spare : List (DataW H)} {x0 x1 x2 d3 : DataW H} {x : List UInt8} (hm : DataW.agg [x0, x1, x2, d3] ∈ elems) (hO : Kp_DataOf d3 x) : x.length ≤ Rows.uptoBulk (.slice elems spare) := by
  have h1 := bulkAll_mem hm
  simp only [Rows.uptoBulk, Rows.uptoBulkAll] at h1
  have h2 : Rows.uptoBulkAll elems ≤ Rows.uptoBulk (.slice elems spare) := by simp only [Rows.uptoBulk]; omega
  rcases hO with ⟨_, rfl⟩ | ⟨es, sp, rfl, hl⟩
  · simp
  · have := bulk_slice es sp
    omega
theorem stps_form {W : World} {v : Value} {l : List Kp_Stp} (h : Kp_Stps W v l) : ∃ a c, v = .slice a l.length c := by
  obtain ⟨a, c, rfl, _⟩ := h
  exact ⟨a, c, rfl⟩
/-- Step j of the steps l, in any later world. -/
theorem Kp_stps_at {W W' : World} {a : Option Addr} {n c : Nat} {l : List Kp_Stp} (h : Kp_Stps W (.slice a n c) l) (hB : Below W.heap.size W W') (j : Nat) (hj : j < l.length) :
    ∃ b off va vc, a = some ⟨b, off, none⟩ ∧ b < W.heap.size ∧ W'.cell? ⟨b, off + j * 4, none⟩ = some (.int .i64 l[j].1) ∧ W'.cell? ⟨b, off + j * 4 + 1, none⟩ = some (.int .i64 l[j].2.1) ∧ W'.cell? ⟨b, off + j * 4 + 2, none⟩ = some (.bool l[j].2.2.1) ∧
      W'.cell? ⟨b, off + j * 4 + 3, none⟩ = some (.slice va l[j].2.2.2.length vc) ∧ Bys W (.slice va l[j].2.2.2.length vc) l[j].2.2.2 ∧ l[j].2.2.2.length ≤ vc := by
  obtain ⟨a', c', he, hc⟩ := h
  cases he
  obtain ⟨b, off, rfl, hd⟩ := hc (by omega)
  obtain ⟨va, vc, h0, h1, h2, h3, h4, h5⟩ := hd j hj
  have hb := World.block_lt_of_cell? W _ h0
  exact ⟨b, off, va, vc, rfl, hb, (hB.cell (p := ⟨b, off + j * 4, none⟩) hb).trans h0, (hB.cell (p := ⟨b, off + j * 4 + 1, none⟩) hb).trans h1, (hB.cell (p := ⟨b, off + j * 4 + 2, none⟩) hb).trans h2, (hB.cell (p := ⟨b, off + j * 4 + 3, none⟩) hb).trans h3, h4, h5⟩
end Go.Proofs.YtbhlnmekhgfgcaaGreat

/- Lines, and steps, that came in as an argument: what a walk is told of them. -/
namespace Go.Proofs.YtbhlnmekhgfgcaaGreat
open Go.ChangeShapes Go.WideShapes Go.ChangeAt Go.RowKit Go.Deep

/-- How a slice of bytes inside a datum is told. -/
def Te_DataOf {H : Type} (d : DataW H) (x : List UInt8) : Prop := (d = .nil ∧ x = []) ∨ ∃ elems spare : List (DataW H), d = .slice elems spare ∧ x.length = elems.length

theorem Te_bys_len {W : World} {a : Option Addr} {n c : Nat} {l : List UInt8} (h : Bys W (.slice a n c) l) : n = l.length := by
  obtain ⟨a', c', he, _⟩ := bys_form h
  cases he
  rfl

theorem lns_arg {H : Type} {enc : TypeId × Value → H} {P : Program} {W : World} {base : Nat} {a : Option Addr} {len cap fuel t e u : Nat} {d : DataW H} {p : List MemPlace}
    (ht : P.underlying t = some (.slice e)) (he : P.underlying e = some (.slice u)) (ce : P.cellsOf e = 1) (hu : P.underlying u = some (.int .u8)) (cu : P.cellsOf u = 1)
    (hf : DataW.trod enc P W base (fun _ => true) true fuel t (Value.slice a len cap).cells.toList = some (d, p)) :
    ∃ l : List (List UInt8), Lns W (.slice a len cap) l ∧ ((d = .nil ∧ l = []) ∨ ∃ elems spare : List (DataW H), d = .slice elems spare ∧ l.length = elems.length ∧ ∀ i (hi : i < l.length), ∃ di, di ∈ elems ∧ Te_DataOf di l[i]) := by
  rcases open_slice ht hf with ⟨hcs, hd⟩ | ⟨x, n, c, m, k, D, Pl, hcs, _, hl, hm, hmm, hx, hel⟩
  · simp [Value.cells] at hcs
    obtain ⟨rfl, rfl, rfl⟩ := hcs
    exact ⟨[], ⟨_, _, rfl, fun h => absurd h (by decide)⟩, .inl ⟨(Prod.mk.inj hd).1, rfl⟩⟩
  · simp [Value.cells] at hcs
    obtain ⟨rfl, rfl, rfl⟩ := hcs
    simp only [if_true] at hmm
    subst hmm
    have each : ∀ i, i < len → ∃ s : List UInt8, ∃ va vc, Te_DataOf (D i) s ∧ W.cell? ((x.add (i * 1)).add 0) = some (.slice va s.length vc) ∧ Bys W (.slice va s.length vc) s := by
      intro i hi
      obtain ⟨cs', h1, h2⟩ := hel i (by omega)
      rw [ce] at h1
      obtain ⟨_, hlen, hcell⟩ := World.cells?_some h1
      match cs', hlen with
      | [v0], _ =>
        obtain ⟨va, vl, vc, rfl⟩ : ∃ va vl vc, v0 = .slice va vl vc := by
          rcases DataW.trod_slice he h2 with ⟨h0, _⟩ | ⟨x, len, cap, _, _, _, _, h0, _⟩
          · exact ⟨_, _, _, by simpa using h0⟩
          · exact ⟨_, _, _, by simpa using h0⟩
        obtain ⟨s, hs, hO⟩ := bytes_arg he hu cu (by simpa [Value.cells] using h2)
        obtain rfl := Te_bys_len hs
        exact ⟨s, va, vc, hO, by simpa using hcell 0 (by simp), hs⟩
    obtain ⟨s, hs⟩ := choose_lt each
    refine ⟨(List.range len).map s, ⟨some x, m, by simp, fun h0 => ?_⟩, .inr ⟨_, _, (Prod.mk.inj hx).1, by simp, fun i hi => ?_⟩⟩
    · have h0' : 0 < len := by simpa using h0
      obtain ⟨b, off, spot⟩ := x
      obtain ⟨_, _, _, q0, _⟩ := hs 0 h0'
      have hspot : spot = none := by simpa [Addr.add] using World.cell?_spot q0
      subst hspot
      refine ⟨b, off, rfl, fun j hj => ?_⟩
      have hj' : j < len := by simpa using hj
      obtain ⟨va, vc, _, q0, hb⟩ := hs j hj'
      have hadd : ∀ o k, (⟨b, o, none⟩ : Addr).add k = ⟨b, o + k, none⟩ := fun o k => by unfold Addr.add; split <;> simp_all
      rw [hadd, hadd] at q0
      simp only [List.getElem_map, List.getElem_range]
      exact ⟨va, vc, by simpa using q0, hb⟩
    · have hi' : i < len := by simpa using hi
      obtain ⟨va, vc, hO, _⟩ := hs i hi'
      exact ⟨D i, List.mem_map.2 ⟨i, by simpa using hi', rfl⟩, by simpa using hO⟩

theorem Te_weightsAll_mem {H : Type} {P : Program} {e : TypeId} : ∀ {l : List (DataW H)} {d : DataW H}, d ∈ l → ∀ n ∈ d.weights P e, n ∈ DataW.weightsAll P e l
  | d' :: r, d, hd, n, hn => by
    simp only [DataW.weightsAll, List.mem_append]
    rcases List.mem_cons.1 hd with rfl | h
    · exact Or.inl hn
    · exact Or.inr (Te_weightsAll_mem h n hn)
theorem line_weight {H : Type} {P : Program} {e u : TypeId} {d : DataW H} {x : List UInt8} (he : P.underlying e = some (.slice u)) (bu : P.bytesOf u = 1) (hO : Te_DataOf d x) (h : ∀ n ∈ d.weights P e, n ≤ reachBytes) : x.length ≤ 140737488351232 := by
  rcases hO with ⟨_, rfl⟩ | ⟨elems, spare, rfl, hl⟩
  · simp
  · have := h ((elems.length + spare.length) * P.bytesOf u) (by simp [DataW.weights, he])
    rw [bu] at this
    simp only [reachBytes] at this
    omega
/-- The reach, of each line. -/
theorem sized_lines {H : Type} {P : Program} {ts : List TypeId} {ds : List (DataW H)} (h : (DataW.weightsEach P ts ds).all (· ≤ reachBytes) = true) {j : Nat} {t e u : TypeId} {d : DataW H} {elems spare : List (DataW H)} {x : List UInt8}
    (ht : ts[j]? = some t) (hd : ds[j]? = some (.slice elems spare)) (hu : P.underlying t = some (.slice e)) (hm : d ∈ elems) (he : P.underlying e = some (.slice u)) (bu : P.bytesOf u = 1) (hO : Te_DataOf d x) : x.length ≤ 140737488351232 :=
  line_weight he bu hO fun n hn => of_decide_eq_true (List.all_eq_true.1 h _ (DataW.weights_mem_each ht hd n (by
    simp only [DataW.weights, hu, List.mem_cons, List.mem_append]
    exact Or.inr (Or.inl (Te_weightsAll_mem hm n hn)))))

/-- A step: what, n, data. -/
abbrev Te_Stp := Int × Int × List UInt8
theorem Te_step_cells {H : Type} {enc : TypeId × Value → H} {P : Program} {W : World} {base : Nat} {fuel e u : Nat} {f0 f1 f2 : Field} {cs : List Value} {d : DataW H} {p : List MemPlace}
    (he : P.underlying e = some (.struct #[f0, f1, f2])) (ce : P.cellsOf e = 3) (o0 : f0.offset = 0) (o1 : f1.offset = 1) (o2 : f2.offset = 2)
    (c0 : P.cellsOf f0.type = 1) (c1 : P.cellsOf f1.type = 1) (c2 : P.cellsOf f2.type = 1)
    (t0 : P.underlying f0.type = some (.int .i64)) (t1 : P.underlying f1.type = some (.int .i64)) (t2 : P.underlying f2.type = some (.slice u)) (tu : P.underlying u = some (.int .u8)) (cu : P.cellsOf u = 1)
    (h : DataW.trod enc P W base (fun _ => true) true fuel e cs = some (d, p)) :
    ∃ (x : Te_Stp) (va : Option Addr) (vc : Nat) (d2 : DataW H), cs = [.int .i64 x.1, .int .i64 x.2.1, .slice va x.2.2.length vc] ∧ Bys W (.slice va x.2.2.length vc) x.2.2 ∧ (∃ x0 x1, d = .agg [x0, x1, d2]) ∧ Te_DataOf d2 x.2.2 := by
  obtain ⟨xs, k, hk, hxy, hcl, hxl, hf⟩ := DataW.trod_struct he h
  rw [ce] at hcl
  match xs, hxl, cs, hcl with
  | [y0, y1, y2], _, [v0, v1, v2], _ =>
    have g0 := hf 0 f0 rfl
    have g1 := hf 1 f1 rfl
    have g2 := hf 2 f2 rfl
    simp [o0, c0] at g0
    simp [o1, c1] at g1
    simp [o2, c2] at g2
    obtain ⟨a, ha, _⟩ := DataW.trod_int t0 g0
    obtain ⟨b, hb, _⟩ := DataW.trod_int t1 g1
    obtain rfl : v0 = .int .i64 a := by simpa using ha
    obtain rfl : v1 = .int .i64 b := by simpa using hb
    obtain ⟨va, vl, vc, rfl⟩ : ∃ va vl vc, v2 = .slice va vl vc := by
      rcases DataW.trod_slice t2 g2 with ⟨h0, _⟩ | ⟨x, len, cap, _, _, _, _, h0, _⟩
      · exact ⟨_, _, _, by simpa using h0⟩
      · exact ⟨_, _, _, by simpa using h0⟩
    obtain ⟨y2a, y2b⟩ := y2
    obtain ⟨l, hl, hd⟩ := bytes_arg t2 tu cu (by simpa [Value.cells] using g2)
    obtain rfl := Te_bys_len hl
    simp only [Prod.mk.injEq] at hxy
    exact ⟨(a, b, l), va, vc, y2a, rfl, hl, ⟨_, _, by simpa using hxy.1⟩, hd⟩

/-- The slice value v holds the steps l. -/
def Te_Stps (W : World) (v : Value) (l : List Te_Stp) : Prop :=
  ∃ a c, v = .slice a l.length c ∧ (0 < l.length → ∃ b off, a = some ⟨b, off, none⟩ ∧ ∀ j (hj : j < l.length), ∃ va vc,
    W.cell? ⟨b, off + j * 3, none⟩ = some (.int .i64 l[j].1) ∧ W.cell? ⟨b, off + j * 3 + 1, none⟩ = some (.int .i64 l[j].2.1) ∧ W.cell? ⟨b, off + j * 3 + 2, none⟩ = some (.slice va l[j].2.2.length vc) ∧ Bys W (.slice va l[j].2.2.length vc) l[j].2.2)

theorem Te_stps_arg {H : Type} {enc : TypeId × Value → H} {P : Program} {W : World} {base : Nat} {a : Option Addr} {len cap fuel t e u : Nat} {f0 f1 f2 : Field} {d : DataW H} {p : List MemPlace}
    (ht : P.underlying t = some (.slice e)) (he : P.underlying e = some (.struct #[f0, f1, f2])) (ce : P.cellsOf e = 3) (o0 : f0.offset = 0) (o1 : f1.offset = 1) (o2 : f2.offset = 2)
    (c0 : P.cellsOf f0.type = 1) (c1 : P.cellsOf f1.type = 1) (c2 : P.cellsOf f2.type = 1)
    (t0 : P.underlying f0.type = some (.int .i64)) (t1 : P.underlying f1.type = some (.int .i64)) (t2 : P.underlying f2.type = some (.slice u)) (tu : P.underlying u = some (.int .u8)) (cu : P.cellsOf u = 1)
    (hf : DataW.trod enc P W base (fun _ => true) true fuel t (Value.slice a len cap).cells.toList = some (d, p)) :
    ∃ l : List Te_Stp, Te_Stps W (.slice a len cap) l ∧ ((d = .nil ∧ l = []) ∨ ∃ elems spare : List (DataW H), d = .slice elems spare ∧ l.length = elems.length ∧ ∀ i (hi : i < l.length), ∃ x0 x1 d2, DataW.agg [x0, x1, d2] ∈ elems ∧ Te_DataOf d2 l[i].2.2) := by
  rcases open_slice ht hf with ⟨hcs, hd⟩ | ⟨x, n, c, m, k, D, Pl, hcs, _, hl, hm, hmm, hx, hel⟩
  · simp [Value.cells] at hcs
    obtain ⟨rfl, rfl, rfl⟩ := hcs
    exact ⟨[], ⟨_, _, rfl, fun h => absurd h (by decide)⟩, .inl ⟨(Prod.mk.inj hd).1, rfl⟩⟩
  · simp [Value.cells] at hcs
    obtain ⟨rfl, rfl, rfl⟩ := hcs
    simp only [if_true] at hmm
    subst hmm
    have each : ∀ i, i < len → ∃ s : Te_Stp, ∃ va vc, (∃ x0 x1 d2, D i = .agg [x0, x1, d2] ∧ Te_DataOf d2 s.2.2) ∧
        W.cell? ((x.add (i * 3)).add 0) = some (.int .i64 s.1) ∧ W.cell? ((x.add (i * 3)).add 1) = some (.int .i64 s.2.1) ∧ W.cell? ((x.add (i * 3)).add 2) = some (.slice va s.2.2.length vc) ∧ Bys W (.slice va s.2.2.length vc) s.2.2 := by
      intro i hi
      obtain ⟨cs', h1, h2⟩ := hel i (by omega)
      rw [ce] at h1
      obtain ⟨_, hlen, hcell⟩ := World.cells?_some h1
      obtain ⟨s, va, vc, d2, rfl, hb, ⟨x0, x1, hD⟩, hO⟩ := Te_step_cells he ce o0 o1 o2 c0 c1 c2 t0 t1 t2 tu cu h2
      exact ⟨s, va, vc, ⟨x0, x1, d2, hD, hO⟩, by simpa using hcell 0 (by omega), by simpa using hcell 1 (by omega), by simpa using hcell 2 (by omega), hb⟩
    obtain ⟨s, hs⟩ := choose_lt each
    refine ⟨(List.range len).map s, ⟨some x, m, by simp, fun h0 => ?_⟩, .inr ⟨_, _, (Prod.mk.inj hx).1, by simp, fun i hi => ?_⟩⟩
    · have h0' : 0 < len := by simpa using h0
      obtain ⟨b, off, spot⟩ := x
      obtain ⟨_, _, _, q0, _⟩ := hs 0 h0'
      have hspot : spot = none := by simpa [Addr.add] using World.cell?_spot q0
      subst hspot
      refine ⟨b, off, rfl, fun j hj => ?_⟩
      have hj' : j < len := by simpa using hj
      obtain ⟨va, vc, _, q0, q1, q2, hb⟩ := hs j hj'
      have hadd : ∀ o k, (⟨b, o, none⟩ : Addr).add k = ⟨b, o + k, none⟩ := fun o k => by unfold Addr.add; split <;> simp_all
      rw [hadd, hadd] at q0 q1 q2
      simp only [List.getElem_map, List.getElem_range]
      exact ⟨va, vc, by simpa using q0, q1, q2, hb⟩
    · have hi' : i < len := by simpa using hi
      obtain ⟨va, vc, ⟨x0, x1, d2, hD, hO⟩, _⟩ := hs i hi'
      refine ⟨x0, x1, d2, ?_, by simpa using hO⟩
      rw [← hD]
      exact List.mem_map.2 ⟨i, by simpa using hi', rfl⟩
theorem Te_sized_steps {H : Type} {P : Program} {ts : List TypeId} {ds : List (DataW H)} (h : (DataW.weightsEach P ts ds).all (· ≤ reachBytes) = true) {j : Nat} {t e u : TypeId} {f0 f1 f2 : Field} {x0 x1 d2 : DataW H} {elems spare : List (DataW H)} {x : List UInt8}
    (ht : ts[j]? = some t) (hd : ds[j]? = some (.slice elems spare)) (hu : P.underlying t = some (.slice e)) (hm : DataW.agg [x0, x1, d2] ∈ elems) (he : P.underlying e = some (.struct #[f0, f1, f2])) (t2 : P.underlying f2.type = some (.slice u)) (bu : P.bytesOf u = 1) (hO : Te_DataOf d2 x) : x.length ≤ 140737488351232 := by
  rcases hO with ⟨_, rfl⟩ | ⟨es, sp, rfl, hl⟩
  · simp
  · have := of_decide_eq_true (List.all_eq_true.1 h _ (DataW.weights_mem_each ht hd ((es.length + sp.length) * P.bytesOf u) (by
      simp only [DataW.weights, hu, List.mem_cons, List.mem_append]
      exact Or.inr (Or.inl (Te_weightsAll_mem hm _ (by simp [DataW.weights, DataW.weightsEach, he, t2]))))))
    rw [bu] at this
    simp only [reachBytes] at this
    omega
end Go.Proofs.YtbhlnmekhgfgcaaGreat

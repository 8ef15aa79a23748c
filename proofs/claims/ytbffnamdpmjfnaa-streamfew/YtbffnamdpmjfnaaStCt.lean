/- The law's Counter as a Raw. -/
import Derived.Test.YtbffnamdpmjfnaaStL
import Derived.Lib.MinMax
namespace Go.Proofs.Ytbffnamdpmjfnaa
open Go.RowKit

structure CtS where
  b : List UInt8
  pl : Nat
  rd : Nat
  wr : Nat
def ctD : RawD CtS := ⟨fun s n => ((s.b.drop s.pl).take (min n (s.b.length - s.pl)), 0, ⟨s.b, s.pl + min n (s.b.length - s.pl), s.rd + 1, s.wr⟩), fun s x => ((x.length : Int), 0, ⟨s.b ++ x, s.pl, s.rd, s.wr + 1⟩)⟩
def CtB (W : World) (g : Nat) (v : Value) (s : CtS) : Prop := W.heap[g]? = some (.cells #[v, .int .i64 s.pl, .int .i64 s.rd, .int .i64 s.wr] 45)
def CtAt (g : Nat) (W : World) (O : Nat → Prop) (s : CtS) : Prop := ∃ v, CtB W g v s ∧ W.ownsRow 0 5 1 v s.b.length (s.b.map bv) ∧ (∀ k, v.ownBlock = some k → O k ∧ k ≠ g) ∧ O g ∧ s.pl ≤ s.b.length ∧ s.b.length ≤ 1073741824
def ctOk (s : CtS) : Prop := s.rd ≤ 4611686018427387904 ∧ s.wr ≤ 4611686018427387904 ∧ s.b.length ≤ 1000000000
theorem CtB.cs {W : World} {g : Nat} {v : Value} {s : CtS} (h : CtB W g v s) : W.cell? ⟨g, 0, none⟩ = some v ∧ W.cell? ⟨g, 1, none⟩ = some (.int .i64 s.pl) ∧ W.cell? ⟨g, 2, none⟩ = some (.int .i64 s.rd) ∧ W.cell? ⟨g, 3, none⟩ = some (.int .i64 s.wr) := ⟨cell_of_row W g 0 _ _ _ h, cell_of_row W g 1 _ _ _ h, cell_of_row W g 2 _ _ _ h, cell_of_row W g 3 _ _ _ h⟩
theorem CtB.soft {W : World} {g : Nat} {v : Value} {s : CtS} (h : CtB W g v s) (j : Nat) : W.frozen? ⟨g, j, none⟩ = false := frozen_of_row W g j _ _ h
theorem CtB.lt {W : World} {g : Nat} {v : Value} {s : CtS} (h : CtB W g v s) : g < W.heap.size := (Array.getElem?_eq_some_iff.1 h).1
theorem CtB.set {W : World} {g : Nat} {v v' : Value} {s s' : CtS} (h : CtB W g v s) (j : Nat) (u : Value) (hl : ([v, .int .i64 s.pl, .int .i64 s.rd, .int .i64 s.wr] : List Value).set j u = [v', .int .i64 s'.pl, .int .i64 s'.rd, .int .i64 s'.wr]) : CtB (W.setCell ⟨g, j, none⟩ u) g v' s' := by
  have := Go.heap_setCell_same W g j _ _ u h
  unfold CtB
  rw [this]
  simp only [List.setIfInBounds_toArray, hl]
theorem CtAt.keep {g : Nat} {W W' : World} {O : Nat → Prop} {s : CtS} (h : CtAt g W O s) (hk : ∀ j, O j → j < W.heap.size → W'.heap[j]? = W.heap[j]?) : CtAt g W' O s := by
  obtain ⟨v, h1, h2, h3, h4, h5⟩ := h
  exact ⟨v, (hk g h4 h1.lt).trans h1, owns_keep h2 (fun k e => hk k (h3 k e).1 (h2.lt k e).2), h3, h4, h5⟩
theorem CtAt.trim {g : Nat} {W : World} {O : Nat → Prop} {s : CtS} (h : CtAt g W O s) : CtAt g W (fun k => O k ∧ k < W.heap.size) s := by
  obtain ⟨v, h1, h2, h3, h4, h5⟩ := h
  exact ⟨v, h1, h2, fun k e => ⟨⟨(h3 k e).1, (h2.lt k e).2⟩, (h3 k e).2⟩, ⟨h4, h1.lt⟩, h5⟩
theorem ct_o (g : Nat) (s : CtS) : OAt (fun w O => CtAt g w O s) := ⟨fun h hk _ => h.keep hk, fun h => h.trim⟩
set_option maxRecDepth 100000 in
set_option maxHeartbeats 2000000 in
theorem ct_write {w : World} {O : Nat → Prop} {s : CtS} (g : Nat) (bs : List UInt8) (a : Option Addr) (c : Nat) (h : CtAt g w O s) (hok : ctOk s) (hb : Bys w (.slice a bs.length c) bs) (hl : bs.length ≤ 1048576) (hap : ∀ k, (Value.slice a bs.length c).ownBlock = some k → ¬ O k) :
    Calls Try.prog 95 #[.pointer (some ⟨g, 0, none⟩), .slice a bs.length c] w fun e w' => e = .returned (.tuple #[.int .i64 (ctD.write s bs).1, .int .i64 (ctD.write s bs).2.1]) ∧ ∃ O', CtAt g w' O' (ctD.write s bs).2.2 ∧ (∀ k, O' k → O k ∨ w.heap.size ≤ k) ∧ Turned O w w' := by
  obtain ⟨v, h1, h2, h3, h4, h5, h6⟩ := h
  obtain ⟨k1, k2, k3⟩ := hok
  obtain ⟨va, vc, rfl⟩ := owns_slice h2
  obtain ⟨c0, c1, c2, c3⟩ := h1.cs
  have f0 := h1.soft 0
  have f3 := h1.soft 3
  have hT1 : Turned (fun k => k = g) w (w.setCell ⟨g, 3, none⟩ (.int .i64 ((s.wr : Int) + 1))) := (Turned.refl (fun k => k = g) w).set (.inl rfl)
  have h1s := h1.set (v' := .slice va s.b.length vc) (s' := ⟨s.b, s.pl, s.rd, s.wr + 1⟩) 3 (.int .i64 ((s.wr : Int) + 1)) rfl
  have h2s := owns_turned h2 hT1 (fun k e => (h3 k e).2)
  have hbs := hb.turned hT1 (fun k e _ e' => hap k e (e' ▸ h4))
  have hz1 := hT1.size
  obtain ⟨v', w2, hrun, HO, hgr, hbl⟩ := run_append_bytes (w.setCell ⟨g, 3, none⟩ (.int .i64 ((s.wr : Int) + 1))) 28 0 _ _ s.b bs h2s hbs (by omega) (Nat.zero_le _)
  obtain ⟨ua, uc, rfl⟩ := owns_slice HO.out
  have hT2 : Turned O w w2 := ((hT1.mono fun k e => e ▸ h4).grown hgr (fun k e => .inl (h3 k e).1))
  have hz2 := hgr.size
  have hg2 : CtB w2 g (.slice va s.b.length vc) ⟨s.b, s.pl, s.rd, s.wr + 1⟩ := (hgr.block g h1s.lt (fun e => (h3 g e.symm).2 rfl)).trans h1s
  have e0 := hg2.cs.1
  have e1 := hg2.soft 0
  obtain ⟨L, hL⟩ : ∃ L, L = s.b ++ bs := ⟨_, rfl⟩
  rw [← hL] at hrun HO hbl
  have HR := hide hrun
  have hg3 := hg2.set (v' := .slice ua L.length uc) (s' := ⟨L, s.pl, s.rd, s.wr + 1⟩) 0 (.slice ua L.length uc) rfl
  have hT3 : Turned (fun k => k = g) w2 (w2.setCell ⟨g, 0, none⟩ (.slice ua L.length uc)) := (Turned.refl (fun k => k = g) w2).set (.inl rfl)
  have hne : ∀ k, (Value.slice ua L.length uc).ownBlock = some k → (O k ∨ w.heap.size ≤ k) ∧ k ≠ g := fun k e => by
    rcases hbl with e' | e'
    · have := h3 k (by rw [← e', e])
      exact ⟨.inl this.1, this.2⟩
    · rw [e'] at e
      obtain rfl := Option.some.inj e
      have := h1.lt
      exact ⟨.inr hz1, by omega⟩
  have HF : Hid (∃ O', CtAt g (w2.setCell ⟨g, 0, none⟩ (.slice ua L.length uc)) O' ⟨L, s.pl, s.rd, s.wr + 1⟩ ∧ (∀ k, O' k → O k ∨ w.heap.size ≤ k) ∧ Turned O w (w2.setCell ⟨g, 0, none⟩ (.slice ua L.length uc))) := hide
    ⟨fun k => O k ∨ w.heap.size ≤ k, ⟨_, hg3, owns_turned HO.out hT3 (fun k e => (hne k e).2), hne, .inl h4, by rw [hL]; simp; omega, by rw [hL]; simp; omega⟩, fun k e => e, hT2.trans hT3 (fun k _ e => e ▸ h4)⟩
  have HL := hide hL
  clear hrun HO hgr hbl hT1 hT2 hT3 h1s h2s hbs hg2 hg3 hne h1 h2 h3 hb hap hL h5
  go_enter Try.func95, Try.ntmps95
  go_wp2_with (first | (at_builtin; refine Lib.wpList_append_run _ rfl _ _ _ _ rfl _ _ rfl rfl _ _ HR.out ?_) | fail)
  go_ret2
  refine ⟨rfl, ?_⟩
  show ∃ O', CtAt g _ O' ⟨s.b ++ bs, s.pl, s.rd, s.wr + 1⟩ ∧ _
  rw [← HL.out]
  exact HF.out
set_option maxRecDepth 100000 in
set_option maxHeartbeats 2000000 in
theorem ct_read {w : World} {O : Nat → Prop} {s : CtS} (g n : Nat) (h : CtAt g w O s) (hok : ctOk s) (hn1 : 1 ≤ n) (hn2 : n ≤ 1048576) :
    Calls Try.prog 93 #[.pointer (some ⟨g, 0, none⟩), .int .i64 n] w fun e w' => ∃ ua uc, e = .returned (.tuple #[.slice ua (ctD.read s n).1.length uc, .int .i64 (ctD.read s n).2.1]) ∧ Bys w' (.slice ua (ctD.read s n).1.length uc) (ctD.read s n).1 ∧ CtAt g w' O (ctD.read s n).2.2 ∧ Turned O w w' := by
  obtain ⟨v, h1, h2, h3, h4, h5, h6⟩ := h
  obtain ⟨k1, k2, k3⟩ := hok
  obtain ⟨c0, c1, c2, c3⟩ := h1.cs
  have f1 := h1.soft 1
  have f2 := h1.soft 2
  obtain ⟨k, hk⟩ : ∃ k, k = min n (s.b.length - s.pl) := ⟨_, rfl⟩
  have hkl : s.pl + k ≤ s.b.length := by omega
  have hmin : min (n : Int) ((s.b.length : Int) - (s.pl : Int)) = (k : Int) := by omega
  have hlen : ((s.b.drop s.pl).take k).length = k := by rw [List.length_take, List.length_drop]; omega
  have q1 := h1.set (v' := v) (s' := ⟨s.b, s.pl, s.rd + 1, s.wr⟩) 2 (.int .i64 ((s.rd : Int) + 1)) rfl
  have q2 := q1.set (v' := v) (s' := ⟨s.b, s.pl + k, s.rd + 1, s.wr⟩) 1 (.int .i64 ((s.pl : Int) + (k : Int))) rfl
  have hT1 : Turned (fun j => j = g) w ((w.setCell ⟨g, 2, none⟩ (.int .i64 ((s.rd : Int) + 1))).setCell ⟨g, 1, none⟩ (.int .i64 ((s.pl : Int) + (k : Int)))) := ((Turned.refl (fun j => j = g) w).set (.inl rfl)).set (.inl rfl)
  have h2s := owns_turned h2 hT1 (fun j e => (h3 j e).2)
  have HF : Hid (CtAt g ((w.setCell ⟨g, 2, none⟩ (.int .i64 ((s.rd : Int) + 1))).setCell ⟨g, 1, none⟩ (.int .i64 ((s.pl : Int) + (k : Int)))) O ⟨s.b, s.pl + k, s.rd + 1, s.wr⟩ ∧ Turned O w ((w.setCell ⟨g, 2, none⟩ (.int .i64 ((s.rd : Int) + 1))).setCell ⟨g, 1, none⟩ (.int .i64 ((s.pl : Int) + (k : Int))))) := hide ⟨⟨v, q2, h2s, h3, h4, hkl, h6⟩, hT1.mono fun j e => e ▸ h4⟩
  have HV : Hid (ctD.read s n = ((s.b.drop s.pl).take k, 0, ⟨s.b, s.pl + k, s.rd + 1, s.wr⟩)) := hide (by rw [hk]; rfl)
  obtain ⟨va, vc, rfl⟩ := owns_slice h2
  have hcap := owns_cap h2
  have hby := Bys.of_owns h2s
  have j0 : (0 : Int) ≤ (s.pl : Int) := by omega
  have j1 : (s.pl : Int) ≤ (s.pl : Int) + (k : Int) := by omega
  have j2 : (s.pl : Int) + (k : Int) ≤ (vc : Int) := by omega
  have j3 : (s.pl : Int) + (k : Int) - (k : Int) = (s.pl : Int) := by omega
  have j6 : s.pl + k - s.pl = k := by omega
  have HK := hide hk
  have HLn := hide hlen
  by_cases hp : 0 < s.b.length
  · obtain ⟨-, qb, qo, rfl, -⟩ := bys_block hby hp
    by_cases hc : vc = s.pl
    · have hk0 : k = 0 := by omega
      subst hc
      subst hk0
      have HB := hide hby
      clear hby h1 h2 h3 h5 q1 q2 hT1 h2s hk hlen
      go_enter Try.func93, Try.ntmps93
      go_wp2
      go_quiet (fail)
      go_wp2
      go_quiet (fail)
      go_wp2
      go_ret2
      rw [HV.out, HLn.out]
      exact ⟨_, _, rfl, by simp only [List.take_zero]; exact .inr (.inl ⟨_, _, rfl, rfl⟩), HF.out.1.keep (fun _ _ _ => rfl), ⟨HF.out.2.os, HF.out.2.tape, HF.out.2.output, HF.out.2.size, HF.out.2.block⟩⟩
    · have j4 : (s.pl : Int) < (vc : Int) := by omega
      have j5 : ¬ vc = s.pl := hc
      have hcut := bys_cut hby s.pl k (vc - s.pl) (by omega)
      have HB := hide hcut
      clear hby h1 h2 h3 h5 q1 q2 hT1 h2s hk hlen hcut
      go_enter Try.func93, Try.ntmps93
      go_wp2
      go_quiet (fail)
      go_wp2
      go_quiet (fail)
      go_wp2
      go_ret2
      rw [HV.out, HLn.out, show s.pl + k - s.pl = k by omega]
      exact ⟨_, _, rfl, HB.out.keep (fun _ _ _ => rfl), HF.out.1.keep (fun _ _ _ => rfl), ⟨HF.out.2.os, HF.out.2.tape, HF.out.2.output, HF.out.2.size, HF.out.2.block⟩⟩
  · have hb0 : s.b = [] := List.length_eq_zero_iff.1 (by omega)
    have hp0 : s.pl = 0 := by omega
    have hk0 : k = 0 := by omega
    subst hk0
    obtain ⟨b0, pl0, rd0, wr0⟩ := s
    simp only at *
    subst hb0 hp0
    have hm0 : min (n : Int) 0 = 0 := by omega
    rcases h2.2 with ⟨e, -⟩ | ⟨q, cap, cur, e, -⟩
    all_goals
      cases e
      clear hby h1 h2 h3 h5 q1 q2 hT1 h2s hk hlen
      go_enter Try.func93, Try.ntmps93
      go_wp2
      go_quiet (fail)
      go_wp2
      go_quiet (fail)
      go_wp2
      go_ret2
      rw [HV.out, HLn.out]
      exact ⟨_, _, rfl, by first | exact .inl ⟨rfl, rfl⟩ | exact .inr (.inl ⟨_, _, rfl, rfl⟩), HF.out.1.keep (fun _ _ _ => rfl), ⟨HF.out.2.os, HF.out.2.tape, HF.out.2.output, HF.out.2.size, HF.out.2.block⟩⟩
/-- A Counter is a Raw. -/
theorem ct_raw (g : Nat) : RawM ctD 43 (.pointer (some ⟨g, 0, none⟩)) 93 95 ctOk ctOk (CtAt g) where
  mread w := by kernel_rfl
  mwrite w := by kernel_rfl
  cread a w := by kernel_rfl
  cwrite a w := by kernel_rfl
  keep h hk _ := h.keep hk
  few {w O s} n h := by
    show ((s.b.drop s.pl).take (min n (s.b.length - s.pl))).length ≤ _
    obtain ⟨v, -, -, -, -, -, h6⟩ := h
    rw [List.length_take, List.length_drop]
    omega
  read n h hok h1 h2 := ct_read g n h hok h1 h2
  write bs a c h hok hb _ _ hl hap := ct_write g bs a c h hok hb hl hap
end Go.Proofs.Ytbffnamdpmjfnaa

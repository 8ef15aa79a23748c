/- StreamThere: the walk. -/
import Derived.Test.YtbffnamdpmjfnaaStAl
import Derived.Test.YtbffnamdpmjfnaaStFrame
import Derived.Deep.LoopGhost
import Derived.Deep.RegionLaw
import Derived.Deep.RegionWith
namespace Go.Proofs.Ytbffnamdpmjfnaa
open Go.RowKit

/-- All that was put, in a row of its own. -/
structure AllAt (W : World) (B g : Nat) (O : Nat → Prop) (o i b v : Value) (L : List UInt8) : Prop where
  own : W.ownsRow B 5 1 v L.length (L.map bv)
  off : ∀ k, v.ownBlock = some k → ¬ O k ∧ k ≠ g ∧ o.ownBlock ≠ some k ∧ i.ownBlock ≠ some k ∧ b.ownBlock ≠ some k
theorem AllAt.turned {W W' : World} {B g : Nat} {O P : Nat → Prop} {o i b v : Value} {L : List UInt8} (h : AllAt W B g O o i b v L) (hT : Turned P W W') (hP : ∀ k, v.ownBlock = some k → ¬ P k) : AllAt W' B g O o i b v L := ⟨owns_turned h.own hT hP, h.off⟩
/-- Behind a call of the stream's. -/
theorem AllAt.next {w w1 : World} {B g : Nat} {O : Nat → Prop} {x' : SS} {o i b o' i' b' v : Value} {L : List UInt8} (h : AllAt w B g O o i b v L) (O' : Nat → Prop) (h1 : SIn w1 (fun k => w.heap.size ≤ k ∧ ¬ O' k ∧ k < w1.heap.size) x' o' i' b') (h4 : ∀ k, O' k → O k ∨ w.heap.size ≤ k) (h5 : Turned O w w1) {W2 : World} (h6 : Turned (fun k => k = g) w1 W2) : AllAt W2 B g O' o' i' b' v L := by
  have hlt : ∀ k, v.ownBlock = some k → k < w.heap.size := fun k e => (h.own.lt k e).2
  refine ⟨owns_turned (owns_turned h.own h5 (fun k e => (h.off k e).1)) h6 (fun k e => (h.off k e).2.1), fun k e => ⟨fun e' => ?_, (h.off k e).2.1, fun e' => ?_, fun e' => ?_, fun e' => ?_⟩⟩
  · rcases h4 k e' with e' | e'
    · exact (h.off k e).1 e'
    · have := hlt k e; omega
  · have := hlt k e; have := (h1.po k e').1; omega
  · have := hlt k e; have := (h1.pi k e').1; omega
  · have := hlt k e; have := (h1.pb k e').1; omega
/-- One byte more. -/
theorem all_more {w : World} {B g : Nat} {O : Nat → Prop} {x : SS} {S : MS} {gm : Nat} {o i b v : Value} {L : List UInt8} (c : UInt8) (h : AllAt w B g O o i b v L) (hv : LV (fun w O S => MemAt w O gm S) w B g O x S o i b) (hL : L.length ≤ 1048576) (hB : B ≤ w.heap.size) :
    ∃ a k w2, (Builtin.append_ #[28, 28] 28 #[v, .slice (some ⟨w.heap.size, 0, none⟩) 1 1]).run Try.prog (w.alloc (Obj.cells #[.int .u8 (c.toNat : Int)] 5)) = .ok (.slice a (L ++ [c]).length k) w2 ∧
      AllAt w2 B g O o i b (.slice a (L ++ [c]).length k) (L ++ [c]) ∧ LV (fun w O S => MemAt w O gm S) w2 B g O x S o i b ∧ Turned (fun k => B ≤ k) w w2 := by
  have hBa := recv_below w (Obj.cells #[.int .u8 (c.toNat : Int)] 5)
  have hz : (w.alloc (Obj.cells #[.int .u8 (c.toNat : Int)] 5)).heap.size = w.heap.size + 1 := Array.size_push ..
  obtain ⟨s', w2, hrun, HO, hgr, hbl⟩ := run_append_bytes (w.alloc (Obj.cells #[.int .u8 (c.toNat : Int)] 5)) 28 B v (.slice (some ⟨w.heap.size, 0, none⟩) 1 1) L [c] (owns_below h.own hBa) (one_bys (cell_one_new _ _ _ 0 _ rfl)) (by simp; omega) (by omega)
  obtain ⟨a, k, rfl⟩ := owns_slice HO.out
  have hz2 := hgr.size
  have hTu : Turned (fun k => v.ownBlock = some k) w w2 := (Turned.of_below hBa).grown hgr (fun k e => .inl e)
  have hlv : LV (fun w O S => MemAt w O gm S) w2 B g O x S o i b := ⟨(hTu.block g hv.st.lt (fun e => (h.off g e).2.1 rfl)).trans hv.st,
    ⟨hv.ls.so.turned hTu (fun k e _ e' => (h.off k e').2.2.1 e), hv.ls.si.turned hTu (fun k e _ e' => (h.off k e').2.2.2.1 e), hv.ls.sb.turned hTu (fun k e _ e' => (h.off k e').2.2.2.2 e),
      fun k e => by have := hv.ls.po k e; exact ⟨this.1, this.2.1, this.2.2.1, by omega⟩, fun k e => by have := hv.ls.pi k e; exact ⟨this.1, this.2.1, this.2.2.1, by omega⟩, fun k e => by have := hv.ls.pb k e; exact ⟨this.1, this.2.1, this.2.2.1, by omega⟩⟩,
    MemAt.keep hv.raw (fun j e hj => hTu.block j hj (fun e' => (h.off j e').1 e)), fun j e => by have := hv.ol j e; omega, hv.ob, hv.og, hv.gB⟩
  refine ⟨a, k, w2, hrun, ⟨HO.out, fun k e => ?_⟩, hlv, hTu.mono fun k e => (h.own.lt k e).1⟩
  rcases hbl with e' | e'
  · exact h.off k (by rw [← e', e])
  · rw [e'] at e
    obtain rfl := Option.some.inj e
    rw [hz]
    have hg := hv.st.lt
    exact ⟨fun e2 => by have := hv.ol _ e2; omega, by omega, fun e2 => by have := (hv.ls.po _ e2).2.2.2; omega, fun e2 => by have := (hv.ls.pi _ e2).2.2.2; omega, fun e2 => by have := (hv.ls.pb _ e2).2.2.2; omega⟩
set_option maxRecDepth 100000 in
set_option maxHeartbeats 8000000 in
theorem sthere_any (kind size : Int) (a : Option Addr) (c : Nat) (l : List SSt) (w : World) (h : SSts w (.slice a l.length c) l) (hl : l.length ≤ 1048576) :
    Calls Try.prog 3 #[.int .i64 kind, .int .i64 size, .slice a l.length c] w fun e w' => e = .returned (.bool true) ∧ Below w.heap.size w w' := by
  have HL := hide h
  clear h
  go_enter Try.func3, Try.ntmps3
  go_wp2_with fail
  refine (salive_any _).mono ?_
  rintro _ w1 ⟨rfl, hB1⟩
  have HB1 := hide hB1
  clear hB1
  go_wp2_with fail
  refine (newGrowing_good (.slice none 0 0) [] _ (.inl ⟨rfl, rfl⟩) (by simp)).mono ?_
  rintro _ w2 ⟨g, rfl, hM, hB⟩
  have hN := fun W => sNew_any moW kind size W
  rw [new_W] at hN
  unfold mv at hN
  have HM := hide hM
  have HB2 := hide hB
  by_cases hk : 1 ≤ kind ∧ kind ≤ 3
  case neg =>
    rw [if_neg hk] at hN
    simp only at hN
    have HN := hide hN
    clear hN hM hB
    go_wp2_with fail
    refine (HN.out _).mono ?_
    rintro _ w3 ⟨rfl, hB3⟩
    have HB3 := hide ((HB1.out.trans (HB2.out.mono HB1.out.size)).trans (hB3.mono (HB1.out.trans (HB2.out.mono HB1.out.size)).size))
    clear hB3
    go_wp2_with (first | (go_at_call 8; refine (num_st _ _).mono ?_; rintro _ _ ⟨rfl, rfl⟩) | fail)
    go_ret
    exact ⟨rfl, HB3.out.trans ((recv_below _ _).mono HB3.out.size)⟩
  rw [if_pos hk] at hN
  by_cases hs : 1 ≤ size ∧ size ≤ 65536
  case neg =>
    rw [if_neg hs] at hN
    simp only at hN
    have HN := hide hN
    clear hN hM hB
    go_wp2_with fail
    refine (HN.out _).mono ?_
    rintro _ w3 ⟨rfl, hB3⟩
    have HB3 := hide ((HB1.out.trans (HB2.out.mono HB1.out.size)).trans (hB3.mono (HB1.out.trans (HB2.out.mono HB1.out.size)).size))
    clear hB3
    go_wp2_with (first | (go_at_call 8; refine (num_st _ _).mono ?_; rintro _ _ ⟨rfl, rfl⟩) | fail)
    go_ret
    exact ⟨rfl, HB3.out.trans ((recv_below _ _).mono HB3.out.size)⟩
  rw [if_pos hs] at hN
  simp only at hN
  have HN := hide hN
  clear hN hM hB
  go_wp2_with fail
  refine (HN.out _).mono ?_
  rintro _ w3 ⟨rfl, hB3⟩
  have HB3 := hide ((HB1.out.trans (HB2.out.mono HB1.out.size)).trans (hB3.mono (HB1.out.trans (HB2.out.mono HB1.out.size)).size))
  have HM3 := hide ((HM.out.trim).below hB3)
  have hz3 := hB3.size
  clear hB3
  go_wp2_with (first | (go_at_call 8; refine (num_st _ _).mono ?_; rintro _ _ ⟨rfl, rfl⟩) | fail)
  have HS2 := hide (StAt.new w3 (xW kind size) (.slice none 0 0) (.slice none 0 0) (.slice none 0 0))
  have HB4 := hide (recv_below w3 (Obj.cells #[.bool (xW kind size).rd, .bool (xW kind size).wt, .int .i64 (xW kind size).mode, .int .i64 (xW kind size).size, .slice none 0 0, .slice none 0 0, .slice none 0 0, .int .i64 (xW kind size).dir, .bool (xW kind size).fin, .bool (xW kind size).bad, .bool (xW kind size).closed] 30))
  have hz1 := HB1.out.size
  have hz2 := HB2.out.size
  obtain ⟨B, hBq⟩ : ∃ B, B = w1.heap.size := ⟨_, rfl⟩
  have HBq := hide hBq
  have HLV : Hid (LV (fun w O S => MemAt w O g S) (w3.alloc (Obj.cells #[.bool (xW kind size).rd, .bool (xW kind size).wt, .int .i64 (xW kind size).mode, .int .i64 (xW kind size).size, .slice none 0 0, .slice none 0 0, .slice none 0 0, .int .i64 (xW kind size).dir, .bool (xW kind size).fin, .bool (xW kind size).bad, .bool (xW kind size).closed] 30)) B w3.heap.size (fun k => w1.heap.size ≤ k ∧ k < w2.heap.size) (xW kind size) ⟨[], 1048576, 0⟩ (.slice none 0 0) (.slice none 0 0) (.slice none 0 0)) := hide
    ⟨HS2.out, SIn.nils rfl rfl rfl, HM3.out.below HB4.out, fun j e => by have := HB4.out.size; have := e.2; omega, fun j e => by have := e.1; omega, fun e => by have := e.2; omega, by omega⟩
  have HTT : Hid (Below w.heap.size w (w3.alloc (Obj.cells #[.bool (xW kind size).rd, .bool (xW kind size).wt, .int .i64 (xW kind size).mode, .int .i64 (xW kind size).size, .slice none 0 0, .slice none 0 0, .slice none 0 0, .int .i64 (xW kind size).dir, .bool (xW kind size).fin, .bool (xW kind size).bad, .bool (xW kind size).closed] 30))) := hide (HB3.out.trans (HB4.out.mono HB3.out.size))
  have hg4 : w3.heap.size < (w3.alloc (Obj.cells #[.bool (xW kind size).rd, .bool (xW kind size).wt, .int .i64 (xW kind size).mode, .int .i64 (xW kind size).size, .slice none 0 0, .slice none 0 0, .slice none 0 0, .int .i64 (xW kind size).dir, .bool (xW kind size).fin, .bool (xW kind size).bad, .bool (xW kind size).closed] 30)).heap.size := HS2.out.lt
  generalize w3.alloc (Obj.cells #[.bool (xW kind size).rd, .bool (xW kind size).wt, .int .i64 (xW kind size).mode, .int .i64 (xW kind size).size, .slice none 0 0, .slice none 0 0, .slice none 0 0, .int .i64 (xW kind size).dir, .bool (xW kind size).fin, .bool (xW kind size).bad, .bool (xW kind size).closed] 30) = w4 at *
  have hBw : w.heap.size ≤ B := by omega
  have hB4 : B ≤ w4.heap.size := by omega
  generalize w3.heap.size = gs at *
  have HThr : Hid (Thr (xW kind size) ⟨[], 1048576, 0⟩) := hide ⟨rfl, rfl, hk.1, hk.2, hs.1, hs.2, by show ((0 : Nat) : Int) < size; omega, fun _ => rfl, rfl, rfl, rfl, rfl, rfl, .inr ⟨rfl, rfl⟩, rfl, rfl⟩
  clear HS2 HB4 HM3 HN HM HB1 HB2 HB3 hz1 hz2 hz3 hBq HBq hk hs
  clear hg4
  go_loopg [11, 12] l.length (fun gq s11 s12 wx => ∃ (k : Nat) (x : SS) (S : MS) (o i b : Value) (O : Nat → Prop) (L : List UInt8), k + gq = l.length ∧ s12 = .int .i64 k ∧ (∃ la lc, s11 = .slice la L.length lc) ∧ L.length ≤ k ∧ Hid (LV (fun w O S => MemAt w O g S) wx B gs O x S o i b) ∧ Hid (Thr x S ∧ L = S.l ++ x.out) ∧ Hid (AllAt wx B gs O o i b s11 L) ∧ Hid (L = [] → s11 = .slice none 0 0) ∧ Hid (Below w.heap.size w wx) ∧ B ≤ wx.heap.size)
  case atStart => exact ⟨0, _, _, _, _, _, _, [], by omega, rfl, ⟨none, 0, rfl⟩, Nat.le_refl _, HLV, hide ⟨HThr.out, rfl⟩, hide ⟨World.ownsRow_nil _ _ _ _, fun k e => by simp [Value.ownBlock] at e⟩, hide (fun _ => rfl), HTT, hB4⟩
  case round =>
    clear HLV HThr HTT hB4
    obtain ⟨k, x, S, o, i, b, O, L, hkg, rfl, ⟨la, lc, rfl⟩, hLk, HLVr, HThr, HAr, HNil, HBr, hBr⟩ := hrel
    by_cases hlt : k < l.length
    case neg =>
      have hSL : S.l.length + x.out.length = L.length := by rw [HThr.out.2]; simp
      have hp := sClose_any (gro_raw g) (fun s => gmem_o g s) (bears_true msR) HLVr.out.ls HLVr.out.raw HLVr.out.ol trivial (by have := HThr.out.1.ol; have := HThr.out.1.s2; omega) (by rw [HThr.out.1.inn]; decide) (by rw [HThr.out.1.back]; decide)
      obtain ⟨t1, t2, t3⟩ := thr_close HThr.out.1 (by omega)
      generalize x.close msR S = X at *
      obtain ⟨x', e', S'⟩ := X
      simp only at hp t1 t2 t3
      subst t1
      have HP := hide hp
      have HT2 := hide t2
      have HT3 : Hid (S'.l = L) := hide (by rw [t3, HThr.out.2])
      obtain ⟨oa0, oc0, eo, -⟩ := HLVr.out.ls.so
      obtain ⟨ia0, ic0, ei, -⟩ := HLVr.out.ls.si
      obtain ⟨ba0, bc0, ebk, -⟩ := HLVr.out.ls.sb
      subst eo ei ebk
      obtain ⟨c0, c1, c2, c3, c4, c5, c6, c7, c8, c9, c10⟩ := HLVr.out.st.cs
      have hlt' : ¬ (k : Int) < (l.length : Int) := by omega
      clear hp t2 t3
      go_wp2_with fail
      refine HP.out.mono ?_
      rintro _ w5 ⟨o', i', b', rfl, hS⟩
      obtain ⟨hst, -, ht⟩ := LV.next (fun s => gmem_o g s) HLVr.out hBr hS
      obtain ⟨O', s1, s2, s3, s4, s5⟩ := hS
      obtain ⟨a1, k1, rfl, -⟩ := s1.so
      obtain ⟨a2, k2, rfl, -⟩ := s1.si
      obtain ⟨a3, k3, rfl, -⟩ := s1.sb
      obtain ⟨-, hfill⟩ := st_fill2 w5 gs x x' _ _ _ (.slice a1 x'.out.length k1) (.slice a2 x'.inn.length k2) (.slice a3 x'.back.length k3) hst
      have HLV6 := hide (LV.next1 (fun s => gmem_o g s) HLVr.out hBr O' s1 s2 s3 s4 s5)
      have HA6 := hide (AllAt.next (x' := x') HAr.out O' s1 s4 s5 hfill)
      have HT6 := hide ht
      clear c0 c1 c2 c3 c4 c5 c6 c7 c8 c9 c10
      obtain ⟨p0, p1, p2, p3, p4, p5, p6, p7, p8, p9, p10⟩ := hst.cs
      have f0 := hst.soft 0
      have f1 := hst.soft 1
      have f2 := hst.soft 2
      have f3 := hst.soft 3
      have f4 := hst.soft 4
      have f5 := hst.soft 5
      have f6 := hst.soft 6
      have f7 := hst.soft 7
      have f8 := hst.soft 8
      have f9 := hst.soft 9
      have f10 := hst.soft 10
      unfold filled at HLV6 HA6 HT6
      clear hst ht hfill s1 s2 s3 s4 s5 HP HLVr HAr
      go_wp2_with fail
      generalize (((((((((((w5.setCell ⟨gs, 0, none⟩ (.bool x'.rd)).setCell ⟨gs, 1, none⟩ (.bool x'.wt)).setCell ⟨gs, 2, none⟩ (.int .i64 x'.mode)).setCell ⟨gs, 3, none⟩ (.int .i64 x'.size)).setCell ⟨gs, 4, none⟩ (.slice a1 x'.out.length k1)).setCell ⟨gs, 5, none⟩ (.slice a2 x'.inn.length k2)).setCell ⟨gs, 6, none⟩ (.slice a3 x'.back.length k3)).setCell ⟨gs, 7, none⟩ (.int .i64 x'.dir)).setCell ⟨gs, 8, none⟩ (.bool x'.fin)).setCell ⟨gs, 9, none⟩ (.bool x'.bad)).setCell ⟨gs, 10, none⟩ (.bool x'.closed)) = w6 at *
      have HB6 : Hid (Below w.heap.size w w6) := hide (HBr.out.trans ((HT6.out.below (fun k e => e) hBr).mono hBw))
      have c10 := HLV6.out.st.cs.2.2.2.2.2.2.2.2.2.2
      rw [HT2.out] at c10
      clear p0 p1 p2 p3 p4 p5 p6 p7 p8 p9 p10 f0 f1 f2 f3 f4 f5 f6 f7 f8 f9 f10 HT6 HThr HBr hBr
      refine (num_st _ _).mono ?_
      rintro _ _ ⟨rfl, rfl⟩
      go_wp2_with (first | (go_at_call 8; refine (num_st _ _).mono ?_; rintro _ _ ⟨rfl, rfl⟩) | fail)
      refine (gmbytes_any _ g _ _ HLV6.out.raw).mono ?_
      rintro _ w9 ⟨v9, rfl, hO9, hB9⟩
      rw [HT3.out] at hO9
      have HA9 := hide (HA6.out.turned (Turned.of_below (S := fun _ => False) hB9) (fun _ _ => id))
      have HB9 := hide (HB6.out.trans (hB9.mono HB6.out.size))
      have HS := hide (same_any v9 (.slice la L.length lc) L w9 (Bys.of_owns hO9) (Bys.of_owns HA9.out.own) (by unfold maxLen; omega))
      obtain ⟨a9, k9, rfl⟩ := owns_slice hO9
      clear hO9 hB9
      go_wp2_with fail
      refine HS.out.mono ?_
      rintro _ w10 ⟨rfl, hB10⟩
      have HB10 := hide (HB9.out.trans (hB10.mono HB9.out.size))
      clear hB10
      go_wp2
      go_ret
      exact ⟨rfl, HB10.out⟩
    obtain ⟨gq, rfl⟩ : ∃ gq, gk = gq + 1 := ⟨gk - 1, by omega⟩
    obtain ⟨eb, off, rfl, hbl, d0, d1⟩ := HL.out.at HBr.out k hlt
    have hk1 : (0 : Int) ≤ (k : Int) := by omega
    have hk2 : (k : Int) < (l.length : Int) := by omega
    generalize l[k] = y at *
    obtain ⟨yw, yc⟩ := y
    simp only at *
    by_cases h0 : yw = 0
    · subst h0
      have HLVd := hide (HLVr.out.below (fun s => gmem_o g s) (Below.refl _ _).drew)
      have HAd := hide (HAr.out.turned (Turned.of_below (S := fun _ => False) (Below.refl _ _).drew) (fun _ _ => id))
      have HBd := hide (HBr.out.trans ((Below.refl _ _).drew.mono HBr.out.size))
      have hp := sPut_any (gro_raw g) (fun s => gmem_o g s) (bears_true msR) yc HLVd.out.ls HLVd.out.raw HLVd.out.ol trivial (by have := HThr.out.1.ol; have := HThr.out.1.s2; omega) (by rw [HThr.out.1.inn]; decide) (by rw [HThr.out.1.back]; decide)
      have hSL : S.l.length + x.out.length = L.length := by rw [HThr.out.2]; simp
      obtain ⟨t1, t2, t3⟩ := thr_put HThr.out.1 yc (by omega)
      generalize x.put msR S yc = X at *
      obtain ⟨x', e', S'⟩ := X
      simp only at hp t1 t2 t3
      subst t1
      have HP := hide hp
      have HThr2 : Hid (Thr x' S' ∧ L ++ [yc] = S'.l ++ x'.out) := hide ⟨t2, by rw [t3, HThr.out.2]⟩
      obtain ⟨oa0, oc0, eo, -⟩ := HLVr.out.ls.so
      obtain ⟨ia0, ic0, ei, -⟩ := HLVr.out.ls.si
      obtain ⟨ba0, bc0, ebk, -⟩ := HLVr.out.ls.sb
      subst eo ei ebk
      obtain ⟨c0, c1, c2, c3, c4, c5, c6, c7, c8, c9, c10⟩ := HLVr.out.st.cs
      have HD := hide (fun (W : World) (hW : Turned (fun k => B ≤ k) wr W) => (show W.cell? ⟨eb, off + k * 2, none⟩ = some (.int .i64 0) ∧ W.cell? ⟨eb, off + k * 2 + 1, none⟩ = some (.int .u8 (yc.toNat : Int)) from ⟨hW.cell d0 (by show ¬ B ≤ eb; omega), hW.cell d1 (by show ¬ B ≤ eb; omega)⟩))
      clear hp t2 t3
      go_wp2_with fail
      go_region_law (first | (go_simp; go_at_call 9; refine HP.out.mono ?_; rintro _ w5 ⟨o', i', b', rfl, hS⟩; obtain ⟨hst, -, ht⟩ := LV.next (fun s => gmem_o g s) HLVd.out hBr hS; obtain ⟨O', s1, s2, s3, s4, s5⟩ := hS; obtain ⟨a1, k1, rfl, -⟩ := s1.so; obtain ⟨a2, k2, rfl, -⟩ := s1.si; obtain ⟨a3, k3, rfl, -⟩ := s1.sb; obtain ⟨-, hfill⟩ := st_fill2 w5 gs x x' _ _ _ (.slice a1 x'.out.length k1) (.slice a2 x'.inn.length k2) (.slice a3 x'.back.length k3) hst; have HLV6 := hide (LV.next1 (fun s => gmem_o g s) HLVd.out hBr O' s1 s2 s3 s4 s5); have HA6 := hide (AllAt.next (x' := x') HAd.out O' s1 s4 s5 hfill); have HT6 := hide ht; obtain ⟨p0, p1, p2, p3, p4, p5, p6, p7, p8, p9, p10⟩ := hst.cs; have f0 := hst.soft 0; have f1 := hst.soft 1; have f2 := hst.soft 2; have f3 := hst.soft 3; have f4 := hst.soft 4; have f5 := hst.soft 5; have f6 := hst.soft 6; have f7 := hst.soft 7; have f8 := hst.soft 8; have f9 := hst.soft 9; have f10 := hst.soft 10; clear hst ht hfill s1 s2 s3 s4 s5) | fail)
      all_goals
        unfold filled at HLV6 HA6 HT6
        clear p0 p1 p2 p3 p4 p5 p6 p7 p8 p9 p10 f0 f1 f2 f3 f4 f5 f6 f7 f8 f9 f10 c0 c1 c2 c3 c4 c5 c6 c7 c8 c9 c10 d0 d1 HP HLVd HAd HLVr HAr
        generalize (((((((((((w5.setCell ⟨gs, 0, none⟩ (.bool x'.rd)).setCell ⟨gs, 1, none⟩ (.bool x'.wt)).setCell ⟨gs, 2, none⟩ (.int .i64 x'.mode)).setCell ⟨gs, 3, none⟩ (.int .i64 x'.size)).setCell ⟨gs, 4, none⟩ (.slice a1 x'.out.length k1)).setCell ⟨gs, 5, none⟩ (.slice a2 x'.inn.length k2)).setCell ⟨gs, 6, none⟩ (.slice a3 x'.back.length k3)).setCell ⟨gs, 7, none⟩ (.int .i64 x'.dir)).setCell ⟨gs, 8, none⟩ (.bool x'.fin)).setCell ⟨gs, 9, none⟩ (.bool x'.bad)).setCell ⟨gs, 10, none⟩ (.bool x'.closed)) = w6 at *
        have HBs : Hid (Below w.heap.size w w6) := hide (HBd.out.trans ((HT6.out.below (fun k e => e) hBr).mono hBw))
        obtain ⟨d0, d1⟩ := HD.out w6 ((Turned.of_below (S := fun k => B ≤ k) (Below.refl _ _).drew).trans HT6.out (fun _ _ e => e))
        have hz6 : wr.heap.size ≤ w6.heap.size := HT6.out.size
        obtain ⟨la', lc', w7, hrun, hall7, hlv7, ht7⟩ := all_more yc HA6.out HLV6.out (by omega) (by omega)
        have HR := hide hrun
        obtain ⟨L', hL'⟩ : ∃ L', L' = L ++ [yc] := ⟨_, rfl⟩
        rw [← hL'] at HR hall7 HThr2
        have hLl : L'.length = L.length + 1 := by rw [hL']; simp
        have HNil : Hid (L' = [] → (Value.slice la' L'.length lc') = .slice none 0 0) := hide (fun e => by rw [e] at hLl; simp at hLl)
        have hLk : L'.length ≤ k + 1 := by omega
        have HLVt := hide hlv7
        have HAt := hide hall7
        have HTht := HThr2
        have HBt := hide (HBs.out.trans ((ht7.below (fun k e => e) (by omega)).mono hBw))
        have hBt : B ≤ w7.heap.size := by have := ht7.size; omega
        clear hrun hall7 hlv7 ht7 hL' HLV6 HA6 HT6 HBd HBs HThr HThr2 hSL hLl
        clear HBr
        clear hBr
        go_wp2_with (first | (go_at_call 8; refine (num_st _ _).mono ?_; rintro _ _ ⟨rfl, rfl⟩) | (at_builtin; refine Lib.wpList_append_run _ rfl _ _ _ _ rfl _ _ rfl rfl _ _ HR.out ?_) | fail)
        obtain ⟨x, rfl⟩ : ∃ y, y = x' := ⟨x', rfl⟩
        obtain ⟨S, rfl⟩ : ∃ y, y = S' := ⟨S', rfl⟩
        obtain ⟨L, rfl⟩ : ∃ y, y = L' := ⟨L', rfl⟩
        obtain ⟨la, rfl⟩ : ∃ y, y = la' := ⟨la', rfl⟩
        obtain ⟨lc, rfl⟩ : ∃ y, y = lc' := ⟨lc', rfl⟩
        refine (gmbytes_any _ g _ _ HLVt.out.raw).mono ?_
        rintro _ w9 ⟨v9, rfl, hO9, hB9⟩
        obtain ⟨a9, k9, rfl⟩ := owns_slice hO9
        have HLV9 := hide (HLVt.out.below (fun s => gmem_o g s) hB9)
        have HA9 := hide (HAt.out.turned (Turned.of_below (S := fun _ => False) hB9) (fun _ _ => id))
        have HB9 := hide (HBt.out.trans (hB9.mono HBt.out.size))
        have hs9 := hB9.size
        have hy9 := Bys.of_owns hO9
        have hc9 := owns_cap hO9
        have hLe := HTht.out.2
        have hlen : (S.l.length : Int) + (x.out.length : Int) = (L.length : Int) := by rw [hLe]; simp
        obtain ⟨oa9, oc9, e9, ho9, hoc9⟩ := HLV9.out.ls.so
        obtain ⟨c0, c1, c2, c3, c4, c5, c6, c7, c8, c9, c10⟩ := HLV9.out.st.cs
        rw [e9] at c4
        have Hy9 := hide hy9
        have Ho9 : Hid (Bys w9 (.slice oa9 x.out.length oc9) x.out) := hide (by rw [← e9]; exact ho9)
        clear hO9 hB9 hy9 ho9 e9 c0 c1 c2 c3 c5 c6 c7 c8 c9 c10
        by_cases hL0 : L = []
        · subst hL0
          have hSl : S.l = [] := (List.append_eq_nil_iff.1 hLe.symm).1
          have hxo : x.out = [] := (List.append_eq_nil_iff.1 hLe.symm).2
          obtain ⟨rfl, rfl⟩ : la = none ∧ lc = 0 := by simpa using HNil.out rfl
          rw [hSl] at Hy9 hlen ⊢
          rw [hxo] at Ho9 c4 hlen
          simp only [List.length_nil] at *
          clear hSl hxo hLe
          have HK := hide (fun (W : World) (hW : Below w9.heap.size w9 W) => (show W.cell? ⟨gs, 4, none⟩ = some (.slice oa9 0 oc9) from (hW.cell (World.block_lt_of_cell? w9 _ c4)).trans c4))
          clear c4
          go_wp2_with fail
          go_region_held3 (fun W => W.cell? ⟨gs, 4, none⟩ = some (.slice oa9 0 oc9)) (first | exact HK.out _ HBy.out | exact HK.out _ HBx.out | exact HK.out _ (Below.refl _ _).drew) (first
            | (go_at_call 12; have := HS1; refine (same_any _ _ [] w10 (Ho9.out.below HBx.out) ((show Bys w9 (.slice none 0 0) [] from .inl ⟨rfl, rfl⟩).below HBx.out) (by decide)).mono ?_; rintro _ w11 ⟨rfl, hB11⟩; have HBy := hide (HBx.out.trans (hB11.mono HBx.out.size)); clear hB11)
            | (go_at_call 12; refine (same_any _ _ [] _ (Hy9.out.below (Below.refl _ _).drew) ((show Bys w9 (.slice none 0 0) [] from .inl ⟨rfl, rfl⟩).below (Below.refl _ _).drew) (by decide)).mono ?_; rintro _ w10 ⟨rfl, hB10⟩; have HS1 := hide True.intro; have HBx := hide ((Below.refl _ _).drew.trans hB10); clear hB10)
            | (go_at_call 8; refine (num_st _ _).mono ?_; rintro _ _ ⟨rfl, rfl⟩) | fail)
          have HLV11 := hide (HLV9.out.below (fun s => gmem_o g s) HBy.out)
          have HA11 := hide (HA9.out.turned (Turned.of_below (S := fun _ => False) HBy.out) (fun _ _ => id))
          have HB11 := hide (HB9.out.trans (HBy.out.mono HB9.out.size))
          have hs11 := HBy.out.size
          go_wp2
          go_roundg gq
          case measure => omega
          case rel => exact ⟨k + 1, x, S, _, _, _, _, [], by omega, by go_num, ⟨_, _, rfl⟩, Nat.zero_le _, HLV11, HTht, HA11, hide (fun _ => rfl), HB11, by omega⟩
        · obtain ⟨-, qb, qo, rfl, -⟩ := bys_block (Bys.of_owns HA9.out.own) (List.length_pos_iff.2 hL0)
          have hcap := owns_cap HA9.out.own
          have hbA := Bys.of_owns HA9.out.own
          have hle : S.l.length ≤ L.length := by omega
          have hb1 : Bys w9 (.slice (some ⟨qb, qo, none⟩) S.l.length lc) S.l := by
            have := bys_cut hbA 0 S.l.length lc (by omega)
            rw [List.drop_zero, hLe, List.take_left] at this
            exact this
          have HC1 := hide hb1
          have k0 : (S.l.length : Int) ≤ (lc : Int) := by omega
          have k1 : (S.l.length : Int) ≤ (L.length : Int) := by omega
          have k2 : (L.length : Int) ≤ (lc : Int) := by omega
          have hSle : S.l.length ≤ 1048576 := by omega
          have hxle : x.out.length ≤ 1048576 := by omega
          by_cases hfull : lc = S.l.length
          · have hxo : x.out = [] := List.length_eq_zero_iff.1 (by omega)
            subst hfull
            have k5 : L.length - S.l.length = x.out.length := by omega
            have k8 : (IntKind.i64.wrap ((S.l.length : Int) + (x.out.length : Int)) != (L.length : Int)) = false := by rw [hlen, show IntKind.i64.wrap (L.length : Int) = (L.length : Int) by rw [IntKind.wrap_i64]; omega]; simp
            have k6 : ((S.l.length : Int) + (x.out.length : Int) != (L.length : Int)) = false := by rw [hlen]; simp
            have k7 : ((S.l.length : Int) + (x.out.length : Int) == (L.length : Int)) = true := by rw [hlen]; simp
            have hb2 : Bys w9 (.slice (some ⟨qb, qo, none⟩) x.out.length 0) x.out := by rw [hxo]; exact .inr (.inl ⟨_, _, rfl, rfl⟩)
            clear hxo
            have HC2 := hide hb2
            clear hLe hb1 hbA hb2 hlen
            have HK := hide (fun (W : World) (hW : Below w9.heap.size w9 W) => (show W.cell? ⟨gs, 4, none⟩ = some (.slice oa9 x.out.length oc9) from (hW.cell (World.block_lt_of_cell? w9 _ c4)).trans c4))
            clear c4
            go_wp2_with fail
            go_region_held3 (fun W => W.cell? ⟨gs, 4, none⟩ = some (.slice oa9 x.out.length oc9)) (first | exact HK.out _ HBy.out | exact HK.out _ HBx.out | exact HK.out _ (Below.refl _ _).drew) (first
              | (go_at_call 12; have := HS1; refine (same_any _ _ x.out w10 (Ho9.out.below HBx.out) (HC2.out.below HBx.out) (by unfold maxLen; omega)).mono ?_; rintro _ w11 ⟨rfl, hB11⟩; have HBy := hide (HBx.out.trans (hB11.mono HBx.out.size)); clear hB11)
              | (go_at_call 12; refine (same_any _ _ S.l _ (Hy9.out.below (Below.refl _ _).drew) (HC1.out.below (Below.refl _ _).drew) (by unfold maxLen; omega)).mono ?_; rintro _ w10 ⟨rfl, hB10⟩; have HS1 := hide True.intro; have HBx := hide ((Below.refl _ _).drew.trans hB10); clear hB10)
              | (go_at_call 8; refine (num_st _ _).mono ?_; rintro _ _ ⟨rfl, rfl⟩) | fail)
            have HLV11 := hide (HLV9.out.below (fun s => gmem_o g s) HBy.out)
            have HA11 := hide (HA9.out.turned (Turned.of_below (S := fun _ => False) HBy.out) (fun _ _ => id))
            have HB11 := hide (HB9.out.trans (HBy.out.mono HB9.out.size))
            have hs11 := HBy.out.size
            go_wp2
            go_roundg gq
            case measure => omega
            case rel => exact ⟨k + 1, x, S, _, _, _, _, _, by omega, by go_num, ⟨_, _, rfl⟩, by omega, HLV11, HTht, HA11, HNil, HB11, by omega⟩
          · have k3 : (S.l.length : Int) < (lc : Int) := by omega
            have k4 : ¬ lc = S.l.length := hfull
            have k5 : L.length - S.l.length = x.out.length := by omega
            have k8 : (IntKind.i64.wrap ((S.l.length : Int) + (x.out.length : Int)) != (L.length : Int)) = false := by rw [hlen, show IntKind.i64.wrap (L.length : Int) = (L.length : Int) by rw [IntKind.wrap_i64]; omega]; simp
            have k6 : ((S.l.length : Int) + (x.out.length : Int) != (L.length : Int)) = false := by rw [hlen]; simp
            have k7 : ((S.l.length : Int) + (x.out.length : Int) == (L.length : Int)) = true := by rw [hlen]; simp
            have hb2 : Bys w9 (.slice (some ⟨qb, qo + S.l.length, none⟩) x.out.length (lc - S.l.length)) x.out := by
              have := bys_cut hbA S.l.length x.out.length (lc - S.l.length) (by omega)
              rw [hLe, List.drop_left, List.take_length] at this
              exact this
            have HC2 := hide hb2
            clear hLe hb1 hbA hb2 hlen
            have HK := hide (fun (W : World) (hW : Below w9.heap.size w9 W) => (show W.cell? ⟨gs, 4, none⟩ = some (.slice oa9 x.out.length oc9) from (hW.cell (World.block_lt_of_cell? w9 _ c4)).trans c4))
            clear c4
            go_wp2_with fail
            go_region_held3 (fun W => W.cell? ⟨gs, 4, none⟩ = some (.slice oa9 x.out.length oc9)) (first | exact HK.out _ HBy.out | exact HK.out _ HBx.out | exact HK.out _ (Below.refl _ _).drew) (first
              | (go_at_call 12; have := HS1; refine (same_any _ _ x.out w10 (Ho9.out.below HBx.out) (HC2.out.below HBx.out) (by unfold maxLen; omega)).mono ?_; rintro _ w11 ⟨rfl, hB11⟩; have HBy := hide (HBx.out.trans (hB11.mono HBx.out.size)); clear hB11)
              | (go_at_call 12; refine (same_any _ _ S.l _ (Hy9.out.below (Below.refl _ _).drew) (HC1.out.below (Below.refl _ _).drew) (by unfold maxLen; omega)).mono ?_; rintro _ w10 ⟨rfl, hB10⟩; have HS1 := hide True.intro; have HBx := hide ((Below.refl _ _).drew.trans hB10); clear hB10)
              | (go_at_call 8; refine (num_st _ _).mono ?_; rintro _ _ ⟨rfl, rfl⟩) | fail)
            have HLV11 := hide (HLV9.out.below (fun s => gmem_o g s) HBy.out)
            have HA11 := hide (HA9.out.turned (Turned.of_below (S := fun _ => False) HBy.out) (fun _ _ => id))
            have HB11 := hide (HB9.out.trans (HBy.out.mono HB9.out.size))
            have hs11 := HBy.out.size
            go_wp2
            go_roundg gq
            case measure => omega
            case rel => exact ⟨k + 1, x, S, _, _, _, _, _, by omega, by go_num, ⟨_, _, rfl⟩, by omega, HLV11, HTht, HA11, HNil, HB11, by omega⟩
    by_cases h2 : yw = 2
    · subst h2
      have hp := sFlush_any (gro_raw g) (fun s => gmem_o g s) (bears_true msR) HLVr.out.ls HLVr.out.raw HLVr.out.ol trivial (by have := HThr.out.1.ol; have := HThr.out.1.s2; omega) (by rw [HThr.out.1.inn]; decide) (by rw [HThr.out.1.back]; decide)
      have hSL : S.l.length + x.out.length = L.length := by rw [HThr.out.2]; simp
      obtain ⟨t1, t2, t3, t4⟩ := thr_flush HThr.out.1 (by omega)
      generalize x.flush msR S = X at *
      obtain ⟨x', e', S'⟩ := X
      simp only at hp t1 t2 t3 t4
      subst t1
      have HP := hide hp
      have HThr2 : Hid (Thr x' S' ∧ L = S'.l ++ x'.out) := hide ⟨t2, by rw [t3, t4, HThr.out.2]; simp⟩
      have HT3 := hide t3
      obtain ⟨oa0, oc0, eo, -⟩ := HLVr.out.ls.so
      obtain ⟨ia0, ic0, ei, -⟩ := HLVr.out.ls.si
      obtain ⟨ba0, bc0, ebk, -⟩ := HLVr.out.ls.sb
      subst eo ei ebk
      obtain ⟨c0, c1, c2, c3, c4, c5, c6, c7, c8, c9, c10⟩ := HLVr.out.st.cs
      clear hp t2 t3 t4
      go_wp2_with fail
      refine HP.out.mono ?_
      rintro _ w5 ⟨o', i', b', rfl, hS⟩
      obtain ⟨hst, -, ht⟩ := LV.next (fun s => gmem_o g s) HLVr.out hBr hS
      obtain ⟨O', s1, s2, s3, s4, s5⟩ := hS
      obtain ⟨a1, k1, rfl, -⟩ := s1.so
      obtain ⟨a2, k2, rfl, -⟩ := s1.si
      obtain ⟨a3, k3, rfl, -⟩ := s1.sb
      obtain ⟨-, hfill⟩ := st_fill2 w5 gs x x' _ _ _ (.slice a1 x'.out.length k1) (.slice a2 x'.inn.length k2) (.slice a3 x'.back.length k3) hst
      have HLV6 := hide (LV.next1 (fun s => gmem_o g s) HLVr.out hBr O' s1 s2 s3 s4 s5)
      have HA6 := hide (AllAt.next (x' := x') HAr.out O' s1 s4 s5 hfill)
      have HT6 := hide ht
      clear c0 c1 c2 c3 c4 c5 c6 c7 c8 c9 c10
      obtain ⟨p0, p1, p2, p3, p4, p5, p6, p7, p8, p9, p10⟩ := hst.cs
      have f0 := hst.soft 0
      have f1 := hst.soft 1
      have f2 := hst.soft 2
      have f3 := hst.soft 3
      have f4 := hst.soft 4
      have f5 := hst.soft 5
      have f6 := hst.soft 6
      have f7 := hst.soft 7
      have f8 := hst.soft 8
      have f9 := hst.soft 9
      have f10 := hst.soft 10
      unfold filled at HLV6 HA6 HT6
      have q4 : decide (0 < x'.out.length) = false := decide_eq_false (by rw [HT3.out]; simp)
      clear hst ht hfill s1 s2 s3 s4 s5 HP HLVr HAr
      go_wp2_with fail
      generalize (((((((((((w5.setCell ⟨gs, 0, none⟩ (.bool x'.rd)).setCell ⟨gs, 1, none⟩ (.bool x'.wt)).setCell ⟨gs, 2, none⟩ (.int .i64 x'.mode)).setCell ⟨gs, 3, none⟩ (.int .i64 x'.size)).setCell ⟨gs, 4, none⟩ (.slice a1 x'.out.length k1)).setCell ⟨gs, 5, none⟩ (.slice a2 x'.inn.length k2)).setCell ⟨gs, 6, none⟩ (.slice a3 x'.back.length k3)).setCell ⟨gs, 7, none⟩ (.int .i64 x'.dir)).setCell ⟨gs, 8, none⟩ (.bool x'.fin)).setCell ⟨gs, 9, none⟩ (.bool x'.bad)).setCell ⟨gs, 10, none⟩ (.bool x'.closed)) = w6 at *
      have HBt : Hid (Below w.heap.size w w6) := hide (HBr.out.trans ((HT6.out.below (fun k e => e) hBr).mono hBw))
      have hBt : B ≤ w6.heap.size := by have := HT6.out.size; omega
      have HLVt := HLV6
      have HAt := HA6
      have HTht := HThr2
      clear p0 p1 p2 p3 p4 p5 p6 p7 p8 p9 p10 f0 f1 f2 f3 f4 f5 f6 f7 f8 f9 f10 HLV6 HA6 HT6 HThr HThr2 HBr hBr q4 HT3
      obtain ⟨x, rfl⟩ : ∃ y, y = x' := ⟨x', rfl⟩
      obtain ⟨S, rfl⟩ : ∃ y, y = S' := ⟨S', rfl⟩
      refine (gmbytes_any _ g _ _ HLVt.out.raw).mono ?_
      rintro _ w9 ⟨v9, rfl, hO9, hB9⟩
      obtain ⟨a9, k9, rfl⟩ := owns_slice hO9
      have HLV9 := hide (HLVt.out.below (fun s => gmem_o g s) hB9)
      have HA9 := hide (HAt.out.turned (Turned.of_below (S := fun _ => False) hB9) (fun _ _ => id))
      have HB9 := hide (HBt.out.trans (hB9.mono HBt.out.size))
      have hs9 := hB9.size
      have hy9 := Bys.of_owns hO9
      have hc9 := owns_cap hO9
      have hLe := HTht.out.2
      have hlen : (S.l.length : Int) + (x.out.length : Int) = (L.length : Int) := by rw [hLe]; simp
      obtain ⟨oa9, oc9, e9, ho9, hoc9⟩ := HLV9.out.ls.so
      obtain ⟨c0, c1, c2, c3, c4, c5, c6, c7, c8, c9, c10⟩ := HLV9.out.st.cs
      rw [e9] at c4
      have Hy9 := hide hy9
      have Ho9 : Hid (Bys w9 (.slice oa9 x.out.length oc9) x.out) := hide (by rw [← e9]; exact ho9)
      clear hO9 hB9 hy9 ho9 e9 c0 c1 c2 c3 c5 c6 c7 c8 c9 c10
      by_cases hL0 : L = []
      · subst hL0
        have hSl : S.l = [] := (List.append_eq_nil_iff.1 hLe.symm).1
        have hxo : x.out = [] := (List.append_eq_nil_iff.1 hLe.symm).2
        obtain ⟨rfl, rfl⟩ : la = none ∧ lc = 0 := by simpa using HNil.out rfl
        rw [hSl] at Hy9 hlen ⊢
        rw [hxo] at Ho9 c4 hlen
        simp only [List.length_nil] at *
        clear hSl hxo hLe
        have HK := hide (fun (W : World) (hW : Below w9.heap.size w9 W) => (show W.cell? ⟨gs, 4, none⟩ = some (.slice oa9 0 oc9) from (hW.cell (World.block_lt_of_cell? w9 _ c4)).trans c4))
        clear c4
        go_wp2_with fail
        go_region_held3 (fun W => W.cell? ⟨gs, 4, none⟩ = some (.slice oa9 0 oc9)) (first | exact HK.out _ HBy.out | exact HK.out _ HBx.out | exact HK.out _ (Below.refl _ _).drew) (first
          | (go_at_call 12; have := HS1; refine (same_any _ _ [] w10 (Ho9.out.below HBx.out) ((show Bys w9 (.slice none 0 0) [] from .inl ⟨rfl, rfl⟩).below HBx.out) (by decide)).mono ?_; rintro _ w11 ⟨rfl, hB11⟩; have HBy := hide (HBx.out.trans (hB11.mono HBx.out.size)); clear hB11)
          | (go_at_call 12; refine (same_any _ _ [] _ (Hy9.out.below (Below.refl _ _).drew) ((show Bys w9 (.slice none 0 0) [] from .inl ⟨rfl, rfl⟩).below (Below.refl _ _).drew) (by decide)).mono ?_; rintro _ w10 ⟨rfl, hB10⟩; have HS1 := hide True.intro; have HBx := hide ((Below.refl _ _).drew.trans hB10); clear hB10)
          | (go_at_call 8; refine (num_st _ _).mono ?_; rintro _ _ ⟨rfl, rfl⟩) | fail)
        have HLV11 := hide (HLV9.out.below (fun s => gmem_o g s) HBy.out)
        have HA11 := hide (HA9.out.turned (Turned.of_below (S := fun _ => False) HBy.out) (fun _ _ => id))
        have HB11 := hide (HB9.out.trans (HBy.out.mono HB9.out.size))
        have hs11 := HBy.out.size
        go_wp2
        go_roundg gq
        case measure => omega
        case rel => exact ⟨k + 1, x, S, _, _, _, _, [], by omega, by go_num, ⟨_, _, rfl⟩, Nat.zero_le _, HLV11, HTht, HA11, hide (fun _ => rfl), HB11, by omega⟩
      · obtain ⟨-, qb, qo, rfl, -⟩ := bys_block (Bys.of_owns HA9.out.own) (List.length_pos_iff.2 hL0)
        have hcap := owns_cap HA9.out.own
        have hbA := Bys.of_owns HA9.out.own
        have hle : S.l.length ≤ L.length := by omega
        have hb1 : Bys w9 (.slice (some ⟨qb, qo, none⟩) S.l.length lc) S.l := by
          have := bys_cut hbA 0 S.l.length lc (by omega)
          rw [List.drop_zero, hLe, List.take_left] at this
          exact this
        have HC1 := hide hb1
        have k0 : (S.l.length : Int) ≤ (lc : Int) := by omega
        have k1 : (S.l.length : Int) ≤ (L.length : Int) := by omega
        have k2 : (L.length : Int) ≤ (lc : Int) := by omega
        have hSle : S.l.length ≤ 1048576 := by omega
        have hxle : x.out.length ≤ 1048576 := by omega
        by_cases hfull : lc = S.l.length
        · have hxo : x.out = [] := List.length_eq_zero_iff.1 (by omega)
          subst hfull
          have k5 : L.length - S.l.length = x.out.length := by omega
          have k8 : (IntKind.i64.wrap ((S.l.length : Int) + (x.out.length : Int)) != (L.length : Int)) = false := by rw [hlen, show IntKind.i64.wrap (L.length : Int) = (L.length : Int) by rw [IntKind.wrap_i64]; omega]; simp
          have k6 : ((S.l.length : Int) + (x.out.length : Int) != (L.length : Int)) = false := by rw [hlen]; simp
          have k7 : ((S.l.length : Int) + (x.out.length : Int) == (L.length : Int)) = true := by rw [hlen]; simp
          have hb2 : Bys w9 (.slice (some ⟨qb, qo, none⟩) x.out.length 0) x.out := by rw [hxo]; exact .inr (.inl ⟨_, _, rfl, rfl⟩)
          clear hxo
          have HC2 := hide hb2
          clear hLe hb1 hbA hb2 hlen
          have HK := hide (fun (W : World) (hW : Below w9.heap.size w9 W) => (show W.cell? ⟨gs, 4, none⟩ = some (.slice oa9 x.out.length oc9) from (hW.cell (World.block_lt_of_cell? w9 _ c4)).trans c4))
          clear c4
          go_wp2_with fail
          go_region_held3 (fun W => W.cell? ⟨gs, 4, none⟩ = some (.slice oa9 x.out.length oc9)) (first | exact HK.out _ HBy.out | exact HK.out _ HBx.out | exact HK.out _ (Below.refl _ _).drew) (first
            | (go_at_call 12; have := HS1; refine (same_any _ _ x.out w10 (Ho9.out.below HBx.out) (HC2.out.below HBx.out) (by unfold maxLen; omega)).mono ?_; rintro _ w11 ⟨rfl, hB11⟩; have HBy := hide (HBx.out.trans (hB11.mono HBx.out.size)); clear hB11)
            | (go_at_call 12; refine (same_any _ _ S.l _ (Hy9.out.below (Below.refl _ _).drew) (HC1.out.below (Below.refl _ _).drew) (by unfold maxLen; omega)).mono ?_; rintro _ w10 ⟨rfl, hB10⟩; have HS1 := hide True.intro; have HBx := hide ((Below.refl _ _).drew.trans hB10); clear hB10)
            | (go_at_call 8; refine (num_st _ _).mono ?_; rintro _ _ ⟨rfl, rfl⟩) | fail)
          have HLV11 := hide (HLV9.out.below (fun s => gmem_o g s) HBy.out)
          have HA11 := hide (HA9.out.turned (Turned.of_below (S := fun _ => False) HBy.out) (fun _ _ => id))
          have HB11 := hide (HB9.out.trans (HBy.out.mono HB9.out.size))
          have hs11 := HBy.out.size
          go_wp2
          go_roundg gq
          case measure => omega
          case rel => exact ⟨k + 1, x, S, _, _, _, _, _, by omega, by go_num, ⟨_, _, rfl⟩, by omega, HLV11, HTht, HA11, HNil, HB11, by omega⟩
        · have k3 : (S.l.length : Int) < (lc : Int) := by omega
          have k4 : ¬ lc = S.l.length := hfull
          have k5 : L.length - S.l.length = x.out.length := by omega
          have k8 : (IntKind.i64.wrap ((S.l.length : Int) + (x.out.length : Int)) != (L.length : Int)) = false := by rw [hlen, show IntKind.i64.wrap (L.length : Int) = (L.length : Int) by rw [IntKind.wrap_i64]; omega]; simp
          have k6 : ((S.l.length : Int) + (x.out.length : Int) != (L.length : Int)) = false := by rw [hlen]; simp
          have k7 : ((S.l.length : Int) + (x.out.length : Int) == (L.length : Int)) = true := by rw [hlen]; simp
          have hb2 : Bys w9 (.slice (some ⟨qb, qo + S.l.length, none⟩) x.out.length (lc - S.l.length)) x.out := by
            have := bys_cut hbA S.l.length x.out.length (lc - S.l.length) (by omega)
            rw [hLe, List.drop_left, List.take_length] at this
            exact this
          have HC2 := hide hb2
          clear hLe hb1 hbA hb2 hlen
          have HK := hide (fun (W : World) (hW : Below w9.heap.size w9 W) => (show W.cell? ⟨gs, 4, none⟩ = some (.slice oa9 x.out.length oc9) from (hW.cell (World.block_lt_of_cell? w9 _ c4)).trans c4))
          clear c4
          go_wp2_with fail
          go_region_held3 (fun W => W.cell? ⟨gs, 4, none⟩ = some (.slice oa9 x.out.length oc9)) (first | exact HK.out _ HBy.out | exact HK.out _ HBx.out | exact HK.out _ (Below.refl _ _).drew) (first
            | (go_at_call 12; have := HS1; refine (same_any _ _ x.out w10 (Ho9.out.below HBx.out) (HC2.out.below HBx.out) (by unfold maxLen; omega)).mono ?_; rintro _ w11 ⟨rfl, hB11⟩; have HBy := hide (HBx.out.trans (hB11.mono HBx.out.size)); clear hB11)
            | (go_at_call 12; refine (same_any _ _ S.l _ (Hy9.out.below (Below.refl _ _).drew) (HC1.out.below (Below.refl _ _).drew) (by unfold maxLen; omega)).mono ?_; rintro _ w10 ⟨rfl, hB10⟩; have HS1 := hide True.intro; have HBx := hide ((Below.refl _ _).drew.trans hB10); clear hB10)
            | (go_at_call 8; refine (num_st _ _).mono ?_; rintro _ _ ⟨rfl, rfl⟩) | fail)
          have HLV11 := hide (HLV9.out.below (fun s => gmem_o g s) HBy.out)
          have HA11 := hide (HA9.out.turned (Turned.of_below (S := fun _ => False) HBy.out) (fun _ _ => id))
          have HB11 := hide (HB9.out.trans (HBy.out.mono HB9.out.size))
          have hs11 := HBy.out.size
          go_wp2
          go_roundg gq
          case measure => omega
          case rel => exact ⟨k + 1, x, S, _, _, _, _, _, by omega, by go_num, ⟨_, _, rfl⟩, by omega, HLV11, HTht, HA11, HNil, HB11, by omega⟩
    have h01 : (yw == 0) = false := by simp [h0]
    have h21 : (yw == 2) = false := by simp [h2]
    have HLVt := HLVr
    have HTht := HThr
    have HAt := HAr
    have HBt := HBr
    clear HLVr HThr HAr HBr
    go_wp2_with fail
    refine (gmbytes_any _ g _ _ HLVt.out.raw).mono ?_
    rintro _ w9 ⟨v9, rfl, hO9, hB9⟩
    obtain ⟨a9, k9, rfl⟩ := owns_slice hO9
    have HLV9 := hide (HLVt.out.below (fun s => gmem_o g s) hB9)
    have HA9 := hide (HAt.out.turned (Turned.of_below (S := fun _ => False) hB9) (fun _ _ => id))
    have HB9 := hide (HBt.out.trans (hB9.mono HBt.out.size))
    have hs9 := hB9.size
    have hy9 := Bys.of_owns hO9
    have hc9 := owns_cap hO9
    have hLe := HTht.out.2
    have hlen : (S.l.length : Int) + (x.out.length : Int) = (L.length : Int) := by rw [hLe]; simp
    obtain ⟨oa9, oc9, e9, ho9, hoc9⟩ := HLV9.out.ls.so
    obtain ⟨c0, c1, c2, c3, c4, c5, c6, c7, c8, c9, c10⟩ := HLV9.out.st.cs
    rw [e9] at c4
    have Hy9 := hide hy9
    have Ho9 : Hid (Bys w9 (.slice oa9 x.out.length oc9) x.out) := hide (by rw [← e9]; exact ho9)
    clear hO9 hB9 hy9 ho9 e9 c0 c1 c2 c3 c5 c6 c7 c8 c9 c10
    by_cases hL0 : L = []
    · subst hL0
      have hSl : S.l = [] := (List.append_eq_nil_iff.1 hLe.symm).1
      have hxo : x.out = [] := (List.append_eq_nil_iff.1 hLe.symm).2
      obtain ⟨rfl, rfl⟩ : la = none ∧ lc = 0 := by simpa using HNil.out rfl
      rw [hSl] at Hy9 hlen ⊢
      rw [hxo] at Ho9 c4 hlen
      simp only [List.length_nil] at *
      clear hSl hxo hLe
      have HK := hide (fun (W : World) (hW : Below w9.heap.size w9 W) => (show W.cell? ⟨gs, 4, none⟩ = some (.slice oa9 0 oc9) from (hW.cell (World.block_lt_of_cell? w9 _ c4)).trans c4))
      clear c4
      go_wp2_with fail
      go_region_held3 (fun W => W.cell? ⟨gs, 4, none⟩ = some (.slice oa9 0 oc9)) (first | exact HK.out _ HBy.out | exact HK.out _ HBx.out | exact HK.out _ (Below.refl _ _).drew) (first
        | (go_at_call 12; have := HS1; refine (same_any _ _ [] w10 (Ho9.out.below HBx.out) ((show Bys w9 (.slice none 0 0) [] from .inl ⟨rfl, rfl⟩).below HBx.out) (by decide)).mono ?_; rintro _ w11 ⟨rfl, hB11⟩; have HBy := hide (HBx.out.trans (hB11.mono HBx.out.size)); clear hB11)
        | (go_at_call 12; refine (same_any _ _ [] _ (Hy9.out.below (Below.refl _ _).drew) ((show Bys w9 (.slice none 0 0) [] from .inl ⟨rfl, rfl⟩).below (Below.refl _ _).drew) (by decide)).mono ?_; rintro _ w10 ⟨rfl, hB10⟩; have HS1 := hide True.intro; have HBx := hide ((Below.refl _ _).drew.trans hB10); clear hB10)
        | (go_at_call 8; refine (num_st _ _).mono ?_; rintro _ _ ⟨rfl, rfl⟩) | fail)
      have HLV11 := hide (HLV9.out.below (fun s => gmem_o g s) HBy.out)
      have HA11 := hide (HA9.out.turned (Turned.of_below (S := fun _ => False) HBy.out) (fun _ _ => id))
      have HB11 := hide (HB9.out.trans (HBy.out.mono HB9.out.size))
      have hs11 := HBy.out.size
      go_wp2
      go_roundg gq
      case measure => omega
      case rel => exact ⟨k + 1, x, S, _, _, _, _, [], by omega, by go_num, ⟨_, _, rfl⟩, Nat.zero_le _, HLV11, HTht, HA11, hide (fun _ => rfl), HB11, by omega⟩
    · obtain ⟨-, qb, qo, rfl, -⟩ := bys_block (Bys.of_owns HA9.out.own) (List.length_pos_iff.2 hL0)
      have hcap := owns_cap HA9.out.own
      have hbA := Bys.of_owns HA9.out.own
      have hle : S.l.length ≤ L.length := by omega
      have hb1 : Bys w9 (.slice (some ⟨qb, qo, none⟩) S.l.length lc) S.l := by
        have := bys_cut hbA 0 S.l.length lc (by omega)
        rw [List.drop_zero, hLe, List.take_left] at this
        exact this
      have HC1 := hide hb1
      have k0 : (S.l.length : Int) ≤ (lc : Int) := by omega
      have k1 : (S.l.length : Int) ≤ (L.length : Int) := by omega
      have k2 : (L.length : Int) ≤ (lc : Int) := by omega
      have hSle : S.l.length ≤ 1048576 := by omega
      have hxle : x.out.length ≤ 1048576 := by omega
      by_cases hfull : lc = S.l.length
      · have hxo : x.out = [] := List.length_eq_zero_iff.1 (by omega)
        subst hfull
        have k5 : L.length - S.l.length = x.out.length := by omega
        have k8 : (IntKind.i64.wrap ((S.l.length : Int) + (x.out.length : Int)) != (L.length : Int)) = false := by rw [hlen, show IntKind.i64.wrap (L.length : Int) = (L.length : Int) by rw [IntKind.wrap_i64]; omega]; simp
        have k6 : ((S.l.length : Int) + (x.out.length : Int) != (L.length : Int)) = false := by rw [hlen]; simp
        have k7 : ((S.l.length : Int) + (x.out.length : Int) == (L.length : Int)) = true := by rw [hlen]; simp
        have hb2 : Bys w9 (.slice (some ⟨qb, qo, none⟩) x.out.length 0) x.out := by rw [hxo]; exact .inr (.inl ⟨_, _, rfl, rfl⟩)
        clear hxo
        have HC2 := hide hb2
        clear hLe hb1 hbA hb2 hlen
        have HK := hide (fun (W : World) (hW : Below w9.heap.size w9 W) => (show W.cell? ⟨gs, 4, none⟩ = some (.slice oa9 x.out.length oc9) from (hW.cell (World.block_lt_of_cell? w9 _ c4)).trans c4))
        clear c4
        go_wp2_with fail
        go_region_held3 (fun W => W.cell? ⟨gs, 4, none⟩ = some (.slice oa9 x.out.length oc9)) (first | exact HK.out _ HBy.out | exact HK.out _ HBx.out | exact HK.out _ (Below.refl _ _).drew) (first
          | (go_at_call 12; have := HS1; refine (same_any _ _ x.out w10 (Ho9.out.below HBx.out) (HC2.out.below HBx.out) (by unfold maxLen; omega)).mono ?_; rintro _ w11 ⟨rfl, hB11⟩; have HBy := hide (HBx.out.trans (hB11.mono HBx.out.size)); clear hB11)
          | (go_at_call 12; refine (same_any _ _ S.l _ (Hy9.out.below (Below.refl _ _).drew) (HC1.out.below (Below.refl _ _).drew) (by unfold maxLen; omega)).mono ?_; rintro _ w10 ⟨rfl, hB10⟩; have HS1 := hide True.intro; have HBx := hide ((Below.refl _ _).drew.trans hB10); clear hB10)
          | (go_at_call 8; refine (num_st _ _).mono ?_; rintro _ _ ⟨rfl, rfl⟩) | fail)
        have HLV11 := hide (HLV9.out.below (fun s => gmem_o g s) HBy.out)
        have HA11 := hide (HA9.out.turned (Turned.of_below (S := fun _ => False) HBy.out) (fun _ _ => id))
        have HB11 := hide (HB9.out.trans (HBy.out.mono HB9.out.size))
        have hs11 := HBy.out.size
        go_wp2
        go_roundg gq
        case measure => omega
        case rel => exact ⟨k + 1, x, S, _, _, _, _, _, by omega, by go_num, ⟨_, _, rfl⟩, by omega, HLV11, HTht, HA11, HNil, HB11, by omega⟩
      · have k3 : (S.l.length : Int) < (lc : Int) := by omega
        have k4 : ¬ lc = S.l.length := hfull
        have k5 : L.length - S.l.length = x.out.length := by omega
        have k8 : (IntKind.i64.wrap ((S.l.length : Int) + (x.out.length : Int)) != (L.length : Int)) = false := by rw [hlen, show IntKind.i64.wrap (L.length : Int) = (L.length : Int) by rw [IntKind.wrap_i64]; omega]; simp
        have k6 : ((S.l.length : Int) + (x.out.length : Int) != (L.length : Int)) = false := by rw [hlen]; simp
        have k7 : ((S.l.length : Int) + (x.out.length : Int) == (L.length : Int)) = true := by rw [hlen]; simp
        have hb2 : Bys w9 (.slice (some ⟨qb, qo + S.l.length, none⟩) x.out.length (lc - S.l.length)) x.out := by
          have := bys_cut hbA S.l.length x.out.length (lc - S.l.length) (by omega)
          rw [hLe, List.drop_left, List.take_length] at this
          exact this
        have HC2 := hide hb2
        clear hLe hb1 hbA hb2 hlen
        have HK := hide (fun (W : World) (hW : Below w9.heap.size w9 W) => (show W.cell? ⟨gs, 4, none⟩ = some (.slice oa9 x.out.length oc9) from (hW.cell (World.block_lt_of_cell? w9 _ c4)).trans c4))
        clear c4
        go_wp2_with fail
        go_region_held3 (fun W => W.cell? ⟨gs, 4, none⟩ = some (.slice oa9 x.out.length oc9)) (first | exact HK.out _ HBy.out | exact HK.out _ HBx.out | exact HK.out _ (Below.refl _ _).drew) (first
          | (go_at_call 12; have := HS1; refine (same_any _ _ x.out w10 (Ho9.out.below HBx.out) (HC2.out.below HBx.out) (by unfold maxLen; omega)).mono ?_; rintro _ w11 ⟨rfl, hB11⟩; have HBy := hide (HBx.out.trans (hB11.mono HBx.out.size)); clear hB11)
          | (go_at_call 12; refine (same_any _ _ S.l _ (Hy9.out.below (Below.refl _ _).drew) (HC1.out.below (Below.refl _ _).drew) (by unfold maxLen; omega)).mono ?_; rintro _ w10 ⟨rfl, hB10⟩; have HS1 := hide True.intro; have HBx := hide ((Below.refl _ _).drew.trans hB10); clear hB10)
          | (go_at_call 8; refine (num_st _ _).mono ?_; rintro _ _ ⟨rfl, rfl⟩) | fail)
        have HLV11 := hide (HLV9.out.below (fun s => gmem_o g s) HBy.out)
        have HA11 := hide (HA9.out.turned (Turned.of_below (S := fun _ => False) HBy.out) (fun _ _ => id))
        have HB11 := hide (HB9.out.trans (HBy.out.mono HB9.out.size))
        have hs11 := HBy.out.size
        go_wp2
        go_roundg gq
        case measure => omega
        case rel => exact ⟨k + 1, x, S, _, _, _, _, _, by omega, by go_num, ⟨_, _, rfl⟩, by omega, HLV11, HTht, HA11, HNil, HB11, by omega⟩
end Go.Proofs.Ytbffnamdpmjfnaa

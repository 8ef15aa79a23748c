/- What the proof stands on, part 20: the contracts of the program's calls that it reaches. -/
import Derived.Test.YtejcfhjhjplcnaaGreatKM19
import Derived.BigRegionIn
import Derived.Deep.LoopGhost
/- The law's examples of tables; SameInts. -/
namespace Go.Proofs.YtejcfhjhjplcnaaGreat
open Go.RowKit Go.Maps

def Nums (W : World) (v : Value) (l : List Int) : Prop := ∃ a c, v = .slice a l.length c ∧ (0 < l.length → ∃ b off, a = some ⟨b, off, none⟩ ∧ ∀ j, j < l.length → W.cell? ⟨b, off + j, none⟩ = some (.int .i64 (l.getD j 0)))
theorem Nums.below {W W' : World} {v : Value} {l : List Int} (h : Nums W v l) (hB : Below W.heap.size W W') : Nums W' v l := by
  obtain ⟨a, c, rfl, h⟩ := h
  refine ⟨a, c, rfl, fun h0 => ?_⟩
  obtain ⟨b, off, rfl, hc⟩ := h h0
  exact ⟨b, off, rfl, fun j hj => (hB.cell (p := ⟨b, off + j, none⟩) (World.block_lt_of_cell? W _ (hc j hj))).trans (hc j hj)⟩
theorem Nums.of_owns {W : World} {B : Nat} {v : Value} {l : List Nat} (h : W.ownsRow B 3 1 v l.length (ivs l)) : Nums W v (l.map fun i : Nat => (i : Int)) := by
  obtain ⟨a, c, rfl⟩ := owns_slice h
  refine ⟨a, c, by simp, fun h0 => ?_⟩
  rw [List.length_map] at h0
  obtain ⟨b, rfl, _⟩ := ints_cell h h0 (ivs_at l 0 h0)
  refine ⟨b, 0, rfl, fun j hj => ?_⟩
  rw [List.length_map] at hj
  obtain ⟨b', e, hc⟩ := ints_cell h hj (ivs_at l j hj)
  cases e
  rw [Nat.zero_add, hc]
  simp [hj]
set_option maxRecDepth 100000 in
set_option maxHeartbeats 2000000 in
theorem sameInts_any (x y : Value) (l : List Int) (w : World) (hx : Nums w x l) (hy : Nums w y l) (hl : l.length ≤ 9223372036854775807) :
    Calls Tryz.prog 23 #[x, y] w fun e w' => e = .returned (.bool true) ∧ Below w.heap.size w w' := by
  obtain ⟨xa, xc, rfl, hx⟩ := hx
  obtain ⟨ya, yc, rfl, hy⟩ := hy
  have HX := hide hx
  have HY := hide hy
  clear hx hy
  go_enter Tryz.func23, Tryz.ntmps23
  go_wp2
  go_loopw [5] (fun i wr => ∃ (k : Nat), k ≤ l.length ∧ i = .int .i64 k ∧ ∃ q, wr = w.drewN q) (fun i _ => l.length - (intOf i).toNat)
  case atStart => exact ⟨0, Nat.zero_le _, rfl, 0, rfl⟩
  case round =>
    obtain ⟨k, hk, rfl, q, rfl⟩ := hrel
    by_cases hlt : k < l.length
    · obtain ⟨b1, o1, rfl, hc1⟩ := HX.out (by omega)
      obtain ⟨b2, o2, rfl, hc2⟩ := HY.out (by omega)
      have g1 := hc1 k hlt
      have g2 := hc2 k hlt
      clear hc1 hc2 HX HY
      have hk1 : (0 : Int) ≤ (k : Int) := by omega
      have hk2 : (k : Int) < (l.length : Int) := by omega
      generalize l.getD k 0 = x at g1 g2
      go_wp2
      go_quiet (fail)
      go_wp2
      go_roundw
      case rel => exact ⟨k + 1, by omega, by go_num, _, rfl⟩
      case measure => simp [intOf]; omega
    · go_wp2
      go_ret
      exact ⟨rfl, below_drewN (Below.refl _ _) _⟩
theorem tnum_is (x : Int) (w : World) : Calls Tryz.prog 16 #[.int .i64 x] w fun e w' => e = .returned (.int .i64 x) ∧ w = w' := by
  go_enter Tryz.func16, Tryz.ntmps16
  go_wp2
  go_ret
  exact ⟨rfl, rfl⟩
def xa0 : KS := KS.new [(⟨#[97]⟩, []), (⟨#[98]⟩, [])] [] []
def xa1 : Int × Int × TS := (⟨xa0, fun _ => 0, fun _ => false⟩ : TS).open ⟨#[97]⟩ 1
def xa2 : Int × Int × TS := xa1.2.2.dup 0
def xa3 : Int × TS := xa2.2.2.close 0
def xa4 : Int × Int × TS := xa3.2.open ⟨#[98]⟩ 1
def xa5 : Int × TS := xa4.2.2.dupTo 1 5
def xa6 : Int × TS := xa5.2.mark 1 true
def xa7 : KS × (Nat → Int) := xa6.2.fork 64
theorem xac : checkE [(⟨#[97]⟩, []), (⟨#[98]⟩, [])] [] [] = 0 := by rfl
theorem xa1_is : xa1.1 = 0 ∧ xa1.2.1 = 0 ∧ xa1.2.2.K.next = 2 := by constructor; · kernel_rfl
                                                                    constructor <;> kernel_rfl
theorem xa2_is : xa2.1 = 1 ∧ xa2.2.1 = 0 := by constructor <;> kernel_rfl
theorem xa3_is : xa3.1 = 0 ∧ xa3.2.K.next = 2 := by constructor <;> kernel_rfl
theorem xa4_is : xa4.1 = 0 ∧ xa4.2.1 = 0 := by constructor <;> kernel_rfl
theorem xa5_is : xa5.1 = 0 := by kernel_rfl
theorem xa6_is : xa6.1 = 0 := by kernel_rfl
theorem xa7_is : useds xa7.2 64 = [0, 5] := by kernel_rfl
theorem two_named {W : World} {g : Nat} {n1 n2 : ByteArray} (h0 : W.heap[g]? = some (.cells #[.string n1, .slice none 0 0, .string n2, .slice none 0 0] 119 (0, 0))) (hs1 : n1.size ≤ maxLen) (hs2 : n2.size ≤ maxLen) : Nms W (.slice (some ⟨g, 0, none⟩) 2 2) [(n1, []), (n2, [])] := by
  refine ⟨_, _, rfl, Nat.le_refl _, fun _ => ⟨g, 0, rfl, fun j hj => ?_⟩⟩
  have : j = 0 ∨ j = 1 := by simp at hj; omega
  rcases this with rfl | rfl
  · exact ⟨none, 0, by rw [cell_of_row _ _ _ _ _ _ h0]; rfl, by rw [cell_of_row _ _ _ _ _ _ h0]; rfl, .inl ⟨rfl, rfl⟩, Nat.le_refl _, hs1⟩
  · exact ⟨none, 0, by rw [cell_of_row _ _ _ _ _ _ h0]; rfl, by rw [cell_of_row _ _ _ _ _ _ h0]; rfl, .inl ⟨rfl, rfl⟩, Nat.le_refl _, hs2⟩
set_option maxRecDepth 100000 in
set_option maxHeartbeats 4000000 in
theorem talive_any (w : World) : Calls Tryz.prog 17 #[] w fun e w' => e = .returned (.bool true) ∧ Below w.heap.size w w' := by
  have hB0 := recv_below w (Obj.cells #[.string ⟨#[97]⟩, .slice none 0 0, .string ⟨#[98]⟩, .slice none 0 0] 119)
  have hN := two_named (heap_alloc_new w (Obj.cells #[.string ⟨#[97]⟩, .slice none 0 0, .string ⟨#[98]⟩, .slice none 0 0] 119)) (show (⟨#[97]⟩ : ByteArray).size ≤ maxLen by decide) (show (⟨#[98]⟩ : ByteArray).size ≤ maxLen by decide)
  have HN := hide (knew_good (some ⟨w.heap.size, 0, none⟩) none none 2 0 0 [(⟨#[97]⟩, []), (⟨#[98]⟩, [])] [] [] _ hN (no_typed _) (.inl ⟨rfl, rfl⟩) (by decide) (by decide) (by decide) xac)
  have HB0 := hide hB0
  clear hB0 hN
  go_enter Tryz.func17, Tryz.ntmps17
  go_wp2_with fail
  refine HN.out.mono ?_
  rintro e w1 ⟨kb, rfl, hK, hB⟩
  have HB1 := hide (HB0.out.trans (hB.mono HB0.out.size))
  have H0 := hide ((TM.make (B := w.heap.size) hK (fun k e => Nat.le_trans HB0.out.size e)).new)
  clear hK hB
  go_wp2_with fail
  refine H0.out.mono ?_
  rintro e w2 ⟨t, rfl, hM, hB, -⟩
  have HB2 := hide (HB1.out.trans hB)
  have H1 := hide (TM.open (L1 := []) (L2 := []) hM ⟨#[97]⟩ 1 (by decide) (by show (1 : Nat) < 9223372036854775807; decide) xa1 rfl)
  rw [xa1_is.1, xa1_is.2.1] at H1
  clear hM hB
  go_wp2_with (first | (go_at_call 16; refine (tnum_is _ _).mono ?_; rintro _ _ ⟨rfl, rfl⟩) | fail)
  refine H1.out.mono ?_
  rintro e w3 ⟨rfl, hM, hB, -⟩
  have HB3 := hide (HB2.out.trans hB)
  have H2 := hide (TM.dup (L1 := []) (L2 := []) hM 0 xa2 rfl)
  rw [xa2_is.1, xa2_is.2] at H2
  clear hM hB
  go_wp2_with (first | (go_at_call 16; refine (tnum_is _ _).mono ?_; rintro _ _ ⟨rfl, rfl⟩) | fail)
  refine H2.out.mono ?_
  rintro e w4 ⟨rfl, hM, hB, -⟩
  have HB4 := hide (HB3.out.trans hB)
  have H3 := hide (TM.close (L1 := []) (L2 := []) hM 0 xa3 rfl)
  rw [xa3_is.1] at H3
  clear hM hB
  go_wp2_with (first | (go_at_call 16; refine (tnum_is _ _).mono ?_; rintro _ _ ⟨rfl, rfl⟩) | fail)
  refine H3.out.mono ?_
  rintro e w5 ⟨rfl, hM, hB, -⟩
  have HB5 := hide (HB4.out.trans hB)
  have H4 := hide (TM.open (L1 := []) (L2 := []) hM ⟨#[98]⟩ 1 (by decide) (by rw [xa3_is.2]; decide) xa4 rfl)
  rw [xa4_is.1, xa4_is.2] at H4
  clear hM hB
  go_wp2_with (first | (go_at_call 16; refine (tnum_is _ _).mono ?_; rintro _ _ ⟨rfl, rfl⟩) | fail)
  refine H4.out.mono ?_
  rintro e w6 ⟨rfl, hM, hB, -⟩
  have HB6 := hide (HB5.out.trans hB)
  have H5 := hide (TM.dupTo (L1 := []) (L2 := []) hM 1 5 xa5 rfl)
  rw [xa5_is] at H5
  clear hM hB
  go_wp2_with (first | (go_at_call 16; refine (tnum_is _ _).mono ?_; rintro _ _ ⟨rfl, rfl⟩) | fail)
  refine H5.out.mono ?_
  rintro e w7 ⟨rfl, hM, hB, -⟩
  have HB7 := hide (HB6.out.trans hB)
  have H6 := hide (TM.mark (L1 := []) (L2 := []) hM 1 true xa6 rfl)
  rw [xa6_is] at H6
  clear hM hB
  go_wp2_with (first | (go_at_call 16; refine (tnum_is _ _).mono ?_; rintro _ _ ⟨rfl, rfl⟩) | fail)
  refine H6.out.mono ?_
  rintro e w8 ⟨rfl, hM, hB, -⟩
  have HB8 := hide (HB7.out.trans hB)
  have H7 := hide (TM.fork (L1 := []) (L2 := []) hM xa7 rfl)
  clear hM hB
  go_wp2_with (first | (go_at_call 16; refine (tnum_is _ _).mono ?_; rintro _ _ ⟨rfl, rfl⟩) | fail)
  refine H7.out.mono ?_
  rintro e w9 ⟨c, rfl, hM, hB, -⟩
  have HB9 := hide (HB8.out.trans hB)
  have H8 := hide (TM.list hM (x := ⟨c, xa7.2, fun _ => false⟩) (by simp) [0, 5] xa7_is)
  clear hM hB
  go_wp2_with (first | (go_at_call 16; refine (tnum_is _ _).mono ?_; rintro _ _ ⟨rfl, rfl⟩) | fail)
  refine H8.out.mono ?_
  rintro e w10 ⟨v, rfl, hO, hB⟩
  obtain ⟨va, vc, rfl⟩ := owns_slice hO
  have HB10 := hide (HB9.out.trans (hB.mono HB9.out.size))
  have hBl := recv_below w10 (Obj.cells #[.int .i64 0, .int .i64 5] 3)
  have hN1 := (Nums.of_owns hO).below hBl
  have hN2 : Nums (w10.alloc (Obj.cells #[.int .i64 0, .int .i64 5] 3)) (.slice (some ⟨w10.heap.size, 0, none⟩) 2 2) (([0, 5] : List Nat).map fun i : Nat => (i : Int)) := by
    refine ⟨_, _, rfl, fun _ => ⟨w10.heap.size, 0, rfl, fun j hj => ?_⟩⟩
    have : j = 0 ∨ j = 1 := by simp at hj; omega
    rcases this with rfl | rfl <;> (rw [cell_of_row _ _ _ _ _ _ (heap_alloc_new w10 _)]; rfl)
  have HSm := hide (sameInts_any _ _ _ _ hN1 hN2 (by decide))
  have HB11 := hide (HB10.out.trans (hBl.mono HB10.out.size))
  clear hO hB hBl hN1 hN2
  simp only [List.length_cons, List.length_nil, Nat.zero_add, Nat.reduceAdd] at *
  go_wp2_with (first | (go_at_call 23; refine HSm.out.mono ?_; rintro _ w12 ⟨rfl, hB12⟩) | fail)
  go_ret
  exact ⟨rfl, HB11.out.trans (hB12.mono HB11.out.size)⟩
end Go.Proofs.YtejcfhjhjplcnaaGreat

/- A table's calls: Pipe. -/
namespace Go.Proofs.YtejcfhjhjplcnaaGreat
open Go.RowKit Go.Shelf Go.Maps

attribute [local go_sem] Oper.semAt_some

def TS.pipe (S : TS) : Int × Int × Int × TS := match frees S.ds 64 with
  | x :: y :: _ => if S.K.pipe.2.2.1 = 0 then ((x : Int), (y : Int), 0, ⟨S.K.pipe.2.2.2, tset (tset S.ds x S.K.pipe.1) y S.K.pipe.2.1, tset (tset S.ms x false) y false⟩) else (0, 0, S.K.pipe.2.2.1, ⟨S.K.pipe.2.2.2, S.ds, S.ms⟩)
  | _ => (0, 0, 31, S)
def EndsAt (W : World) (E : Nat) (pre : List Nat) : Prop := ∃ x0 x1 : Int, W.heap[E]? = some (.cells #[.int .i64 x0, .int .i64 x1] 292 (0, 0)) ∧ (∀ a : Nat, pre[0]? = some a → x0 = (a : Int)) ∧ (∀ a : Nat, pre[1]? = some a → x1 = (a : Int))
theorem EndsAt.kept {W W' : World} {row : Option Nat} {E : Nat} {pre : List Nat} (h : EndsAt W E pre) (hg : W.grownBy W' row) (hr : ∀ r, row = some r → ∃ o : Obj, W.heap[r]? = some o ∧ o.isCells = false) : EndsAt W' E pre := by
  obtain ⟨x0, x1, h0, h1⟩ := h
  refine ⟨x0, x1, (hg.block E (Array.getElem?_eq_some_iff.1 h0).1 (fun e => ?_)).trans h0, h1⟩
  obtain ⟨o, ho, hc⟩ := hr E e.symm
  rw [h0] at ho
  cases ho
  cases hc
theorem far_two {W : World} {p q r : Addr} {u v : Value} (h1 : p.block ≠ r.block) (h2 : q.block ≠ r.block) : ((W.setCell p u).setCell q v).cell? r = W.cell? r :=
  (World.cell?_setCell_far _ _ _ _ h2).trans (World.cell?_setCell_far _ _ _ _ h1)
theorem box_far {W : World} {B B' j : Nat} {t : TypeId} {v u : Value} (h : Boxed W B t v) (hne : B ≠ B') : Boxed (W.setCell ⟨B', j, none⟩ u) B t v := by
  unfold Boxed at h ⊢
  rw [Below.heap_setCell _ _ _ _ hne]
  exact h
theorem pipe_i64 {K : KS} (h : K.next < 9223372036854775806) : I64 K.pipe.1 ∧ I64 K.pipe.2.1 := by
  unfold KS.pipe
  split
  · exact ⟨(⟨by decide, by decide⟩ : I64 0), (⟨by decide, by decide⟩ : I64 0)⟩
  · exact ⟨⟨by show (-9223372036854775808 : Int) ≤ (K.next : Int); omega, by show (K.next : Int) ≤ 9223372036854775807; omega⟩, ⟨by show (-9223372036854775808 : Int) ≤ ((K.next + 1 : Nat) : Int); omega, by show ((K.next + 1 : Nat) : Int) ≤ 9223372036854775807; omega⟩⟩
theorem TStep.mark {w W w5 : World} {O : Nat → Prop} {t kb D : Nat} {S' : TS} (hB : Below w.heap.size w W) (h : TStep W O t kb S' w5) (hD : D < W.heap.size) (hw : w.heap.size ≤ D) (hO : ¬ O D) (ht : t < w.heap.size) (o : Obj) : TStep w O t kb S' (w5.putObj D o) := by
  obtain ⟨O5, a1, a2, a3⟩ := h
  have T : Turned (fun k => k = D) w5 (w5.putObj D o) := (Turned.refl _ w5).grown (grownBy_putObj' w5 D o) (fun k e => .inl (by cases e; rfl))
  have hn : ¬ O5 D := fun e => by
    rcases a2 D e with e | e
    · exact hO e
    · omega
  exact ⟨O5, ⟨a1.k.keep (fun k hk hl => T.block k hl (fun e => hn (e ▸ hk))) T.size, a1.tb.turned T (by omega), a1.apart⟩, fun k e => (a2 k e).imp id (fun e => Nat.le_trans hB.size e), ((Turned.of_below hB).trans a3 (fun _ _ e => e)).trans T (fun k hk e => by subst e; omega)⟩
theorem in_cut {F : Fence} {n : Nat} {P : Program} {c : Code} {Q : Exit → Act → World → Prop} {a : Act} {w : World} (A : Act) (W : World) (h : c.wpIn F n P (Exit.then (fun a' w' => a' = A ∧ w' = W) (fun _ _ _ => False)) a w) (hk : Q .normal A W) : c.wpIn F n P Q a w :=
  wpIn_mono h (fun e a' w' hq => by
    cases e with
    | normal => obtain ⟨rfl, rfl⟩ := hq; exact hk
    | _ => exact hq.elim)
theorem pipe_few {S : TS} (h : (frees S.ds 64).length ≤ 1) : S.pipe = (0, 0, 31, S) := by
  unfold TS.pipe
  split
  · rename_i e; rw [e] at h; simp at h
  · rfl
theorem pipe_two {S : TS} {x y : Nat} {r : List Nat} (h : frees S.ds 64 = x :: y :: r) : S.pipe = if S.K.pipe.2.2.1 = 0 then ((x : Int), (y : Int), 0, ⟨S.K.pipe.2.2.2, tset (tset S.ds x S.K.pipe.1) y S.K.pipe.2.1, tset (tset S.ms x false) y false⟩) else (0, 0, S.K.pipe.2.2.1, ⟨S.K.pipe.2.2.2, S.ds, S.ms⟩) := by
  unfold TS.pipe
  rw [h]
set_option maxRecDepth 100000 in
set_option maxHeartbeats 4000000 in
theorem tpipe_in (f : Nat) (hn : 3 ≤ f) (t kb : Nat) (O : Nat → Prop) (S : TS) (w : World) (h : TW w O t kb S) (hO : ∀ k, O k → k < w.heap.size) (hl : S.K.next + 1 < 9223372036854775807) :
    CallsIn Fence.wide f Tryz.prog 97 #[.pointer (some ⟨t, 0, none⟩)] w fun e w' => e = .returned (.tuple #[.int .i64 S.pipe.1, .int .i64 S.pipe.2.1, .int .i64 S.pipe.2.2.1]) ∧ TStep w O t kb S.pipe.2.2.2 w' := by
  have h1 : 1 ≤ f := by omega
  refine callsIn_of_wp_marks Tryz.func97 rfl trivial ?_ rfl
  simp only [Tryz.ntmps97, List.size_toArray, List.length_cons, List.length_nil, Nat.reduceAdd, Nat.reduceSub, Array.replicate_succ, Array.replicate_zero, List.push_toArray, List.append_toArray, List.nil_append, List.cons_append]
  have hmx : Tryz.prog.follows .mixedOrders = true := by kernel_rfl
  have hk := h.tb.ck
  gi_wp2_with (first | (refine ⟨trivial, ?_⟩; gi_at_call 95; refine (callsIn_wide.2 (tmade_any t kb _ hk)).mono ?_; rintro e w' ⟨rfl, rfl⟩) | (refine ⟨trivial, ?_⟩; gi_at_call 192; refine (free_in (f - 1) _ _).mono ?_; rintro e w' ⟨rfl, rfl⟩))
  have hB1 : Below w.heap.size w (((w.alloc (.cells #[.int .i64 0, .int .i64 0] 292)).alloc (.cells #[.int .i64 0] 3)).alloc (.cells #[.pointer (some ⟨t, 0, none⟩)] 47)) := (((Below.refl _ w).alloc (Nat.le_refl _) _).alloc (by simp) _).alloc (by simp; omega) _
  have hsz : (((w.alloc (.cells #[.int .i64 0, .int .i64 0] 292)).alloc (.cells #[.int .i64 0] 3)).alloc (.cells #[.pointer (some ⟨t, 0, none⟩)] 47)).heap.size = w.heap.size + 3 := by simp
  have bT := Boxed.new ((w.alloc (.cells #[.int .i64 0, .int .i64 0] 292)).alloc (.cells #[.int .i64 0] 3)) 47 (.pointer (some ⟨t, 0, none⟩))
  have bF := (Boxed.new (w.alloc (.cells #[.int .i64 0, .int .i64 0] 292)) 3 (.int .i64 0)).alloc (.cells #[.pointer (some ⟨t, 0, none⟩)] 47)
  simp only [World.size_alloc] at bT bF
  have hE0 : EndsAt (((w.alloc (.cells #[.int .i64 0, .int .i64 0] 292)).alloc (.cells #[.int .i64 0] 3)).alloc (.cells #[.pointer (some ⟨t, 0, none⟩)] 47)) w.heap.size [] := by
    refine ⟨0, 0, ?_, fun a e => absurd e (by simp), fun a e => absurd e (by simp)⟩
    rw [Below.heap_alloc _ _ _ (by simp; omega), Below.heap_alloc _ _ _ (by simp)]
    exact heap_alloc_new w _
  have hs' := h.tb.sl.below hB1
  have htl := h.tb.lt
  obtain ⟨W1, hW1⟩ : ∃ W1, W1 = (((w.alloc (.cells #[.int .i64 0, .int .i64 0] 292)).alloc (.cells #[.int .i64 0] 3)).alloc (.cells #[.pointer (some ⟨t, 0, none⟩)] 47)) := ⟨_, rfl⟩
  rw [← hW1] at hB1 hsz bT bF hE0 hs' ⊢
  clear hW1
  refine wpIn_rangeFunc_ownF rfl h1 (gf := 219) (lb := #[.pointer (some ⟨w.heap.size + 2, 0, none⟩)]) rfl trivial (enters_of Tryz.func219 (by kernel_rfl) rfl)
    (free_stops (f - 1) (by omega) (w.heap.size + 2) t S.ds _ (by rw [hsz]; omega) bT.cell hs') (fun h1 h2 => ⟨h2.1.trans h1.1, fun h => h2.2 (h1.2 h)⟩) (fun W l o o' hl _ _ _ => ⟨tcell_putObj (by rw [hsz] at hl; omega), fun h i hi => (tcell_putObj (by rw [hsz] at hl; omega)).trans (h i hi)⟩) (Below.refl _ _) (fun _ => rfl)
    (fun (pre : List Nat) W => (pre.length ≤ 1 ∧ EndsAt W w.heap.size pre ∧ Boxed W (w.heap.size + 1) 3 (.int .i64 pre.length)) ∧ Below w.heap.size w W)
    (fun c (pre : List Nat) W => (c = .exit 0 ∧ pre.length = 2 ∧ EndsAt W w.heap.size pre ∧ Boxed W (w.heap.size + 1) 3 (.int .i64 2)) ∧ Below w.heap.size w W)
    ?hI ?hIx ⟨⟨Nat.zero_le _, hE0, bF⟩, hB1⟩
    (fun x => { tmps := #[.pointer (some ⟨t, 0, none⟩), undef, .int .i64 0, .int .i64 0, .int .i64 0, .pointer (some ⟨w.heap.size, 0, none⟩), .pointer (some ⟨w.heap.size + 1, 0, none⟩), .int .i64 (x : Int), undef, undef, undef, .pointer (some ⟨t, 0, none⟩), .bool true, .bool false, .pointer (some ⟨t, 0, none⟩), .func (.func 219) #[] #[.pointer (some ⟨w.heap.size + 2, 0, none⟩)], .int .i64 (x : Int), undef, undef, undef, undef, undef, undef, undef, undef, undef, undef, undef, undef, undef, undef, undef, undef, undef, undef, undef, undef, undef, undef, undef, undef, undef, undef, undef, undef, undef, undef, undef, undef, undef, undef, undef, undef, undef, undef, undef, undef, undef], defers := [] }) ?assign ?body ?done ?stop
  case hI => exact fun s W W' row ⟨⟨e, b1, b2⟩, hB⟩ hg hr => ⟨⟨e, b1.kept hg (fun r e => (hr r e).2), Own.from (boxed_own _ _ (fun s : List Nat => .int .i64 s.length)) _ s W W' row b2 hg hr⟩, ownFrom_below (Nat.le_refl _) (by rw [hsz]; omega) s W W' row hB hg hr⟩
  case hIx => exact fun c s W W' row ⟨⟨e, e2, b1, b2⟩, hB⟩ hg hr => ⟨⟨e, e2, b1.kept hg (fun r e => (hr r e).2), Own.from (boxed_own _ _ (fun _ => .int .i64 2)) _ s W W' row b2 hg hr⟩, ownFrom_below (Nat.le_refl _) (by rw [hsz]; omega) s W W' row hB hg hr⟩
  case assign =>
    intro l x W K hK
    gi_wp2
    exact hK
  case body =>
    rintro l pre x W ⟨⟨hle, ⟨x0, x1, hE, e0, e1⟩, bF'⟩, hB⟩ _
    have q0 : W.cell? ⟨w.heap.size, 0, none⟩ = some (.int .i64 x0) := by rw [cell_of_row _ _ _ _ _ _ hE]; rfl
    have q1 : W.cell? ⟨w.heap.size, 1, none⟩ = some (.int .i64 x1) := by rw [cell_of_row _ _ _ _ _ _ hE]; rfl
    have g0 : W.frozen? ⟨w.heap.size, 0, none⟩ = false := frozen_of_row W _ 0 _ _ hE
    have g1 : W.frozen? ⟨w.heap.size, 1, none⟩ = false := frozen_of_row W _ 1 _ _ hE
    have hEl : w.heap.size < W.heap.size := (Array.getElem?_eq_some_iff.1 hE).1
    have HE := hide hE
    have HB := hide hB
    have He0 := hide e0
    clear hE hB e0 e1
    rcases pre with _ | ⟨a, _ | ⟨b, r⟩⟩
    · have bF'' : Boxed W (w.heap.size + 1) 3 (.int .i64 0) := bF'
      clear bF'
      have kF := bF''.cell
      have fF := bF''.frozen
      have HF := hide bF''
      clear bF''
      gi_wp2
      have hb : Boxed ((W.setCell ⟨w.heap.size, 0, none⟩ (.int .i64 (x : Int))).setCell ⟨w.heap.size + 1, 0, none⟩ (.int .i64 1)) (w.heap.size + 1) 3 (.int .i64 1) := Boxed.set (.int .i64 1) (box_far HF.out (by omega))
      have hEn : EndsAt ((W.setCell ⟨w.heap.size, 0, none⟩ (.int .i64 (x : Int))).setCell ⟨w.heap.size + 1, 0, none⟩ (.int .i64 1)) w.heap.size [x] := by
        refine ⟨(x : Int), x1, ?_, fun a e => by simp at e; rw [e], fun a e => absurd e (by simp)⟩
        rw [Below.heap_setCell _ _ _ _ (show w.heap.size ≠ w.heap.size + 1 by omega)]
        exact heap_setCell_same (cur := [.int .i64 x0, .int .i64 x1]) 0 (.int .i64 x) HE.out
      have hBl : Below w.heap.size w ((W.setCell ⟨w.heap.size, 0, none⟩ (.int .i64 (x : Int))).setCell ⟨w.heap.size + 1, 0, none⟩ (.int .i64 1)) := (HB.out.setCell (Nat.le_refl _) _).setCell (Nat.le_succ _) _
      have hFr : FreeKp (w.heap.size + 2) t S.ds W ((W.setCell ⟨w.heap.size, 0, none⟩ (.int .i64 (x : Int))).setCell ⟨w.heap.size + 1, 0, none⟩ (.int .i64 1)) := ⟨far_two (by show w.heap.size ≠ w.heap.size + 2; omega) (by show w.heap.size + 1 ≠ w.heap.size + 2; omega), fun hs i hi => (far_two (by show w.heap.size ≠ t; omega) (by show w.heap.size + 1 ≠ t; omega)).trans (hs i hi)⟩
      exact ⟨(KeepsOthers.setCell _ _ _).trans (KeepsOthers.setCell _ _ _), hFr, ⟨by simp, hEn, hb⟩, hBl⟩
    · have bF'' : Boxed W (w.heap.size + 1) 3 (.int .i64 1) := bF'
      clear bF'
      have kF := bF''.cell
      have fF := bF''.frozen
      have HF := hide bF''
      clear bF''
      gi_wp2
      have hb : Boxed ((W.setCell ⟨w.heap.size, 1, none⟩ (.int .i64 (x : Int))).setCell ⟨w.heap.size + 1, 0, none⟩ (.int .i64 2)) (w.heap.size + 1) 3 (.int .i64 2) := Boxed.set (.int .i64 2) (box_far HF.out (by omega))
      have hEn : EndsAt ((W.setCell ⟨w.heap.size, 1, none⟩ (.int .i64 (x : Int))).setCell ⟨w.heap.size + 1, 0, none⟩ (.int .i64 2)) w.heap.size [a, x] := by
        refine ⟨x0, (x : Int), ?_, fun b e => He0.out b (by simpa using e), fun b e => by simp at e; rw [e]⟩
        rw [Below.heap_setCell _ _ _ _ (show w.heap.size ≠ w.heap.size + 1 by omega)]
        exact heap_setCell_same (cur := [.int .i64 x0, .int .i64 x1]) 1 (.int .i64 x) HE.out
      have hBl : Below w.heap.size w ((W.setCell ⟨w.heap.size, 1, none⟩ (.int .i64 (x : Int))).setCell ⟨w.heap.size + 1, 0, none⟩ (.int .i64 2)) := (HB.out.setCell (Nat.le_refl _) _).setCell (Nat.le_succ _) _
      exact ⟨(KeepsOthers.setCell _ _ _).trans (KeepsOthers.setCell _ _ _), ⟨rfl, rfl, hEn, hb⟩, hBl⟩
    · simp at hle
  case done =>
    rintro D ys W hD rfl ⟨⟨hle, hE, bF'⟩, hB⟩ hK
    have HP := hide (pipe_few hle)
    have hT : TStep w O t kb S (W.putObj D (.deferred none)) := TStep.below h (hB.trans (belowK_b (w := w) (Nat.le_refl _) W D _ _ (by rw [hsz] at hD; omega) hK rfl rfl))
    have HT := hide hT
    clear hT hE h
    have kF := bF'.cell
    clear bF'
    rcases (show (frees S.ds 64).length = 0 ∨ (frees S.ds 64).length = 1 by omega) with hc | hc
    all_goals
      rw [hc] at kF
      clear hc hle
      gi_wp2
      refine ⟨by simp, .inl ⟨_, _, rfl, run_takeDeferred hK, ?_⟩⟩
      refine ⟨.tuple #[.int .i64 0, .int .i64 0, .int .i64 31], ?_, by rw [HP.out], by rw [HP.out]; exact HT.out⟩
      simp [results, Tryz.f97, go_sem]
  case stop =>
    rintro D c pre W hD hp ⟨⟨rfl, hl2, ⟨x0, x1, hE, e0, e1⟩, bF'⟩, hB⟩ hK
    obtain ⟨x, y, rfl⟩ : ∃ x y, pre = [x, y] := by
      match pre, hl2 with
      | [x, y], _ => exact ⟨x, y, rfl⟩
    obtain ⟨r, hr⟩ := hp
    have hP2 := pipe_two (S := S) (x := x) (y := y) (r := r) hr.symm
    obtain rfl := e0 x rfl
    obtain rfl := e1 y rfl
    have kF := bF'.cell
    have q0 : W.cell? ⟨w.heap.size, 0, none⟩ = some (.int .i64 x) := by rw [cell_of_row _ _ _ _ _ _ hE]; rfl
    have q1 : W.cell? ⟨w.heap.size, 1, none⟩ = some (.int .i64 y) := by rw [cell_of_row _ _ _ _ _ _ hE]; rfl
    have hW := h.below hB
    have hck := hW.tb.ck
    have HKp := hide ((callsIn_wide (n := f - 1)).2 (hW.k.pipe hl))
    have HW := hide hW
    have HB := hide hB
    have HE := hide hE
    clear hE e0 e1 hW hB
    have hx : x < 64 := by
      have : x ∈ frees S.ds 64 := by rw [← hr]; simp
      exact List.mem_range.1 (List.mem_filter.1 this).1
    have hy : y < 64 := by
      have : y ∈ frees S.ds 64 := by rw [← hr]; simp
      exact List.mem_range.1 (List.mem_filter.1 this).1
    have hI := pipe_i64 (K := S.K) (by omega)
    have HP2 := hide hP2
    have hDw : w.heap.size ≤ D := by rw [hsz] at hD; omega
    have HOD : Hid (¬ O D ∧ ¬ O w.heap.size) := hide ⟨fun e => by have := hO D e; omega, fun e => by have := hO _ e; omega⟩
    obtain ⟨v, hv⟩ : ∃ v, S.K.pipe = v := ⟨_, rfl⟩
    rw [hv] at HKp HP2 hI
    have HI := hide hI
    clear hr hP2 hs' hE0 bF bT hB1 hD hsz hO h hI hv bF' hl
    gi_wp2_with fail
    refine ⟨trivial, HKp.out.mono ?_⟩
    rintro e w5 ⟨rfl, hS⟩
    obtain ⟨O', s1, s2, hTk⟩ := id hS
    have hK5 : w5.heap[D]? = some (.deferred (some [])) := (hTk.block D (Array.getElem?_eq_some_iff.1 hK).1 HOD.out.1).trans hK
    have hE5 : w5.heap[w.heap.size]? = _ := (hTk.block w.heap.size (Array.getElem?_eq_some_iff.1 HE.out).1 HOD.out.2).trans HE.out
    have HT5 := hide (HW.out.kstep hS)
    have hDl := (Array.getElem?_eq_some_iff.1 hK).1
    clear s1 s2 hTk hS O'
    by_cases hE : v.2.2.1 = 0
    · obtain ⟨O5, a1, a2, a3⟩ := HT5.out
      have a1d := a1.below ((Below.refl _ w5).drew)
      have q0 : w5.cell? ⟨w.heap.size, 0, none⟩ = some (.int .i64 x) := by rw [cell_of_row _ _ _ _ _ _ hE5]; rfl
      have q0d : w5.drew.cell? ⟨w.heap.size, 0, none⟩ = some (.int .i64 x) := q0
      have c1 := a1.tb.sl x hx
      have c2 := a1.tb.mks x hx
      have f1 := a1.tb.soft (1 + x * 2)
      have f2 := a1.tb.soft (1 + x * 2 + 1)
      have c1d := a1d.tb.sl x hx
      have c2d := a1d.tb.mks x hx
      have f1d := a1d.tb.soft (1 + x * 2)
      have f2d := a1d.tb.soft (1 + x * 2 + 1)
      have HT6 : Hid (TStep W O t kb ⟨v.2.2.2, tset S.ds x v.1, tset S.ms x false⟩ ((w5.setCell ⟨t, 1 + x * 2, none⟩ (.int .i64 v.1)).setCell ⟨t, 1 + x * 2 + 1, none⟩ (.bool false)).drew) := hide (((a1d.put hx v.1 false HI.out.1).behind ((Below.refl _ w5).drew)).join a2 a3)
      have hK6 : ((w5.setCell ⟨t, 1 + x * 2, none⟩ (.int .i64 v.1)).setCell ⟨t, 1 + x * 2 + 1, none⟩ (.bool false)).drew.heap[D]? = some (.deferred (some [])) := by
        show ((w5.setCell _ _).setCell _ _).heap[D]? = _
        rw [Below.heap_setCell _ _ _ _ (show D ≠ t by omega), Below.heap_setCell _ _ _ _ (show D ≠ t by omega)]; exact hK5
      have hE6 : ((w5.setCell ⟨t, 1 + x * 2, none⟩ (.int .i64 v.1)).setCell ⟨t, 1 + x * 2 + 1, none⟩ (.bool false)).drew.heap[w.heap.size]? = some (.cells #[.int .i64 (x : Int), .int .i64 (y : Int)] 292 (0, 0)) := by
        show ((w5.setCell _ _).setCell _ _).heap[w.heap.size]? = _
        rw [Below.heap_setCell _ _ _ _ (show w.heap.size ≠ t by omega), Below.heap_setCell _ _ _ _ (show w.heap.size ≠ t by omega)]; exact hE5
      have HK6 := hide hK6
      have HE6 := hide hE6
      clear hK6 hE6
      have hx1 : (0 : Int) ≤ (x : Int) := by omega
      have hx2 : (x : Int) < 64 := by omega
      have HEq := hide hE
      have hE' : v.2.2.1 = 0 := hE
      simp only at c1 c2 c1d c2d
      generalize S.ds x = g1 at c1 c1d
      generalize S.ms x = g2 at c2 c2d
      have HK5 := hide hK5
      have HE5 := hide hE5
      have HKo := hide hK
      clear a1 a2 a3 a1d hE hK5 hE5 hK
      gi_wp2_with fail
      apply in_cut (W := ((w5.setCell ⟨t, 1 + x * 2, none⟩ (.int .i64 v.1)).setCell ⟨t, 1 + x * 2 + 1, none⟩ (.bool false)).drew)
      case h =>
        gi_region
        exact ⟨rfl, rfl⟩
      case hk =>
        generalize ((w5.setCell ⟨t, 1 + x * 2, none⟩ (.int .i64 v.1)).setCell ⟨t, 1 + x * 2 + 1, none⟩ (.bool false)).drew = w6 at *
        clear q0 q0d c1 c2 f1 f2 c1d c2d f1d f2d
        have hK6 := HK6.out
        have hE6 := HE6.out
        obtain ⟨O6, a1, a2, a3⟩ := HT6.out
        have a1d := a1.below ((Below.refl _ w6).drew)
        have q1 : w6.cell? ⟨w.heap.size, 1, none⟩ = some (.int .i64 y) := by rw [cell_of_row _ _ _ _ _ _ hE6]; rfl
        have q1d : w6.drew.cell? ⟨w.heap.size, 1, none⟩ = some (.int .i64 y) := q1
        have c1 := a1.tb.sl y hy
        have c2 := a1.tb.mks y hy
        have f1 := a1.tb.soft (1 + y * 2)
        have f2 := a1.tb.soft (1 + y * 2 + 1)
        have c1d := a1d.tb.sl y hy
        have c2d := a1d.tb.mks y hy
        have f1d := a1d.tb.soft (1 + y * 2)
        have f2d := a1d.tb.soft (1 + y * 2 + 1)
        have HT7 : Hid (TStep W O t kb ⟨v.2.2.2, tset (tset S.ds x v.1) y v.2.1, tset (tset S.ms x false) y false⟩ ((w6.setCell ⟨t, 1 + y * 2, none⟩ (.int .i64 v.2.1)).setCell ⟨t, 1 + y * 2 + 1, none⟩ (.bool false)).drew) := hide (((a1d.put hy v.2.1 false HI.out.2).behind ((Below.refl _ w6).drew)).join a2 a3)
        have hK7 : ((w6.setCell ⟨t, 1 + y * 2, none⟩ (.int .i64 v.2.1)).setCell ⟨t, 1 + y * 2 + 1, none⟩ (.bool false)).drew.heap[D]? = some (.deferred (some [])) := by
          show ((w6.setCell _ _).setCell _ _).heap[D]? = _
          rw [Below.heap_setCell _ _ _ _ (show D ≠ t by omega), Below.heap_setCell _ _ _ _ (show D ≠ t by omega)]; exact hK6
        have hE7 : ((w6.setCell ⟨t, 1 + y * 2, none⟩ (.int .i64 v.2.1)).setCell ⟨t, 1 + y * 2 + 1, none⟩ (.bool false)).drew.heap[w.heap.size]? = some (.cells #[.int .i64 (x : Int), .int .i64 (y : Int)] 292 (0, 0)) := by
          show ((w6.setCell _ _).setCell _ _).heap[w.heap.size]? = _
          rw [Below.heap_setCell _ _ _ _ (show w.heap.size ≠ t by omega), Below.heap_setCell _ _ _ _ (show w.heap.size ≠ t by omega)]; exact hE6
        have HK7 := hide hK7
        have HE7 := hide hE7
        clear hK6 hE6 hK7 hE7
        have hy1 : (0 : Int) ≤ (y : Int) := by omega
        have hy2 : (y : Int) < 64 := by omega
        simp only at c1 c2 c1d c2d
        generalize tset S.ds x v.1 y = g3 at c1 c1d
        generalize tset S.ms x false y = g4 at c2 c2d
        clear a1 a2 a3 a1d
        gi_wp2_with fail
        apply in_cut (W := ((w6.setCell ⟨t, 1 + y * 2, none⟩ (.int .i64 v.2.1)).setCell ⟨t, 1 + y * 2 + 1, none⟩ (.bool false)).drew)
        case h =>
          gi_region
          exact ⟨rfl, rfl⟩
        case hk =>
          generalize ((w6.setCell ⟨t, 1 + y * 2, none⟩ (.int .i64 v.2.1)).setCell ⟨t, 1 + y * 2 + 1, none⟩ (.bool false)).drew = w7 at *
          clear q1 q1d c1 c2 f1 f2 c1d c2d f1d f2d
          have hK7 := HK7.out
          have hE7 := HE7.out
          have r0 : w7.cell? ⟨w.heap.size, 0, none⟩ = some (.int .i64 x) := by rw [cell_of_row _ _ _ _ _ _ hE7]; rfl
          have r1 : w7.cell? ⟨w.heap.size, 1, none⟩ = some (.int .i64 y) := by rw [cell_of_row _ _ _ _ _ _ hE7]; rfl
          have r0d : w7.drew.cell? ⟨w.heap.size, 0, none⟩ = some (.int .i64 x) := r0
          have r1d : w7.drew.cell? ⟨w.heap.size, 1, none⟩ = some (.int .i64 y) := r1
          have hK8 : w7.drew.heap[D]? = some (.deferred (some [])) := hK7
          have HT : Hid (TStep w O t kb S.pipe.2.2.2 (w7.drew.putObj D (.deferred none)) ∧ S.pipe = ((x : Int), (y : Int), 0, ⟨v.2.2.2, tset (tset S.ds x v.1) y v.2.1, tset (tset S.ms x false) y false⟩)) := hide (by
            have e := HP2.out
            rw [if_pos HEq.out] at e
            refine ⟨?_, e⟩
            rw [e]
            obtain ⟨O7, b1, b2, b3⟩ := HT7.out
            exact TStep.mark HB.out ⟨O7, b1.below ((Below.refl _ w7).drew), b2, b3.trans (Turned.of_below (S := fun k => O k ∨ k = t) ((Below.refl _ w7).drew)) (fun _ _ e => e)⟩ hDl hDw HOD.out.1 htl _)
          gi_wp2_with fail
          apply in_cut (W := w7.drew)
          case h =>
            gi_region
            exact ⟨rfl, rfl⟩
          case hk =>
            gi_wp2_with fail
            refine ⟨by simp, .inl ⟨_, _, rfl, run_takeDeferred hK8, ?_⟩⟩
            refine ⟨.tuple #[.int .i64 x, .int .i64 y, .int .i64 0], ?_, by rw [HT.out.2], HT.out.1⟩
            simp [results, Tryz.f97, go_sem]
    · have HT : Hid (TStep w O t kb S.pipe.2.2.2 (w5.putObj D (.deferred none)) ∧ S.pipe = (0, 0, v.2.2.1, ⟨v.2.2.2, S.ds, S.ms⟩)) := hide (by
        have e := HP2.out
        rw [if_neg hE] at e
        refine ⟨?_, e⟩
        rw [e]
        exact TStep.mark HB.out HT5.out hDl hDw HOD.out.1 htl _)
      gi_wp2_with fail
      refine ⟨by simp, .inl ⟨_, _, rfl, run_takeDeferred hK5, ?_⟩⟩
      refine ⟨.tuple #[.int .i64 0, .int .i64 0, .int .i64 v.2.2.1], ?_, by rw [HT.out.2], HT.out.1⟩
      simp [results, Tryz.f97, go_sem]
theorem tpipe_any (t kb : Nat) (O : Nat → Prop) (S : TS) (w : World) (h : TW w O t kb S) (hO : ∀ k, O k → k < w.heap.size) (hl : S.K.next + 1 < 9223372036854775807) :
    Calls Tryz.prog 97 #[.pointer (some ⟨t, 0, none⟩)] w fun e w' => e = .returned (.tuple #[.int .i64 S.pipe.1, .int .i64 S.pipe.2.1, .int .i64 S.pipe.2.2.1]) ∧ TStep w O t kb S.pipe.2.2.2 w' := callsIn_wide.1 (tpipe_in 3 (Nat.le_refl _) t kb O S w h hO hl)
end Go.Proofs.YtejcfhjhjplcnaaGreat

/- The reference's table over the reference's kernel: what its block holds, and what calls leave. -/
namespace Go.Proofs.YtejcfhjhjplcnaaGreat
open Go.RowKit Go.Maps

structure RTb (W : World) (t mb : Nat) (ds : Nat → Int) (ms : Nat → Bool) : Prop where
  blk : ∃ cur : List Value, W.heap[t]? = some (.cells cur.toArray 181 (0, 0))
  ck : W.cell? ⟨t, 0, none⟩ = some (.pointer (some ⟨mb, 0, none⟩))
  sl : Slots W t ds
  mks : ∀ i, i < 64 → W.cell? ⟨t, 1 + i * 2 + 1, none⟩ = some (.bool (ms i))
theorem RTb.lt {W : World} {t kb : Nat} {ds : Nat → Int} {ms : Nat → Bool} (h : RTb W t kb ds ms) : t < W.heap.size := World.block_lt_of_cell? W _ h.ck
theorem RTb.soft {W : World} {t kb : Nat} {ds : Nat → Int} {ms : Nat → Bool} (h : RTb W t kb ds ms) (j : Nat) : W.frozen? ⟨t, j, none⟩ = false := by
  obtain ⟨cur, e⟩ := h.blk
  exact frozen_of_row W t j _ _ e
theorem RTb.keep {W W' : World} {t kb : Nat} {ds : Nat → Int} {ms : Nat → Bool} (h : RTb W t kb ds ms) (hB : W'.heap[t]? = W.heap[t]?) : RTb W' t kb ds ms :=
  ⟨by rw [hB]; exact h.blk, (tcell_same hB).trans h.ck, fun i hi => (tcell_same hB).trans (h.sl i hi), fun i hi => (tcell_same hB).trans (h.mks i hi)⟩
theorem RTb.below {W W' : World} {t kb : Nat} {ds : Nat → Int} {ms : Nat → Bool} (h : RTb W t kb ds ms) (hB : Below W.heap.size W W') : RTb W' t kb ds ms := h.keep (hB.block t h.lt)
theorem RTb.turned {S : Nat → Prop} {W W' : World} {t kb : Nat} {ds : Nat → Int} {ms : Nat → Bool} (h : RTb W t kb ds ms) (hT : Turned S W W') (hS : ¬ S t) : RTb W' t kb ds ms := h.keep (hT.block t h.lt hS)
theorem RTb.desc {W : World} {t kb : Nat} {ds : Nat → Int} {ms : Nat → Bool} (h : RTb W t kb ds ms) {i : Nat} (hi : i < 64) (d : Int) : RTb (W.setCell ⟨t, 1 + i * 2, none⟩ (.int .i64 d)) t kb (tset ds i d) ms := by
  obtain ⟨cur, e⟩ := h.blk
  refine ⟨⟨_, heap_setCell_same _ _ e⟩, ?_, fun j hj => ?_, fun j hj => ?_⟩
  · rw [toff_other (by omega)]; exact h.ck
  · by_cases hji : j = i
    · subst hji
      rw [toff_same (h.sl j hj), tset_same]
    · rw [toff_other (by omega), tset_other _ _ hji]; exact h.sl j hj
  · rw [toff_other (by omega)]; exact h.mks j hj
theorem RTb.mark {W : World} {t kb : Nat} {ds : Nat → Int} {ms : Nat → Bool} (h : RTb W t kb ds ms) {i : Nat} (hi : i < 64) (m : Bool) : RTb (W.setCell ⟨t, 1 + i * 2 + 1, none⟩ (.bool m)) t kb ds (tset ms i m) := by
  obtain ⟨cur, e⟩ := h.blk
  refine ⟨⟨_, heap_setCell_same _ _ e⟩, ?_, fun j hj => ?_, fun j hj => ?_⟩
  · rw [toff_other (by omega)]; exact h.ck
  · rw [toff_other (by omega)]; exact h.sl j hj
  · by_cases hji : j = i
    · subst hji
      rw [toff_same (h.mks j hj), tset_same]
    · rw [toff_other (by omega), tset_other _ _ hji]; exact h.mks j hj
structure RTW (w : World) (O : Nat → Prop) (t kb : Nat) (S : TS) : Prop where
  k : RAt w O kb S.K
  tb : RTb w t kb S.ds S.ms
  apart : ¬ O t
def RTStep (w : World) (O : Nat → Prop) (t kb : Nat) (S' : TS) (w' : World) : Prop := ∃ O', RTW w' O' t kb S' ∧ (∀ k, O' k → O k ∨ w.heap.size ≤ k) ∧ Turned (fun k => O k ∨ k = t) w w'
theorem RTW.below {w w' : World} {O : Nat → Prop} {t kb : Nat} {S : TS} (h : RTW w O t kb S) (hB : Below w.heap.size w w') : RTW w' O t kb S := ⟨h.k.below hB, h.tb.below hB, h.apart⟩
theorem RTStep.below {w w' : World} {O : Nat → Prop} {t kb : Nat} {S : TS} (h : RTW w O t kb S) (hB : Below w.heap.size w w') : RTStep w O t kb S w' := ⟨O, h.below hB, fun _ e => .inl e, Turned.of_below hB⟩
theorem RTStep.trans {w w1 w' : World} {O : Nat → Prop} {t kb : Nat} {S1 S' : TS} (h : RTStep w O t kb S1 w1) (h2 : ∀ O1, RTW w1 O1 t kb S1 → RTStep w1 O1 t kb S' w') : RTStep w O t kb S' w' := by
  obtain ⟨O1, a1, a2, a3⟩ := h
  obtain ⟨O2, b1, b2, b3⟩ := h2 O1 a1
  refine ⟨O2, b1, fun k e => ?_, a3.trans b3 fun k hk e => ?_⟩
  · rcases b2 k e with e | e
    · exact a2 k e
    · exact .inr (Nat.le_trans a3.size e)
  · rcases e with e | e
    · rcases a2 k e with e | e
      · exact .inl e
      · omega
    · exact .inr e
theorem RTW.kstep {w w' : World} {O : Nat → Prop} {t kb : Nat} {S : TS} {K' : KS} (h : RTW w O t kb S) (hs : RKStep w O kb K' w') : RTStep w O t kb ⟨K', S.ds, S.ms⟩ w' := by
  obtain ⟨O', a1, a2, a3⟩ := hs
  refine ⟨O', ⟨a1, h.tb.turned a3 h.apart, fun e => ?_⟩, a2, a3.mono fun k e => .inl e⟩
  have := h.tb.lt
  rcases a2 t e with e | e
  · exact h.apart e
  · omega
theorem RTW.put {w : World} {O : Nat → Prop} {t kb : Nat} {S : TS} (h : RTW w O t kb S) {i : Nat} (hi : i < 64) (d : Int) (m : Bool) :
    RTStep w O t kb ⟨S.K, tset S.ds i d, tset S.ms i m⟩ ((w.setCell ⟨t, 1 + i * 2, none⟩ (.int .i64 d)).setCell ⟨t, 1 + i * 2 + 1, none⟩ (.bool m)) := by
  have hT : Turned (fun k => k = t) w ((w.setCell ⟨t, 1 + i * 2, none⟩ (.int .i64 d)).setCell ⟨t, 1 + i * 2 + 1, none⟩ (.bool m)) := ((Turned.refl (fun k => k = t) w).set (.inl rfl)).set (.inl rfl)
  refine ⟨O, ⟨h.k.keep (fun k hO hk => hT.block k hk (fun e => h.apart (e ▸ hO))) hT.size, (h.tb.desc hi d).mark hi m, h.apart⟩, fun _ e => .inl e, hT.mono fun k e => .inr e⟩
theorem RTW.marks {w : World} {O : Nat → Prop} {t kb : Nat} {S : TS} (h : RTW w O t kb S) {i : Nat} (hi : i < 64) (m : Bool) :
    RTStep w O t kb ⟨S.K, S.ds, tset S.ms i m⟩ (w.setCell ⟨t, 1 + i * 2 + 1, none⟩ (.bool m)) := by
  have hT : Turned (fun k => k = t) w (w.setCell ⟨t, 1 + i * 2 + 1, none⟩ (.bool m)) := (Turned.refl (fun k => k = t) w).set (.inl rfl)
  refine ⟨O, ⟨h.k.keep (fun k hO hk => hT.block k hk (fun e => h.apart (e ▸ hO))) hT.size, h.tb.mark hi m, h.apart⟩, fun _ e => .inl e, hT.mono fun k e => .inr e⟩
theorem rtused_any (t kb : Nat) (S : TS) (fd : Int) (w : World) (h : RTb w t kb S.ds S.ms) :
    Calls Tryz.prog 193 #[.pointer (some ⟨t, 0, none⟩), .int .i64 fd] w fun e w' => e = .returned (.bool (S.uses fd)) ∧ w = w' := by
  by_cases h0 : 0 ≤ fd
  · by_cases h1 : fd < 64
    · obtain ⟨i, rfl⟩ : ∃ i : Nat, fd = i := ⟨fd.toNat, by omega⟩
      have hi : i < 64 := by omega
      have q := h.sl i hi
      have hu : S.uses (i : Int) = !(S.ds i == 0) := by unfold TS.uses; simp [h1]
      rw [hu]
      generalize S.ds i = d at *
      clear h hu
      go_enter Tryz.func193, Tryz.ntmps193
      go_wp2
      go_ret
      exact ⟨by simp [bne], rfl⟩
    · have hu : S.uses fd = false := by unfold TS.uses; simp [h1]
      rw [hu]
      clear h hu
      go_enter Tryz.func193, Tryz.ntmps193
      go_wp2
      go_ret
      exact ⟨rfl, rfl⟩
  · have hu : S.uses fd = false := by unfold TS.uses; simp [h0]
    rw [hu]
    clear h hu
    go_enter Tryz.func193, Tryz.ntmps193
    go_wp2
    go_ret
    exact ⟨rfl, rfl⟩
end Go.Proofs.YtejcfhjhjplcnaaGreat

/- The reference's table: free, Close, Mark, Marked, Desc, Read, Write, Seek. -/
namespace Go.Proofs.YtejcfhjhjplcnaaGreat
open Go.RowKit Go.Maps

def Free1 (ds : Nat → Int) (a x : Nat) : Prop := a ≤ x ∧ x ≤ 64 ∧ (x < 64 → ds x = 0) ∧ ∀ j, a ≤ j → j < x → ds j ≠ 0
set_option maxRecDepth 100000 in
theorem rtfree_any (t kb a : Nat) (ds : Nat → Int) (ms : Nat → Bool) (w : World) (h : RTb w t kb ds ms) (ha : a ≤ 64) :
    Calls Tryz.prog 191 #[.pointer (some ⟨t, 0, none⟩), .int .i64 a] w fun e w' => ∃ x : Nat, e = .returned (.int .i64 x) ∧ Free1 ds a x ∧ w = w' := by
  have H := hide h
  clear h
  go_enter Tryz.func191, Tryz.ntmps191
  go_wp2_with fail
  go_loopg [5] (64 - a) (fun g s4 wx => ∃ i : Nat, i + g = 64 ∧ a ≤ i ∧ s4 = .int .i64 i ∧ wx = w ∧ Hid (∀ j, a ≤ j → j < i → ds j ≠ 0))
  case atStart => exact ⟨a, by omega, by omega, rfl, rfl, hide (fun j h1 h2 => by omega)⟩
  case round =>
    obtain ⟨i, hig, hai, rfl, rfl, HN⟩ := hrel
    by_cases hi : i < 64
    · obtain ⟨g, rfl⟩ : ∃ g, gk = g + 1 := ⟨gk - 1, by omega⟩
      have hi1 : (0 : Int) ≤ (i : Int) := by omega
      have hi2 : (i : Int) < 64 := by omega
      have q := H.out.sl i hi
      by_cases h0 : ds i = 0
      · rw [h0] at q
        go_wp2_with fail
        go_ret
        exact ⟨i, rfl, ⟨hai, by omega, fun _ => h0, HN.out⟩, rfl⟩
      · have h0' : (ds i == 0) = false := by simpa using h0
        generalize hd : ds i = d at *
        go_wp2_with fail
        go_roundg g
        case measure => omega
        case rel => exact ⟨i + 1, by omega, by omega, by go_num, rfl, hide (fun j h1 h2 => by
          by_cases hj : j = i
          · subst hj; rw [hd]; exact h0
          · exact HN.out j h1 (by omega))⟩
    · have hi2 : ¬ (i : Int) < 64 := by omega
      go_wp2_with fail
      go_ret
      exact ⟨64, rfl, ⟨by omega, by omega, fun h => absurd h (by omega), fun j h1 h2 => HN.out j h1 (by omega)⟩, rfl⟩
theorem RTStep.join {w w0 w1 w' : World} {O O1 : Nat → Prop} {t kb : Nat} {S' : TS} (h1 : ∀ k, O1 k → O k ∨ w0.heap.size ≤ k) (h2 : Turned (fun k => O k ∨ k = t) w0 w1) (h : RTStep w1 O1 t kb S' w') (hB : Below w.heap.size w w0) : RTStep w O t kb S' w' := by
  obtain ⟨O2, b1, b2, b3⟩ := h
  refine ⟨O2, b1, fun k e => ?_, ((Turned.of_below hB).trans h2 (fun _ _ e => e)).trans b3 fun k hk e => ?_⟩
  · rcases b2 k e with e | e
    · exact (h1 k e).imp id (fun e => Nat.le_trans hB.size e)
    · exact .inr (Nat.le_trans (Nat.le_trans hB.size h2.size) e)
  · have := hB.size
    rcases e with e | e
    · rcases h1 k e with e | e
      · exact .inl e
      · omega
    · exact .inr e
theorem RTW.afterK {w w0 w5 : World} {O : Nat → Prop} {t kb : Nat} {S : TS} {K' : KS} (h : RTW w O t kb S) (hS : RKStep w0 O kb K' w5) (hB : Below w.heap.size w w0) {i : Nat} (hi : i < 64) : w5.cell? ⟨t, 0, none⟩ = some (.pointer (some ⟨kb, 0, none⟩)) ∧ w5.cell? ⟨t, 1 + i * 2, none⟩ = some (.int .i64 (S.ds i)) := by
  obtain ⟨_, h5, _⟩ := (h.below hB).kstep hS
  exact ⟨h5.tb.ck, h5.tb.sl i hi⟩
set_option maxRecDepth 100000 in
theorem rtclose_any (t kb : Nat) (O : Nat → Prop) (S : TS) (fd : Int) (w : World) (h : RTW w O t kb S) :
    Calls Tryz.prog 101 #[.pointer (some ⟨t, 0, none⟩), .int .i64 fd] w fun e w' => e = .returned (.int .i64 (S.close fd).1) ∧ RTStep w O t kb (S.close fd).2 w' := by
  have HU := hide (rtused_any t kb S fd w h.tb)
  by_cases hu : S.uses fd = true
  · obtain ⟨i, rfl, hi, hz⟩ := uses_yes hu
    have hc : S.close (i : Int) = (0, S.release i) := by unfold TS.close; rw [if_pos hu]; rfl
    rw [hc]
    rw [hu] at HU
    have hi1 : (0 : Int) ≤ (i : Int) := by omega
    have hi2 : (i : Int) < 64 := by omega
    have q := h.tb.sl i hi
    have qk := h.tb.ck
    have HW := hide h
    have HD := hide ((h.k.below (Below.refl _ _).drew).drop (S.ds i))
    have hrl : S.release i = ⟨S.K.dropK (S.ds i), tset S.ds i 0, tset S.ms i false⟩ := by unfold TS.release; rw [if_neg hz]
    rw [hrl]
    clear hc hu h hrl
    go_enter Tryz.func101, Tryz.ntmps101
    go_wp2_with (first | (go_at_call 193; refine HU.out.mono ?_; rintro _ _ ⟨rfl, rfl⟩) | fail)
    go_region_held3 (fun w' => w'.cell? ⟨t, 0, none⟩ = some (.pointer (some ⟨kb, 0, none⟩)) ∧ w'.cell? ⟨t, 1 + i * 2, none⟩ = some (.int .i64 (S.ds i)))
      (first | exact hx5 | exact ⟨qk, q⟩ | go_keep)
      (first
        | (go_at_call 72; refine HD.out.mono ?_; rintro e w5 ⟨rfl, hS⟩; have hx5 := HW.out.afterK hS (Below.refl _ _).drew hi)
        | fail)
    obtain ⟨O5, h5, hO5, hT5⟩ := (HW.out.below (Below.refl _ _).drew).kstep hS
    have c1 := h5.tb.sl i hi
    have c2 := h5.tb.mks i hi
    have f1 := h5.tb.soft (1 + i * 2)
    have f2 := h5.tb.soft (1 + i * 2 + 1)
    have HP := hide (h5.put hi 0 false)
    have HS := hide (RTStep.join hO5 hT5 HP.out (Below.refl _ _).drew)
    clear h5 hO5 hT5 hS q qk hx5 HP
    simp only at HS
    go_wp2_with fail
    go_ret
    exact ⟨rfl, HS.out⟩
  · have hu' : S.uses fd = false := by simpa using hu
    have hc : S.close fd = (71, S) := by unfold TS.close; rw [if_neg hu]
    rw [hc]
    rw [hu'] at HU
    have HW := hide h
    clear hc hu h hu'
    go_enter Tryz.func101, Tryz.ntmps101
    go_wp2_with (first | (go_at_call 193; refine HU.out.mono ?_; rintro _ _ ⟨rfl, rfl⟩) | fail)
    go_ret
    exact ⟨rfl, RTStep.below HW.out (Below.refl _ _)⟩
theorem rtmark_any (t kb : Nat) (O : Nat → Prop) (S : TS) (fd : Int) (m : Bool) (w : World) (h : RTW w O t kb S) :
    Calls Tryz.prog 104 #[.pointer (some ⟨t, 0, none⟩), .int .i64 fd, .bool m] w fun e w' => e = .returned (.int .i64 (S.mark fd m).1) ∧ RTStep w O t kb (S.mark fd m).2 w' := by
  have HU := hide (rtused_any t kb S fd w h.tb)
  by_cases hu : S.uses fd = true
  · obtain ⟨i, rfl, hi, hz⟩ := uses_yes hu
    have hc : S.mark (i : Int) m = (0, ⟨S.K, S.ds, tset S.ms i m⟩) := by unfold TS.mark; rw [if_pos hu]; rfl
    rw [hc]
    rw [hu] at HU
    have hi1 : (0 : Int) ≤ (i : Int) := by omega
    have hi2 : (i : Int) < 64 := by omega
    have c2 := h.tb.mks i hi
    have f2 := h.tb.soft (1 + i * 2 + 1)
    have HS := hide (h.marks hi m)
    clear hc hu h
    go_enter Tryz.func104, Tryz.ntmps104
    go_wp2_with (first | (go_at_call 193; refine HU.out.mono ?_; rintro _ _ ⟨rfl, rfl⟩) | fail)
    go_ret
    exact ⟨rfl, HS.out⟩
  · have hu' : S.uses fd = false := by simpa using hu
    have hc : S.mark fd m = (71, S) := by unfold TS.mark; rw [if_neg hu]
    rw [hc]
    rw [hu'] at HU
    have HW := hide h
    clear hc hu h hu'
    go_enter Tryz.func104, Tryz.ntmps104
    go_wp2_with (first | (go_at_call 193; refine HU.out.mono ?_; rintro _ _ ⟨rfl, rfl⟩) | fail)
    go_ret
    exact ⟨rfl, RTStep.below HW.out (Below.refl _ _)⟩
def TS.marked (S : TS) (fd : Int) : Bool × Int := if S.uses fd = true then (S.ms fd.toNat, 0) else (false, 71)
def TS.desc (S : TS) (fd : Int) : Int × Int := if S.uses fd = true then (S.ds fd.toNat, 0) else (0, 71)
theorem rtmarked_any (t kb : Nat) (S : TS) (fd : Int) (w : World) (h : RTb w t kb S.ds S.ms) :
    Calls Tryz.prog 114 #[.pointer (some ⟨t, 0, none⟩), .int .i64 fd] w fun e w' => e = .returned (.tuple #[.bool (S.marked fd).1, .int .i64 (S.marked fd).2]) ∧ w = w' := by
  have HU := hide (rtused_any t kb S fd w h)
  by_cases hu : S.uses fd = true
  · obtain ⟨i, rfl, hi, hz⟩ := uses_yes hu
    have hc : S.marked (i : Int) = (S.ms i, 0) := by unfold TS.marked; rw [if_pos hu]; rfl
    rw [hc]
    rw [hu] at HU
    have hi1 : (0 : Int) ≤ (i : Int) := by omega
    have hi2 : (i : Int) < 64 := by omega
    have c2 := h.mks i hi
    clear hc hu h
    go_enter Tryz.func114, Tryz.ntmps114
    go_wp2_with (first | (go_at_call 193; refine HU.out.mono ?_; rintro _ _ ⟨rfl, rfl⟩) | fail)
    go_ret2
    exact ⟨rfl, rfl⟩
  · have hu' : S.uses fd = false := by simpa using hu
    have hc : S.marked fd = (false, 71) := by unfold TS.marked; rw [if_neg hu]
    rw [hc]
    rw [hu'] at HU
    clear hc hu h hu'
    go_enter Tryz.func114, Tryz.ntmps114
    go_wp2_with (first | (go_at_call 193; refine HU.out.mono ?_; rintro _ _ ⟨rfl, rfl⟩) | fail)
    go_ret2
    exact ⟨rfl, rfl⟩
theorem rtdesc_any (t kb : Nat) (S : TS) (fd : Int) (w : World) (h : RTb w t kb S.ds S.ms) :
    Calls Tryz.prog 116 #[.pointer (some ⟨t, 0, none⟩), .int .i64 fd] w fun e w' => e = .returned (.tuple #[.int .i64 (S.desc fd).1, .int .i64 (S.desc fd).2]) ∧ w = w' := by
  have HU := hide (rtused_any t kb S fd w h)
  by_cases hu : S.uses fd = true
  · obtain ⟨i, rfl, hi, hz⟩ := uses_yes hu
    have hc : S.desc (i : Int) = (S.ds i, 0) := by unfold TS.desc; rw [if_pos hu]; rfl
    rw [hc]
    rw [hu] at HU
    have hi1 : (0 : Int) ≤ (i : Int) := by omega
    have hi2 : (i : Int) < 64 := by omega
    have c2 := h.sl i hi
    clear hc hu h
    go_enter Tryz.func116, Tryz.ntmps116
    go_wp2_with (first | (go_at_call 193; refine HU.out.mono ?_; rintro _ _ ⟨rfl, rfl⟩) | fail)
    go_ret2
    exact ⟨rfl, rfl⟩
  · have hu' : S.uses fd = false := by simpa using hu
    have hc : S.desc fd = (0, 71) := by unfold TS.desc; rw [if_neg hu]
    rw [hc]
    rw [hu'] at HU
    clear hc hu h hu'
    go_enter Tryz.func116, Tryz.ntmps116
    go_wp2_with (first | (go_at_call 193; refine HU.out.mono ?_; rintro _ _ ⟨rfl, rfl⟩) | fail)
    go_ret2
    exact ⟨rfl, rfl⟩
end Go.Proofs.YtejcfhjhjplcnaaGreat

/- FdtableLowest: the kernel's states, and the descriptors, as values. -/
namespace Go.Proofs.YtejcfhjhjplcnaaGreat
open Go.RowKit Go.Maps

theorem nodup_few {α : Type} [DecidableEq α] : ∀ (l m : List α), l.Nodup → (∀ x ∈ l, x ∈ m) → l.length ≤ m.length
  | [], _, _, _ => Nat.zero_le _
  | a :: r, m, hn, hs => by
    have ha := hs a (by simp)
    have hn' := List.nodup_cons.1 hn
    have := nodup_few r (m.erase a) hn'.2 (fun x hx => (List.mem_erase_of_ne (fun e => hn'.1 (by rw [← e]; exact hx))).2 (hs x (by simp [hx])))
    rw [List.length_erase_of_mem ha] at this
    have := List.length_pos_of_mem ha
    simp only [List.length_cons]
    omega
theorem frees_low {ds : Nat → Int} {x : Nat} (hx : x < 64) (h0 : ds x = 0) (h : ∀ j, j < x → ds j ≠ 0) : (frees ds 64).head? = some x := by
  have e : frees ds x = [] := by
    unfold frees
    rw [List.filter_eq_nil_iff]
    intro a ha
    simpa using h a (List.mem_range.1 ha)
  obtain ⟨r, hr⟩ := frees_prefix ds (show x + 1 ≤ 64 by omega)
  rw [← hr, frees_succ, e, if_pos h0]
  rfl
theorem frees_none {ds : Nat → Int} (h : ∀ j, j < 64 → ds j ≠ 0) : frees ds 64 = [] := by
  unfold frees
  rw [List.filter_eq_nil_iff]
  intro a ha
  simpa using h a (List.mem_range.1 ha)
def KLo (de : List De) (n : Nat) : KS := ⟨[⟨nmF, .file []⟩], [0], de, n, [], 0, 0⟩
structure LoI (ds : Nat → Int) (de : List De) (n : Nat) : Prop where
  nd : (de.map fun x => (x.n : Int)).Nodup
  on : ∀ x ∈ de, x.held = 1 ∧ ∃ i, i < 64 ∧ ds i = x.n
  lt : ∀ x ∈ de, 1 ≤ x.n ∧ x.n < n
  one : 1 ≤ n
theorem LoI.few {ds : Nat → Int} {de : List De} {n : Nat} (h : LoI ds de n) : de.length ≤ 64 := by
  have := nodup_few _ ((List.range 64).map ds) h.nd (fun y hy => by
    obtain ⟨x, hx, rfl⟩ := List.mem_map.1 hy
    obtain ⟨_, i, hi, e⟩ := h.on x hx
    exact List.mem_map.2 ⟨i, List.mem_range.2 hi, e⟩)
  simpa using this
theorem LoI.open {ds : Nat → Int} {de : List De} {n x : Nat} (h : LoI ds de n) (hx : x < 64) (h0 : ds x = 0) : LoI (tset ds x n) (de ++ [⟨n, 0, 1, 0, 1⟩]) (n + 1) := by
  refine ⟨?_, fun y hy => ?_, fun y hy => ?_, by omega⟩
  · rw [List.map_append, List.nodup_append]
    refine ⟨h.nd, by simp, fun a ha b hb => ?_⟩
    obtain ⟨y, hy, rfl⟩ := List.mem_map.1 ha
    have := (h.lt y hy).2
    simp only [List.map_cons, List.map_nil, List.mem_singleton] at hb
    omega
  · rcases List.mem_append.1 hy with hy | hy
    · obtain ⟨a, i, hi, e⟩ := h.on y hy
      have := (h.lt y hy).1
      exact ⟨a, i, hi, by rw [tset_other _ _ (fun e' => by subst e'; omega)]; exact e⟩
    · simp only [List.mem_singleton] at hy
      subst hy
      exact ⟨rfl, x, hx, tset_same _ _ _⟩
  · rcases List.mem_append.1 hy with hy | hy
    · have := h.lt y hy
      omega
    · simp only [List.mem_singleton] at hy
      subst hy
      exact ⟨h.one, Nat.lt_succ_self _⟩
theorem lo_tho (de : List De) (n : Nat) (x : De) : (KLo de n).tho x = .file [] := by
  unfold KS.tho KLo
  rcases x with ⟨a, b, c, d, e⟩
  cases b <;> rfl
theorem LoI.drop {ds : Nat → Int} {de : List De} {n i : Nat} (h : LoI ds de n) (_hi : i < 64) : ∃ de', (KLo de n).dropK (ds i) = KLo de' n ∧ LoI (tset ds i 0) de' n := by
  have hsub : ∀ de', (∀ x ∈ de', x ∈ de ∧ (x.n : Int) ≠ ds i) → (de'.map fun x => (x.n : Int)).Nodup → LoI (tset ds i 0) de' n := fun de' hd hn =>
    ⟨hn, fun x hx => by
      obtain ⟨a, j, hj, e⟩ := h.on x (hd x hx).1
      exact ⟨a, j, hj, by rw [tset_other _ _ (fun e' => (hd x hx).2 (by rw [← e', e]))]; exact e⟩, fun x hx => h.lt x (hd x hx).1, h.one⟩
  unfold KS.dropK
  cases hf : (KLo de n).find (ds i) with
  | none =>
    refine ⟨de, rfl, hsub de (fun x hx => ⟨hx, ?_⟩) h.nd⟩
    have := List.find?_eq_none.1 hf x hx
    simpa using this
  | some x =>
    obtain ⟨hx, hn⟩ := KS.find_some hf
    have h1 := (h.on x hx).1
    refine ⟨de.filter fun y => decide (y.n ≠ x.n), ?_, hsub _ (fun y hy => ?_) ?_⟩
    · simp only
      rw [if_neg (by omega), lo_tho]
      rfl
    · have := List.mem_filter.1 hy
      refine ⟨this.1, fun e => ?_⟩
      have h2 : y.n ≠ x.n := by simpa using this.2
      omega
    · exact h.nd.sublist (List.filter_sublist.map _)
end Go.Proofs.YtejcfhjhjplcnaaGreat

/- The reference's table: Read, Write, Seek; Open, Install, Dup. -/
namespace Go.Proofs.YtejcfhjhjplcnaaGreat
open Go.RowKit Go.Maps

theorem RKStep.drew {w w' : World} {O : Nat → Prop} {kb : Nat} {K : KS} (h : RKStep w.drew O kb K w') : RKStep w O kb K w' := by
  obtain ⟨O', h1, h2, h3⟩ := h
  exact ⟨O', h1, h2, (Turned.of_below (Below.refl _ _).drew).trans h3 (fun _ _ e => e)⟩
set_option maxRecDepth 100000 in
theorem rtread_any (t kb : Nat) (O : Nat → Prop) (S : TS) (i : Nat) (n : Int) (w : World) (h : RTW w O t kb S) (hi : i < 64) (hz : S.ds i ≠ 0) (hr : S.K.reads < 9223372036854775807) :
    Calls Tryz.prog 106 #[.pointer (some ⟨t, 0, none⟩), .int .i64 (i : Int), .int .i64 n] w fun e w' => ∃ v, e = .returned (.tuple #[v, .int .i64 (S.K.read (S.ds i) n).2.1]) ∧ Bys w' v (S.K.read (S.ds i) n).1 ∧ RKStep w O kb (S.K.read (S.ds i) n).2.2 w' := by
  have HU := hide (rtused_any t kb S i w h.tb)
  rw [uses_of hi hz] at HU
  have hi1 : (0 : Int) ≤ (i : Int) := by omega
  have hi2 : (i : Int) < 64 := by omega
  have q := h.tb.sl i hi
  have qk := h.tb.ck
  have HW := hide h
  have HD := hide ((h.k.below (Below.refl _ _).drew).read (S.ds i) n hr)
  clear h
  go_enter Tryz.func106, Tryz.ntmps106
  go_wp2_with (first | (go_at_call 193; refine HU.out.mono ?_; rintro _ _ ⟨rfl, rfl⟩) | fail)
  go_region_held3 (fun w' => w'.cell? ⟨t, 0, none⟩ = some (.pointer (some ⟨kb, 0, none⟩)) ∧ w'.cell? ⟨t, 1 + i * 2, none⟩ = some (.int .i64 (S.ds i)))
    (first | exact hx5 | exact ⟨qk, q⟩ | go_keep)
    (first
      | (go_at_call 64; refine HD.out.mono ?_; rintro e w5 ⟨v, rfl, hv, hS⟩; have hx5 := HW.out.afterK hS (Below.refl _ _).drew hi)
      | fail)
  go_wp2_with fail
  go_ret2
  exact ⟨v, rfl, hv, RKStep.drew hS⟩
set_option maxRecDepth 100000 in
theorem rtopen_any (t kb : Nat) (O : Nat → Prop) (S : TS) (s : ByteArray) (f : Int) (w : World) (h : RTW w O t kb S) (hnm : KNm S.K) (hs : s.size ≤ maxLen) (hn1 : 1 ≤ S.K.next) (hl : S.K.next < 9223372036854775807) :
    Calls Tryz.prog 96 #[.pointer (some ⟨t, 0, none⟩), .string s, .int .i64 f] w fun e w' => e = .returned (.tuple #[.int .i64 (S.open s f).1, .int .i64 (S.open s f).2.1]) ∧ RTStep w O t kb (S.open s f).2.2 w' := by
  have HL := hide (rtfree_any t kb 0 S.ds S.ms w h.tb (by omega))
  have HW := hide h
  have HO := hide (h.k.open s f hnm hs hn1 hl)
  have qk := h.tb.ck
  clear h
  go_enter Tryz.func96, Tryz.ntmps96
  go_wp2_with fail
  refine HL.out.mono ?_
  rintro e _ ⟨x, rfl, hF, rfl⟩
  by_cases hx : x = 64
  · subst hx
    have hlow : S.low = none := by unfold TS.low; rw [frees_none (fun j hj => hF.2.2.2 j (Nat.zero_le _) hj)]; rfl
    have hop : S.open s f = (0, 31, S) := by unfold TS.open; rw [hlow]
    have Hop := hide hop
    clear hF hlow hop
    go_wp2_with fail
    go_ret2
    rw [Hop.out]
    exact ⟨rfl, RTStep.below HW.out (Below.refl _ _)⟩
  · have hx1 : x < 64 := by have := hF.2.1; omega
    have hlow : S.low = some x := frees_low hx1 (hF.2.2.1 hx1) (fun j hj => hF.2.2.2 j (Nat.zero_le _) hj)
    have hop : S.open s f = if (S.K.open s f).2.1 = 0 then ((x : Int), 0, ⟨(S.K.open s f).2.2, tset S.ds x (S.K.open s f).1, tset S.ms x false⟩) else (0, (S.K.open s f).2.1, ⟨(S.K.open s f).2.2, S.ds, S.ms⟩) := by unfold TS.open; rw [hlow]
    have hx2 : (x : Int) < 64 := by omega
    have hx0 : (0 : Int) ≤ (x : Int) := by omega
    have hx3 : ((x : Int) == 64) = false := by simp; omega
    clear hF hlow
    generalize hR : S.K.open s f = R at *
    obtain ⟨d, E, K'⟩ := R
    clear hR
    simp only at *
    have Hop := hide hop
    clear hop
    go_wp2_with fail
    refine HO.out.mono ?_
    rintro e w5 ⟨rfl, hS⟩
    obtain ⟨O5, h5, hO5, hT5⟩ := HW.out.kstep hS
    by_cases hE : E = 0
    · subst hE
      have c1 := h5.tb.sl x hx1
      have c2 := h5.tb.mks x hx1
      have f1 := h5.tb.soft (1 + x * 2)
      have f2 := h5.tb.soft (1 + x * 2 + 1)
      have HP := hide (h5.put hx1 d false)
      have HS := hide (RTStep.join hO5 hT5 HP.out (Below.refl _ _))
      clear h5 hO5 hT5 hS HP qk
      simp only at HS
      go_wp2_with fail
      go_ret2
      have hop : S.open s f = ((x : Int), 0, ⟨K', tset S.ds x d, tset S.ms x false⟩) := by rw [Hop.out]; rfl
      rw [hop]
      exact ⟨rfl, HS.out⟩
    · have hE' : (E == 0) = false := by simpa using hE
      have HS : Hid (RTStep w O t kb ⟨K', S.ds, S.ms⟩ w5) := hide ⟨O5, h5, hO5, hT5⟩
      clear h5 hO5 hT5 hS qk
      go_wp2_with fail
      go_ret2
      rw [Hop.out, if_neg hE]
      exact ⟨rfl, HS.out⟩
set_option maxRecDepth 100000 in
theorem rtinstall_any (t kb : Nat) (O : Nat → Prop) (S : TS) (d : Int) (w : World) (h : RTW w O t kb S) :
    Calls Tryz.prog 100 #[.pointer (some ⟨t, 0, none⟩), .int .i64 d] w fun e w' => e = .returned (.tuple #[.int .i64 (S.install d).1, .int .i64 (S.install d).2.1]) ∧ RTStep w O t kb (S.install d).2.2 w' := by
  have HL := hide (rtfree_any t kb 0 S.ds S.ms w h.tb (by omega))
  have HW := hide h
  have HO := hide (h.k.keepD d)
  have qk := h.tb.ck
  clear h
  go_enter Tryz.func100, Tryz.ntmps100
  go_wp2_with fail
  refine HL.out.mono ?_
  rintro e _ ⟨x, rfl, hF, rfl⟩
  by_cases hx : x = 64
  · subst hx
    have hlow : S.low = none := by unfold TS.low; rw [frees_none (fun j hj => hF.2.2.2 j (Nat.zero_le _) hj)]; rfl
    have hop : S.install d = (0, 31, S) := by unfold TS.install; rw [hlow]
    have Hop := hide hop
    clear hF hlow hop
    go_wp2_with fail
    go_ret2
    rw [Hop.out]
    exact ⟨rfl, RTStep.below HW.out (Below.refl _ _)⟩
  · have hx1 : x < 64 := by have := hF.2.1; omega
    have hlow : S.low = some x := frees_low hx1 (hF.2.2.1 hx1) (fun j hj => hF.2.2.2 j (Nat.zero_le _) hj)
    have hop : S.install d = if S.K.keepE d = 0 then ((x : Int), 0, ⟨S.K.keepK d, tset S.ds x d, tset S.ms x false⟩) else (0, S.K.keepE d, ⟨S.K.keepK d, S.ds, S.ms⟩) := by unfold TS.install; rw [hlow]
    have hx2 : (x : Int) < 64 := by omega
    have hx0 : (0 : Int) ≤ (x : Int) := by omega
    have hx3 : ((x : Int) == 64) = false := by simp; omega
    clear hF hlow
    generalize S.K.keepE d = E at *
    generalize S.K.keepK d = K' at *
    have Hop := hide hop
    clear hop
    go_wp2_with fail
    refine HO.out.mono ?_
    rintro e w5 ⟨rfl, hS⟩
    obtain ⟨O5, h5, hO5, hT5⟩ := HW.out.kstep hS
    by_cases hE : E = 0
    · subst hE
      have c1 := h5.tb.sl x hx1
      have c2 := h5.tb.mks x hx1
      have f1 := h5.tb.soft (1 + x * 2)
      have f2 := h5.tb.soft (1 + x * 2 + 1)
      have HP := hide (h5.put hx1 d false)
      have HS := hide (RTStep.join hO5 hT5 HP.out (Below.refl _ _))
      clear h5 hO5 hT5 hS HP qk
      simp only at HS
      go_wp2_with fail
      go_ret2
      have hop : S.install d = ((x : Int), 0, ⟨K', tset S.ds x d, tset S.ms x false⟩) := by rw [Hop.out]; rfl
      rw [hop]
      exact ⟨rfl, HS.out⟩
    · have hE' : (E == 0) = false := by simpa using hE
      have HS : Hid (RTStep w O t kb ⟨K', S.ds, S.ms⟩ w5) := hide ⟨O5, h5, hO5, hT5⟩
      clear h5 hO5 hT5 hS qk
      go_wp2_with fail
      go_ret2
      rw [Hop.out, if_neg hE]
      exact ⟨rfl, HS.out⟩
set_option maxRecDepth 100000 in
theorem rtdup_any (t kb : Nat) (O : Nat → Prop) (S : TS) (fd : Int) (w : World) (h : RTW w O t kb S) :
    Calls Tryz.prog 102 #[.pointer (some ⟨t, 0, none⟩), .int .i64 fd] w fun e w' => e = .returned (.tuple #[.int .i64 (S.dup fd).1, .int .i64 (S.dup fd).2.1]) ∧ RTStep w O t kb (S.dup fd).2.2 w' := by
  have HU := hide (rtused_any t kb S fd w h.tb)
  have HW := hide h
  by_cases hu : S.uses fd = true
  · obtain ⟨i, rfl, hi, hz⟩ := uses_yes hu
    have hc : S.dup (i : Int) = S.install (S.ds i) := by unfold TS.dup; rw [if_pos hu]; rfl
    rw [hc]
    rw [hu] at HU
    have hi1 : (0 : Int) ≤ (i : Int) := by omega
    have hi2 : (i : Int) < 64 := by omega
    have q := h.tb.sl i hi
    have HI := hide (rtinstall_any t kb O S (S.ds i) w h)
    clear hc hu h
    go_enter Tryz.func102, Tryz.ntmps102
    go_wp2_with (first | (go_at_call 193; refine HU.out.mono ?_; rintro _ _ ⟨rfl, rfl⟩) | (go_at_call 100; refine HI.out.mono ?_; rintro e w5 ⟨rfl, hS⟩) | fail)
    go_ret2
    exact ⟨rfl, hS⟩
  · have hu' : S.uses fd = false := by simpa using hu
    have hc : S.dup fd = (0, 71, S) := by unfold TS.dup; rw [if_neg hu]
    rw [hc]
    rw [hu'] at HU
    clear hc hu h hu'
    go_enter Tryz.func102, Tryz.ntmps102
    go_wp2_with (first | (go_at_call 193; refine HU.out.mono ?_; rintro _ _ ⟨rfl, rfl⟩) | fail)
    go_ret2
    exact ⟨rfl, RTStep.below HW.out (Below.refl _ _)⟩
end Go.Proofs.YtejcfhjhjplcnaaGreat

/- The reference's table: Read, Write, Seek of free descriptors; Write, Seek; DupTo. -/
namespace Go.Proofs.YtejcfhjhjplcnaaGreat
open Go.RowKit Go.Maps

theorem rtread_no (t kb : Nat) (S : TS) (fd : Int) (n : Int) (w : World) (h : RTb w t kb S.ds S.ms) (hu : S.uses fd = false) :
    Calls Tryz.prog 106 #[.pointer (some ⟨t, 0, none⟩), .int .i64 fd, .int .i64 n] w fun e w' => e = .returned (.tuple #[.slice none 0 0, .int .i64 71]) ∧ w = w' := by
  have HU := hide (rtused_any t kb S fd w h)
  rw [hu] at HU
  clear h hu
  go_enter Tryz.func106, Tryz.ntmps106
  go_wp2_with (first | (go_at_call 193; refine HU.out.mono ?_; rintro _ _ ⟨rfl, rfl⟩) | fail)
  go_ret2
  exact ⟨rfl, rfl⟩
theorem rtwrite_no (t kb : Nat) (S : TS) (fd : Int) (a : Option Addr) (n c : Nat) (w : World) (h : RTb w t kb S.ds S.ms) (hu : S.uses fd = false) :
    Calls Tryz.prog 108 #[.pointer (some ⟨t, 0, none⟩), .int .i64 fd, .slice a n c] w fun e w' => e = .returned (.tuple #[.int .i64 0, .int .i64 71]) ∧ w = w' := by
  have HU := hide (rtused_any t kb S fd w h)
  rw [hu] at HU
  clear h hu
  go_enter Tryz.func108, Tryz.ntmps108
  go_wp2_with (first | (go_at_call 193; refine HU.out.mono ?_; rintro _ _ ⟨rfl, rfl⟩) | fail)
  go_ret2
  exact ⟨rfl, rfl⟩
theorem rtseek_no (t kb : Nat) (S : TS) (fd : Int) (x y : Int) (w : World) (h : RTb w t kb S.ds S.ms) (hu : S.uses fd = false) :
    Calls Tryz.prog 110 #[.pointer (some ⟨t, 0, none⟩), .int .i64 fd, .int .i64 x, .int .i64 y] w fun e w' => e = .returned (.tuple #[.int .i64 0, .int .i64 71]) ∧ w = w' := by
  have HU := hide (rtused_any t kb S fd w h)
  rw [hu] at HU
  clear h hu
  go_enter Tryz.func110, Tryz.ntmps110
  go_wp2_with (first | (go_at_call 193; refine HU.out.mono ?_; rintro _ _ ⟨rfl, rfl⟩) | fail)
  go_ret2
  exact ⟨rfl, rfl⟩
set_option maxRecDepth 100000 in
theorem rtwrite_any (t kb : Nat) (O : Nat → Prop) (S : TS) (i : Nat) (b : List UInt8) (a1 : Option Addr) (cx : Nat) (w : World) (h : RTW w O t kb S) (hi : i < 64) (hz : S.ds i ≠ 0) (hr : S.K.writes < 9223372036854775807) (hb : Bys w (.slice a1 b.length cx) b) (hcap : b.length ≤ cx) (hap : 0 < b.length → ∀ k, (Value.slice a1 b.length cx).ownBlock = some k → k < w.heap.size ∧ ¬ O k) :
    Calls Tryz.prog 108 #[.pointer (some ⟨t, 0, none⟩), .int .i64 (i : Int), .slice a1 b.length cx] w fun e w' => e = .returned (.tuple #[.int .i64 (S.K.write (S.ds i) b).1, .int .i64 (S.K.write (S.ds i) b).2.1]) ∧ RKStep w O kb (S.K.write (S.ds i) b).2.2 w' := by
  have HU := hide (rtused_any t kb S i w h.tb)
  rw [uses_of hi hz] at HU
  have hi1 : (0 : Int) ≤ (i : Int) := by omega
  have hi2 : (i : Int) < 64 := by omega
  have q := h.tb.sl i hi
  have qk := h.tb.ck
  have HW := hide h
  have HD := hide ((h.k.below (Below.refl _ _).drew).write0 (S.ds i) b a1 cx hr (hb.below (Below.refl _ _).drew) hcap hap)
  clear h
  go_enter Tryz.func108, Tryz.ntmps108
  go_wp2_with (first | (go_at_call 193; refine HU.out.mono ?_; rintro _ _ ⟨rfl, rfl⟩) | fail)
  go_region_held3 (fun w' => w'.cell? ⟨t, 0, none⟩ = some (.pointer (some ⟨kb, 0, none⟩)) ∧ w'.cell? ⟨t, 1 + i * 2, none⟩ = some (.int .i64 (S.ds i)))
    (first | exact hx5 | exact ⟨qk, q⟩ | go_keep)
    (first
      | (go_at_call 66; refine HD.out.mono ?_; rintro e w5 ⟨rfl, hS⟩; have hx5 := HW.out.afterK hS (Below.refl _ _).drew hi)
      | fail)
  go_wp2_with fail
  go_ret2
  exact ⟨rfl, RKStep.drew hS⟩
set_option maxRecDepth 100000 in
theorem rtseek_any (t kb : Nat) (O : Nat → Prop) (S : TS) (i : Nat) (x y : Int) (w : World) (h : RTW w O t kb S) (hi : i < 64) (hz : S.ds i ≠ 0) :
    Calls Tryz.prog 110 #[.pointer (some ⟨t, 0, none⟩), .int .i64 (i : Int), .int .i64 x, .int .i64 y] w fun e w' => e = .returned (.tuple #[.int .i64 (S.K.seek (S.ds i) x y).1, .int .i64 (S.K.seek (S.ds i) x y).2.1]) ∧ RKStep w O kb (S.K.seek (S.ds i) x y).2.2 w' := by
  have HU := hide (rtused_any t kb S i w h.tb)
  rw [uses_of hi hz] at HU
  have hi1 : (0 : Int) ≤ (i : Int) := by omega
  have hi2 : (i : Int) < 64 := by omega
  have q := h.tb.sl i hi
  have qk := h.tb.ck
  have HW := hide h
  have HD := hide ((h.k.below (Below.refl _ _).drew).seek (S.ds i) x y)
  clear h
  go_enter Tryz.func110, Tryz.ntmps110
  go_wp2_with (first | (go_at_call 193; refine HU.out.mono ?_; rintro _ _ ⟨rfl, rfl⟩) | fail)
  go_region_held3 (fun w' => w'.cell? ⟨t, 0, none⟩ = some (.pointer (some ⟨kb, 0, none⟩)) ∧ w'.cell? ⟨t, 1 + i * 2, none⟩ = some (.int .i64 (S.ds i)))
    (first | exact hx5 | exact ⟨qk, q⟩ | go_keep)
    (first
      | (go_at_call 68; refine HD.out.mono ?_; rintro e w5 ⟨rfl, hS⟩; have hx5 := HW.out.afterK hS (Below.refl _ _).drew hi)
      | fail)
  go_wp2_with fail
  go_ret2
  exact ⟨rfl, RKStep.drew hS⟩
end Go.Proofs.YtejcfhjhjplcnaaGreat

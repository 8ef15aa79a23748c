/- Print: a fault's word, all words; the reference's Print. -/
import Derived.Test.YtnabnnckhdileaaFPlan
import Derived.Test.YtnabnnckhdileaaNum
import Derived.Test.YtnabnnckhdileaaShelf
namespace Go.Proofs.Ytnabnnckhdileaa
open Go.RowKit

/-- A fault's word. -/
def wrd (x : Fault) : List UInt8 := if x.1 = 1 then 115 :: dec x.2 else if x.1 = 2 then [105] else if x.1 = 3 then [97] else [102]
/-- Words, each behind a blank. -/
def tl (r : List Fault) : List UInt8 := r.flatMap fun y => 32 :: wrd y
/-- What Print answers. -/
def prt : List Fault → List UInt8
  | [] => []
  | x :: r => wrd x ++ tl r
theorem prt_join (l : List Fault) : Lib.join (l.map wrd) [32] = prt l := by
  cases l with
  | nil => rfl
  | cons x r => rw [List.map_cons, Lib.join_cons]; simp [prt, tl, Lib.joinTail, List.flatMap_def, Function.comp_def]
theorem prt_snoc_one (x : Fault) : prt [x] = wrd x := by simp [prt, tl]
theorem prt_snoc (l : List Fault) (x : Fault) (h : l ≠ []) : prt (l ++ [x]) = prt l ++ 32 :: wrd x := by
  cases l with
  | nil => exact absurd rfl h
  | cons y r => simp [prt, tl]
theorem wrd_len {x : Fault} (h : may x = true) : (wrd x).length ≤ 65 := by
  unfold wrd
  split
  · rename_i h1
    obtain ⟨k, n⟩ := x
    simp only at h1
    subst h1
    rw [may_one] at h
    have h2 := of_decide_eq_true h
    have := digs_len 10 n.natAbs (by omega) (by omega)
    simp only [dec, List.length_cons]
    rw [if_neg (by omega)]
    omega
  · split
    · simp
    · split <;> simp
theorem tl_len (r : List Fault) (h : ∀ x ∈ r, may x = true) : (tl r).length ≤ 66 * r.length := by
  induction r with
  | nil => simp [tl]
  | cons x r ih =>
    have h1 := wrd_len (h x (by simp))
    have h2 := ih fun y hy => h y (by simp [hy])
    simp only [tl, List.flatMap_cons, List.length_append, List.length_cons] at h2 ⊢
    omega
theorem prt_len (l : List Fault) (h : ∀ x ∈ l, may x = true) : (prt l).length ≤ 66 * l.length := by
  cases l with
  | nil => simp [prt]
  | cons x r =>
    have h1 := wrd_len (h x (by simp))
    have h2 := tl_len r fun y hy => h y (by simp [hy])
    simp only [prt, List.length_append, List.length_cons]
    omega
theorem fb_mem {l : List Fault} (h : fb l = l.length) : ∀ x ∈ l, may x = true := by
  intro x hx
  simpa using List.findIdx_eq_length.1 h x hx
theorem chk_zero {l : List Fault} (h : (chk l).1 = 0) : l.length ≤ 4096 ∧ fb l = l.length ∧ (chk l).2 = l.length := by
  by_cases h1 : 4096 < l.length
  · rw [chk_long h1] at h; simp at h
  · by_cases h2 : fb l < l.length
    · rw [chk_bad h1 h2] at h; simp at h
    · have := fb_le l
      have h3 : fb l = l.length := by omega
      exact ⟨by omega, h3, by rw [chk_good h1 h3]⟩

theorem str_nil : (⟨#[]⟩ : ByteArray) = ⟨([] : List UInt8).toArray⟩ := rfl

set_option maxRecDepth 100000 in
set_option maxHeartbeats 1000000 in
theorem word_any (k n : Int) (h : may (k, n) = true) (w : World) :
    Calls Try.prog 28 #[.agg #[.int .i64 k, .int .i64 n]] w fun e w' => e = .returned (.string ⟨(wrd (k, n)).toArray⟩) ∧ Below w.heap.size w w' := by
  by_cases h1 : k = 1
  · subst h1
    rw [may_one] at h
    obtain ⟨n0, n1⟩ := of_decide_eq_true h
    have hd : (dec n).length ≤ 64 := by
      have := wrd_len (x := (1, n)) (by rw [may_one]; exact h)
      simp only [wrd, if_true, List.length_cons] at this
      omega
    have hw : wrd (1, n) = 115 :: dec n := by simp [wrd]
    rw [hw]
    have HD := hide fun w => decimal_any n (by omega) (by omega) w
    clear hw h
    generalize dec n = D at *
    have hsz : (⟨D.toArray⟩ : ByteArray).size = D.length := by simp [ByteArray.size]
    go_enter Try.func28, Try.ntmps28
    go_wp2_with fail
    refine (HD.out _).mono ?_
    rintro e w1 ⟨rfl, hB⟩
    have hcat : (⟨#[115]⟩ : ByteArray) ++ ⟨D.toArray⟩ = ⟨(115 :: D).toArray⟩ := bytes_append [115] D
    go_wp2
    go_ret
    exact ⟨rfl, ((Below.refl _ _).alloc (Nat.le_refl _) _).trans (hB.mono (Nat.le_of_lt (size_new _ _)))⟩
  · have k1 : (k == 1) = false := by simpa using h1
    by_cases h2 : k = 2
    · subst h2
      go_enter Try.func28, Try.ntmps28
      go_wp2
      go_ret
      exact ⟨rfl, (Below.refl _ _).alloc (Nat.le_refl _) _⟩
    · have k2 : (k == 2) = false := by simpa using h2
      by_cases h3 : k = 3
      · subst h3
        go_enter Try.func28, Try.ntmps28
        go_wp2
        go_ret
        exact ⟨rfl, (Below.refl _ _).alloc (Nat.le_refl _) _⟩
      · have k3 : (k == 3) = false := by simpa using h3
        have hw : wrd (k, n) = [102] := by simp [wrd, h1, h2, h3]
        rw [hw]
        clear hw h h1 h2 h3
        go_enter Try.func28, Try.ntmps28
        go_wp2
        go_ret
        exact ⟨rfl, (Below.refl _ _).alloc (Nat.le_refl _) _⟩

theorem owns_below {W W' : World} {base e size n : Nat} {v : Value} {xs : List Value} (h : W.ownsRow base e size v n xs) (hB : Below W.heap.size W W') : W'.ownsRow base e size v n xs := by
  refine ⟨h.1, ?_⟩
  rcases h.2 with h' | ⟨g, cap, cur, rfl, h1, h2, h3⟩
  · exact .inl h'
  · exact .inr ⟨g, cap, cur, rfl, h1, (hB.block g (Array.getElem?_eq_some_iff.1 h2).1).trans h2, h3⟩

theorem Try.infoS : (Try.prog.info? 9).map (fun i => (i.zero, i.size, i.bytes)) = some (some (.string ⟨#[]⟩), 1, 16) := by kernel_rfl

set_option maxRecDepth 100000 in
set_option maxHeartbeats 1000000 in
theorem print_bad (v : Value) (l : List Fault) (w : World) (h : Flts w v l) (hs : l.length ≤ maxLen) (hc : (chk l).1 ≠ 0) :
    Calls Try.prog 11 #[v] w fun e w' => e = .returned (.tuple #[.string ⟨#[]⟩, .int .i64 (chk l).1]) ∧ Below w.heap.size w w' := by
  have hk := check_any v l w h hs
  have HK := hide hk
  have hc' : ((chk l).1 == 0) = false := by simpa using hc
  generalize (chk l).1 = x at *
  generalize (chk l).2 = y at *
  clear hk h hs hc
  go_enter Try.func11, Try.ntmps11
  go_wp2_with fail
  refine HK.out.mono ?_
  rintro e w1 ⟨rfl, hB⟩
  go_wp2
  go_ret2
  exact ⟨rfl, hB⟩

/-- The words so far, and the rest still empty. -/
def wcs (l : List Fault) (k : Nat) : List Value := (l.take k).map (fun x => .string ⟨(wrd x).toArray⟩) ++ List.replicate (l.length - k) (.string ⟨#[]⟩)
theorem wcs_set (l : List Fault) (k : Nat) (hk : k < l.length) : (wcs l k).set k (.string ⟨(wrd (l.getD k (0, 0))).toArray⟩) = wcs l (k + 1) := by
  unfold wcs
  have h1 : ((l.take k).map fun x => (Value.string ⟨(wrd x).toArray⟩)).length = k := by rw [List.length_map, List.length_take]; omega
  rw [List.set_append_right _ _ (by omega), h1, Nat.sub_self, show l.length - k = (l.length - (k + 1)) + 1 by omega, List.replicate_succ, List.set_cons_zero, List.take_succ_eq_append_getElem hk, List.map_append, List.getD_eq_getElem?_getD, List.getElem?_eq_getElem hk]
  simp only [List.map_cons, List.map_nil, List.append_assoc, List.cons_append, List.nil_append, Option.getD_some]

set_option maxRecDepth 100000 in
set_option maxHeartbeats 2000000 in
theorem print_good (v : Value) (l : List Fault) (w : World) (h : Flts w v l) (hc : (chk l).1 = 0) :
    Calls Try.prog 11 #[v] w fun e w' => e = .returned (.tuple #[.string ⟨(prt l).toArray⟩, .int .i64 0]) ∧ Below w.heap.size w w' := by
  obtain ⟨hlen, hfb, hc2⟩ := chk_zero hc
  have hk := check_any v l w h (by unfold maxLen; omega)
  rw [hc, hc2] at hk
  have HK := hide hk
  have hg := fb_good hfb
  have HG := hide hg
  have hpl := prt_len l (fb_mem hfb)
  have HJ := hide (prt_join l)
  clear hk hc hc2 hfb hg
  obtain ⟨i0, hi, hz0, hz1, hz2⟩ := info_parts Try.infoS
  obtain ⟨a1, c1, rfl, -⟩ := flts_form h
  generalize hP : prt l = P at *
  clear hP
  go_enter Try.func11, Try.ntmps11
  go_wp2_with fail
  refine HK.out.mono ?_
  rintro e w1 ⟨rfl, hB1⟩
  have HF := hide (h.below hB1)
  clear HK h
  go_wp2_with (at_make; refine wpList_make_full _ rfl _ _ 64 rfl w1.heap.size 9 i0 (.string ⟨#[]⟩) 1 Try.underlying64 hi hz0 hz1 _ _ _ _ l.length rfl rfl rfl rfl (by rw [hz2]; omega) (by unfold maxLen; omega) (Nat.le_refl _) ?_; intro w2 hown2 hgrow2)
  have hB2 : Below w1.heap.size w1 w2 := (Below.refl _ _).grown hgrow2 (Nat.le_refl _) (fun j e => by cases e)
  have hB12 := hB1.trans (hB2.mono hB1.size)
  have ho : w2.ownsRow w1.heap.size 9 1 (.slice (some ⟨w1.heap.size, 0, none⟩) l.length l.length) l.length (wcs l 0) := by
    have e : (madeCells (Value.string ⟨#[]⟩).cells (l.length * 1)).toList = wcs l 0 := by
      rw [show (Value.string ⟨#[]⟩).cells = #[Value.string ⟨#[]⟩] from rfl, toList_madeCells_one]
      simp [wcs]
    rw [e] at hown2
    exact hown2
  have HO := hide ho
  clear hown2 hgrow2 ho hi hz0 hz1 hz2
  go_wp2
  go_loopw [7, 8, 22] (fun u7 u8 i wr => ∃ (k : Nat), k ≤ l.length ∧ i = .int .i64 k ∧ wr.ownsRow w1.heap.size 9 1 (.slice (some ⟨w1.heap.size, 0, none⟩) l.length l.length) l.length (wcs l k) ∧ Below w1.heap.size w1 wr) (fun _ _ i _ => l.length - (intOf i).toNat)
  case atStart => exact ⟨0, Nat.zero_le _, rfl, HO.out, hB2⟩
  case round =>
    clear HO hB12 hB2
    obtain ⟨k, hk, rfl, hown, hB⟩ := hrel
    by_cases hlt : k < l.length
    · rcases HF.out.below hB with ⟨hq, h0⟩ | ⟨a, cap, hq, h0⟩ | ⟨b, off, cap, hq, h0, hcap, hc⟩
      · rw [h0] at hlt; simp at hlt
      · rw [h0] at hlt; simp at hlt
      · cases hq
        obtain ⟨e1, e2⟩ := hc k hlt
        have hm := HG.out k hlt
        obtain ⟨x, y, hxy⟩ : ∃ x y, l.getD k (0, 0) = (x, y) := ⟨_, _, rfl⟩
        rw [hxy] at e1 e2 hm
        simp only at e1 e2
        have HX := hide hxy
        have HO := hide hown
        clear hc hxy hown
        have hk1 : (0 : Int) ≤ (k : Int) := by omega
        have hk2 : (k : Int) < (l.length : Int) := by omega
        go_wp2_with fail
        refine (word_any x y hm _).mono ?_
        rintro e w3 ⟨rfl, hB3⟩
        have hown3 := owns_below (HO.out.alloc (Obj.cells #[Value.int IntKind.i64 x, Value.int IntKind.i64 y] 60)) hB3
        have hB4 : Below w1.heap.size w1 w3 := (hB.alloc hB.size (Obj.cells #[Value.int IntKind.i64 x, Value.int IntKind.i64 y] 60)).trans (hB3.mono (Nat.le_trans hB.size (Nat.le_of_lt (size_new _ _))))
        have hcell := hown3.cellAt k (by omega)
        have hlw : (wcs l k).length = l.length := by have := hown3.1; omega
        have hck : k < (wcs l k).length := by omega
        rw [List.getElem?_eq_getElem hck] at hcell
        generalize (wcs l k)[k] = old at hcell
        have hfr := hown3.frozenAt k
        have HO3 := hide hown3
        generalize hZ : wrd (x, y) = Z
        have HZ := hide hZ
        clear hown3 e1 e2 HO hZ hlw hck
        go_wp2
        go_roundw
        case rel =>
          obtain ⟨hst, hgr⟩ := HO3.out.stored k (Value.string ⟨Z.toArray⟩)
          refine ⟨k + 1, by omega, by go_num, ?_, hB4.setCell (p := ⟨w1.heap.size, k, none⟩) (Nat.le_refl _) _⟩
          rw [← wcs_set l k hlt, HX.out, HZ.out]
          exact hst
        case measure => simp [intOf]; omega
    · have hk' : k = l.length := by omega
      subst hk'
      have hlt1 := hown.lt _ rfl
      have hown' := hown
      have hj := Try.strings_Join w1.heap.size 0 l.length (l.map fun x => ⟨(wrd x).toArray⟩) ⟨#[32]⟩ wr
        (fun j x hx => by
          rw [Nat.zero_add, hown'.cellAt j (by have := (List.getElem?_eq_some_iff.1 hx).1; rw [List.length_map] at this; omega)]
          rw [List.getElem?_map] at hx
          unfold wcs
          rw [List.take_length, Nat.sub_self, List.replicate_zero, List.append_nil, List.getElem?_map]
          cases hq : l[j]? with
          | none => rw [hq] at hx; cases hx
          | some u => rw [hq] at hx; cases hx; rfl) hlt1.2 (by rw [List.length_map]; omega) (by rw [List.length_map]; exact Nat.le_refl _)
        (by rw [List.map_map]; exact (show (Lib.join (l.map wrd) [32]).length ≤ 140737488355328 from by rw [HJ.out]; omega))
      rw [List.length_map, List.map_map] at hj
      have HJ2 := hide hj
      clear hj hown hown'
      go_wp2_with fail
      refine HJ2.out.mono ?_
      rintro e w4 ⟨rfl, hB4⟩
      have hB5 := hB.trans (hB4.mono hB.size)
      rw [show (Lib.join (l.map ((fun x => x.data.toList) ∘ fun x => (⟨(wrd x).toArray⟩ : ByteArray))) (⟨#[32]⟩ : ByteArray).data.toList) = P from HJ.out]
      go_wp2
      go_ret2
      exact ⟨rfl, hB1.trans (hB5.mono hB1.size)⟩
end Go.Proofs.Ytnabnnckhdileaa

/- What the proof stands on, part 15: the contracts of the program's calls that it reaches. -/
import Derived.Test.YtgbkhmiphaefgaaKK14
/- Blocks: Write. -/
namespace Go.Proofs.Ytgbkhmiphaefgaa
open Go.RowKit

theorem puts_len {S : Type} (D : RawD S) : ∀ (t : List UInt8) (x : SS) (s : S) (k : Nat), (puts D x s t k).2.1 ≤ k + t.length
  | [], x, s, k => Nat.le_refl _
  | c :: t, x, s, k => by
    unfold puts
    split
    · have := puts_len D t (x.put D s c).1 (x.put D s c).2.2 (k + 1)
      simp only [List.length_cons]
      omega
    · simp only [List.length_cons]
      omega
theorem aput_len {S : Type} (D : RawD S) (x : SS) (s : S) (t : List UInt8) : (x.aput D s t).2.1 ≤ t.length := by
  unfold SS.aput
  split
  · exact Nat.zero_le _
  split
  · exact Nat.zero_le _
  split
  · exact putV_fits D t s
  · unfold SS.through
    split
    · have := puts_len D t (x.room D s).1 (x.room D s).2.2 0
      omega
    · exact Nat.zero_le _
def SS.bwrite {S : Type} (D : RawD S) (x : SS) (s : S) (t : List UInt8) (size count : Int) : SS × Int × Int × S :=
  if (x.bwant true size count).2 ≠ 0 then (x, 0, (x.bwant true size count).2, s)
  else if (t.length : Int) ≠ (x.bwant true size count).1 then (x, 0, 3, s)
  else ((x.aput D s t).1, wholeV (x.aput D s t).2.1 size, (x.aput D s t).2.2.1, (x.aput D s t).2.2.2)
set_option linter.unusedSimpArgs false in
set_option maxRecDepth 100000 in
set_option maxHeartbeats 8000000 in
theorem bwrite_any {S : Type} {D : RawD S} {T : TypeId} {v : Value} {fr fw : FuncId} {rok wok : S → Prop} {At : World → (Nat → Prop) → S → Prop} (R : RawM D T v fr fw rok wok At) (hT : ∀ s, OAt (fun w O => At w O s)) {G : Nat → S → Prop} (hG : Bears D rok wok G) {w : World} {O P : Nat → Prop} {s : S} {x : SS} (oa ia ba : Option Addr) (oc ic bc : Nat) (t : List UInt8) (ta : Option Addr) (tc : Nat) (size count : Int) (h : SIn w P x (.slice oa x.out.length oc) (.slice ia x.inn.length ic) (.slice ba x.back.length bc)) (hA : At w O s) (hO : ∀ j, O j → j < w.heap.size) (hP : ∀ k, P k → ¬ O k) (hg : G (2 * t.length + 4) s) (hok : x.mode = 1 → t.length ≤ 1048576 → putOk D wok t (putF t) s 0 0) (ho : x.out.length ≤ 140737488351232) (hi : x.inn.length ≤ 140737488351232) (hb : x.back.length ≤ 140737488351232) (ht : Bys w (.slice ta t.length tc) t) (htc : t.length ≤ tc) (hap : 0 < t.length → ∀ k, (Value.slice ta t.length tc).ownBlock = some k → ¬ O k) :
    Calls Try.prog 12 #[.agg #[.bool x.rd, .bool x.wt, .int .i64 x.mode, .int .i64 x.size, .slice oa x.out.length oc, .slice ia x.inn.length ic, .slice ba x.back.length bc, .int .i64 x.dir, .bool x.fin, .bool x.bad, .bool x.closed], .iface T v, .slice ta t.length tc, .int .i64 size, .int .i64 count] w fun e w' => ∃ o' i' b', e = .returned (.tuple #[.agg #[.bool (x.bwrite D s t size count).1.rd, .bool (x.bwrite D s t size count).1.wt, .int .i64 (x.bwrite D s t size count).1.mode, .int .i64 (x.bwrite D s t size count).1.size, o', i', b', .int .i64 (x.bwrite D s t size count).1.dir, .bool (x.bwrite D s t size count).1.fin, .bool (x.bwrite D s t size count).1.bad, .bool (x.bwrite D s t size count).1.closed], .int .i64 (x.bwrite D s t size count).2.1, .int .i64 (x.bwrite D s t size count).2.2.1]) ∧ SOut At w O (x.bwrite D s t size count).1 (x.bwrite D s t size count).2.2.2 o' i' b' w' := by
  have hF2 : ((w.alloc (Obj.cells #[.bool x.rd, .bool x.wt, .int .i64 x.mode, .int .i64 x.size, .slice oa x.out.length oc, .slice ia x.inn.length ic, .slice ba x.back.length bc, .int .i64 x.dir, .bool x.fin, .bool x.bad, .bool x.closed] 35)).alloc (Obj.cells #[.bool false, .bool false, .int .i64 0, .int .i64 0, .slice none 0 0, .slice none 0 0, .slice none 0 0, .int .i64 0, .bool false, .bool false, .bool false] 35)).heap[w.heap.size]? = some (Obj.cells #[.bool x.rd, .bool x.wt, .int .i64 x.mode, .int .i64 x.size, .slice oa x.out.length oc, .slice ia x.inn.length ic, .slice ba x.back.length bc, .int .i64 x.dir, .bool x.fin, .bool x.bad, .bool x.closed] 35) ∧ ((w.alloc (Obj.cells #[.bool x.rd, .bool x.wt, .int .i64 x.mode, .int .i64 x.size, .slice oa x.out.length oc, .slice ia x.inn.length ic, .slice ba x.back.length bc, .int .i64 x.dir, .bool x.fin, .bool x.bad, .bool x.closed] 35)).alloc (Obj.cells #[.bool false, .bool false, .int .i64 0, .int .i64 0, .slice none 0 0, .slice none 0 0, .slice none 0 0, .int .i64 0, .bool false, .bool false, .bool false] 35)).heap[w.heap.size + 1]? = some (Obj.cells #[.bool false, .bool false, .int .i64 0, .int .i64 0, .slice none 0 0, .slice none 0 0, .slice none 0 0, .int .i64 0, .bool false, .bool false, .bool false] 35) ∧ Below w.heap.size w ((w.alloc (Obj.cells #[.bool x.rd, .bool x.wt, .int .i64 x.mode, .int .i64 x.size, .slice oa x.out.length oc, .slice ia x.inn.length ic, .slice ba x.back.length bc, .int .i64 x.dir, .bool x.fin, .bool x.bad, .bool x.closed] 35)).alloc (Obj.cells #[.bool false, .bool false, .int .i64 0, .int .i64 0, .slice none 0 0, .slice none 0 0, .slice none 0 0, .int .i64 0, .bool false, .bool false, .bool false] 35)) ∧ w.heap.size + 1 < ((w.alloc (Obj.cells #[.bool x.rd, .bool x.wt, .int .i64 x.mode, .int .i64 x.size, .slice oa x.out.length oc, .slice ia x.inn.length ic, .slice ba x.back.length bc, .int .i64 x.dir, .bool x.fin, .bool x.bad, .bool x.closed] 35)).alloc (Obj.cells #[.bool false, .bool false, .int .i64 0, .int .i64 0, .slice none 0 0, .slice none 0 0, .slice none 0 0, .int .i64 0, .bool false, .bool false, .bool false] 35)).heap.size := by
    have s1 : (w.alloc (Obj.cells #[.bool x.rd, .bool x.wt, .int .i64 x.mode, .int .i64 x.size, .slice oa x.out.length oc, .slice ia x.inn.length ic, .slice ba x.back.length bc, .int .i64 x.dir, .bool x.fin, .bool x.bad, .bool x.closed] 35)).heap.size = w.heap.size + 1 := Array.size_push ..
    have h2 := heap_alloc_new (w.alloc (Obj.cells #[.bool x.rd, .bool x.wt, .int .i64 x.mode, .int .i64 x.size, .slice oa x.out.length oc, .slice ia x.inn.length ic, .slice ba x.back.length bc, .int .i64 x.dir, .bool x.fin, .bool x.bad, .bool x.closed] 35)) (Obj.cells #[.bool false, .bool false, .int .i64 0, .int .i64 0, .slice none 0 0, .slice none 0 0, .slice none 0 0, .int .i64 0, .bool false, .bool false, .bool false] 35)
    rw [s1] at h2
    exact ⟨((recv_below (w.alloc (Obj.cells #[.bool x.rd, .bool x.wt, .int .i64 x.mode, .int .i64 x.size, .slice oa x.out.length oc, .slice ia x.inn.length ic, .slice ba x.back.length bc, .int .i64 x.dir, .bool x.fin, .bool x.bad, .bool x.closed] 35)) (Obj.cells #[.bool false, .bool false, .int .i64 0, .int .i64 0, .slice none 0 0, .slice none 0 0, .slice none 0 0, .int .i64 0, .bool false, .bool false, .bool false] 35)).block _ (by omega)).trans (heap_alloc_new w (Obj.cells #[.bool x.rd, .bool x.wt, .int .i64 x.mode, .int .i64 x.size, .slice oa x.out.length oc, .slice ia x.inn.length ic, .slice ba x.back.length bc, .int .i64 x.dir, .bool x.fin, .bool x.bad, .bool x.closed] 35)), h2, (recv_below w (Obj.cells #[.bool x.rd, .bool x.wt, .int .i64 x.mode, .int .i64 x.size, .slice oa x.out.length oc, .slice ia x.inn.length ic, .slice ba x.back.length bc, .int .i64 x.dir, .bool x.fin, .bool x.bad, .bool x.closed] 35)).trans ((recv_below (w.alloc (Obj.cells #[.bool x.rd, .bool x.wt, .int .i64 x.mode, .int .i64 x.size, .slice oa x.out.length oc, .slice ia x.inn.length ic, .slice ba x.back.length bc, .int .i64 x.dir, .bool x.fin, .bool x.bad, .bool x.closed] 35)) (Obj.cells #[.bool false, .bool false, .int .i64 0, .int .i64 0, .slice none 0 0, .slice none 0 0, .slice none 0 0, .int .i64 0, .bool false, .bool false, .bool false] 35)).mono (recv_below w (Obj.cells #[.bool x.rd, .bool x.wt, .int .i64 x.mode, .int .i64 x.size, .slice oa x.out.length oc, .slice ia x.inn.length ic, .slice ba x.back.length bc, .int .i64 x.dir, .bool x.fin, .bool x.bad, .bool x.closed] 35)).size), (Array.getElem?_eq_some_iff.1 h2).1⟩
  have HF := hide hF2
  have HR1 := hide (fun W => bwanted_any x oa ia ba oc ic bc T v size count W hi hb)
  have HO := hide hO
  have HIn := hide h
  have HA := hide hA
  have HGs := hide hg
  have HLn := hide (And.intro ho (And.intro hi hb))
  have HT := hide (And.intro ht (And.intro htc (And.intro hap (And.intro hP hok))))
  clear h hA hO hg ho hi hb hF2 ht htc hap hP hok
  obtain ⟨⟨q1, q2⟩, hq⟩ : ∃ q, q = x.bwant true size count := ⟨_, rfl⟩
  by_cases hr : q2 = 0
  case neg =>
    have hun : x.bwrite D s t size count = (x, 0, q2, s) := by unfold SS.bwrite; rw [← hq]; rw [if_pos hr]
    rw [hun]
    rw [← hq] at HR1
    simp only at HR1 ⊢
    clear hun hq
    go_enter Try.func12, Try.ntmps12
    go_wp2_with fail
    generalize ((w.alloc (Obj.cells #[.bool x.rd, .bool x.wt, .int .i64 x.mode, .int .i64 x.size, .slice oa x.out.length oc, .slice ia x.inn.length ic, .slice ba x.back.length bc, .int .i64 x.dir, .bool x.fin, .bool x.bad, .bool x.closed] 35)).alloc (Obj.cells #[.bool false, .bool false, .int .i64 0, .int .i64 0, .slice none 0 0, .slice none 0 0, .slice none 0 0, .int .i64 0, .bool false, .bool false, .bool false] 35)) = w0 at *
    refine (HR1.out w0).mono ?_
    rintro _ w1 ⟨rfl, hB1⟩
    have HB1 := hide (HF.out.2.2.1.trans (hB1.mono HF.out.2.2.1.size))
    have HX1 : Hid (StAt w1 w.heap.size x (.slice oa x.out.length oc) (.slice ia x.inn.length ic) (.slice ba x.back.length bc)) := hide ((hB1.block _ (by have := HF.out.2.2.2; omega)).trans HF.out.1)
    have HZ1 : Hid (w1.heap[w.heap.size + 1]? = some (Obj.cells #[.bool false, .bool false, .int .i64 0, .int .i64 0, .slice none 0 0, .slice none 0 0, .slice none 0 0, .int .i64 0, .bool false, .bool false, .bool false] 35)) := hide ((hB1.block _ HF.out.2.2.2).trans HF.out.2.1)
    have HZs : Hid (w.heap.size + 1 < w1.heap.size) := hide (Nat.lt_of_lt_of_le HF.out.2.2.2 hB1.size)
    obtain ⟨c0, c1, c2, c3, c4, c5, c6, c7, c8, c9, c10⟩ := HX1.out.cs
    clear hB1 HF HR1
    have hb1 : (q2 == 0) = false := by simp [hr]
    have hb2 : (q2 != 0) = true := by simp [hr]
    clear hr
    have HC := hide (kcopied_any x _ _ _ P w1 (HIn.out.below HB1.out) HLn.out.1 HLn.out.2.1 HLn.out.2.2)
    go_wp2_with fail
    refine HC.out.mono ?_
    rintro _ w3 ⟨o3, i3, b3, rfl, h1, h2, h3, hB3, -⟩
    obtain ⟨oa3, oc3, rfl⟩ := owns_slice h1
    obtain ⟨ia3, ic3, rfl⟩ := owns_slice h2
    obtain ⟨ba3, bc3, rfl⟩ := owns_slice h3
    have HZ3 : Hid (w3.heap[w.heap.size + 1]? = some (Obj.cells #[.bool false, .bool false, .int .i64 0, .int .i64 0, .slice none 0 0, .slice none 0 0, .slice none 0 0, .int .i64 0, .bool false, .bool false, .bool false] 35)) := hide ((hB3.block _ HZs.out).trans HZ1.out)
    have H1 := hide h1
    have H2 := hide h2
    have H3 := hide h3
    have HB3 := hide hB3
    clear h1 h2 h3 hB3 HC c0 c1 c2 c3 c4 c5 c6 c7 c8 c9 c10
    have z0 := cell_of_row w3 (w.heap.size + 1) 0 _ _ _ HZ3.out
    have t0 := frozen_of_row w3 (w.heap.size + 1) 0 _ _ HZ3.out
    have z1 := cell_of_row w3 (w.heap.size + 1) 1 _ _ _ HZ3.out
    have t1 := frozen_of_row w3 (w.heap.size + 1) 1 _ _ HZ3.out
    have z2 := cell_of_row w3 (w.heap.size + 1) 2 _ _ _ HZ3.out
    have t2 := frozen_of_row w3 (w.heap.size + 1) 2 _ _ HZ3.out
    have z3 := cell_of_row w3 (w.heap.size + 1) 3 _ _ _ HZ3.out
    have t3 := frozen_of_row w3 (w.heap.size + 1) 3 _ _ HZ3.out
    have z4 := cell_of_row w3 (w.heap.size + 1) 4 _ _ _ HZ3.out
    have t4 := frozen_of_row w3 (w.heap.size + 1) 4 _ _ HZ3.out
    have z5 := cell_of_row w3 (w.heap.size + 1) 5 _ _ _ HZ3.out
    have t5 := frozen_of_row w3 (w.heap.size + 1) 5 _ _ HZ3.out
    have z6 := cell_of_row w3 (w.heap.size + 1) 6 _ _ _ HZ3.out
    have t6 := frozen_of_row w3 (w.heap.size + 1) 6 _ _ HZ3.out
    have z7 := cell_of_row w3 (w.heap.size + 1) 7 _ _ _ HZ3.out
    have t7 := frozen_of_row w3 (w.heap.size + 1) 7 _ _ HZ3.out
    have z8 := cell_of_row w3 (w.heap.size + 1) 8 _ _ _ HZ3.out
    have t8 := frozen_of_row w3 (w.heap.size + 1) 8 _ _ HZ3.out
    have z9 := cell_of_row w3 (w.heap.size + 1) 9 _ _ _ HZ3.out
    have t9 := frozen_of_row w3 (w.heap.size + 1) 9 _ _ HZ3.out
    have z10 := cell_of_row w3 (w.heap.size + 1) 10 _ _ _ HZ3.out
    have t10 := frozen_of_row w3 (w.heap.size + 1) 10 _ _ HZ3.out
    simp at z0 z1 z2 z3 z4 z5 z6 z7 z8 z9 z10
    go_wp2
    obtain ⟨e1, e2⟩ := st_fill w3 (w.heap.size + 1) x (.slice oa3 x.out.length oc3) (.slice ia3 x.inn.length ic3) (.slice ba3 x.back.length bc3) HZ3.out
    refine bodyPost_ret (res_three rfl _ (w.heap.size + 1) rfl x _ _ _ e1) rfl ?_
    exact ⟨_, _, _, rfl, SOut.fin hT (SOut.of_own hT ((hT s).keep HA.out (fun j _ hj => HB1.out.block j hj) HB1.out.size) (fun j e => Nat.lt_of_lt_of_le (HO.out j e) HB1.out.size) H1.out H2.out H3.out HB3.out) HB1.out HZs.out (by omega) HO.out e2⟩
  case pos =>
    subst hr
    have hw0 := bwant_may (x := x) (hr := true) (size := size) (count := count) (by rw [← hq])
    obtain ⟨hs0, hc0, hp0, hp1, hp2⟩ := bytesV_ok (size := size) (count := count) (by rw [hw0.2, ← hq])
    have hq1 : q1 = size * count := by rw [hw0.2, ← hq] at hp0; exact hp0
    rw [← hq] at HR1
    simp only at HR1
    by_cases hn : (t.length : Int) = q1
    case neg =>
      have hun : x.bwrite D s t size count = (x, 0, 3, s) := by
        unfold SS.bwrite
        rw [← hq, if_neg (by simp), if_pos hn]
      rw [hun]
      simp only
      have d1 : ((t.length : Int) != q1) = true := by rw [bne_iff_ne]; exact hn
      have d2 : ((t.length : Int) == q1) = false := by rw [beq_eq_false_iff_ne]; exact hn
      clear hun hq hw0 hs0 hc0 hp0 hp1 hp2 hq1 hn
      go_enter Try.func12, Try.ntmps12
      go_wp2_with fail
      generalize ((w.alloc (Obj.cells #[.bool x.rd, .bool x.wt, .int .i64 x.mode, .int .i64 x.size, .slice oa x.out.length oc, .slice ia x.inn.length ic, .slice ba x.back.length bc, .int .i64 x.dir, .bool x.fin, .bool x.bad, .bool x.closed] 35)).alloc (Obj.cells #[.bool false, .bool false, .int .i64 0, .int .i64 0, .slice none 0 0, .slice none 0 0, .slice none 0 0, .int .i64 0, .bool false, .bool false, .bool false] 35)) = w0 at *
      refine (HR1.out w0).mono ?_
      rintro _ w1 ⟨rfl, hB1⟩
      have HB1 := hide (HF.out.2.2.1.trans (hB1.mono HF.out.2.2.1.size))
      have HX1 : Hid (StAt w1 w.heap.size x (.slice oa x.out.length oc) (.slice ia x.inn.length ic) (.slice ba x.back.length bc)) := hide ((hB1.block _ (by have := HF.out.2.2.2; omega)).trans HF.out.1)
      have HZ1 : Hid (w1.heap[w.heap.size + 1]? = some (Obj.cells #[.bool false, .bool false, .int .i64 0, .int .i64 0, .slice none 0 0, .slice none 0 0, .slice none 0 0, .int .i64 0, .bool false, .bool false, .bool false] 35)) := hide ((hB1.block _ HF.out.2.2.2).trans HF.out.2.1)
      have HZs : Hid (w.heap.size + 1 < w1.heap.size) := hide (Nat.lt_of_lt_of_le HF.out.2.2.2 hB1.size)
      obtain ⟨c0, c1, c2, c3, c4, c5, c6, c7, c8, c9, c10⟩ := HX1.out.cs
      clear hB1 HF HR1
      have HC := hide (kcopied_any x _ _ _ P w1 (HIn.out.below HB1.out) HLn.out.1 HLn.out.2.1 HLn.out.2.2)
      go_wp2_with fail
      refine HC.out.mono ?_
      rintro _ w3 ⟨o3, i3, b3, rfl, h1, h2, h3, hB3, -⟩
      obtain ⟨oa3, oc3, rfl⟩ := owns_slice h1
      obtain ⟨ia3, ic3, rfl⟩ := owns_slice h2
      obtain ⟨ba3, bc3, rfl⟩ := owns_slice h3
      have HZ3 : Hid (w3.heap[w.heap.size + 1]? = some (Obj.cells #[.bool false, .bool false, .int .i64 0, .int .i64 0, .slice none 0 0, .slice none 0 0, .slice none 0 0, .int .i64 0, .bool false, .bool false, .bool false] 35)) := hide ((hB3.block _ HZs.out).trans HZ1.out)
      have H1 := hide h1
      have H2 := hide h2
      have H3 := hide h3
      have HB3 := hide hB3
      clear h1 h2 h3 hB3 HC c0 c1 c2 c3 c4 c5 c6 c7 c8 c9 c10
      have z0 := cell_of_row w3 (w.heap.size + 1) 0 _ _ _ HZ3.out
      have t0 := frozen_of_row w3 (w.heap.size + 1) 0 _ _ HZ3.out
      have z1 := cell_of_row w3 (w.heap.size + 1) 1 _ _ _ HZ3.out
      have t1 := frozen_of_row w3 (w.heap.size + 1) 1 _ _ HZ3.out
      have z2 := cell_of_row w3 (w.heap.size + 1) 2 _ _ _ HZ3.out
      have t2 := frozen_of_row w3 (w.heap.size + 1) 2 _ _ HZ3.out
      have z3 := cell_of_row w3 (w.heap.size + 1) 3 _ _ _ HZ3.out
      have t3 := frozen_of_row w3 (w.heap.size + 1) 3 _ _ HZ3.out
      have z4 := cell_of_row w3 (w.heap.size + 1) 4 _ _ _ HZ3.out
      have t4 := frozen_of_row w3 (w.heap.size + 1) 4 _ _ HZ3.out
      have z5 := cell_of_row w3 (w.heap.size + 1) 5 _ _ _ HZ3.out
      have t5 := frozen_of_row w3 (w.heap.size + 1) 5 _ _ HZ3.out
      have z6 := cell_of_row w3 (w.heap.size + 1) 6 _ _ _ HZ3.out
      have t6 := frozen_of_row w3 (w.heap.size + 1) 6 _ _ HZ3.out
      have z7 := cell_of_row w3 (w.heap.size + 1) 7 _ _ _ HZ3.out
      have t7 := frozen_of_row w3 (w.heap.size + 1) 7 _ _ HZ3.out
      have z8 := cell_of_row w3 (w.heap.size + 1) 8 _ _ _ HZ3.out
      have t8 := frozen_of_row w3 (w.heap.size + 1) 8 _ _ HZ3.out
      have z9 := cell_of_row w3 (w.heap.size + 1) 9 _ _ _ HZ3.out
      have t9 := frozen_of_row w3 (w.heap.size + 1) 9 _ _ HZ3.out
      have z10 := cell_of_row w3 (w.heap.size + 1) 10 _ _ _ HZ3.out
      have t10 := frozen_of_row w3 (w.heap.size + 1) 10 _ _ HZ3.out
      simp at z0 z1 z2 z3 z4 z5 z6 z7 z8 z9 z10
      go_wp2
      obtain ⟨e1, e2⟩ := st_fill w3 (w.heap.size + 1) x (.slice oa3 x.out.length oc3) (.slice ia3 x.inn.length ic3) (.slice ba3 x.back.length bc3) HZ3.out
      refine bodyPost_ret (res_three rfl _ (w.heap.size + 1) rfl x _ _ _ e1) rfl ?_
      exact ⟨_, _, _, rfl, SOut.fin hT (SOut.of_own hT ((hT s).keep HA.out (fun j _ hj => HB1.out.block j hj) HB1.out.size) (fun j e => Nat.lt_of_lt_of_le (HO.out j e) HB1.out.size) H1.out H2.out H3.out HB3.out) HB1.out HZs.out (by omega) HO.out e2⟩
    case pos =>
      subst hn
      obtain ⟨Q, hQ⟩ : ∃ Q, Q = x.aput D s t := ⟨_, rfl⟩
      have hun : x.bwrite D s t size count = (Q.1, wholeV Q.2.1 size, Q.2.2.1, Q.2.2.2) := by
        unfold SS.bwrite
        rw [← hq, if_neg (by simp), if_neg (by simp), hQ]
      have hlen : Q.2.1 ≤ t.length := by rw [hQ]; exact aput_len D x s t
      rw [hun]
      have hsz : 0 < Q.2.1 → size ≠ 0 := fun e e2 => by
        have h0 : size * count = 0 := by rw [e2, Int.zero_mul]
        omega
      obtain ⟨x', taken, E, s'⟩ := Q
      simp only at hlen hsz ⊢
      have HW := hide (fun W => bwhole_any taken size W hsz (by omega) hs0)
      have d1 : ((t.length : Int) != (t.length : Int)) = false := by simp
      have d2 : ((t.length : Int) == (t.length : Int)) = true := by simp
      have HVs := hide hQ
      clear hq hun hw0 hs0 hc0 hp0 hp1 hp2 hq1 hQ hlen hsz
      generalize wholeV taken size = wv at *
      go_enter Try.func12, Try.ntmps12
      go_wp2_with fail
      generalize ((w.alloc (Obj.cells #[.bool x.rd, .bool x.wt, .int .i64 x.mode, .int .i64 x.size, .slice oa x.out.length oc, .slice ia x.inn.length ic, .slice ba x.back.length bc, .int .i64 x.dir, .bool x.fin, .bool x.bad, .bool x.closed] 35)).alloc (Obj.cells #[.bool false, .bool false, .int .i64 0, .int .i64 0, .slice none 0 0, .slice none 0 0, .slice none 0 0, .int .i64 0, .bool false, .bool false, .bool false] 35)) = w0 at *
      refine (HR1.out w0).mono ?_
      rintro _ w1 ⟨rfl, hB1⟩
      have HB1 := hide (HF.out.2.2.1.trans (hB1.mono HF.out.2.2.1.size))
      have HX1 : Hid (StAt w1 w.heap.size x (.slice oa x.out.length oc) (.slice ia x.inn.length ic) (.slice ba x.back.length bc)) := hide ((hB1.block _ (by have := HF.out.2.2.2; omega)).trans HF.out.1)
      have HZ1 : Hid (w1.heap[w.heap.size + 1]? = some (Obj.cells #[.bool false, .bool false, .int .i64 0, .int .i64 0, .slice none 0 0, .slice none 0 0, .slice none 0 0, .int .i64 0, .bool false, .bool false, .bool false] 35)) := hide ((hB1.block _ HF.out.2.2.2).trans HF.out.2.1)
      have HZs : Hid (w.heap.size + 1 < w1.heap.size) := hide (Nat.lt_of_lt_of_le HF.out.2.2.2 hB1.size)
      obtain ⟨c0, c1, c2, c3, c4, c5, c6, c7, c8, c9, c10⟩ := HX1.out.cs
      clear hB1 HF HR1
      have HGa := lput_any R hT hG (w := w1) (O := O) t ta tc (HIn.out.below HB1.out) ((hT s).keep HA.out (fun j _ hj => HB1.out.block j hj) HB1.out.size) (fun j e => Nat.lt_of_lt_of_le (HO.out j e) HB1.out.size) HT.out.2.2.2.1 HGs.out HT.out.2.2.2.2 HLn.out.1 HLn.out.2.1 HLn.out.2.2 (HT.out.1.below HB1.out) HT.out.2.1 HT.out.2.2.1
      rw [← HVs.out] at HGa
      simp only at HGa
      have HG1 := hide HGa
      clear HGa HVs
      go_wp2_with fail
      refine HG1.out.mono ?_
      rintro _ w2 ⟨o', i', b', rfl, hG2⟩
      obtain ⟨o2, oc2, rfl, -⟩ := hG2.choose_spec.1.so
      obtain ⟨i2, ic2, rfl, -⟩ := hG2.choose_spec.1.si
      obtain ⟨b2, bc2, rfl, -⟩ := hG2.choose_spec.1.sb
      have hT2 : Turned O w1 w2 := hG2.choose_spec.2.2.2.2
      have HG2 := hide hG2
      clear hG2 HG1
      have HX2 : StAt w2 w.heap.size x _ _ _ := (hT2.block _ HX1.out.lt (fun e => by have := HO.out _ e; omega)).trans HX1.out
      have HZ2 : Hid (w2.heap[w.heap.size + 1]? = some (Obj.cells #[.bool false, .bool false, .int .i64 0, .int .i64 0, .slice none 0 0, .slice none 0 0, .slice none 0 0, .int .i64 0, .bool false, .bool false, .bool false] 35)) := hide ((hT2.block _ HZs.out (fun e => by have := HO.out _ e; omega)).trans HZ1.out)
      obtain ⟨k1, k2⟩ := st_fill2 w2 w.heap.size x x' _ _ _ (.slice o2 x'.out.length oc2) (.slice i2 x'.inn.length ic2) (.slice b2 x'.back.length bc2) HX2
      have HF1 := hide k1
      have HF2 := hide k2
      clear c0 c1 c2 c3 c4 c5 c6 c7 c8 c9 c10
      obtain ⟨c0, c1, c2, c3, c4, c5, c6, c7, c8, c9, c10⟩ := HX2.cs
      have f0 := HX2.soft 0
      have f1 := HX2.soft 1
      have f2 := HX2.soft 2
      have f3 := HX2.soft 3
      have f4 := HX2.soft 4
      have f5 := HX2.soft 5
      have f6 := HX2.soft 6
      have f7 := HX2.soft 7
      have f8 := HX2.soft 8
      have f9 := HX2.soft 9
      have f10 := HX2.soft 10
      clear hT2 HX2 k1 k2
      unfold filled at HF1 HF2
      go_upto_region 7 with fail
      have HZ3 : Hid ((((((((((((w2.setCell ⟨w.heap.size, 0, none⟩ (.bool x'.rd)).setCell ⟨w.heap.size, 1, none⟩ (.bool x'.wt)).setCell ⟨w.heap.size, 2, none⟩ (.int .i64 x'.mode)).setCell ⟨w.heap.size, 3, none⟩ (.int .i64 x'.size)).setCell ⟨w.heap.size, 4, none⟩ (.slice o2 x'.out.length oc2)).setCell ⟨w.heap.size, 5, none⟩ (.slice i2 x'.inn.length ic2)).setCell ⟨w.heap.size, 6, none⟩ (.slice b2 x'.back.length bc2)).setCell ⟨w.heap.size, 7, none⟩ (.int .i64 x'.dir)).setCell ⟨w.heap.size, 8, none⟩ (.bool x'.fin)).setCell ⟨w.heap.size, 9, none⟩ (.bool x'.bad)).setCell ⟨w.heap.size, 10, none⟩ (.bool x'.closed)).heap[w.heap.size + 1]? = some (Obj.cells #[.bool false, .bool false, .int .i64 0, .int .i64 0, .slice none 0 0, .slice none 0 0, .slice none 0 0, .int .i64 0, .bool false, .bool false, .bool false] 35)) := hide ((HF2.out.block _ (Array.getElem?_eq_some_iff.1 HZ2.out).1 (by omega)).trans HZ2.out)
      generalize (((((((((((w2.setCell ⟨w.heap.size, 0, none⟩ (.bool x'.rd)).setCell ⟨w.heap.size, 1, none⟩ (.bool x'.wt)).setCell ⟨w.heap.size, 2, none⟩ (.int .i64 x'.mode)).setCell ⟨w.heap.size, 3, none⟩ (.int .i64 x'.size)).setCell ⟨w.heap.size, 4, none⟩ (.slice o2 x'.out.length oc2)).setCell ⟨w.heap.size, 5, none⟩ (.slice i2 x'.inn.length ic2)).setCell ⟨w.heap.size, 6, none⟩ (.slice b2 x'.back.length bc2)).setCell ⟨w.heap.size, 7, none⟩ (.int .i64 x'.dir)).setCell ⟨w.heap.size, 8, none⟩ (.bool x'.fin)).setCell ⟨w.heap.size, 9, none⟩ (.bool x'.bad)).setCell ⟨w.heap.size, 10, none⟩ (.bool x'.closed)) = w3 at *
      clear c0 c1 c2 c3 c4 c5 c6 c7 c8 c9 c10 f0 f1 f2 f3 f4 f5 f6 f7 f8 f9 f10
      have HSd : Hid (StAt w3.drew w.heap.size x' (.slice o2 x'.out.length oc2) (.slice i2 x'.inn.length ic2) (.slice b2 x'.back.length bc2)) := hide HF1.out
      obtain ⟨k1, k2⟩ := st_fill w3.drew (w.heap.size + 1) x' (.slice o2 x'.out.length oc2) (.slice i2 x'.inn.length ic2) (.slice b2 x'.back.length bc2) HZ3.out
      have HK1 := hide k1
      have HK2 := hide k2
      have HSf := hide (HSd.out.turned k2 (by omega))
      clear k1 k2 HX1 HZ1 HZ2 HF1
      unfold filled at HK1 HK2 HSf
      have HZd : Hid (w3.drew.heap[w.heap.size + 1]? = some (Obj.cells #[.bool false, .bool false, .int .i64 0, .int .i64 0, .slice none 0 0, .slice none 0 0, .slice none 0 0, .int .i64 0, .bool false, .bool false, .bool false] 35)) := hide HZ3.out
      have HFin : Hid (∀ w4, Turned (fun k => k = w.heap.size + 1) w3.drew w4 → SOut At w O x' s' (.slice o2 x'.out.length oc2) (.slice i2 x'.inn.length ic2) (.slice b2 x'.back.length bc2) w4) := hide (fun w4 t => by
        have hz := HZs.out
        obtain ⟨O', h1, h2, h3, h4, h5⟩ := HG2.out
        have z1 := HB1.out.size
        have z2 := h5.size
        have z3 := HF2.out.size
        have z4 := t.size
        have z5 : w3.drew.heap.size = w3.heap.size := rfl
        have tt : Turned (fun k => w.heap.size ≤ k ∧ k < w1.heap.size) w2 w4 := (HF2.out.mono fun k e => (by have e : k = w.heap.size := e; omega : w.heap.size ≤ k ∧ k < w1.heap.size)).trans ((Turned.of_below (S := fun k => w.heap.size ≤ k ∧ k < w1.heap.size) (Below.refl _ w3).drew).trans (t.mono fun k e => (by have e : k = w.heap.size + 1 := e; omega : w.heap.size ≤ k ∧ k < w1.heap.size)) (fun _ _ e => e)) (fun _ _ e => e)
        have hno2 : ∀ j, O' j → ¬ (w.heap.size ≤ j ∧ j < w1.heap.size) := fun j e e2 => by
          rcases h4 j e with e3 | e3
          · have := HO.out j e3; omega
          · omega
        exact ⟨O', (h1.turned tt fun k e _ e' => by have := e.1; omega).mono fun k e => ⟨by have := e.1; omega, e.2.1, by have := e.2.2; omega⟩, (hT s').keep h2 (fun j e hj => tt.block j hj (hno2 j e)) (by omega), fun j e => by have := h3 j e; omega, fun k e => (h4 k e).imp id (fun e => by omega), ((Turned.of_below (S := O) HB1.out).trans h5 (fun _ _ e => e)).trans tt (fun k hk e => by omega)⟩)
      refine wp_region_noPanic ?_
      refine wp_region_held_drew (S := fun W => StAt W w.heap.size x' (.slice o2 x'.out.length oc2) (.slice i2 x'.inn.length ic2) (.slice b2 x'.back.length bc2)) (by kernel_rfl) (HSd.out) (fun hHeld => ?_)
      refine wpAnyH_take (i := 0) (oi := ?_) (v := ?_) ?_ (by kernel_rfl) (by kernel_rfl) (by kernel_rfl) (fun _ _ _ h => (h : False).elim) (Or.inl ⟨?_, ?_⟩) hHeld ?_
      rotate_left 2
      · (simp only [List.getElem?_toArray, List.getElem?_cons_zero]; rfl)
      · rfl
      · (intro W hSw; obtain ⟨m0, m1, m2, m3, m4, m5, m6, m7, m8, m9, m10⟩ := StAt.cs hSw; go_simp <;> with_reducible rfl)
      try simp only [Act.put, List.setIfInBounds_toArray, List.set_cons_zero, List.set_cons_succ]
      refine wpAnyH_take (i := 1) (oi := ?_) (v := ?_) ?_ (by kernel_rfl) (by kernel_rfl) (by kernel_rfl) (fun _ _ _ h => (h : False).elim) (Or.inl ⟨?_, ?_⟩) hHeld ?_
      rotate_left 2
      · (simp only [List.getElem?_toArray, List.getElem?_cons_zero, List.getElem?_cons_succ]; rfl)
      · rfl
      · (intro W hSw; obtain ⟨m0, m1, m2, m3, m4, m5, m6, m7, m8, m9, m10⟩ := StAt.cs hSw; go_simp <;> with_reducible rfl)
      try simp only [Act.put, List.setIfInBounds_toArray, List.set_cons_zero, List.set_cons_succ]
      refine wpAnyH_take (i := 2) (oi := ?_) (v := ?_) ?_ (by kernel_rfl) (by kernel_rfl) (by kernel_rfl) (fun _ _ _ h => (h : False).elim) (Or.inl ⟨?_, ?_⟩) hHeld ?_
      rotate_left 2
      · (simp only [List.getElem?_toArray, List.getElem?_cons_zero, List.getElem?_cons_succ]; rfl)
      · rfl
      · (intro W hSw; obtain ⟨m0, m1, m2, m3, m4, m5, m6, m7, m8, m9, m10⟩ := StAt.cs hSw; go_simp <;> with_reducible rfl)
      try simp only [Act.put, List.setIfInBounds_toArray, List.set_cons_zero, List.set_cons_succ]
      refine wpAnyH_take (i := 4) (oi := ?_) (v := ?_) ?_ (by kernel_rfl) (by kernel_rfl) (by kernel_rfl) (fun _ _ _ h => (h : False).elim) (Or.inl ⟨?_, ?_⟩) hHeld ?_
      rotate_left 2
      · (simp only [List.getElem?_toArray, List.getElem?_cons_zero, List.getElem?_cons_succ]; rfl)
      · rfl
      · (intro W hSw; obtain ⟨m0, m1, m2, m3, m4, m5, m6, m7, m8, m9, m10⟩ := StAt.cs hSw; go_simp <;> with_reducible rfl)
      try simp only [Act.put, List.setIfInBounds_toArray, List.set_cons_zero, List.set_cons_succ]
      refine wpAnyH_ready (rs := [3]) (by kernel_rfl) (by simp) ?_
      refine AllReadyH.cons (o := ?_) ?_ (fun K' hK => ?_) AllReadyH.nil
      rotate_left 1
      · (simp only [List.getElem?_toArray, List.getElem?_cons_zero, List.getElem?_cons_succ]; rfl)
      go_simp
      go_at_call 25
      refine (HW.out _).mono ?_
      rintro _ _ ⟨rfl, rfl⟩
      refine hK.out _ _ (HSd.out) (fun hHeld2 => ?_)
      clear hK K' hHeld
      have hHeld := hHeld2
      clear hHeld2
      try simp only [Act.put, List.setIfInBounds_toArray, List.set_cons_zero, List.set_cons_succ]
      generalize w3.drew = w3d at *
      have z0 := cell_of_row w3d (w.heap.size + 1) 0 _ _ _ HZd.out
      have t0 := frozen_of_row w3d (w.heap.size + 1) 0 _ _ HZd.out
      have z1 := cell_of_row w3d (w.heap.size + 1) 1 _ _ _ HZd.out
      have t1 := frozen_of_row w3d (w.heap.size + 1) 1 _ _ HZd.out
      have z2 := cell_of_row w3d (w.heap.size + 1) 2 _ _ _ HZd.out
      have t2 := frozen_of_row w3d (w.heap.size + 1) 2 _ _ HZd.out
      have z3 := cell_of_row w3d (w.heap.size + 1) 3 _ _ _ HZd.out
      have t3 := frozen_of_row w3d (w.heap.size + 1) 3 _ _ HZd.out
      have z4 := cell_of_row w3d (w.heap.size + 1) 4 _ _ _ HZd.out
      have t4 := frozen_of_row w3d (w.heap.size + 1) 4 _ _ HZd.out
      have z5 := cell_of_row w3d (w.heap.size + 1) 5 _ _ _ HZd.out
      have t5 := frozen_of_row w3d (w.heap.size + 1) 5 _ _ HZd.out
      have z6 := cell_of_row w3d (w.heap.size + 1) 6 _ _ _ HZd.out
      have t6 := frozen_of_row w3d (w.heap.size + 1) 6 _ _ HZd.out
      have z7 := cell_of_row w3d (w.heap.size + 1) 7 _ _ _ HZd.out
      have t7 := frozen_of_row w3d (w.heap.size + 1) 7 _ _ HZd.out
      have z8 := cell_of_row w3d (w.heap.size + 1) 8 _ _ _ HZd.out
      have t8 := frozen_of_row w3d (w.heap.size + 1) 8 _ _ HZd.out
      have z9 := cell_of_row w3d (w.heap.size + 1) 9 _ _ _ HZd.out
      have t9 := frozen_of_row w3d (w.heap.size + 1) 9 _ _ HZd.out
      have z10 := cell_of_row w3d (w.heap.size + 1) 10 _ _ _ HZd.out
      have t10 := frozen_of_row w3d (w.heap.size + 1) 10 _ _ HZd.out
      simp at z0 z1 z2 z3 z4 z5 z6 z7 z8 z9 z10
      refine wpAnyH_ready (rs := [5]) (by kernel_rfl) (by simp) ?_
      refine AllReadyH.cons (o := ?_) ?_ (fun K' hK => ?_) AllReadyH.nil
      rotate_left 1
      · (simp only [List.getElem?_toArray, List.getElem?_cons_zero, List.getElem?_cons_succ]; rfl)
      go_simp
      refine hK.out _ _ (HSf.out) (fun hHeld2 => ?_)
      clear hK K' hHeld
      have hHeld := hHeld2
      clear hHeld2
      try simp only [Act.put, List.setIfInBounds_toArray, List.set_cons_zero, List.set_cons_succ]
      refine wpAnyH_take (i := 6) (oi := ?_) (v := ?_) ?_ (by kernel_rfl) (by kernel_rfl) (by kernel_rfl) (fun _ _ _ h => (h : False).elim) (Or.inl ⟨?_, ?_⟩) hHeld ?_
      rotate_left 2
      · (simp only [List.getElem?_toArray, List.getElem?_cons_zero, List.getElem?_cons_succ]; rfl)
      · rfl
      · (intro W hSw; obtain ⟨m0, m1, m2, m3, m4, m5, m6, m7, m8, m9, m10⟩ := StAt.cs hSw; go_simp <;> with_reducible rfl)
      try simp only [Act.put, List.setIfInBounds_toArray, List.set_cons_zero, List.set_cons_succ]
      refine wpAnyH_take (i := 7) (oi := ?_) (v := ?_) ?_ (by kernel_rfl) (by kernel_rfl) (by kernel_rfl) (fun _ _ _ h => (h : False).elim) (Or.inl ⟨?_, ?_⟩) hHeld ?_
      rotate_left 2
      · (simp only [List.getElem?_toArray, List.getElem?_cons_zero, List.getElem?_cons_succ]; rfl)
      · rfl
      · (intro W hSw; obtain ⟨m0, m1, m2, m3, m4, m5, m6, m7, m8, m9, m10⟩ := StAt.cs hSw; go_simp <;> with_reducible rfl)
      try simp only [Act.put, List.setIfInBounds_toArray, List.set_cons_zero, List.set_cons_succ]
      refine wpAnyH_done (by kernel_rfl) ?_ _
      refine NoPanic.normal ?_
      clear hHeld
      go_wp2
      refine bodyPost_ret (res_three rfl _ (w.heap.size + 1) rfl x' _ _ _ HK1.out) rfl ?_
      exact ⟨_, _, _, rfl, HFin.out _ HK2.out⟩
end Go.Proofs.Ytgbkhmiphaefgaa

/- Lines: lines that are put and got, as values. -/
namespace Go.Proofs.Ytgbkhmiphaefgaa
open Go.RowKit

theorem thr_puts : ∀ (t : List UInt8) (x : SS) (S : MS) (k : Nat), Thr x S → S.l.length + x.out.length + t.length ≤ 1048576 → ∃ x' S', puts msR x S t k = (x', k + t.length, 0, S') ∧ Thr x' S' ∧ S'.l ++ x'.out = S.l ++ x.out ++ t
  | [], x, S, k, h, _ => ⟨x, S, rfl, h, by simp⟩
  | c :: t, x, S, k, h, hr => by
    obtain ⟨p1, p2, p3⟩ := thr_put h c (by simp at hr; omega)
    have hl : (x.put msR S c).2.2.l.length + (x.put msR S c).1.out.length = S.l.length + x.out.length + 1 := by
      have := congrArg List.length p3
      simp only [List.length_append, List.length_cons, List.length_nil] at this
      omega
    obtain ⟨x', S', q1, q2, q3⟩ := thr_puts t _ _ (k + 1) p2 (by simp only [List.length_cons] at hr; omega)
    refine ⟨x', S', ?_, q2, ?_⟩
    · show (if (x.put msR S c).2.1 = 0 then _ else _) = _
      rw [if_pos p1, q1]
      simp only [List.length_cons, Prod.mk.injEq, and_true, true_and]
      omega
    · rw [q3, p3, List.append_assoc]
      rfl
theorem thr_aput {x : SS} {S : MS} (h : Thr x S) (t : List UInt8) (hr : S.l.length + x.out.length + t.length ≤ 1048576) : ∃ x' S', x.aput msR S t = (x', t.length, 0, S') ∧ Thr x' S' ∧ S'.l ++ x'.out = S.l ++ x.out ++ t := by
  have hp : x.prefuse true t.length 1048576 = 0 := by
    unfold SS.prefuse
    rw [if_neg (by simp [h.refuse]), if_neg (by omega)]
  unfold SS.aput
  by_cases ht0 : t.length = 0
  · rw [if_pos (.inr ht0), hp, ht0]
    exact ⟨x, S, rfl, h, by rw [List.length_eq_zero_iff.1 ht0, List.append_nil]⟩
  · rw [if_neg (by simp [hp, ht0]), if_neg (by simp [h.noWrite])]
    by_cases hm : x.mode = 1
    · rw [if_pos hm]
      have hx := h.o1 hm
      unfold SS.once
      rw [ms_put S t h.pl h.room (by omega)]
      refine ⟨_, _, rfl, ⟨h.rd, h.wt, h.m1, h.m3, h.s1, h.s2, h.ol, h.o1, h.inn, h.back, h.fin, h.bad, h.closed, .inl rfl, by simp, rfl⟩, ?_⟩
      show S.l ++ t ++ x.out = S.l ++ x.out ++ t
      rw [hx, List.append_nil, List.append_nil]
    · rw [if_neg hm]
      have hrm : x.room msR S = (x, 0, S) := by
        unfold SS.room
        rw [if_pos h.ol]
      obtain ⟨x', S', q1, q2, q3⟩ := thr_puts t x S 0 h hr
      refine ⟨x', S', ?_, q2, q3⟩
      unfold SS.through
      rw [hrm, if_pos rfl, q1, Nat.zero_add]
end Go.Proofs.Ytgbkhmiphaefgaa

/- Lines: PutLine. -/
namespace Go.Proofs.Ytgbkhmiphaefgaa
open Go.RowKit


end Go.Proofs.Ytgbkhmiphaefgaa

/- Two variables that hold states, each beside a Raw of its own; all of it apart. -/
namespace Go.Proofs.Ytgbkhmiphaefgaa
open Go.RowKit

def Us (g : Nat) (O : Nat → Prop) (o i b : Value) (k : Nat) : Prop := k = g ∨ O k ∨ o.ownBlock = some k ∨ i.ownBlock = some k ∨ b.ownBlock = some k
end Go.Proofs.Ytgbkhmiphaefgaa

/- Position: Tell, Seek and Rewind, as values, over any Raw that is one. -/
namespace Go.Proofs.Ytgbkhmiphaefgaa
open Go.RowKit

end Go.Proofs.Ytgbkhmiphaefgaa

/- Position over memory that grows: values. -/
namespace Go.Proofs.Ytgbkhmiphaefgaa
open Go.RowKit

end Go.Proofs.Ytgbkhmiphaefgaa

/- PositionCounts: values; a variable that stays while its Raw goes on. -/
namespace Go.Proofs.Ytgbkhmiphaefgaa
open Go.RowKit

end Go.Proofs.Ytgbkhmiphaefgaa

/- LinesBack: what is kept beside a stream. -/
namespace Go.Proofs.Ytgbkhmiphaefgaa
open Go.RowKit

theorem LV.by15 {S1 S2 : Type} {A1 : World → (Nat → Prop) → S1 → Prop} {A2 : World → (Nat → Prop) → S2 → Prop} (hT1 : ∀ s, OAt (fun w O => A1 w O s)) (hT2 : ∀ s, OAt (fun w O => A2 w O s)) {w w1 : World} {B g : Nat} {O P : Nat → Prop} {x x' : SS} {s s' : S2} {s1 : S1} {o i b o' i' b' : Value} (h : LV A2 w B g O x s o i b) (hC : A1 w P s1) (hd : ∀ k, Us g O o i b k → ¬ P k) (hP : ∀ k, P k → k < w.heap.size) (hB : B ≤ w.heap.size) (hS : SOut A2 w O x' s' o' i' b' w1) :
    StAt w1 g x o i b ∧ (∃ O', LV A2 (filled w1 g x' o' i' b') B g O' x' s' o' i' b' ∧ A1 (filled w1 g x' o' i' b') P s1 ∧ (∀ k, Us g O' o' i' b' k → ¬ P k) ∧ (∀ k, P k → k < (filled w1 g x' o' i' b').heap.size)) ∧ Turned (fun k => B ≤ k) w (filled w1 g x' o' i' b') := by
  obtain ⟨hst, -, ht⟩ := LV.next hT2 h hB hS
  obtain ⟨O', q1, q2, q3, q4, q5⟩ := hS
  have hl := LV.next1 hT2 h hB O' q1 q2 q3 q4 q5
  obtain ⟨-, e2⟩ := st_fill2 w1 g x x' o i b o' i' b' hst
  have hz := q5.size
  have hz2 := e2.size
  refine ⟨hst, ⟨O', hl, (hT1 s1).keep ((hT1 s1).keep hC (fun j e hj => q5.block j hj (fun e' => hd j (.inr (.inl e')) e)) hz) (fun j e hj => e2.block j hj (fun e' => hd j (.inl e') e)) hz2, fun k e e' => ?_, fun k e => by have := hP k e; omega⟩, ht⟩
  have hlt := hP k e'
  rcases e with e | e | e | e | e
  · exact hd k (.inl e) e'
  · rcases q4 k e with e | e
    · exact hd k (.inr (.inl e)) e'
    · omega
  · have := (q1.po k e).1; omega
  · have := (q1.pi k e).1; omega
  · have := (q1.pb k e).1; omega
end Go.Proofs.Ytgbkhmiphaefgaa

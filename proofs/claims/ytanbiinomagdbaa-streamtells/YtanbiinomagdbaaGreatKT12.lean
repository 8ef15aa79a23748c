/- What the proof stands on, part 12: the contracts of the program's calls that it reaches. -/
import Derived.Test.YtanbiinomagdbaaGreatKT11
import Derived.Lib.MinMax
import Derived.Defers
import Derived.Lib.BufferMore
import Derived.Deep.LoopGhost
import Derived.Laws.CopyOwn
import Derived.Lib.SlBytesConst
/- Put, over any Raw. -/
namespace Go.Proofs.YtanbiinomagdbaaGreat
open Go.RowKit Go.Maps

theorem spliced_bys {W : World} {g d cap : Nat} {cur : List Value} {l : List UInt8} (hW : W.heap[g]? = some (.cells (splice cur d (l.map bv)).toArray 5 (0, 0))) (hf : d + l.length ≤ cur.length) (h0 : 0 < l.length) : Bys W (.slice (some ⟨g, d, none⟩) l.length cap) l := by
  refine .inr (.inr ⟨g, d, cap, rfl, h0, fun j hj => ?_⟩)
  rw [cell_of_row _ _ _ _ _ _ hW, List.getElem?_toArray, splice_get _ _ _ _ (by simpa using hf), if_neg (by omega), if_pos (by rw [List.length_map]; omega), Nat.add_sub_cancel_left]
  simp [hj, bv]
set_option maxRecDepth 100000 in
set_option maxHeartbeats 4000000 in
theorem rput_any {S : Type} {D : RawD S} {T : TypeId} {v : Value} {fr fw : FuncId} {rok wok : S → Prop} {At : World → (Nat → Prop) → S → Prop} (R : RawM D T v fr fw rok wok At) {w : World} {O : Nat → Prop} {s : S} (bs : List UInt8) (ba : Option Addr) (bc : Nat) (h : At w O s) (hO : ∀ j, O j → j < w.heap.size) (hb : Bys w (.slice ba bs.length bc) bs) (hcap : bs.length ≤ bc) (h2 : bs.length ≤ 1048576) (hap : 0 < bs.length → ∀ k, (Value.slice ba bs.length bc).ownBlock = some k → ¬ O k) (hok : putOk D wok bs (putF bs) s 0 0) :
    Calls Tryz.prog 191 #[.iface T v, .slice ba bs.length bc] w fun e w' => e = .returned (.tuple #[.int .i64 (putV D bs (putF bs) s 0 0).1, .int .i64 (putV D bs (putF bs) s 0 0).2.1]) ∧ RStep At w O (putV D bs (putF bs) s 0 0).2.2 w' := by
  obtain ⟨i0, hi, hz0, hz1, hz2⟩ := info_parts Tryz.infoB
  have hm := R.mwrite
  have hcr := R.cwrite
  have HA := hide h
  have HOk := hide hok
  have HR := hide R
  have HOl := hide hO
  have HBb := hide hb
  have HAp := hide hap
  have hn1 : ¬ (1048576 : Int) < (bs.length : Int) := by omega
  clear h hok R hO hb hap
  obtain ⟨F, hF⟩ : ∃ F, F = putF bs := ⟨_, rfl⟩
  have HF := hide hF
  rw [← hF] at HOk ⊢
  clear hF
  go_enter Tryz.func191, Tryz.ntmps191
  go_wp2_with (at_make; refine wpList_make_full _ rfl _ _ 40 rfl w.heap.size 5 i0 (.int .u8 0) 1 Tryz.underlying40 hi hz0 hz1 _ _ _ _ bs.length rfl rfl rfl rfl (by rw [hz2]; omega) (by unfold maxLen; omega) (Nat.le_refl _) ?_; intro w1 hown1 hgrow1; obtain ⟨cur, hcl, HRw, hB1⟩ := Te_made_row hown1 hgrow1; clear hown1 hgrow1)
  have hs1 : w.heap.size < w1.heap.size := (Array.getElem?_eq_some_iff.1 HRw.out).1
  have HB1 := hide hB1
  have HRw0 : Hid (∃ cur : List Value, w1.heap[w.heap.size]? = some (.cells cur.toArray 5 (0, 0)) ∧ cur.length = bs.length) := hide ⟨cur, HRw.out, hcl⟩
  clear HRw hB1 hcl
  go_loopw [7, 8] (fun tv rv wr => ∃ (k d t : Nat) (s' : S), tv = .int .i64 d ∧ rv = .int .i64 t ∧ d ≤ bs.length ∧ t < 8192 ∧ (bs.length - d) * 8192 + (8192 - t) ≤ k ∧ Hid (∃ O', At wr O' s' ∧ ∀ j, O' j → O j ∨ w1.heap.size ≤ j) ∧ Hid (∃ cur : List Value, wr.heap[w.heap.size]? = some (.cells cur.toArray 5 (0, 0)) ∧ cur.length = bs.length) ∧ Hid (putOk D wok bs k s' d t ∧ putV D bs k s' d t = putV D bs F s 0 0) ∧ Hid (Turned O w wr) ∧ w1.heap.size ≤ wr.heap.size) (fun tv rv _ => (bs.length - (intOf tv).toNat) * 8192 + (8192 - (intOf rv).toNat))
  case atStart => exact ⟨F, 0, 0, s, rfl, rfl, Nat.zero_le _, by omega, by rw [HF.out]; unfold putF; omega, hide ⟨O, HR.out.keep HA.out (fun j _ hj => HB1.out.block j hj) HB1.out.size, fun _ e => .inl e⟩, HRw0, hide ⟨HOk.out, rfl⟩, hide (Turned.of_below HB1.out), Nat.le_refl _⟩
  case round =>
    obtain ⟨k, d, t, s', rfl, rfl, hd, ht, hk, HAt, HRw, HV, HT, hsz⟩ := hrel
    clear HA HOk HRw0
    by_cases hlt : d < bs.length
    case neg =>
      have HE : Hid (putV D bs F s 0 0 = (d, 0, s')) := hide (by rw [← HV.out.2]; exact putV_done D bs k s' d t hlt)
      have hlt' : ¬ (d : Int) < (bs.length : Int) := by omega
      clear HV hlt
      go_wp2_with fail
      go_ret2
      rw [HE.out]
      obtain ⟨O', hA', hO'⟩ := HAt.out
      exact ⟨rfl, O', hA', fun j e => (hO' j e).imp id (fun e => by omega), HT.out⟩
    have hlt' : (d : Int) < (bs.length : Int) := by omega
    have hq0 : (0 : Int) ≤ (d : Int) := by omega
    have hq1 : (d : Int) ≤ (bs.length : Int) := by omega
    have hq2 : (bs.length : Int) ≤ (bc : Int) := by omega
    have hq3 : (d : Int) < (bc : Int) := by omega
    have hq4 : ¬ bc = d := by omega
    have hq5 : ¬ bs.length = d := by omega
    obtain ⟨-, xb, xo, rfl, hxb, -⟩ := bys_block HBb.out (by omega)
    obtain ⟨O', hA', hO'⟩ := HAt.out
    obtain ⟨cur, hcu, hcl⟩ := HRw.out
    have hbd : Bys wr (.slice (some ⟨xb, xo + d, none⟩) (bs.length - d) (bc - d)) (bs.drop d) := by
      have := bys_cut (HBb.out.turned HT.out (fun k hk _ => HAp.out (by omega) k hk)) d (bs.length - d) (bc - d) (by omega)
      rw [List.take_of_length_le (by rw [List.length_drop]; exact Nat.le_refl _)] at this
      exact this
    have hdl : (bs.drop d).length = bs.length - d := List.length_drop
    obtain ⟨w2, hrun, HG2, hgr2⟩ := run_copy wr 3 (some ⟨w.heap.size, d, none⟩) (some ⟨xb, xo + d, none⟩) (bs.length - d) (bs.length - d) (bs.length - d) (bc - d) w.heap.size d cur hcu ((bs.drop d).map bv) (by rw [List.length_map, hdl]; simp) (fun h0 => ⟨rfl, Te_bys_src hbd rfl h0⟩) (by rw [List.length_map, hdl]; omega) (bys_one _)
    rw [List.length_map, hdl] at hrun
    have hbs2 : Bys w2 (.slice (some ⟨w.heap.size, d, none⟩) (bs.drop d).length (bs.length - d)) (bs.drop d) := spliced_bys HG2.out (by rw [hdl]; omega) (by rw [hdl]; omega)
    obtain ⟨j, rfl⟩ : ∃ j, k = j + 1 := ⟨k - 1, by omega⟩
    obtain ⟨m, e, s2, hw⟩ : ∃ m e s2, D.write s' (bs.drop d) = (m, e, s2) := ⟨_, _, _, rfl⟩
    obtain ⟨hV0, hV1, hV3⟩ := putOk_next D wok bs j s' d t hw hlt HV.out.1
    have hgO : ¬ O' w.heap.size := fun e => by
      rcases hO' _ e with e | e
      · have := HOl.out _ e; omega
      · omega
    have HW := hide (HR.out.write (w := w2) (bs.drop d) (some ⟨w.heap.size, d, none⟩) (bs.length - d) (HR.out.keep hA' (fun i hi hl => hgr2.block i hl (fun e => by cases e; exact hgO hi)) hgr2.size) hV0 hbs2 (by rw [hdl]; exact Nat.le_refl _) (by rw [hdl]; omega) (by rw [hdl]; omega) (fun i hi => by
      have : w.heap.size = i := by simpa [Value.ownBlock] using hi
      exact this ▸ hgO))
    rw [hw, hdl] at HW
    simp only at HW
    have hV2 := HV.out.2
    rw [putV_next D bs j s' d t hw, if_pos hlt] at hV2
    have HRw2 : Hid (∃ cur : List Value, w2.heap[w.heap.size]? = some (.cells cur.toArray 5 (0, 0)) ∧ cur.length = bs.length) := hide ⟨_, HG2.out, by rw [length_splice _ _ _ (by rw [List.length_map, hdl]; omega)]; exact hcl⟩
    have HT2 : Hid (Turned O w w2) := hide (HT.out.grown hgr2 (fun k e => .inr (by cases e; exact Nat.le_refl _)))
    have hs2 : w1.heap.size ≤ w2.heap.size := by have := hgr2.size; omega
    have HO' := hide hO'
    have HgO := hide hgO
    have HV1 := hide hV1
    have HV3 := hide hV3
    have hsub : (bs.length : Int) - (d : Int) = ((bs.length - d : Nat) : Int) := by omega
    clear HV hw hV0 hV1 hV3 hbs2 hbd hcu hcl hA' hO' hgO hgr2 HG2 HAt HRw hxb
    have hEE : ∀ x : Nat, ¬ ((8192 : Int) = (x : Int)) → True := fun _ _ => trivial
    clear hEE
    by_cases htry : (e = 22 ∨ e = 23) ∨ (m = 0 ∧ e = 0)
    · rw [if_pos htry] at hV2
      by_cases ht1 : t + 1 = 8192
      · rw [if_pos ht1] at hV2
        have HV2 := hide hV2
        obtain rfl : t = 8191 := by omega
        clear hV2 HV1 HV3 ht1
        by_cases hey : e = 22 ∨ e = 23
        · have HTt := hide hey
          clear htry hey
          go_wp2_with fail
          refine HW.out.mono ?_
          rintro _ w3 ⟨rfl, O3, hA3, hO3, hT3⟩
          have HA3 : Hid (∃ O', At w3 O' s2 ∧ ∀ j, O' j → O j ∨ w1.heap.size ≤ j) := hide ⟨O3, hA3, fun i e => (hO3 i e).elim (fun e => HO'.out i e) (fun e => .inr (by omega))⟩
          have HRw3 : Hid (∃ cur : List Value, w3.heap[w.heap.size]? = some (.cells cur.toArray 5 (0, 0)) ∧ cur.length = bs.length) := hide (by
            obtain ⟨c, hc, hl⟩ := HRw2.out
            exact ⟨c, (hT3.block _ (by omega) HgO.out).trans hc, hl⟩)
          have HT3 : Hid (Turned O w w3) := hide (HT2.out.trans hT3 (fun i hi e => (HO'.out i e).resolve_right (by omega)))
          have hs3 : w1.heap.size ≤ w3.heap.size := by have := hT3.size; omega
          clear hA3 hO3 hT3
          go_wp2_with (first | (go_at_call 223; refine (isTry_yes _ _ HTt.out).mono ?_; rintro _ _ ⟨rfl, rfl⟩) | fail)
          go_ret2
          rw [← HV2.out]
          obtain ⟨O', hA', hO'⟩ := HA3.out
          exact ⟨rfl, O', hA', fun i e => (hO' i e).imp id (fun e => by omega), HT3.out⟩
        · obtain ⟨rfl, rfl⟩ : m = 0 ∧ e = 0 := htry.resolve_left hey
          have HTt := hide hey
          clear htry hey
          go_wp2_with fail
          refine HW.out.mono ?_
          rintro _ w3 ⟨rfl, O3, hA3, hO3, hT3⟩
          have HA3 : Hid (∃ O', At w3 O' s2 ∧ ∀ j, O' j → O j ∨ w1.heap.size ≤ j) := hide ⟨O3, hA3, fun i e => (hO3 i e).elim (fun e => HO'.out i e) (fun e => .inr (by omega))⟩
          have HRw3 : Hid (∃ cur : List Value, w3.heap[w.heap.size]? = some (.cells cur.toArray 5 (0, 0)) ∧ cur.length = bs.length) := hide (by
            obtain ⟨c, hc, hl⟩ := HRw2.out
            exact ⟨c, (hT3.block _ (by omega) HgO.out).trans hc, hl⟩)
          have HT3 : Hid (Turned O w w3) := hide (HT2.out.trans hT3 (fun i hi e => (HO'.out i e).resolve_right (by omega)))
          have hs3 : w1.heap.size ≤ w3.heap.size := by have := hT3.size; omega
          clear hA3 hO3 hT3
          go_wp2_with (first | (go_at_call 223; refine (isTry_no _ _ HTt.out).mono ?_; rintro _ _ ⟨rfl, rfl⟩) | fail)
          go_ret2
          rw [← HV2.out]
          obtain ⟨O', hA', hO'⟩ := HA3.out
          exact ⟨rfl, O', hA', fun i e => (hO' i e).imp id (fun e => by omega), HT3.out⟩
      · rw [if_neg ht1] at hV2
        have HV2 := hide hV2
        have HV4 := hide (HV1.out htry ht1)
        have htt : ¬ (t : Int) + 1 = 8192 := by omega
        have htu : ((t : Int) + 1 == 8192) = false := by simp; omega
        clear hV2 HV1 HV3
        by_cases hey : e = 22 ∨ e = 23
        · have HTt := hide hey
          clear htry hey
          go_wp2_with fail
          refine HW.out.mono ?_
          rintro _ w3 ⟨rfl, O3, hA3, hO3, hT3⟩
          have HA3 : Hid (∃ O', At w3 O' s2 ∧ ∀ j, O' j → O j ∨ w1.heap.size ≤ j) := hide ⟨O3, hA3, fun i e => (hO3 i e).elim (fun e => HO'.out i e) (fun e => .inr (by omega))⟩
          have HRw3 : Hid (∃ cur : List Value, w3.heap[w.heap.size]? = some (.cells cur.toArray 5 (0, 0)) ∧ cur.length = bs.length) := hide (by
            obtain ⟨c, hc, hl⟩ := HRw2.out
            exact ⟨c, (hT3.block _ (by omega) HgO.out).trans hc, hl⟩)
          have HT3 : Hid (Turned O w w3) := hide (HT2.out.trans hT3 (fun i hi e => (HO'.out i e).resolve_right (by omega)))
          have hs3 : w1.heap.size ≤ w3.heap.size := by have := hT3.size; omega
          clear hA3 hO3 hT3
          go_wp2_with (first | (go_at_call 223; refine (isTry_yes _ _ HTt.out).mono ?_; rintro _ _ ⟨rfl, rfl⟩) | fail)
          go_roundw
          case rel => exact ⟨j, d, t + 1, s2, rfl, by go_num, by omega, by omega, by omega, HA3, HRw3, hide ⟨HV4.out, HV2.out⟩, HT3, hs3⟩
          case measure => simp [intOf]; omega
        · obtain ⟨rfl, rfl⟩ : m = 0 ∧ e = 0 := htry.resolve_left hey
          have HTt := hide hey
          clear htry hey
          go_wp2_with fail
          refine HW.out.mono ?_
          rintro _ w3 ⟨rfl, O3, hA3, hO3, hT3⟩
          have HA3 : Hid (∃ O', At w3 O' s2 ∧ ∀ j, O' j → O j ∨ w1.heap.size ≤ j) := hide ⟨O3, hA3, fun i e => (hO3 i e).elim (fun e => HO'.out i e) (fun e => .inr (by omega))⟩
          have HRw3 : Hid (∃ cur : List Value, w3.heap[w.heap.size]? = some (.cells cur.toArray 5 (0, 0)) ∧ cur.length = bs.length) := hide (by
            obtain ⟨c, hc, hl⟩ := HRw2.out
            exact ⟨c, (hT3.block _ (by omega) HgO.out).trans hc, hl⟩)
          have HT3 : Hid (Turned O w w3) := hide (HT2.out.trans hT3 (fun i hi e => (HO'.out i e).resolve_right (by omega)))
          have hs3 : w1.heap.size ≤ w3.heap.size := by have := hT3.size; omega
          clear hA3 hO3 hT3
          go_wp2_with (first | (go_at_call 223; refine (isTry_no _ _ HTt.out).mono ?_; rintro _ _ ⟨rfl, rfl⟩) | fail)
          go_roundw
          case rel => exact ⟨j, d, t + 1, s2, rfl, by go_num, by omega, by omega, by omega, HA3, HRw3, hide ⟨HV4.out, HV2.out⟩, HT3, hs3⟩
          case measure => simp [intOf]; omega
    rw [if_neg htry] at hV2
    have HTt : Hid (¬ (e = 22 ∨ e = 23)) := hide (fun h => htry (.inl h))
    have hme : ¬ (m = 0 ∧ e = 0) := fun h => htry (.inr h)
    clear htry HV1
    by_cases hraw : m < 0 ∨ ((bs.length - d : Nat) : Int) < m
    · rw [if_pos hraw] at hV2
      have HV2 := hide hV2
      clear hV2 HV3 hme
      have hm0 : ¬ m = 0 := by omega
      have hm1 : (m == 0) = false := by simp [hm0]
      have hr2 : m < 0 ∨ (¬ m < 0 ∧ ((bs.length - d : Nat) : Int) < m) := by omega
      clear hraw
      rcases hr2 with hr2 | ⟨hr2, hr3⟩
      all_goals
        go_wp2_with fail
        refine HW.out.mono ?_
        rintro _ w3 ⟨rfl, O3, hA3, hO3, hT3⟩
        have HA3 : Hid (∃ O', At w3 O' s2 ∧ ∀ j, O' j → O j ∨ w1.heap.size ≤ j) := hide ⟨O3, hA3, fun i e => (hO3 i e).elim (fun e => HO'.out i e) (fun e => .inr (by omega))⟩
        have HRw3 : Hid (∃ cur : List Value, w3.heap[w.heap.size]? = some (.cells cur.toArray 5 (0, 0)) ∧ cur.length = bs.length) := hide (by
          obtain ⟨c, hc, hl⟩ := HRw2.out
          exact ⟨c, (hT3.block _ (by omega) HgO.out).trans hc, hl⟩)
        have HT3 : Hid (Turned O w w3) := hide (HT2.out.trans hT3 (fun i hi e => (HO'.out i e).resolve_right (by omega)))
        have hs3 : w1.heap.size ≤ w3.heap.size := by have := hT3.size; omega
        clear hA3 hO3 hT3
        go_wp2_with (first | (go_at_call 223; refine (isTry_no _ _ HTt.out).mono ?_; rintro _ _ ⟨rfl, rfl⟩) | fail)
        go_ret2
        rw [← HV2.out]
        obtain ⟨O', hA', hO'⟩ := HA3.out
        exact ⟨rfl, O', hA', fun i e => (hO' i e).imp id (fun e => by omega), HT3.out⟩
    rw [if_neg hraw] at hV2
    have hr1 : ¬ m < 0 := fun h => hraw (.inl h)
    have hr2 : ¬ ((bs.length - d : Nat) : Int) < m := fun h => hraw (.inr h)
    clear hraw
    by_cases he : e = 0
    · subst he
      rw [if_pos rfl] at hV2
      have hm0 : ¬ m = 0 := fun h => hme ⟨h, rfl⟩
      have hm1 : (m == 0) = false := by simp [hm0]
      have HV2 := hide hV2
      have HV4 := hide (HV3.out rfl (by omega) (by omega))
      obtain ⟨q, rfl⟩ : ∃ q : Nat, m = (q : Int) := ⟨m.toNat, by omega⟩
      rw [Int.toNat_natCast] at HV2 HV4
      have hq6 : q ≤ bs.length - d := by omega
      have hq7 : 1 ≤ q := by omega
      clear hV2 HV3 hme
      go_wp2_with fail
      refine HW.out.mono ?_
      rintro _ w3 ⟨rfl, O3, hA3, hO3, hT3⟩
      have HA3 : Hid (∃ O', At w3 O' s2 ∧ ∀ j, O' j → O j ∨ w1.heap.size ≤ j) := hide ⟨O3, hA3, fun i e => (hO3 i e).elim (fun e => HO'.out i e) (fun e => .inr (by omega))⟩
      have HRw3 : Hid (∃ cur : List Value, w3.heap[w.heap.size]? = some (.cells cur.toArray 5 (0, 0)) ∧ cur.length = bs.length) := hide (by
        obtain ⟨c, hc, hl⟩ := HRw2.out
        exact ⟨c, (hT3.block _ (by omega) HgO.out).trans hc, hl⟩)
      have HT3 : Hid (Turned O w w3) := hide (HT2.out.trans hT3 (fun i hi e => (HO'.out i e).resolve_right (by omega)))
      have hs3 : w1.heap.size ≤ w3.heap.size := by have := hT3.size; omega
      clear hA3 hO3 hT3
      go_wp2_with (first | (go_at_call 223; refine (isTry_no _ _ HTt.out).mono ?_; rintro _ _ ⟨rfl, rfl⟩) | fail)
      go_roundw
      case rel => exact ⟨j, d + q, 0, s2, by go_num, rfl, by omega, by omega, by omega, HA3, HRw3, hide ⟨HV4.out, HV2.out⟩, HT3, hs3⟩
      case measure => simp [intOf]; omega
    · rw [if_neg he] at hV2
      have HV2 := hide hV2
      have he2 : (e != 0) = true := by simp [he]
      have he3 : (e == 0) = false := by simp [he]
      clear hV2 HV3 hme
      by_cases hm0 : m = 0
      all_goals first | (subst hm0; skip) | skip
      all_goals
        first | have hm1 : (m == 0) = false := by simp [hm0] | skip
      all_goals
        go_wp2_with fail
        refine HW.out.mono ?_
        rintro _ w3 ⟨rfl, O3, hA3, hO3, hT3⟩
        have HA3 : Hid (∃ O', At w3 O' s2 ∧ ∀ j, O' j → O j ∨ w1.heap.size ≤ j) := hide ⟨O3, hA3, fun i e => (hO3 i e).elim (fun e => HO'.out i e) (fun e => .inr (by omega))⟩
        have HRw3 : Hid (∃ cur : List Value, w3.heap[w.heap.size]? = some (.cells cur.toArray 5 (0, 0)) ∧ cur.length = bs.length) := hide (by
          obtain ⟨c, hc, hl⟩ := HRw2.out
          exact ⟨c, (hT3.block _ (by omega) HgO.out).trans hc, hl⟩)
        have HT3 : Hid (Turned O w w3) := hide (HT2.out.trans hT3 (fun i hi e => (HO'.out i e).resolve_right (by omega)))
        have hs3 : w1.heap.size ≤ w3.heap.size := by have := hT3.size; omega
        clear hA3 hO3 hT3
        go_wp2_with (first | (go_at_call 223; refine (isTry_no _ _ HTt.out).mono ?_; rintro _ _ ⟨rfl, rfl⟩) | fail)
        go_ret2
        rw [← HV2.out]
        obtain ⟨O', hA', hO'⟩ := HA3.out
        exact ⟨rfl, O', hA', fun i e => (hO' i e).imp id (fun e => by omega), HT3.out⟩
end Go.Proofs.YtanbiinomagdbaaGreat

/- A kernel's handle is a Raw. -/
namespace Go.Proofs.YtanbiinomagdbaaGreat
open Go.RowKit Go.Maps

def kerD (d : Int) : RawD KS where
  read K n := K.read d n
  write K bs := K.write d bs
def kerR (K : KS) : Prop := K.reads < 9223372036854775807
def kerW (K : KS) : Prop := K.writes < 9223372036854775807
set_option maxRecDepth 100000 in
theorem KAt.hread2 {w : World} {O : Nat → Prop} {kb : Nat} {K : KS} (h : KAt w O kb K) (d n : Int) (hd : I64 d) (hr : K.reads < 9223372036854775807) :
    Calls Tryz.prog 321 #[.agg #[.pointer (some ⟨kb, 0, none⟩), .int .i64 d], .int .i64 n] w fun e w' => ∃ v, e = .returned (.tuple #[v, .int .i64 (K.read d n).2.1]) ∧ w'.ownsRow w.heap.size 5 1 v (K.read d n).1.length ((K.read d n).1.map bv) ∧ KAt w' O kb (K.read d n).2.2 ∧ Turned O w w' := by
  have hB := recv_below w (Obj.cells #[.pointer (some ⟨kb, 0, none⟩), .int .i64 d] 300)
  have HR := hide ((h.below hB).read d n hd hr)
  have HB := hide hB
  clear h hB
  go_enter Tryz.func321, Tryz.ntmps321
  go_wp2_with fail
  refine HR.out.mono ?_
  rintro e w1 ⟨v, rfl, h1, h2, h3⟩
  have HK := hide h2
  have HT := hide ((Turned.of_below HB.out).trans h3 (fun _ _ e => e))
  have HO := hide (owns_mono h1 HB.out.size)
  clear h1 h2 h3
  go_wp2
  go_ret2
  exact ⟨v, rfl, HO.out, HK.out, HT.out⟩
theorem ker_raw (kb : Nat) (d : Int) (hd : I64 d) : RawM (kerD d) 300 (.agg #[.pointer (some ⟨kb, 0, none⟩), .int .i64 d]) 321 323 kerR kerW (fun w O K => KAt w O kb K) where
  mread w := by kernel_rfl
  mwrite w := by kernel_rfl
  cread a w := by kernel_rfl
  cwrite a w := by kernel_rfl
  keep h hk hs := h.keep hk hs
  few n h := Nat.le_trans (read_few h d n) (by decide)
  read n h hr _ _ := (h.hread2 d n hd hr).mono fun _ _ e => view_own e
  write bs a c h hw hb hc _ h2 hap := (h.hwrite d bs a c hd hw hb hc (by omega) (fun _ => hap)).mono fun e w' ⟨h1, h2⟩ => ⟨h1, h2⟩
structure RdV {S : Type} (D : RawD S) (b : List UInt8) (st : Nat → List Fault → Nat → S) : Prop where
  read : ∀ p L rd n, p ≤ b.length → planOk L → 1 ≤ n → n ≤ 1048576 → ∃ Y E, D.read (st p L rd) n = (Y, E, st (p + Y.length) L.tail (rd + 1)) ∧ b.take p ++ Y = b.take (p + Y.length) ∧ p + Y.length ≤ b.length ∧ Y.length ≤ n ∧ ((E = 0 ∧ (p < b.length → Y ≠ [])) ∨ ((E = 22 ∨ E = 23) ∧ Y = [] ∧ L ≠ []))
theorem RdV.some {S : Type} {D : RawD S} {b : List UInt8} {st : Nat → List Fault → Nat → S} (h : RdV D b st) {ok : S → Prop} {R : Nat} (hok : ∀ p L r, r < R → ok (st p L r)) (n p : Nat) (hp : p ≤ b.length) (h1 : 1 ≤ n) (h2 : n ≤ 1048576) : ∀ k L rd, L.length < k → planOk L → rd + L.length + 1 ≤ R →
    someOk D ok n k (st p L rd) ∧ ∃ Y L' rd', someV D n k (st p L rd) = (Y, 0, st (p + Y.length) L' rd') ∧ b.take p ++ Y = b.take (p + Y.length) ∧ p + Y.length ≤ b.length ∧ Y.length ≤ n ∧ (p < b.length → Y ≠ []) ∧ planOk L' ∧ rd' + L'.length ≤ rd + L.length + 1
  | 0, _, _, hk, _, _ => absurd hk (Nat.not_lt_zero _)
  | k + 1, L, rd, hk, hL, hR => by
    obtain ⟨Y, E, hd, h3, h4, h5, h6⟩ := h.read p L rd n hp hL h1 h2
    rw [someV_next D n k _ hd]
    have hT : L.tail.length ≤ L.length := by simp
    rcases h6 with ⟨rfl, h6⟩ | ⟨h6, rfl, h7⟩
    · refine ⟨⟨hok _ _ _ (by omega), fun e => ?_⟩, Y, L.tail, rd + 1, ?_, h3, h4, h5, h6, hL.tail, by omega⟩
      · rw [hd] at e; simp at e
      · rw [if_neg (by simp), if_neg (by omega), if_pos rfl]
    · have hLl : L.tail.length + 1 = L.length := by cases L with
        | nil => exact absurd rfl h7
        | cons f r => simp
      obtain ⟨g1, Y, L', rd', g2, g3, g4, g5, g6, g7, g8⟩ := h.some hok n p hp h1 h2 k L.tail (rd + 1) (by omega) hL.tail (by omega)
      refine ⟨⟨hok _ _ _ (by omega), fun _ => ?_⟩, Y, L', rd', ?_, g3, g4, g5, g6, g7, by omega⟩
      · rw [hd]; exact g1
      · rw [if_pos h6]; exact g2
structure WrV {S : Type} (D : RawD S) (x : List UInt8) (st : Nat → List Fault → Nat → S) : Prop where
  write : ∀ q L wr, q < x.length → planOk L → ∃ (m : Nat) (E : Int), D.write (st q L wr) (x.drop q) = ((m : Int), E, st (q + m) L.tail (wr + 1)) ∧ q + m ≤ x.length ∧ ((E = 0 ∧ 1 ≤ m) ∨ ((E = 22 ∨ E = 23) ∧ m = 0 ∧ L ≠ []))
end Go.Proofs.YtanbiinomagdbaaGreat

/- The reference's Raw over a kernel's description: Of, Read, Write. -/
namespace Go.Proofs.YtanbiinomagdbaaGreat
open Go.RowKit Go.Maps

def rwc (mb : Nat) (d c : Int) : Array Value := #[.int .i64 5, .slice none 0 0, .int .i64 0, .int .i64 0, .slice none 0 0, .slice none 0 0, .pointer (some ⟨mb, 0, none⟩), .int .i64 d, .int .i64 c]
def RwS (g mb : Nat) (d : Int) (W : World) (O : Nat → Prop) (K : KS) : Prop := ∃ P c, W.heap[g]? = some (.cells (rwc mb d c) 189) ∧ RAt W P mb K ∧ (∀ k, P k → O k) ∧ O g ∧ ¬ P g
theorem RwS.keep {g mb : Nat} {d : Int} {W W' : World} {O : Nat → Prop} {K : KS} (h : RwS g mb d W O K) (hk : ∀ j, O j → j < W.heap.size → W'.heap[j]? = W.heap[j]?) (hs : W.heap.size ≤ W'.heap.size) : RwS g mb d W' O K := by
  obtain ⟨P, c, h1, h2, h3, h4, h5⟩ := h
  exact ⟨P, c, (hk g h4 (Array.getElem?_eq_some_iff.1 h1).1).trans h1, h2.keep (fun k e hl => hk k (h3 k e) hl) hs, h3, h4, h5⟩
def RwStep (g mb : Nat) (d : Int) (w : World) (O : Nat → Prop) (K' : KS) (w' : World) : Prop := ∃ O', RwS g mb d w' O' K' ∧ (∀ k, O' k → O k ∨ w.heap.size ≤ k) ∧ Turned O w w'
theorem rw_step {g mb : Nat} {d c : Int} {w wa w' : World} {O P : Nat → Prop} {K' : KS} (h1 : wa.heap[g]? = some (.cells (rwc mb d c) 189)) (hT : Turned (fun k => k = g) w wa) (hS : RKStep wa P mb K' w') (h3 : ∀ k, P k → O k) (h4 : O g) (h5 : ¬ P g) : RwStep g mb d w O K' w' := by
  obtain ⟨P', a1, a2, a3⟩ := hS
  have hg : g < wa.heap.size := (Array.getElem?_eq_some_iff.1 h1).1
  have hz := hT.size
  refine ⟨fun k => O k ∨ w.heap.size ≤ k, ⟨P', c, (a3.block g hg h5).trans h1, a1, fun k e => (a2 k e).imp (h3 k) (fun e => by omega), .inl h4, fun e => ?_⟩, fun _ e => e, (hT.mono (fun k e => by subst e; exact h4)).trans a3 (fun k _ e => h3 k e)⟩
  rcases a2 g e with e | e
  · exact h5 e
  · omega
set_option maxRecDepth 100000 in
set_option maxHeartbeats 2000000 in
theorem of_any (mb : Nat) (d : Int) (w : World) : Calls Tryz.prog 176 #[.pointer (some ⟨mb, 0, none⟩), .int .i64 d] w fun e w' => e = .returned (.pointer (some ⟨w.heap.size, 0, none⟩)) ∧ w'.heap[w.heap.size]? = some (.cells (rwc mb d 0) 189) ∧ Below w.heap.size w w' := by
  go_enter Tryz.func176, Tryz.ntmps176
  go_wp2
  go_ret
  exact ⟨rfl, heap_alloc_new _ _, (Below.refl _ _).alloc (Nat.le_refl _) _⟩
end Go.Proofs.YtanbiinomagdbaaGreat

/- A kernel's description as a Raw of either side: the reference's Seek; PlK, but for Same. -/
namespace Go.Proofs.YtanbiinomagdbaaGreat
open Go.RowKit Go.Maps

set_option maxRecDepth 100000 in
set_option maxHeartbeats 2000000 in
theorem rwseek_any (g mb : Nat) (d off wh : Int) (O : Nat → Prop) (K : KS) (w : World) (h : RwS g mb d w O K) :
    Calls Tryz.prog 27 #[.pointer (some ⟨g, 0, none⟩), .int .i64 off, .int .i64 wh] w fun e w' => e = .returned (.tuple #[.int .i64 (K.seek d off wh).1, .int .i64 (K.seek d off wh).2.1]) ∧ RwStep g mb d w O (K.seek d off wh).2.2 w' := by
  obtain ⟨P, c, h1, h2, h3, h4, h5⟩ := h
  have q0 : w.cell? ⟨g, 0, none⟩ = some (.int .i64 5) := cell_of_row w g 0 _ _ _ h1
  have k6 : w.cell? ⟨g, 6, none⟩ = some (.pointer (some ⟨mb, 0, none⟩)) := cell_of_row w g 6 _ _ _ h1
  have k7 : w.cell? ⟨g, 7, none⟩ = some (.int .i64 d) := cell_of_row w g 7 _ _ _ h1
  have HRw := hide ((h2.below (Below.refl _ _).drew).seek d off wh)
  have HF := hide h1
  have HP := hide (And.intro h3 (And.intro h4 h5))
  clear h1 h2 h3 h4 h5
  generalize hRR : K.seek d off wh = R at *
  obtain ⟨n, e, K'⟩ := R
  simp only at HRw ⊢
  go_enter Tryz.func27, Tryz.ntmps27
  go_wp2_with fail
  go_region_held3 (fun w' => w'.cell? ⟨g, 6, none⟩ = some (.pointer (some ⟨mb, 0, none⟩)) ∧ w'.cell? ⟨g, 7, none⟩ = some (.int .i64 d))
    (first | exact hx7 | exact ⟨k6, k7⟩ | go_keep)
    (first
      | (go_at_call 64; refine HRw.out.mono ?_; rintro e w5 ⟨rfl, hS⟩; have hx7 : w5.cell? ⟨g, 6, none⟩ = some (.pointer (some ⟨mb, 0, none⟩)) ∧ w5.cell? ⟨g, 7, none⟩ = some (.int .i64 d) := ⟨rk_cell hS (drew_cell k6) HP.out.2.2, rk_cell hS (drew_cell k7) HP.out.2.2⟩)
      | fail)
  all_goals go_wp2
  all_goals go_ret2
  all_goals exact ⟨rfl, rw_step (wa := w.drew) HF.out (Turned.of_below (S := fun k => k = g) (Below.refl _ _).drew) hS HP.out.1 HP.out.2.1 HP.out.2.2⟩
end Go.Proofs.YtanbiinomagdbaaGreat

/- Memories: a store as a value and in memory; isMade, read, seek, all of it. -/
namespace Go.Proofs.YtanbiinomagdbaaGreat
open Go.RowKit

structure MS where
  l : List UInt8
  room : Nat
  pl : Nat
def MS.read (S : MS) (n : Int) : List UInt8 × Int × MS :=
  if inR n = true then (piece S.l S.pl n.toNat, 0, ⟨S.l, S.room, S.pl + (piece S.l S.pl n.toNat).length⟩) else ([], 4, S)
def MS.write (S : MS) (x : List UInt8) : Int × Int × MS :=
  if 1048576 < x.length then (0, 5, S) else if x = [] then (0, 0, S) else if S.pl = S.room then (0, 31, S)
  else ((min x.length (S.room - S.pl) : Nat), 0, ⟨lay S.l S.pl (x.take (min x.length (S.room - S.pl))), S.room, S.pl + min x.length (S.room - S.pl)⟩)
def MemAt (W : World) (O : Nat → Prop) (g : Nat) (S : MS) : Prop :=
  ∃ f b cap, W.cell? ⟨g, 0, none⟩ = some (.pointer (some ⟨f, 0, none⟩)) ∧ W.cell? ⟨g, 1, none⟩ = some (.int .i64 S.room) ∧ W.cell? ⟨g, 2, none⟩ = some (.int .i64 S.pl) ∧ W.frozen? ⟨g, 2, none⟩ = false ∧
    FileAt W f b cap S.l ∧ O g ∧ O f ∧ O b ∧ g ≠ f ∧ g ≠ b ∧ S.l.length ≤ S.room ∧ S.pl ≤ S.room ∧ S.room ≤ 1048576
def MStep (w : World) (O : Nat → Prop) (g : Nat) (S : MS) (w' : World) : Prop := ∃ O', MemAt w' O' g S ∧ (∀ k, O' k → O k ∨ w.heap.size ≤ k) ∧ Turned O w w'
theorem MemAt.keep {W W' : World} {O : Nat → Prop} {g : Nat} {S : MS} (h : MemAt W O g S) (hk : ∀ j, O j → j < W.heap.size → W'.heap[j]? = W.heap[j]?) : MemAt W' O g S := by
  obtain ⟨f, b, cap, h0, h1, h2, h3, h4, og, of, ob, n1, n2, r1, r2, r3⟩ := h
  have kg := hk g og (World.block_lt_of_cell? W _ h0)
  exact ⟨f, b, cap, (World.cell?_of_block (w := W) kg).trans h0, (World.cell?_of_block (w := W) kg).trans h1, (World.cell?_of_block (w := W) kg).trans h2, (World.frozen?_of_block (w := W) kg).trans h3,
    h4.keep (hk f of h4.lt) (hk b ob h4.row.lt), og, of, ob, n1, n2, r1, r2, r3⟩
theorem MemAt.below {W W' : World} {O : Nat → Prop} {g : Nat} {S : MS} (h : MemAt W O g S) (hB : Below W.heap.size W W') : MemAt W' O g S := h.keep fun j _ hl => hB.block j hl
theorem MemAt.ok {W : World} {O : Nat → Prop} {g : Nat} {S : MS} (h : MemAt W O g S) : S.l.length ≤ S.room ∧ S.pl ≤ S.room ∧ S.room ≤ 1048576 := by
  obtain ⟨f, b, cap, h0, h1, h2, h3, h4, og, of, ob, n1, n2, r1, r2, r3⟩ := h
  exact ⟨r1, r2, r3⟩
theorem MemAt.trim {W : World} {O : Nat → Prop} {g : Nat} {S : MS} (h : MemAt W O g S) : MemAt W (fun k => O k ∧ k < W.heap.size) g S := by
  obtain ⟨f, b, cap, h0, h1, h2, h3, h4, og, of, ob, n⟩ := h
  exact ⟨f, b, cap, h0, h1, h2, h3, h4, ⟨og, World.block_lt_of_cell? W _ h0⟩, ⟨of, h4.lt⟩, ⟨ob, h4.row.lt⟩, n⟩
theorem MStep.same {w : World} {O : Nat → Prop} {g : Nat} {S : MS} (h : MemAt w O g S) : MStep w O g S w := ⟨O, h, fun _ e => .inl e, Turned.refl _ _⟩
theorem MStep.below {w w' : World} {O : Nat → Prop} {g : Nat} {S : MS} (h : MemAt w O g S) (hB : Below w.heap.size w w') : MStep w O g S w' := ⟨O, h.below hB, fun _ e => .inl e, Turned.of_below hB⟩

set_option maxHeartbeats 1000000 in
theorem sMade_yes (g f : Nat) (w : World) (h : w.cell? ⟨g, 0, none⟩ = some (.pointer (some ⟨f, 0, none⟩))) :
    Calls Tryz.prog 216 #[.pointer (some ⟨g, 0, none⟩)] w fun e w' => e = .returned (.bool true) ∧ w = w' := by
  go_enter Tryz.func216, Tryz.ntmps216
  go_wp2
  go_ret
  exact ⟨rfl, rfl⟩
set_option maxRecDepth 100000 in
set_option maxHeartbeats 1000000 in
theorem sall_any (O : Nat → Prop) (g : Nat) (S : MS) (w : World) (h : MemAt w O g S) :
    Calls Tryz.prog 184 #[.pointer (some ⟨g, 0, none⟩)] w fun e w' => ∃ v, e = .returned v ∧ w'.ownsRow w.heap.size 5 1 v S.l.length (S.l.map bv) ∧ Below w.heap.size w w' := by
  obtain ⟨f, b, cap, h0, h1, h2, h3, h4, og, of, ob, n1, n2, r1, r2, r3⟩ := h
  have H4 := hide h4
  clear h4 og of ob h1 h2 h3
  go_enter Tryz.func184, Tryz.ntmps184
  go_wp2_with fail
  refine (bytes_any f b cap S.l _ H4.out (by omega)).mono ?_
  rintro e w2 ⟨rfl, hown, hB⟩
  have HO := hide hown
  clear hown
  go_wp2
  go_ret
  exact ⟨_, rfl, HO.out, hB⟩

set_option maxRecDepth 100000 in
set_option maxHeartbeats 1000000 in
theorem sread_any (O : Nat → Prop) (g : Nat) (S : MS) (n : Int) (w : World) (h : MemAt w O g S) :
    Calls Tryz.prog 179 #[.pointer (some ⟨g, 0, none⟩), .int .i64 n] w fun e w' => ∃ v, e = .returned (.tuple #[v, .int .i64 (S.read n).2.1]) ∧ w'.ownsRow w.heap.size 5 1 v (S.read n).1.length ((S.read n).1.map bv) ∧ MemAt w' O g (S.read n).2.2 ∧ Turned O w w' := by
  obtain ⟨f, b, cap, h0, h1, h2, h3, h4, og, of, ob, n1, n2, r1, r2, r3⟩ := h
  have hp : inR (S.pl : Int) = true := inR_yes (by omega) (by omega)
  have hE : Fi_rdE (S.pl : Int) n = (S.read n).2.1 := by
    unfold Fi_rdE MS.read
    rw [hp, Bool.true_and]
    by_cases hn : inR n = true
    · rw [if_neg (by simp [hn]), if_pos hn]
    · rw [if_pos (by simpa using hn), if_neg hn]
  have hL : rdL S.l (S.pl : Int) n = (S.read n).1 := by
    unfold rdL MS.read
    rw [hp, Bool.true_and]
    by_cases hn : inR n = true
    · rw [if_neg (by simp [hn]), if_pos hn, Int.toNat_natCast]
    · rw [if_pos (by simpa using hn), if_neg hn]
  have hS : (S.read n).2.2 = ⟨S.l, S.room, S.pl + (S.read n).1.length⟩ := by
    unfold MS.read
    by_cases hn : inR n = true
    · rw [if_pos hn]
    · rw [if_neg hn]; rfl
  have hle : S.pl + (S.read n).1.length ≤ S.room := by
    unfold MS.read
    by_cases hn : inR n = true
    · rw [if_pos hn]; show S.pl + (piece S.l S.pl n.toNat).length ≤ S.room; rw [piece_len]; omega
    · rw [if_neg hn]; simpa using r2
  have HR := hide (readAt_any f b cap S.l (S.pl : Int) n w.drew (h4.below (Below.refl _ _).drew) (by omega))
  rw [hE, hL] at HR
  rw [hS]
  generalize (S.read n).1 = Y at *
  generalize (S.read n).2.1 = E at *
  have H4 := hide h4
  have HS := hide (And.intro h0 (And.intro h1 (And.intro h2 h3)))
  clear hE hL hS h4 hp
  go_enter Tryz.func179, Tryz.ntmps179
  go_wp2_with fail
  go_region_held3 (fun w' => w'.cell? ⟨g, 0, none⟩ = some (.pointer (some ⟨f, 0, none⟩)) ∧ w'.cell? ⟨g, 2, none⟩ = some (.int .i64 S.pl))
    (first | exact hx5 | exact ⟨h0, h2⟩ | go_keep)
    (first
      | (go_at_call 218; refine HR.out.mono ?_; rintro e w2 ⟨v, rfl, hown, hB⟩; have hx5 : w2.cell? ⟨g, 0, none⟩ = some (.pointer (some ⟨f, 0, none⟩)) ∧ w2.cell? ⟨g, 2, none⟩ = some (.int .i64 S.pl) := ⟨(hB.cell (p := ⟨g, 0, none⟩) (World.block_lt_of_cell? w _ HS.out.1)).trans HS.out.1, (hB.cell (p := ⟨g, 2, none⟩) (World.block_lt_of_cell? w _ HS.out.2.2.1)).trans HS.out.2.2.1⟩)
      | fail)
  obtain ⟨va, vc, rfl⟩ := owns_slice hown
  obtain ⟨-, k2⟩ := hx5
  have hgl : g < w.heap.size := World.block_lt_of_cell? w _ HS.out.2.2.1
  have kb : w2.heap[g]? = w.heap[g]? := hB.block g hgl
  have k3 : w2.frozen? ⟨g, 2, none⟩ = false := (World.frozen?_of_block (w := w) kb).trans HS.out.2.2.2
  have HO := hide hown
  have hB' : Below w.heap.size w w2 := ((Below.refl _ w).drew).trans hB
  clear hown h0 h1 h2 h3 HR hB
  have hB := hB'
  go_wp2
  go_ret2
  rw [show ((S.pl : Int) + (Y.length : Int)) = ((S.pl + Y.length : Nat) : Int) by omega]
  have hT : Turned O w (w2.setCell ⟨g, 2, none⟩ (.int .i64 ((S.pl + Y.length : Nat) : Int))) := (Turned.of_below (S := O) hB).set (.inl og)
  refine ⟨_, rfl, owns_keep HO.out (fun k hk => Below.heap_setCell _ _ _ _ (fun e => ?_)), ⟨f, b, cap, ?_, ?_, ?_, ?_, ?_, og, of, ob, n1, n2, r1, hle, r3⟩, hT⟩
  · have h1 : w.heap.size ≤ k := (HO.out.lt k hk).1; have e' : k = g := e; omega
  · rw [World.cell?_setCell_other _ _ _ _ (by simp)]; exact (World.cell?_of_block (w := w) kb).trans HS.out.1
  · rw [World.cell?_setCell_other _ _ _ _ (by simp)]; exact (World.cell?_of_block (w := w) kb).trans HS.out.2.1
  · exact World.cell?_setCell_same _ _ _ k2
  · rw [World.frozen?_setCell]; exact k3
  · have := H4.out.below hB
    exact this.keep (Below.heap_setCell _ _ _ _ (fun e => n1 e.symm)) (Below.heap_setCell _ _ _ _ (fun e => n2 e.symm))
end Go.Proofs.YtanbiinomagdbaaGreat

/- Memories: write, seek. -/
namespace Go.Proofs.YtanbiinomagdbaaGreat
open Go.RowKit

theorem MS.write_long {S : MS} {x : List UInt8} (h : 1048576 < x.length) : S.write x = (0, 5, S) := by unfold MS.write; rw [if_pos h]
theorem MS.write_none {S : MS} : S.write [] = (0, 0, S) := by unfold MS.write; rw [if_neg (by decide), if_pos rfl]
theorem MS.write_full {S : MS} {x : List UInt8} (h : x.length ≤ 1048576) (h0 : x ≠ []) (hp : S.pl = S.room) : S.write x = (0, 31, S) := by unfold MS.write; rw [if_neg (by omega), if_neg h0, if_pos hp]
theorem MS.write_some {S : MS} {x : List UInt8} (h : x.length ≤ 1048576) (h0 : x ≠ []) (hp : S.pl ≠ S.room) {m : Nat} (hm : m = min x.length (S.room - S.pl)) : S.write x = ((m : Int), 0, ⟨lay S.l S.pl (x.take m), S.room, S.pl + m⟩) := by
  unfold MS.write; rw [if_neg (by omega), if_neg h0, if_neg hp, hm]

set_option maxRecDepth 100000 in
set_option maxHeartbeats 1000000 in
theorem swrite_long (O : Nat → Prop) (g : Nat) (S : MS) (a : Option Addr) (n c : Nat) (w : World) (h : MemAt w O g S) (hl : 1048576 < n) :
    Calls Tryz.prog 177 #[.pointer (some ⟨g, 0, none⟩), .slice a n c] w fun e w' => e = .returned (.tuple #[.int .i64 0, .int .i64 5]) ∧ w = w' := by
  obtain ⟨f, b, cap, h0, -⟩ := h
  have hd : (1048576 : Int) < (n : Int) := by omega
  go_enter Tryz.func177, Tryz.ntmps177
  go_wp2_with (first | (go_at_call 216; refine (sMade_yes g f _ h0).mono ?_; rintro _ _ ⟨rfl, rfl⟩) | fail)
  go_ret2
  exact ⟨rfl, rfl⟩
set_option maxRecDepth 100000 in
set_option maxHeartbeats 1000000 in
theorem swrite_none (O : Nat → Prop) (g : Nat) (S : MS) (a : Option Addr) (c : Nat) (w : World) (h : MemAt w O g S) :
    Calls Tryz.prog 177 #[.pointer (some ⟨g, 0, none⟩), .slice a 0 c] w fun e w' => e = .returned (.tuple #[.int .i64 0, .int .i64 0]) ∧ w = w' := by
  obtain ⟨f, b, cap, h0, -⟩ := h
  go_enter Tryz.func177, Tryz.ntmps177
  go_wp2_with (first | (go_at_call 216; refine (sMade_yes g f _ h0).mono ?_; rintro _ _ ⟨rfl, rfl⟩) | fail)
  go_ret2
  exact ⟨rfl, rfl⟩
set_option maxRecDepth 100000 in
set_option maxHeartbeats 1000000 in
theorem swrite_full (O : Nat → Prop) (g : Nat) (S : MS) (a : Option Addr) (n c : Nat) (w : World) (h : MemAt w O g S) (hl : n ≤ 1048576) (hn : 0 < n) (hp : S.pl = S.room) :
    Calls Tryz.prog 177 #[.pointer (some ⟨g, 0, none⟩), .slice a n c] w fun e w' => e = .returned (.tuple #[.int .i64 0, .int .i64 31]) ∧ Below w.heap.size w w' := by
  obtain ⟨f, b, cap, h0, h1, h2, -⟩ := h
  rw [hp] at h2
  have hd : ¬ (1048576 : Int) < (n : Int) := by omega
  have hd2 : ((n : Int) == 0) = false := by simp; omega
  generalize S.room = R at *
  generalize S.pl = Q at *
  clear hp
  go_enter Tryz.func177, Tryz.ntmps177
  go_wp2_with (first | (go_at_call 216; refine (sMade_yes g f _ h0).mono ?_; rintro _ _ ⟨rfl, rfl⟩) | fail)
  go_quiet (fail)
  go_wp2
  go_ret2
  exact ⟨rfl, below_drewN (Below.refl _ _) _⟩
set_option maxRecDepth 100000 in
set_option maxHeartbeats 2000000 in
theorem swrite_some (O : Nat → Prop) (g : Nat) (S : MS) (x : List UInt8) (a : Option Addr) (c m : Nat) (w : World) (h : MemAt w O g S) (hx : Bys w (.slice a x.length c) x) (hc : x.length ≤ c) (hap : ∀ k, (Value.slice a x.length c).ownBlock = some k → ¬ O k) (hl : x.length ≤ 1048576) (h0x : 0 < x.length) (hp : S.pl ≠ S.room) (hm : m = min x.length (S.room - S.pl)) :
    Calls Tryz.prog 177 #[.pointer (some ⟨g, 0, none⟩), .slice a x.length c] w fun e w' => e = .returned (.tuple #[.int .i64 m, .int .i64 0]) ∧ MStep w O g ⟨lay S.l S.pl (x.take m), S.room, S.pl + m⟩ w' := by
  obtain ⟨f, b, cap, h0, h1, h2, h3, h4, og, of, ob, n1, n2, r1, r2, r3⟩ := h
  obtain ⟨_, xb, xo, rfl, hxl, hcells⟩ := bys_block hx h0x
  have hm1 : 0 < m := by omega
  have hm2 : m ≤ x.length := by omega
  have hm3 : S.pl + m ≤ S.room := by omega
  have hmi : min (x.length : Int) ((S.room : Int) - (S.pl : Int)) = (m : Int) := by omega
  have htl : (x.take m).length = m := by rw [List.length_take]; omega
  have hcut : Bys w (.slice (some ⟨xb, xo, none⟩) m c) (x.take m) := by have := bys_cut hx 0 m c (by omega); simpa using this
  have HW := hide fun (W : World) (hB : Below w.heap.size w W) => writeAt_some f b cap S.l S.pl (.slice (some ⟨xb, xo, none⟩) m c) (x.take m) W (h4.below hB) (hcut.below hB) (fun k hk => by
    obtain rfl : xb = k := by simpa [Value.ownBlock] using hk
    have hn := hap xb rfl
    exact ⟨fun e => hn (e ▸ of), fun e => hn (e ▸ ob)⟩) (by rw [htl]; omega) (by rw [htl]; omega)
  have HS := hide (And.intro h0 (And.intro h1 (And.intro h2 h3)))
  have HF := hide (And.intro of (And.intro ob og))
  have hgl : g < w.heap.size := World.block_lt_of_cell? w _ h0
  have hd : ¬ (1048576 : Int) < (x.length : Int) := by omega
  have hd2 : ((x.length : Int) == 0) = false := by simp; intro e; rw [e] at h0x; simp at h0x
  have hd3 : ((S.pl : Int) == (S.room : Int)) = false := by simp; omega
  have hd3' : ¬ (S.pl : Int) = (S.room : Int) := by omega
  have hmc : m ≤ c := by omega
  have HH := hide (And.intro hm htl)
  clear hm hx hcells hcut hap h4 h3 of ob htl
  go_enter Tryz.func177, Tryz.ntmps177
  go_wp2_with (first | (go_at_call 216; refine (sMade_yes g f _ h0).mono ?_; rintro _ _ ⟨rfl, rfl⟩) | fail)
  go_quiet (fail)
  go_wp2_with fail
  go_quiet (fail)
  go_wp2_with fail
  go_region_held3 (fun w' => w'.cell? ⟨g, 0, none⟩ = some (.pointer (some ⟨f, 0, none⟩)) ∧ w'.cell? ⟨g, 2, none⟩ = some (.int .i64 S.pl))
    (first | exact hx5 | exact ⟨h0, h2⟩ | go_keep)
    (first
      | (go_at_call 217; refine (HW.out _ (below_drewN (Below.refl _ _) _)).mono ?_; rintro e w2 ⟨rfl, b', cap', hF2, hb2, hT2⟩; have hx5 : w2.cell? ⟨g, 0, none⟩ = some (.pointer (some ⟨f, 0, none⟩)) ∧ w2.cell? ⟨g, 2, none⟩ = some (.int .i64 S.pl) := ⟨hT2.cell HS.out.1 (fun e => by rcases e with e | e; exact n1 e; exact n2 e), hT2.cell HS.out.2.2.1 (fun e => by rcases e with e | e; exact n1 e; exact n2 e)⟩)
      | fail)
  obtain ⟨k0, k2⟩ := hx5
  have hgb : w2.heap[g]? = w.heap[g]? := hT2.block g hgl (fun e => by rcases e with e | e; exact n1 e; exact n2 e)
  have k1 : w2.cell? ⟨g, 1, none⟩ = some (.int .i64 S.room) := (World.cell?_of_block (w := w) hgb).trans HS.out.2.1
  have k3 : w2.frozen? ⟨g, 2, none⟩ = false := (World.frozen?_of_block (w := w) hgb).trans HS.out.2.2.2
  have hz : w.heap.size ≤ w2.heap.size := hT2.size
  have hb2' : b' = b ∨ w.heap.size ≤ b' := hb2
  have HT2 : Hid (Turned (fun k => k = f ∨ k = b) w w2) := hide ⟨hT2.os, hT2.tape, hT2.output, hT2.size, hT2.block⟩
  have HF2 := hide hF2
  clear hF2 hT2 h0 h1 h2 HW hb2
  go_wp2
  go_ret2
  rw [show ((S.pl : Int) + (m : Int)) = ((S.pl + m : Nat) : Int) by omega]
  have hll : (lay S.l S.pl (x.take m)).length ≤ S.room := by rw [lay_len, HH.out.2]; split <;> omega
  have hff := HF2.out.lt
  have hbn : b' ≠ g := by rcases hb2' with e | e <;> omega
  have hbf : f ≠ g := fun e => n1 e.symm
  refine ⟨rfl, fun k => k = g ∨ k = f ∨ k = b', ⟨f, b', cap', ?_, ?_, ?_, ?_, ?_, .inl rfl, .inr (.inl rfl), .inr (.inr rfl), n1, fun e => hbn e.symm, hll, hm3, r3⟩, fun k e => ?_, ?_⟩
  · rw [World.cell?_setCell_other _ _ _ _ (by simp)]; exact k0
  · rw [World.cell?_setCell_other _ _ _ _ (by simp)]; exact k1
  · exact World.cell?_setCell_same _ _ _ k2
  · rw [World.frozen?_setCell]; exact k3
  · exact HF2.out.keep (Below.heap_setCell _ _ _ _ hbf) (Below.heap_setCell _ _ _ _ hbn)
  · rcases e with rfl | rfl | rfl
    · exact .inl HF.out.2.2
    · exact .inl HF.out.1
    · rcases hb2' with rfl | e
      · exact .inl HF.out.2.1
      · exact .inr e
  · exact (HT2.out.mono (S' := O) (fun k e => by rcases e with rfl | rfl; exact HF.out.1; exact HF.out.2.1)).set (.inl HF.out.2.2)
theorem swrite_any (O : Nat → Prop) (g : Nat) (S : MS) (x : List UInt8) (a : Option Addr) (c : Nat) (w : World) (h : MemAt w O g S) (hx : Bys w (.slice a x.length c) x) (hc : x.length ≤ c) (hap : 0 < x.length → ∀ k, (Value.slice a x.length c).ownBlock = some k → ¬ O k) :
    Calls Tryz.prog 177 #[.pointer (some ⟨g, 0, none⟩), .slice a x.length c] w fun e w' => e = .returned (.tuple #[.int .i64 (S.write x).1, .int .i64 (S.write x).2.1]) ∧ MStep w O g (S.write x).2.2 w' := by
  by_cases hl : 1048576 < x.length
  · rw [MS.write_long hl]
    refine (swrite_long O g S a x.length c w h hl).mono ?_
    rintro e w' ⟨rfl, rfl⟩
    exact ⟨rfl, MStep.same h⟩
  by_cases h0 : x = []
  · subst h0
    rw [MS.write_none]
    refine (swrite_none O g S a c w h).mono ?_
    rintro e w' ⟨rfl, rfl⟩
    exact ⟨rfl, MStep.same h⟩
  have h0x := List.length_pos_iff.2 h0
  by_cases hp : S.pl = S.room
  · rw [MS.write_full (by omega) h0 hp]
    refine (swrite_full O g S a x.length c w h (by omega) h0x hp).mono ?_
    rintro e w' ⟨rfl, hB⟩
    exact ⟨rfl, MStep.below h hB⟩
  · rw [MS.write_some (by omega) h0 hp rfl]
    exact swrite_some O g S x a c _ w h hx hc (hap h0x) (by omega) h0x hp rfl
end Go.Proofs.YtanbiinomagdbaaGreat

/- Memories: seek. -/
namespace Go.Proofs.YtanbiinomagdbaaGreat
open Go.RowKit

end Go.Proofs.YtanbiinomagdbaaGreat

/- Memories: made, and their calls. -/
namespace Go.Proofs.YtanbiinomagdbaaGreat
open Go.RowKit

theorem recv4 (w : World) (o : Obj) : Below w.heap.size w (w.alloc o) := (Below.refl _ _).alloc (Nat.le_refl _) _
theorem new_zero3 {W w' : World} {x y z : Value} {t : TypeId} (h : Below (W.alloc (Obj.cells #[x, y, z] t)).heap.size (W.alloc (Obj.cells #[x, y, z] t)) w') :
    w'.cell? ⟨W.heap.size, 0, none⟩ = some x ∧ w'.cell? ⟨W.heap.size, 1, none⟩ = some y ∧ w'.cell? ⟨W.heap.size, 2, none⟩ = some z ∧ w'.frozen? ⟨W.heap.size, 0, none⟩ = false ∧ w'.frozen? ⟨W.heap.size, 1, none⟩ = false ∧ w'.frozen? ⟨W.heap.size, 2, none⟩ = false :=
  ⟨(h.cell (p := ⟨W.heap.size, 0, none⟩) (size_new _ _)).trans (by simp only [World.cell?, heap_alloc_new]; rfl), (h.cell (p := ⟨W.heap.size, 1, none⟩) (size_new _ _)).trans (by simp only [World.cell?, heap_alloc_new]; rfl), (h.cell (p := ⟨W.heap.size, 2, none⟩) (size_new _ _)).trans (by simp only [World.cell?, heap_alloc_new]; rfl), (h.frozen (p := ⟨W.heap.size, 0, none⟩) (size_new _ _)).trans (by simp only [World.frozen?, heap_alloc_new]; rfl), (h.frozen (p := ⟨W.heap.size, 1, none⟩) (size_new _ _)).trans (by simp only [World.frozen?, heap_alloc_new]; rfl), (h.frozen (p := ⟨W.heap.size, 2, none⟩) (size_new _ _)).trans (by simp only [World.frozen?, heap_alloc_new]; rfl)⟩
theorem res_store {fn : Func} {p u : Tmp} {w : World} (h : fn.results = #[.cell p 288, .tmp u]) (tmps : Array Value) (b : Nat) (hp : tmps.getD p undef = .pointer (some ⟨b, 0, none⟩)) (x : Option Addr) (y z : Int) (h1 : w.cell? ⟨b, 0, none⟩ = some (.pointer x)) (h2 : w.cell? ⟨b, 1, none⟩ = some (.int .i64 y)) (h3 : w.cell? ⟨b, 2, none⟩ = some (.int .i64 z)) :
    (results fn tmps).run Tryz.prog w = .ok (.tuple #[.agg #[.pointer x, .int .i64 y, .int .i64 z], tmps.getD u undef]) w := by
  have a60 := Tryz.isAgg288
  have z60 := Tryz.sizeOf288
  have u3 := Tryz.underlying3
  have a3 := Tryz.isAgg3
  have z3 := Tryz.sizeOf3
  have a4 := Tryz.isAgg115
  have z4 := Tryz.sizeOf115
  have u4 := Tryz.underlying115
  rw [results_cell_tmp h, hp]
  simp only [loadVar]
  go_simp
set_option maxRecDepth 100000 in
set_option maxHeartbeats 1000000 in
theorem storeOf_good (v : Value) (l : List UInt8) (room : Int) (w : World) (hb : Bys w v l) (h : ¬ room < (l.length : Int)) (hl : l.length ≤ 1048576) :
    Calls Tryz.prog 174 #[v, .int .i64 room] w fun e w' => ∃ f b, e = .returned (.tuple #[.agg #[.pointer (some ⟨f, 0, none⟩), .int .i64 room, .int .i64 0], .int .i64 0]) ∧ FileAt w' f b l.length l ∧ w.heap.size ≤ f ∧ w.heap.size ≤ b ∧ Below w.heap.size w w' := by
  obtain ⟨a1, c1, rfl, -⟩ := bys_form hb
  have hB : Below w.heap.size w (w.alloc (Obj.cells #[Value.pointer none, Value.int IntKind.i64 0, Value.int IntKind.i64 0] 288)) := (Below.refl _ _).alloc (Nat.le_refl _) _
  have HB := hide (hb.below hB)
  clear hb
  go_enter Tryz.func174, Tryz.ntmps174
  go_wp2_with fail
  refine (Fi_new_good _ l _ HB.out hl).mono ?_
  rintro e w2 ⟨f, rfl, h1, h2, h3⟩
  have H1 := hide h1
  obtain ⟨z0, z1, z2, z3, z4, z5⟩ := new_zero3 h3
  have hwf : w.heap.size < f := Nat.lt_of_le_of_lt hB.size h2
  have hwb : w.heap.size < (w.alloc (Obj.cells #[Value.pointer none, Value.int IntKind.i64 0, Value.int IntKind.i64 0] 288)).heap.size := size_new _ _
  have hB2 := hB.trans (h3.mono hB.size)
  clear h1 h2 h3 hB HB
  generalize (w.alloc (Obj.cells #[Value.pointer none, Value.int IntKind.i64 0, Value.int IntKind.i64 0] 288)).heap.size = b at *
  go_wp2
  obtain ⟨W, hW⟩ : ∃ W, W = ((w2.setCell ⟨w.heap.size, 0, none⟩ (.pointer (some ⟨f, 0, none⟩))).setCell ⟨w.heap.size, 1, none⟩ (.int .i64 room)).setCell ⟨w.heap.size, 2, none⟩ (.int .i64 0) := ⟨_, rfl⟩
  rw [← hW]
  have y0 : W.cell? ⟨w.heap.size, 0, none⟩ = some (.pointer (some ⟨f, 0, none⟩)) := by
    rw [hW, World.cell?_setCell_other _ _ _ _ (by simp), World.cell?_setCell_other _ _ _ _ (by simp)]; exact World.cell?_setCell_same _ _ _ z0
  have y1 : W.cell? ⟨w.heap.size, 1, none⟩ = some (.int .i64 room) := by
    rw [hW, World.cell?_setCell_other _ _ _ _ (by simp)]; exact World.cell?_setCell_same _ _ _ ((World.cell?_setCell_other _ _ _ _ (by simp)).trans z1)
  have y2 : W.cell? ⟨w.heap.size, 2, none⟩ = some (.int .i64 0) := by
    rw [hW]; exact World.cell?_setCell_same _ _ _ ((World.cell?_setCell_other _ _ _ _ (by simp)).trans ((World.cell?_setCell_other _ _ _ _ (by simp)).trans z2))
  refine bodyPost_ret (res_store rfl _ w.heap.size rfl (some ⟨f, 0, none⟩) room 0 y0 y1 y2) rfl ?_
  have hT : Turned (fun k => k = w.heap.size) w2 W := by
    rw [hW]
    exact (((Turned.refl (fun k => k = w.heap.size) w2).set (.inl rfl)).set (.inl rfl)).set (.inl rfl)
  have hbl := H1.out.row.lt
  exact ⟨f, b, rfl, H1.out.keep (hT.block f H1.out.lt (by omega)) (hT.block b hbl (by omega)), by omega, by omega, hB2.trans (hT.below (fun k e => by omega) hB2.size)⟩
theorem mem_new {w w2 : World} {l : List UInt8} {f b room : Nat} {T : TypeId} (hF : FileAt w2 f b l.length l) (hf : w.heap.size ≤ f) (hb : w.heap.size ≤ b) (hB : Below w.heap.size w w2) (hl : l.length ≤ room) (hr : room ≤ 1048576) :
    MemAt (w2.alloc (Obj.cells #[.pointer (some ⟨f, 0, none⟩), .int .i64 (room : Int), .int .i64 0] T)) (fun k => w.heap.size ≤ k) w2.heap.size ⟨l, room, 0⟩ ∧ Below w.heap.size w (w2.alloc (Obj.cells #[.pointer (some ⟨f, 0, none⟩), .int .i64 (room : Int), .int .i64 0] T)) := by
  have hfl := hF.lt
  have hbl := hF.row.lt
  refine ⟨⟨f, b, l.length, ?_, ?_, ?_, ?_, hF.keep (Below.heap_alloc _ _ _ hfl) (Below.heap_alloc _ _ _ hbl), hB.size, hf, hb, by omega, by omega, hl, Nat.zero_le _, hr⟩, hB.alloc hB.size _⟩
  · simp only [World.cell?, heap_alloc_new]; rfl
  · simp only [World.cell?, heap_alloc_new]; rfl
  · simp only [World.cell?, heap_alloc_new]; rfl
  · simp only [World.frozen?, heap_alloc_new]; rfl
theorem mem_new2 {w w2 : World} {l : List UInt8} {f b room : Nat} {T : TypeId} (hF : FileAt w2 f b l.length l) (hf : w.heap.size ≤ f) (hb : w.heap.size ≤ b) (hB : Below w.heap.size w w2) (hl : l.length ≤ room) (hr : room ≤ 1048576) :
    MemAt ((w2.alloc (Obj.cells #[.pointer (some ⟨f, 0, none⟩), .int .i64 (room : Int), .int .i64 0] 288)).alloc (Obj.cells #[.pointer (some ⟨f, 0, none⟩), .int .i64 (room : Int), .int .i64 0] T)) (fun k => w.heap.size ≤ k) (w2.heap.size + 1) ⟨l, room, 0⟩ ∧ Below w.heap.size w ((w2.alloc (Obj.cells #[.pointer (some ⟨f, 0, none⟩), .int .i64 (room : Int), .int .i64 0] 288)).alloc (Obj.cells #[.pointer (some ⟨f, 0, none⟩), .int .i64 (room : Int), .int .i64 0] T)) := by
  have h1 := mem_new (w := w) (T := T) (hF.below (recv4 w2 (Obj.cells #[.pointer (some ⟨f, 0, none⟩), .int .i64 (room : Int), .int .i64 0] 288))) hf hb (hB.alloc hB.size _) hl hr
  have hs : (w2.alloc (Obj.cells #[.pointer (some ⟨f, 0, none⟩), .int .i64 (room : Int), .int .i64 0] 288)).heap.size = w2.heap.size + 1 := by simp
  rw [hs] at h1
  exact h1
set_option maxRecDepth 100000 in
set_option maxHeartbeats 1000000 in
theorem newGrowing_good (v : Value) (l : List UInt8) (w : World) (hb : Bys w v l) (hl : l.length ≤ 1048576) :
    Calls Tryz.prog 89 #[v] w fun e w' => ∃ g, e = .returned (.tuple #[.pointer (some ⟨g, 0, none⟩), .int .i64 0]) ∧ MemAt w' (fun k => w.heap.size ≤ k) g ⟨l, 1048576, 0⟩ ∧ Below w.heap.size w w' := by
  obtain ⟨a1, c1, rfl, -⟩ := bys_form hb
  have HB := hide hb
  clear hb
  go_enter Tryz.func89, Tryz.ntmps89
  go_wp2_with fail
  refine (storeOf_good _ l 1048576 w HB.out (by omega) (by omega)).mono ?_
  rintro e w2 ⟨f, b, rfl, k1, k2, kb, k3⟩
  have K1 := hide k1
  clear k1
  go_wp2
  go_ret2
  obtain ⟨q1, q2⟩ := mem_new2 (room := 1048576) (T := 293) K1.out k2 kb k3 (by omega) (by omega)
  exact ⟨_, rfl, q1, q2⟩
set_option maxRecDepth 100000 in
set_option maxHeartbeats 1000000 in
theorem gmread_any (O : Nat → Prop) (g : Nat) (S : MS) (n : Int) (w : World) (h : MemAt w O g S) :
    Calls Tryz.prog 280 #[.pointer (some ⟨g, 0, none⟩), .int .i64 n] w fun e w' => ∃ v, e = .returned (.tuple #[v, .int .i64 (S.read n).2.1]) ∧ w'.ownsRow w.heap.size 5 1 v (S.read n).1.length ((S.read n).1.map bv) ∧ MemAt w' O g (S.read n).2.2 ∧ Turned O w w' := by
  have HR := hide (sread_any O g S n w h)
  clear h
  go_enter Tryz.func280, Tryz.ntmps280
  go_wp2_with fail
  refine HR.out.mono ?_
  rintro e w2 ⟨v, rfl, h1, h2, h3⟩
  have H1 := hide h1
  have H2 := hide h2
  have H3 := hide h3
  clear h1 h2 h3 HR
  go_wp2
  go_ret2
  exact ⟨v, rfl, H1.out, H2.out, H3.out⟩
set_option maxRecDepth 100000 in
set_option maxHeartbeats 1000000 in
theorem gmwrite_any (O : Nat → Prop) (g : Nat) (S : MS) (x : List UInt8) (a : Option Addr) (c : Nat) (w : World) (h : MemAt w O g S) (hx : Bys w (.slice a x.length c) x) (hc : x.length ≤ c) (hap : 0 < x.length → ∀ k, (Value.slice a x.length c).ownBlock = some k → ¬ O k) :
    Calls Tryz.prog 282 #[.pointer (some ⟨g, 0, none⟩), .slice a x.length c] w fun e w' => e = .returned (.tuple #[.int .i64 (S.write x).1, .int .i64 (S.write x).2.1]) ∧ MStep w O g (S.write x).2.2 w' := by
  have HR := hide (swrite_any O g S x a c w h hx hc hap)
  clear h hx hap
  go_enter Tryz.func282, Tryz.ntmps282
  go_wp2_with fail
  refine HR.out.mono ?_
  rintro e w2 ⟨rfl, h1⟩
  have H1 := hide h1
  clear h1 HR
  go_wp2
  go_ret2
  exact ⟨rfl, H1.out⟩
set_option maxRecDepth 100000 in
set_option maxHeartbeats 1000000 in
theorem gmbytes_any (O : Nat → Prop) (g : Nat) (S : MS) (w : World) (h : MemAt w O g S) :
    Calls Tryz.prog 107 #[.pointer (some ⟨g, 0, none⟩)] w fun e w' => ∃ v, e = .returned v ∧ w'.ownsRow w.heap.size 5 1 v S.l.length (S.l.map bv) ∧ Below w.heap.size w w' := by
  have HR := hide (sall_any O g S w h)
  clear h
  go_enter Tryz.func107, Tryz.ntmps107
  go_wp2_with fail
  refine HR.out.mono ?_
  rintro e w2 ⟨v, rfl, h1, h2⟩
  have H1 := hide h1
  clear h1 HR
  go_wp2
  go_ret
  exact ⟨v, rfl, H1.out, h2⟩
end Go.Proofs.YtanbiinomagdbaaGreat

/- A custom stream, as a value and in memory; isMade, Seek, Taken; an answer is used up. -/
namespace Go.Proofs.YtanbiinomagdbaaGreat
open Go.RowKit

structure CS where
  reads : List (List UInt8 × Int)
  writes : List Int
  taken : List UInt8
def Ans1 (W : World) (R : Nat → Prop) (b o : Nat) (x : List UInt8 × Int) : Prop :=
  ∃ va vc, W.cell? ⟨b, o, none⟩ = some (.slice va x.1.length vc) ∧ W.cell? ⟨b, o + 1, none⟩ = some (.int .i64 x.2) ∧ W.frozen? ⟨b, o, none⟩ = false ∧ W.frozen? ⟨b, o + 1, none⟩ = false ∧ Bys W (.slice va x.1.length vc) x.1 ∧ x.1.length ≤ vc ∧ (0 < x.1.length → ∀ k, (Value.slice va x.1.length vc).ownBlock = some k → R k)
def Ans (W : World) (R : Nat → Prop) (v : Value) (l : List (List UInt8 × Int)) : Prop :=
  ∃ a cap, v = .slice a l.length cap ∧ l.length ≤ cap ∧ (0 < l.length → ∃ b off, a = some ⟨b, off, none⟩ ∧ R b ∧ ∀ j (hj : j < l.length), Ans1 W R b (off + j * 2) l[j])
def NRow (W : World) (R : Nat → Prop) (v : Value) (l : List Int) : Prop :=
  ∃ a cap, v = .slice a l.length cap ∧ l.length ≤ cap ∧ (0 < l.length → ∃ b off, a = some ⟨b, off, none⟩ ∧ R b ∧ ∀ j (hj : j < l.length), W.cell? ⟨b, off + j, none⟩ = some (.int .i64 l[j]))
end Go.Proofs.YtanbiinomagdbaaGreat

/- A custom stream is made: copiedAnswers. -/
namespace Go.Proofs.YtanbiinomagdbaaGreat
open Go.RowKit

def AnsR (W : World) (v : Value) (l : List (List UInt8 × Int)) : Prop :=
  ∃ a cap, v = .slice a l.length cap ∧ (0 < l.length → ∃ b off, a = some ⟨b, off, none⟩ ∧ ∀ j (hj : j < l.length), ∃ va vc, W.cell? ⟨b, off + j * 2, none⟩ = some (.slice va l[j].1.length vc) ∧ W.cell? ⟨b, off + j * 2 + 1, none⟩ = some (.int .i64 l[j].2) ∧ Bys W (.slice va l[j].1.length vc) l[j].1 ∧ l[j].1.length ≤ vc)
theorem AnsR.below {W W' : World} {v : Value} {l : List (List UInt8 × Int)} (h : AnsR W v l) (hB : Below W.heap.size W W') : AnsR W' v l := by
  obtain ⟨a, cap, rfl, h2⟩ := h
  refine ⟨a, cap, rfl, fun h0 => ?_⟩
  obtain ⟨b, off, rfl, hd⟩ := h2 h0
  refine ⟨b, off, rfl, fun j hj => ?_⟩
  obtain ⟨va, vc, a1, a2, a3, a4⟩ := hd j hj
  have hl := World.block_lt_of_cell? W _ a1
  exact ⟨va, vc, (hB.cell (p := ⟨b, off + j * 2, none⟩) hl).trans a1, (hB.cell (p := ⟨b, off + j * 2 + 1, none⟩) hl).trans a2, a3.below hB, a4⟩
end Go.Proofs.YtanbiinomagdbaaGreat

/- A custom stream is made. -/
namespace Go.Proofs.YtanbiinomagdbaaGreat
open Go.RowKit

def IntsR (W : World) (v : Value) (l : List Int) : Prop :=
  (v = .slice none 0 0 ∧ l = []) ∨ ∃ q cap, v = .slice (some q) l.length cap ∧ (0 < l.length → ∃ b off, q = ⟨b, off, none⟩ ∧ ∀ j (hj : j < l.length), W.cell? ⟨b, off + j, none⟩ = some (.int .i64 l[j]))
theorem IntsR.below {W W' : World} {v : Value} {l : List Int} (h : IntsR W v l) (hB : Below W.heap.size W W') : IntsR W' v l := by
  rcases h with h | ⟨q, cap, rfl, h2⟩
  · exact .inl h
  · refine .inr ⟨q, cap, rfl, fun h0 => ?_⟩
    obtain ⟨b, off, rfl, hd⟩ := h2 h0
    exact ⟨b, off, rfl, fun j hj => (hB.cell (p := ⟨b, off + j, none⟩) (World.block_lt_of_cell? W _ (hd j hj))).trans (hd j hj)⟩
theorem IntsR.form {W : World} {v : Value} {l : List Int} (h : IntsR W v l) : ∃ a c, v = .slice a l.length c := by
  rcases h with ⟨rfl, rfl⟩ | ⟨q, cap, rfl, _⟩
  · exact ⟨_, _, rfl⟩
  · exact ⟨_, _, rfl⟩
def iv (x : Int) : Value := .int .i64 x
end Go.Proofs.YtanbiinomagdbaaGreat

/- The reference's memories: made; which memories may be. -/
namespace Go.Proofs.YtanbiinomagdbaaGreat
open Go.RowKit

def rmc (kind : Int) (v : Value) (room pl : Int) (rv wv : Value) (m : Int) : Array Value := #[.int .i64 kind, v, .int .i64 room, .int .i64 pl, rv, wv, .pointer none, .int .i64 0, .int .i64 m]
end Go.Proofs.YtanbiinomagdbaaGreat

/- The reference's memories: Read, Write, Seek. -/
namespace Go.Proofs.YtanbiinomagdbaaGreat
open Go.RowKit

end Go.Proofs.YtanbiinomagdbaaGreat

/- The reference's memories: Write. -/
namespace Go.Proofs.YtanbiinomagdbaaGreat
open Go.RowKit

end Go.Proofs.YtanbiinomagdbaaGreat

/- Answers for the program: the law's answers. -/
namespace Go.Proofs.YtanbiinomagdbaaGreat
open Go.RowKit

end Go.Proofs.YtanbiinomagdbaaGreat

/- The reference's custom stream: made. -/
namespace Go.Proofs.YtanbiinomagdbaaGreat
open Go.RowKit

structure RBlk (W : World) (g : Nat) (rv wv : Value) : Prop where
  row : W.heap[g]? = some (.cells (rmc 4 (.slice none 0 0) 0 0 rv wv 0) 189)
end Go.Proofs.YtanbiinomagdbaaGreat

/- A custom stream: an answer is used up. -/
namespace Go.Proofs.YtanbiinomagdbaaGreat
open Go.RowKit

end Go.Proofs.YtanbiinomagdbaaGreat

/- A custom stream: useAnswer, useNumber, as deferred calls. -/
namespace Go.Proofs.YtanbiinomagdbaaGreat
open Go.RowKit

end Go.Proofs.YtanbiinomagdbaaGreat

/- A custom stream: Read. -/
namespace Go.Proofs.YtanbiinomagdbaaGreat
open Go.RowKit

end Go.Proofs.YtanbiinomagdbaaGreat

/- A custom stream: howMany. -/
namespace Go.Proofs.YtanbiinomagdbaaGreat
open Go.RowKit

end Go.Proofs.YtanbiinomagdbaaGreat

/- A custom stream: Write, Taken. -/
namespace Go.Proofs.YtanbiinomagdbaaGreat
open Go.RowKit

end Go.Proofs.YtanbiinomagdbaaGreat

/- The reference's custom streams: in memory; Read. -/
namespace Go.Proofs.YtanbiinomagdbaaGreat
open Go.RowKit

structure RCusP (W : World) (O : Nat → Prop) (g : Nat) (C : CS) (rv wv tv : Value) (m : Int) (R N : Nat → Prop) : Prop where
  row : W.heap[g]? = some (.cells (rmc 4 tv 0 0 rv wv m) 189)
  ans : Ans W R rv C.reads
  num : NRow W N wv C.writes
  tak : W.ownsRow 0 5 1 tv C.taken.length (C.taken.map bv)
  ot : ∀ k, tv.ownBlock = some k → O k ∧ ¬ R k ∧ ¬ N k ∧ k ≠ g
  oR : ∀ k, R k → O k ∧ k ≠ g ∧ ¬ N k
  oN : ∀ k, N k → O k ∧ k ≠ g
  og : O g
  z1 : C.reads.length ≤ 4096
  z2 : C.writes.length ≤ 4096
  z3 : ∀ x ∈ C.reads, x.1.length ≤ 1048576
end Go.Proofs.YtanbiinomagdbaaGreat

/- The reference's custom streams: Write, Seek. -/
namespace Go.Proofs.YtanbiinomagdbaaGreat
open Go.RowKit

end Go.Proofs.YtanbiinomagdbaaGreat

/- Two objects in memory that share nothing. -/
namespace Go.Proofs.YtanbiinomagdbaaGreat
open Go.RowKit

structure OAt (A : World → (Nat → Prop) → Prop) : Prop where
  keep : ∀ {w w' : World} {O : Nat → Prop}, A w O → (∀ j, O j → j < w.heap.size → w'.heap[j]? = w.heap[j]?) → w.heap.size ≤ w'.heap.size → A w' O
  trim : ∀ {w : World} {O : Nat → Prop}, A w O → A w (fun k => O k ∧ k < w.heap.size)
def OStep (A : World → (Nat → Prop) → Prop) (w : World) (O : Nat → Prop) (w' : World) : Prop := ∃ O', A w' O' ∧ (∀ k, O' k → O k ∨ w.heap.size ≤ k) ∧ Turned O w w'
def Both (A B : World → (Nat → Prop) → Prop) (w : World) (Q : Nat → Prop) : Prop := ∃ O P, A w O ∧ B w P ∧ (∀ j, O j → Q j ∧ j < w.heap.size ∧ ¬ P j) ∧ ∀ j, P j → Q j ∧ j < w.heap.size
theorem Both.below {A B : World → (Nat → Prop) → Prop} {w w' : World} {Q : Nat → Prop} (h : Both A B w Q) (hA : OAt A) (hB : OAt B) (hb : Below w.heap.size w w') : Both A B w' (fun j => Q j ∧ (j < w.heap.size ∨ w'.heap.size ≤ j)) := by
  obtain ⟨O, P, h1, h2, h3, h4⟩ := h
  have hz := hb.size
  exact ⟨O, P, hA.keep h1 (fun j _ hl => hb.block j hl) hz, hB.keep h2 (fun j _ hl => hb.block j hl) hz, fun j e => ⟨⟨(h3 j e).1, .inl (h3 j e).2.1⟩, Nat.lt_of_lt_of_le (h3 j e).2.1 hz, (h3 j e).2.2⟩, fun j e => ⟨⟨(h4 j e).1, .inl (h4 j e).2⟩, Nat.lt_of_lt_of_le (h4 j e).2 hz⟩⟩
theorem Both.mono {A B : World → (Nat → Prop) → Prop} {w : World} {Q Q' : Nat → Prop} (h : Both A B w Q) (hq : ∀ j, Q j → Q' j) : Both A B w Q' := by
  obtain ⟨O, P, h1, h2, h3, h4⟩ := h
  exact ⟨O, P, h1, h2, fun j e => ⟨hq j (h3 j e).1, (h3 j e).2⟩, fun j e => ⟨hq j (h4 j e).1, (h4 j e).2⟩⟩
theorem Both.swap {A B : World → (Nat → Prop) → Prop} {w : World} {Q : Nat → Prop} (h : Both A B w Q) : Both B A w Q := by
  obtain ⟨O, P, h1, h2, h3, h4⟩ := h
  exact ⟨P, O, h2, h1, fun j e => ⟨(h4 j e).1, (h4 j e).2, fun e' => (h3 j e').2.2 e⟩, fun j e => ⟨(h3 j e).1, (h3 j e).2.1⟩⟩
theorem Both.one {A B : World → (Nat → Prop) → Prop} {w : World} {Q : Nat → Prop} (h : Both A B w Q) (hB : OAt B) :
    ∃ O, A w O ∧ (∀ j, O j → Q j ∧ j < w.heap.size) ∧ (∀ A' w1 w', Below w.heap.size w w1 → OAt A' → OStep A' w1 O w' → Both A' B w' (fun j => Q j ∨ w1.heap.size ≤ j) ∧ Turned Q w w') ∧
      ∀ A' w', A' w' O → Turned O w w' → Both A' B w' (fun j => Q j ∧ (j < w.heap.size ∨ w'.heap.size ≤ j)) ∧ Turned Q w w' := by
  obtain ⟨O, P, h1, h2, h3, h4⟩ := h
  refine ⟨O, h1, fun j e => ⟨(h3 j e).1, (h3 j e).2.1⟩, fun A' w1 w' hb1 hA' hS => ?_, fun A' w' hA' hT => ?_⟩
  · obtain ⟨O', a1, a2, a3⟩ := hS
    have hz := a3.size
    have hz1 := hb1.size
    refine ⟨⟨fun k => O' k ∧ k < w'.heap.size, P, hA'.trim a1, hB.keep h2 (fun j e hl => (a3.block j (Nat.lt_of_lt_of_le hl hz1) (fun e' => (h3 j e').2.2 e)).trans (hb1.block j hl)) (Nat.le_trans hz1 hz), fun j e => ⟨?_, e.2, fun e' => ?_⟩, fun j e => ⟨.inl (h4 j e).1, Nat.lt_of_lt_of_le (h4 j e).2 (Nat.le_trans hz1 hz)⟩⟩, (Turned.of_below hb1).trans (a3.mono fun k e => (h3 k e).1) (fun _ _ e => e)⟩
    · rcases a2 j e.1 with e1 | e1
      · exact .inl (h3 j e1).1
      · exact .inr e1
    · rcases a2 j e.1 with e1 | e1
      · exact (h3 j e1).2.2 e'
      · have := (h4 j e').2; omega
  · have hz := hT.size
    exact ⟨⟨O, P, hA', hB.keep h2 (fun j e hl => hT.block j hl (fun e' => (h3 j e').2.2 e)) hz, fun j e => ⟨⟨(h3 j e).1, .inl (h3 j e).2.1⟩, Nat.lt_of_lt_of_le (h3 j e).2.1 hz, (h3 j e).2.2⟩, fun j e => ⟨⟨(h4 j e).1, .inl (h4 j e).2⟩, Nat.lt_of_lt_of_le (h4 j e).2 hz⟩⟩, hT.mono fun k e => (h3 k e).1⟩
theorem Both.two {A B : World → (Nat → Prop) → Prop} {w : World} {Q : Nat → Prop} (h : Both A B w Q) (hA : OAt A) :
    ∃ P, B w P ∧ (∀ j, P j → Q j ∧ j < w.heap.size) ∧ (∀ B' w1 w', Below w.heap.size w w1 → OAt B' → OStep B' w1 P w' → Both A B' w' (fun j => Q j ∨ w1.heap.size ≤ j) ∧ Turned Q w w') ∧
      ∀ B' w', B' w' P → Turned P w w' → Both A B' w' (fun j => Q j ∧ (j < w.heap.size ∨ w'.heap.size ≤ j)) ∧ Turned Q w w' := by
  obtain ⟨P, h1, h2, h3, h4⟩ := h.swap.one hA
  exact ⟨P, h1, h2, fun B' w1 w' hb hB' hS => by obtain ⟨a, b⟩ := h3 B' w1 w' hb hB' hS; exact ⟨a.swap, b⟩, fun B' w' hB' hT => by obtain ⟨a, b⟩ := h4 B' w' hB' hT; exact ⟨a.swap, b⟩⟩
theorem Both.make {A B : World → (Nat → Prop) → Prop} {w w' : World} {O Q : Nat → Prop} (hA : OAt A) (hB : OAt B) (h1 : A w O) (hO : ∀ j, O j → j < w.heap.size → Q j) (hQ : ∀ j, w.heap.size ≤ j → j < w'.heap.size → Q j) (hb : Below w.heap.size w w') (h2 : B w' (fun k => w.heap.size ≤ k)) : Both A B w' Q := by
  have hz := hb.size
  exact ⟨fun k => O k ∧ k < w.heap.size, fun k => w.heap.size ≤ k ∧ k < w'.heap.size, hA.keep (hA.trim h1) (fun j _ hl => hb.block j hl) hz, hB.trim h2, fun j e => ⟨hO j e.1 e.2, by have := e.2; omega, fun e' => by have := e.2; have := e'.1; omega⟩, fun j e => ⟨hQ j e.1 e.2, e.2⟩⟩
end Go.Proofs.YtanbiinomagdbaaGreat

/- The statements' own example holds: alive answers true. -/
namespace Go.Proofs.YtanbiinomagdbaaGreat
open Go.RowKit

end Go.Proofs.YtanbiinomagdbaaGreat

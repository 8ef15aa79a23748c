/- What the proof stands on, part 2: the contracts of the program's calls that it reaches. -/
import Derived.Test.YtmogciopaffccaaKB1
import Derived.Deep.RegionHeld3
/- Some, over any Raw. -/
namespace Go.Proofs.Ytmogciopaffccaa
open Go.RowKit Go.Maps

set_option maxRecDepth 100000 in
set_option maxHeartbeats 4000000 in
theorem some_any {S : Type} {D : RawD S} {T : TypeId} {v : Value} {fr fw : FuncId} {rok wok : S → Prop} {At : World → (Nat → Prop) → S → Prop} (R : RawM D T v fr fw rok wok At) {w : World} {O : Nat → Prop} {s : S} (n : Nat) (h : At w O s) (h1 : 1 ≤ n) (h2 : n ≤ 1048576) (hok : someOk D rok n 8192 s) :
    Calls Try.prog 83 #[.iface T v, .int .i64 n] w fun e w' => ∃ u, e = .returned (.tuple #[u, .int .i64 (someV D n 8192 s).2.1]) ∧ w'.ownsRow w.heap.size 5 1 u (someV D n 8192 s).1.length ((someV D n 8192 s).1.map bv) ∧ At w' O (someV D n 8192 s).2.2 ∧ Turned O w w' := by
  have hok1 : someOk D rok n (8191 + 1) s := hok
  obtain ⟨vr, hm, hrd0⟩ := R.rd ⟨s, hok1.1⟩
  clear hok1
  have HRd0 := hide (fun (w : World) (O : Nat → Prop) (s : S) (n : Nat) => @hrd0 w O s n)
  clear hrd0
  have hcr := R.cread
  have HA := hide h
  have HOk := hide hok
  have HR := hide R
  clear h hok R
  go_enter Try.func83, Try.ntmps83
  go_wp2_with (first | (go_at_call 84; refine (readable_yes T v n _ (by omega) (by omega)).mono ?_; rintro _ _ ⟨rfl, rfl⟩) | fail)
  obtain ⟨tr, htr⟩ : ∃ tr, tr = 8192 := ⟨_, rfl⟩
  have HTr := hide htr
  clear htr
  go_loopw [15] (fun i wr => ∃ (k : Nat) (s' : S), i = .int .i64 k ∧ k ≤ 8192 ∧ Hid (At wr O s') ∧ Hid (someOk D rok n (tr - k) s' ∧ someV D n (tr - k) s' = someV D n 8192 s) ∧ Hid (Turned O w wr) ∧ w.heap.size ≤ wr.heap.size) (fun i _ => 8192 - (intOf i).toNat)
  case atStart => exact ⟨0, s, rfl, Nat.zero_le _, HA, hide (by rw [HTr.out]; exact ⟨HOk.out, rfl⟩), hide (Turned.of_below (Below.refl _ _)), Nat.le_refl _⟩
  case round =>
    obtain ⟨k, s', rfl, hk, HAt, HV, HT, hsz⟩ := hrel
    clear HA HOk
    by_cases hlt : k < 8192
    case neg =>
      have hke : k = 8192 := by omega
      have HE : Hid (someV D n 8192 s = ([], 81, s')) := hide (by
        have := HV.out.2
        rw [show tr - k = 0 by have := HTr.out; omega] at this
        exact this.symm)
      have hlt' : ¬ (k : Int) < 8192 := by omega
      clear HV hke hlt
      go_wp2_with fail
      go_ret2
      rw [HE.out]
      exact ⟨_, rfl, World.ownsRow_nil _ _ _ _, HAt.out, HT.out⟩
    have hlt' : (k : Int) < 8192 := by omega
    obtain ⟨j, hj⟩ : ∃ j, tr - k = j + 1 := ⟨tr - k - 1, by have := HTr.out; omega⟩
    rw [hj] at HV
    have HRd := hide (HRd0.out _ _ _ n HAt.out HV.out.1.1 h1 h2)
    have hfew := HR.out.few n HAt.out
    obtain ⟨b, e, s2, hd⟩ : ∃ b e s2, D.read s' n = (b, e, s2) := ⟨_, _, _, rfl⟩
    rw [hd] at HRd hfew
    simp only at HRd hfew
    have hV1 : e = 22 ∨ e = 23 → someOk D rok n j s2 := by have := HV.out.1.2; rw [hd] at this; exact this
    have hV2 := HV.out.2
    rw [someV_next D n j s' hd] at hV2
    have HV1 := hide hV1
    have HJ := hide hj
    clear HV hd hj hV1
    by_cases ht : e = 22 ∨ e = 23
    · rw [if_pos ht] at hV2
      have HV2 := hide hV2
      have HV3 := hide (HV1.out ht)
      have HTt := hide ht
      clear hV2 ht
      go_wp2_with fail
      refine HRd.out.mono ?_
      rintro _ w1 ⟨ua, uc, rfl, hO1, hA1, hT1⟩
      have HA1 := hide hA1
      have HT1 := hide (HT.out.trans hT1 (fun _ _ e => e))
      have hs1 : w.heap.size ≤ w1.heap.size := Nat.le_trans hsz hT1.size
      clear hO1 hA1 hT1
      go_wp2_with (first | (go_at_call 55; refine (isTry_yes _ _ HTt.out).mono ?_; rintro _ _ ⟨rfl, rfl⟩) | fail)
      go_roundw
      case rel => exact ⟨k + 1, s2, by go_num, by omega, HA1, hide (by rw [show tr - (k + 1) = j by have := HJ.out; omega]; exact ⟨HV3.out, HV2.out⟩), HT1, hs1⟩
      case measure => simp [intOf]; omega
    · rw [if_neg ht] at hV2
      have HTt := hide ht
      clear ht HV1
      by_cases hn : n < b.length
      · rw [if_pos hn] at hV2
        have HV2 := hide hV2
        have hn' : (n : Int) < (b.length : Int) := by omega
        clear hV2 hn
        go_wp2_with fail
        refine HRd.out.mono ?_
        rintro _ w1 ⟨ua, uc, rfl, hO1, hA1, hT1⟩
        have HA1 := hide hA1
        have HT1 := hide (HT.out.trans hT1 (fun _ _ e => e))
        clear hO1 hA1 hT1
        go_wp2_with (first | (go_at_call 55; refine (isTry_no _ _ HTt.out).mono ?_; rintro _ _ ⟨rfl, rfl⟩) | fail)
        go_ret2
        rw [← HV2.out]
        exact ⟨_, rfl, World.ownsRow_nil _ _ _ _, HA1.out, HT1.out⟩
      rw [if_neg hn] at hV2
      have hn' : ¬ (n : Int) < (b.length : Int) := by omega
      by_cases he : e = 0
      · subst he
        rw [if_pos rfl] at hV2
        have HV2 := hide hV2
        clear hV2 hn
        go_wp2_with fail
        refine HRd.out.mono ?_
        rintro _ w1 ⟨ua, uc, rfl, hO1, hA1, hT1⟩
        have HC := hide (bclone_any (.slice ua b.length uc) b w1 hO1 (by omega))
        have HA1 := hide hA1
        have HT1 := hide (HT.out.trans hT1 (fun _ _ e => e))
        clear hO1 hA1 hT1
        go_wp2_with (first | (go_at_call 55; refine (isTry_no _ _ HTt.out).mono ?_; rintro _ _ ⟨rfl, rfl⟩) | fail)
        refine HC.out.mono ?_
        rintro _ w2 ⟨u2, rfl, hO2, hB2⟩
        have HA2 := hide (HR.out.keep HA1.out (fun j _ hj => hB2.block j hj) hB2.size)
        have HT2 := hide (HT1.out.trans (Turned.of_below hB2) (fun _ _ e => e))
        have HO2 := hide (owns_mono hO2 HT1.out.size)
        clear hO2 hB2
        go_wp2
        go_ret2
        rw [← HV2.out]
        exact ⟨_, rfl, HO2.out, HA2.out, HT2.out⟩
      · rw [if_neg he] at hV2
        have HV2 := hide hV2
        have he2 : (e != 0) = true := by simp [he]
        have he3 : (e == 0) = false := by simp [he]
        clear hV2 hn
        go_wp2_with fail
        refine HRd.out.mono ?_
        rintro _ w1 ⟨ua, uc, rfl, hO1, hA1, hT1⟩
        have HA1 := hide hA1
        have HT1 := hide (HT.out.trans hT1 (fun _ _ e => e))
        clear hO1 hA1 hT1
        go_wp2_with (first | (go_at_call 55; refine (isTry_no _ _ HTt.out).mono ?_; rintro _ _ ⟨rfl, rfl⟩) | fail)
        go_ret2
        rw [← HV2.out]
        exact ⟨_, rfl, World.ownsRow_nil _ _ _ _, HA1.out, HT1.out⟩
end Go.Proofs.Ytmogciopaffccaa

/- Put, over any Raw. -/
namespace Go.Proofs.Ytmogciopaffccaa
open Go.RowKit Go.Maps

theorem spliced_bys {W : World} {g d cap : Nat} {cur : List Value} {l : List UInt8} (hW : W.heap[g]? = some (.cells (splice cur d (l.map bv)).toArray 5 (0, 0))) (hf : d + l.length ≤ cur.length) (h0 : 0 < l.length) : Bys W (.slice (some ⟨g, d, none⟩) l.length cap) l := by
  refine .inr (.inr ⟨g, d, cap, rfl, h0, fun j hj => ?_⟩)
  rw [cell_of_row _ _ _ _ _ _ hW, List.getElem?_toArray, splice_get _ _ _ _ (by simpa using hf), if_neg (by omega), if_pos (by rw [List.length_map]; omega), Nat.add_sub_cancel_left]
  simp [hj, bv]
set_option maxRecDepth 100000 in
set_option maxHeartbeats 4000000 in
theorem rput_any {S : Type} {D : RawD S} {T : TypeId} {v : Value} {fr fw : FuncId} {rok wok : S → Prop} {At : World → (Nat → Prop) → S → Prop} (R : RawM D T v fr fw rok wok At) {w : World} {O : Nat → Prop} {s : S} (bs : List UInt8) (ba : Option Addr) (bc : Nat) (h : At w O s) (hO : ∀ j, O j → j < w.heap.size) (hb : Bys w (.slice ba bs.length bc) bs) (hcap : bs.length ≤ bc) (h2 : bs.length ≤ 1048576) (hap : 0 < bs.length → ∀ k, (Value.slice ba bs.length bc).ownBlock = some k → ¬ O k) (hok : putOk D wok bs (putF bs) s 0 0) :
    Calls Try.prog 41 #[.iface T v, .slice ba bs.length bc] w fun e w' => e = .returned (.tuple #[.int .i64 (putV D bs (putF bs) s 0 0).1, .int .i64 (putV D bs (putF bs) s 0 0).2.1]) ∧ RStep At w O (putV D bs (putF bs) s 0 0).2.2 w' := by
  obtain ⟨i0, hi, hz0, hz1, hz2⟩ := info_parts Try.infoB
  have hm := R.mwrite
  have hcr := R.cwrite
  have HA := hide h
  have HOk := hide hok
  have HR := hide R
  have HOl := hide hO
  have HBb := hide hb
  have HAp := hide hap
  have hn1 : ¬ (1048576 : Int) < (bs.length : Int) := by omega
  clear h hok R hO hb hap
  obtain ⟨F, hF⟩ : ∃ F, F = putF bs := ⟨_, rfl⟩
  have HF := hide hF
  rw [← hF] at HOk ⊢
  clear hF
  go_enter Try.func41, Try.ntmps41
  go_wp2_with (at_make; refine wpList_make_full _ rfl _ _ 22 rfl w.heap.size 5 i0 (.int .u8 0) 1 Try.underlying22 hi hz0 hz1 _ _ _ _ bs.length rfl rfl rfl rfl (by rw [hz2]; omega) (by unfold maxLen; omega) (Nat.le_refl _) ?_; intro w1 hown1 hgrow1; obtain ⟨cur, hcl, HRw, hB1⟩ := Te_made_row hown1 hgrow1; clear hown1 hgrow1)
  have hs1 : w.heap.size < w1.heap.size := (Array.getElem?_eq_some_iff.1 HRw.out).1
  have HB1 := hide hB1
  have HRw0 : Hid (∃ cur : List Value, w1.heap[w.heap.size]? = some (.cells cur.toArray 5 (0, 0)) ∧ cur.length = bs.length) := hide ⟨cur, HRw.out, hcl⟩
  clear HRw hB1 hcl
  go_loopw [7, 8] (fun tv rv wr => ∃ (k d t : Nat) (s' : S), tv = .int .i64 d ∧ rv = .int .i64 t ∧ d ≤ bs.length ∧ t < 8192 ∧ (bs.length - d) * 8192 + (8192 - t) ≤ k ∧ Hid (∃ O', At wr O' s' ∧ ∀ j, O' j → O j ∨ w1.heap.size ≤ j) ∧ Hid (∃ cur : List Value, wr.heap[w.heap.size]? = some (.cells cur.toArray 5 (0, 0)) ∧ cur.length = bs.length) ∧ Hid (putOk D wok bs k s' d t ∧ putV D bs k s' d t = putV D bs F s 0 0) ∧ Hid (Turned O w wr) ∧ w1.heap.size ≤ wr.heap.size) (fun tv rv _ => (bs.length - (intOf tv).toNat) * 8192 + (8192 - (intOf rv).toNat))
  case atStart => exact ⟨F, 0, 0, s, rfl, rfl, Nat.zero_le _, by omega, by rw [HF.out]; unfold putF; omega, hide ⟨O, HR.out.keep HA.out (fun j _ hj => HB1.out.block j hj) HB1.out.size, fun _ e => .inl e⟩, HRw0, hide ⟨HOk.out, rfl⟩, hide (Turned.of_below HB1.out), Nat.le_refl _⟩
  case round =>
    obtain ⟨k, d, t, s', rfl, rfl, hd, ht, hk, HAt, HRw, HV, HT, hsz⟩ := hrel
    clear HA HOk HRw0
    by_cases hlt : d < bs.length
    case neg =>
      have HE : Hid (putV D bs F s 0 0 = (d, 0, s')) := hide (by rw [← HV.out.2]; exact putV_done D bs k s' d t hlt)
      have hlt' : ¬ (d : Int) < (bs.length : Int) := by omega
      clear HV hlt
      go_wp2_with fail
      go_ret2
      rw [HE.out]
      obtain ⟨O', hA', hO'⟩ := HAt.out
      exact ⟨rfl, O', hA', fun j e => (hO' j e).imp id (fun e => by omega), HT.out⟩
    have hlt' : (d : Int) < (bs.length : Int) := by omega
    have hq0 : (0 : Int) ≤ (d : Int) := by omega
    have hq1 : (d : Int) ≤ (bs.length : Int) := by omega
    have hq2 : (bs.length : Int) ≤ (bc : Int) := by omega
    have hq3 : (d : Int) < (bc : Int) := by omega
    have hq4 : ¬ bc = d := by omega
    have hq5 : ¬ bs.length = d := by omega
    obtain ⟨-, xb, xo, rfl, hxb, -⟩ := bys_block HBb.out (by omega)
    obtain ⟨O', hA', hO'⟩ := HAt.out
    obtain ⟨cur, hcu, hcl⟩ := HRw.out
    have hbd : Bys wr (.slice (some ⟨xb, xo + d, none⟩) (bs.length - d) (bc - d)) (bs.drop d) := by
      have := bys_cut (HBb.out.turned HT.out (fun k hk _ => HAp.out (by omega) k hk)) d (bs.length - d) (bc - d) (by omega)
      rw [List.take_of_length_le (by rw [List.length_drop]; exact Nat.le_refl _)] at this
      exact this
    have hdl : (bs.drop d).length = bs.length - d := List.length_drop
    obtain ⟨w2, hrun, HG2, hgr2⟩ := run_copy wr 3 (some ⟨w.heap.size, d, none⟩) (some ⟨xb, xo + d, none⟩) (bs.length - d) (bs.length - d) (bs.length - d) (bc - d) w.heap.size d cur hcu ((bs.drop d).map bv) (by rw [List.length_map, hdl]; simp) (fun h0 => ⟨rfl, Te_bys_src hbd rfl h0⟩) (by rw [List.length_map, hdl]; omega) (bys_one _)
    rw [List.length_map, hdl] at hrun
    have hbs2 : Bys w2 (.slice (some ⟨w.heap.size, d, none⟩) (bs.drop d).length (bs.length - d)) (bs.drop d) := spliced_bys HG2.out (by rw [hdl]; omega) (by rw [hdl]; omega)
    obtain ⟨j, rfl⟩ : ∃ j, k = j + 1 := ⟨k - 1, by omega⟩
    obtain ⟨m, e, s2, hw⟩ : ∃ m e s2, D.write s' (bs.drop d) = (m, e, s2) := ⟨_, _, _, rfl⟩
    obtain ⟨hV0, hV1, hV3⟩ := putOk_next D wok bs j s' d t hw hlt HV.out.1
    have hgO : ¬ O' w.heap.size := fun e => by
      rcases hO' _ e with e | e
      · have := HOl.out _ e; omega
      · omega
    have HW := hide (HR.out.write (w := w2) (bs.drop d) (some ⟨w.heap.size, d, none⟩) (bs.length - d) (HR.out.keep hA' (fun i hi hl => hgr2.block i hl (fun e => by cases e; exact hgO hi)) hgr2.size) hV0 hbs2 (by rw [hdl]; exact Nat.le_refl _) (by rw [hdl]; omega) (by rw [hdl]; omega) (fun i hi => by
      have : w.heap.size = i := by simpa [Value.ownBlock] using hi
      exact this ▸ hgO))
    rw [hw, hdl] at HW
    simp only at HW
    have hV2 := HV.out.2
    rw [putV_next D bs j s' d t hw, if_pos hlt] at hV2
    have HRw2 : Hid (∃ cur : List Value, w2.heap[w.heap.size]? = some (.cells cur.toArray 5 (0, 0)) ∧ cur.length = bs.length) := hide ⟨_, HG2.out, by rw [length_splice _ _ _ (by rw [List.length_map, hdl]; omega)]; exact hcl⟩
    have HT2 : Hid (Turned O w w2) := hide (HT.out.grown hgr2 (fun k e => .inr (by cases e; exact Nat.le_refl _)))
    have hs2 : w1.heap.size ≤ w2.heap.size := by have := hgr2.size; omega
    have HO' := hide hO'
    have HgO := hide hgO
    have HV1 := hide hV1
    have HV3 := hide hV3
    have hsub : (bs.length : Int) - (d : Int) = ((bs.length - d : Nat) : Int) := by omega
    clear HV hw hV0 hV1 hV3 hbs2 hbd hcu hcl hA' hO' hgO hgr2 HG2 HAt HRw hxb
    have hEE : ∀ x : Nat, ¬ ((8192 : Int) = (x : Int)) → True := fun _ _ => trivial
    clear hEE
    by_cases htry : (e = 22 ∨ e = 23) ∨ (m = 0 ∧ e = 0)
    · rw [if_pos htry] at hV2
      by_cases ht1 : t + 1 = 8192
      · rw [if_pos ht1] at hV2
        have HV2 := hide hV2
        obtain rfl : t = 8191 := by omega
        clear hV2 HV1 HV3 ht1
        by_cases hey : e = 22 ∨ e = 23
        · have HTt := hide hey
          clear htry hey
          go_wp2_with fail
          refine HW.out.mono ?_
          rintro _ w3 ⟨rfl, O3, hA3, hO3, hT3⟩
          have HA3 : Hid (∃ O', At w3 O' s2 ∧ ∀ j, O' j → O j ∨ w1.heap.size ≤ j) := hide ⟨O3, hA3, fun i e => (hO3 i e).elim (fun e => HO'.out i e) (fun e => .inr (by omega))⟩
          have HRw3 : Hid (∃ cur : List Value, w3.heap[w.heap.size]? = some (.cells cur.toArray 5 (0, 0)) ∧ cur.length = bs.length) := hide (by
            obtain ⟨c, hc, hl⟩ := HRw2.out
            exact ⟨c, (hT3.block _ (by omega) HgO.out).trans hc, hl⟩)
          have HT3 : Hid (Turned O w w3) := hide (HT2.out.trans hT3 (fun i hi e => (HO'.out i e).resolve_right (by omega)))
          have hs3 : w1.heap.size ≤ w3.heap.size := by have := hT3.size; omega
          clear hA3 hO3 hT3
          go_wp2_with (first | (go_at_call 55; refine (isTry_yes _ _ HTt.out).mono ?_; rintro _ _ ⟨rfl, rfl⟩) | fail)
          go_ret2
          rw [← HV2.out]
          obtain ⟨O', hA', hO'⟩ := HA3.out
          exact ⟨rfl, O', hA', fun i e => (hO' i e).imp id (fun e => by omega), HT3.out⟩
        · obtain ⟨rfl, rfl⟩ : m = 0 ∧ e = 0 := htry.resolve_left hey
          have HTt := hide hey
          clear htry hey
          go_wp2_with fail
          refine HW.out.mono ?_
          rintro _ w3 ⟨rfl, O3, hA3, hO3, hT3⟩
          have HA3 : Hid (∃ O', At w3 O' s2 ∧ ∀ j, O' j → O j ∨ w1.heap.size ≤ j) := hide ⟨O3, hA3, fun i e => (hO3 i e).elim (fun e => HO'.out i e) (fun e => .inr (by omega))⟩
          have HRw3 : Hid (∃ cur : List Value, w3.heap[w.heap.size]? = some (.cells cur.toArray 5 (0, 0)) ∧ cur.length = bs.length) := hide (by
            obtain ⟨c, hc, hl⟩ := HRw2.out
            exact ⟨c, (hT3.block _ (by omega) HgO.out).trans hc, hl⟩)
          have HT3 : Hid (Turned O w w3) := hide (HT2.out.trans hT3 (fun i hi e => (HO'.out i e).resolve_right (by omega)))
          have hs3 : w1.heap.size ≤ w3.heap.size := by have := hT3.size; omega
          clear hA3 hO3 hT3
          go_wp2_with (first | (go_at_call 55; refine (isTry_no _ _ HTt.out).mono ?_; rintro _ _ ⟨rfl, rfl⟩) | fail)
          go_ret2
          rw [← HV2.out]
          obtain ⟨O', hA', hO'⟩ := HA3.out
          exact ⟨rfl, O', hA', fun i e => (hO' i e).imp id (fun e => by omega), HT3.out⟩
      · rw [if_neg ht1] at hV2
        have HV2 := hide hV2
        have HV4 := hide (HV1.out htry ht1)
        have htt : ¬ (t : Int) + 1 = 8192 := by omega
        have htu : ((t : Int) + 1 == 8192) = false := by simp; omega
        clear hV2 HV1 HV3
        by_cases hey : e = 22 ∨ e = 23
        · have HTt := hide hey
          clear htry hey
          go_wp2_with fail
          refine HW.out.mono ?_
          rintro _ w3 ⟨rfl, O3, hA3, hO3, hT3⟩
          have HA3 : Hid (∃ O', At w3 O' s2 ∧ ∀ j, O' j → O j ∨ w1.heap.size ≤ j) := hide ⟨O3, hA3, fun i e => (hO3 i e).elim (fun e => HO'.out i e) (fun e => .inr (by omega))⟩
          have HRw3 : Hid (∃ cur : List Value, w3.heap[w.heap.size]? = some (.cells cur.toArray 5 (0, 0)) ∧ cur.length = bs.length) := hide (by
            obtain ⟨c, hc, hl⟩ := HRw2.out
            exact ⟨c, (hT3.block _ (by omega) HgO.out).trans hc, hl⟩)
          have HT3 : Hid (Turned O w w3) := hide (HT2.out.trans hT3 (fun i hi e => (HO'.out i e).resolve_right (by omega)))
          have hs3 : w1.heap.size ≤ w3.heap.size := by have := hT3.size; omega
          clear hA3 hO3 hT3
          go_wp2_with (first | (go_at_call 55; refine (isTry_yes _ _ HTt.out).mono ?_; rintro _ _ ⟨rfl, rfl⟩) | fail)
          go_roundw
          case rel => exact ⟨j, d, t + 1, s2, rfl, by go_num, by omega, by omega, by omega, HA3, HRw3, hide ⟨HV4.out, HV2.out⟩, HT3, hs3⟩
          case measure => simp [intOf]; omega
        · obtain ⟨rfl, rfl⟩ : m = 0 ∧ e = 0 := htry.resolve_left hey
          have HTt := hide hey
          clear htry hey
          go_wp2_with fail
          refine HW.out.mono ?_
          rintro _ w3 ⟨rfl, O3, hA3, hO3, hT3⟩
          have HA3 : Hid (∃ O', At w3 O' s2 ∧ ∀ j, O' j → O j ∨ w1.heap.size ≤ j) := hide ⟨O3, hA3, fun i e => (hO3 i e).elim (fun e => HO'.out i e) (fun e => .inr (by omega))⟩
          have HRw3 : Hid (∃ cur : List Value, w3.heap[w.heap.size]? = some (.cells cur.toArray 5 (0, 0)) ∧ cur.length = bs.length) := hide (by
            obtain ⟨c, hc, hl⟩ := HRw2.out
            exact ⟨c, (hT3.block _ (by omega) HgO.out).trans hc, hl⟩)
          have HT3 : Hid (Turned O w w3) := hide (HT2.out.trans hT3 (fun i hi e => (HO'.out i e).resolve_right (by omega)))
          have hs3 : w1.heap.size ≤ w3.heap.size := by have := hT3.size; omega
          clear hA3 hO3 hT3
          go_wp2_with (first | (go_at_call 55; refine (isTry_no _ _ HTt.out).mono ?_; rintro _ _ ⟨rfl, rfl⟩) | fail)
          go_roundw
          case rel => exact ⟨j, d, t + 1, s2, rfl, by go_num, by omega, by omega, by omega, HA3, HRw3, hide ⟨HV4.out, HV2.out⟩, HT3, hs3⟩
          case measure => simp [intOf]; omega
    rw [if_neg htry] at hV2
    have HTt : Hid (¬ (e = 22 ∨ e = 23)) := hide (fun h => htry (.inl h))
    have hme : ¬ (m = 0 ∧ e = 0) := fun h => htry (.inr h)
    clear htry HV1
    by_cases hraw : m < 0 ∨ ((bs.length - d : Nat) : Int) < m
    · rw [if_pos hraw] at hV2
      have HV2 := hide hV2
      clear hV2 HV3 hme
      have hm0 : ¬ m = 0 := by omega
      have hm1 : (m == 0) = false := by simp [hm0]
      have hr2 : m < 0 ∨ (¬ m < 0 ∧ ((bs.length - d : Nat) : Int) < m) := by omega
      clear hraw
      rcases hr2 with hr2 | ⟨hr2, hr3⟩
      all_goals
        go_wp2_with fail
        refine HW.out.mono ?_
        rintro _ w3 ⟨rfl, O3, hA3, hO3, hT3⟩
        have HA3 : Hid (∃ O', At w3 O' s2 ∧ ∀ j, O' j → O j ∨ w1.heap.size ≤ j) := hide ⟨O3, hA3, fun i e => (hO3 i e).elim (fun e => HO'.out i e) (fun e => .inr (by omega))⟩
        have HRw3 : Hid (∃ cur : List Value, w3.heap[w.heap.size]? = some (.cells cur.toArray 5 (0, 0)) ∧ cur.length = bs.length) := hide (by
          obtain ⟨c, hc, hl⟩ := HRw2.out
          exact ⟨c, (hT3.block _ (by omega) HgO.out).trans hc, hl⟩)
        have HT3 : Hid (Turned O w w3) := hide (HT2.out.trans hT3 (fun i hi e => (HO'.out i e).resolve_right (by omega)))
        have hs3 : w1.heap.size ≤ w3.heap.size := by have := hT3.size; omega
        clear hA3 hO3 hT3
        go_wp2_with (first | (go_at_call 55; refine (isTry_no _ _ HTt.out).mono ?_; rintro _ _ ⟨rfl, rfl⟩) | fail)
        go_ret2
        rw [← HV2.out]
        obtain ⟨O', hA', hO'⟩ := HA3.out
        exact ⟨rfl, O', hA', fun i e => (hO' i e).imp id (fun e => by omega), HT3.out⟩
    rw [if_neg hraw] at hV2
    have hr1 : ¬ m < 0 := fun h => hraw (.inl h)
    have hr2 : ¬ ((bs.length - d : Nat) : Int) < m := fun h => hraw (.inr h)
    clear hraw
    by_cases he : e = 0
    · subst he
      rw [if_pos rfl] at hV2
      have hm0 : ¬ m = 0 := fun h => hme ⟨h, rfl⟩
      have hm1 : (m == 0) = false := by simp [hm0]
      have HV2 := hide hV2
      have HV4 := hide (HV3.out rfl (by omega) (by omega))
      obtain ⟨q, rfl⟩ : ∃ q : Nat, m = (q : Int) := ⟨m.toNat, by omega⟩
      rw [Int.toNat_natCast] at HV2 HV4
      have hq6 : q ≤ bs.length - d := by omega
      have hq7 : 1 ≤ q := by omega
      clear hV2 HV3 hme
      go_wp2_with fail
      refine HW.out.mono ?_
      rintro _ w3 ⟨rfl, O3, hA3, hO3, hT3⟩
      have HA3 : Hid (∃ O', At w3 O' s2 ∧ ∀ j, O' j → O j ∨ w1.heap.size ≤ j) := hide ⟨O3, hA3, fun i e => (hO3 i e).elim (fun e => HO'.out i e) (fun e => .inr (by omega))⟩
      have HRw3 : Hid (∃ cur : List Value, w3.heap[w.heap.size]? = some (.cells cur.toArray 5 (0, 0)) ∧ cur.length = bs.length) := hide (by
        obtain ⟨c, hc, hl⟩ := HRw2.out
        exact ⟨c, (hT3.block _ (by omega) HgO.out).trans hc, hl⟩)
      have HT3 : Hid (Turned O w w3) := hide (HT2.out.trans hT3 (fun i hi e => (HO'.out i e).resolve_right (by omega)))
      have hs3 : w1.heap.size ≤ w3.heap.size := by have := hT3.size; omega
      clear hA3 hO3 hT3
      go_wp2_with (first | (go_at_call 55; refine (isTry_no _ _ HTt.out).mono ?_; rintro _ _ ⟨rfl, rfl⟩) | fail)
      go_roundw
      case rel => exact ⟨j, d + q, 0, s2, by go_num, rfl, by omega, by omega, by omega, HA3, HRw3, hide ⟨HV4.out, HV2.out⟩, HT3, hs3⟩
      case measure => simp [intOf]; omega
    · rw [if_neg he] at hV2
      have HV2 := hide hV2
      have he2 : (e != 0) = true := by simp [he]
      have he3 : (e == 0) = false := by simp [he]
      clear hV2 HV3 hme
      by_cases hm0 : m = 0
      all_goals first | (subst hm0; skip) | skip
      all_goals
        first | have hm1 : (m == 0) = false := by simp [hm0] | skip
      all_goals
        go_wp2_with fail
        refine HW.out.mono ?_
        rintro _ w3 ⟨rfl, O3, hA3, hO3, hT3⟩
        have HA3 : Hid (∃ O', At w3 O' s2 ∧ ∀ j, O' j → O j ∨ w1.heap.size ≤ j) := hide ⟨O3, hA3, fun i e => (hO3 i e).elim (fun e => HO'.out i e) (fun e => .inr (by omega))⟩
        have HRw3 : Hid (∃ cur : List Value, w3.heap[w.heap.size]? = some (.cells cur.toArray 5 (0, 0)) ∧ cur.length = bs.length) := hide (by
          obtain ⟨c, hc, hl⟩ := HRw2.out
          exact ⟨c, (hT3.block _ (by omega) HgO.out).trans hc, hl⟩)
        have HT3 : Hid (Turned O w w3) := hide (HT2.out.trans hT3 (fun i hi e => (HO'.out i e).resolve_right (by omega)))
        have hs3 : w1.heap.size ≤ w3.heap.size := by have := hT3.size; omega
        clear hA3 hO3 hT3
        go_wp2_with (first | (go_at_call 55; refine (isTry_no _ _ HTt.out).mono ?_; rintro _ _ ⟨rfl, rfl⟩) | fail)
        go_ret2
        rw [← HV2.out]
        obtain ⟨O', hA', hO'⟩ := HA3.out
        exact ⟨rfl, O', hA', fun i e => (hO' i e).imp id (fun e => by omega), HT3.out⟩
end Go.Proofs.Ytmogciopaffccaa

/- Streams, as values, over any Raw that is one. -/
namespace Go.Proofs.Ytmogciopaffccaa
open Go.RowKit

structure SS where
  rd : Bool
  wt : Bool
  mode : Int
  size : Int
  out : List UInt8
  inn : List UInt8
  back : List UInt8
  dir : Int
  fin : Bool
  bad : Bool
  closed : Bool
def SS.buf (x : SS) : Bool := decide (1 ≤ x.mode) && decide (x.mode ≤ 3) && (decide (1 ≤ x.size) && decide (x.size ≤ 65536)) && decide ((x.out.length : Int) ≤ if x.mode = 1 then 0 else x.size) && decide ((x.inn.length : Int) ≤ 65536) && decide ((x.back.length : Int) ≤ 8)
def SS.toR (x : SS) : Bool := decide (0 < (x.inn.length : Int) + (x.back.length : Int))
def SS.toW (x : SS) : Bool := decide (0 < (x.out.length : Int))
def SS.way (x : SS) : Bool :=
  if x.dir = 0 then !x.toR && !x.toW
  else if x.dir = 1 then x.rd && !x.toW && !x.closed
  else if x.dir = 2 then x.wt && !x.toR && !x.closed
  else false
def SS.may (x : SS) : Bool := x.buf && x.way
def SS.refuse (x : SS) (hasRaw : Bool) : Int := if x.may = false then 51 else if hasRaw = false then 2 else if x.closed = true then 113 else 0
def SS.mark (x : SS) (e : Int) : SS := if e = 0 ∨ e = 52 then x else { x with bad := true }
def SS.deliver {S : Type} (D : RawD S) (x : SS) (s : S) : SS × Int × S :=
  (({ x with out := x.out.drop (putV D x.out (putF x.out) s 0 0).1 } : SS).mark (putV D x.out (putF x.out) s 0 0).2.1, (putV D x.out (putF x.out) s 0 0).2.1, (putV D x.out (putF x.out) s 0 0).2.2)
def SS.lay {S : Type} (D : RawD S) (x : SS) (s : S) (c : UInt8) : SS × Int × S :=
  if ((x.out.length + 1 : Nat) : Int) = x.size ∨ (x.mode = 2 ∧ c = 10) then ({ x with out := x.out ++ [c] } : SS).deliver D s else ({ x with out := x.out ++ [c] }, 0, s)
def SS.put1 {S : Type} (D : RawD S) (x : SS) (s : S) (c : UInt8) : SS × Int × S :=
  if x.mode = 1 then (x.mark (putV D [c] (putF [c]) s 0 0).2.1, (putV D [c] (putF [c]) s 0 0).2.1, (putV D [c] (putF [c]) s 0 0).2.2)
  else if (x.out.length : Int) = x.size then
    (if (x.deliver D s).2.1 = 0 then (x.deliver D s).1.lay D (x.deliver D s).2.2 c else x.deliver D s)
  else x.lay D s c
def SS.noWrite (x : SS) : Int := if x.refuse true ≠ 0 then x.refuse true else if x.wt = false then 65 else if x.dir = 1 ∧ ¬ (x.fin = true ∧ (x.inn.length : Int) + (x.back.length : Int) = 0) then 112 else 0
def SS.noRead (x : SS) : Int := if x.refuse true ≠ 0 then x.refuse true else if x.rd = false then 65 else if x.dir = 2 then 112 else 0
def SS.put {S : Type} (D : RawD S) (x : SS) (s : S) (c : UInt8) : SS × Int × S :=
  if x.noWrite = 0 then ({ x with dir := 2 } : SS).put1 D s c else (x, x.noWrite, s)
def SS.most (x : SS) : Nat := if x.mode = 1 then 1 else x.size.toNat
def SS.get1 {S : Type} (D : RawD S) (x : SS) (s : S) : SS × UInt8 × Int × S :=
  if 0 < x.back.length then ({ x with back := x.back.dropLast }, x.back.getD (x.back.length - 1) 0, 0, s)
  else if 0 < x.inn.length then ({ x with inn := x.inn.drop 1 }, x.inn.getD 0 0, 0, s)
  else if x.fin = true then (x, 0, 111, s)
  else if (someV D x.most 8192 s).2.1 ≠ 0 then (x.mark (someV D x.most 8192 s).2.1, 0, (someV D x.most 8192 s).2.1, (someV D x.most 8192 s).2.2)
  else if (someV D x.most 8192 s).1.length = 0 then ({ x with fin := true }, 0, 111, (someV D x.most 8192 s).2.2)
  else ({ x with inn := (someV D x.most 8192 s).1.drop 1 }, (someV D x.most 8192 s).1.getD 0 0, 0, (someV D x.most 8192 s).2.2)
def SS.get {S : Type} (D : RawD S) (x : SS) (s : S) : SS × UInt8 × Int × S :=
  if x.noRead = 0 then ({ x with dir := 1 } : SS).get1 D s else (x, 0, x.noRead, s)
def SS.flush {S : Type} (D : RawD S) (x : SS) (s : S) : SS × Int × S :=
  if x.refuse true ≠ 0 then (x, x.refuse true, s) else if x.dir = 2 then
    (if (x.deliver D s).2.1 = 0 then ({ (x.deliver D s).1 with dir := 0 }, 0, (x.deliver D s).2.2) else x.deliver D s)
  else (x, 0, s)
theorem may_buf {x : SS} (h : x.may = true) : 1 ≤ x.mode ∧ x.mode ≤ 3 ∧ 1 ≤ x.size ∧ x.size ≤ 65536 ∧ (x.out.length : Int) ≤ x.size ∧ (x.mode = 1 → x.out = []) ∧ x.inn.length ≤ 65536 ∧ x.back.length ≤ 8 := by
  unfold SS.may SS.buf at h
  simp only [Bool.and_eq_true, decide_eq_true_eq] at h
  obtain ⟨⟨⟨⟨⟨⟨h1, h2⟩, h3, h4⟩, h5⟩, h6⟩, h7⟩, -⟩ := h
  refine ⟨h1, h2, h3, h4, ?_, fun e => ?_, by omega, by omega⟩
  · split at h5 <;> omega
  · rw [if_pos e] at h5
    exact List.length_eq_zero_iff.1 (by omega)
theorem refuse_may {x : SS} {b : Bool} (h : x.refuse b = 0) : x.may = true ∧ b = true ∧ x.closed = false := by
  unfold SS.refuse at h
  split at h
  · omega
  split at h
  · omega
  split at h
  · omega
  rename_i h1 h2 h3
  exact ⟨by simpa using h1, by simpa using h2, by simpa using h3⟩
theorem noWrite_may {x : SS} (h : x.noWrite = 0) : x.refuse true = 0 ∧ x.wt = true := by
  unfold SS.noWrite at h
  split at h
  · contradiction
  split at h
  · omega
  rename_i h1 h2
  exact ⟨by simpa using h1, by simpa using h2⟩
theorem noRead_may {x : SS} (h : x.noRead = 0) : x.refuse true = 0 ∧ x.rd = true ∧ x.dir ≠ 2 := by
  unfold SS.noRead at h
  split at h
  · contradiction
  split at h
  · omega
  split at h
  · omega
  rename_i h1 h2 h3
  exact ⟨by simpa using h1, by simpa using h2, h3⟩
theorem putV_le {S : Type} (D : RawD S) (bs : List UInt8) : ∀ k s d t, d ≤ bs.length → d ≤ (putV D bs k s d t).1 ∧ (putV D bs k s d t).1 ≤ bs.length
  | 0, s, d, t, h => ⟨Nat.le_refl _, h⟩
  | k + 1, s, d, t, h => by
    rw [putV_next D bs k s d t (m := (D.write s (bs.drop d)).1) (e := (D.write s (bs.drop d)).2.1) (s2 := (D.write s (bs.drop d)).2.2) rfl]
    split
    · split
      · split
        · exact ⟨Nat.le_refl _, h⟩
        · exact putV_le D bs k _ d _ h
      · split
        · exact ⟨Nat.le_refl _, h⟩
        · split
          · rename_i h1 h2 h3 h4
            have := putV_le D bs k (D.write s (bs.drop d)).2.2 (d + (D.write s (bs.drop d)).1.toNat) 0 (by omega)
            omega
          · exact ⟨Nat.le_refl _, h⟩
    · exact ⟨Nat.le_refl _, h⟩
theorem putV_ok {S : Type} (D : RawD S) (bs : List UInt8) (T : Nat) (hT : T = 8192) (k : Nat) : ∀ s d t, d ≤ bs.length → t < T → (bs.length - d) * T + (T - t) ≤ k → (putV D bs k s d t).2.1 = 0 → (putV D bs k s d t).1 = bs.length := by
  induction k with
  | zero => intro s d t h ht hk he; omega
  | succ k ih =>
    intro s d t h ht hk he
    rw [putV_next D bs k s d t (m := (D.write s (bs.drop d)).1) (e := (D.write s (bs.drop d)).2.1) (s2 := (D.write s (bs.drop d)).2.2) rfl] at he ⊢
    rw [← hT] at he ⊢
    split at he
    · rename_i h1
      rw [if_pos h1]
      split at he
      · rename_i h2
        rw [if_pos h2]
        split at he
        · simp at he
        · rename_i h3
          rw [if_neg h3]
          exact ih _ d (t + 1) h (by omega) (by omega) he
      · rename_i h2
        rw [if_neg h2]
        split at he
        · simp at he
        · rename_i h3
          rw [if_neg h3]
          split at he
          · rename_i h4
            rw [if_pos h4]
            obtain ⟨q, hq⟩ : ∃ q : Nat, (D.write s (bs.drop d)).1 = (q : Int) := ⟨(D.write s (bs.drop d)).1.toNat, by omega⟩
            rw [hq] at h2 h3 he ⊢
            refine ih _ _ 0 (by omega) (by omega) ?_ he
            have : bs.length - d = (bs.length - (d + (q : Int).toNat)) + q := by omega
            rw [this, Nat.add_mul] at hk
            have h5 : 1 * T ≤ q * T := Nat.mul_le_mul_right _ (by omega)
            omega
          · rename_i h4
            exact absurd he h4
    · rename_i h1
      rw [if_neg h1]
      show d = bs.length
      omega
theorem putV_all {S : Type} (D : RawD S) (bs : List UInt8) (s : S) (h : (putV D bs (putF bs) s 0 0).2.1 = 0) : (putV D bs (putF bs) s 0 0).1 = bs.length := putV_ok D bs 8192 rfl _ s 0 0 (Nat.zero_le _) (by omega) (by unfold putF; omega) h
theorem putV_fits {S : Type} (D : RawD S) (bs : List UInt8) (s : S) : (putV D bs (putF bs) s 0 0).1 ≤ bs.length := (putV_le D bs _ s 0 0 (Nat.zero_le _)).2
structure Bears {S : Type} (D : RawD S) (rok wok : S → Prop) (G : Nat → S → Prop) : Prop where
  put : ∀ n s bs, G (n + 1) s → bs.length ≤ 65536 → putOk D wok bs (putF bs) s 0 0 ∧ G n (putV D bs (putF bs) s 0 0).2.2
  some : ∀ n s m, G (n + 1) s → 1 ≤ m → m ≤ 65536 → someOk D rok m 8192 s ∧ G n (someV D m 8192 s).2.2
  less : ∀ n s, G (n + 1) s → G n s
structure BearsW {S : Type} (D : RawD S) (wok : S → Prop) (G : Nat → S → Prop) : Prop where
  put : ∀ n s bs, G (n + 1) s → bs.length ≤ 65536 → putOk D wok bs (putF bs) s 0 0 ∧ G n (putV D bs (putF bs) s 0 0).2.2
  less : ∀ n s, G (n + 1) s → G n s
theorem Bears.w {S : Type} {D : RawD S} {rok wok : S → Prop} {G : Nat → S → Prop} (h : Bears D rok wok G) : BearsW D wok G := ⟨h.put, h.less⟩
theorem deliver_out {S : Type} (D : RawD S) (x : SS) (s : S) : (x.deliver D s).1.out = x.out.drop (putV D x.out (putF x.out) s 0 0).1 := by
  unfold SS.deliver SS.mark
  split <;> rfl
theorem deliver_ok {S : Type} (D : RawD S) (x : SS) (s : S) (h : (x.deliver D s).2.1 = 0) : (x.deliver D s).1 = { x with out := [] } := by
  have h2 : (putV D x.out (putF x.out) s 0 0).2.1 = 0 := h
  have e := putV_all D x.out s h2
  unfold SS.deliver SS.mark
  rw [if_pos (.inl h2), e, List.drop_length]
end Go.Proofs.Ytmogciopaffccaa

/- Two objects in memory that share nothing. -/
namespace Go.Proofs.Ytmogciopaffccaa
open Go.RowKit

structure OAt (A : World → (Nat → Prop) → Prop) : Prop where
  keep : ∀ {w w' : World} {O : Nat → Prop}, A w O → (∀ j, O j → j < w.heap.size → w'.heap[j]? = w.heap[j]?) → w.heap.size ≤ w'.heap.size → A w' O
  trim : ∀ {w : World} {O : Nat → Prop}, A w O → A w (fun k => O k ∧ k < w.heap.size)
end Go.Proofs.Ytmogciopaffccaa

/- Streams: which states may be; copies; what lies behind. -/
namespace Go.Proofs.Ytmogciopaffccaa
open Go.RowKit

def Sl (W : World) (v : Value) (l : List UInt8) : Prop := ∃ a c, v = .slice a l.length c ∧ Bys W v l ∧ l.length ≤ c
theorem Sl.own {W : World} {base : Nat} {v : Value} {l : List UInt8} (h : W.ownsRow base 5 1 v l.length (l.map bv)) : Sl W v l := by
  obtain ⟨a, c, rfl⟩ := owns_slice h
  exact ⟨a, c, rfl, Bys.of_owns h, owns_cap h⟩
theorem Sl.nil {W : World} : Sl W (.slice none 0 0) [] := ⟨none, 0, rfl, .inl ⟨rfl, rfl⟩, Nat.le_refl _⟩
theorem Sl.turned {P : Nat → Prop} {W W' : World} {v : Value} {l : List UInt8} (h : Sl W v l) (hT : Turned P W W') (hS : ∀ k, v.ownBlock = some k → k < W.heap.size → ¬ P k) : Sl W' v l := by
  obtain ⟨a, c, rfl, hb, hc⟩ := h
  exact ⟨a, c, rfl, hb.turned hT hS, hc⟩
structure SIn (W : World) (P : Nat → Prop) (x : SS) (o i b : Value) : Prop where
  so : Sl W o x.out
  si : Sl W i x.inn
  sb : Sl W b x.back
  po : ∀ k, o.ownBlock = some k → P k
  pi : ∀ k, i.ownBlock = some k → P k
  pb : ∀ k, b.ownBlock = some k → P k
theorem SIn.mono {W : World} {P Q : Nat → Prop} {x : SS} {o i b : Value} (h : SIn W P x o i b) (hq : ∀ k, P k → Q k) : SIn W Q x o i b := ⟨h.so, h.si, h.sb, fun k e => hq k (h.po k e), fun k e => hq k (h.pi k e), fun k e => hq k (h.pb k e)⟩
theorem SIn.turned {P Q : Nat → Prop} {W W' : World} {x : SS} {o i b : Value} (h : SIn W P x o i b) (hT : Turned Q W W') (hS : ∀ k, P k → k < W.heap.size → ¬ Q k) : SIn W' P x o i b :=
  ⟨h.so.turned hT fun k e => hS k (h.po k e), h.si.turned hT fun k e => hS k (h.pi k e), h.sb.turned hT fun k e => hS k (h.pb k e), h.po, h.pi, h.pb⟩
theorem SIn.below {P : Nat → Prop} {W W' : World} {x : SS} {o i b : Value} (h : SIn W P x o i b) (hB : Below W.heap.size W W') : SIn W' P x o i b := h.turned (Turned.of_below (S := fun _ => False) hB) fun _ _ _ => id

theorem recv_drew (w : World) (o : Obj) (n : Nat) : Below w.heap.size w ((w.alloc o).drewN n) := ⟨rfl, rfl, rfl, (recv_below w o).size, fun k hk => (recv_below w o).block k hk⟩
theorem isMode_any (m : Int) (w : World) : Calls Try.prog 18 #[.int .i64 m] w fun e w' => e = .returned (.bool (decide (1 ≤ m) && decide (m ≤ 3))) ∧ w = w' := by
  generalize hr : (decide (1 ≤ m) && decide (m ≤ 3)) = r
  by_cases h1 : 1 ≤ m
  · by_cases h2 : m ≤ 3
    · skip
      have HR : Hid (true = r) := hide (by rw [← hr, decide_eq_true h1, decide_eq_true h2]; rfl)
      clear hr
      go_enter Try.func18, Try.ntmps18
      go_wp2
      go_ret
      exact ⟨by rw [← HR.out]; first | rfl | (show Ending.returned (Value.bool (decide _)) = _; rw [decide_eq_false (by omega)]), rfl⟩
    · skip
      have HR : Hid (false = r) := hide (by rw [← hr, decide_eq_true h1, decide_eq_false h2]; rfl)
      clear hr
      go_enter Try.func18, Try.ntmps18
      go_wp2
      go_ret
      exact ⟨by rw [← HR.out]; first | rfl | (show Ending.returned (Value.bool (decide _)) = _; rw [decide_eq_false (by omega)]), rfl⟩
  · skip
    have HR : Hid (false = r) := hide (by rw [← hr, decide_eq_false h1]; rfl)
    clear hr
    go_enter Try.func18, Try.ntmps18
    go_wp2
    go_ret
    exact ⟨by rw [← HR.out]; first | rfl | (show Ending.returned (Value.bool (decide _)) = _; rw [decide_eq_false (by omega)]), rfl⟩
theorem isSize_any (m : Int) (w : World) : Calls Try.prog 19 #[.int .i64 m] w fun e w' => e = .returned (.bool (decide (1 ≤ m) && decide (m ≤ 65536))) ∧ w = w' := by
  generalize hr : (decide (1 ≤ m) && decide (m ≤ 65536)) = r
  by_cases h1 : 1 ≤ m
  · by_cases h2 : m ≤ 65536
    · skip
      have HR : Hid (true = r) := hide (by rw [← hr, decide_eq_true h1, decide_eq_true h2]; rfl)
      clear hr
      go_enter Try.func19, Try.ntmps19
      go_wp2
      go_ret
      exact ⟨by rw [← HR.out]; first | rfl | (show Ending.returned (Value.bool (decide _)) = _; rw [decide_eq_false (by omega)]), rfl⟩
    · skip
      have HR : Hid (false = r) := hide (by rw [← hr, decide_eq_true h1, decide_eq_false h2]; rfl)
      clear hr
      go_enter Try.func19, Try.ntmps19
      go_wp2
      go_ret
      exact ⟨by rw [← HR.out]; first | rfl | (show Ending.returned (Value.bool (decide _)) = _; rw [decide_eq_false (by omega)]), rfl⟩
  · skip
    have HR : Hid (false = r) := hide (by rw [← hr, decide_eq_false h1]; rfl)
    clear hr
    go_enter Try.func19, Try.ntmps19
    go_wp2
    go_ret
    exact ⟨by rw [← HR.out]; first | rfl | (show Ending.returned (Value.bool (decide _)) = _; rw [decide_eq_false (by omega)]), rfl⟩
set_option maxRecDepth 100000 in
set_option maxHeartbeats 4000000 in
theorem bufMay_any (x : SS) (oa ia ba : Option Addr) (oc ic bc : Nat) (w : World) : Calls Try.prog 75 #[.agg #[.bool x.rd, .bool x.wt, .int .i64 x.mode, .int .i64 x.size, .slice oa x.out.length oc, .slice ia x.inn.length ic, .slice ba x.back.length bc, .int .i64 x.dir, .bool x.fin, .bool x.bad, .bool x.closed]] w fun e w' => e = .returned (.bool x.buf) ∧ Below w.heap.size w w' := by
  obtain ⟨rd, wt, mode, size, out, inn, back, dir, fin, bad, closed⟩ := x
  generalize hr : SS.buf ⟨rd, wt, mode, size, out, inn, back, dir, fin, bad, closed⟩ = r
  unfold SS.buf at hr
  simp only at hr ⊢
  by_cases hm : mode = 1
  · subst hm
    rw [if_pos rfl, show (decide ((1 : Int) ≤ 1) && decide ((1 : Int) ≤ 3)) = true from rfl] at hr
    cases h2 : (decide (1 ≤ size) && decide (size ≤ 65536)) with
    | false =>
      have H2 := hide h2
      rw [h2] at hr
      have HR : Hid (false = r) := hide (by rw [← hr]; rfl)
      clear hr h2
      go_enter Try.func75, Try.ntmps75
      go_wp2_with (first | (go_at_call 18; refine (isMode_any _ _).mono ?_; rintro _ _ ⟨rfl, rfl⟩; skip) | (go_at_call 19; refine (isSize_any _ _).mono ?_; rintro _ _ ⟨rfl, rfl⟩; rw [H2.out]) | fail)
      go_ret
      exact ⟨by rw [← HR.out]; first | rfl | (show Ending.returned (Value.bool (decide _)) = _; rw [decide_eq_false (by omega)]), recv_below _ _⟩
    | true =>
    have H2 := hide h2
    rw [h2] at hr
    clear h2
    rcases out with _ | ⟨c, t⟩
    · skip
      by_cases h4 : (inn.length : Int) ≤ 65536
      · by_cases h5 : (back.length : Int) ≤ 8
        · skip
          have HR : Hid (true = r) := hide (by rw [← hr, decide_eq_true (show (([] : List UInt8).length : Int) ≤ 0 from Int.le_refl _), decide_eq_true h4, decide_eq_true h5]; rfl)
          clear hr
          go_enter Try.func75, Try.ntmps75
          go_wp2_with (first | (go_at_call 18; refine (isMode_any _ _).mono ?_; rintro _ _ ⟨rfl, rfl⟩; skip) | (go_at_call 19; refine (isSize_any _ _).mono ?_; rintro _ _ ⟨rfl, rfl⟩; rw [H2.out]) | fail)
          go_ret
          exact ⟨by rw [← HR.out]; first | rfl | (show Ending.returned (Value.bool (decide _)) = _; rw [decide_eq_false (by omega)]), recv_below _ _⟩
        · skip
          have HR : Hid (false = r) := hide (by rw [← hr, decide_eq_true (show (([] : List UInt8).length : Int) ≤ 0 from Int.le_refl _), decide_eq_true h4, decide_eq_false h5]; rfl)
          clear hr
          go_enter Try.func75, Try.ntmps75
          go_wp2_with (first | (go_at_call 18; refine (isMode_any _ _).mono ?_; rintro _ _ ⟨rfl, rfl⟩; skip) | (go_at_call 19; refine (isSize_any _ _).mono ?_; rintro _ _ ⟨rfl, rfl⟩; rw [H2.out]) | fail)
          go_ret
          exact ⟨by rw [← HR.out]; first | rfl | (show Ending.returned (Value.bool (decide _)) = _; rw [decide_eq_false (by omega)]), recv_below _ _⟩
      · skip
        have HR : Hid (false = r) := hide (by rw [← hr, decide_eq_true (show (([] : List UInt8).length : Int) ≤ 0 from Int.le_refl _), decide_eq_false h4]; rfl)
        clear hr
        go_enter Try.func75, Try.ntmps75
        go_wp2_with (first | (go_at_call 18; refine (isMode_any _ _).mono ?_; rintro _ _ ⟨rfl, rfl⟩; skip) | (go_at_call 19; refine (isSize_any _ _).mono ?_; rintro _ _ ⟨rfl, rfl⟩; rw [H2.out]) | fail)
        go_ret
        exact ⟨by rw [← HR.out]; first | rfl | (show Ending.returned (Value.bool (decide _)) = _; rw [decide_eq_false (by omega)]), recv_below _ _⟩
    · have h3 : ¬ (((c :: t).length : Int) ≤ 0) := by simp only [List.length_cons]; omega
      have HR : Hid (false = r) := hide (by rw [← hr, decide_eq_false h3]; rfl)
      clear hr
      have h3' : ¬ ((t.length : Int) + 1 ≤ 0) := by omega
      go_enter Try.func75, Try.ntmps75
      go_wp2_with (first | (go_at_call 18; refine (isMode_any _ _).mono ?_; rintro _ _ ⟨rfl, rfl⟩; skip) | (go_at_call 19; refine (isSize_any _ _).mono ?_; rintro _ _ ⟨rfl, rfl⟩; rw [H2.out]) | fail)
      go_ret
      exact ⟨by rw [← HR.out]; first | rfl | (show Ending.returned (Value.bool (decide _)) = _; rw [decide_eq_false (by omega)]), recv_below _ _⟩
  · rw [if_neg hm] at hr
    cases h1 : (decide (1 ≤ mode) && decide (mode ≤ 3)) with
    | false =>
      have H1 := hide h1
      rw [h1] at hr
      have HR : Hid (false = r) := hide (by rw [← hr]; rfl)
      clear hr h1
      go_enter Try.func75, Try.ntmps75
      go_wp2_with (first | (go_at_call 18; refine (isMode_any _ _).mono ?_; rintro _ _ ⟨rfl, rfl⟩; rw [H1.out]) | (go_at_call 19; refine (isSize_any _ _).mono ?_; rintro _ _ ⟨rfl, rfl⟩; rw [H2.out]) | fail)
      go_ret
      exact ⟨by rw [← HR.out]; first | rfl | (show Ending.returned (Value.bool (decide _)) = _; rw [decide_eq_false (by omega)]), recv_below _ _⟩
    | true =>
    have H1 := hide h1
    rw [h1] at hr
    clear h1
    cases h2 : (decide (1 ≤ size) && decide (size ≤ 65536)) with
    | false =>
      have H2 := hide h2
      rw [h2] at hr
      have HR : Hid (false = r) := hide (by rw [← hr]; rfl)
      clear hr h2
      go_enter Try.func75, Try.ntmps75
      go_wp2_with (first | (go_at_call 18; refine (isMode_any _ _).mono ?_; rintro _ _ ⟨rfl, rfl⟩; rw [H1.out]) | (go_at_call 19; refine (isSize_any _ _).mono ?_; rintro _ _ ⟨rfl, rfl⟩; rw [H2.out]) | fail)
      go_ret
      exact ⟨by rw [← HR.out]; first | rfl | (show Ending.returned (Value.bool (decide _)) = _; rw [decide_eq_false (by omega)]), recv_below _ _⟩
    | true =>
    have H2 := hide h2
    rw [h2] at hr
    clear h2
    by_cases h3 : (out.length : Int) ≤ size
    · skip
      by_cases h4 : (inn.length : Int) ≤ 65536
      · by_cases h5 : (back.length : Int) ≤ 8
        · skip
          have HR : Hid (true = r) := hide (by rw [← hr, decide_eq_true h3, decide_eq_true h4, decide_eq_true h5]; rfl)
          clear hr
          go_enter Try.func75, Try.ntmps75
          go_wp2_with (first | (go_at_call 18; refine (isMode_any _ _).mono ?_; rintro _ _ ⟨rfl, rfl⟩; rw [H1.out]) | (go_at_call 19; refine (isSize_any _ _).mono ?_; rintro _ _ ⟨rfl, rfl⟩; rw [H2.out]) | fail)
          go_ret
          exact ⟨by rw [← HR.out]; first | rfl | (show Ending.returned (Value.bool (decide _)) = _; rw [decide_eq_false (by omega)]), recv_below _ _⟩
        · skip
          have HR : Hid (false = r) := hide (by rw [← hr, decide_eq_true h3, decide_eq_true h4, decide_eq_false h5]; rfl)
          clear hr
          go_enter Try.func75, Try.ntmps75
          go_wp2_with (first | (go_at_call 18; refine (isMode_any _ _).mono ?_; rintro _ _ ⟨rfl, rfl⟩; rw [H1.out]) | (go_at_call 19; refine (isSize_any _ _).mono ?_; rintro _ _ ⟨rfl, rfl⟩; rw [H2.out]) | fail)
          go_ret
          exact ⟨by rw [← HR.out]; first | rfl | (show Ending.returned (Value.bool (decide _)) = _; rw [decide_eq_false (by omega)]), recv_below _ _⟩
      · skip
        have HR : Hid (false = r) := hide (by rw [← hr, decide_eq_true h3, decide_eq_false h4]; rfl)
        clear hr
        go_enter Try.func75, Try.ntmps75
        go_wp2_with (first | (go_at_call 18; refine (isMode_any _ _).mono ?_; rintro _ _ ⟨rfl, rfl⟩; rw [H1.out]) | (go_at_call 19; refine (isSize_any _ _).mono ?_; rintro _ _ ⟨rfl, rfl⟩; rw [H2.out]) | fail)
        go_ret
        exact ⟨by rw [← HR.out]; first | rfl | (show Ending.returned (Value.bool (decide _)) = _; rw [decide_eq_false (by omega)]), recv_below _ _⟩
    · skip
      have HR : Hid (false = r) := hide (by rw [← hr, decide_eq_false h3]; rfl)
      clear hr
      go_enter Try.func75, Try.ntmps75
      go_wp2_with (first | (go_at_call 18; refine (isMode_any _ _).mono ?_; rintro _ _ ⟨rfl, rfl⟩; rw [H1.out]) | (go_at_call 19; refine (isSize_any _ _).mono ?_; rintro _ _ ⟨rfl, rfl⟩; rw [H2.out]) | fail)
      go_ret
      exact ⟨by rw [← HR.out]; first | rfl | (show Ending.returned (Value.bool (decide _)) = _; rw [decide_eq_false (by omega)]), recv_below _ _⟩
set_option maxRecDepth 100000 in
set_option maxHeartbeats 4000000 in
theorem wayMay_any (x : SS) (oa ia ba : Option Addr) (oc ic bc : Nat) (w : World) (hi : x.inn.length ≤ 140737488351232) (hb : x.back.length ≤ 140737488351232) : Calls Try.prog 76 #[.agg #[.bool x.rd, .bool x.wt, .int .i64 x.mode, .int .i64 x.size, .slice oa x.out.length oc, .slice ia x.inn.length ic, .slice ba x.back.length bc, .int .i64 x.dir, .bool x.fin, .bool x.bad, .bool x.closed]] w fun e w' => e = .returned (.bool x.way) ∧ Below w.heap.size w w' := by
  obtain ⟨rd, wt, mode, size, out, inn, back, dir, fin, bad, closed⟩ := x
  generalize hr : SS.way ⟨rd, wt, mode, size, out, inn, back, dir, fin, bad, closed⟩ = r
  unfold SS.way SS.toR SS.toW at hr
  simp only at hr hi hb ⊢
  by_cases h0 : dir = 0
  · subst h0
    rw [if_pos rfl] at hr
    by_cases h1 : 0 < (inn.length : Int) + (back.length : Int)
    · by_cases h2 : 0 < (out.length : Int)
      · skip
        have HR : Hid (false = r) := hide (by rw [← hr, decide_eq_true h1, decide_eq_true h2]; rfl)
        clear hr
        have q1 := decide_eq_true h1
        have q2 : decide (0 < out.length) = true := decide_eq_true (by omega)
        go_enter Try.func76, Try.ntmps76
        go_wp2
        go_quiet (fail)
        go_wp2
        go_ret
        exact ⟨by rw [← HR.out]; first | rfl | (show Ending.returned (Value.bool (decide _)) = _; rw [decide_eq_false (by omega)]), recv_drew _ _ _⟩
      · skip
        have HR : Hid (false = r) := hide (by rw [← hr, decide_eq_true h1, decide_eq_false h2]; rfl)
        clear hr
        have q1 := decide_eq_true h1
        have q2 : decide (0 < out.length) = false := decide_eq_false (by omega)
        go_enter Try.func76, Try.ntmps76
        go_wp2
        go_quiet (fail)
        go_wp2
        go_ret
        exact ⟨by rw [← HR.out]; first | rfl | (show Ending.returned (Value.bool (decide _)) = _; rw [decide_eq_false (by omega)]), recv_drew _ _ _⟩
    · by_cases h2 : 0 < (out.length : Int)
      · skip
        have HR : Hid (false = r) := hide (by rw [← hr, decide_eq_false h1, decide_eq_true h2]; rfl)
        clear hr
        have q1 := decide_eq_false h1
        have q2 : decide (0 < out.length) = true := decide_eq_true (by omega)
        go_enter Try.func76, Try.ntmps76
        go_wp2
        go_quiet (fail)
        go_wp2
        go_ret
        exact ⟨by rw [← HR.out]; first | rfl | (show Ending.returned (Value.bool (decide _)) = _; rw [decide_eq_false (by omega)]), recv_drew _ _ _⟩
      · skip
        have HR : Hid (true = r) := hide (by rw [← hr, decide_eq_false h1, decide_eq_false h2]; rfl)
        clear hr
        have q1 := decide_eq_false h1
        have q2 : decide (0 < out.length) = false := decide_eq_false (by omega)
        go_enter Try.func76, Try.ntmps76
        go_wp2
        go_quiet (fail)
        go_wp2
        go_ret
        exact ⟨by rw [← HR.out]; first | rfl | (show Ending.returned (Value.bool (decide _)) = _; rw [decide_eq_false (by omega)]), recv_drew _ _ _⟩
  rw [if_neg h0] at hr
  by_cases h3 : dir = 1
  · subst h3
    rw [if_pos rfl] at hr
    cases rd with
    | false =>
      have HR : Hid (false = r) := hide (by rw [← hr]; rfl)
      clear hr
      go_enter Try.func76, Try.ntmps76
      go_wp2
      go_quiet (fail)
      go_wp2
      go_ret
      exact ⟨by rw [← HR.out]; first | rfl | (show Ending.returned (Value.bool (decide _)) = _; rw [decide_eq_false (by omega)]), recv_drew _ _ _⟩
    | true =>
    by_cases h2 : 0 < (out.length : Int)
    · skip
      have HR : Hid (false = r) := hide (by rw [← hr, decide_eq_true h2]; rfl)
      clear hr
      have q2 : decide (0 < out.length) = true := decide_eq_true (by omega)
      go_enter Try.func76, Try.ntmps76
      go_wp2
      go_quiet (fail)
      go_wp2
      go_ret
      exact ⟨by rw [← HR.out]; first | rfl | (show Ending.returned (Value.bool (decide _)) = _; rw [decide_eq_false (by omega)]), recv_drew _ _ _⟩
    · cases closed with
      | false =>
        have HR : Hid (true = r) := hide (by rw [← hr, decide_eq_false h2]; rfl)
        clear hr
        have q2 : decide (0 < out.length) = false := decide_eq_false (by omega)
        go_enter Try.func76, Try.ntmps76
        go_wp2
        go_quiet (fail)
        go_wp2
        go_ret
        exact ⟨by rw [← HR.out]; first | rfl | (show Ending.returned (Value.bool (decide _)) = _; rw [decide_eq_false (by omega)]), recv_drew _ _ _⟩
      | true =>
        have HR : Hid (false = r) := hide (by rw [← hr, decide_eq_false h2]; rfl)
        clear hr
        have q2 : decide (0 < out.length) = false := decide_eq_false (by omega)
        go_enter Try.func76, Try.ntmps76
        go_wp2
        go_quiet (fail)
        go_wp2
        go_ret
        exact ⟨by rw [← HR.out]; first | rfl | (show Ending.returned (Value.bool (decide _)) = _; rw [decide_eq_false (by omega)]), recv_drew _ _ _⟩
  rw [if_neg h3] at hr
  by_cases h4 : dir = 2
  · subst h4
    rw [if_pos rfl] at hr
    cases wt with
    | false =>
      have HR : Hid (false = r) := hide (by rw [← hr]; rfl)
      clear hr
      go_enter Try.func76, Try.ntmps76
      go_wp2
      go_quiet (fail)
      go_wp2
      go_ret
      exact ⟨by rw [← HR.out]; first | rfl | (show Ending.returned (Value.bool (decide _)) = _; rw [decide_eq_false (by omega)]), recv_drew _ _ _⟩
    | true =>
    by_cases h1 : 0 < (inn.length : Int) + (back.length : Int)
    · skip
      have HR : Hid (false = r) := hide (by rw [← hr, decide_eq_true h1]; rfl)
      clear hr
      have q1 := decide_eq_true h1
      go_enter Try.func76, Try.ntmps76
      go_wp2
      go_quiet (fail)
      go_wp2
      go_ret
      exact ⟨by rw [← HR.out]; first | rfl | (show Ending.returned (Value.bool (decide _)) = _; rw [decide_eq_false (by omega)]), recv_drew _ _ _⟩
    · cases closed with
      | false =>
        have HR : Hid (true = r) := hide (by rw [← hr, decide_eq_false h1]; rfl)
        clear hr
        have q1 := decide_eq_false h1
        go_enter Try.func76, Try.ntmps76
        go_wp2
        go_quiet (fail)
        go_wp2
        go_ret
        exact ⟨by rw [← HR.out]; first | rfl | (show Ending.returned (Value.bool (decide _)) = _; rw [decide_eq_false (by omega)]), recv_drew _ _ _⟩
      | true =>
        have HR : Hid (false = r) := hide (by rw [← hr, decide_eq_false h1]; rfl)
        clear hr
        have q1 := decide_eq_false h1
        go_enter Try.func76, Try.ntmps76
        go_wp2
        go_quiet (fail)
        go_wp2
        go_ret
        exact ⟨by rw [← HR.out]; first | rfl | (show Ending.returned (Value.bool (decide _)) = _; rw [decide_eq_false (by omega)]), recv_drew _ _ _⟩
  rw [if_neg h4] at hr
  have HR : Hid (false = r) := hide hr
  clear hr
  go_enter Try.func76, Try.ntmps76
  go_wp2
  go_quiet (fail)
  go_wp2
  go_ret
  exact ⟨by rw [← HR.out]; first | rfl | (show Ending.returned (Value.bool (decide _)) = _; rw [decide_eq_false (by omega)]), recv_drew _ _ _⟩
end Go.Proofs.Ytmogciopaffccaa

/- Streams: Check, refusal, copies. -/
namespace Go.Proofs.Ytmogciopaffccaa
open Go.RowKit

def StAt (W : World) (g : Nat) (x : SS) (o i b : Value) : Prop := W.heap[g]? = some (.cells #[.bool x.rd, .bool x.wt, .int .i64 x.mode, .int .i64 x.size, o, i, b, .int .i64 x.dir, .bool x.fin, .bool x.bad, .bool x.closed] 29)
theorem StAt.cs {W : World} {g : Nat} {x : SS} {o i b : Value} (h : StAt W g x o i b) : W.cell? ⟨g, 0, none⟩ = some (.bool x.rd) ∧ W.cell? ⟨g, 1, none⟩ = some (.bool x.wt) ∧ W.cell? ⟨g, 2, none⟩ = some (.int .i64 x.mode) ∧ W.cell? ⟨g, 3, none⟩ = some (.int .i64 x.size) ∧ W.cell? ⟨g, 4, none⟩ = some (o) ∧ W.cell? ⟨g, 5, none⟩ = some (i) ∧ W.cell? ⟨g, 6, none⟩ = some (b) ∧ W.cell? ⟨g, 7, none⟩ = some (.int .i64 x.dir) ∧ W.cell? ⟨g, 8, none⟩ = some (.bool x.fin) ∧ W.cell? ⟨g, 9, none⟩ = some (.bool x.bad) ∧ W.cell? ⟨g, 10, none⟩ = some (.bool x.closed) :=
  ⟨cell_of_row W g 0 _ _ _ h, cell_of_row W g 1 _ _ _ h, cell_of_row W g 2 _ _ _ h, cell_of_row W g 3 _ _ _ h, cell_of_row W g 4 _ _ _ h, cell_of_row W g 5 _ _ _ h, cell_of_row W g 6 _ _ _ h, cell_of_row W g 7 _ _ _ h, cell_of_row W g 8 _ _ _ h, cell_of_row W g 9 _ _ _ h, cell_of_row W g 10 _ _ _ h⟩
theorem StAt.new (w : World) (x : SS) (o i b : Value) : StAt (w.alloc (Obj.cells #[.bool x.rd, .bool x.wt, .int .i64 x.mode, .int .i64 x.size, o, i, b, .int .i64 x.dir, .bool x.fin, .bool x.bad, .bool x.closed] 29)) w.heap.size x o i b := heap_alloc_new w _
theorem StAt.below {W W' : World} {g : Nat} {x : SS} {o i b : Value} (h : StAt W g x o i b) (hB : Below W.heap.size W W') : StAt W' g x o i b := (hB.block g (Array.getElem?_eq_some_iff.1 h).1).trans h
set_option maxRecDepth 100000 in
set_option maxHeartbeats 400000 in
theorem scheck_any (x : SS) (oa ia ba : Option Addr) (oc ic bc : Nat) (w : World) (hi : x.inn.length ≤ 140737488351232) (hb : x.back.length ≤ 140737488351232) : Calls Try.prog 50 #[.agg #[.bool x.rd, .bool x.wt, .int .i64 x.mode, .int .i64 x.size, .slice oa x.out.length oc, .slice ia x.inn.length ic, .slice ba x.back.length bc, .int .i64 x.dir, .bool x.fin, .bool x.bad, .bool x.closed]] w fun e w' => e = .returned (.int .i64 (if x.may = true then 0 else 51)) ∧ Below w.heap.size w w' := by
  have HB := hide (bufMay_any x oa ia ba oc ic bc)
  have HW := hide (fun W => wayMay_any x oa ia ba oc ic bc W hi hb)
  generalize hr : (if x.may = true then (0 : Int) else 51) = r
  unfold SS.may at hr
  cases h1 : x.buf with
  | false =>
    have H1 := hide h1
    have HR : Hid (51 = r) := hide (by rw [← hr, h1]; rfl)
    clear hr h1
    go_enter Try.func50, Try.ntmps50
    go_wp2_with fail
    have HB0 := hide (recv_below w (Obj.cells #[.bool x.rd, .bool x.wt, .int .i64 x.mode, .int .i64 x.size, .slice oa x.out.length oc, .slice ia x.inn.length ic, .slice ba x.back.length bc, .int .i64 x.dir, .bool x.fin, .bool x.bad, .bool x.closed] 29))
    have HS0 := hide (StAt.new w x (.slice oa x.out.length oc) (.slice ia x.inn.length ic) (.slice ba x.back.length bc))
    generalize w.alloc (Obj.cells #[.bool x.rd, .bool x.wt, .int .i64 x.mode, .int .i64 x.size, .slice oa x.out.length oc, .slice ia x.inn.length ic, .slice ba x.back.length bc, .int .i64 x.dir, .bool x.fin, .bool x.bad, .bool x.closed] 29) = w0 at *
    refine (HB.out w0).mono ?_
    rintro _ w1 ⟨rfl, hB1⟩
    rw [H1.out]
    have HB1 := hide (HB0.out.trans (hB1.mono HB0.out.size))
    clear hB1
    go_wp2
    go_ret
    exact ⟨by rw [← HR.out]; rfl, HB1.out⟩
  | true =>
  cases h2 : x.way with
  | false =>
    have H1 := hide h1
    have H2 := hide h2
    have HR : Hid (51 = r) := hide (by rw [← hr, h1, h2]; rfl)
    clear hr h1 h2
    go_enter Try.func50, Try.ntmps50
    go_wp2_with fail
    have HB0 := hide (recv_below w (Obj.cells #[.bool x.rd, .bool x.wt, .int .i64 x.mode, .int .i64 x.size, .slice oa x.out.length oc, .slice ia x.inn.length ic, .slice ba x.back.length bc, .int .i64 x.dir, .bool x.fin, .bool x.bad, .bool x.closed] 29))
    have HS0 := hide (StAt.new w x (.slice oa x.out.length oc) (.slice ia x.inn.length ic) (.slice ba x.back.length bc))
    generalize w.alloc (Obj.cells #[.bool x.rd, .bool x.wt, .int .i64 x.mode, .int .i64 x.size, .slice oa x.out.length oc, .slice ia x.inn.length ic, .slice ba x.back.length bc, .int .i64 x.dir, .bool x.fin, .bool x.bad, .bool x.closed] 29) = w0 at *
    refine (HB.out w0).mono ?_
    rintro _ w1 ⟨rfl, hB1⟩
    rw [H1.out]
    have HS1 := hide (HS0.out.below hB1)
    obtain ⟨c0, c1, c2, c3, c4, c5, c6, c7, c8, c9, c10⟩ := HS1.out.cs
    have HB1 := hide (HB0.out.trans (hB1.mono HB0.out.size))
    clear hB1
    go_wp2_with fail
    refine (HW.out w1).mono ?_
    rintro _ w2 ⟨rfl, hB2⟩
    rw [H2.out]
    have HB2 := hide (HB1.out.trans (hB2.mono HB1.out.size))
    clear hB2 c0 c1 c2 c3 c4 c5 c6 c7 c8 c9 c10
    go_wp2
    go_ret
    exact ⟨by rw [← HR.out]; rfl, HB2.out⟩
  | true =>
    have H1 := hide h1
    have H2 := hide h2
    have HR : Hid (0 = r) := hide (by rw [← hr, h1, h2]; rfl)
    clear hr h1 h2
    go_enter Try.func50, Try.ntmps50
    go_wp2_with fail
    have HB0 := hide (recv_below w (Obj.cells #[.bool x.rd, .bool x.wt, .int .i64 x.mode, .int .i64 x.size, .slice oa x.out.length oc, .slice ia x.inn.length ic, .slice ba x.back.length bc, .int .i64 x.dir, .bool x.fin, .bool x.bad, .bool x.closed] 29))
    have HS0 := hide (StAt.new w x (.slice oa x.out.length oc) (.slice ia x.inn.length ic) (.slice ba x.back.length bc))
    generalize w.alloc (Obj.cells #[.bool x.rd, .bool x.wt, .int .i64 x.mode, .int .i64 x.size, .slice oa x.out.length oc, .slice ia x.inn.length ic, .slice ba x.back.length bc, .int .i64 x.dir, .bool x.fin, .bool x.bad, .bool x.closed] 29) = w0 at *
    refine (HB.out w0).mono ?_
    rintro _ w1 ⟨rfl, hB1⟩
    rw [H1.out]
    have HS1 := hide (HS0.out.below hB1)
    obtain ⟨c0, c1, c2, c3, c4, c5, c6, c7, c8, c9, c10⟩ := HS1.out.cs
    have HB1 := hide (HB0.out.trans (hB1.mono HB0.out.size))
    clear hB1
    go_wp2_with fail
    refine (HW.out w1).mono ?_
    rintro _ w2 ⟨rfl, hB2⟩
    rw [H2.out]
    have HB2 := hide (HB1.out.trans (hB2.mono HB1.out.size))
    clear hB2 c0 c1 c2 c3 c4 c5 c6 c7 c8 c9 c10
    go_wp2
    go_ret
    exact ⟨by rw [← HR.out]; rfl, HB2.out⟩
set_option maxRecDepth 100000 in
set_option maxHeartbeats 400000 in
theorem srefusal_any (x : SS) (hr : Bool) (oa ia ba : Option Addr) (oc ic bc : Nat) (w : World) (hi : x.inn.length ≤ 140737488351232) (hb : x.back.length ≤ 140737488351232) : Calls Try.prog 54 #[.agg #[.bool x.rd, .bool x.wt, .int .i64 x.mode, .int .i64 x.size, .slice oa x.out.length oc, .slice ia x.inn.length ic, .slice ba x.back.length bc, .int .i64 x.dir, .bool x.fin, .bool x.bad, .bool x.closed], .bool hr] w fun e w' => e = .returned (.int .i64 (x.refuse hr)) ∧ Below w.heap.size w w' := by
  have HC := hide (fun W => scheck_any x oa ia ba oc ic bc W hi hb)
  generalize hq : x.refuse hr = r
  unfold SS.refuse at hq
  cases hm : x.may with
  | false =>
    have HM : Hid ((if x.may = true then (0 : Int) else 51) = 51) := hide (by rw [hm]; rfl)
    have HR : Hid (51 = r) := hide (by rw [← hq, hm]; rfl)
    clear hq hm
    go_enter Try.func54, Try.ntmps54
    go_wp2_with fail
    have HB0 := hide (recv_below w (Obj.cells #[.bool x.rd, .bool x.wt, .int .i64 x.mode, .int .i64 x.size, .slice oa x.out.length oc, .slice ia x.inn.length ic, .slice ba x.back.length bc, .int .i64 x.dir, .bool x.fin, .bool x.bad, .bool x.closed] 29))
    have HS0 := hide (StAt.new w x (.slice oa x.out.length oc) (.slice ia x.inn.length ic) (.slice ba x.back.length bc))
    generalize w.alloc (Obj.cells #[.bool x.rd, .bool x.wt, .int .i64 x.mode, .int .i64 x.size, .slice oa x.out.length oc, .slice ia x.inn.length ic, .slice ba x.back.length bc, .int .i64 x.dir, .bool x.fin, .bool x.bad, .bool x.closed] 29) = w0 at *
    refine (HC.out w0).mono ?_
    rintro _ w1 ⟨rfl, hB1⟩
    rw [HM.out]
    have HS1 := hide (HS0.out.below hB1)
    obtain ⟨c0, c1, c2, c3, c4, c5, c6, c7, c8, c9, c10⟩ := HS1.out.cs
    have HB1 := hide (HB0.out.trans (hB1.mono HB0.out.size))
    clear hB1
    go_wp2
    go_ret
    exact ⟨by rw [← HR.out]; rfl, HB1.out⟩
  | true =>
  rw [hm] at hq
  have HM : Hid ((if x.may = true then (0 : Int) else 51) = 0) := hide (by rw [hm]; rfl)
  cases hr with
  | false =>
    have HR : Hid (2 = r) := hide hq
    clear hq hm
    go_enter Try.func54, Try.ntmps54
    go_wp2_with fail
    have HB0 := hide (recv_below w (Obj.cells #[.bool x.rd, .bool x.wt, .int .i64 x.mode, .int .i64 x.size, .slice oa x.out.length oc, .slice ia x.inn.length ic, .slice ba x.back.length bc, .int .i64 x.dir, .bool x.fin, .bool x.bad, .bool x.closed] 29))
    have HS0 := hide (StAt.new w x (.slice oa x.out.length oc) (.slice ia x.inn.length ic) (.slice ba x.back.length bc))
    generalize w.alloc (Obj.cells #[.bool x.rd, .bool x.wt, .int .i64 x.mode, .int .i64 x.size, .slice oa x.out.length oc, .slice ia x.inn.length ic, .slice ba x.back.length bc, .int .i64 x.dir, .bool x.fin, .bool x.bad, .bool x.closed] 29) = w0 at *
    refine (HC.out w0).mono ?_
    rintro _ w1 ⟨rfl, hB1⟩
    rw [HM.out]
    have HS1 := hide (HS0.out.below hB1)
    obtain ⟨c0, c1, c2, c3, c4, c5, c6, c7, c8, c9, c10⟩ := HS1.out.cs
    have HB1 := hide (HB0.out.trans (hB1.mono HB0.out.size))
    clear hB1
    go_wp2
    go_ret
    exact ⟨by rw [← HR.out]; rfl, HB1.out⟩
  | true =>
  rcases Bool.eq_false_or_eq_true x.closed with hcl | hcl
  · skip
    have HR : Hid (113 = r) := hide (by rw [← hq, hcl]; rfl)
    have HCl := hide hcl
    clear hq hm hcl
    go_enter Try.func54, Try.ntmps54
    go_wp2_with fail
    have HB0 := hide (recv_below w (Obj.cells #[.bool x.rd, .bool x.wt, .int .i64 x.mode, .int .i64 x.size, .slice oa x.out.length oc, .slice ia x.inn.length ic, .slice ba x.back.length bc, .int .i64 x.dir, .bool x.fin, .bool x.bad, .bool x.closed] 29))
    have HS0 := hide (StAt.new w x (.slice oa x.out.length oc) (.slice ia x.inn.length ic) (.slice ba x.back.length bc))
    generalize w.alloc (Obj.cells #[.bool x.rd, .bool x.wt, .int .i64 x.mode, .int .i64 x.size, .slice oa x.out.length oc, .slice ia x.inn.length ic, .slice ba x.back.length bc, .int .i64 x.dir, .bool x.fin, .bool x.bad, .bool x.closed] 29) = w0 at *
    refine (HC.out w0).mono ?_
    rintro _ w1 ⟨rfl, hB1⟩
    rw [HM.out]
    have HS1 := hide (HS0.out.below hB1)
    obtain ⟨c0, c1, c2, c3, c4, c5, c6, c7, c8, c9, c10⟩ := HS1.out.cs
    rw [HCl.out] at c10
    have HB1 := hide (HB0.out.trans (hB1.mono HB0.out.size))
    clear hB1
    go_wp2
    go_ret
    exact ⟨by rw [← HR.out]; rfl, HB1.out⟩
  · skip
    have HR : Hid (0 = r) := hide (by rw [← hq, hcl]; rfl)
    have HCl := hide hcl
    clear hq hm hcl
    go_enter Try.func54, Try.ntmps54
    go_wp2_with fail
    have HB0 := hide (recv_below w (Obj.cells #[.bool x.rd, .bool x.wt, .int .i64 x.mode, .int .i64 x.size, .slice oa x.out.length oc, .slice ia x.inn.length ic, .slice ba x.back.length bc, .int .i64 x.dir, .bool x.fin, .bool x.bad, .bool x.closed] 29))
    have HS0 := hide (StAt.new w x (.slice oa x.out.length oc) (.slice ia x.inn.length ic) (.slice ba x.back.length bc))
    generalize w.alloc (Obj.cells #[.bool x.rd, .bool x.wt, .int .i64 x.mode, .int .i64 x.size, .slice oa x.out.length oc, .slice ia x.inn.length ic, .slice ba x.back.length bc, .int .i64 x.dir, .bool x.fin, .bool x.bad, .bool x.closed] 29) = w0 at *
    refine (HC.out w0).mono ?_
    rintro _ w1 ⟨rfl, hB1⟩
    rw [HM.out]
    have HS1 := hide (HS0.out.below hB1)
    obtain ⟨c0, c1, c2, c3, c4, c5, c6, c7, c8, c9, c10⟩ := HS1.out.cs
    rw [HCl.out] at c10
    have HB1 := hide (HB0.out.trans (hB1.mono HB0.out.size))
    clear hB1
    go_wp2
    go_ret
    exact ⟨by rw [← HR.out]; rfl, HB1.out⟩
set_option maxRecDepth 100000 in
set_option maxHeartbeats 1000000 in
theorem behind_any (l : List UInt8) (v : Value) (n : Nat) (w : World) (h : Sl w v l) (hn : n ≤ l.length) : Calls Try.prog 56 #[v, .int .i64 n] w fun e w' => ∃ u, e = .returned u ∧ Sl w u (l.drop n) ∧ (∀ k, u.ownBlock = some k → v.ownBlock = some k) ∧ (n = l.length → u = .slice none 0 0) ∧ w = w' := by
  obtain ⟨a, c, rfl, hb, hc⟩ := h
  by_cases he : n = l.length
  · subst he
    clear hb
    go_enter Try.func56, Try.ntmps56
    go_wp2
    go_ret
    exact ⟨.slice none 0 0, rfl, by rw [List.drop_length]; exact Sl.nil, by intro k e; simp [Value.ownBlock] at e, fun _ => rfl, rfl⟩
  · obtain ⟨-, b, off, rfl, -⟩ := bys_block hb (by omega)
    have HB := hide hb
    clear hb
    have h1 : ¬ (n : Int) = (l.length : Int) := by omega
    have h2 : (n : Int) ≤ (l.length : Int) := by omega
    have h3 : (l.length : Int) ≤ (c : Int) := by omega
    have h4 : (n : Int) < (c : Int) := by omega
    have h5 : ¬ c = n := by omega
    go_enter Try.func56, Try.ntmps56
    go_wp2
    go_ret
    refine ⟨.slice (some ⟨b, off + n, none⟩) (l.length - n) (c - n), rfl, ?_, fun k e => e, fun e => absurd e he, rfl⟩
    have := bys_cut HB.out n (l.length - n) (c - n) (by omega)
    rw [List.take_of_length_le (by rw [List.length_drop]; exact Nat.le_refl _)] at this
    exact ⟨_, _, by rw [List.length_drop], this, by rw [List.length_drop]; omega⟩
end Go.Proofs.Ytmogciopaffccaa

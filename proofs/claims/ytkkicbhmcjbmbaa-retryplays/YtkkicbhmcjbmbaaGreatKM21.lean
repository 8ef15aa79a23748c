/- What the proof stands on, part 21: the contracts of the program's calls that it reaches. -/
import Derived.Test.YtkkicbhmcjbmbaaGreatKM20
import Derived.Deep.LoopGhost
/- All, over any Raw. -/
namespace Go.Proofs.YtkkicbhmcjbmbaaGreat
open Go.RowKit Go.Maps

set_option maxRecDepth 100000 in
set_option maxHeartbeats 4000000 in
theorem all_any {S : Type} {D : RawD S} {T : TypeId} {v : Value} {fr fw : FuncId} {rok wok : S → Prop} {At : World → (Nat → Prop) → S → Prop} (R : RawM D T v fr fw rok wok At) {w : World} {O : Nat → Prop} {s : S} (n : Nat) (h : At w O s) (hO : ∀ j, O j → j < w.heap.size) (h1 : 1 ≤ n) (h2 : n ≤ 1048576) (hok : allOk D rok n n s []) :
    Calls Tryz.prog 34 #[.iface T v, .int .i64 n] w fun e w' => ∃ u, e = .returned (.tuple #[u, .int .i64 (allV D n n s []).2.1]) ∧ w'.ownsRow w.heap.size 5 1 u (allV D n n s []).1.length ((allV D n n s []).1.map bv) ∧ At w' O (allV D n n s []).2.2 ∧ Turned O w w' := by
  have HA := hide h
  have HOk := hide hok
  have HR := hide R
  have HOl := hide hO
  clear h hok R hO
  go_enter Tryz.func34, Tryz.ntmps34
  go_wp2_with (first | (go_at_call 119; refine (readable_yes T v n _ (by omega) (by omega)).mono ?_; rintro _ _ ⟨rfl, rfl⟩) | fail)
  go_loopw [7] (fun gv wr => ∃ (k : Nat) (s' : S) (G : List UInt8), G.length ≤ n ∧ n - G.length ≤ k ∧ Hid (wr.ownsRow w.heap.size 5 1 gv G.length (G.map bv)) ∧ Hid (At wr O s') ∧ Hid (allOk D rok n k s' G ∧ allV D n k s' G = allV D n n s []) ∧ Hid (Turned O w wr) ∧ Hid (∀ u nn c, gv = .slice u nn c → nn = G.length) ∧ w.heap.size ≤ wr.heap.size) (fun gv _ => n - (match gv with | .slice _ nn _ => nn | _ => 0))
  case atStart => exact ⟨n, s, [], Nat.zero_le _, Nat.sub_le _ _, hide (World.ownsRow_nil _ _ _ _), HA, hide ⟨HOk.out, rfl⟩, hide (Turned.of_below (Below.refl _ _)), hide (fun _ _ _ e => by cases e; rfl), Nat.le_refl _⟩
  case round =>
    obtain ⟨k, s', G, hG, hk, HOw, HAt, HV, HT, -, hsz⟩ := hrel
    clear HA HOk
    obtain ⟨ga, gc, rfl⟩ := owns_slice HOw.out
    by_cases hlt : G.length < n
    case neg =>
      have HE : Hid (allV D n n s [] = (G, 0, s')) := hide (by rw [← HV.out.2]; exact allV_done D n k s' G hlt)
      have hlt' : ¬ (G.length : Int) < (n : Int) := by omega
      clear HV hlt
      go_wp2_with fail
      go_ret2
      rw [HE.out]
      exact ⟨_, rfl, HOw.out, HAt.out, HT.out⟩
    have hlt' : (G.length : Int) < (n : Int) := by omega
    have hsub : (n : Int) - (G.length : Int) = ((n - G.length : Nat) : Int) := by omega
    obtain ⟨j, rfl⟩ : ∃ j, k = j + 1 := ⟨k - 1, by omega⟩
    have hS := HV.out.1 hlt
    have HS := hide (some_any HR.out (n - G.length) HAt.out (by omega) (by omega) hS.1)
    have hle := someV_len D (n - G.length) 8192 s'
    obtain ⟨b, e, s2, hd⟩ : ∃ b e s2, someV D (n - G.length) 8192 s' = (b, e, s2) := ⟨_, _, _, rfl⟩
    rw [hd] at HS hle
    simp only at HS hle
    have HV1 : Hid (e = 0 ∧ b ≠ [] → allOk D rok n j s2 (G ++ b)) := hide (by have := hS.2; rw [hd] at this; exact this)
    have hV2 := HV.out.2
    rw [allV_next D n j s' G hd, if_pos hlt] at hV2
    clear HV hd hS
    generalize hm : n - G.length = m at *
    have HMm := hide hm
    clear hm
    by_cases hg : e = 0 ∧ b ≠ []
    · rw [if_pos hg] at hV2
      have HV2 := hide hV2
      have HV3 := hide (HV1.out hg)
      obtain ⟨rfl, hb⟩ := hg
      have hb0 : ¬ (b.length : Int) = 0 := by simpa using hb
      have hb1 : ((b.length : Int) == 0) = false := by simpa using hb
      have hbp : 0 < b.length := by omega
      clear hV2 HV1 hb
      go_wp2_with fail
      refine HS.out.mono ?_
      rintro _ w1 ⟨u, rfl, hO1, hA1, hT1⟩
      obtain ⟨ua, uc, rfl⟩ := owns_slice hO1
      have hs1 := hT1.size
      have HO2 := hide (owns_turned HOw.out hT1 (fun j hj hj2 => by have := (HOw.out.lt j hj).1; have := HOl.out j hj2; omega))
      obtain ⟨g', w2, hrun, HO3, hg3, hb3⟩ := run_append_bytes w1 40 w.heap.size _ (.slice ua b.length uc) G b HO2.out (Bys.of_owns hO1) (by omega) (by omega)
      have HRun := hide hrun
      have HA2 := hide (HR.out.keep (w' := w2) hA1 (fun j hj hl => hg3.block j hl (fun e => by have := (HO2.out.lt j e.symm).1; have := HOl.out j hj; omega)) hg3.size)
      have HT2 : Hid (Turned O w w2) := hide ((HT.out.trans hT1 (fun _ _ e => e)).grown hg3 (fun j e => .inr (HO2.out.lt j e).1))
      have hs2 : w.heap.size ≤ w2.heap.size := by have := hg3.size; omega
      clear hrun hO1 hA1 hT1 hg3 hb3
      go_wp2_with (first | (at_builtin; refine Lib.wpList_append_run _ rfl _ _ _ _ rfl _ _ rfl rfl _ _ HRun.out ?_) | fail)
      go_roundw
      case rel => exact ⟨j, s2, G ++ b, by rw [List.length_append]; have := HMm.out; omega, by rw [List.length_append]; omega, HO3, HA2, hide ⟨HV3.out, HV2.out⟩, HT2, hide (fun _ _ _ e => by obtain ⟨_, _, e2⟩ := owns_slice HO3.out; rw [e2] at e; cases e; rfl), hs2⟩
      case measure =>
        obtain ⟨_, _, e2⟩ := owns_slice HO3.out
        rw [e2]
        simp only [List.length_append]
        omega
    · rw [if_neg hg] at hV2
      have HV2 := hide hV2
      clear hV2 HV1
      by_cases he : e = 0
      · subst he
        have hb : b = [] := by by_cases hb : b = []; exact hb; exact absurd ⟨rfl, hb⟩ hg
        subst hb
        clear hg
        go_wp2_with fail
        refine HS.out.mono ?_
        rintro _ w1 ⟨u, rfl, hO1, hA1, hT1⟩
        obtain ⟨ua, uc, rfl⟩ := owns_slice hO1
        have HO2 := hide (owns_turned HOw.out hT1 (fun j hj hj2 => by have := (HOw.out.lt j hj).1; have := HOl.out j hj2; omega))
        have HA1 := hide hA1
        have HT1 := hide (HT.out.trans hT1 (fun _ _ e => e))
        clear hO1 hA1 hT1
        go_wp2_with fail
        go_ret2
        rw [← HV2.out]
        exact ⟨_, rfl, HO2.out, HA1.out, HT1.out⟩
      · have he2 : (e != 0) = true := by simp [he]
        have he3 : (e == 0) = false := by simp [he]
        clear hg
        go_wp2_with fail
        refine HS.out.mono ?_
        rintro _ w1 ⟨u, rfl, hO1, hA1, hT1⟩
        obtain ⟨ua, uc, rfl⟩ := owns_slice hO1
        have HO2 := hide (owns_turned HOw.out hT1 (fun j hj hj2 => by have := (HOw.out.lt j hj).1; have := HOl.out j hj2; omega))
        have HA1 := hide hA1
        have HT1 := hide (HT.out.trans hT1 (fun _ _ e => e))
        clear hO1 hA1 hT1
        go_wp2_with fail
        go_ret2
        rw [← HV2.out]
        exact ⟨_, rfl, HO2.out, HA1.out, HT1.out⟩
end Go.Proofs.YtkkicbhmcjbmbaaGreat

/- Put, over any Raw. -/
namespace Go.Proofs.YtkkicbhmcjbmbaaGreat
open Go.RowKit Go.Maps

theorem spliced_bys {W : World} {g d cap : Nat} {cur : List Value} {l : List UInt8} (hW : W.heap[g]? = some (.cells (splice cur d (l.map bv)).toArray 5 (0, 0))) (hf : d + l.length ≤ cur.length) (h0 : 0 < l.length) : Bys W (.slice (some ⟨g, d, none⟩) l.length cap) l := by
  refine .inr (.inr ⟨g, d, cap, rfl, h0, fun j hj => ?_⟩)
  rw [cell_of_row _ _ _ _ _ _ hW, List.getElem?_toArray, splice_get _ _ _ _ (by simpa using hf), if_neg (by omega), if_pos (by rw [List.length_map]; omega), Nat.add_sub_cancel_left]
  simp [hj, bv]
set_option maxRecDepth 100000 in
set_option maxHeartbeats 4000000 in
theorem rput_any {S : Type} {D : RawD S} {T : TypeId} {v : Value} {fr fw : FuncId} {rok wok : S → Prop} {At : World → (Nat → Prop) → S → Prop} (R : RawM D T v fr fw rok wok At) {w : World} {O : Nat → Prop} {s : S} (bs : List UInt8) (ba : Option Addr) (bc : Nat) (h : At w O s) (hO : ∀ j, O j → j < w.heap.size) (hb : Bys w (.slice ba bs.length bc) bs) (hcap : bs.length ≤ bc) (h2 : bs.length ≤ 1048576) (hap : 0 < bs.length → ∀ k, (Value.slice ba bs.length bc).ownBlock = some k → ¬ O k) (hok : putOk D wok bs (putF bs) s 0 0) :
    Calls Tryz.prog 36 #[.iface T v, .slice ba bs.length bc] w fun e w' => e = .returned (.tuple #[.int .i64 (putV D bs (putF bs) s 0 0).1, .int .i64 (putV D bs (putF bs) s 0 0).2.1]) ∧ RStep At w O (putV D bs (putF bs) s 0 0).2.2 w' := by
  obtain ⟨i0, hi, hz0, hz1, hz2⟩ := info_parts Tryz.infoB
  have hm := R.mwrite
  have hcr := R.cwrite
  have HA := hide h
  have HOk := hide hok
  have HR := hide R
  have HOl := hide hO
  have HBb := hide hb
  have HAp := hide hap
  have hn1 : ¬ (1048576 : Int) < (bs.length : Int) := by omega
  clear h hok R hO hb hap
  obtain ⟨F, hF⟩ : ∃ F, F = putF bs := ⟨_, rfl⟩
  have HF := hide hF
  rw [← hF] at HOk ⊢
  clear hF
  go_enter Tryz.func36, Tryz.ntmps36
  go_wp2_with (at_make; refine wpList_make_full _ rfl _ _ 40 rfl w.heap.size 5 i0 (.int .u8 0) 1 Tryz.underlying40 hi hz0 hz1 _ _ _ _ bs.length rfl rfl rfl rfl (by rw [hz2]; omega) (by unfold maxLen; omega) (Nat.le_refl _) ?_; intro w1 hown1 hgrow1; obtain ⟨cur, hcl, HRw, hB1⟩ := Te_made_row hown1 hgrow1; clear hown1 hgrow1)
  have hs1 : w.heap.size < w1.heap.size := (Array.getElem?_eq_some_iff.1 HRw.out).1
  have HB1 := hide hB1
  have HRw0 : Hid (∃ cur : List Value, w1.heap[w.heap.size]? = some (.cells cur.toArray 5 (0, 0)) ∧ cur.length = bs.length) := hide ⟨cur, HRw.out, hcl⟩
  clear HRw hB1 hcl
  go_loopw [7, 8] (fun tv rv wr => ∃ (k d t : Nat) (s' : S), tv = .int .i64 d ∧ rv = .int .i64 t ∧ d ≤ bs.length ∧ t < 8192 ∧ (bs.length - d) * 8192 + (8192 - t) ≤ k ∧ Hid (∃ O', At wr O' s' ∧ ∀ j, O' j → O j ∨ w1.heap.size ≤ j) ∧ Hid (∃ cur : List Value, wr.heap[w.heap.size]? = some (.cells cur.toArray 5 (0, 0)) ∧ cur.length = bs.length) ∧ Hid (putOk D wok bs k s' d t ∧ putV D bs k s' d t = putV D bs F s 0 0) ∧ Hid (Turned O w wr) ∧ w1.heap.size ≤ wr.heap.size) (fun tv rv _ => (bs.length - (intOf tv).toNat) * 8192 + (8192 - (intOf rv).toNat))
  case atStart => exact ⟨F, 0, 0, s, rfl, rfl, Nat.zero_le _, by omega, by rw [HF.out]; unfold putF; omega, hide ⟨O, HR.out.keep HA.out (fun j _ hj => HB1.out.block j hj) HB1.out.size, fun _ e => .inl e⟩, HRw0, hide ⟨HOk.out, rfl⟩, hide (Turned.of_below HB1.out), Nat.le_refl _⟩
  case round =>
    obtain ⟨k, d, t, s', rfl, rfl, hd, ht, hk, HAt, HRw, HV, HT, hsz⟩ := hrel
    clear HA HOk HRw0
    by_cases hlt : d < bs.length
    case neg =>
      have HE : Hid (putV D bs F s 0 0 = (d, 0, s')) := hide (by rw [← HV.out.2]; exact putV_done D bs k s' d t hlt)
      have hlt' : ¬ (d : Int) < (bs.length : Int) := by omega
      clear HV hlt
      go_wp2_with fail
      go_ret2
      rw [HE.out]
      obtain ⟨O', hA', hO'⟩ := HAt.out
      exact ⟨rfl, O', hA', fun j e => (hO' j e).imp id (fun e => by omega), HT.out⟩
    have hlt' : (d : Int) < (bs.length : Int) := by omega
    have hq0 : (0 : Int) ≤ (d : Int) := by omega
    have hq1 : (d : Int) ≤ (bs.length : Int) := by omega
    have hq2 : (bs.length : Int) ≤ (bc : Int) := by omega
    have hq3 : (d : Int) < (bc : Int) := by omega
    have hq4 : ¬ bc = d := by omega
    have hq5 : ¬ bs.length = d := by omega
    obtain ⟨-, xb, xo, rfl, hxb, -⟩ := bys_block HBb.out (by omega)
    obtain ⟨O', hA', hO'⟩ := HAt.out
    obtain ⟨cur, hcu, hcl⟩ := HRw.out
    have hbd : Bys wr (.slice (some ⟨xb, xo + d, none⟩) (bs.length - d) (bc - d)) (bs.drop d) := by
      have := bys_cut (HBb.out.turned HT.out (fun k hk _ => HAp.out (by omega) k hk)) d (bs.length - d) (bc - d) (by omega)
      rw [List.take_of_length_le (by rw [List.length_drop]; exact Nat.le_refl _)] at this
      exact this
    have hdl : (bs.drop d).length = bs.length - d := List.length_drop
    obtain ⟨w2, hrun, HG2, hgr2⟩ := run_copy wr 3 (some ⟨w.heap.size, d, none⟩) (some ⟨xb, xo + d, none⟩) (bs.length - d) (bs.length - d) (bs.length - d) (bc - d) w.heap.size d cur hcu ((bs.drop d).map bv) (by rw [List.length_map, hdl]; simp) (fun h0 => ⟨rfl, Te_bys_src hbd rfl h0⟩) (by rw [List.length_map, hdl]; omega) (bys_one _)
    rw [List.length_map, hdl] at hrun
    have hbs2 : Bys w2 (.slice (some ⟨w.heap.size, d, none⟩) (bs.drop d).length (bs.length - d)) (bs.drop d) := spliced_bys HG2.out (by rw [hdl]; omega) (by rw [hdl]; omega)
    obtain ⟨j, rfl⟩ : ∃ j, k = j + 1 := ⟨k - 1, by omega⟩
    obtain ⟨m, e, s2, hw⟩ : ∃ m e s2, D.write s' (bs.drop d) = (m, e, s2) := ⟨_, _, _, rfl⟩
    obtain ⟨hV0, hV1, hV3⟩ := putOk_next D wok bs j s' d t hw hlt HV.out.1
    have hgO : ¬ O' w.heap.size := fun e => by
      rcases hO' _ e with e | e
      · have := HOl.out _ e; omega
      · omega
    have HW := hide (HR.out.write (w := w2) (bs.drop d) (some ⟨w.heap.size, d, none⟩) (bs.length - d) (HR.out.keep hA' (fun i hi hl => hgr2.block i hl (fun e => by cases e; exact hgO hi)) hgr2.size) hV0 hbs2 (by rw [hdl]; exact Nat.le_refl _) (by rw [hdl]; omega) (by rw [hdl]; omega) (fun i hi => by
      have : w.heap.size = i := by simpa [Value.ownBlock] using hi
      exact this ▸ hgO))
    rw [hw, hdl] at HW
    simp only at HW
    have hV2 := HV.out.2
    rw [putV_next D bs j s' d t hw, if_pos hlt] at hV2
    have HRw2 : Hid (∃ cur : List Value, w2.heap[w.heap.size]? = some (.cells cur.toArray 5 (0, 0)) ∧ cur.length = bs.length) := hide ⟨_, HG2.out, by rw [length_splice _ _ _ (by rw [List.length_map, hdl]; omega)]; exact hcl⟩
    have HT2 : Hid (Turned O w w2) := hide (HT.out.grown hgr2 (fun k e => .inr (by cases e; exact Nat.le_refl _)))
    have hs2 : w1.heap.size ≤ w2.heap.size := by have := hgr2.size; omega
    have HO' := hide hO'
    have HgO := hide hgO
    have HV1 := hide hV1
    have HV3 := hide hV3
    have hsub : (bs.length : Int) - (d : Int) = ((bs.length - d : Nat) : Int) := by omega
    clear HV hw hV0 hV1 hV3 hbs2 hbd hcu hcl hA' hO' hgO hgr2 HG2 HAt HRw hxb
    have hEE : ∀ x : Nat, ¬ ((8192 : Int) = (x : Int)) → True := fun _ _ => trivial
    clear hEE
    by_cases htry : (e = 22 ∨ e = 23) ∨ (m = 0 ∧ e = 0)
    · rw [if_pos htry] at hV2
      by_cases ht1 : t + 1 = 8192
      · rw [if_pos ht1] at hV2
        have HV2 := hide hV2
        obtain rfl : t = 8191 := by omega
        clear hV2 HV1 HV3 ht1
        by_cases hey : e = 22 ∨ e = 23
        · have HTt := hide hey
          clear htry hey
          go_wp2_with fail
          refine HW.out.mono ?_
          rintro _ w3 ⟨rfl, O3, hA3, hO3, hT3⟩
          have HA3 : Hid (∃ O', At w3 O' s2 ∧ ∀ j, O' j → O j ∨ w1.heap.size ≤ j) := hide ⟨O3, hA3, fun i e => (hO3 i e).elim (fun e => HO'.out i e) (fun e => .inr (by omega))⟩
          have HRw3 : Hid (∃ cur : List Value, w3.heap[w.heap.size]? = some (.cells cur.toArray 5 (0, 0)) ∧ cur.length = bs.length) := hide (by
            obtain ⟨c, hc, hl⟩ := HRw2.out
            exact ⟨c, (hT3.block _ (by omega) HgO.out).trans hc, hl⟩)
          have HT3 : Hid (Turned O w w3) := hide (HT2.out.trans hT3 (fun i hi e => (HO'.out i e).resolve_right (by omega)))
          have hs3 : w1.heap.size ≤ w3.heap.size := by have := hT3.size; omega
          clear hA3 hO3 hT3
          go_wp2_with (first | (go_at_call 120; refine (isTry_yes _ _ HTt.out).mono ?_; rintro _ _ ⟨rfl, rfl⟩) | fail)
          go_ret2
          rw [← HV2.out]
          obtain ⟨O', hA', hO'⟩ := HA3.out
          exact ⟨rfl, O', hA', fun i e => (hO' i e).imp id (fun e => by omega), HT3.out⟩
        · obtain ⟨rfl, rfl⟩ : m = 0 ∧ e = 0 := htry.resolve_left hey
          have HTt := hide hey
          clear htry hey
          go_wp2_with fail
          refine HW.out.mono ?_
          rintro _ w3 ⟨rfl, O3, hA3, hO3, hT3⟩
          have HA3 : Hid (∃ O', At w3 O' s2 ∧ ∀ j, O' j → O j ∨ w1.heap.size ≤ j) := hide ⟨O3, hA3, fun i e => (hO3 i e).elim (fun e => HO'.out i e) (fun e => .inr (by omega))⟩
          have HRw3 : Hid (∃ cur : List Value, w3.heap[w.heap.size]? = some (.cells cur.toArray 5 (0, 0)) ∧ cur.length = bs.length) := hide (by
            obtain ⟨c, hc, hl⟩ := HRw2.out
            exact ⟨c, (hT3.block _ (by omega) HgO.out).trans hc, hl⟩)
          have HT3 : Hid (Turned O w w3) := hide (HT2.out.trans hT3 (fun i hi e => (HO'.out i e).resolve_right (by omega)))
          have hs3 : w1.heap.size ≤ w3.heap.size := by have := hT3.size; omega
          clear hA3 hO3 hT3
          go_wp2_with (first | (go_at_call 120; refine (isTry_no _ _ HTt.out).mono ?_; rintro _ _ ⟨rfl, rfl⟩) | fail)
          go_ret2
          rw [← HV2.out]
          obtain ⟨O', hA', hO'⟩ := HA3.out
          exact ⟨rfl, O', hA', fun i e => (hO' i e).imp id (fun e => by omega), HT3.out⟩
      · rw [if_neg ht1] at hV2
        have HV2 := hide hV2
        have HV4 := hide (HV1.out htry ht1)
        have htt : ¬ (t : Int) + 1 = 8192 := by omega
        have htu : ((t : Int) + 1 == 8192) = false := by simp; omega
        clear hV2 HV1 HV3
        by_cases hey : e = 22 ∨ e = 23
        · have HTt := hide hey
          clear htry hey
          go_wp2_with fail
          refine HW.out.mono ?_
          rintro _ w3 ⟨rfl, O3, hA3, hO3, hT3⟩
          have HA3 : Hid (∃ O', At w3 O' s2 ∧ ∀ j, O' j → O j ∨ w1.heap.size ≤ j) := hide ⟨O3, hA3, fun i e => (hO3 i e).elim (fun e => HO'.out i e) (fun e => .inr (by omega))⟩
          have HRw3 : Hid (∃ cur : List Value, w3.heap[w.heap.size]? = some (.cells cur.toArray 5 (0, 0)) ∧ cur.length = bs.length) := hide (by
            obtain ⟨c, hc, hl⟩ := HRw2.out
            exact ⟨c, (hT3.block _ (by omega) HgO.out).trans hc, hl⟩)
          have HT3 : Hid (Turned O w w3) := hide (HT2.out.trans hT3 (fun i hi e => (HO'.out i e).resolve_right (by omega)))
          have hs3 : w1.heap.size ≤ w3.heap.size := by have := hT3.size; omega
          clear hA3 hO3 hT3
          go_wp2_with (first | (go_at_call 120; refine (isTry_yes _ _ HTt.out).mono ?_; rintro _ _ ⟨rfl, rfl⟩) | fail)
          go_roundw
          case rel => exact ⟨j, d, t + 1, s2, rfl, by go_num, by omega, by omega, by omega, HA3, HRw3, hide ⟨HV4.out, HV2.out⟩, HT3, hs3⟩
          case measure => simp [intOf]; omega
        · obtain ⟨rfl, rfl⟩ : m = 0 ∧ e = 0 := htry.resolve_left hey
          have HTt := hide hey
          clear htry hey
          go_wp2_with fail
          refine HW.out.mono ?_
          rintro _ w3 ⟨rfl, O3, hA3, hO3, hT3⟩
          have HA3 : Hid (∃ O', At w3 O' s2 ∧ ∀ j, O' j → O j ∨ w1.heap.size ≤ j) := hide ⟨O3, hA3, fun i e => (hO3 i e).elim (fun e => HO'.out i e) (fun e => .inr (by omega))⟩
          have HRw3 : Hid (∃ cur : List Value, w3.heap[w.heap.size]? = some (.cells cur.toArray 5 (0, 0)) ∧ cur.length = bs.length) := hide (by
            obtain ⟨c, hc, hl⟩ := HRw2.out
            exact ⟨c, (hT3.block _ (by omega) HgO.out).trans hc, hl⟩)
          have HT3 : Hid (Turned O w w3) := hide (HT2.out.trans hT3 (fun i hi e => (HO'.out i e).resolve_right (by omega)))
          have hs3 : w1.heap.size ≤ w3.heap.size := by have := hT3.size; omega
          clear hA3 hO3 hT3
          go_wp2_with (first | (go_at_call 120; refine (isTry_no _ _ HTt.out).mono ?_; rintro _ _ ⟨rfl, rfl⟩) | fail)
          go_roundw
          case rel => exact ⟨j, d, t + 1, s2, rfl, by go_num, by omega, by omega, by omega, HA3, HRw3, hide ⟨HV4.out, HV2.out⟩, HT3, hs3⟩
          case measure => simp [intOf]; omega
    rw [if_neg htry] at hV2
    have HTt : Hid (¬ (e = 22 ∨ e = 23)) := hide (fun h => htry (.inl h))
    have hme : ¬ (m = 0 ∧ e = 0) := fun h => htry (.inr h)
    clear htry HV1
    by_cases hraw : m < 0 ∨ ((bs.length - d : Nat) : Int) < m
    · rw [if_pos hraw] at hV2
      have HV2 := hide hV2
      clear hV2 HV3 hme
      have hm0 : ¬ m = 0 := by omega
      have hm1 : (m == 0) = false := by simp [hm0]
      have hr2 : m < 0 ∨ (¬ m < 0 ∧ ((bs.length - d : Nat) : Int) < m) := by omega
      clear hraw
      rcases hr2 with hr2 | ⟨hr2, hr3⟩
      all_goals
        go_wp2_with fail
        refine HW.out.mono ?_
        rintro _ w3 ⟨rfl, O3, hA3, hO3, hT3⟩
        have HA3 : Hid (∃ O', At w3 O' s2 ∧ ∀ j, O' j → O j ∨ w1.heap.size ≤ j) := hide ⟨O3, hA3, fun i e => (hO3 i e).elim (fun e => HO'.out i e) (fun e => .inr (by omega))⟩
        have HRw3 : Hid (∃ cur : List Value, w3.heap[w.heap.size]? = some (.cells cur.toArray 5 (0, 0)) ∧ cur.length = bs.length) := hide (by
          obtain ⟨c, hc, hl⟩ := HRw2.out
          exact ⟨c, (hT3.block _ (by omega) HgO.out).trans hc, hl⟩)
        have HT3 : Hid (Turned O w w3) := hide (HT2.out.trans hT3 (fun i hi e => (HO'.out i e).resolve_right (by omega)))
        have hs3 : w1.heap.size ≤ w3.heap.size := by have := hT3.size; omega
        clear hA3 hO3 hT3
        go_wp2_with (first | (go_at_call 120; refine (isTry_no _ _ HTt.out).mono ?_; rintro _ _ ⟨rfl, rfl⟩) | fail)
        go_ret2
        rw [← HV2.out]
        obtain ⟨O', hA', hO'⟩ := HA3.out
        exact ⟨rfl, O', hA', fun i e => (hO' i e).imp id (fun e => by omega), HT3.out⟩
    rw [if_neg hraw] at hV2
    have hr1 : ¬ m < 0 := fun h => hraw (.inl h)
    have hr2 : ¬ ((bs.length - d : Nat) : Int) < m := fun h => hraw (.inr h)
    clear hraw
    by_cases he : e = 0
    · subst he
      rw [if_pos rfl] at hV2
      have hm0 : ¬ m = 0 := fun h => hme ⟨h, rfl⟩
      have hm1 : (m == 0) = false := by simp [hm0]
      have HV2 := hide hV2
      have HV4 := hide (HV3.out rfl (by omega) (by omega))
      obtain ⟨q, rfl⟩ : ∃ q : Nat, m = (q : Int) := ⟨m.toNat, by omega⟩
      rw [Int.toNat_natCast] at HV2 HV4
      have hq6 : q ≤ bs.length - d := by omega
      have hq7 : 1 ≤ q := by omega
      clear hV2 HV3 hme
      go_wp2_with fail
      refine HW.out.mono ?_
      rintro _ w3 ⟨rfl, O3, hA3, hO3, hT3⟩
      have HA3 : Hid (∃ O', At w3 O' s2 ∧ ∀ j, O' j → O j ∨ w1.heap.size ≤ j) := hide ⟨O3, hA3, fun i e => (hO3 i e).elim (fun e => HO'.out i e) (fun e => .inr (by omega))⟩
      have HRw3 : Hid (∃ cur : List Value, w3.heap[w.heap.size]? = some (.cells cur.toArray 5 (0, 0)) ∧ cur.length = bs.length) := hide (by
        obtain ⟨c, hc, hl⟩ := HRw2.out
        exact ⟨c, (hT3.block _ (by omega) HgO.out).trans hc, hl⟩)
      have HT3 : Hid (Turned O w w3) := hide (HT2.out.trans hT3 (fun i hi e => (HO'.out i e).resolve_right (by omega)))
      have hs3 : w1.heap.size ≤ w3.heap.size := by have := hT3.size; omega
      clear hA3 hO3 hT3
      go_wp2_with (first | (go_at_call 120; refine (isTry_no _ _ HTt.out).mono ?_; rintro _ _ ⟨rfl, rfl⟩) | fail)
      go_roundw
      case rel => exact ⟨j, d + q, 0, s2, by go_num, rfl, by omega, by omega, by omega, HA3, HRw3, hide ⟨HV4.out, HV2.out⟩, HT3, hs3⟩
      case measure => simp [intOf]; omega
    · rw [if_neg he] at hV2
      have HV2 := hide hV2
      have he2 : (e != 0) = true := by simp [he]
      have he3 : (e == 0) = false := by simp [he]
      clear hV2 HV3 hme
      by_cases hm0 : m = 0
      all_goals first | (subst hm0; skip) | skip
      all_goals
        first | have hm1 : (m == 0) = false := by simp [hm0] | skip
      all_goals
        go_wp2_with fail
        refine HW.out.mono ?_
        rintro _ w3 ⟨rfl, O3, hA3, hO3, hT3⟩
        have HA3 : Hid (∃ O', At w3 O' s2 ∧ ∀ j, O' j → O j ∨ w1.heap.size ≤ j) := hide ⟨O3, hA3, fun i e => (hO3 i e).elim (fun e => HO'.out i e) (fun e => .inr (by omega))⟩
        have HRw3 : Hid (∃ cur : List Value, w3.heap[w.heap.size]? = some (.cells cur.toArray 5 (0, 0)) ∧ cur.length = bs.length) := hide (by
          obtain ⟨c, hc, hl⟩ := HRw2.out
          exact ⟨c, (hT3.block _ (by omega) HgO.out).trans hc, hl⟩)
        have HT3 : Hid (Turned O w w3) := hide (HT2.out.trans hT3 (fun i hi e => (HO'.out i e).resolve_right (by omega)))
        have hs3 : w1.heap.size ≤ w3.heap.size := by have := hT3.size; omega
        clear hA3 hO3 hT3
        go_wp2_with (first | (go_at_call 120; refine (isTry_no _ _ HTt.out).mono ?_; rintro _ _ ⟨rfl, rfl⟩) | fail)
        go_ret2
        rw [← HV2.out]
        obtain ⟨O', hA', hO'⟩ := HA3.out
        exact ⟨rfl, O', hA', fun i e => (hO' i e).imp id (fun e => by omega), HT3.out⟩
end Go.Proofs.YtkkicbhmcjbmbaaGreat

/- A kernel's handle is a Raw. -/
namespace Go.Proofs.YtkkicbhmcjbmbaaGreat
open Go.RowKit Go.Maps

def kerD (d : Int) : RawD KS where
  read K n := K.read d n
  write K bs := K.write d bs
def kerR (K : KS) : Prop := K.reads < 9223372036854775807
def kerW (K : KS) : Prop := K.writes < 9223372036854775807
set_option maxRecDepth 100000 in
theorem KAt.hread2 {w : World} {O : Nat → Prop} {kb : Nat} {K : KS} (h : KAt w O kb K) (d n : Int) (hd : I64 d) (hr : K.reads < 9223372036854775807) :
    Calls Tryz.prog 223 #[.agg #[.pointer (some ⟨kb, 0, none⟩), .int .i64 d], .int .i64 n] w fun e w' => ∃ v, e = .returned (.tuple #[v, .int .i64 (K.read d n).2.1]) ∧ w'.ownsRow w.heap.size 5 1 v (K.read d n).1.length ((K.read d n).1.map bv) ∧ KAt w' O kb (K.read d n).2.2 ∧ Turned O w w' := by
  have hB := recv_below w (Obj.cells #[.pointer (some ⟨kb, 0, none⟩), .int .i64 d] 70)
  have HR := hide ((h.below hB).read d n hd hr)
  have HB := hide hB
  clear h hB
  go_enter Tryz.func223, Tryz.ntmps223
  go_wp2_with fail
  refine HR.out.mono ?_
  rintro e w1 ⟨v, rfl, h1, h2, h3⟩
  have HK := hide h2
  have HT := hide ((Turned.of_below HB.out).trans h3 (fun _ _ e => e))
  have HO := hide (owns_mono h1 HB.out.size)
  clear h1 h2 h3
  go_wp2
  go_ret2
  exact ⟨v, rfl, HO.out, HK.out, HT.out⟩
theorem ker_raw (kb : Nat) (d : Int) (hd : I64 d) : RawM (kerD d) 70 (.agg #[.pointer (some ⟨kb, 0, none⟩), .int .i64 d]) 223 225 kerR kerW (fun w O K => KAt w O kb K) where
  mread w := by kernel_rfl
  mwrite w := by kernel_rfl
  cread a w := by kernel_rfl
  cwrite a w := by kernel_rfl
  keep h hk hs := h.keep hk hs
  few n h := Nat.le_trans (read_few h d n) (by decide)
  read n h hr _ _ := h.hread2 d n hd hr
  write bs a c h hw hb hc _ h2 hap := (h.hwrite d bs a c hd hw hb hc (by omega) (fun _ => hap)).mono fun e w' ⟨h1, h2⟩ => ⟨h1, h2⟩
/-- A Raw whose states are places in some bytes, a plan, and how many reads there were. -/
structure RdV {S : Type} (D : RawD S) (b : List UInt8) (st : Nat → List Fault → Nat → S) : Prop where
  read : ∀ p L rd n, p ≤ b.length → planOk L → 1 ≤ n → n ≤ 1048576 → ∃ Y E, D.read (st p L rd) n = (Y, E, st (p + Y.length) L.tail (rd + 1)) ∧ b.take p ++ Y = b.take (p + Y.length) ∧ p + Y.length ≤ b.length ∧ Y.length ≤ n ∧ ((E = 0 ∧ (p < b.length → Y ≠ [])) ∨ ((E = 22 ∨ E = 23) ∧ Y = [] ∧ L ≠ []))
theorem RdV.some {S : Type} {D : RawD S} {b : List UInt8} {st : Nat → List Fault → Nat → S} (h : RdV D b st) {ok : S → Prop} {R : Nat} (hok : ∀ p L r, r < R → ok (st p L r)) (n p : Nat) (hp : p ≤ b.length) (h1 : 1 ≤ n) (h2 : n ≤ 1048576) : ∀ k L rd, L.length < k → planOk L → rd + L.length + 1 ≤ R →
    someOk D ok n k (st p L rd) ∧ ∃ Y L' rd', someV D n k (st p L rd) = (Y, 0, st (p + Y.length) L' rd') ∧ b.take p ++ Y = b.take (p + Y.length) ∧ p + Y.length ≤ b.length ∧ Y.length ≤ n ∧ (p < b.length → Y ≠ []) ∧ planOk L' ∧ rd' + L'.length ≤ rd + L.length + 1
  | 0, _, _, hk, _, _ => absurd hk (Nat.not_lt_zero _)
  | k + 1, L, rd, hk, hL, hR => by
    obtain ⟨Y, E, hd, h3, h4, h5, h6⟩ := h.read p L rd n hp hL h1 h2
    rw [someV_next D n k _ hd]
    have hT : L.tail.length ≤ L.length := by simp
    rcases h6 with ⟨rfl, h6⟩ | ⟨h6, rfl, h7⟩
    · refine ⟨⟨hok _ _ _ (by omega), fun e => ?_⟩, Y, L.tail, rd + 1, ?_, h3, h4, h5, h6, hL.tail, by omega⟩
      · rw [hd] at e; simp at e
      · rw [if_neg (by simp), if_neg (by omega), if_pos rfl]
    · have hLl : L.tail.length + 1 = L.length := by cases L with
        | nil => exact absurd rfl h7
        | cons f r => simp
      obtain ⟨g1, Y, L', rd', g2, g3, g4, g5, g6, g7, g8⟩ := h.some hok n p hp h1 h2 k L.tail (rd + 1) (by omega) hL.tail (by omega)
      refine ⟨⟨hok _ _ _ (by omega), fun _ => ?_⟩, Y, L', rd', ?_, g3, g4, g5, g6, g7, by omega⟩
      · rw [hd]; exact g1
      · rw [if_pos h6]; exact g2
theorem RdV.all {S : Type} {D : RawD S} {b : List UInt8} {st : Nat → List Fault → Nat → S} (h : RdV D b st) {ok : S → Prop} {R : Nat} (hok : ∀ p L r, r < R → ok (st p L r)) (n : Nat) (h2 : n ≤ 1048576) : ∀ f p G L rd, p ≤ b.length → n - G.length ≤ f → G.length ≤ n → planOk L → rd + L.length + (n - G.length) + 1 ≤ R →
    allOk D ok n f (st p L rd) G ∧ ∃ Y L' rd', allV D n f (st p L rd) G = (G ++ Y, 0, st (p + Y.length) L' rd') ∧ b.take p ++ Y = b.take (p + Y.length) ∧ p + Y.length ≤ b.length ∧ G.length + Y.length ≤ n ∧ (G.length + Y.length = n ∨ p + Y.length = b.length) ∧ planOk L'
  | 0, p, G, L, rd, hp, hf, hG, hL, hR => ⟨trivial, [], L, rd, by rw [List.append_nil]; rfl, by simp, by simpa using hp, by simpa using hG, .inl (by simp; omega), hL⟩
  | f + 1, p, G, L, rd, hp, hf, hG, hL, hR => by
    by_cases hlt : G.length < n
    case neg => exact ⟨fun e => absurd e hlt, [], L, rd, by rw [allV_done D n _ _ _ hlt, List.append_nil]; rfl, by simp, by simpa using hp, by simpa using hG, .inl (by simp; omega), hL⟩
    obtain ⟨g1, Y, L1, rd1, g2, g3, g4, g5, g6, g7, g8⟩ := h.some hok (n - G.length) p hp (by omega) (by omega) 8192 L rd (by have := hL.1; omega) hL (by omega)
    have hn := allV_next D n f (st p L rd) G g2
    rw [if_pos hlt] at hn
    by_cases hY : Y = []
    · subst hY
      rw [if_neg (by simp)] at hn
      refine ⟨fun _ => ⟨g1, fun e => ?_⟩, [], L1, rd1, by rw [hn, List.append_nil], g3, g4, by simpa using hG, .inr ?_, g7⟩
      · rw [g2] at e; exact absurd rfl e.2
      · by_cases hpl : p < b.length
        · exact absurd rfl (g6 hpl)
        · simp at g4 ⊢; omega
    · rw [if_pos ⟨rfl, hY⟩] at hn
      have hY1 : 1 ≤ Y.length := by cases Y with
        | nil => exact absurd rfl hY
        | cons _ _ => simp
      have hl : (G ++ Y).length = G.length + Y.length := List.length_append
      obtain ⟨k1, Z, L', rd', k2, k3, k4, k5, k6, k7⟩ := h.all hok n h2 f (p + Y.length) (G ++ Y) L1 rd1 g4 (by omega) (by omega) g7 (by omega)
      refine ⟨fun _ => ⟨g1, fun _ => ?_⟩, Y ++ Z, L', rd', ?_, ?_, by rw [List.length_append]; omega, by rw [List.length_append]; omega, ?_, k7⟩
      · rw [g2]; exact k1
      · rw [hn, k2, List.append_assoc, List.length_append, Nat.add_assoc]
      · rw [← List.append_assoc, g3, k3, List.length_append, Nat.add_assoc]
      · rw [List.length_append]; omega
/-- A Raw whose states are how much of some bytes it took, a plan, and how many writes there were. -/
structure WrV {S : Type} (D : RawD S) (x : List UInt8) (st : Nat → List Fault → Nat → S) : Prop where
  write : ∀ q L wr, q < x.length → planOk L → ∃ (m : Nat) (E : Int), D.write (st q L wr) (x.drop q) = ((m : Int), E, st (q + m) L.tail (wr + 1)) ∧ q + m ≤ x.length ∧ ((E = 0 ∧ 1 ≤ m) ∨ ((E = 22 ∨ E = 23) ∧ m = 0 ∧ L ≠ []))
set_option maxRecDepth 100000 in
theorem WrV.put {S : Type} {D : RawD S} {x : List UInt8} {st : Nat → List Fault → Nat → S} (h : WrV D x st) {ok : S → Prop} {R : Nat} (hok : ∀ p L r, r < R → ok (st p L r)) : ∀ f q t L wr, q ≤ x.length → (x.length - q) * 8192 + (8192 - t) ≤ f → t + L.length ≤ 4096 → planOk L → wr + L.length + (x.length - q) ≤ R →
    putOk D ok x f (st q L wr) q t ∧ ∃ L' wr', putV D x f (st q L wr) q t = (x.length, 0, st x.length L' wr') ∧ planOk L'
  | 0, q, t, L, wr, hq, hf, ht, hL, hR => by omega
  | f + 1, q, t, L, wr, hq, hf, ht, hL, hR => by
    by_cases hlt : q < x.length
    case neg =>
      obtain rfl : q = x.length := by omega
      exact ⟨fun e => absurd e hlt, L, wr, putV_done D x _ _ _ _ hlt, hL⟩
    obtain ⟨m, E, hw, h3, h4⟩ := h.write q L wr hlt hL
    have hn := putV_next D x f (st q L wr) q t hw
    rw [if_pos hlt] at hn
    have hT : L.tail.length ≤ L.length := by simp
    rcases h4 with ⟨rfl, h4⟩ | ⟨h4, rfl, h5⟩
    · rw [if_neg (by omega), if_neg (by omega), if_pos rfl, Int.toNat_natCast] at hn
      obtain ⟨k1, L', wr', k2, k3⟩ := h.put hok f (q + m) 0 L.tail (wr + 1) h3 (by omega) (by omega) hL.tail (by omega)
      refine ⟨fun _ => ⟨hok _ _ _ (by omega), fun e => ?_, fun _ _ _ => ?_⟩, L', wr', hn.trans k2, k3⟩
      · rw [hw] at e; simp only at e; omega
      · rw [hw, Int.toNat_natCast]; exact k1
    · have hLl : L.tail.length + 1 = L.length := by cases L with
        | nil => exact absurd rfl h5
        | cons f r => simp
      rw [if_pos (.inl h4), if_neg (by omega)] at hn
      obtain ⟨k1, L', wr', k2, k3⟩ := h.put hok f q (t + 1) L.tail (wr + 1) hq (by omega) (by omega) hL.tail (by omega)
      refine ⟨fun _ => ⟨hok _ _ _ (by omega), fun _ _ => ?_, fun e1 e2 _ => ?_⟩, L', wr', hn.trans k2, k3⟩
      · rw [hw]; exact k1
      · rw [hw] at e2; simp only at e2; omega
end Go.Proofs.YtkkicbhmcjbmbaaGreat

/- The law's example; num; kernels of one file. -/
namespace Go.Proofs.YtkkicbhmcjbmbaaGreat
open Go.RowKit Go.Maps

theorem num_re (x : Int) (w : World) : Calls Tryz.prog 25 #[.int .i64 x] w fun e w' => e = .returned (.int .i64 x) ∧ w = w' := by
  go_enter Tryz.func25, Tryz.ntmps25
  go_wp2
  go_ret
  exact ⟨rfl, rfl⟩
/-- One file, one description of it to read. -/
def KOne (nm : ByteArray) (b : List UInt8) (p : Nat) (L : List Fault) (rd : Nat) : KS := ⟨[⟨nm, .file b⟩], [0], [⟨1, 0, 1, p, 1⟩], 2, L, rd, 0⟩
theorem one_read (nm : ByteArray) (b : List UInt8) : RdV (kerD 1) b (KOne nm b) where
  read p L rd n hp hL h1 h2 := by
    have hx : (KOne nm b p L rd).find 1 = some ⟨1, 0, 1, p, 1⟩ := rfl
    have n1 : (1 : Int) ≤ (n : Int) := by omega
    have n2 : (n : Int) ≤ 1048576 := by omega
    show ∃ Y E, (KOne nm b p L rd).read 1 (n : Int) = _ ∧ _
    rw [read_is hx (by show fbit 1 1 ≠ 0; decide) n1 n2 rfl]
    rw [show (KOne nm b p L rd).plan = L from rfl]
    rcases nxt_err (l := L) n1 n2 with e | e | e
    · rw [if_pos e]
      have hg := nxt_good hL n1 n2 e
      refine ⟨piece b p (nxt L n).1.toNat, 0, rfl, take_piece hp, ?_, ?_, .inl ⟨rfl, fun hlt h0 => ?_⟩⟩
      · rw [piece_len]; omega
      · rw [piece_len]; omega
      · have := congrArg List.length h0
        rw [piece_len] at this
        simp at this
        omega
    · rw [if_neg (by omega), e]
      refine ⟨[], 22, rfl, by simp, by simpa using hp, by simp, .inr ⟨.inl rfl, rfl, fun hn => ?_⟩⟩
      subst hn
      rw [nxt_nil n1 n2] at e
      cases e
    · rw [if_neg (by omega), e]
      refine ⟨[], 23, rfl, by simp, by simpa using hp, by simp, .inr ⟨.inr rfl, rfl, fun hn => ?_⟩⟩
      subst hn
      rw [nxt_nil n1 n2] at e
      cases e
theorem one_ok (nm : ByteArray) (b : List UInt8) : ∀ p L r, r < 9223372036854775807 → kerR (KOne nm b p L r) := fun _ _ _ h => h
def exR : List Fault := [(1, 1), (2, 0), (3, 0), (1, 2)]
theorem exl_ok : planOk exR := ⟨by decide, by decide⟩
theorem exo : (KS.new [(⟨#[97]⟩, [104, 101, 108, 108, 111])] [] exR).open ⟨#[97]⟩ 1 = (1, 0, KOne ⟨#[97]⟩ [104, 101, 108, 108, 111] 0 exR 0) := rfl
theorem exc8 : checkE [(⟨#[97]⟩, [104, 101, 108, 108, 111])] [] exR = 0 := by rfl
theorem ex_all : allOk (kerD 1) kerR 5 5 (KOne ⟨#[97]⟩ [104, 101, 108, 108, 111] 0 exR 0) [] ∧ ∃ K', allV (kerD 1) 5 5 (KOne ⟨#[97]⟩ [104, 101, 108, 108, 111] 0 exR 0) [] = ([104, 101, 108, 108, 111], 0, K') := by
  obtain ⟨h1, Y, L', rd', h2, h3, h4, h5, h6, -⟩ := (one_read ⟨#[97]⟩ [104, 101, 108, 108, 111]).all (one_ok _ _) 5 (by decide) 5 0 [] exR 0 (by decide) (by decide) (by decide) exl_ok (by decide)
  have hl : Y.length = 5 := by simp at h4 h5 h6; omega
  have hY : Y = [104, 101, 108, 108, 111] := by rw [hl] at h3; simpa using h3
  exact ⟨h1, _, by rw [h2, List.nil_append, hY]⟩
set_option maxRecDepth 100000 in
set_option maxHeartbeats 4000000 in
theorem ralive_any (w : World) : Calls Tryz.prog 26 #[] w fun e w' => e = .returned (.bool true) ∧ Below w.heap.size w w' := by
  have cl := conv_lit w #[.int .u8 104, .int .u8 101, .int .u8 108, .int .u8 108, .int .u8 111] 5 w.heap.size 5 rfl rfl
  simp only [Nat.reduceAdd] at cl
  have hb1 := Te_lit_bys w [104, 101, 108, 108, 111] #[.int .u8 104, .int .u8 101, .int .u8 108, .int .u8 108, .int .u8 111] 5 w.heap.size (5, 6) rfl rfl rfl
  have hB1 := recv_below w (Obj.cells #[.int .u8 104, .int .u8 101, .int .u8 108, .int .u8 108, .int .u8 111] 5 (5, 6))
  have hs1 : (w.alloc (Obj.cells #[.int .u8 104, .int .u8 101, .int .u8 108, .int .u8 108, .int .u8 111] 5 (5, 6))).heap.size = w.heap.size + 1 := by simp
  go_enter Tryz.func26, Tryz.ntmps26
  go_wp2_with fail
  generalize hw1 : w.alloc (Obj.cells #[.int .u8 104, .int .u8 101, .int .u8 108, .int .u8 108, .int .u8 111] 5 (5, 6)) = w1 at *
  obtain ⟨w2, hw2⟩ : ∃ w2, w2 = w1.alloc (Obj.cells #[.string ⟨#[97]⟩, .slice (some ⟨w.heap.size, 0, none⟩) 5 5] 93) := ⟨_, rfl⟩
  have hB2 := recv_below w1 (Obj.cells #[.string ⟨#[97]⟩, .slice (some ⟨w.heap.size, 0, none⟩) 5 5] 93)
  obtain ⟨p0, p1⟩ := pair_cells w1 (.string ⟨#[97]⟩) (.slice (some ⟨w.heap.size, 0, none⟩) 5 5) 93
  rw [← hw2] at hB2 p0 p1 ⊢
  rw [hs1] at p0 p1
  have hs2 : w2.heap.size = w.heap.size + 1 + 1 := by rw [hw2]; simp [hs1]
  have hB3 := recv_below w2 (Obj.cells #[.int .i64 1, .int .i64 1, .int .i64 2, .int .i64 0, .int .i64 3, .int .i64 0, .int .i64 1, .int .i64 2] 167)
  have hfl := heap_alloc_new w2 (Obj.cells #[.int .i64 1, .int .i64 1, .int .i64 2, .int .i64 0, .int .i64 3, .int .i64 0, .int .i64 1, .int .i64 2] 167)
  rw [hs2] at hfl
  have hs3 : (w2.alloc (Obj.cells #[.int .i64 1, .int .i64 1, .int .i64 2, .int .i64 0, .int .i64 3, .int .i64 0, .int .i64 1, .int .i64 2] 167)).heap.size = w.heap.size + 1 + 1 + 1 := by simp [hs2]
  generalize w2.alloc (Obj.cells #[.int .i64 1, .int .i64 1, .int .i64 2, .int .i64 0, .int .i64 3, .int .i64 0, .int .i64 1, .int .i64 2] 167) = w3 at *
  have hN : Nms w3 (.slice (some ⟨w.heap.size + 1, 0, none⟩) 1 1) [(⟨#[97]⟩, [104, 101, 108, 108, 111])] :=
    one_named ((hB3.cell (p := ⟨w.heap.size + 1, 0, none⟩) (by show w.heap.size + 1 < _; omega)).trans p0) ((hB3.cell (p := ⟨w.heap.size + 1, 1, none⟩) (by show w.heap.size + 1 < _; omega)).trans p1) ((hb1.below hB2).below hB3) (by decide) (by decide)
  have hF : Flts w3 (.slice (some ⟨w.heap.size + 1 + 1, 0, none⟩) 4 4) exR := by
    refine .inr (.inr ⟨w.heap.size + 1 + 1, 0, 4, rfl, by decide, by decide, fun j hj => ?_⟩)
    have : j = 0 ∨ j = 1 ∨ j = 2 ∨ j = 3 := by simp [exR] at hj; omega
    rcases this with rfl | rfl | rfl | rfl
    all_goals constructor <;> (simp only [World.cell?, hfl]; rfl)
  have hBw : Below w.heap.size w w3 := hB1.trans ((hB2.trans (hB3.mono (by omega))).mono (by omega))
  have HN := hide (knew_good (some ⟨w.heap.size + 1, 0, none⟩) none (some ⟨w.heap.size + 1 + 1, 0, none⟩) 1 0 4 [(⟨#[97]⟩, [104, 101, 108, 108, 111])] [] exR _ hN (no_typed _) hF (by decide) (by decide) (by decide) exc8)
  have HB := hide hBw
  clear hN hF hfl p0 p1 hB1 hB2 hB3 hb1 hBw cl hw1 hw2 hs1 hs2 hs3
  refine HN.out.mono ?_
  rintro e w4 ⟨kb, rfl, hK, hB4⟩
  have hB4w := HB.out.trans (hB4.mono HB.out.size)
  have HB4 := hide hB4w
  have hs4 := hB4w.size
  have HO := hide ((hK.mono (fun k e => Nat.le_trans HB.out.size e)).open ⟨#[97]⟩ 1 (by decide) (by show (1 : Nat) < 9223372036854775807; decide))
  rw [exo] at HO
  clear hK hB4 hB4w HN HB
  go_wp2_with (first | (go_at_call 25; refine (num_re _ _).mono ?_; rintro _ _ ⟨rfl, rfl⟩) | fail)
  refine HO.out.mono ?_
  rintro e w5 ⟨rfl, hS⟩
  obtain ⟨hK, hB⟩ := hS.at (B := w.heap.size) (fun _ e => e) hs4
  have HB5 := hide (HB4.out.trans hB)
  have hs5 := HB5.out.size
  obtain ⟨hA1, K', hA2⟩ := ex_all
  have HA := hide (all_any (ker_raw kb 1 ⟨by decide, by decide⟩) 5 hK (fun j e => e.2) (by decide) (by decide) hA1)
  rw [hA2] at HA
  clear hK hB hS HO HB4 hs4 hA1 hA2
  go_wp2_with fail
  refine HA.out.mono ?_
  rintro e w6 ⟨v, rfl, hO6, hK6, hT6⟩
  obtain ⟨ca, cc, rfl⟩ := owns_slice hO6
  have HE : Hid ((convert 40 9 (.slice ca 5 cc)).run Tryz.prog w6 = .ok (.string ⟨#[104, 101, 108, 108, 111]⟩) w6 ∧ Below w.heap.size w w6) := hide ⟨owns_string (l := [104, 101, 108, 108, 111]) hO6, HB5.out.trans (hT6.below (fun j e => e.1) hs5)⟩
  clear hO6 hK6 hT6
  simp only [List.length_cons, List.length_nil, Nat.zero_add, Nat.reduceAdd]
  have hc := HE.out.1
  go_wp2_with (first | (go_at_call 25; refine (num_re _ _).mono ?_; rintro _ _ ⟨rfl, rfl⟩) | fail)
  go_ret
  exact ⟨rfl, HE.out.2⟩
end Go.Proofs.YtkkicbhmcjbmbaaGreat

/- The reference's Raw over a kernel's description: Of, Read, Write. -/
namespace Go.Proofs.YtkkicbhmcjbmbaaGreat
open Go.RowKit Go.Maps

def rwc (mb : Nat) (d c : Int) : Array Value := #[.int .i64 5, .slice none 0 0, .int .i64 0, .int .i64 0, .slice none 0 0, .slice none 0 0, .pointer (some ⟨mb, 0, none⟩), .int .i64 d, .int .i64 c]
/-- The reference's Raw at g, over description d of the kernel K at mb; its blocks are among O. -/
def RwS (g mb : Nat) (d : Int) (W : World) (O : Nat → Prop) (K : KS) : Prop := ∃ P c, W.heap[g]? = some (.cells (rwc mb d c) 192) ∧ RAt W P mb K ∧ (∀ k, P k → O k) ∧ O g ∧ ¬ P g
theorem RwS.keep {g mb : Nat} {d : Int} {W W' : World} {O : Nat → Prop} {K : KS} (h : RwS g mb d W O K) (hk : ∀ j, O j → j < W.heap.size → W'.heap[j]? = W.heap[j]?) (hs : W.heap.size ≤ W'.heap.size) : RwS g mb d W' O K := by
  obtain ⟨P, c, h1, h2, h3, h4, h5⟩ := h
  exact ⟨P, c, (hk g h4 (Array.getElem?_eq_some_iff.1 h1).1).trans h1, h2.keep (fun k e hl => hk k (h3 k e) hl) hs, h3, h4, h5⟩
theorem RwS.below {g mb : Nat} {d : Int} {W W' : World} {O : Nat → Prop} {K : KS} (h : RwS g mb d W O K) (hB : Below W.heap.size W W') : RwS g mb d W' O K := h.keep (fun j _ hl => hB.block j hl) hB.size
/-- What a call leaves. -/
def RwStep (g mb : Nat) (d : Int) (w : World) (O : Nat → Prop) (K' : KS) (w' : World) : Prop := ∃ O', RwS g mb d w' O' K' ∧ (∀ k, O' k → O k ∨ w.heap.size ≤ k) ∧ Turned O w w'
theorem rw_step {g mb : Nat} {d c : Int} {w wa w' : World} {O P : Nat → Prop} {K' : KS} (h1 : wa.heap[g]? = some (.cells (rwc mb d c) 192)) (hT : Turned (fun k => k = g) w wa) (hS : RKStep wa P mb K' w') (h3 : ∀ k, P k → O k) (h4 : O g) (h5 : ¬ P g) : RwStep g mb d w O K' w' := by
  obtain ⟨P', a1, a2, a3⟩ := hS
  have hg : g < wa.heap.size := (Array.getElem?_eq_some_iff.1 h1).1
  have hz := hT.size
  refine ⟨fun k => O k ∨ w.heap.size ≤ k, ⟨P', c, (a3.block g hg h5).trans h1, a1, fun k e => (a2 k e).imp (h3 k) (fun e => by omega), .inl h4, fun e => ?_⟩, fun _ e => e, (hT.mono (fun k e => by subst e; exact h4)).trans a3 (fun k _ e => h3 k e)⟩
  rcases a2 g e with e | e
  · exact h5 e
  · omega
set_option maxRecDepth 100000 in
set_option maxHeartbeats 2000000 in
theorem of_any (mb : Nat) (d : Int) (w : World) : Calls Tryz.prog 31 #[.pointer (some ⟨mb, 0, none⟩), .int .i64 d] w fun e w' => e = .returned (.pointer (some ⟨w.heap.size, 0, none⟩)) ∧ w'.heap[w.heap.size]? = some (.cells (rwc mb d 0) 192) ∧ Below w.heap.size w w' := by
  go_enter Tryz.func31, Tryz.ntmps31
  go_wp2
  go_ret
  exact ⟨rfl, heap_alloc_new _ _, (Below.refl _ _).alloc (Nat.le_refl _) _⟩
set_option maxRecDepth 100000 in
set_option maxHeartbeats 2000000 in
theorem rwread_any (g mb : Nat) (d n : Int) (O : Nat → Prop) (K : KS) (w : World) (h : RwS g mb d w O K) (hr : K.reads < 9223372036854775807) :
    Calls Tryz.prog 122 #[.pointer (some ⟨g, 0, none⟩), .int .i64 n] w fun e w' => ∃ v, e = .returned (.tuple #[v, .int .i64 (K.read d n).2.1]) ∧ Bys w' v (K.read d n).1 ∧ RwStep g mb d w O (K.read d n).2.2 w' := by
  obtain ⟨P, c, h1, h2, h3, h4, h5⟩ := h
  have q0 : w.cell? ⟨g, 0, none⟩ = some (.int .i64 5) := cell_of_row w g 0 _ _ _ h1
  have q8 : w.cell? ⟨g, 8, none⟩ = some (.int .i64 c) := cell_of_row w g 8 _ _ _ h1
  have s8 := frozen_of_row w g 8 _ _ h1
  have e8 : ∀ c', (w.setCell ⟨g, 8, none⟩ (.int .i64 c')).heap[g]? = some (.cells (rwc mb d c') 192) := fun c' => Go.heap_setCell_same w g 8 _ _ (.int .i64 c') h1
  have hT : ∀ c', Turned (fun k => k = g) w (w.setCell ⟨g, 8, none⟩ (.int .i64 c')) := fun c' => Turned.set (S := fun k => k = g) (Turned.refl _ _) (.inl rfl)
  have hR : ∀ c', RAt (w.setCell ⟨g, 8, none⟩ (.int .i64 c')) P mb K := fun c' => h2.keep (fun k e hl => (hT c').block k hl (fun e' => by subst e'; exact h5 e)) (hT c').size
  have r0 : ∀ c', (w.setCell ⟨g, 8, none⟩ (.int .i64 c')).cell? ⟨g, 0, none⟩ = some (.int .i64 5) := fun c' => cell_of_row _ g 0 _ _ _ (e8 c')
  have r6 : ∀ c', (w.setCell ⟨g, 8, none⟩ (.int .i64 c')).cell? ⟨g, 6, none⟩ = some (.pointer (some ⟨mb, 0, none⟩)) := fun c' => cell_of_row _ g 6 _ _ _ (e8 c')
  have r7 : ∀ c', (w.setCell ⟨g, 8, none⟩ (.int .i64 c')).cell? ⟨g, 7, none⟩ = some (.int .i64 d) := fun c' => cell_of_row _ g 7 _ _ _ (e8 c')
  have HRd := hide fun c' => ((hR c').below (Below.refl _ _).drew).read d n hr
  have HF := hide (fun c' => And.intro (e8 c') (hT c'))
  have HP := hide (And.intro h3 (And.intro h4 h5))
  clear e8 hT hR h1 h2 h3 h4 h5
  generalize hRR : K.read d n = R at *
  obtain ⟨l, e, K'⟩ := R
  simp only at HRd ⊢
  go_enter Tryz.func122, Tryz.ntmps122
  go_wp2_with fail
  have HRw := hide (HRd.out (wrap64 (c + 1)))
  obtain ⟨f1, f2⟩ := HF.out (wrap64 (c + 1))
  have k6 := r6 (wrap64 (c + 1))
  have k7 := r7 (wrap64 (c + 1))
  have HF1 := hide f1
  have HF2 := hide f2
  clear HRd HF r0 r6 r7 f1 f2 q0 q8 s8
  generalize w.setCell ⟨g, 8, none⟩ (.int .i64 (wrap64 (c + 1))) = wa at *
  go_region_held3 (fun w' => w'.cell? ⟨g, 6, none⟩ = some (.pointer (some ⟨mb, 0, none⟩)) ∧ w'.cell? ⟨g, 7, none⟩ = some (.int .i64 d))
    (first | exact hx7 | exact ⟨k6, k7⟩ | go_keep)
    (first
      | (go_at_call 53; refine HRw.out.mono ?_; rintro e w5 ⟨v, rfl, hby, hS⟩; have hx7 : w5.cell? ⟨g, 6, none⟩ = some (.pointer (some ⟨mb, 0, none⟩)) ∧ w5.cell? ⟨g, 7, none⟩ = some (.int .i64 d) := ⟨rk_cell hS (drew_cell k6) HP.out.2.2, rk_cell hS (drew_cell k7) HP.out.2.2⟩; obtain ⟨va, vc, rfl⟩ : ∃ va vc, v = .slice va l.length vc := (by obtain ⟨va, vc, e, -⟩ := bys_form hby; exact ⟨va, vc, e⟩))
      | fail)
  all_goals go_wp2
  all_goals go_ret2
  all_goals exact ⟨_, rfl, hby, rw_step (wa := wa.drew) HF1.out ((HF2.out).trans (Turned.of_below (S := fun k => k = g) (Below.refl _ _).drew) (fun _ _ e => e)) hS HP.out.1 HP.out.2.1 HP.out.2.2⟩
set_option maxRecDepth 100000 in
set_option maxHeartbeats 2000000 in
theorem rwwrite_any (g mb : Nat) (d : Int) (b : List UInt8) (a1 : Option Addr) (cx : Nat) (O : Nat → Prop) (K : KS) (w : World) (h : RwS g mb d w O K) (hr : K.writes < 9223372036854775807) (hb : Bys w (.slice a1 b.length cx) b) (hcap : b.length ≤ cx) (hap : 0 < b.length → ∀ k, (Value.slice a1 b.length cx).ownBlock = some k → k < w.heap.size ∧ ¬ O k) :
    Calls Tryz.prog 124 #[.pointer (some ⟨g, 0, none⟩), .slice a1 b.length cx] w fun e w' => e = .returned (.tuple #[.int .i64 (K.write d b).1, .int .i64 (K.write d b).2.1]) ∧ RwStep g mb d w O (K.write d b).2.2 w' := by
  obtain ⟨P, c, h1, h2, h3, h4, h5⟩ := h
  have q0 : w.cell? ⟨g, 0, none⟩ = some (.int .i64 5) := cell_of_row w g 0 _ _ _ h1
  have q8 : w.cell? ⟨g, 8, none⟩ = some (.int .i64 c) := cell_of_row w g 8 _ _ _ h1
  have s8 := frozen_of_row w g 8 _ _ h1
  have e8 : ∀ c', (w.setCell ⟨g, 8, none⟩ (.int .i64 c')).heap[g]? = some (.cells (rwc mb d c') 192) := fun c' => Go.heap_setCell_same w g 8 _ _ (.int .i64 c') h1
  have hT : ∀ c', Turned (fun k => k = g) w (w.setCell ⟨g, 8, none⟩ (.int .i64 c')) := fun c' => Turned.set (S := fun k => k = g) (Turned.refl _ _) (.inl rfl)
  have hR : ∀ c', RAt (w.setCell ⟨g, 8, none⟩ (.int .i64 c')) P mb K := fun c' => h2.keep (fun k e hl => (hT c').block k hl (fun e' => by subst e'; exact h5 e)) (hT c').size
  have r0 : ∀ c', (w.setCell ⟨g, 8, none⟩ (.int .i64 c')).cell? ⟨g, 0, none⟩ = some (.int .i64 5) := fun c' => cell_of_row _ g 0 _ _ _ (e8 c')
  have r6 : ∀ c', (w.setCell ⟨g, 8, none⟩ (.int .i64 c')).cell? ⟨g, 6, none⟩ = some (.pointer (some ⟨mb, 0, none⟩)) := fun c' => cell_of_row _ g 6 _ _ _ (e8 c')
  have r7 : ∀ c', (w.setCell ⟨g, 8, none⟩ (.int .i64 c')).cell? ⟨g, 7, none⟩ = some (.int .i64 d) := fun c' => cell_of_row _ g 7 _ _ _ (e8 c')
  have hyb : ∀ c', Bys (w.setCell ⟨g, 8, none⟩ (.int .i64 c')) (.slice a1 b.length cx) b := fun c' => by
    by_cases hz : 0 < b.length
    · exact hb.turned (hT c') (fun k hk _ e => by subst e; exact (hap hz _ hk).2 h4)
    · exact bys_none hb hz
  have HRd := hide fun c' => ((hR c').below (Below.refl _ _).drew).write0 d b a1 cx hr ((hyb c').below (Below.refl _ _).drew) hcap (fun hz k hk => ⟨by have := (hap hz k hk).1; have := (hT c').size; exact Nat.lt_of_lt_of_le (hap hz k hk).1 (hT c').size, fun e => (hap hz k hk).2 (h3 k e)⟩)
  have HF := hide (fun c' => And.intro (e8 c') (hT c'))
  have HP := hide (And.intro h3 (And.intro h4 h5))
  clear e8 hT hR h1 h2 h3 h4 h5 hyb hap hb
  generalize hRR : K.write d b = R at *
  obtain ⟨m, e, K'⟩ := R
  simp only at HRd ⊢
  go_enter Tryz.func124, Tryz.ntmps124
  go_wp2_with fail
  have HRw := hide (HRd.out (wrap64 (c + 1)))
  obtain ⟨f1, f2⟩ := HF.out (wrap64 (c + 1))
  have k6 := r6 (wrap64 (c + 1))
  have k7 := r7 (wrap64 (c + 1))
  have HF1 := hide f1
  have HF2 := hide f2
  clear HRd HF r0 r6 r7 f1 f2 q0 q8 s8
  generalize w.setCell ⟨g, 8, none⟩ (.int .i64 (wrap64 (c + 1))) = wa at *
  go_region_held3 (fun w' => w'.cell? ⟨g, 6, none⟩ = some (.pointer (some ⟨mb, 0, none⟩)) ∧ w'.cell? ⟨g, 7, none⟩ = some (.int .i64 d))
    (first | exact hx7 | exact ⟨k6, k7⟩ | go_keep)
    (first
      | (go_at_call 56; refine HRw.out.mono ?_; rintro e w5 ⟨rfl, hS⟩; have hx7 : w5.cell? ⟨g, 6, none⟩ = some (.pointer (some ⟨mb, 0, none⟩)) ∧ w5.cell? ⟨g, 7, none⟩ = some (.int .i64 d) := ⟨rk_cell hS (drew_cell k6) HP.out.2.2, rk_cell hS (drew_cell k7) HP.out.2.2⟩)
      | fail)
  all_goals go_wp2
  all_goals go_ret2
  all_goals exact ⟨rfl, rw_step (wa := wa.drew) HF1.out ((HF2.out).trans (Turned.of_below (S := fun k => k = g) (Below.refl _ _).drew) (fun _ _ e => e)) hS HP.out.1 HP.out.2.1 HP.out.2.2⟩
end Go.Proofs.YtkkicbhmcjbmbaaGreat

/- The reference's Some, All and Put over a kernel's description. -/
namespace Go.Proofs.YtkkicbhmcjbmbaaGreat
open Go.RowKit Go.Maps

theorem again_any (e : Int) (w : World) : Calls Tryz.prog 123 #[.int .i64 e] w fun r w' => r = .returned (.bool (decide (e = 22 ∨ e = 23))) ∧ w = w' := by
  by_cases h1 : e = 22
  · subst h1
    go_enter Tryz.func123, Tryz.ntmps123
    go_wp2
    go_ret
    exact ⟨rfl, rfl⟩
  by_cases h2 : e = 23
  · subst h2
    go_enter Tryz.func123, Tryz.ntmps123
    go_wp2
    go_ret
    exact ⟨rfl, rfl⟩
  rw [decide_eq_false (by simp [h1, h2])]
  have q1 : (e == 22) = false := by simp [h1]
  have q2 : (e == 23) = false := by simp [h2]
  go_enter Tryz.func123, Tryz.ntmps123
  go_wp2
  go_ret
  exact ⟨rfl, rfl⟩
theorem RwS.trim {g mb : Nat} {d : Int} {W : World} {O : Nat → Prop} {K : KS} (h : RwS g mb d W O K) : RwS g mb d W (fun k => O k ∧ k < W.heap.size) K := by
  obtain ⟨P, c, h1, h2, h3, h4, h5⟩ := h
  exact ⟨_, c, h1, h2.trim, fun k e => ⟨h3 k e.1, e.2⟩, ⟨h4, (Array.getElem?_eq_some_iff.1 h1).1⟩, fun e => h5 e.1⟩
theorem RwS.ok {g mb : Nat} {d : Int} {W : World} {O : Nat → Prop} {K : KS} (h : RwS g mb d W O K) : KOk K := by
  obtain ⟨P, c, _, h2, _⟩ := h
  exact h2.ok
set_option maxRecDepth 100000 in
set_option maxHeartbeats 2000000 in
theorem rsome_any (g mb : Nat) (d : Int) (n : Nat) (O : Nat → Prop) (K : KS) (w : World) (h : RwS g mb d w O K) (h1 : 1 ≤ n) (h2 : n ≤ 1048576) (hok : someOk (kerD d) kerR n 8192 K) :
    Calls Tryz.prog 33 #[.pointer (some ⟨g, 0, none⟩), .int .i64 n] w fun e w' => ∃ v, e = .returned (.tuple #[v, .int .i64 (someV (kerD d) n 8192 K).2.1]) ∧ Bys w' v (someV (kerD d) n 8192 K).1 ∧ RwStep g mb d w O (someV (kerD d) n 8192 K).2.2 w' := by
  have hn1 : (1 : Int) ≤ (n : Int) := by omega
  have hn2 : (n : Int) ≤ 1048576 := by omega
  generalize hR : someV (kerD d) n 8192 K = R
  have HR := hide hR
  have H := hide h
  have HOk := hide hok
  clear hR h hok
  go_enter Tryz.func33, Tryz.ntmps33
  go_wp2_with fail
  go_loopg [6] 8192 (fun k s6 wx => ∃ (K' : KS) (O' : Nat → Prop), k ≤ 8192 ∧ s6 = .int .i64 (8192 - (k : Int)) ∧ Hid (someV (kerD d) n k K' = R ∧ someOk (kerD d) kerR n k K') ∧ Hid (RwS g mb d wx O' K') ∧ Hid (∀ j, O' j → O j ∨ w.heap.size ≤ j) ∧ Hid (Turned O w wx))
  case atStart => exact ⟨K, O, by omega, rfl, hide ⟨HR.out, HOk.out⟩, H, hide (fun _ e => .inl e), hide (Turned.refl _ _)⟩
  case round =>
    clear H HR HOk
    obtain ⟨K', O', hk, rfl, HV, H, HO, HT⟩ := hrel
    cases gk with
    | zero =>
      have hv : someV (kerD d) n 0 K' = ([], 81, K') := rfl
      have HV2 := hide (hv.symm.trans HV.out.1)
      clear HV hv
      simp only [Int.natCast_zero, Int.sub_zero]
      go_wp2
      go_ret2
      rw [← HV2.out]
      exact ⟨_, rfl, .inl ⟨rfl, rfl⟩, O', H.out, HO.out, HT.out⟩
    | succ k =>
      have hlt : (8192 - ((k + 1 : Nat) : Int)) < 8192 := by omega
      have hnx : wrap64 (8192 - ((k + 1 : Nat) : Int) + 1) = 8192 - (k : Int) := by unfold wrap64; omega
      obtain ⟨l, e, K2, hrd⟩ : ∃ l e K2, K'.read d n = (l, e, K2) := ⟨_, _, _, rfl⟩
      have hto := read_told K' H.out.ok.plan d n
      rw [hrd] at hto
      have hr' : (kerD d).read K' n = (l, e, K2) := hrd
      have hok1 : kerR K' ∧ ((e = 22 ∨ e = 23) → someOk (kerD d) kerR n k K2) := by
        have := HV.out.2
        unfold someOk at this
        rw [hr'] at this
        exact this
      have hv := HV.out.1
      rw [someV_next (kerD d) n k K' hr'] at hv
      have HRd := hide (rwread_any g mb d n O' K' wr H.out hok1.1)
      rw [hrd] at HRd
      simp only at HRd hto
      have HW := hide (And.intro hv (And.intro hok1.2 hto))
      clear HV hrd hr' hok1 hv hto
      generalize (8192 - ((k + 1 : Nat) : Int)) = iv at *
      by_cases htry : e = 22 ∨ e = 23
      · have HTr := hide (decide_eq_true htry)
        go_wp2_with (first | (go_at_call 122; refine HRd.out.mono ?_; rintro _ w2 ⟨v, rfl, hby, O2, hS, hO2, hT2⟩; obtain ⟨va, vc, rfl⟩ : ∃ va vc, v = .slice va l.length vc := (by obtain ⟨va, vc, e, -⟩ := bys_form hby; exact ⟨va, vc, e⟩)) | (go_at_call 123; have hq := again_any e w2; rw [HTr.out] at hq; refine hq.mono ?_; clear hq; rintro _ _ ⟨rfl, rfl⟩) | fail)
        have hw := HW.out
        rw [if_pos htry] at hw
        go_roundg k
        case measure => omega
        case rel => exact ⟨K2, O2, by omega, by rw [hnx], hide ⟨hw.1, hw.2.1 htry⟩, hS, hide (fun j e => (hO2 j e).elim (HO.out j) (fun e => .inr (by have := HT.out.size; omega))), hide (HT.out.trans hT2 (fun j hj e => (HO.out j e).resolve_right (by omega)))⟩
      · have HTr := hide (decide_eq_false htry)
        go_wp2_with (first | (go_at_call 122; refine HRd.out.mono ?_; rintro _ w2 ⟨v, rfl, hby, O2, hS, hO2, hT2⟩; obtain ⟨va, vc, rfl⟩ : ∃ va vc, v = .slice va l.length vc := (by obtain ⟨va, vc, e, -⟩ := bys_form hby; exact ⟨va, vc, e⟩)) | (go_at_call 123; have hq := again_any e w2; rw [HTr.out] at hq; refine hq.mono ?_; clear hq; rintro _ _ ⟨rfl, rfl⟩) | fail)
        go_ret2
        have hw := HW.out
        have hRv : R = (l, e, K2) := by
          rw [← hw.1, if_neg htry, if_neg (by have := hw.2.2.1; omega)]
          split
          · rename_i e0; rw [e0]
          · rename_i e0; rw [hw.2.2.2 e0]
        rw [hRv]
        exact ⟨_, rfl, hby, O2, hS, fun j e => (hO2 j e).elim (HO.out j) (fun e => .inr (by have := HT.out.size; omega)), HT.out.trans hT2 (fun j hj e => (HO.out j e).resolve_right (by omega))⟩
theorem rsome_few (d : Int) (n k : Nat) (K : KS) : (someV (kerD d) n k K).1.length ≤ n := someV_len (kerD d) n k K
set_option maxRecDepth 100000 in
set_option maxHeartbeats 2000000 in
theorem rall_any (g mb : Nat) (d : Int) (n : Nat) (O : Nat → Prop) (K : KS) (w : World) (h : RwS g mb d w O K) (hOl : ∀ j, O j → j < w.heap.size) (h1 : 1 ≤ n) (h2 : n ≤ 1048576) (hok : allOk (kerD d) kerR n n K []) :
    Calls Tryz.prog 35 #[.pointer (some ⟨g, 0, none⟩), .int .i64 n] w fun e w' => ∃ v, e = .returned (.tuple #[v, .int .i64 (allV (kerD d) n n K []).2.1]) ∧ Bys w' v (allV (kerD d) n n K []).1 ∧ RwStep g mb d w O (allV (kerD d) n n K []).2.2 w' := by
  have hn1 : (1 : Int) ≤ (n : Int) := by omega
  have hn2 : (n : Int) ≤ 1048576 := by omega
  generalize hR : allV (kerD d) n n K [] = R
  have HR := hide hR
  have H := hide h
  have HOk := hide hok
  have HOl := hide hOl
  clear hR h hok hOl
  go_enter Tryz.func35, Tryz.ntmps35
  go_wp2_with fail
  go_loopg [6] n (fun k gv wx => ∃ (K' : KS) (O' : Nat → Prop) (G : List UInt8), G.length ≤ n ∧ n - G.length ≤ k ∧ Hid (wx.ownsRow w.heap.size 5 1 gv G.length (G.map bv)) ∧ Hid (allV (kerD d) n k K' G = R ∧ allOk (kerD d) kerR n k K' G) ∧ Hid (RwS g mb d wx O' K') ∧ Hid (∀ j, O' j → j < wx.heap.size ∧ (O j ∨ w.heap.size ≤ j)) ∧ Hid (∀ j, gv.ownBlock = some j → ¬ O' j) ∧ Hid (Turned O w wx))
  case atStart => exact ⟨K, O, [], Nat.zero_le _, Nat.sub_le _ _, hide (World.ownsRow_nil _ _ _ _), hide ⟨HR.out, HOk.out⟩, H, hide (fun j e => ⟨HOl.out j e, .inl e⟩), hide (fun j e => by cases e), hide (Turned.refl _ _)⟩
  case round =>
    clear H HR HOk
    obtain ⟨K', O', G, hG, hk, HOw, HV, H, HO, HGb, HT⟩ := hrel
    obtain ⟨ga, gc, rfl⟩ := owns_slice HOw.out
    by_cases hlt : G.length < n
    case neg =>
      have HE : Hid (R = (G, 0, K')) := hide (by rw [← HV.out.1]; exact allV_done (kerD d) n _ K' G hlt)
      have hlt' : ¬ (G.length : Int) < (n : Int) := by omega
      clear HV hlt
      go_wp2_with fail
      go_ret2
      rw [HE.out]
      exact ⟨_, rfl, Bys.of_owns HOw.out, O', H.out, fun j e => (HO.out j e).2, HT.out⟩
    have hlt' : (G.length : Int) < (n : Int) := by omega
    have hsub : (n : Int) - (G.length : Int) = ((n - G.length : Nat) : Int) := by omega
    have hsubw : wrap64 ((n : Int) - (G.length : Int)) = ((n - G.length : Nat) : Int) := by unfold wrap64; omega
    obtain ⟨j, rfl⟩ : ∃ j, gk = j + 1 := ⟨gk - 1, by omega⟩
    have hS := HV.out.2 hlt
    have HS := hide (rsome_any g mb d (n - G.length) O' K' wr H.out (by omega) (by omega) hS.1)
    have hle := rsome_few d (n - G.length) 8192 K'
    obtain ⟨b, e, s2, hd⟩ : ∃ b e s2, someV (kerD d) (n - G.length) 8192 K' = (b, e, s2) := ⟨_, _, _, rfl⟩
    rw [hd] at HS hle
    simp only at HS hle
    have HV1 : Hid (e = 0 ∧ b ≠ [] → allOk (kerD d) kerR n j s2 (G ++ b)) := hide (by have := hS.2; rw [hd] at this; exact this)
    have hV2 := HV.out.1
    rw [allV_next (kerD d) n j K' G hd, if_pos hlt] at hV2
    clear HV hd hS
    generalize hm : n - G.length = m at *
    have HMm := hide hm
    clear hm
    by_cases hg : e = 0 ∧ b ≠ []
    · rw [if_pos hg] at hV2
      have HV2 := hide hV2
      have HV3 := hide (HV1.out hg)
      obtain ⟨rfl, hb⟩ := hg
      have hb0 : ¬ (b.length : Int) = 0 := by simpa using hb
      have hb1 : ((b.length : Int) == 0) = false := by simpa using hb
      have hbp : 0 < b.length := by
        cases b with
        | nil => exact absurd rfl hb
        | cons _ _ => simp
      clear hV2 HV1 hb
      go_wp2_with fail
      refine HS.out.mono ?_
      rintro _ w1 ⟨u, rfl, hby, O2, hA1, hO2, hT1⟩
      obtain ⟨ua, uc, rfl⟩ : ∃ va vc, u = .slice va b.length vc := (by obtain ⟨va, vc, e, -⟩ := bys_form hby; exact ⟨va, vc, e⟩)
      have hs1 := hT1.size
      have hsw := HT.out.size
      have HO2 := hide (owns_turned HOw.out hT1 (fun i hi => HGb.out i hi))
      obtain ⟨g', w2, hrun, HO3, hg3, hb3⟩ := run_append_bytes w1 40 w.heap.size _ (.slice ua b.length uc) G b HO2.out hby (by omega) (by omega)
      have HRun := hide hrun
      have hA1t := hA1.trim
      have hnb : ∀ i, (Value.slice ga G.length gc).ownBlock = some i → ¬ (O2 i ∧ i < w1.heap.size) := fun i hi e => by
        rcases hO2 i e.1 with e1 | e1
        · exact HGb.out i hi e1
        · have := (HOw.out.lt i hi).2; omega
      have HA2 := hide (hA1t.keep (W' := w2) (fun i hi hl => hg3.block i hl (fun e => hnb i e.symm hi)) hg3.size)
      have HO5 : Hid (∀ i, O2 i ∧ i < w1.heap.size → i < w2.heap.size ∧ (O i ∨ w.heap.size ≤ i)) := hide (fun i e => ⟨Nat.lt_of_lt_of_le e.2 hg3.size, (hO2 i e.1).elim (fun e1 => (HO.out i e1).2) (fun e1 => .inr (by omega))⟩)
      have HN5 : Hid (∀ i, g'.ownBlock = some i → ¬ (O2 i ∧ i < w1.heap.size)) := hide (fun i hi e => by
        rcases hb3 with e3 | e3
        · rw [e3] at hi; exact hnb i hi e
        · rw [e3] at hi; cases hi; have := e.2; omega)
      have HT1 : Turned O w w1 := HT.out.trans hT1 (fun i hi e => (HO.out i e).2.resolve_right (by omega))
      have HT2 : Hid (Turned O w w2) := hide (HT1.grown hg3 (fun i e => .inr (HO2.out.lt i e).1))
      clear hrun hA1 hA1t hT1 hg3 hb3 hby hO2 HT1 hnb
      go_wp2_with (first | (at_builtin; refine Lib.wpList_append_run _ rfl _ _ _ _ rfl _ _ rfl rfl _ _ HRun.out ?_) | fail)
      go_roundg j
      case measure => omega
      case rel => exact ⟨s2, _, G ++ b, by rw [List.length_append]; have := HMm.out; omega, by rw [List.length_append]; omega, HO3, hide ⟨HV2.out, HV3.out⟩, HA2, HO5, HN5, HT2⟩
    · rw [if_neg hg] at hV2
      have HV2 := hide hV2
      have HT0 := hide hg
      clear hV2 HV1
      by_cases he : e = 0
      · subst he
        obtain rfl : b = [] := Classical.byContradiction fun hb => hg ⟨rfl, hb⟩
        clear hg
        have HS : Hid _ := HS
        go_wp2_with fail
        refine HS.out.mono ?_
        rintro _ w1 ⟨u, rfl, hby, O2, hA1, hO2, hT1⟩
        obtain ⟨ua, uc, rfl⟩ : ∃ va vc, u = .slice va 0 vc := (by obtain ⟨va, vc, e, -⟩ := bys_form hby; exact ⟨va, vc, e⟩)
        have HO2 := hide (owns_turned HOw.out hT1 (fun i hi => HGb.out i hi))
        have HA1 := hide hA1
        have HOO := hide hO2
        have HT1 := hide hT1
        clear hA1 hO2 hT1 hby
        go_wp2_with fail
        go_ret2
        rw [← HV2.out]
        exact ⟨_, rfl, Bys.of_owns HO2.out, O2, HA1.out, fun i e => (HOO.out i e).elim (fun e1 => (HO.out i e1).2) (fun e1 => .inr (by have := HT.out.size; omega)), HT.out.trans HT1.out (fun i hi e => (HO.out i e).2.resolve_right (by omega))⟩
      · clear hg
        go_wp2_with fail
        refine HS.out.mono ?_
        rintro _ w1 ⟨u, rfl, hby, O2, hA1, hO2, hT1⟩
        obtain ⟨ua, uc, rfl⟩ : ∃ va vc, u = .slice va b.length vc := (by obtain ⟨va, vc, e, -⟩ := bys_form hby; exact ⟨va, vc, e⟩)
        have HO2 := hide (owns_turned HOw.out hT1 (fun i hi => HGb.out i hi))
        have HA1 := hide hA1
        have HOO := hide hO2
        have HT1 := hide hT1
        clear hA1 hO2 hT1 hby
        go_wp2_with fail
        go_ret2
        rw [← HV2.out]
        exact ⟨_, rfl, Bys.of_owns HO2.out, O2, HA1.out, fun i e => (HOO.out i e).elim (fun e1 => (HO.out i e1).2) (fun e1 => .inr (by have := HT.out.size; omega)), HT.out.trans HT1.out (fun i hi e => (HO.out i e).2.resolve_right (by omega))⟩
end Go.Proofs.YtkkicbhmcjbmbaaGreat

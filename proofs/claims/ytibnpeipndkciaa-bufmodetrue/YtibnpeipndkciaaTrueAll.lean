/- BufmodeTrue: for every mode, size, text and number, a stream over a Raw that counts makes just as many raw writes and reads as Writes and Reads tell (of the first 3000 bytes), and what was put is what was taken. -/
import Derived.Test.YtibnpeipndkciaaKM11
import Derived.Deep.LoopGhost
import Derived.Deep.RegionLaw
import Derived.Deep.DeepCutAuto
import Derived.ProofKit
import Derived.OpenShut
import Derived.ShutString
import Derived.ChangeOld
import Derived.Below
import Derived.SizedLaws
/- BufmodeTrue: the walk. -/
namespace Go.Proofs.Ytibnpeipndkciaa
open Go.RowKit

theorem newW_bref (mode size : Int) : SS.new moW mode size = if bref mode size = 0 then (xW mode size, 0) else (ss0, bref mode size) := by
  rw [new_W]
  by_cases h1 : 1 ≤ mode ∧ mode ≤ 3
  · by_cases h2 : 1 ≤ size ∧ size ≤ 65536
    · have e : bref mode size = 0 := by unfold bref; rw [if_neg (by omega), if_neg (by omega)]
      rw [if_pos h1, if_pos h2, e, if_pos rfl]
    · have e : bref mode size = 4 := by unfold bref; rw [if_neg (by omega), if_pos (by omega)]
      rw [if_pos h1, if_neg h2, e, if_neg (by decide)]
  · have e : bref mode size = 1 := by unfold bref; rw [if_pos (by omega)]
    rw [if_neg h1, e, if_neg (by decide)]
theorem newR_bref (mode size : Int) : SS.new moR mode size = if bref mode size = 0 then (xR mode size, 0) else (ss0, bref mode size) := by
  rw [new_R]
  by_cases h1 : 1 ≤ mode ∧ mode ≤ 3
  · by_cases h2 : 1 ≤ size ∧ size ≤ 65536
    · have e : bref mode size = 0 := by unfold bref; rw [if_neg (by omega), if_neg (by omega)]
      rw [if_pos h1, if_pos h2, e, if_pos rfl]
    · have e : bref mode size = 4 := by unfold bref; rw [if_neg (by omega), if_pos (by omega)]
      rw [if_pos h1, if_neg h2, e, if_neg (by decide)]
  · have e : bref mode size = 1 := by unfold bref; rw [if_pos (by omega)]
    rw [if_neg h1, e, if_neg (by decide)]
theorem GwW.bear {x : SS} {S : CtS} {t : List UInt8} {k m N : Nat} {md : Int} (h : GwW x S t k m N md) (hl : t.length ≤ 3000) (hN : N ≤ 3000) : S.rd + 2 ≤ 4611686018427387904 ∧ S.wr + 2 ≤ 4611686018427387904 ∧ S.b.length + 2 * 65536 ≤ 1000000000 := by
  have h1 := h.few
  have h2 := h.rz
  have h4 : S.b.length ≤ t.length := by
    have := congrArg List.length h.all
    rw [List.length_append, List.length_take] at this
    omega
  omega
theorem GwR.bear {x : SS} {S : CtS} {t : List UInt8} {i m : Nat} (h : GwR x S t i m) (hl : t.length ≤ 3000) : S.rd + 2 ≤ 4611686018427387904 ∧ S.wr + 2 ≤ 4611686018427387904 ∧ S.b.length + 2 * 65536 ≤ 1000000000 := by
  have h2 := h.wz
  have h3 := h.rdle
  have h4 := h.all
  rw [h4]
  omega
theorem GwB.small {x : SS} {m : Nat} (h : GwB x m) : x.out.length ≤ 65536 := by
  have h1 := h.ol
  have h2 := h.hm
  have h3 := h.s2
  unfold brm at h2
  split at h2 <;> omega
theorem LV.beside {S1 S2 : Type} {A1 : World → (Nat → Prop) → S1 → Prop} {A2 : World → (Nat → Prop) → S2 → Prop} (hT1 : ∀ s, OAt (fun w O => A1 w O s)) (hT2 : ∀ s, OAt (fun w O => A2 w O s)) {w w1 : World} {B g : Nat} {O P : Nat → Prop} {x x' : SS} {s s' : S2} {s1 : S1} {o i b o' i' b' : Value} (h : LV A2 w B g O x s o i b) (hC : A1 w P s1) (hd : ∀ k, Us g O o i b k → ¬ P k) (hP : ∀ k, P k → k < w.heap.size) (hB : B ≤ w.heap.size) (hS : SOut A2 w O x' s' o' i' b' w1) :
    StAt w1 g x o i b ∧ (∃ O', LV A2 (filled w1 g x' o' i' b') B g O' x' s' o' i' b' ∧ A1 (filled w1 g x' o' i' b') P s1 ∧ (∀ k, Us g O' o' i' b' k → ¬ P k) ∧ (∀ k, P k → k < (filled w1 g x' o' i' b').heap.size)) ∧ Turned (fun k => B ≤ k) w (filled w1 g x' o' i' b') := by
  obtain ⟨hst, -, ht⟩ := LV.next hT2 h hB hS
  obtain ⟨O', q1, q2, q3, q4, q5⟩ := hS
  have hl := LV.next1 hT2 h hB O' q1 q2 q3 q4 q5
  obtain ⟨-, e2⟩ := st_fill2 w1 g x x' o i b o' i' b' hst
  have hz := q5.size
  have hz2 := e2.size
  refine ⟨hst, ⟨O', hl, (hT1 s1).keep ((hT1 s1).keep hC (fun j e hj => q5.block j hj (fun e' => hd j (.inr (.inl e')) e)) hz) (fun j e hj => e2.block j hj (fun e' => hd j (.inl e') e)) hz2, fun k e e' => ?_, fun k e => by have := hP k e; omega⟩, ht⟩
  have hlt := hP k e'
  rcases e with e | e | e | e | e
  · exact hd k (.inl e) e'
  · rcases q4 k e with e | e
    · exact hd k (.inr (.inl e)) e'
    · omega
  · have := (q1.po k e).1; omega
  · have := (q1.pi k e).1; omega
  · have := (q1.pb k e).1; omega
theorem mod_twice (n M : Int) (h : M = (wrap64 (n.tmod 4000 + 4000)).tmod 4000) : 0 ≤ M ∧ M < 4000 := by
  have h1 := Int.lt_tmod_of_pos n (show (0 : Int) < 4000 by omega)
  have h2 := Int.tmod_lt_of_pos n (show (0 : Int) < 4000 by omega)
  have h3 : 0 ≤ n.tmod 4000 + 4000 := by omega
  have h4 : wrap64 (n.tmod 4000 + 4000) = n.tmod 4000 + 4000 := by unfold wrap64; omega
  rw [h4] at h
  rw [Int.tmod_eq_emod_of_nonneg h3] at h
  omega
set_option maxRecDepth 100000 in
set_option maxHeartbeats 8000000 in
theorem btrue_any (mode size : Int) (va : Option Addr) (vn vc : Nat) (t0 : List UInt8) (n : Int) (w : World) (hb : Bys w (.slice va vn vc) t0) (hc : t0.length ≤ vc) :
    Calls Try.prog 5 #[.int .i64 mode, .int .i64 size, .slice va vn vc, .int .i64 n] w fun e w' => e = .returned (.bool true) ∧ Below w.heap.size w w' := by
  obtain rfl := bys_len12 hb
  have HBy0 := hide hb
  clear hb
  go_enter Try.func5, Try.ntmps5
  go_wp2_with fail
  refine (balive_any _).mono ?_
  rintro _ w1 ⟨rfl, hB1⟩
  have HB1 := hide hB1
  clear hB1
  go_upto_if 25 with fail
  go_cut [2] (fun tv wx => ∃ t : List UInt8, tv = .slice va t.length vc ∧ t.length ≤ 3000 ∧ t.length ≤ vc ∧ Hid (Bys w (.slice va t.length vc) t) ∧ wx = w1)
  case first =>
    by_cases h3 : 3000 < t0.length
    · have h4 : (3000 : Int) < (t0.length : Int) := by omega
      have q1 : (3000 : Int) ≤ (vc : Int) := by omega
      have hb5 : (t0.take 3000).length = 3000 := by rw [List.length_take]; omega
      have HBy : Hid (Bys w (.slice va (t0.take 3000).length vc) (t0.take 3000)) := hide (by
        obtain ⟨-, qb, qo, rfl, -⟩ := bys_block HBy0.out (by omega)
        have := bys_cut HBy0.out 0 3000 vc (by omega)
        rw [List.drop_zero] at this
        rw [hb5]
        exact this)
      go_wp2
      go_meet
      exact ⟨t0.take 3000, by rw [hb5], by omega, by omega, HBy, rfl⟩
    · have h4 : ¬ (3000 : Int) < (t0.length : Int) := by omega
      go_wp2
      go_meet
      exact ⟨t0, rfl, by omega, hc, HBy0, rfl⟩
  case rest =>
  obtain ⟨t, rfl, htl, htc, HBy, hwc⟩ := hcut
  rw [hwc]
  clear hwc HBy0 hc
  have HWr := hide (fun (W : World) (hW : Below w.heap.size w W) => bwrites_any mode size va vc t htc W (HBy.out.below hW))
  have hN := fun W => sNew_any moW mode size W
  have hM := fun W => sNew_any moR mode size W
  rw [newW_bref] at hN
  rw [newR_bref] at hM
  unfold mv at hN hM
  by_cases hs : bref mode size = 0
  case neg =>
    rw [if_neg hs] at hN hM
    simp only at hN hM
    have hE : bwE mode size t = bref mode size := by unfold bwE; rw [if_pos hs]
    rw [hE] at HWr
    generalize bref mode size = q at *
    have HN := hide hN
    have HM := hide hM
    have hs2 : (q == 0) = false := by simpa using hs
    have hs3 : (q != 0) = true := by simpa using hs
    clear hN hM hE
    go_wp2_with fail
    refine (HWr.out _ HB1.out).mono ?_
    rintro _ w2 ⟨u, rfl, hO2, hB2⟩
    obtain ⟨ua, uc, rfl⟩ := owns_slice hO2
    have HB2 := hide (HB1.out.trans (hB2.mono HB1.out.size))
    clear hO2 hB2
    go_wp2_with fail
    refine (HN.out _).mono ?_
    rintro _ w3 ⟨rfl, hB3⟩
    have HB3 := hide (HB2.out.trans (hB3.mono HB2.out.size))
    clear hB3
    go_wp2_with fail
    refine (HM.out _).mono ?_
    rintro _ w4 ⟨rfl, hB4⟩
    have hz3 := (recv_below w3 (Obj.cells #[.bool ss0.rd, .bool ss0.wt, .int .i64 ss0.mode, .int .i64 ss0.size, .slice none 0 0, .slice none 0 0, .slice none 0 0, .int .i64 ss0.dir, .bool ss0.fin, .bool ss0.bad, .bool ss0.closed] 39)).size
    have HB4 := hide (HB3.out.trans (((recv_below w3 _).trans (hB4.mono hz3)).mono HB3.out.size))
    clear hB4 hz3
    go_wp2_with (first | (go_at_call 13; refine (bnum_is _ _).mono ?_; rintro _ _ ⟨rfl, rfl⟩) | fail)
    go_ret
    exact ⟨rfl, HB4.out.trans ((recv_below w4 _).mono HB4.out.size)⟩
  rw [if_pos hs] at hN hM
  simp only at hN hM
  have HN := hide hN
  have HM := hide hM
  have hE : bwE mode size t = 0 := by unfold bwE; rw [if_neg (by simpa using hs), if_neg (by omega)]
  rw [hE] at HWr
  obtain ⟨m, hm, hmt, hm1, hm2⟩ := brm_nat hs
  obtain ⟨q1, q2, q3, q4⟩ := bref_ok hs
  obtain ⟨L, hL⟩ : ∃ L, L = bwL mode size t := ⟨_, rfl⟩
  have hLr : (rwr (decide (mode = 2)) m 0 t).length = L.length := by rw [hL]; unfold bwL; rw [if_pos hE, hmt]
  have hLl : L.length ≤ 3000 := by rw [← hLr]; have := rwr_len_le (decide (mode = 2)) m t 0 (by omega); omega
  rw [← hL] at HWr
  clear hN hM hL
  go_wp2_with fail
  refine (HWr.out _ HB1.out).mono ?_
  rintro _ w1' ⟨u, rfl, hO2, hB2⟩
  obtain ⟨ua, uc, rfl⟩ := owns_slice hO2
  have HB1' := hide (HB1.out.trans (hB2.mono HB1.out.size))
  clear hO2 hB2
  go_wp2_with fail
  refine (HN.out _).mono ?_
  rintro _ w2 ⟨rfl, hB2⟩
  have HB2 := hide (HB1'.out.trans (hB2.mono HB1'.out.size))
  clear hB2
  go_wp2_with fail
  refine (HM.out _).mono ?_
  rintro _ w3 ⟨rfl, hB3⟩
  have hz2 := (recv_below w2 (Obj.cells #[.bool (xW mode size).rd, .bool (xW mode size).wt, .int .i64 (xW mode size).mode, .int .i64 (xW mode size).size, .slice none 0 0, .slice none 0 0, .slice none 0 0, .int .i64 (xW mode size).dir, .bool (xW mode size).fin, .bool (xW mode size).bad, .bool (xW mode size).closed] 39)).size
  have hgs : (w2.alloc (Obj.cells #[.bool (xW mode size).rd, .bool (xW mode size).wt, .int .i64 (xW mode size).mode, .int .i64 (xW mode size).size, .slice none 0 0, .slice none 0 0, .slice none 0 0, .int .i64 (xW mode size).dir, .bool (xW mode size).fin, .bool (xW mode size).bad, .bool (xW mode size).closed] 39)).heap.size = w2.heap.size + 1 := Array.size_push ..
  have HS3 := hide ((StAt.new w2 (xW mode size) (.slice none 0 0) (.slice none 0 0) (.slice none 0 0)).below hB3)
  have HB3 := hide (HB2.out.trans (((recv_below w2 _).trans (hB3.mono hz2)).mono HB2.out.size))
  have hz3 := hB3.size
  have hz1 := HB1.out.size
  have hzw2 := HB2.out.size
  clear hB3 HB1' HB2 HN HM HWr
  have HB4 := hide (HB3.out.trans ((recv_below w3 (Obj.cells #[.bool (xR mode size).rd, .bool (xR mode size).wt, .int .i64 (xR mode size).mode, .int .i64 (xR mode size).size, .slice none 0 0, .slice none 0 0, .slice none 0 0, .int .i64 (xR mode size).dir, .bool (xR mode size).fin, .bool (xR mode size).bad, .bool (xR mode size).closed] 39)).mono HB3.out.size))
  have HS4 := hide (HS3.out.below (recv_below w3 (Obj.cells #[.bool (xR mode size).rd, .bool (xR mode size).wt, .int .i64 (xR mode size).mode, .int .i64 (xR mode size).size, .slice none 0 0, .slice none 0 0, .slice none 0 0, .int .i64 (xR mode size).dir, .bool (xR mode size).fin, .bool (xR mode size).bad, .bool (xR mode size).closed] 39)))
  have HT4 := hide (StAt.new w3 (xR mode size) (.slice none 0 0) (.slice none 0 0) (.slice none 0 0))
  go_wp2_with (first | (go_at_call 13; refine (bnum_is _ _).mono ?_; rintro _ _ ⟨rfl, rfl⟩) | fail)
  have HB5 := hide (HB4.out.trans ((recv_below (w3.alloc (Obj.cells #[.bool (xR mode size).rd, .bool (xR mode size).wt, .int .i64 (xR mode size).mode, .int .i64 (xR mode size).size, .slice none 0 0, .slice none 0 0, .slice none 0 0, .int .i64 (xR mode size).dir, .bool (xR mode size).fin, .bool (xR mode size).bad, .bool (xR mode size).closed] 39)) (Obj.cells #[.slice none 0 0, .int .i64 0, .int .i64 0, .int .i64 0] 46)).mono HB4.out.size))
  have HS5 := hide (HS4.out.below (recv_below (w3.alloc (Obj.cells #[.bool (xR mode size).rd, .bool (xR mode size).wt, .int .i64 (xR mode size).mode, .int .i64 (xR mode size).size, .slice none 0 0, .slice none 0 0, .slice none 0 0, .int .i64 (xR mode size).dir, .bool (xR mode size).fin, .bool (xR mode size).bad, .bool (xR mode size).closed] 39)) (Obj.cells #[.slice none 0 0, .int .i64 0, .int .i64 0, .int .i64 0] 46)))
  have HT5 := hide (HT4.out.below (recv_below (w3.alloc (Obj.cells #[.bool (xR mode size).rd, .bool (xR mode size).wt, .int .i64 (xR mode size).mode, .int .i64 (xR mode size).size, .slice none 0 0, .slice none 0 0, .slice none 0 0, .int .i64 (xR mode size).dir, .bool (xR mode size).fin, .bool (xR mode size).bad, .bool (xR mode size).closed] 39)) (Obj.cells #[.slice none 0 0, .int .i64 0, .int .i64 0, .int .i64 0] 46)))
  have hz4 : (w3.alloc (Obj.cells #[.bool (xR mode size).rd, .bool (xR mode size).wt, .int .i64 (xR mode size).mode, .int .i64 (xR mode size).size, .slice none 0 0, .slice none 0 0, .slice none 0 0, .int .i64 (xR mode size).dir, .bool (xR mode size).fin, .bool (xR mode size).bad, .bool (xR mode size).closed] 39)).heap.size = w3.heap.size + 1 := Array.size_push ..
  have HC5 : Hid (CtB ((w3.alloc (Obj.cells #[.bool (xR mode size).rd, .bool (xR mode size).wt, .int .i64 (xR mode size).mode, .int .i64 (xR mode size).size, .slice none 0 0, .slice none 0 0, .slice none 0 0, .int .i64 (xR mode size).dir, .bool (xR mode size).fin, .bool (xR mode size).bad, .bool (xR mode size).closed] 39)).alloc (Obj.cells #[.slice none 0 0, .int .i64 0, .int .i64 0, .int .i64 0] 46)) (w3.heap.size + 1) (.slice none 0 0) ⟨[], 0, 0, 0⟩) := hide (by have := heap_alloc_new (w3.alloc (Obj.cells #[.bool (xR mode size).rd, .bool (xR mode size).wt, .int .i64 (xR mode size).mode, .int .i64 (xR mode size).size, .slice none 0 0, .slice none 0 0, .slice none 0 0, .int .i64 (xR mode size).dir, .bool (xR mode size).fin, .bool (xR mode size).bad, .bool (xR mode size).closed] 39)) (Obj.cells #[.slice none 0 0, .int .i64 0, .int .i64 0, .int .i64 0] 46); rw [hz4] at this; exact this)
  generalize (w3.alloc (Obj.cells #[.bool (xR mode size).rd, .bool (xR mode size).wt, .int .i64 (xR mode size).mode, .int .i64 (xR mode size).size, .slice none 0 0, .slice none 0 0, .slice none 0 0, .int .i64 (xR mode size).dir, .bool (xR mode size).fin, .bool (xR mode size).bad, .bool (xR mode size).closed] 39)).alloc (Obj.cells #[.slice none 0 0, .int .i64 0, .int .i64 0, .int .i64 0] 46) = w5 at *
  refine (copy_any _ t w5 (HBy.out.below HB5.out) (by omega)).mono ?_
  rintro _ w6 ⟨v6, rfl, hO6, hB6⟩
  obtain ⟨a6, k6, rfl⟩ := owns_slice hO6
  have HS6 := hide (HS5.out.below hB6)
  have HT6 := hide (HT5.out.below hB6)
  have HC6 : Hid (CtB w6 (w3.heap.size + 1) (.slice none 0 0) ⟨[], 0, 0, 0⟩) := hide ((hB6.block _ HC5.out.lt).trans HC5.out)
  have HO6 := hide hO6
  have HB6 := hide (HB5.out.trans (hB6.mono HB5.out.size))
  have hc5 := HC5.out.lt
  have hz6 := hB6.size
  clear hO6 hB6 HS3 HS4 HT4 HB3 HB4 HS5 HT5 HB5 HC5 hz4
  go_wp2_with fail
  have HB7 := hide (HB6.out.trans ((recv_below w6 (Obj.cells #[.slice a6 t.length k6, .int .i64 0, .int .i64 0, .int .i64 0] 46)).mono HB6.out.size))
  have HC7 : Hid (CtB (w6.alloc (Obj.cells #[.slice a6 t.length k6, .int .i64 0, .int .i64 0, .int .i64 0] 46)) w6.heap.size (.slice a6 t.length k6) ⟨t, 0, 0, 0⟩) := hide (heap_alloc_new w6 (Obj.cells #[.slice a6 t.length k6, .int .i64 0, .int .i64 0, .int .i64 0] 46))
  have HS7 := hide (HS6.out.below (recv_below w6 (Obj.cells #[.slice a6 t.length k6, .int .i64 0, .int .i64 0, .int .i64 0] 46)))
  have HT7 := hide (HT6.out.below (recv_below w6 (Obj.cells #[.slice a6 t.length k6, .int .i64 0, .int .i64 0, .int .i64 0] 46)))
  have HW7 : Hid (CtB (w6.alloc (Obj.cells #[.slice a6 t.length k6, .int .i64 0, .int .i64 0, .int .i64 0] 46)) (w3.heap.size + 1) (.slice none 0 0) ⟨[], 0, 0, 0⟩) := hide (((recv_below w6 (Obj.cells #[.slice a6 t.length k6, .int .i64 0, .int .i64 0, .int .i64 0] 46)).block _ HC6.out.lt).trans HC6.out)
  have HO7 := hide (owns_below HO6.out (recv_below w6 (Obj.cells #[.slice a6 t.length k6, .int .i64 0, .int .i64 0, .int .i64 0] 46)))
  generalize w6.alloc (Obj.cells #[.slice a6 t.length k6, .int .i64 0, .int .i64 0, .int .i64 0] 46) = w7 at *
  obtain ⟨gw, hgw⟩ : ∃ gw, gw = w3.heap.size + 1 := ⟨_, rfl⟩
  obtain ⟨B, hBq⟩ : ∃ B, B = w2.heap.size := ⟨_, rfl⟩
  have hno : ∀ k, (Value.slice none 0 0).ownBlock = some k → False := fun k e => by simp [Value.ownBlock] at e
  have hlt6 : ∀ k, (Value.slice a6 t.length k6).ownBlock = some k → w5.heap.size ≤ k ∧ k < w6.heap.size := fun k e => ⟨(HO6.out.lt k e).1, (HO6.out.lt k e).2⟩
  have hc7 := HC7.out.lt
  have HV : Hid (V2 (CtAt gw) (CtAt w6.heap.size) w7 B w2.heap.size (fun k => k = gw) (xW mode size) ⟨[], 0, 0, 0⟩ (.slice none 0 0) (.slice none 0 0) (.slice none 0 0) w3.heap.size (fun k => k = w6.heap.size ∨ (Value.slice a6 t.length k6).ownBlock = some k) (xR mode size) ⟨t, 0, 0, 0⟩ (.slice none 0 0) (.slice none 0 0) (.slice none 0 0)) := hide (by
    refine ⟨⟨HS7.out, SIn.nils rfl rfl rfl, ⟨_, by rw [hgw]; exact HW7.out, World.ownsRow_nil _ _ _ _, fun k e => (hno k e).elim, rfl, Nat.le_refl _, by simp⟩, fun j e => by have e2 : j = gw := e; omega, fun j e => by have e2 : j = gw := e; omega, fun e => by have e2 : w2.heap.size = gw := e; omega, by omega⟩,
      ⟨HT7.out, SIn.nils rfl rfl rfl, ⟨_, HC7.out, owns_mono HO7.out (Nat.zero_le _), fun k e => ⟨.inr e, by have := hlt6 k e; omega⟩, .inl rfl, Nat.zero_le _, by show t.length ≤ _; omega⟩, fun j e => ?_, fun j e => ?_, fun e => ?_, by omega⟩, fun k e e' => ?_⟩
    · rcases e with e | e
      · omega
      · have := hlt6 j e; omega
    · rcases e with e | e
      · omega
      · have := hlt6 j e; omega
    · rcases e with e | e
      · omega
      · have := hlt6 _ e; omega
    · have e1 : k = w2.heap.size ∨ k = gw := by
        rcases e with e | e | e | e | e
        · exact .inl e
        · exact .inr e
        · exact (hno k e).elim
        · exact (hno k e).elim
        · exact (hno k e).elim
      rcases e' with e' | e' | e' | e' | e'
      · omega
      · rcases e' with e' | e'
        · omega
        · have := hlt6 k e'; omega
      · exact hno k e'
      · exact hno k e'
      · exact hno k e')
  have HFw : Hid (GwW (xW mode size) ⟨[], 0, 0, 0⟩ t 0 m L.length mode) := hide ⟨⟨rfl, q1, q2, q3, q4, hm, by show 0 < m; omega, rfl, rfl, rfl, .inr ⟨rfl, rfl⟩⟩, rfl, rfl, by show 0 + (rwr (decide (mode = 2)) m 0 (t.drop 0)).length = _; rw [List.drop_zero, hLr]; omega, rfl⟩
  have HFr : Hid (GwR (xR mode size) ⟨t, 0, 0, 0⟩ t 0 m) := hide ⟨rfl, q1, q2, q3, q4, hm, rfl, rfl, rfl, .inr ⟨rfl, rfl⟩, rfl, rfl, Nat.zero_le _, ⟨0, RdI.start _ _, fun _ => rfl, fun e => by cases e⟩, fun e => by cases e⟩
  have HSz : Hid (bref mode size = 0) := hide hs
  have HMt : Hid ((brm mode size).toNat = m) := hide hmt
  have hBw : w.heap.size ≤ B := by omega
  have hB7 : B ≤ w7.heap.size := by omega
  rw [← hgw]
  generalize hgr : w6.heap.size = gr at *
  generalize hgt : w3.heap.size = gt at *
  generalize hgs2 : w2.heap.size = gs at *
  clear hno hlt6 HS6 HT6 HC6 HO6 HB6 HC7 HS7 HT7 HW7 HO7 hgr hgt hgs2 hgw hBq hc5 hc7 hz6 hz3 hz2 hz1 hzw2 hgs HB1 hs hm hmt hLr hE
  go_loopg [17] t.length (fun gq s17 wx => ∃ (k : Nat) (x1 : SS) (S1 : CtS) (o1 i1 c1 : Value) (O1 O2 : Nat → Prop), k + gq = t.length ∧ s17 = .int .i64 k ∧ Hid (V2 (CtAt gw) (CtAt gr) wx B gs O1 x1 S1 o1 i1 c1 gt O2 (xR mode size) ⟨t, 0, 0, 0⟩ (.slice none 0 0) (.slice none 0 0) (.slice none 0 0)) ∧ Hid (GwW x1 S1 t k m L.length mode) ∧ Hid (Below w.heap.size w wx) ∧ B ≤ wx.heap.size)
  case atStart => exact ⟨0, _, _, _, _, _, _, _, by omega, rfl, HV, HFw, HB7, hB7⟩
  case round =>
    clear HV HFw HB7 hB7
    obtain ⟨k, x1, S1, o1, i1, c1, O1, O2, hkg, rfl, HVr, HFw, HBr, hBr⟩ := hrel
    obtain ⟨oa0, oc0, eo, -⟩ := HVr.out.l1.ls.so
    obtain ⟨ia0, ic0, ei, -⟩ := HVr.out.l1.ls.si
    obtain ⟨ba0, bc0, ebk, -⟩ := HVr.out.l1.ls.sb
    subst eo ei ebk
    by_cases hlt : k < t.length
    case neg =>
      obtain rfl : k = t.length := by omega
      have hlt' : ¬ (t.length : Int) < (t.length : Int) := by omega
      have hcl := HFw.out.end
      have hp := sClose_any (ct_raw gw) (fun s => ct_o gw s) ct_bears HVr.out.l1.ls HVr.out.l1.raw HVr.out.l1.ol (HFw.out.bear htl hLl) (by have := HFw.out.b.small; omega) (by rw [HFw.out.b.inn]; decide) (by rw [HFw.out.b.back]; decide)
      generalize x1.close ctD S1 = X at *
      obtain ⟨x1', e', S1'⟩ := X
      simp only at hp hcl
      obtain ⟨t1, t2, t3⟩ := hcl
      subst t1
      have HP := hide hp
      have HT2 := hide t2
      have HT3 := hide t3
      obtain ⟨m0, m1', m2', m3', m4', m5', m6', m7', m8', m9', m10'⟩ := HVr.out.l1.st.cs
      clear hp t2 t3
      go_wp2_with fail
      refine HP.out.mono ?_
      rintro _ w5' ⟨o', i', b'', rfl, hS⟩
      obtain ⟨O', s1, s2, s3, s4, s5⟩ := hS
      obtain ⟨a1, k1, rfl, -⟩ := s1.so
      obtain ⟨a2, k2, rfl, -⟩ := s1.si
      obtain ⟨a3, k3, rfl, -⟩ := s1.sb
      have hl2 := HVr.out.l2.turned (fun s => ct_o gr s) s5 (fun k e e' => HVr.out.dj k (.inr (.inl e')) e)
      have HBz : Hid (Below w.heap.size w w5') := hide (HBr.out.trans (s5.below (fun k e => Nat.le_trans hBw (HVr.out.l1.ob k e)) HBr.out.size))
      have hzz := s5.size
      have hBz : B ≤ w5'.heap.size := by omega
      have HCt := hide s2
      have HO'2 : Hid (∀ k, Us gt O2 (.slice none 0 0) (.slice none 0 0) (.slice none 0 0) k → ¬ O' k) := hide (fun k e e' => by
        rcases s4 k e' with h | h
        · exact HVr.out.dj k (.inr (.inl h)) e
        · have := HVr.out.l2.us_lt e; omega)
      have HL2 := hide hl2
      have HOl := hide s3
      clear s1 s2 s3 s4 s5 hl2 HP HVr HBr hBr m0 m1' m2' m3' m4' m5' m6' m7' m8' m9' m10' hzz
      have HAll : Hid (∃ P2 : Nat → Prop, LV (CtAt gr) w5' B gt P2 (xR mode size) ⟨t, 0, 0, 0⟩ (.slice none 0 0) (.slice none 0 0) (.slice none 0 0) ∧ CtAt gw w5' O' S1' ∧ (∀ k, Us gt P2 (.slice none 0 0) (.slice none 0 0) (.slice none 0 0) k → ¬ O' k) ∧ (∀ k, O' k → k < w5'.heap.size)) := hide ⟨O2, HL2.out, HCt.out, HO'2.out, HOl.out⟩
      clear HL2 HCt HO'2 HOl HFw
      go_upto_region 16 with fail
      go_upto_region 17 with fail
      obtain ⟨M, hM⟩ : ∃ M, M = (wrap64 (n.tmod 4000 + 4000)).tmod 4000 := ⟨_, rfl⟩
      have hMb := mod_twice n M hM
      rw [← hM]
      clear hM
      obtain ⟨N, rfl⟩ : ∃ N : Nat, M = (N : Int) := ⟨M.toNat, by omega⟩
      have hN : N < 4000 := by omega
      clear hMb
      have HRd : Hid (∀ W, Calls Try.prog 10 #[.int .i64 mode, .int .i64 size, .int .i64 N, .int .i64 t.length] W fun e w' => e = .returned (.tuple #[.int .i64 (rds m N t.length), .int .i64 0]) ∧ W = w') := hide (fun W => by
        have h := breads_any mode size N t.length W
        have e1 : brE mode size N t.length = 0 := by
          unfold brE cntB
          rw [if_neg (by simpa using HSz.out), if_pos ⟨decide_eq_true (by omega), decide_eq_true (by omega)⟩]
        have e2 : brN mode size N t.length = (rds m N t.length : Int) := by
          unfold brN
          rw [e1, if_pos rfl, HMt.out]
          simp
        rw [e1, e2] at h
        exact h)
      clear hlt' hkg hlt
      go_upto_region 18 with fail
      go_loopg [18] N (fun gq s18 wx => ∃ (k : Nat) (x2 : SS) (S2 : CtS) (o2 i2 c2 : Value) (P2 : Nat → Prop), k + gq = N ∧ s18 = .int .i64 k ∧ Hid (LV (CtAt gr) wx B gt P2 x2 S2 o2 i2 c2 ∧ CtAt gw wx O' S1' ∧ (∀ k, Us gt P2 o2 i2 c2 k → ¬ O' k) ∧ (∀ k, O' k → k < wx.heap.size)) ∧ Hid (GwR x2 S2 t k m) ∧ Hid (Below w.heap.size w wx) ∧ B ≤ wx.heap.size)
      case atStart => exact ⟨0, _, _, _, _, _, HAll.out.choose, by omega, rfl, hide HAll.out.choose_spec, HFr, HBz, hBz⟩
      case round =>
        clear HAll HFr HBz hBz
        obtain ⟨k, x2, S2, o2, i2, c2, P2, hkg, rfl, HA, HFr, HBr, hBr⟩ := hrel
        obtain ⟨oa1, oc1, eo, -⟩ := HA.out.1.ls.so
        obtain ⟨ia1, ic1, ei, -⟩ := HA.out.1.ls.si
        obtain ⟨ba1, bc1, ebk, -⟩ := HA.out.1.ls.sb
        subst eo ei ebk
        by_cases hlt : k < N
        case neg =>
          obtain rfl : k = N := by omega
          have hlt' : ¬ (k : Int) < (k : Int) := by omega
          obtain ⟨v1, y1, y2, -⟩ := HA.out.2.1
          obtain ⟨v2, y3, -⟩ := HA.out.1.raw
          obtain ⟨z0, -, -, z3⟩ := y1.cs
          obtain ⟨-, -, z2, -⟩ := y3.cs
          rw [HT2.out] at y2
          rw [HT3.out] at z3
          have hrr := HFr.out.reads
          rw [hrr] at z2
          have HSm := hide (same_any v1 (.slice va t.length vc) t wr (Bys.of_owns y2) (HBy.out.below HBr.out) (by unfold maxLen; omega))
          obtain ⟨va1, vc1, rfl⟩ := owns_slice y2
          have HK := hide (fun (W : World) (hW : Below wr.heap.size wr W) => (show W.cell? ⟨gr, 2, none⟩ = some (.int .i64 (rds m k t.length)) from (hW.cell y3.lt).trans z2))
          clear y1 y2 y3 hrr HA
          go_wp2_with (first | (go_at_call 10; refine (HRd.out _).mono ?_; rintro _ _ ⟨rfl, rfl⟩) | fail)
          refine HSm.out.mono ?_
          rintro _ w6' ⟨rfl, hB6'⟩
          have z2' := HK.out w6' hB6'
          have HB6 := hide (HBr.out.trans (hB6'.mono HBr.out.size))
          clear z0 z2 z3 hB6'
          go_wp2_with (first | (go_at_call 13; refine (bnum_is _ _).mono ?_; rintro _ _ ⟨rfl, rfl⟩) | fail)
          go_ret
          exact ⟨rfl, HB6.out⟩
        obtain ⟨gq, rfl⟩ : ∃ gq, gk = gq + 1 := ⟨gk - 1, by omega⟩
        have hk2 : (k : Int) < (N : Int) := by omega
        have hg := sGet_any (ct_raw gr) (fun s => ct_o gr s) ct_bears HA.out.1.ls HA.out.1.raw HA.out.1.ol (HFr.out.bear htl) (by rw [HFr.out.out]; decide) (by have := HFr.out.short; omega) (by rw [HFr.out.back]; decide)
        have u3 := HFr.out.get (by omega)
        generalize x2.get ctD S2 = X at *
        obtain ⟨x2', cc, e2, S2'⟩ := X
        simp only at hg u3
        have HG := hide hg
        have HF3 := hide u3
        obtain ⟨m0, m1', m2', m3', m4', m5', m6', m7', m8', m9', m10'⟩ := HA.out.1.st.cs
        clear hg u3
        go_wp2_with fail
        refine HG.out.mono ?_
        rintro _ w9 ⟨o', i', b'', rfl, hS⟩
        obtain ⟨a4, k4, rfl, -⟩ := hS.choose_spec.1.so
        obtain ⟨a5, k5, rfl, -⟩ := hS.choose_spec.1.si
        obtain ⟨a6', k6', rfl, -⟩ := hS.choose_spec.1.sb
        obtain ⟨hst, hv, ht⟩ := LV.beside (A1 := CtAt gw) (A2 := CtAt gr) (fun s => ct_o gw s) (fun s => ct_o gr s) HA.out.1 HA.out.2.1 HA.out.2.2.1 HA.out.2.2.2 hBr hS
        have HV9 := hide hv
        have HT9 := hide ht
        clear m0 m1' m2' m3' m4' m5' m6' m7' m8' m9' m10'
        obtain ⟨p0, p1, p2, p3, p4, p5, p6, p7, p8, p9, p10⟩ := hst.cs
        have f0 := hst.soft 0
        have f1 := hst.soft 1
        have f2 := hst.soft 2
        have f3 := hst.soft 3
        have f4 := hst.soft 4
        have f5 := hst.soft 5
        have f6 := hst.soft 6
        have f7 := hst.soft 7
        have f8 := hst.soft 8
        have f9 := hst.soft 9
        have f10 := hst.soft 10
        unfold filled at HV9 HT9
        have HB9 : Hid (Below w.heap.size w ((((((((((((w9.setCell ⟨gt, 0, none⟩ (.bool x2'.rd)).setCell ⟨gt, 1, none⟩ (.bool x2'.wt)).setCell ⟨gt, 2, none⟩ (.int .i64 x2'.mode)).setCell ⟨gt, 3, none⟩ (.int .i64 x2'.size)).setCell ⟨gt, 4, none⟩ (.slice a4 x2'.out.length k4)).setCell ⟨gt, 5, none⟩ (.slice a5 x2'.inn.length k5)).setCell ⟨gt, 6, none⟩ (.slice a6' x2'.back.length k6')).setCell ⟨gt, 7, none⟩ (.int .i64 x2'.dir)).setCell ⟨gt, 8, none⟩ (.bool x2'.fin)).setCell ⟨gt, 9, none⟩ (.bool x2'.bad)).setCell ⟨gt, 10, none⟩ (.bool x2'.closed)))) := hide (HBr.out.trans ((HT9.out.below (fun k e => e) hBr).mono hBw))
        have hBn : B ≤ ((((((((((((w9.setCell ⟨gt, 0, none⟩ (.bool x2'.rd)).setCell ⟨gt, 1, none⟩ (.bool x2'.wt)).setCell ⟨gt, 2, none⟩ (.int .i64 x2'.mode)).setCell ⟨gt, 3, none⟩ (.int .i64 x2'.size)).setCell ⟨gt, 4, none⟩ (.slice a4 x2'.out.length k4)).setCell ⟨gt, 5, none⟩ (.slice a5 x2'.inn.length k5)).setCell ⟨gt, 6, none⟩ (.slice a6' x2'.back.length k6')).setCell ⟨gt, 7, none⟩ (.int .i64 x2'.dir)).setCell ⟨gt, 8, none⟩ (.bool x2'.fin)).setCell ⟨gt, 9, none⟩ (.bool x2'.bad)).setCell ⟨gt, 10, none⟩ (.bool x2'.closed))).heap.size := by have := HT9.out.size; omega
        clear hst hv ht hS HG HA
        go_wp2
        obtain ⟨O2', hv9⟩ := HV9.out
        have HVn := hide hv9
        clear hv9 HV9
        go_roundg gq
        case measure => omega
        case rel => exact ⟨k + 1, x2', S2', _, _, _, O2', by omega, by go_num, HVn, HF3, HB9, hBn⟩
    obtain ⟨gq, rfl⟩ : ∃ gq, gk = gq + 1 := ⟨gk - 1, by omega⟩
    have hk1 : (0 : Int) ≤ (k : Int) := by omega
    have hk2 : (k : Int) < (t.length : Int) := by omega
    obtain ⟨-, qb, qo, rfl, hqb, hcell⟩ := bys_block HBy.out (by omega)
    have HBx := hide (fun (W : World) (hW : Below w.heap.size w W) => (hW.cell (World.block_lt_of_cell? w _ (hcell k hlt))).trans (hcell k hlt))
    have d0 := HBx.out wr HBr.out
    obtain ⟨t1, t2⟩ := HFw.out.put hlt
    generalize t.getD k 0 = ch at *
    have HVd := hide (HVr.out.below (fun s => ct_o gw s) (fun s => ct_o gr s) (Below.refl _ wr).drew)
    have hp := sPut_any (ct_raw gw) (fun s => ct_o gw s) ct_bears ch HVd.out.l1.ls HVd.out.l1.raw HVd.out.l1.ol (HFw.out.bear htl hLl) (by have := HFw.out.b.small; omega) (by rw [HFw.out.b.inn]; decide) (by rw [HFw.out.b.back]; decide)
    generalize x1.put ctD S1 ch = X at *
    obtain ⟨x1', e', S1'⟩ := X
    simp only at hp t1 t2
    subst t1
    have HP := hide hp
    have HF2 := hide t2
    obtain ⟨m0, m1', m2', m3', m4', m5', m6', m7', m8', m9', m10'⟩ := HVr.out.l1.st.cs
    clear hp t2 hcell hqb
    go_wp2_with fail
    go_region_law (first | (go_simp; go_at_call 17; refine HP.out.mono ?_; rintro _ w5' ⟨o', i', b'', rfl, hS⟩; obtain ⟨a1, k1, rfl, -⟩ := hS.choose_spec.1.so; obtain ⟨a2, k2, rfl, -⟩ := hS.choose_spec.1.si; obtain ⟨a3, k3, rfl, -⟩ := hS.choose_spec.1.sb; obtain ⟨hst, -, hv, ht⟩ := V2.step (fun s => ct_o gw s) (fun s => ct_o gr s) HVd.out hBr hS; have HV6 := hide hv; have HT6 := hide ht; obtain ⟨p0, p1, p2, p3, p4, p5, p6, p7, p8, p9, p10⟩ := hst.cs; have f0 := hst.soft 0; have f1 := hst.soft 1; have f2 := hst.soft 2; have f3 := hst.soft 3; have f4 := hst.soft 4; have f5 := hst.soft 5; have f6 := hst.soft 6; have f7 := hst.soft 7; have f8 := hst.soft 8; have f9 := hst.soft 9; have f10 := hst.soft 10; clear hst hv ht hS) | fail)
    all_goals
      unfold filled at HV6 HT6
      clear p0 p1 p2 p3 p4 p5 p6 p7 p8 p9 p10 f0 f1 f2 f3 f4 f5 f6 f7 f8 f9 f10 m0 m1' m2' m3' m4' m5' m6' m7' m8' m9' m10' d0 HP HVd HVr
      generalize (((((((((((w5'.setCell ⟨gs, 0, none⟩ (.bool x1'.rd)).setCell ⟨gs, 1, none⟩ (.bool x1'.wt)).setCell ⟨gs, 2, none⟩ (.int .i64 x1'.mode)).setCell ⟨gs, 3, none⟩ (.int .i64 x1'.size)).setCell ⟨gs, 4, none⟩ (.slice a1 x1'.out.length k1)).setCell ⟨gs, 5, none⟩ (.slice a2 x1'.inn.length k2)).setCell ⟨gs, 6, none⟩ (.slice a3 x1'.back.length k3)).setCell ⟨gs, 7, none⟩ (.int .i64 x1'.dir)).setCell ⟨gs, 8, none⟩ (.bool x1'.fin)).setCell ⟨gs, 9, none⟩ (.bool x1'.bad)).setCell ⟨gs, 10, none⟩ (.bool x1'.closed)) = w8 at *
      have HB8 : Hid (Below w.heap.size w w8) := hide ((HBr.out.trans ((Below.refl _ _).drew.mono HBr.out.size)).trans ((HT6.out.below (fun k e => e) hBr).mono hBw))
      have hB8 : B ≤ w8.heap.size := by have h9 : wr.drew.heap.size ≤ w8.heap.size := HT6.out.size; have h10 : wr.drew.heap.size = wr.heap.size := rfl; omega
      obtain ⟨O1', hv8⟩ := HV6.out
      have HV8 := hide hv8
      clear hv8 HV6 HT6
      go_wp2
      go_roundg gq
      case measure => omega
      case rel => exact ⟨k + 1, x1', S1', _, _, _, _, _, by omega, by go_num, HV8, HF2, HB8, hB8⟩
end Go.Proofs.Ytibnpeipndkciaa

/- BufmodeTrue: for every mode, size, text and number, a stream over a Raw that counts makes just as many raw writes and reads as Writes and Reads tell (of the first 3000 bytes), and what was put is what was taken. -/
namespace Go.Proofs.Ytibnpeipndkciaa.bufmodeTrue
open Go.ChangeShapes Go.WideShapes Go.ChangeAt Go.RowKit
open Go.ChangeMaps (open_string shut_string)
set_option linter.unusedVariables false

theorem own : ownKnob Try.prog.godebug = none := by kernel_rfl
theorem laidOut : laidOutB Try.prog = true := by kernel_rfl

set_option maxRecDepth 100000 in
theorem lifted (os : Os) (started : os.Started) (H : Type) (enc : TypeId × Value → H) :
    ReturnsInHanded {} Try.checked os 5 .any (Rows.bufmodeTrueSpec.pre6 enc Try.prog Try.f5 Rows.bufmodeTrueRow.domain false) (Rows.bufmodeTrueSpec.post enc Try.prog Try.f5 false true false false) := by
  refine returnsInHanded_of_change_sized (C := Try.checked) own started (by kernel_rfl) Try.func5
    (ChangeSpec.witness6 (enc := enc) (C := Try.checked) false ⟨#[], #[.int .i64 0, .int .i64 0, .slice none 0 0, .int .i64 0], []⟩ 8 (by kernel_rfl) (by kernel_rfl) (by kernel_rfl) (by kernel_rfl)) ?_
  intro W base args ds gs before hval0 hW hcnd0 hsz0 _
  have hsz : (DataW.weightsEach Try.prog (Try.f5.params.toList ++ Rows.bufmodeTrueSpec.plain.varTypes Try.prog) (ds ++ gs)).all (· ≤ reachBytes) = true := hsz0
  clear hsz0
  have hval : ∀ (j : Nat) t v, Try.f5.params[j]? = some t → args[j]? = some v → Value.okWide Try.prog W .any base t v := hval0
  have hW' := hW
  obtain ⟨p, q, hA0, hV, rfl, hfz, hnd⟩ := hW
  have hA : DataW.TrodAll enc Try.prog W 0 (fun _ => true) true Try.f5.params.toList args.toList ds p := hA0
  rw [Try.params5] at hA hval hsz
  obtain ⟨v0, vs0, d0, ds0, p0, q0, hargs, rfl, rfl, h0, r0⟩ := trodAll_cons hA
  obtain ⟨v1, vs1, d1, ds1, p1, q1, rfl, rfl, rfl, h1, r1⟩ := trodAll_cons r0
  obtain ⟨v2, vs2, d2, ds2, p2, q2, rfl, rfl, rfl, h2, r2⟩ := trodAll_cons r1
  obtain ⟨v3, vs3, d3, ds3, p3, q3, rfl, rfl, rfl, h3, r3⟩ := trodAll_cons r2
  obtain ⟨rfl, rfl, rfl⟩ := trodAll_nil r3
  obtain rfl : args = #[v0, v1, v2, v3] := by cases args; simp_all
  obtain ⟨rfl, rfl⟩ := trodVars_none hV
  obtain ⟨a0, rfl, rfl, rfl, w0⟩ := open_int Try.underlying3 (hval 0 3 v0 rfl rfl) h0
  have b0 := bounds_i64 w0
  obtain ⟨a1, rfl, rfl, rfl, w1⟩ := open_int Try.underlying3 (hval 1 3 v1 rfl rfl) h1
  have b1 := bounds_i64 w1
  obtain ⟨c2, len2, cap2, rfl⟩ := okWide_slice Try.underlying22 (hval 2 22 v2 rfl rfl)
  have k2 := h2
  have lt2 : ∀ x ∈ p2, x.block < W.heap.size := by obtain ⟨m, hm⟩ := k2; exact DataW.trod_lt m _ _ _ hm
  obtain ⟨fuel2, hf2⟩ := h2
  obtain ⟨l2, y2, m2, e2⟩ := bytes_arg2 Try.underlying22 Try.underlying5 (by kernel_rfl) hf2
  have z2 : l2.length ≤ 140737488351232 := by
    rcases e2 with ⟨_, rfl⟩ | ⟨elems, spare, rfl, hll⟩
    · simp
    · have := sized_slice hsz (j := 2) (t := 22) (e := 5) rfl rfl Try.underlying22
      rw [show Try.prog.bytesOf 5 = 1 by kernel_rfl] at this; simp only [reachBytes] at this; omega
  obtain ⟨a3, rfl, rfl, rfl, w3⟩ := open_int Try.underlying3 (hval 3 3 v3 rfl rfl) h3
  have b3 := bounds_i64 w3
  clear hA0
  refine (btrue_any a0 a1 c2 len2 cap2 l2 a3 W y2 m2).mono fun e W' ⟨he, bel⟩ => ?_
  subst he
  exact ⟨_, rfl, _, _, _, [], _, [], hW', trodAll_mk1 (shut_bool Try.underlying4 _), (trodAll_cons_mk (shut_int Try.underlying3 w0) (trodAll_cons_mk (shut_int Try.underlying3 w1) (trodAll_cons_mk (Below.trod laidOut (by kernel_rfl) (of_decide_eq_true (by kernel_rfl)) k2 bel lt2) (trodAll_cons_mk (shut_int Try.underlying3 w3) trodAll_mk0)))), rfl, bel.frame _, fun h => by cases h⟩

theorem over : Rows.bufmodeTrueRow.holds Try.pinned (OpenSpec.ofChange Rows.bufmodeTrueSpec) :=
  OpenClaim.holds_of_wide 5 Try.f5 rfl rfl rfl rfl rfl rfl rfl ⟨rfl, rfl, rfl, rfl, rfl⟩ rfl rfl rfl rfl rfl (by kernel_rfl) Try.func5 (by kernel_rfl)
    (of_decide_eq_true (by kernel_rfl)) (by unfold Func.isWrapper; first | (rw [if_pos (by decide +kernel)]; kernel_rfl) | (rw [if_neg (by decide +kernel)]; exact ⟨rfl, rfl⟩))
    (fun os started H enc _ => lifted os started H enc)
end Go.Proofs.Ytibnpeipndkciaa.bufmodeTrue
namespace Go.Proofs.Ytibnpeipndkciaa
theorem bufmodeTrue_holds : Rows.BufmodeTrueSaid := bufmodeTrue.over
#print axioms bufmodeTrue_holds
end Go.Proofs.Ytibnpeipndkciaa

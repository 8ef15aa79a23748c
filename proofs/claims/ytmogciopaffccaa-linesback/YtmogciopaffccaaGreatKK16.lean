/- What the proof stands on, part 16: the contracts of the program's calls that it reaches. -/
import Derived.Test.YtmogciopaffccaaGreatKK15
import Derived.Deep.RegionLaw
import Derived.Deep.RegionHeld3
import Derived.Deep.DeepCutAuto
/- LinesBack: the walk. -/
namespace Go.Proofs.YtmogciopaffccaaGreat
open Go.RowKit

theorem flatL_big (K : List (List UInt8)) (h : CleanL K) (n : Nat) (hn : K.length ≤ n) (hn2 : n ≤ 60) : (flatL K).length ≤ 12000 := by
  have := flatL_len K h
  omega
set_option linter.unusedSimpArgs false in
set_option maxRecDepth 100000 in
set_option maxHeartbeats 8000000 in
theorem lback_any (ta : Option Addr) (tc : Nat) (ls : List (List UInt8)) (mode size other : Int) (w : World) (hX : Lns w (.slice ta ls.length tc) ls) (hXl : ∀ (i : Nat) (hi : i < ls.length), (ls[i]'hi).length ≤ 140737488351232) :
    Calls Tryz.prog 3 #[.slice ta ls.length tc, .int .i64 mode, .int .i64 size, .int .i64 other] w fun e w' => e = .returned (.bool true) ∧ Below w.heap.size w w' := by
  have HX := hide hX
  have HXl := hide hXl
  clear hX hXl
  go_enter Tryz.func3, Tryz.ntmps3
  go_wp2_with fail
  refine (alive15 _).mono ?_
  rintro _ w1 ⟨rfl, hB1⟩
  have HB1 := hide hB1
  clear hB1
  go_wp2_with fail
  refine (newGrowing_good _ [] w1 (.inl ⟨rfl, rfl⟩) (by simp)).mono ?_
  rintro _ w2 ⟨g, rfl, hM2, hB2⟩
  have HM2 := hide hM2
  have HB2 := hide (HB1.out.trans (hB2.mono HB1.out.size))
  have hz1 := HB1.out.size
  have hz2 := hB2.size
  clear hM2 hB2
  have hN := fun W => sNew_any moW mode size W
  have hN2 := fun W => sNew_any moR 3 other W
  obtain ⟨⟨qx, qe⟩, hq⟩ : ∃ q, q = SS.new moW mode size := ⟨_, rfl⟩
  obtain ⟨⟨px, pe⟩, hp9⟩ : ∃ q, q = SS.new moR 3 other := ⟨_, rfl⟩
  rw [← hq] at hN
  rw [← hp9] at hN2
  unfold mv at hN hN2
  simp only at hN hN2
  have HN := hide hN
  have HN2 := hide hN2
  clear hN hN2
  go_wp2_with fail
  refine (HN.out _).mono ?_
  rintro _ w3 ⟨rfl, hB3⟩
  have HB3 := hide hB3
  clear hB3
  go_wp2_with fail
  refine (HN2.out _).mono ?_
  rintro _ w4 ⟨rfl, hB4⟩
  have HB4 := hide hB4
  clear hB4
  by_cases hok : qe = 0 ∧ pe = 0
  case neg =>
    have HBf : Hid (Below w.heap.size w w4) := hide (((HB2.out.trans (HB3.out.mono HB2.out.size)).trans ((recv_below w3 _).mono (by have := HB2.out.size; have := HB3.out.size; omega))).trans (HB4.out.mono (by have := HB2.out.size; have := HB3.out.size; have := (recv_below w3 (Obj.cells #[.bool qx.rd, .bool qx.wt, .int .i64 qx.mode, .int .i64 qx.size, .slice none 0 0, .slice none 0 0, .slice none 0 0, .int .i64 qx.dir, .bool qx.fin, .bool qx.bad, .bool qx.closed] 30)).size; omega)))
    by_cases h1 : qe = 0
    case' pos =>
      have hb1 : (pe != 0) = true := by have : ¬ pe = 0 := fun e => hok ⟨h1, e⟩; simp [this]
      subst h1
    case' neg =>
      have hb1 : (qe != 0) = true := by simp [h1]
      clear h1
    all_goals
      clear hok hq hp9
      go_wp2_with (first | (go_at_call 7; refine (num15 _ _).mono ?_; rintro _ _ ⟨rfl, rfl⟩) | fail)
      go_ret
      exact ⟨rfl, HBf.out.trans ((recv_below w4 _).mono HBf.out.size)⟩
  obtain ⟨rfl, rfl⟩ := hok
  obtain ⟨hm, rfl⟩ : ((1 ≤ mode ∧ mode ≤ 3) ∧ (1 ≤ size ∧ size ≤ 65536)) ∧ qx = xW mode size := by
    rw [new_W] at hq
    by_cases h1 : 1 ≤ mode ∧ mode ≤ 3
    · by_cases h2 : 1 ≤ size ∧ size ≤ 65536
      · rw [if_pos h1, if_pos h2] at hq; exact ⟨⟨h1, h2⟩, (Prod.mk.injEq _ _ _ _ ▸ hq).1⟩
      · rw [if_pos h1, if_neg h2] at hq; simp at hq
    · rw [if_neg h1] at hq; simp at hq
  obtain ⟨hm2, rfl⟩ : (1 ≤ other ∧ other ≤ 65536) ∧ px = xR 3 other := by
    rw [new_R] at hp9
    by_cases h2 : 1 ≤ other ∧ other ≤ 65536
    · rw [if_pos (by decide), if_pos h2] at hp9; exact ⟨h2, (Prod.mk.injEq _ _ _ _ ▸ hp9).1⟩
    · rw [if_pos (by decide), if_neg h2] at hp9; simp at hp9
  have hzX : (w3.alloc (Obj.cells #[.bool (xW mode size).rd, .bool (xW mode size).wt, .int .i64 (xW mode size).mode, .int .i64 (xW mode size).size, .slice none 0 0, .slice none 0 0, .slice none 0 0, .int .i64 (xW mode size).dir, .bool (xW mode size).fin, .bool (xW mode size).bad, .bool (xW mode size).closed] 30)).heap.size = w3.heap.size + 1 := Array.size_push ..
  have HS4 := hide ((StAt.new w3 (xW mode size) (.slice none 0 0) (.slice none 0 0) (.slice none 0 0)).below HB4.out)
  have HB34 : Hid (Below w2.heap.size w2 w4) := hide ((HB3.out.trans ((recv_below w3 (Obj.cells #[.bool (xW mode size).rd, .bool (xW mode size).wt, .int .i64 (xW mode size).mode, .int .i64 (xW mode size).size, .slice none 0 0, .slice none 0 0, .slice none 0 0, .int .i64 (xW mode size).dir, .bool (xW mode size).fin, .bool (xW mode size).bad, .bool (xW mode size).closed] 30)).mono HB3.out.size)).trans (HB4.out.mono (by have := HB3.out.size; omega)))
  have HB5 := hide (recv_below w4 (Obj.cells #[.bool (xR 3 other).rd, .bool (xR 3 other).wt, .int .i64 (xR 3 other).mode, .int .i64 (xR 3 other).size, .slice none 0 0, .slice none 0 0, .slice none 0 0, .int .i64 (xR 3 other).dir, .bool (xR 3 other).fin, .bool (xR 3 other).bad, .bool (xR 3 other).closed] 30))
  have HT5 := hide (StAt.new w4 (xR 3 other) (.slice none 0 0) (.slice none 0 0) (.slice none 0 0))
  have HSb := hide (HS4.out.below HB5.out)
  have HM5 := hide ((HM2.out.trim.below HB34.out).below HB5.out)
  have HBf : Hid (Below w.heap.size w (w4.alloc (Obj.cells #[.bool (xR 3 other).rd, .bool (xR 3 other).wt, .int .i64 (xR 3 other).mode, .int .i64 (xR 3 other).size, .slice none 0 0, .slice none 0 0, .slice none 0 0, .int .i64 (xR 3 other).dir, .bool (xR 3 other).fin, .bool (xR 3 other).bad, .bool (xR 3 other).closed] 30))) := hide ((HB2.out.trans (HB34.out.mono HB2.out.size)).trans (HB5.out.mono (HB2.out.trans (HB34.out.mono HB2.out.size)).size))
  have hsz : w1.heap.size ≤ w2.heap.size ∧ w2.heap.size ≤ w3.heap.size ∧ w3.heap.size < w4.heap.size ∧ (w4.alloc (Obj.cells #[.bool (xR 3 other).rd, .bool (xR 3 other).wt, .int .i64 (xR 3 other).mode, .int .i64 (xR 3 other).size, .slice none 0 0, .slice none 0 0, .slice none 0 0, .int .i64 (xR 3 other).dir, .bool (xR 3 other).fin, .bool (xR 3 other).bad, .bool (xR 3 other).closed] 30)).heap.size = w4.heap.size + 1 := ⟨hz2, HB3.out.size, by have := HB4.out.size; omega, Array.size_push ..⟩
  go_upto_region 8 with (first | (go_at_call 7; refine (num15 _ _).mono ?_; rintro _ _ ⟨rfl, rfl⟩) | fail)
  clear HN HN2 HB3 HB4 HS4 HB34 HB5 HM2 hq hp9 hzX
  generalize w4.alloc (Obj.cells #[.bool (xR 3 other).rd, .bool (xR 3 other).wt, .int .i64 (xR 3 other).mode, .int .i64 (xR 3 other).size, .slice none 0 0, .slice none 0 0, .slice none 0 0, .int .i64 (xR 3 other).dir, .bool (xR 3 other).fin, .bool (xR 3 other).bad, .bool (xR 3 other).closed] 30) = w5 at *
  obtain ⟨gs, hgs⟩ : ∃ gs, gs = w3.heap.size := ⟨_, rfl⟩
  obtain ⟨gt, hgt⟩ : ∃ gt, gt = w4.heap.size := ⟨_, rfl⟩
  rw [← hgs] at HSb
  rw [← hgt] at HT5
  rw [← hgs, ← hgt]
  have hno : ∀ k, (Value.slice none 0 0).ownBlock = some k → False := fun k e => by simp [Value.ownBlock] at e
  have HLV : Hid (LV (fun w O S => MemAt w O g S) w5 w.heap.size gs (fun k => w1.heap.size ≤ k ∧ k < w2.heap.size) (xW mode size) ⟨[], 1048576, 0⟩ (.slice none 0 0) (.slice none 0 0) (.slice none 0 0)) := hide
    ⟨HSb.out, SIn.nils rfl rfl rfl, HM5.out, fun j e => by have := e.2; omega, fun j e => by have := e.1; omega, fun e => by have := e.2; omega, by omega⟩
  have HKp : Hid (Kp w w.heap.size gt (xR 3 other) w5 (fun k => k = gt) (.slice none 0 0, []) ∧ (∀ k, Us gs (fun k => w1.heap.size ≤ k ∧ k < w2.heap.size) (.slice none 0 0) (.slice none 0 0) (.slice none 0 0) k → ¬ k = gt) ∧ ∀ k, k = gt → k < w5.heap.size) := hide
    ⟨⟨⟨⟨[], World.ownsRow_nil _ _ _ _, rfl, fun j hj => by simp at hj⟩, fun k e => (hno k e).elim⟩, HT5.out, fun k e => (hno k e).elim, rfl⟩, fun k e e2 => by
      rcases e with e | e | e | e | e
      · omega
      · have := e.2; omega
      · exact hno k e
      · exact hno k e
      · exact hno k e, fun k e => by omega⟩
  have HTh : Hid (Thr (xW mode size) ⟨[], 1048576, 0⟩) := hide ⟨rfl, rfl, hm.1.1, hm.1.2, hm.2.1, hm.2.2, by show (0 : Int) < size; omega, fun _ => rfl, rfl, rfl, rfl, rfl, rfl, .inr ⟨rfl, rfl⟩, rfl, rfl⟩
  have HTT : Hid (Turned (fun k => w.heap.size ≤ k) w w5) := hide (Turned.of_below HBf.out)
  have HMo := hide hm2
  have HGt : Hid (w.heap.size ≤ gt) := hide (by omega)
  clear HSb HT5 HM5 HBf hsz hgs hgt hno hm hm2 HB1 HB2 hz1 hz2
  go_wp2_with fail
  go_loopw [15, 16] (fun s15 s16 wr => ∃ (i : Nat) (K : List (List UInt8)) (x : SS) (S : MS) (o' i' b' : Value) (O P : Nat → Prop), i ≤ ls.length ∧ i ≤ 60 ∧ K.length ≤ i ∧ s16 = .int .i64 i ∧ Hid (CleanL K ∧ S.l ++ x.out = flatL K) ∧ Hid (Thr x S) ∧ Hid (LV (fun w O S => MemAt w O g S) wr w.heap.size gs O x S o' i' b') ∧ Hid (Kp w w.heap.size gt (xR 3 other) wr P (s15, K) ∧ (∀ k, Us gs O o' i' b' k → ¬ P k) ∧ ∀ k, P k → k < wr.heap.size) ∧ Hid (Turned (fun k => w.heap.size ≤ k) w wr)) (fun _ s16 _ => 60 - (intOf s16).toNat)
  case atStart => exact ⟨0, [], _, _, _, _, _, _, _, Nat.zero_le _, by omega, Nat.le_refl _, rfl, hide ⟨fun _ h => by simp at h, rfl⟩, HTh, HLV, HKp, HTT⟩
  case round =>
    clear HLV HKp HTh HTT
    obtain ⟨i, K, x, S, o', i', b', O, P, hi1, hi2, hKi, rfl, HKl, HTh, HLV, HKp, HTT⟩ := hrel
    obtain ⟨y1, y4, rfl, -⟩ := HLV.out.ls.so
    obtain ⟨y2, y5, rfl, -⟩ := HLV.out.ls.si
    obtain ⟨y3, y6, rfl, -⟩ := HLV.out.ls.sb
    obtain ⟨wq, hwq⟩ : ∃ W, W = wr := ⟨_, rfl⟩
    subst hwq
    have hSZ := HTT.out.size
    by_cases hlt : i < ls.length ∧ i < 60
    case pos =>
      obtain ⟨tb, tq, va, vc, rfl, hcell, hby⟩ := HX.out.at i hlt.1
      have htl := HXl.out i hlt.1
      generalize ls[i]'hlt.1 = t at *
      have hb1 : (i : Int) < (ls.length : Int) := by omega
      have hb2 : (i : Int) < 60 := by omega
      have hb3 : (0 : Int) ≤ (i : Int) := by omega
      have HTB := hide hcell
      have htbl := World.block_lt_of_cell? w _ hcell
      have HBy := hide hby
      have d1 : wq.cell? ⟨tb, tq + i, none⟩ = some (.slice va t.length vc) := HTT.out.cell hcell (fun e => by have e' : w.heap.size ≤ tb := e; have h8 : tb < w.heap.size := htbl; omega)
      clear hcell hby
      go_wp2_with fail
      go_loopw [17, 18] (fun s17 s18 w7 => ∃ (c : Bool) (k : Nat), s17 = .bool c ∧ s18 = .int .i64 k ∧ k ≤ t.length ∧ (c = true → t.length < 200 ∧ ∀ j, j < k → t.getD j 0 ≠ 10) ∧ wq = w7) (fun _ s18 _ => t.length - (intOf s18).toNat)
      case atStart => exact ⟨_, 0, rfl, rfl, Nat.zero_le _, fun e => ⟨by have := of_decide_eq_true e; omega, fun j hj => by omega⟩, rfl⟩
      case round =>
        obtain ⟨c, k, rfl, rfl, hk, hc, hw⟩ := hrel
        subst hw
        have HC := hide hc
        clear hc
        by_cases hk2 : k < t.length
        · have e1 : wrap64 ((k : Int) + 1) = (k : Int) + 1 := by unfold wrap64; omega
          have e4 : (k : Int) < (t.length : Int) := by omega
          cases c
          case false =>
            go_wp2_with fail
            try simp only [e1]
            go_roundw
            case rel => exact ⟨false, k + 1, rfl, by go_num, by omega, fun e => (by cases e), by simp⟩
            case measure =>
              show t.length - ((k : Int) + 1).toNat < t.length - (k : Int).toNat
              have h7 : ((k : Int) + 1).toNat = k + 1 := by omega
              rw [h7, Int.toNat_natCast]
              omega
          case true =>
            obtain ⟨-, qb, qo, rfl, hqb, hcl⟩ := bys_block HBy.out (by omega)
            have d2 := HTT.out.cell (hcl k hk2) (fun e => by have e' : w.heap.size ≤ qb := e; omega)
            have HD : Hid (((t.getD k 0).toNat : Int) != 10 → t.getD k 0 ≠ 10) := hide (fun e e2 => by rw [e2] at e; exact absurd e (by decide))
            generalize hch : t.getD k 0 = ch at *
            have HCh := hide hch
            clear hch hcl hqb
            go_wp2_with fail
            try simp only [e1]
            go_roundw
            case rel => exact ⟨_, k + 1, rfl, by go_num, by omega, fun e => ⟨(HC.out rfl).1, fun j hj => by
              by_cases hjk : j = k
              · rw [hjk, HCh.out]; exact HD.out e
              · exact (HC.out rfl).2 j (by omega)⟩, by simp⟩
            case measure =>
              show t.length - ((k : Int) + 1).toNat < t.length - (k : Int).toNat
              have h7 : ((k : Int) + 1).toNat = k + 1 := by omega
              rw [h7, Int.toNat_natCast]
              omega
        · obtain rfl : k = t.length := by omega
          have e1 : wrap64 ((i : Int) + 1) = (i : Int) + 1 := by unfold wrap64; omega
          cases c
          case false =>
            go_wp2_with fail
            go_roundw
            case rel => exact ⟨i + 1, K, x, S, _, _, _, O, P, by omega, by omega, by omega, by go_num, HKl, HTh, HLV, HKp, HTT⟩
            case measure => simp [intOf]; omega
          case true =>
            have hcl := HC.out rfl
            have HCln : Hid (t.length < 200 ∧ (10 : UInt8) ∉ t) := hide ⟨hcl.1, fun hm => by
              obtain ⟨j, hj, e⟩ := List.getElem_of_mem hm
              exact hcl.2 j hj (by rw [List.getD_eq_getElem?_getD, List.getElem?_eq_getElem hj]; exact e)⟩
            obtain ⟨ka, kc, w2, P2, r1, r2, r3, r4, r5, r6⟩ := HKp.out.1.more (fun s => gmem_o g s) HLV.out HKp.out.2.1 HKp.out.2.2 hSZ t va vc HBy.out (by omega)
            have HAp := hide r1
            have HL2 := hide r2
            have HK2 := hide (And.intro r3 (And.intro r4 r5))
            have HT2 := hide (HTT.out.trans r6 (fun _ _ e => e))
            clear r1 r2 r3 r4 r5 r6 hcl HC hk hk2
            go_upto_region 19 with (first | (at_builtin; refine Lib.wpList_append_run _ rfl _ _ _ _ rfl _ _ rfl rfl _ _ HAp.out ?_) | fail)
            clear d1 HAp HLV HKp HTT
            have d1 : w2.cell? ⟨tb, tq + i, none⟩ = some (.slice va t.length vc) := HT2.out.cell HTB.out (fun e => by have e' : w.heap.size ≤ tb := e; have h8 : tb < w.heap.size := htbl; omega)
            have hz2 := HT2.out.size
            have hby2 : Bys w2 (.slice va t.length vc) t := HBy.out.turned HT2.out (fun k _ hk e => by omega)
            have hlen : S.l.length + x.out.length ≤ 12000 := by
              have := congrArg List.length HKl.out.2
              rw [List.length_append] at this
              have := flatL_big K HKl.out.1 i hKi hi2
              omega
            obtain ⟨x', S', q1, q2, q3⟩ := thr_aline HTh.out t (by have := HCln.out.1; omega)
            have hBZ : Below w2.heap.size w2 (w2.alloc (Obj.cells #[.bool false, .bool false, .int .i64 0, .int .i64 0, .slice none 0 0, .slice none 0 0, .slice none 0 0, .int .i64 0, .bool false, .bool false, .bool false] 30)).drew := (recv_below w2 (Obj.cells #[.bool false, .bool false, .int .i64 0, .int .i64 0, .slice none 0 0, .slice none 0 0, .slice none 0 0, .int .i64 0, .bool false, .bool false, .bool false] 30)).trans (Below.refl _ _).drew
            have hth := HTh.out
            have hlo : x.out.length ≤ 140737488351232 ∧ x.inn.length ≤ 140737488351232 ∧ x.back.length ≤ 140737488351232 := ⟨by omega, by rw [hth.inn]; simp, by rw [hth.back]; simp⟩
            have hp := lputline_any (gro_raw g) (fun s => gmem_o g s) (bears_true msR) t va vc (HL2.out.ls.below (Below.refl _ w2).drew) (((fun s => gmem_o g s) S).keep HL2.out.raw (fun j _ hj => (Below.refl w2.heap.size w2).drew.block j hj) (Nat.le_refl _)) HL2.out.ol (fun k e => e.2.1) trivial (fun _ _ => putOk_true _ _ _ _ _ _) hlo.1 hlo.2.1 hlo.2.2 (hby2.below (Below.refl _ w2).drew)
            have hpz := lputline_any (gro_raw g) (fun s => gmem_o g s) (bears_true msR) t va vc (HL2.out.ls.below hBZ) (((fun s => gmem_o g s) S).keep HL2.out.raw (fun j _ hj => hBZ.block j hj) hBZ.size) (fun j e => Nat.lt_of_lt_of_le (HL2.out.ol j e) hBZ.size) (fun k e => e.2.1) trivial (fun _ _ => putOk_true _ _ _ _ _ _) hlo.1 hlo.2.1 hlo.2.2 (hby2.below hBZ)
            obtain ⟨N, hN⟩ : ∃ N, N = t.length + 1 := ⟨_, rfl⟩
            rw [← hN] at q1
            have HNe := hide hN
            clear hN
            rw [q1] at hp hpz
            simp only at hp hpz
            have HP := hide hp
            have HPz := hide hpz
            have hzZ : (w2.alloc (Obj.cells #[.bool false, .bool false, .int .i64 0, .int .i64 0, .slice none 0 0, .slice none 0 0, .slice none 0 0, .int .i64 0, .bool false, .bool false, .bool false] 30)).heap.size = w2.heap.size + 1 := Array.size_push ..
            have HSn : Hid (∀ W W', Below w2.heap.size w2 W → Turned O W W' → (fun W => StAt W gs x (.slice y1 x.out.length y4) (.slice y2 x.inn.length y5) (.slice y3 x.back.length y6) ∧ W.cell? ⟨tb, tq + i, none⟩ = some (.slice va t.length vc)) W') := hide (fun W W' hW hT2 => ⟨(hT2.block gs (by have := hW.size; have := HL2.out.st.lt; omega) HL2.out.og).trans (HL2.out.st.below hW), hT2.cell ((hW.cell (World.block_lt_of_cell? w2 _ d1)).trans d1) (fun e => by have h7 : w.heap.size ≤ tb := HL2.out.ob tb e; have h8 : tb < w.heap.size := htbl; omega)⟩)
            have HSt : Hid (∀ W W', (fun W => StAt W gs x (.slice y1 x.out.length y4) (.slice y2 x.inn.length y5) (.slice y3 x.back.length y6) ∧ W.cell? ⟨tb, tq + i, none⟩ = some (.slice va t.length vc)) W → Turned (fun k => k = w2.heap.size) W W' → (fun W => StAt W gs x (.slice y1 x.out.length y4) (.slice y2 x.inn.length y5) (.slice y3 x.back.length y6) ∧ W.cell? ⟨tb, tq + i, none⟩ = some (.slice va t.length vc)) W') := hide (fun W W' h hT2 => ⟨(hT2.block gs h.1.lt (by have := HL2.out.st.lt; omega)).trans h.1, hT2.cell h.2 (fun e => by have h1 : tb = w2.heap.size := e; have h8 : tb < w.heap.size := htbl; omega)⟩)
            have HSb : Hid (∀ W W', (fun W => StAt W gs x (.slice y1 x.out.length y4) (.slice y2 x.inn.length y5) (.slice y3 x.back.length y6) ∧ W.cell? ⟨tb, tq + i, none⟩ = some (.slice va t.length vc)) W → Below W.heap.size W W' → (fun W => StAt W gs x (.slice y1 x.out.length y4) (.slice y2 x.inn.length y5) (.slice y3 x.back.length y6) ∧ W.cell? ⟨tb, tq + i, none⟩ = some (.slice va t.length vc)) W') := hide (fun W W' h hB => ⟨h.1.below hB, (hB.cell (World.block_lt_of_cell? W _ h.2)).trans h.2⟩)
            have HZ2 : Hid ((w2.alloc (Obj.cells #[.bool false, .bool false, .int .i64 0, .int .i64 0, .slice none 0 0, .slice none 0 0, .slice none 0 0, .int .i64 0, .bool false, .bool false, .bool false] 30)).drew.heap[w2.heap.size]? = some (Obj.cells #[.bool false, .bool false, .int .i64 0, .int .i64 0, .slice none 0 0, .slice none 0 0, .slice none 0 0, .int .i64 0, .bool false, .bool false, .bool false] 30)) := hide (heap_alloc_new w2 (Obj.cells #[.bool false, .bool false, .int .i64 0, .int .i64 0, .slice none 0 0, .slice none 0 0, .slice none 0 0, .int .i64 0, .bool false, .bool false, .bool false] 30))
            have HTn := hide q2
            have HFl : Hid (CleanL (K ++ [t]) ∧ S'.l ++ x'.out = flatL (K ++ [t])) := hide ⟨fun u hu => by
              rcases List.mem_append.1 hu with h | h
              · exact HKl.out.1 u h
              · obtain rfl : u = t := by simpa using h
                exact HCln.out, by rw [q3, HKl.out.2, flatL_more]⟩
            clear hp hpz q1 q2 q3 hBZ hth hlo hby2 hlen
            go_cut [19, 20, 21] (fun p19 n20 e21 wx => ∃ (gu : Nat) (a1 a2 a3 : Option Addr) (a4 a5 a6 : Nat), p19 = .pointer (some ⟨gu, 0, none⟩) ∧ n20 = .int .i64 N ∧ e21 = .int .i64 0 ∧ Hid (StAt wx gu x' (.slice a1 x'.out.length a4) (.slice a2 x'.inn.length a5) (.slice a3 x'.back.length a6)) ∧ Hid (SOut (fun w O S => MemAt w O g S) w2.drew O x' S' (.slice a1 x'.out.length a4) (.slice a2 x'.inn.length a5) (.slice a3 x'.back.length a6) wx))
            case first =>
              refine wp_region_noPanic ?_
              refine wp_region_held_drew (S := fun W => StAt W gs x (.slice y1 x.out.length y4) (.slice y2 x.inn.length y5) (.slice y3 x.back.length y6) ∧ W.cell? ⟨tb, tq + i, none⟩ = some (.slice va t.length vc)) (by kernel_rfl) (HSn.out _ _ (Below.refl _ _).drew (Turned.refl _ _)) (fun hHeld => ?_)
              refine wpAnyH_take (i := 0) (oi := ?_) (v := ?_) ?_ (by kernel_rfl) (by kernel_rfl) (by kernel_rfl) (fun _ _ _ h => (h : False).elim) (Or.inl ⟨?_, ?_⟩) hHeld ?_
              rotate_left 2
              · (simp only [List.getElem?_toArray, List.getElem?_cons_zero]; rfl)
              · rfl
              · (intro W hSw; obtain ⟨hq1, hq2⟩ := hSw; obtain ⟨m0, m1, m2, m3, m4, m5, m6, m7, m8, m9, m10⟩ := hq1.cs; go_simp <;> with_reducible rfl)
              try simp only [Act.put, List.setIfInBounds_toArray, List.set_cons_zero, List.set_cons_succ]
              refine wpAnyH_take (i := 1) (oi := ?_) (v := ?_) ?_ (by kernel_rfl) (by kernel_rfl) (by kernel_rfl) (fun _ _ _ h => (h : False).elim) (Or.inl ⟨?_, ?_⟩) hHeld ?_
              rotate_left 2
              · (simp only [List.getElem?_toArray, List.getElem?_cons_zero, List.getElem?_cons_succ]; rfl)
              · rfl
              · (intro W hSw; obtain ⟨hq1, hq2⟩ := hSw; obtain ⟨m0, m1, m2, m3, m4, m5, m6, m7, m8, m9, m10⟩ := hq1.cs; go_simp <;> with_reducible rfl)
              try simp only [Act.put, List.setIfInBounds_toArray, List.set_cons_zero, List.set_cons_succ]
              refine wpAnyH_take (i := 2) (oi := ?_) (v := ?_) ?_ (by kernel_rfl) (by kernel_rfl) (by kernel_rfl) (fun _ _ _ h => (h : False).elim) (Or.inl ⟨?_, ?_⟩) hHeld ?_
              rotate_left 2
              · (simp only [List.getElem?_toArray, List.getElem?_cons_zero, List.getElem?_cons_succ]; rfl)
              · rfl
              · (intro W hSw; obtain ⟨hq1, hq2⟩ := hSw; obtain ⟨m0, m1, m2, m3, m4, m5, m6, m7, m8, m9, m10⟩ := hq1.cs; go_simp <;> with_reducible rfl)
              try simp only [Act.put, List.setIfInBounds_toArray, List.set_cons_zero, List.set_cons_succ]
              refine wpAnyH_take (i := 3) (oi := ?_) (v := ?_) ?_ (by kernel_rfl) (by kernel_rfl) (by kernel_rfl) (fun _ _ _ h => (h : False).elim) (Or.inl ⟨?_, ?_⟩) hHeld ?_
              rotate_left 2
              · (simp only [List.getElem?_toArray, List.getElem?_cons_zero, List.getElem?_cons_succ]; rfl)
              · rfl
              · (intro W hSw; obtain ⟨hq1, hq2⟩ := hSw; obtain ⟨m0, m1, m2, m3, m4, m5, m6, m7, m8, m9, m10⟩ := hq1.cs; go_simp <;> with_reducible rfl)
              try simp only [Act.put, List.setIfInBounds_toArray, List.set_cons_zero, List.set_cons_succ]
              refine wpAnyH_take (i := 4) (oi := ?_) (v := ?_) ?_ (by kernel_rfl) (by kernel_rfl) (by kernel_rfl) (fun _ _ _ h => (h : False).elim) (Or.inl ⟨?_, ?_⟩) hHeld ?_
              rotate_left 2
              · (simp only [List.getElem?_toArray, List.getElem?_cons_zero, List.getElem?_cons_succ]; rfl)
              · rfl
              · (intro W hSw; obtain ⟨hq1, hq2⟩ := hSw; obtain ⟨m0, m1, m2, m3, m4, m5, m6, m7, m8, m9, m10⟩ := hq1.cs; go_simp <;> with_reducible rfl)
              try simp only [Act.put, List.setIfInBounds_toArray, List.set_cons_zero, List.set_cons_succ]
              refine wpAnyH_take (i := 5) (oi := ?_) (v := ?_) ?_ (by kernel_rfl) (by kernel_rfl) (by kernel_rfl) (fun _ _ _ h => (h : False).elim) (Or.inl ⟨?_, ?_⟩) hHeld ?_
              rotate_left 2
              · (simp only [List.getElem?_toArray, List.getElem?_cons_zero, List.getElem?_cons_succ]; rfl)
              · rfl
              · (intro W hSw; obtain ⟨hq1, hq2⟩ := hSw; obtain ⟨m0, m1, m2, m3, m4, m5, m6, m7, m8, m9, m10⟩ := hq1.cs; go_simp <;> with_reducible rfl)
              try simp only [Act.put, List.setIfInBounds_toArray, List.set_cons_zero, List.set_cons_succ]
              refine wpAnyH_take (i := 6) (oi := ?_) (v := ?_) ?_ (by kernel_rfl) (by kernel_rfl) (by kernel_rfl) (fun _ _ _ h => (h : False).elim) (Or.inl ⟨?_, ?_⟩) hHeld ?_
              rotate_left 2
              · (simp only [List.getElem?_toArray, List.getElem?_cons_zero, List.getElem?_cons_succ]; rfl)
              · rfl
              · (intro W hSw; obtain ⟨hq1, hq2⟩ := hSw; obtain ⟨m0, m1, m2, m3, m4, m5, m6, m7, m8, m9, m10⟩ := hq1.cs; go_simp <;> with_reducible rfl)
              try simp only [Act.put, List.setIfInBounds_toArray, List.set_cons_zero, List.set_cons_succ]
              refine wpAnyH_ready (rs := [7, 12]) (by kernel_rfl) (by simp) ?_
              refine AllReadyH.cons (o := ?_) ?_ (fun K' hK => ?_) (AllReadyH.cons (o := ?_) ?_ (fun K' hK => ?_) AllReadyH.nil)
              rotate_left 1
              · (simp only [List.getElem?_toArray, List.getElem?_cons_zero, List.getElem?_cons_succ]; rfl)
              · go_simp
                go_at_call 8
                refine HP.out.mono ?_
                rintro _ w5' ⟨o', i', b'', rfl, hS⟩
                obtain ⟨a1, a4, rfl, -⟩ := hS.choose_spec.1.so
                obtain ⟨a2, a5, rfl, -⟩ := hS.choose_spec.1.si
                obtain ⟨a3, a6, rfl, -⟩ := hS.choose_spec.1.sb
                have hT5 : Turned O w2.drew w5' := (by obtain ⟨_, _, _, _, _, t⟩ := hS; exact t)
                have HS5 := hide hS
                clear hS
                have h9 := HSn.out _ w5' ((Below.refl _ _).drew) hT5
                refine hK.out _ _ (h9) (fun hHeld2 => ?_)
                clear hK K' hHeld
                have hHeld := hHeld2
                clear hHeld2
                try simp only [Act.put, List.setIfInBounds_toArray, List.set_cons_zero, List.set_cons_succ]
                refine wpAnyH_take (i := 8) (oi := ?_) (v := ?_) ?_ (by kernel_rfl) (by kernel_rfl) (by kernel_rfl) (fun _ _ _ h => (h : False).elim) (Or.inl ⟨?_, ?_⟩) hHeld ?_
                rotate_left 2
                · (simp only [List.getElem?_toArray, List.getElem?_cons_zero, List.getElem?_cons_succ]; rfl)
                · rfl
                · (intro W hSw; obtain ⟨hq1, hq2⟩ := hSw; obtain ⟨m0, m1, m2, m3, m4, m5, m6, m7, m8, m9, m10⟩ := hq1.cs; go_simp <;> with_reducible rfl)
                try simp only [Act.put, List.setIfInBounds_toArray, List.set_cons_zero, List.set_cons_succ]
                refine wpAnyH_take (i := 9) (oi := ?_) (v := ?_) ?_ (by kernel_rfl) (by kernel_rfl) (by kernel_rfl) (fun _ _ _ h => (h : False).elim) (Or.inl ⟨?_, ?_⟩) hHeld ?_
                rotate_left 2
                · (simp only [List.getElem?_toArray, List.getElem?_cons_zero, List.getElem?_cons_succ]; rfl)
                · rfl
                · (intro W hSw; obtain ⟨hq1, hq2⟩ := hSw; obtain ⟨m0, m1, m2, m3, m4, m5, m6, m7, m8, m9, m10⟩ := hq1.cs; go_simp <;> with_reducible rfl)
                try simp only [Act.put, List.setIfInBounds_toArray, List.set_cons_zero, List.set_cons_succ]
                refine wpAnyH_take (i := 10) (oi := ?_) (v := ?_) ?_ (by kernel_rfl) (by kernel_rfl) (by kernel_rfl) (fun _ _ _ h => (h : False).elim) (Or.inl ⟨?_, ?_⟩) hHeld ?_
                rotate_left 2
                · (simp only [List.getElem?_toArray, List.getElem?_cons_zero, List.getElem?_cons_succ]; rfl)
                · rfl
                · (intro W hSw; obtain ⟨hq1, hq2⟩ := hSw; obtain ⟨m0, m1, m2, m3, m4, m5, m6, m7, m8, m9, m10⟩ := hq1.cs; go_simp <;> with_reducible rfl)
                try simp only [Act.put, List.setIfInBounds_toArray, List.set_cons_zero, List.set_cons_succ]
                refine wpAnyH_take (i := 11) (oi := ?_) (v := ?_) ?_ (by kernel_rfl) (by kernel_rfl) (by kernel_rfl) (fun _ _ _ h => (h : False).elim) (Or.inl ⟨?_, ?_⟩) hHeld ?_
                rotate_left 2
                · (simp only [List.getElem?_toArray, List.getElem?_cons_zero, List.getElem?_cons_succ]; rfl)
                · rfl
                · (intro W hSw; obtain ⟨hq1, hq2⟩ := hSw; obtain ⟨m0, m1, m2, m3, m4, m5, m6, m7, m8, m9, m10⟩ := hq1.cs; go_simp <;> with_reducible rfl)
                try simp only [Act.put, List.setIfInBounds_toArray, List.set_cons_zero, List.set_cons_succ]
                refine wpAnyH_ready (rs := [12]) (by kernel_rfl) (by simp) ?_
                refine AllReadyH.cons (o := ?_) ?_ (fun K' hK => ?_) AllReadyH.nil
                rotate_left 1
                · (simp only [List.getElem?_toArray, List.getElem?_cons_zero, List.getElem?_cons_succ]; rfl)
                go_simp
                refine hK.out _ _ (HSb.out _ _ h9 (recv_below w5' (Obj.cells #[.bool false, .bool false, .int .i64 0, .int .i64 0, .slice none 0 0, .slice none 0 0, .slice none 0 0, .int .i64 0, .bool false, .bool false, .bool false] 30))) (fun hHeld2 => ?_)
                clear hK K' hHeld
                have hHeld := hHeld2
                clear hHeld2
                try simp only [Act.put, List.setIfInBounds_toArray, List.set_cons_zero, List.set_cons_succ]
                refine wpAnyH_ready (rs := [13]) (by kernel_rfl) (by simp) ?_
                refine AllReadyH.cons (o := ?_) ?_ (fun K' hK => ?_) AllReadyH.nil
                rotate_left 1
                · (simp only [List.getElem?_toArray, List.getElem?_cons_zero, List.getElem?_cons_succ]; rfl)
                go_simp
                refine hK.out _ _ (HSb.out _ _ h9 (recv_below w5' (Obj.cells #[.bool x'.rd, .bool x'.wt, .int .i64 x'.mode, .int .i64 x'.size, .slice a1 x'.out.length a4, .slice a2 x'.inn.length a5, .slice a3 x'.back.length a6, .int .i64 x'.dir, .bool x'.fin, .bool x'.bad, .bool x'.closed] 30))) (fun hHeld2 => ?_)
                clear hK K' hHeld
                have hHeld := hHeld2
                clear hHeld2
                try simp only [Act.put, List.setIfInBounds_toArray, List.set_cons_zero, List.set_cons_succ]
                refine wpAnyH_take (i := 14) (oi := ?_) (v := ?_) ?_ (by kernel_rfl) (by kernel_rfl) (by kernel_rfl) (fun _ _ _ h => (h : False).elim) (Or.inl ⟨?_, ?_⟩) hHeld ?_
                rotate_left 2
                · (simp only [List.getElem?_toArray, List.getElem?_cons_zero, List.getElem?_cons_succ]; rfl)
                · rfl
                · (intro W hSw; obtain ⟨hq1, hq2⟩ := hSw; obtain ⟨m0, m1, m2, m3, m4, m5, m6, m7, m8, m9, m10⟩ := hq1.cs; go_simp <;> with_reducible rfl)
                try simp only [Act.put, List.setIfInBounds_toArray, List.set_cons_zero, List.set_cons_succ]
                refine wpAnyH_take (i := 15) (oi := ?_) (v := ?_) ?_ (by kernel_rfl) (by kernel_rfl) (by kernel_rfl) (fun _ _ _ h => (h : False).elim) (Or.inl ⟨?_, ?_⟩) hHeld ?_
                rotate_left 2
                · (simp only [List.getElem?_toArray, List.getElem?_cons_zero, List.getElem?_cons_succ]; rfl)
                · rfl
                · (intro W hSw; obtain ⟨hq1, hq2⟩ := hSw; obtain ⟨m0, m1, m2, m3, m4, m5, m6, m7, m8, m9, m10⟩ := hq1.cs; go_simp <;> with_reducible rfl)
                try simp only [Act.put, List.setIfInBounds_toArray, List.set_cons_zero, List.set_cons_succ]
                refine wpAnyH_done (by kernel_rfl) ?_ _
                refine NoPanic.normal ?_
                clear hHeld h9 hT5
                go_wp2
                go_meet
                exact ⟨_, _, _, _, _, _, _, rfl, rfl, rfl, hide (StAt.new w5' x' (.slice a1 x'.out.length a4) (.slice a2 x'.inn.length a5) (.slice a3 x'.back.length a6)), hide (SOut.below (fun s => gmem_o g s) HS5.out (recv_below w5' (Obj.cells #[.bool x'.rd, .bool x'.wt, .int .i64 x'.mode, .int .i64 x'.size, .slice a1 x'.out.length a4, .slice a2 x'.inn.length a5, .slice a3 x'.back.length a6, .int .i64 x'.dir, .bool x'.fin, .bool x'.bad, .bool x'.closed] 30)) rfl rfl rfl)⟩
              rotate_left 1
              · (simp only [List.getElem?_toArray, List.getElem?_cons_zero, List.getElem?_cons_succ]; rfl)
              · go_simp
                refine hK.out _ _ (HSn.out _ _ ((Below.refl _ w2).alloc (Nat.le_refl _) (Obj.cells #[.bool false, .bool false, .int .i64 0, .int .i64 0, .slice none 0 0, .slice none 0 0, .slice none 0 0, .int .i64 0, .bool false, .bool false, .bool false] 30)).drew (Turned.refl _ _)) (fun hHeld2 => ?_)
                clear hK K' hHeld
                have hHeld := hHeld2
                clear hHeld2
                try simp only [Act.put, List.setIfInBounds_toArray, List.set_cons_zero, List.set_cons_succ]
                refine wpAnyH_ready (rs := [7]) (by kernel_rfl) (by simp) ?_
                refine AllReadyH.cons (o := ?_) ?_ (fun K' hK => ?_) AllReadyH.nil
                rotate_left 1
                · (simp only [List.getElem?_toArray, List.getElem?_cons_zero, List.getElem?_cons_succ]; rfl)
                go_simp
                go_at_call 8
                refine HPz.out.mono ?_
                rintro _ w5' ⟨o', i', b'', rfl, hS⟩
                obtain ⟨a1, a4, rfl, -⟩ := hS.choose_spec.1.so
                obtain ⟨a2, a5, rfl, -⟩ := hS.choose_spec.1.si
                obtain ⟨a3, a6, rfl, -⟩ := hS.choose_spec.1.sb
                have hT5 : Turned O (w2.alloc (Obj.cells #[.bool false, .bool false, .int .i64 0, .int .i64 0, .slice none 0 0, .slice none 0 0, .slice none 0 0, .int .i64 0, .bool false, .bool false, .bool false] 30)).drew w5' := (by obtain ⟨_, _, _, _, _, t⟩ := hS; exact t)
                have HS5 := hide hS
                clear hS
                have h9 := HSn.out _ w5' (((Below.refl _ w2).alloc (Nat.le_refl _) (Obj.cells #[.bool false, .bool false, .int .i64 0, .int .i64 0, .slice none 0 0, .slice none 0 0, .slice none 0 0, .int .i64 0, .bool false, .bool false, .bool false] 30)).drew) hT5
                refine hK.out _ _ (h9) (fun hHeld2 => ?_)
                clear hK K' hHeld
                have hHeld := hHeld2
                clear hHeld2
                try simp only [Act.put, List.setIfInBounds_toArray, List.set_cons_zero, List.set_cons_succ]
                refine wpAnyH_take (i := 8) (oi := ?_) (v := ?_) ?_ (by kernel_rfl) (by kernel_rfl) (by kernel_rfl) (fun _ _ _ h => (h : False).elim) (Or.inl ⟨?_, ?_⟩) hHeld ?_
                rotate_left 2
                · (simp only [List.getElem?_toArray, List.getElem?_cons_zero, List.getElem?_cons_succ]; rfl)
                · rfl
                · (intro W hSw; obtain ⟨hq1, hq2⟩ := hSw; obtain ⟨m0, m1, m2, m3, m4, m5, m6, m7, m8, m9, m10⟩ := hq1.cs; go_simp <;> with_reducible rfl)
                try simp only [Act.put, List.setIfInBounds_toArray, List.set_cons_zero, List.set_cons_succ]
                refine wpAnyH_take (i := 9) (oi := ?_) (v := ?_) ?_ (by kernel_rfl) (by kernel_rfl) (by kernel_rfl) (fun _ _ _ h => (h : False).elim) (Or.inl ⟨?_, ?_⟩) hHeld ?_
                rotate_left 2
                · (simp only [List.getElem?_toArray, List.getElem?_cons_zero, List.getElem?_cons_succ]; rfl)
                · rfl
                · (intro W hSw; obtain ⟨hq1, hq2⟩ := hSw; obtain ⟨m0, m1, m2, m3, m4, m5, m6, m7, m8, m9, m10⟩ := hq1.cs; go_simp <;> with_reducible rfl)
                try simp only [Act.put, List.setIfInBounds_toArray, List.set_cons_zero, List.set_cons_succ]
                refine wpAnyH_take (i := 10) (oi := ?_) (v := ?_) ?_ (by kernel_rfl) (by kernel_rfl) (by kernel_rfl) (fun _ _ _ h => (h : False).elim) (Or.inl ⟨?_, ?_⟩) hHeld ?_
                rotate_left 2
                · (simp only [List.getElem?_toArray, List.getElem?_cons_zero, List.getElem?_cons_succ]; rfl)
                · rfl
                · (intro W hSw; obtain ⟨hq1, hq2⟩ := hSw; obtain ⟨m0, m1, m2, m3, m4, m5, m6, m7, m8, m9, m10⟩ := hq1.cs; go_simp <;> with_reducible rfl)
                try simp only [Act.put, List.setIfInBounds_toArray, List.set_cons_zero, List.set_cons_succ]
                refine wpAnyH_take (i := 11) (oi := ?_) (v := ?_) ?_ (by kernel_rfl) (by kernel_rfl) (by kernel_rfl) (fun _ _ _ h => (h : False).elim) (Or.inl ⟨?_, ?_⟩) hHeld ?_
                rotate_left 2
                · (simp only [List.getElem?_toArray, List.getElem?_cons_zero, List.getElem?_cons_succ]; rfl)
                · rfl
                · (intro W hSw; obtain ⟨hq1, hq2⟩ := hSw; obtain ⟨m0, m1, m2, m3, m4, m5, m6, m7, m8, m9, m10⟩ := hq1.cs; go_simp <;> with_reducible rfl)
                try simp only [Act.put, List.setIfInBounds_toArray, List.set_cons_zero, List.set_cons_succ]
                have hz9 : w5'.heap[w2.heap.size]? = some (Obj.cells #[.bool false, .bool false, .int .i64 0, .int .i64 0, .slice none 0 0, .slice none 0 0, .slice none 0 0, .int .i64 0, .bool false, .bool false, .bool false] 30) := (hT5.block w2.heap.size (by show _ < (w2.alloc (Obj.cells #[.bool false, .bool false, .int .i64 0, .int .i64 0, .slice none 0 0, .slice none 0 0, .slice none 0 0, .int .i64 0, .bool false, .bool false, .bool false] 30)).heap.size; have := hzZ; omega) (fun e => by have := HL2.out.ol _ e; omega)).trans HZ2.out
                obtain ⟨e1, e2⟩ := st_fill w5' w2.heap.size x' (.slice a1 x'.out.length a4) (.slice a2 x'.inn.length a5) (.slice a3 x'.back.length a6) hz9
                have HS9 := hide (HSt.out _ _ h9 e2)
                have HE1 := hide e1
                have HE2x := hide e2
                have u0' := frozen_of_row w5' w2.heap.size 0 _ _ hz9
                have u1' := frozen_of_row w5' w2.heap.size 1 _ _ hz9
                have u2' := frozen_of_row w5' w2.heap.size 2 _ _ hz9
                have u3' := frozen_of_row w5' w2.heap.size 3 _ _ hz9
                have u4' := frozen_of_row w5' w2.heap.size 4 _ _ hz9
                have u5' := frozen_of_row w5' w2.heap.size 5 _ _ hz9
                have u6' := frozen_of_row w5' w2.heap.size 6 _ _ hz9
                have u7' := frozen_of_row w5' w2.heap.size 7 _ _ hz9
                have u8' := frozen_of_row w5' w2.heap.size 8 _ _ hz9
                have u9' := frozen_of_row w5' w2.heap.size 9 _ _ hz9
                have u10' := frozen_of_row w5' w2.heap.size 10 _ _ hz9
                have z0' := cell_of_row w5' w2.heap.size 0 _ _ _ hz9
                have z1' := cell_of_row w5' w2.heap.size 1 _ _ _ hz9
                have z2' := cell_of_row w5' w2.heap.size 2 _ _ _ hz9
                have z3' := cell_of_row w5' w2.heap.size 3 _ _ _ hz9
                have z4' := cell_of_row w5' w2.heap.size 4 _ _ _ hz9
                have z5' := cell_of_row w5' w2.heap.size 5 _ _ _ hz9
                have z6' := cell_of_row w5' w2.heap.size 6 _ _ _ hz9
                have z7' := cell_of_row w5' w2.heap.size 7 _ _ _ hz9
                have z8' := cell_of_row w5' w2.heap.size 8 _ _ _ hz9
                have z9' := cell_of_row w5' w2.heap.size 9 _ _ _ hz9
                have z10' := cell_of_row w5' w2.heap.size 10 _ _ _ hz9
                simp at z0' z1' z2' z3' z4' z5' z6' z7' z8' z9' z10'
                clear e1 e2 hz9 hT5
                refine wpAnyH_ready (rs := [13]) (by kernel_rfl) (by simp) ?_
                refine AllReadyH.cons (o := ?_) ?_ (fun K' hK => ?_) AllReadyH.nil
                rotate_left 1
                · (simp only [List.getElem?_toArray, List.getElem?_cons_zero, List.getElem?_cons_succ]; rfl)
                go_simp
                refine hK.out _ _ (HS9.out) (fun hHeld2 => ?_)
                clear hK K' hHeld
                have hHeld := hHeld2
                clear hHeld2
                try simp only [Act.put, List.setIfInBounds_toArray, List.set_cons_zero, List.set_cons_succ]
                clear u0' z0' u1' z1' u2' z2' u3' z3' u4' z4' u5' z5' u6' z6' u7' z7' u8' z8' u9' z9' u10' z10'
                refine wpAnyH_take (i := 14) (oi := ?_) (v := ?_) ?_ (by kernel_rfl) (by kernel_rfl) (by kernel_rfl) (fun _ _ _ h => (h : False).elim) (Or.inl ⟨?_, ?_⟩) hHeld ?_
                rotate_left 2
                · (simp only [List.getElem?_toArray, List.getElem?_cons_zero, List.getElem?_cons_succ]; rfl)
                · rfl
                · (intro W hSw; obtain ⟨hq1, hq2⟩ := hSw; obtain ⟨m0, m1, m2, m3, m4, m5, m6, m7, m8, m9, m10⟩ := hq1.cs; go_simp <;> with_reducible rfl)
                try simp only [Act.put, List.setIfInBounds_toArray, List.set_cons_zero, List.set_cons_succ]
                refine wpAnyH_take (i := 15) (oi := ?_) (v := ?_) ?_ (by kernel_rfl) (by kernel_rfl) (by kernel_rfl) (fun _ _ _ h => (h : False).elim) (Or.inl ⟨?_, ?_⟩) hHeld ?_
                rotate_left 2
                · (simp only [List.getElem?_toArray, List.getElem?_cons_zero, List.getElem?_cons_succ]; rfl)
                · rfl
                · (intro W hSw; obtain ⟨hq1, hq2⟩ := hSw; obtain ⟨m0, m1, m2, m3, m4, m5, m6, m7, m8, m9, m10⟩ := hq1.cs; go_simp <;> with_reducible rfl)
                try simp only [Act.put, List.setIfInBounds_toArray, List.set_cons_zero, List.set_cons_succ]
                refine wpAnyH_done (by kernel_rfl) ?_ _
                refine NoPanic.normal ?_
                clear hHeld h9
                go_wp2
                go_meet
                exact ⟨_, _, _, _, _, _, _, rfl, rfl, rfl, HE1, hide (SOut.fin (fun s => gmem_o g s) HS5.out (show Below w2.heap.size w2.drew (w2.alloc (Obj.cells #[.bool false, .bool false, .int .i64 0, .int .i64 0, .slice none 0 0, .slice none 0 0, .slice none 0 0, .int .i64 0, .bool false, .bool false, .bool false] 30)).drew from recv_below w2.drew (Obj.cells #[.bool false, .bool false, .int .i64 0, .int .i64 0, .slice none 0 0, .slice none 0 0, .slice none 0 0, .int .i64 0, .bool false, .bool false, .bool false] 30)) (by show w2.heap.size < (w2.alloc (Obj.cells #[.bool false, .bool false, .int .i64 0, .int .i64 0, .slice none 0 0, .slice none 0 0, .slice none 0 0, .int .i64 0, .bool false, .bool false, .bool false] 30)).heap.size; have := hzZ; omega) (Nat.le_refl _) HL2.out.ol HE2x.out)⟩
            case rest =>
              obtain ⟨gu, a1, a2, a3, a4, a5, a6, rfl, rfl, rfl, HTu, HSo⟩ := hcut
              clear HP HPz HSn HSt HSb HZ2 d1 hzZ
              obtain ⟨hst, ⟨O3, s1, s2, s3, s4⟩, s5⟩ := LV.by15 (fun s => kp_o w w.heap.size gt (xR 3 other) s) (fun s => gmem_o g s) (HL2.out.below (fun s => gmem_o g s) (Below.refl _ w2).drew) (((fun s => kp_o w w.heap.size gt (xR 3 other) s) _).keep HK2.out.1 (fun j _ hj => (Below.refl w2.heap.size w2).drew.block j hj) (Nat.le_refl _)) HK2.out.2.1 HK2.out.2.2 hz2 HSo.out
              have HL3 := hide s1
              have HK3 := hide (And.intro s2 (And.intro s3 s4))
              have HT3 := hide ((HT2.out.trans (Turned.of_below (S := fun k => w.heap.size ≤ k) (Below.refl _ w2).drew) (fun _ _ e => e)).trans s5 (fun _ _ e => e))
              obtain ⟨p0, p1, p2, p3, p4, p5, p6, p7, p8, p9, p10⟩ := hst.cs
              have f0 := hst.soft 0
              have f1 := hst.soft 1
              have f2 := hst.soft 2
              have f3 := hst.soft 3
              have f4 := hst.soft 4
              have f5 := hst.soft 5
              have f6 := hst.soft 6
              have f7 := hst.soft 7
              have f8 := hst.soft 8
              have f9 := hst.soft 9
              have f10 := hst.soft 10
              obtain ⟨t0, t1, t2, t3, t4, t5, t6, t7, t8, t9, t10⟩ := HTu.out.cs
              clear hst s1 s2 s3 s4 s5 HSo HTu HL2 HK2 HT2
              unfold filled at HL3 HK3 HT3
              go_upto_region 21 with fail
              clear p0 p1 p2 p3 p4 p5 p6 p7 p8 p9 p10 f0 f1 f2 f3 f4 f5 f6 f7 f8 f9 f10 t0 t1 t2 t3 t4 t5 t6 t7 t8 t9 t10
              generalize (((((((((((wc.setCell ⟨gs, 0, none⟩ (.bool x'.rd)).setCell ⟨gs, 1, none⟩ (.bool x'.wt)).setCell ⟨gs, 2, none⟩ (.int .i64 x'.mode)).setCell ⟨gs, 3, none⟩ (.int .i64 x'.size)).setCell ⟨gs, 4, none⟩ (.slice a1 x'.out.length a4)).setCell ⟨gs, 5, none⟩ (.slice a2 x'.inn.length a5)).setCell ⟨gs, 6, none⟩ (.slice a3 x'.back.length a6)).setCell ⟨gs, 7, none⟩ (.int .i64 x'.dir)).setCell ⟨gs, 8, none⟩ (.bool x'.fin)).setCell ⟨gs, 9, none⟩ (.bool x'.bad)).setCell ⟨gs, 10, none⟩ (.bool x'.closed)) = w9 at *
              have d1 : w9.cell? ⟨tb, tq + i, none⟩ = some (.slice va t.length vc) := HT3.out.cell HTB.out (fun e => by have e' : w.heap.size ≤ tb := e; have h8 : tb < w.heap.size := htbl; omega)
              have e2 : wrap64 ((t.length : Int) + 1) = (N : Int) := by have := HCln.out.1; have := HNe.out; unfold wrap64; omega
              have e3 : ((N : Int) != (t.length : Int) + 1) = false := by have := HNe.out; simp; omega
              have e4 : wrap64 ((i : Int) + 1) = (i : Int) + 1 := by unfold wrap64; omega
              clear e2
              go_wp2_with (first | (go_at_call 7; refine (num15 _ _).mono ?_; rintro _ _ ⟨rfl, rfl⟩) | fail)
              go_roundw
              case rel => exact ⟨i + 1, K ++ [t], x', S', _, _, _, O3, _, by omega, by omega, by simp; omega, by go_num, HFl, HTn, HL3, (by have h9 := HK3.out; rw [List.length_append] at h9; exact hide h9), HT3⟩
              case measure => simp [intOf]; omega
    case neg =>
      have hK60 : K.length ≤ 60 := by omega
      obtain ⟨xs, hxr, -⟩ := HKp.out.1.kr.row
      obtain ⟨ka, kc, hka⟩ := owns_slice hxr
      simp only at hka
      subst hka
      clear hxr
      have hbig := flatL_big K HKl.out.1 60 hK60 (Nat.le_refl _)
      have hlen : S.l.length + x.out.length ≤ 12000 := by
        have := congrArg List.length HKl.out.2
        rw [List.length_append] at this
        omega
      have hth := HTh.out
      obtain ⟨z1, -, z3⟩ := thr_close hth (by omega)
      have hp := sClose_any (gro_raw g) (fun s => gmem_o g s) (bears_true msR) HLV.out.ls HLV.out.raw HLV.out.ol trivial (by omega) (by rw [hth.inn]; simp) (by rw [hth.back]; simp)
      have hz9 : (x.close msR S).2.2.l = flatL K := z3.trans HKl.out.2
      generalize x.close msR S = X at *
      obtain ⟨x', e', S'⟩ := X
      simp only at hp z1 hz9
      subst z1
      have HP := hide hp
      have HS9 := hide hz9
      have HBig := hide hbig
      have HCl := hide HKl.out.1
      clear hp z3 hz9 hbig hlen hth HKl HTh
      obtain ⟨c0, c1, c2, c3, c4, c5, c6, c7, c8, c9, c10⟩ := HLV.out.st.cs
      by_cases h1 : (i : Int) < (ls.length : Int)
      case' pos =>
        have h2 : ¬ (i : Int) < 60 := by omega
        clear hlt
      case' neg =>
        clear hlt
      all_goals
        go_wp2_with fail
        clear c0 c1 c2 c3 c4 c5 c6 c7 c8 c9 c10
        refine HP.out.mono ?_
        rintro _ w6 ⟨o', i', b', rfl, hS⟩
        obtain ⟨O6, s1, s2, s3, s4, s5⟩ := hS
        obtain ⟨a1, a4, rfl, -⟩ := s1.so
        obtain ⟨a2, a5, rfl, -⟩ := s1.si
        obtain ⟨a3, a6, rfl, -⟩ := s1.sb
        have k6 := ((fun s => kp_o w w.heap.size gt (xR 3 other) s) _).keep HKp.out.1 (fun j e hj => s5.block j hj (fun e' => HKp.out.2.1 j (.inr (.inl e')) e)) s5.size
        have hBu := recv_below w6 (Obj.cells #[.bool x'.rd, .bool x'.wt, .int .i64 x'.mode, .int .i64 x'.size, .slice a1 x'.out.length a4, .slice a2 x'.inn.length a5, .slice a3 x'.back.length a6, .int .i64 x'.dir, .bool x'.fin, .bool x'.bad, .bool x'.closed] 30)
        have HM7 := hide (s2.below hBu)
        have HK7 := hide (((fun s => kp_o w w.heap.size gt (xR 3 other) s) _).keep k6 (fun j _ hj => hBu.block j hj) hBu.size)
        have HT7 := hide ((HTT.out.trans (s5.mono fun k e => HLV.out.ob k e) (fun _ _ e => e)).trans (Turned.of_below (S := fun k => w.heap.size ≤ k) hBu) (fun _ _ e => e))
        clear s1 s2 s3 s4 s5 k6 hBu HP HLV HKp HTT
        go_upto_region 24 with fail
        generalize w6.alloc (Obj.cells #[.bool x'.rd, .bool x'.wt, .int .i64 x'.mode, .int .i64 x'.size, .slice a1 x'.out.length a4, .slice a2 x'.inn.length a5, .slice a3 x'.back.length a6, .int .i64 x'.dir, .bool x'.fin, .bool x'.bad, .bool x'.closed] 30) = w7 at *
        have hgb := gmbytes_any _ g S' w7 HM7.out
        rw [HS9.out] at hgb
        have HP2 := hide hgb
        clear hgb
        go_wp2_with fail
        refine HP2.out.mono ?_
        rintro _ w8 ⟨v8, rfl, hO8, hB8⟩
        obtain ⟨la, lc, rfl⟩ := owns_slice hO8
        have HNr := hide (newReader_good _ (flatL K) w8 (Bys.of_owns hO8) (by have := HBig.out; omega))
        have HK8 := hide (((fun s => kp_o w w.heap.size gt (xR 3 other) s) _).keep HK7.out (fun j _ hj => hB8.block j hj) hB8.size)
        have HT8 := hide (HT7.out.trans (Turned.of_below (S := fun k => w.heap.size ≤ k) hB8) (fun _ _ e => e))
        have hz78 := hB8.size
        clear hO8 hB8 HP2 HM7
        go_wp2_with fail
        refine HNr.out.mono ?_
        rintro _ w9 ⟨g2, rfl, hM9, hB9⟩
        have HK9 := hide (((fun s => kp_o w w.heap.size gt (xR 3 other) s) _).keep HK8.out (fun j _ hj => hB9.block j hj) hB9.size)
        have HT9 := hide (HT8.out.trans (Turned.of_below (S := fun k => w.heap.size ≤ k) hB9) (fun _ _ e => e))
        have hz89 := hB9.size
        have hz8 := HT8.out.size
        have hgt8 := HK8.out.st.lt
        have hno : ∀ k, (Value.slice none 0 0).ownBlock = some k → False := fun k e => by simp [Value.ownBlock] at e
        have HLV2 : Hid (LV (fun w O S => MemAt w O g2 S) w9 w.heap.size gt (fun k => w8.heap.size ≤ k ∧ k < w9.heap.size) (xR 3 other) ⟨flatL K, (flatL K).length, 0⟩ (.slice none 0 0) (.slice none 0 0) (.slice none 0 0)) := hide
          ⟨HK9.out.st, SIn.nils rfl rfl rfl, hM9.trim, fun j e => e.2, fun j e => by have := e.1; omega, fun e => by have := e.1; omega, HGt.out⟩
        have HKr : Hid (Kr w w.heap.size w9 (fun k => (Value.slice ka K.length kc).ownBlock = some k) (.slice ka K.length kc, K) ∧ (∀ k, Us gt (fun k => w8.heap.size ≤ k ∧ k < w9.heap.size) (.slice none 0 0) (.slice none 0 0) (.slice none 0 0) k → ¬ (Value.slice ka K.length kc).ownBlock = some k) ∧ ∀ k, (Value.slice ka K.length kc).ownBlock = some k → k < w9.heap.size) := hide (by
          obtain ⟨ys, hyr, -⟩ := HK8.out.kr.row
          have hyl : ∀ k, (Value.slice ka K.length kc).ownBlock = some k → k < w8.heap.size := fun k e => (hyr.lt k e).2
          refine ⟨⟨HK9.out.kr.row, fun k e => e⟩, fun k e e2 => ?_, fun k e => by have := hyl k e; omega⟩
          rcases e with e | e | e | e | e
          · exact HK9.out.off k e2 e
          · have := hyl k e2; have := e.1; omega
          · exact hno k e
          · exact hno k e
          · exact hno k e)
        have HR9 : Hid (RdR (xR 3 other) ⟨flatL K, (flatL K).length, 0⟩ (flatL K) (flatL (K.take 0)).length) := hide (rr_new 3 other (flatL K) ⟨by decide, HMo.out⟩ (by have := HBig.out; omega))
        clear HNr HK7 HK8 HK9 HT7 HT8 hM9 hB9 hz89 hz8 hgt8 hno hz78
        go_wp2_with (first | (go_at_call 7; refine (num15 _ _).mono ?_; rintro _ _ ⟨rfl, rfl⟩) | fail)
        go_loopw [26] (fun s26 wr => ∃ (k : Nat) (x : SS) (S : MS) (o' i' b' : Value) (O P : Nat → Prop), k ≤ K.length ∧ s26 = .int .i64 k ∧ Hid (RdR x S (flatL K) (flatL (K.take k)).length) ∧ Hid (LV (fun w O S => MemAt w O g2 S) wr w.heap.size gt O x S o' i' b') ∧ Hid (Kr w w.heap.size wr P (.slice ka K.length kc, K) ∧ (∀ k, Us gt O o' i' b' k → ¬ P k) ∧ ∀ k, P k → k < wr.heap.size) ∧ Hid (Turned (fun k => w.heap.size ≤ k) w wr)) (fun s26 _ => K.length - (intOf s26).toNat)
        case atStart => exact ⟨0, _, _, _, _, _, _, _, Nat.zero_le _, rfl, HR9, HLV2, HKr, HT9⟩
        case round =>
          clear HLV2 HKr HR9 HT9
          obtain ⟨k, x, S, o', i', b', O, P, hk, rfl, HR, HLV, HKr, HTT⟩ := hrel
          obtain ⟨y1, y4, rfl, -⟩ := HLV.out.ls.so
          obtain ⟨y2, y5, rfl, -⟩ := HLV.out.ls.si
          obtain ⟨y3, y6, rfl, -⟩ := HLV.out.ls.sb
          have hSZ := HTT.out.size
          have hll := HR.out.lens
          by_cases hlt2 : k < K.length
          · obtain ⟨f1, f2⟩ := flatL_cut K k hlt2
            have hcl := HCl.out (K.getD k []) (by rw [List.getD_eq_getElem?_getD, List.getElem?_eq_getElem hlt2]; exact List.getElem_mem _)
            obtain ⟨x', S2, q1, q2⟩ := HR.out.line (K.getD k []) _ f1 hcl.1 hcl.2
            rw [← f2] at q2
            have HRn := hide q2
            have hkc : (k : Int) < (K.length : Int) := by omega
            have hp := lget_any (rdr_raw g2) (fun s => gmem_o g2 s) (bears_true rdR) _ _ _ _ _ _ 300 HLV.out.ls HLV.out.raw HLV.out.ol trivial hll.1 hll.2.1 hll.2.2
            rw [q1] at hp
            simp only at hp
            obtain ⟨t, ht⟩ : ∃ t, t = K.getD k [] := ⟨_, rfl⟩
            obtain ⟨acc, hacc⟩ : ∃ acc, acc = t ++ [10] := ⟨_, rfl⟩
            rw [← ht] at hp hcl
            rw [← hacc] at hp
            have hal : acc.length = t.length + 1 := by rw [hacc]; simp
            have HA := hide (And.intro hacc (And.intro hal (And.intro hcl.1 ht)))
            have HP := hide hp
            clear hp q1 q2 f1 f2 hcl hacc hal ht hll
            obtain ⟨c0, c1, c2, c3, c4, c5, c6, c7, c8, c9, c10⟩ := HLV.out.st.cs
            go_wp2_with fail
            clear c0 c1 c2 c3 c4 c5 c6 c7 c8 c9 c10
            refine HP.out.mono ?_
            rintro _ w5 ⟨o', i', b', uu, rfl, hS⟩
            obtain ⟨a1, a4, rfl, -⟩ := hS.choose_spec.1.1.so
            obtain ⟨a2, a5, rfl, -⟩ := hS.choose_spec.1.1.si
            obtain ⟨a3, a6, rfl, -⟩ := hS.choose_spec.1.1.sb
            obtain ⟨u1, u2, rfl⟩ := owns_slice hS.choose_spec.2.1
            have hu := hS.choose_spec.2.1
            have hS2 : SOut (fun w O S => MemAt w O g2 S) wr O x' S2 (.slice a1 x'.out.length a4) (.slice a2 x'.inn.length a5) (.slice a3 x'.back.length a6) w5 := ⟨hS.choose, hS.choose_spec.1⟩
            have hS3 := SOut.below (x' := x') (fun s => gmem_o g2 s) hS2 (recv_below w5 (Obj.cells #[.bool x'.rd, .bool x'.wt, .int .i64 x'.mode, .int .i64 x'.size, .slice a1 x'.out.length a4, .slice a2 x'.inn.length a5, .slice a3 x'.back.length a6, .int .i64 x'.dir, .bool x'.fin, .bool x'.bad, .bool x'.closed] 30)) rfl rfl rfl
            obtain ⟨hst, ⟨O3, s1, s2, s3, s4⟩, s5⟩ := LV.by15 (fun s => kr_o w w.heap.size s) (fun s => gmem_o g2 s) HLV.out HKr.out.1 HKr.out.2.1 HKr.out.2.2 hSZ hS3
            obtain ⟨-, e2⟩ := st_fill2 (w5.alloc (Obj.cells #[.bool x'.rd, .bool x'.wt, .int .i64 x'.mode, .int .i64 x'.size, .slice a1 x'.out.length a4, .slice a2 x'.inn.length a5, .slice a3 x'.back.length a6, .int .i64 x'.dir, .bool x'.fin, .bool x'.bad, .bool x'.closed] 30)) gt x x' (.slice y1 x.out.length y4) (.slice y2 x.inn.length y5) (.slice y3 x.back.length y6) (.slice a1 x'.out.length a4) (.slice a2 x'.inn.length a5) (.slice a3 x'.back.length a6) hst
            have hu2 := owns_turned (owns_below hu (recv_below w5 (Obj.cells #[.bool x'.rd, .bool x'.wt, .int .i64 x'.mode, .int .i64 x'.size, .slice a1 x'.out.length a4, .slice a2 x'.inn.length a5, .slice a3 x'.back.length a6, .int .i64 x'.dir, .bool x'.fin, .bool x'.bad, .bool x'.closed] 30))) e2 (fun k e e' => by have h7 := (hu.lt k e).1; have h8 := HLV.out.st.lt; have e' : k = gt := e'; omega)
            have HL3 := hide s1
            have HK3 := hide (And.intro s2 (And.intro s3 s4))
            have HT3 := hide (HTT.out.trans s5 (fun _ _ e => e))
            have HU := hide hu2
            obtain ⟨p0, p1, p2, p3, p4, p5, p6, p7, p8, p9, p10⟩ := hst.cs
            have f0 := hst.soft 0
            have f1 := hst.soft 1
            have f2 := hst.soft 2
            have f3 := hst.soft 3
            have f4 := hst.soft 4
            have f5 := hst.soft 5
            have f6 := hst.soft 6
            have f7 := hst.soft 7
            have f8 := hst.soft 8
            have f9 := hst.soft 9
            have f10 := hst.soft 10
            clear hS hu hS2 hS3 hst s1 s2 s3 s4 s5 e2 hu2 HP HLV HKr
            unfold filled at HL3 HK3 HT3 HU
            go_upto_region 32 with fail
            clear p0 p1 p2 p3 p4 p5 p6 p7 p8 p9 p10 f0 f1 f2 f3 f4 f5 f6 f7 f8 f9 f10
            generalize ((((((((((((w5.alloc (Obj.cells #[.bool x'.rd, .bool x'.wt, .int .i64 x'.mode, .int .i64 x'.size, .slice a1 x'.out.length a4, .slice a2 x'.inn.length a5, .slice a3 x'.back.length a6, .int .i64 x'.dir, .bool x'.fin, .bool x'.bad, .bool x'.closed] 30)).setCell ⟨gt, 0, none⟩ (.bool x'.rd)).setCell ⟨gt, 1, none⟩ (.bool x'.wt)).setCell ⟨gt, 2, none⟩ (.int .i64 x'.mode)).setCell ⟨gt, 3, none⟩ (.int .i64 x'.size)).setCell ⟨gt, 4, none⟩ (.slice a1 x'.out.length a4)).setCell ⟨gt, 5, none⟩ (.slice a2 x'.inn.length a5)).setCell ⟨gt, 6, none⟩ (.slice a3 x'.back.length a6)).setCell ⟨gt, 7, none⟩ (.int .i64 x'.dir)).setCell ⟨gt, 8, none⟩ (.bool x'.fin)).setCell ⟨gt, 9, none⟩ (.bool x'.bad)).setCell ⟨gt, 10, none⟩ (.bool x'.closed)) = w6 at *
            have hcap := owns_cap HU.out
            have hbu := Bys.of_owns HU.out
            obtain ⟨-, qb, qo, rfl, hqb, hcell⟩ := bys_block hbu (by have := HA.out.2.1; omega)
            have hd2 := hcell t.length (by have := HA.out.2.1; omega)
            rw [show acc.getD t.length 0 = 10 by rw [HA.out.1, List.getD_eq_getElem?_getD, List.getElem?_append_right (Nat.le_refl _)]; simp] at hd2
            obtain ⟨kb, va, vc, e9, hc9, hby9⟩ := HK3.out.1.cell k hlt2
            subst e9
            rw [← HA.out.2.2.2] at hc9 hby9
            have hb1 : Bys w6 (.slice (some ⟨qb, qo, none⟩) t.length u2) t := by
              have := bys_first14 hbu t.length (by have := HA.out.2.1; omega)
              rwa [show acc.take t.length = t by rw [HA.out.1, List.take_left]] at this
            have hb2 : Bys w6 (.slice va t.length vc) t := hby9.turned HT3.out (fun k _ hk e => by omega)
            have HQ := hide (And.intro hb1 hb2)
            have HKc : Hid (∀ W, Below w6.heap.size w6 W → W.cell? ⟨kb, k, none⟩ = some (.slice va t.length vc) ∧ W.cell? ⟨qb, qo + t.length, none⟩ = some (.int .u8 10)) := hide (fun W hW => ⟨(hW.cell (World.block_lt_of_cell? w6 _ hc9)).trans hc9, (hW.cell (World.block_lt_of_cell? w6 _ hd2)).trans hd2⟩)
            have n1 : ((acc.length : Int) != (t.length : Int) + 1) = false := by have := HA.out.2.1; simp; omega
            have n0 : wrap64 ((t.length : Int) + 1) = (t.length : Int) + 1 := by have := HA.out.2.2.1; unfold wrap64; omega
            have m1 : ((acc.length : Int) != IntKind.i64.wrap ((t.length : Int) + 1)) = false := by have := HA.out.2.1; have := HA.out.2.2.1; rw [IntKind.wrap_i64, bne_eq_false_iff_eq]; omega
            have m2 : IntKind.i64.wrap ((acc.length : Int) - 1) = (t.length : Int) := by have := HA.out.2.1; have := HA.out.2.2.1; rw [IntKind.wrap_i64]; omega
            have n2 : wrap64 ((acc.length : Int) - 1) = (t.length : Int) := by have := HA.out.2.1; have := HA.out.2.2.1; unfold wrap64; omega
            have n3 : (t.length : Int) < (acc.length : Int) := by have := HA.out.2.1; omega
            have n4 : (t.length : Int) ≤ (u2 : Int) := by have := HA.out.2.1; omega
            have n5 : (0 : Int) ≤ (t.length : Int) := by omega
            have n6 : t.length < acc.length := by have := HA.out.2.1; omega
            have HTl : Hid (t.length ≤ maxLen) := hide (by have := HA.out.2.2.1; unfold maxLen; omega)
            have HN4 := hide n4
            clear hbu hqb hcell hd2 hc9 hby9 hb1 hb2 hcap
            go_region_held3 (fun W => W.cell? ⟨kb, k, none⟩ = some (.slice va t.length vc) ∧ W.cell? ⟨qb, qo + t.length, none⟩ = some (.int .u8 10))
              (first | exact HKc.out _ hb1 | exact HKc.out _ (Below.refl _ _).drew | go_keep)
              (first
                | (go_at_call 7; refine (num15 _ _).mono ?_; rintro _ _ ⟨rfl, rfl⟩)
                | (go_at_call 13; refine (same_any _ _ t w6.drew (HQ.out.1.below (Below.refl _ _).drew) (HQ.out.2.below (Below.refl _ _).drew) HTl.out).mono ?_; rintro _ w7 ⟨rfl, hB7⟩; have hb1 : Below w6.heap.size w6 w7 := (Below.refl _ w6).drew.trans hB7)
                | fail)
            have HL4 := hide (HL3.out.below (fun s => gmem_o g2 s) hb1)
            have HK4 := hide (((fun s => kr_o w w.heap.size s) _).keep HK3.out.1 (fun j _ hj => hb1.block j hj) hb1.size)
            have HT4 := hide (HT3.out.trans (Turned.of_below (S := fun k => w.heap.size ≤ k) hb1) (fun _ _ e => e))
            have HD4 := hide (And.intro HK3.out.2.1 (fun k e => Nat.lt_of_lt_of_le (HK3.out.2.2 k e) hb1.size))
            have e4 : wrap64 ((k : Int) + 1) = (k : Int) + 1 := by unfold wrap64; omega
            clear hB7 hb1 m1 m2 n0 n1 n2 n3 n4 n5 n6
            go_wp2
            go_roundw
            case rel => exact ⟨k + 1, x', S2, _, _, _, O3, _, by omega, by go_num, HRn, HL4, hide ⟨HK4.out, HD4.out.1, HD4.out.2⟩, HT4⟩
            case measure => simp [intOf]; omega
          · obtain rfl : k = K.length := by omega
            have hkc : ¬ (K.length : Int) < (K.length : Int) := by omega
            have hr9 := HR.out
            rw [flatL_all] at hr9
            obtain ⟨x', S2, q1⟩ := hr9.none
            have hp := lget_any (rdr_raw g2) (fun s => gmem_o g2 s) (bears_true rdR) _ _ _ _ _ _ 300 HLV.out.ls HLV.out.raw HLV.out.ol trivial hll.1 hll.2.1 hll.2.2
            rw [q1] at hp
            simp only at hp
            have HP := hide hp
            clear hp q1 hr9 hll
            obtain ⟨c0, c1, c2, c3, c4, c5, c6, c7, c8, c9, c10⟩ := HLV.out.st.cs
            go_wp2_with fail
            clear c0 c1 c2 c3 c4 c5 c6 c7 c8 c9 c10
            refine HP.out.mono ?_
            rintro _ w5 ⟨o', i', b', uu, rfl, hS⟩
            obtain ⟨a1, a4, rfl, -⟩ := hS.choose_spec.1.1.so
            obtain ⟨a2, a5, rfl, -⟩ := hS.choose_spec.1.1.si
            obtain ⟨a3, a6, rfl, -⟩ := hS.choose_spec.1.1.sb
            obtain ⟨u1, u2, hu⟩ := owns_slice hS.choose_spec.2.1
            subst hu
            have ht5 : Turned O wr w5 := hS.choose_spec.1.2.2.2.2
            have HTf := hide ((HTT.out.trans (ht5.mono fun k e => HLV.out.ob k e) (fun _ _ e => e)).trans (Turned.of_below (S := fun k => w.heap.size ≤ k) (recv_below w5 (Obj.cells #[.bool x'.rd, .bool x'.wt, .int .i64 x'.mode, .int .i64 x'.size, .slice a1 x'.out.length a4, .slice a2 x'.inn.length a5, .slice a3 x'.back.length a6, .int .i64 x'.dir, .bool x'.fin, .bool x'.bad, .bool x'.closed] 30))) (fun _ _ e => e))
            have b0 : ((([] : List UInt8).length : Int) == 0) = true := rfl
            clear hS ht5 HP
            go_wp2_with (first | (go_at_call 7; refine (num15 _ _).mono ?_; rintro _ _ ⟨rfl, rfl⟩) | fail)
            go_ret
            exact ⟨rfl, HTf.out.below (B := w.heap.size) (fun _ e => e) (Nat.le_refl _)⟩
theorem lback_fr (ta : Option Addr) (tn tc : Nat) (ls : List (List UInt8)) (mode size other : Int) (w : World) (hX : Lns w (.slice ta tn tc) ls) (hXl : ∀ (i : Nat) (hi : i < ls.length), (ls[i]'hi).length ≤ 140737488351232) :
    Calls Tryz.prog 3 #[.slice ta tn tc, .int .i64 mode, .int .i64 size, .int .i64 other] w fun e w' => e = .returned (.bool true) ∧ Below w.heap.size w w' := by
  obtain ⟨_, _, e⟩ := hX.form
  cases e
  exact lback_any ta tc ls mode size other w hX hXl
end Go.Proofs.YtmogciopaffccaaGreat

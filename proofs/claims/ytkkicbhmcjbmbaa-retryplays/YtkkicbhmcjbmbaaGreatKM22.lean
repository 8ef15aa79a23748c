/- What the proof stands on, part 22: the contracts of the program's calls that it reaches. -/
import Derived.Test.YtkkicbhmcjbmbaaGreatKM21
/- The reference's Put over a kernel's description. -/
namespace Go.Proofs.YtkkicbhmcjbmbaaGreat
open Go.RowKit Go.Maps

set_option maxRecDepth 100000 in
set_option maxHeartbeats 4000000 in
theorem rrput_any (g mb : Nat) (dd : Int) (bs : List UInt8) (ba : Option Addr) (bc : Nat) (O : Nat → Prop) (K : KS) (w : World) (h : RwS g mb dd w O K) (hb : Bys w (.slice ba bs.length bc) bs) (hcap : bs.length ≤ bc) (h2 : bs.length ≤ 1048576) (hap : 0 < bs.length → ∀ k, (Value.slice ba bs.length bc).ownBlock = some k → ¬ O k) (hok : putOk (kerD dd) kerW bs (putF bs) K 0 0) :
    Calls Tryz.prog 37 #[.pointer (some ⟨g, 0, none⟩), .slice ba bs.length bc] w fun e w' => e = .returned (.tuple #[.int .i64 (putV (kerD dd) bs (putF bs) K 0 0).1, .int .i64 (putV (kerD dd) bs (putF bs) K 0 0).2.1]) ∧ RwStep g mb dd w O (putV (kerD dd) bs (putF bs) K 0 0).2.2 w' := by
  have hn1 : ¬ (1048576 : Int) < (bs.length : Int) := by omega
  generalize hR : putV (kerD dd) bs (putF bs) K 0 0 = R
  have HR := hide hR
  have H := hide h
  have HOk := hide hok
  have HBb := hide hb
  have HAp := hide hap
  obtain ⟨F, hF⟩ : ∃ F, F = putF bs := ⟨_, rfl⟩
  have HF := hide hF
  rw [← hF] at HOk HR
  clear hR h hok hb hap hF
  go_enter Tryz.func37, Tryz.ntmps37
  go_wp2_with fail
  go_loopg [6, 7] F (fun k dv tv wx => ∃ (K' : KS) (O' : Nat → Prop) (d t : Nat), dv = .int .i64 d ∧ tv = .int .i64 t ∧ d ≤ bs.length ∧ t < 8192 ∧ (bs.length - d) * 8192 + (8192 - t) ≤ k ∧ Hid (putV (kerD dd) bs k K' d t = R ∧ putOk (kerD dd) kerW bs k K' d t) ∧ Hid (RwS g mb dd wx O' K') ∧ Hid (∀ j, O' j → O j ∨ w.heap.size ≤ j) ∧ Hid (Turned O w wx))
  case atStart => exact ⟨K, O, 0, 0, rfl, rfl, Nat.zero_le _, by omega, by rw [HF.out]; unfold putF; omega, hide ⟨HR.out, HOk.out⟩, H, hide (fun _ e => .inl e), hide (Turned.refl _ _)⟩
  case round =>
    clear H HR HOk
    obtain ⟨K', O', d, t, rfl, rfl, hd, ht, hk, HV, H, HO, HT⟩ := hrel
    by_cases hlt : d < bs.length
    case neg =>
      have HE : Hid (R = (d, 0, K')) := hide (by rw [← HV.out.1]; exact putV_done (kerD dd) bs _ K' d t hlt)
      have hlt' : ¬ (d : Int) < (bs.length : Int) := by omega
      clear HV hlt
      go_wp2_with fail
      go_ret2
      rw [HE.out]
      exact ⟨rfl, O', H.out, HO.out, HT.out⟩
    have hlt' : (d : Int) < (bs.length : Int) := by omega
    have hq0 : (0 : Int) ≤ (d : Int) := by omega
    have hq1 : (d : Int) ≤ (bs.length : Int) := by omega
    have hq2 : (bs.length : Int) ≤ (bc : Int) := by omega
    have hq3 : (d : Int) < (bc : Int) := by omega
    have hq4 : ¬ bc = d := by omega
    have hq5 : ¬ bs.length = d := by omega
    obtain ⟨-, xb, xo, rfl, hxb, -⟩ := bys_block HBb.out (by omega)
    have hbd : Bys wr (.slice (some ⟨xb, xo + d, none⟩) (bs.length - d) (bc - d)) (bs.drop d) := by
      have := bys_cut (HBb.out.turned HT.out (fun k hk _ => HAp.out (by omega) k hk)) d (bs.length - d) (bc - d) (by omega)
      rw [List.take_of_length_le (by rw [List.length_drop]; exact Nat.le_refl _)] at this
      exact this
    have hdl : (bs.drop d).length = bs.length - d := List.length_drop
    obtain ⟨j, rfl⟩ : ∃ j, gk = j + 1 := ⟨gk - 1, by omega⟩
    obtain ⟨m, e, s2, hw⟩ : ∃ m e s2, K'.write dd (bs.drop d) = (m, e, s2) := ⟨_, _, _, rfl⟩
    have hto := write_told K' H.out.ok.plan dd (bs.drop d)
    rw [hw, hdl] at hto
    simp only at hto
    have hw' : (kerD dd).write K' (bs.drop d) = (m, e, s2) := hw
    obtain ⟨hV0, hV1, hV3⟩ := putOk_next (kerD dd) kerW bs j K' d t hw' hlt HV.out.2
    have hsz := HT.out.size
    have HW := hide (rwwrite_any g mb dd (bs.drop d) (some ⟨xb, xo + d, none⟩) (bc - d) O' K' wr H.out hV0 (by rw [hdl]; exact hbd) (by rw [hdl]; omega) (fun _ k hk => by
      have : xb = k := by simpa [Value.ownBlock] using hk
      subst this
      refine ⟨by omega, fun e => ?_⟩
      rcases HO.out _ e with e | e
      · exact HAp.out (by omega) _ rfl e
      · omega))
    rw [hw, hdl] at HW
    simp only at HW
    have hV2 := HV.out.1
    rw [putV_next (kerD dd) bs j K' d t hw', if_pos hlt] at hV2
    have HVV := hide (And.intro hV2 (And.intro hV1 (And.intro hV3 hto)))
    have hsub : (bs.length : Int) - (d : Int) = ((bs.length - d : Nat) : Int) := by omega
    clear HV hw hw' hV0 hV1 hV3 hV2 hbd hto hxb
    have hstep : ∀ w2 O2, RwS g mb dd w2 O2 s2 → (∀ k, O2 k → O' k ∨ wr.heap.size ≤ k) → Turned O' wr w2 → Hid (RwS g mb dd w2 O2 s2) ∧ Hid (∀ j, O2 j → O j ∨ w.heap.size ≤ j) ∧ Hid (Turned O w w2) := fun w2 O2 a1 a2 a3 =>
      ⟨hide a1, hide (fun j e => (a2 j e).elim (HO.out j) (fun e => .inr (by omega))), hide (HT.out.trans a3 (fun j hj e => (HO.out j e).resolve_right (by omega)))⟩
    have HSt := hide hstep
    clear hstep
    by_cases htry : e = 22 ∨ e = 23
    · have HTr := hide (decide_eq_true htry)
      by_cases ht1 : t + 1 = 8192
      · obtain rfl : t = 8191 := by omega
        clear ht1
        go_wp2_with (first | (go_at_call 124; refine HW.out.mono ?_; rintro _ w2 ⟨rfl, O2, hS, hO2, hT2⟩; have hst := HSt.out w2 O2 hS hO2 hT2; clear hS hO2 hT2) | (go_at_call 123; have hq := again_any e w2; rw [HTr.out] at hq; refine hq.mono ?_; clear hq; rintro _ _ ⟨rfl, rfl⟩) | fail)
        go_ret2
        have hv := HVV.out.1
        rw [if_pos (.inl htry), if_pos (by decide)] at hv
        rw [← hv]
        exact ⟨rfl, O2, hst.1.out, hst.2.1.out, hst.2.2.out⟩
      · have ht2 : ¬ ((t : Int) + 1 = 8192) := by omega
        go_wp2_with (first | (go_at_call 124; refine HW.out.mono ?_; rintro _ w2 ⟨rfl, O2, hS, hO2, hT2⟩; have hst := HSt.out w2 O2 hS hO2 hT2; clear hS hO2 hT2) | (go_at_call 123; have hq := again_any e w2; rw [HTr.out] at hq; refine hq.mono ?_; clear hq; rintro _ _ ⟨rfl, rfl⟩) | fail)
        have hv := HVV.out.1
        rw [if_pos (.inl htry), if_neg ht1] at hv
        go_roundg j
        case measure => omega
        case rel => exact ⟨s2, O2, d, t + 1, rfl, by go_num, by omega, by omega, by omega, hide ⟨hv, HVV.out.2.1 (.inl htry) ht1⟩, hst.1, hst.2.1, hst.2.2⟩
    · have HTr := hide (decide_eq_false htry)
      by_cases he : e = 0
      · subst he
        by_cases hm : m = 0
        · subst hm
          by_cases ht1 : t + 1 = 8192
          · obtain rfl : t = 8191 := by omega
            clear ht1
            go_wp2_with (first | (go_at_call 124; refine HW.out.mono ?_; rintro _ w2 ⟨rfl, O2, hS, hO2, hT2⟩; have hst := HSt.out w2 O2 hS hO2 hT2; clear hS hO2 hT2) | (go_at_call 123; have hq := again_any 0 w2; rw [HTr.out] at hq; refine hq.mono ?_; clear hq; rintro _ _ ⟨rfl, rfl⟩) | fail)
            go_ret2
            have hv := HVV.out.1
            rw [if_pos (by right; constructor <;> first | rfl | trivial), if_pos (by decide)] at hv
            rw [← hv]
            exact ⟨rfl, O2, hst.1.out, hst.2.1.out, hst.2.2.out⟩
          · have ht2 : ¬ ((t : Int) + 1 = 8192) := by omega
            go_wp2_with (first | (go_at_call 124; refine HW.out.mono ?_; rintro _ w2 ⟨rfl, O2, hS, hO2, hT2⟩; have hst := HSt.out w2 O2 hS hO2 hT2; clear hS hO2 hT2) | (go_at_call 123; have hq := again_any 0 w2; rw [HTr.out] at hq; refine hq.mono ?_; clear hq; rintro _ _ ⟨rfl, rfl⟩) | fail)
            have hv := HVV.out.1
            rw [if_pos (by right; constructor <;> first | rfl | trivial), if_neg ht1] at hv
            go_roundg j
            case measure => omega
            case rel => exact ⟨s2, O2, d, t + 1, rfl, by go_num, by omega, by omega, by omega, hide ⟨hv, HVV.out.2.1 (by right; constructor <;> first | rfl | trivial) ht1⟩, hst.1, hst.2.1, hst.2.2⟩
        · have hto := HVV.out.2.2.2
          obtain ⟨mn, rfl⟩ : ∃ mn : Nat, m = (mn : Int) := ⟨m.toNat, by have := hto.1; omega⟩
          have hmn : mn ≤ bs.length - d := by have := hto.2.1; omega
          have hm1 : 1 ≤ mn := by omega
          have hmz : ((mn : Int) == 0) = false := by simpa using hm
          have hwd : wrap64 ((d : Int) + (mn : Int)) = ((d + mn : Nat) : Int) := by unfold wrap64; omega
          have hv := HVV.out.1
          rw [if_neg (by rintro (h | h); exact htry h; exact hm h.1), if_neg (by omega), if_pos rfl] at hv
          have hv2 := HVV.out.2.2.1 rfl (by omega) (by omega)
          rw [Int.toNat_natCast] at hv hv2
          have HX := hide (And.intro hv hv2)
          clear hv hv2 hto
          go_wp2_with (first | (go_at_call 124; refine HW.out.mono ?_; rintro _ w2 ⟨rfl, O2, hS, hO2, hT2⟩; have hst := HSt.out w2 O2 hS hO2 hT2; clear hS hO2 hT2) | (go_at_call 123; have hq := again_any 0 w2; rw [HTr.out] at hq; refine hq.mono ?_; clear hq; rintro _ _ ⟨rfl, rfl⟩) | fail)
          go_roundg j
          case measure => omega
          case rel => exact ⟨s2, O2, d + mn, 0, by go_num, rfl, by omega, by omega, by omega, HX, hst.1, hst.2.1, hst.2.2⟩
      · have hez : (e == 0) = false := by simpa using he
        go_wp2_with (first | (go_at_call 124; refine HW.out.mono ?_; rintro _ w2 ⟨rfl, O2, hS, hO2, hT2⟩; have hst := HSt.out w2 O2 hS hO2 hT2; clear hS hO2 hT2) | (go_at_call 123; have hq := again_any e w2; rw [HTr.out] at hq; refine hq.mono ?_; clear hq; rintro _ _ ⟨rfl, rfl⟩) | fail)
        go_ret2
        have hv := HVV.out.1
        have hto := HVV.out.2.2.2
        rw [if_neg (by rintro (h | h); exact htry h; exact he h.2), if_neg (by have := hto.1; have := hto.2.1; omega), if_neg he] at hv
        rw [← hv]
        exact ⟨rfl, O2, hst.1.out, hst.2.1.out, hst.2.2.out⟩
end Go.Proofs.YtkkicbhmcjbmbaaGreat

/- RetryPlays: how far the calls bring a kernel's numbers; what they leave of it, as values. -/
namespace Go.Proofs.YtkkicbhmcjbmbaaGreat
open Go.RowKit Go.Maps

/-- Of K' behind reads from K. -/
structure Cr (K K' : KS) (a : Nat) : Prop where
  next : K'.next = K.next
  writes : K'.writes = K.writes
  plan : K'.plan.length ≤ K.plan.length
  reads : K'.reads + K'.plan.length ≤ K.reads + K.plan.length + a
structure Cw (K K' : KS) (a : Nat) : Prop where
  next : K'.next = K.next
  reads : K'.reads = K.reads
  plan : K'.plan.length ≤ K.plan.length
  writes : K'.writes + K'.plan.length ≤ K.writes + K.plan.length + a
theorem Cr.refl (K : KS) (a : Nat) : Cr K K a := ⟨rfl, rfl, Nat.le_refl _, by omega⟩
theorem Cw.refl (K : KS) (a : Nat) : Cw K K a := ⟨rfl, rfl, Nat.le_refl _, by omega⟩
theorem Cr.trans {K K' K'' : KS} {a b : Nat} (h : Cr K K' a) (h' : Cr K' K'' b) : Cr K K'' (a + b) := ⟨h'.next.trans h.next, h'.writes.trans h.writes, Nat.le_trans h'.plan h.plan, by have := h.reads; have := h'.reads; omega⟩
theorem Cw.trans {K K' K'' : KS} {a b : Nat} (h : Cw K K' a) (h' : Cw K' K'' b) : Cw K K'' (a + b) := ⟨h'.next.trans h.next, h'.reads.trans h.reads, Nat.le_trans h'.plan h.plan, by have := h.writes; have := h'.writes; omega⟩
theorem Cr.mono {K K' : KS} {a b : Nat} (h : Cr K K' a) (hab : a ≤ b) : Cr K K' b := ⟨h.next, h.writes, h.plan, by have := h.reads; omega⟩
theorem Cw.mono {K K' : KS} {a b : Nat} (h : Cw K K' a) (hab : a ≤ b) : Cw K K' b := ⟨h.next, h.reads, h.plan, by have := h.writes; omega⟩
theorem cr_up (K : KS) {K' : KS} (h1 : K'.next = K.next) (h2 : K'.writes = K.writes) (h3 : K'.plan = K.plan.tail) (h4 : K'.reads = K.reads + 1) : Cr K K' 1 := ⟨h1, h2, by rw [h3]; simp, by rw [h3, h4]; simp; omega⟩
theorem cw_up (K : KS) {K' : KS} (h1 : K'.next = K.next) (h2 : K'.reads = K.reads) (h3 : K'.plan = K.plan.tail) (h4 : K'.writes = K.writes + 1) : Cw K K' 1 := ⟨h1, h2, by rw [h3]; simp, by rw [h3, h4]; simp; omega⟩
theorem cr_read (K : KS) (d n : Int) : Cr K (K.read d n).2.2 1 := by
  unfold KS.read
  cases hx : K.find d with
  | none => exact Cr.refl _ _
  | some y =>
    simp only
    split
    · exact Cr.refl _ _
    split
    · exact Cr.refl _ _
    split
    · exact Cr.refl _ _
    split
    · exact Cr.refl _ _
    split
    · cases ho : K.tho y <;> exact cr_up K rfl rfl rfl rfl
    · exact cr_up K rfl rfl rfl rfl
theorem cw_write (K : KS) (d : Int) (b : List UInt8) : Cw K (K.write d b).2.2 1 := by
  unfold KS.write
  cases hx : K.find d with
  | none => exact Cw.refl _ _
  | some y =>
    simp only
    split
    · exact Cw.refl _ _
    split
    · exact Cw.refl _ _
    split
    · exact Cw.refl _ _
    split
    · split
      · cases ho : K.tho y <;> exact cw_up K rfl rfl rfl rfl
      · exact cw_up K rfl rfl rfl rfl
    · exact Cw.refl _ _
theorem plan_cut {L L' : List Fault} (h : planOk L) (h2 : L' = L ∨ L' = L.tail) : planOk L' := by
  rcases h2 with rfl | rfl
  · exact h
  · exact h.tail
theorem cr_try (K : KS) (hk : planOk K.plan) (d n : Int) (h : (K.read d n).2.1 = 22 ∨ (K.read d n).2.1 = 23) : Cr K (K.read d n).2.2 0 := by
  have h1 := cr_read K d n
  obtain ⟨-, h2⟩ := refused_read K hk d n (by rcases h with e | e <;> rw [e] <;> decide)
  rcases h2 with ⟨a, b, _⟩ | ⟨_, hp, hne⟩
  · rcases h with e | e
    · exact absurd e a
    · exact absurd e b
  · have hr := (kle_read K d n).2.1
    have hl : K.plan.tail.length + 1 = K.plan.length := by
      cases hq : K.plan with
      | nil => exact absurd hq hne
      | cons _ _ => simp
    exact ⟨h1.next, h1.writes, h1.plan, by rw [hp]; omega⟩
theorem cw_try (K : KS) (hk : planOk K.plan) (d : Int) (b : List UInt8) (h : (K.write d b).2.1 = 22 ∨ (K.write d b).2.1 = 23) : Cw K (K.write d b).2.2 0 := by
  have h1 := cw_write K d b
  obtain ⟨-, h2⟩ := refused_write K hk d b (by rcases h with e | e <;> rw [e] <;> decide)
  rcases h2 with ⟨a, b', _⟩ | ⟨_, hp, hne⟩
  · rcases h with e | e
    · exact absurd e a
    · exact absurd e b'
  · have hr := (kle_write K d b).2.2
    have hl : K.plan.tail.length + 1 = K.plan.length := by
      cases hq : K.plan with
      | nil => exact absurd hq hne
      | cons _ _ => simp
    exact ⟨h1.next, h1.reads, h1.plan, by rw [hp]; omega⟩
theorem plan_write {K : KS} (h : planOk K.plan) (d : Int) (b : List UInt8) : planOk (K.write d b).2.2.plan := by
  unfold KS.write
  cases hx : K.find d with
  | none => exact h
  | some y =>
    simp only
    split
    · exact h
    split
    · exact h
    split
    · exact h
    split
    · split
      · cases ho : K.tho y <;> exact h.tail
      · exact h.tail
    · exact h
/-- Some, as a value. -/
theorem some_all (d : Int) (n : Nat) : ∀ (k : Nat) (K : KS), planOk K.plan → K.reads + K.plan.length + 1 ≤ 9223372036854775807 → someOk (kerD d) kerR n k K ∧ Cr K (someV (kerD d) n k K).2.2 1 ∧ planOk (someV (kerD d) n k K).2.2.plan ∧ (PInv K → PInv (someV (kerD d) n k K).2.2)
  | 0, K, hp, _ => ⟨trivial, Cr.refl _ _, hp, fun h => h⟩
  | k + 1, K, hp, hM => by
    have hr : (kerD d).read K n = ((K.read d n).1, (K.read d n).2.1, (K.read d n).2.2) := rfl
    rw [someV_next (kerD d) n k K hr]
    have h1 := cr_read K d n
    have h2 := plan_read hp d n
    have hok : kerR K := by unfold kerR; omega
    by_cases ht : (K.read d n).2.1 = 22 ∨ (K.read d n).2.1 = 23
    · have h3 := cr_try K hp d n ht
      obtain ⟨a1, a2, a3, a4⟩ := some_all d n k (K.read d n).2.2 h2 (by have := h3.reads; omega)
      rw [if_pos ht]
      exact ⟨⟨hok, fun _ => a1⟩, (h3.trans a2).mono (by omega), a3, fun h => a4 (pinv_read h d n)⟩
    · rw [if_neg ht]
      refine ⟨⟨hok, fun h => absurd h ht⟩, ?_⟩
      split
      · exact ⟨h1, h2, fun h => pinv_read h d n⟩
      split
      · exact ⟨h1, h2, fun h => pinv_read h d n⟩
      · exact ⟨h1, h2, fun h => pinv_read h d n⟩
/-- All, as a value. -/
theorem all_all (d : Int) (n : Nat) : ∀ (k : Nat) (K : KS) (G : List UInt8), planOk K.plan → K.reads + K.plan.length + k ≤ 9223372036854775806 → allOk (kerD d) kerR n k K G ∧ Cr K (allV (kerD d) n k K G).2.2 k ∧ (PInv K → PInv (allV (kerD d) n k K G).2.2)
  | 0, K, G, _, _ => ⟨trivial, Cr.refl _ _, fun h => h⟩
  | k + 1, K, G, hp, hM => by
    obtain ⟨a1, a2, a3, a4⟩ := some_all d (n - G.length) 8192 K hp (by omega)
    rw [allV_next (kerD d) n k K G (b := (someV (kerD d) (n - G.length) 8192 K).1) (e := (someV (kerD d) (n - G.length) 8192 K).2.1) (s2 := (someV (kerD d) (n - G.length) 8192 K).2.2) rfl]
    obtain ⟨b1, b2, b3⟩ := all_all d n k (someV (kerD d) (n - G.length) 8192 K).2.2 (G ++ (someV (kerD d) (n - G.length) 8192 K).1) a3 (by have := a2.reads; omega)
    refine ⟨fun _ => ⟨a1, fun _ => b1⟩, ?_⟩
    split
    · split
      · exact ⟨(a2.trans b2).mono (by omega), fun h => b3 (a4 h)⟩
      · exact ⟨a2.mono (by omega), fun h => a4 h⟩
    · exact ⟨Cr.refl _ _, fun h => h⟩
/-- What holds of a description and its thing. -/
def DOk (K : KS) (d : Int) : Prop := ∀ x, K.find d = some x → x.pos ≤ 1048576 ∧ (match K.tho x with | .file f => f.length ≤ 1048576 | .term _ scr => scr.length ≤ 1048576 | _ => True)
theorem DOk.of {w : World} {P : Nat → Prop} {mb : Nat} {K : KS} (h : RAt w P mb K) (d : Int) : DOk K d := by
  obtain ⟨_, ρ, I, h1, -, -⟩ := h
  intro x hx
  have hm := (KS.find_some hx).1
  have hlt := h1.ok.th x hm
  have ht := (h1.comp (.obj x.th) hlt).2
  rw [← KS.tho_eq hlt] at ht
  refine ⟨h1.ok.pos x hm, ?_⟩
  cases ho : K.tho x with
  | file f => rw [ho] at ht; exact ht
  | term ls scr => rw [ho] at ht; exact ht.2.2
  | pipe q rd wt => trivial
theorem tho_set {K : KS} {i : Nat} {ob : Ob} {x : De} (h : x.th = i) : (K.setOb i ob).tho x = ob ∨ (K.setOb i ob).tho x = .file [] := by
  unfold KS.tho KS.setOb
  simp only [List.getElem?_modify]
  subst h
  cases hq : K.th[x.th]? with
  | none => right; simp
  | some t => left; simp
theorem dok_write {K : KS} (hp : planOk K.plan) (d : Int) (b : List UInt8) (h : DOk K d) : DOk (K.write d b).2.2 d ∧ ((K.write d b).2.1 = 0 → 1 ≤ b.length → 1 ≤ (K.write d b).1) := by
  unfold KS.write
  cases hx : K.find d with
  | none => exact ⟨h, fun e => absurd (show (64 : Int) = 0 from e) (by decide)⟩
  | some y =>
    obtain ⟨hpos, hthing⟩ := h y hx
    simp only
    split
    · exact ⟨h, fun e => absurd (show (65 : Int) = 0 from e) (by decide)⟩
    split
    · exact ⟨h, fun e => absurd (show (5 : Int) = 0 from e) (by decide)⟩
    rename_i hb1
    split
    · rename_i hb0; exact ⟨h, fun _ e => by omega⟩
    rename_i hb0
    split
    · rename_i hr
      split
      · rename_i hz
        have hn := nxt_good hp (by omega : (1 : Int) ≤ (b.length : Int)) (by omega) hz
        have hn1 : 1 ≤ (nxt K.plan b.length).1.toNat := by have := hn.1; omega
        cases ho : K.tho y with
        | file f =>
          rw [ho] at hr hthing
          simp only at hthing ⊢
          simp only [refusal] at hr
          have hpl : placeOf f y.flags y.pos ≤ 1048576 := by unfold placeOf; split <;> omega
          have hne : placeOf f y.flags y.pos ≠ 1048576 := fun e => by rw [if_pos e] at hr; exact absurd hr (by decide)
          refine ⟨?_, fun _ _ => by omega⟩
          intro x' hx'
          have hf := find_setDe (K := K.writeUp.setOb y.th (.file (wrL f (placeOf f y.flags y.pos) (b.take (min (nxt K.plan b.length).1.toNat (1048576 - placeOf f y.flags y.pos)))))) (d := d) (x := y) (x' := { y with pos := placeOf f y.flags y.pos + min (nxt K.plan b.length).1.toNat (1048576 - placeOf f y.flags y.pos) }) hx rfl
          rw [hf] at hx'
          cases hx'
          refine ⟨by show placeOf f y.flags y.pos + min _ _ ≤ 1048576; omega, ?_⟩
          rcases tho_set (K := K.writeUp) (i := y.th) (ob := .file (wrL f (placeOf f y.flags y.pos) (b.take (min (nxt K.plan b.length).1.toNat (1048576 - placeOf f y.flags y.pos))))) (x := { y with pos := placeOf f y.flags y.pos + min (nxt K.plan b.length).1.toNat (1048576 - placeOf f y.flags y.pos) }) rfl with e | e
          · show (match (K.writeUp.setOb y.th _).tho _ with | .file f => f.length ≤ 1048576 | .term _ scr => scr.length ≤ 1048576 | _ => True)
            rw [e]
            exact wrL_len hthing
          · show (match (K.writeUp.setOb y.th _).tho _ with | .file f => f.length ≤ 1048576 | .term _ scr => scr.length ≤ 1048576 | _ => True)
            rw [e]
            simp
        | term ls scr =>
          rw [ho] at hr hthing
          simp only at hthing ⊢
          simp only [refusal] at hr
          have hne : scr.length ≠ 1048576 := fun e => by rw [if_pos e] at hr; exact absurd hr (by decide)
          refine ⟨?_, fun _ _ => by omega⟩
          intro x' hx'
          have hx2 : K.find d = some x' := hx'
          rw [hx] at hx2
          cases hx2
          refine ⟨hpos, ?_⟩
          rcases tho_set (K := K.writeUp) (i := y.th) (ob := .term ls (scr ++ b.take (min (nxt K.plan b.length).1.toNat (1048576 - scr.length)))) (x := y) rfl with e | e
          · rw [e]
            show (scr ++ b.take _).length ≤ 1048576
            rw [List.length_append, List.length_take]
            omega
          · rw [e]
            simp
        | pipe q rd wt =>
          rw [ho] at hr
          simp only
          simp only [refusal] at hr
          refine ⟨?_, fun he _ => ?_⟩
          · intro x' hx'
            have hx2 : K.find d = some x' := hx'
            rw [hx] at hx2
            cases hx2
            refine ⟨hpos, ?_⟩
            rcases tho_set (K := K.writeUp) (i := y.th) (ob := .pipe (q ++ b.take (wrN b.length (nxt K.plan b.length).1 q.length rd wt)) rd wt) (x := y) rfl with e | e
            · rw [e]; trivial
            · rw [e]; simp
          · have hw : wrN b.length (nxt K.plan b.length).1 q.length rd wt ≠ 0 := fun e0 => by
              unfold Kp_wrE at he
              unfold wrN at e0
              split at he
              · rename_i h1
                rw [if_pos h1] at e0
                rw [if_pos e0] at he
                exact absurd he (by decide)
              · rename_i h1
                exact absurd he h1
            omega
      · exact ⟨fun x' hx' => h x' hx', fun e => by rename_i hz; exact absurd e hz⟩
    · rename_i hr
      exact ⟨h, fun e => absurd e hr⟩
/-- Put, as a value. -/
theorem put_all (dd : Int) (bs : List UInt8) : ∀ (k : Nat) (K : KS) (d t : Nat), planOk K.plan → DOk K dd → d ≤ bs.length → K.writes + K.plan.length + (bs.length - d) + 1 ≤ 9223372036854775807 → putOk (kerD dd) kerW bs k K d t ∧ Cw K (putV (kerD dd) bs k K d t).2.2 (bs.length - d + 1) ∧ (PInv K → PInv (putV (kerD dd) bs k K d t).2.2)
  | 0, K, d, t, _, _, _, _ => ⟨trivial, Cw.refl _ _, fun h => h⟩
  | k + 1, K, d, t, hp, hD, hd, hM => by
    have hr : (kerD dd).write K (bs.drop d) = ((K.write dd (bs.drop d)).1, (K.write dd (bs.drop d)).2.1, (K.write dd (bs.drop d)).2.2) := rfl
    rw [putV_next (kerD dd) bs k K d t hr]
    by_cases hlt : d < bs.length
    · rw [if_pos hlt]
      have h1 := cw_write K dd (bs.drop d)
      have h2 := plan_write hp dd (bs.drop d)
      obtain ⟨h3, h4⟩ := dok_write hp dd (bs.drop d) hD
      have hl : (bs.drop d).length = bs.length - d := List.length_drop
      have hto := write_told K hp dd (bs.drop d)
      rw [hl] at hto
      have hpi : PInv K → PInv (K.write dd (bs.drop d)).2.2 := fun h => pinv_write h dd (bs.drop d)
      have hok : kerW K := by unfold kerW; omega
      generalize hW : K.write dd (bs.drop d) = W at *
      obtain ⟨m, e, K2⟩ := W
      simp only at h1 h2 h3 h4 hto hpi ⊢
      by_cases ht : e = 22 ∨ e = 23
      · have h5 : Cw K K2 0 := by
          have := cw_try K hp dd (bs.drop d) (by rw [hW]; exact ht)
          rw [hW] at this
          exact this
        obtain ⟨a1, a2, a3⟩ := put_all dd bs k K2 d (t + 1) h2 h3 hd (by have := h5.writes; omega)
        rw [if_pos (.inl ht)]
        refine ⟨fun _ => ⟨hok, ?_, fun e0 => ?_⟩, ?_⟩
        · intro _ _; show putOk (kerD dd) kerW bs k ((kerD dd).write K (bs.drop d)).2.2 d (t + 1); rw [show (kerD dd).write K (bs.drop d) = (m, e, K2) from hW]; exact a1
        · have e0' : e = 0 := by have : ((kerD dd).write K (bs.drop d)).2.1 = 0 := e0; rw [show (kerD dd).write K (bs.drop d) = (m, e, K2) from hW] at this; exact this
          rcases ht with q | q <;> rw [e0'] at q <;> exact absurd q (by decide)
        · split
          · exact ⟨h1.mono (by omega), hpi⟩
          · exact ⟨(h5.trans a2).mono (by omega), fun h => a3 (hpi h)⟩
      · by_cases he : e = 0
        · have hm1 : 1 ≤ m := h4 he (by omega)
          have hm0 : ¬ ((e = 22 ∨ e = 23) ∨ m = 0 ∧ e = 0) := by rintro (h | h); exact ht h; omega
          rw [if_neg hm0, if_neg (by have := hto.2.1; omega), if_pos he]
          obtain ⟨a1, a2, a3⟩ := put_all dd bs k K2 (d + m.toNat) 0 h2 h3 (by have := hto.2.1; omega) (by have := h1.writes; have := hto.2.1; omega)
          refine ⟨fun _ => ⟨hok, fun h => ?_, fun _ _ _ => ?_⟩, (h1.trans a2).mono (by have := hto.2.1; omega), fun h => a3 (hpi h)⟩
          · rw [show (kerD dd).write K (bs.drop d) = (m, e, K2) from hW] at h; exact absurd h hm0
          · show putOk (kerD dd) kerW bs k ((kerD dd).write K (bs.drop d)).2.2 (d + ((kerD dd).write K (bs.drop d)).1.toNat) 0
            rw [show (kerD dd).write K (bs.drop d) = (m, e, K2) from hW]; exact a1
        · have hm0 : ¬ ((e = 22 ∨ e = 23) ∨ m = 0 ∧ e = 0) := by rintro (h | h); exact ht h; exact he h.2
          rw [if_neg hm0, if_neg (by have := hto.1; have := hto.2.1; omega), if_neg he]
          refine ⟨fun _ => ⟨hok, fun h => ?_, fun h => ?_⟩, h1.mono (by omega), hpi⟩
          · rw [show (kerD dd).write K (bs.drop d) = (m, e, K2) from hW] at h; exact absurd h hm0
          · rw [show (kerD dd).write K (bs.drop d) = (m, e, K2) from hW] at h; exact absurd h he
    · rw [if_neg hlt]
      exact ⟨fun h => absurd h hlt, Cw.refl _ _, fun h => h⟩
end Go.Proofs.YtkkicbhmcjbmbaaGreat

/- RetryPlays: sizes out of their range; both kernels and the reference's Raw, side by side; the steps. -/
namespace Go.Proofs.YtkkicbhmcjbmbaaGreat
open Go.ChangeShapes Go.WideShapes Go.ChangeAt Go.RowKit Go.Deep Go.Maps

theorem psome_no (T : TypeId) (v : Value) (n : Int) (w : World) (h : n < 1 ∨ 1048576 < n) : Calls Tryz.prog 32 #[.iface T v, .int .i64 n] w fun e w' => e = .returned (.tuple #[.slice none 0 0, .int .i64 4]) ∧ w = w' := by
  go_enter Tryz.func32, Tryz.ntmps32
  go_wp2_with (first | (go_at_call 119; refine (readable_no T v n _ h).mono ?_; rintro _ _ ⟨rfl, rfl⟩) | fail)
  go_ret2
  exact ⟨rfl, rfl⟩
theorem pall_no (T : TypeId) (v : Value) (n : Int) (w : World) (h : n < 1 ∨ 1048576 < n) : Calls Tryz.prog 34 #[.iface T v, .int .i64 n] w fun e w' => e = .returned (.tuple #[.slice none 0 0, .int .i64 4]) ∧ w = w' := by
  go_enter Tryz.func34, Tryz.ntmps34
  go_wp2_with (first | (go_at_call 119; refine (readable_no T v n _ h).mono ?_; rintro _ _ ⟨rfl, rfl⟩) | fail)
  go_ret2
  exact ⟨rfl, rfl⟩
theorem pput_no (T : TypeId) (v : Value) (a : Option Addr) (n c : Nat) (w : World) (h : 1048576 < n) : Calls Tryz.prog 36 #[.iface T v, .slice a n c] w fun e w' => e = .returned (.tuple #[.int .i64 0, .int .i64 5]) ∧ w = w' := by
  have h' : (1048576 : Int) < (n : Int) := by omega
  go_enter Tryz.func36, Tryz.ntmps36
  go_wp2
  go_ret2
  exact ⟨rfl, rfl⟩
theorem rsome_no (p : Value) (n : Int) (w : World) (h : n < 1 ∨ 1048576 < n) : Calls Tryz.prog 33 #[p, .int .i64 n] w fun e w' => e = .returned (.tuple #[.slice none 0 0, .int .i64 4]) ∧ w = w' := by
  rcases h with h | h
  · go_enter Tryz.func33, Tryz.ntmps33
    go_wp2
    go_ret2
    exact ⟨rfl, rfl⟩
  · have h1 : ¬ n < 1 := by omega
    go_enter Tryz.func33, Tryz.ntmps33
    go_wp2
    go_ret2
    exact ⟨rfl, rfl⟩
theorem rall_no (p : Value) (n : Int) (w : World) (h : n < 1 ∨ 1048576 < n) : Calls Tryz.prog 35 #[p, .int .i64 n] w fun e w' => e = .returned (.tuple #[.slice none 0 0, .int .i64 4]) ∧ w = w' := by
  rcases h with h | h
  · go_enter Tryz.func35, Tryz.ntmps35
    go_wp2
    go_ret2
    exact ⟨rfl, rfl⟩
  · have h1 : ¬ n < 1 := by omega
    go_enter Tryz.func35, Tryz.ntmps35
    go_wp2
    go_ret2
    exact ⟨rfl, rfl⟩
theorem rput_no (p : Value) (a : Option Addr) (n c : Nat) (w : World) (h : 1048576 < n) : Calls Tryz.prog 37 #[p, .slice a n c] w fun e w' => e = .returned (.tuple #[.int .i64 0, .int .i64 5]) ∧ w = w' := by
  have h' : (1048576 : Int) < (n : Int) := by omega
  go_enter Tryz.func37, Tryz.ntmps37
  go_wp2
  go_ret2
  exact ⟨rfl, rfl⟩
/-- The program's kernel, the reference's, and the reference's Raw over it: nothing is shared; all lies within Q. -/
def Tri (W : World) (Q : Nat → Prop) (kb mb g : Nat) (d : Int) (K M : KS) : Prop := ∃ O P, KAt W O kb K ∧ RwS g mb d W P M ∧ (∀ j, O j → Q j ∧ j < W.heap.size ∧ ¬ P j) ∧ ∀ j, P j → Q j ∧ j < W.heap.size
theorem Tri.below {W W' : World} {Q : Nat → Prop} {kb mb g : Nat} {d : Int} {K M : KS} (h : Tri W Q kb mb g d K M) (hB : Below W.heap.size W W') : Tri W' Q kb mb g d K M := by
  obtain ⟨O, P, h1, h2, h3, h4⟩ := h
  exact ⟨O, P, h1.below hB, h2.below hB, fun j e => ⟨(h3 j e).1, Nat.lt_of_lt_of_le (h3 j e).2.1 hB.size, (h3 j e).2.2⟩, fun j e => ⟨(h4 j e).1, Nat.lt_of_lt_of_le (h4 j e).2 hB.size⟩⟩
theorem Tri.duo {W : World} {Q : Nat → Prop} {B kb mb g : Nat} {d : Int} {K M : KS} (h : Tri W Q kb mb g d K M) (hQ : ∀ j, Q j → B ≤ j) : Duo W B kb mb K M := by
  obtain ⟨O, P, h1, ⟨P', c, a1, a2, a3, a4, a5⟩, h3, h4⟩ := h
  exact ⟨O, P', h1, a2, fun j e => ⟨hQ j (h3 j e).1, (h3 j e).2.1, fun e' => (h3 j e).2.2 (a3 j e')⟩, fun j e => ⟨hQ j (h4 j (a3 j e)).1, (h4 j (a3 j e)).2⟩⟩
/-- A step of the program's, and then one of the reference's. -/
theorem Tri.both {wr : World} {Q : Nat → Prop} {kb mb g : Nat} {d : Int} {K M : KS} (h : Tri wr Q kb mb g d K M) (hQ : ∀ j, wr.heap.size ≤ j → Q j) :
    ∃ O P, KAt wr O kb K ∧ RwS g mb d wr P M ∧ (∀ j, O j → Q j ∧ j < wr.heap.size) ∧ (∀ j, P j → Q j ∧ j < wr.heap.size) ∧
      ∀ wb, Below wr.heap.size wr wb → ∀ K' w5, KStep wb O kb K' w5 → ∀ w6, Below w5.heap.size w5 w6 → RwS g mb d w6 P M ∧ ∀ M' w7, RwStep g mb d w6 P M' w7 → Tri w7 Q kb mb g d K' M' ∧ Turned Q wr w7 := by
  obtain ⟨O, P, h1, h2, h3, h4⟩ := h
  refine ⟨O, P, h1, h2, fun j e => ⟨(h3 j e).1, (h3 j e).2.1⟩, h4, fun wb hb K' w5 hS w6 h56 => ?_⟩
  obtain ⟨O', g1, g2, g3⟩ := hS
  have hsb := hb.size
  have hm : RwS g mb d w6 P M := ((h2.below hb).keep (fun j e hl => g3.block j hl (fun e' => (h3 j e').2.2 e)) g3.size).below h56
  refine ⟨hm, fun M' w7 hS7 => ?_⟩
  obtain ⟨P', f1, f2, f3⟩ := hS7
  have hz5 := g3.size
  have hz6 := h56.size
  have hz7 := f3.size
  have g1' := g1.trim.below h56
  refine ⟨⟨fun k => O' k ∧ k < w5.heap.size, fun k => P' k ∧ k < w7.heap.size, g1'.keep (fun j e hl => f3.block j hl (fun e' => ?_)) hz7, f1.trim, fun j e => ⟨?_, by have := e.2; omega, fun e' => ?_⟩, fun j e => ⟨?_, e.2⟩⟩, ((((Turned.of_below (S := Q) hb).trans g3 (fun j _ e => (h3 j e).1)).trans (Turned.of_below (S := Q) h56) (fun j _ e => e)).trans f3 (fun j _ e => (h4 j e).1))⟩
  · rcases g2 j e.1 with e1 | e1
    · exact (h3 j e1).2.2 e'
    · have := (h4 j e').2; omega
  · rcases g2 j e.1 with e1 | e1
    · exact (h3 j e1).1
    · exact hQ j (by omega)
  · rcases f2 j e'.1 with e2 | e2
    · rcases g2 j e.1 with e1 | e1
      · exact (h3 j e1).2.2 e2
      · have := (h4 j e2).2; omega
    · have := e.2; omega
  · rcases f2 j e.1 with e2 | e2
    · exact (h4 j e2).1
    · exact hQ j (by omega)
/-- A step: what, how many, the bytes. -/
structure RSt where
  what : Int
  n : Int
  data : List UInt8
def RSts (W : World) (v : Value) (l : List RSt) : Prop :=
  ∃ a c, v = .slice a l.length c ∧ (0 < l.length → ∃ b off, a = some ⟨b, off, none⟩ ∧ ∀ j (hj : j < l.length), ∃ va vc,
    W.cell? ⟨b, off + j * 3, none⟩ = some (.int .i64 l[j].what) ∧ W.cell? ⟨b, off + j * 3 + 1, none⟩ = some (.int .i64 l[j].n) ∧ W.cell? ⟨b, off + j * 3 + 2, none⟩ = some (.slice va l[j].data.length vc) ∧ Bys W (.slice va l[j].data.length vc) l[j].data ∧ l[j].data.length ≤ vc)
theorem rst_cells {H : Type} {enc : TypeId × Value → H} {P : Program} {W : World} {base : Nat} {fuel e u : Nat} {f0 f1 f2 : Field} {cs : List Value} {d : DataW H} {p : List MemPlace}
    (he : P.underlying e = some (.struct #[f0, f1, f2])) (ce : P.cellsOf e = 3) (o0 : f0.offset = 0) (o1 : f1.offset = 1) (o2 : f2.offset = 2)
    (c0 : P.cellsOf f0.type = 1) (c1 : P.cellsOf f1.type = 1) (c2 : P.cellsOf f2.type = 1)
    (t0 : P.underlying f0.type = some (.int .i64)) (t1 : P.underlying f1.type = some (.int .i64)) (t2 : P.underlying f2.type = some (.slice u)) (tu : P.underlying u = some (.int .u8)) (cu : P.cellsOf u = 1)
    (h : DataW.trod enc P W base (fun _ => true) true fuel e cs = some (d, p)) :
    ∃ (x : RSt) (va : Option Addr) (vc : Nat) (d2 : DataW H), cs = [.int .i64 x.what, .int .i64 x.n, .slice va x.data.length vc] ∧ (Bys W (.slice va x.data.length vc) x.data ∧ x.data.length ≤ vc) ∧ (∃ x0 x1, d = .agg [x0, x1, d2]) ∧ Kp_DataOf d2 x.data := by
  obtain ⟨xs, k, hk, hxy, hcl, hxl, hf⟩ := DataW.trod_struct he h
  rw [ce] at hcl
  match xs, hxl, cs, hcl with
  | [y0, y1, y2], _, [v0, v1, v2], _ =>
    have g0 := hf 0 f0 rfl
    have g1 := hf 1 f1 rfl
    have g2 := hf 2 f2 rfl
    simp [o0, c0] at g0
    simp [o1, c1] at g1
    simp [o2, c2] at g2
    obtain ⟨a, ha, _⟩ := DataW.trod_int t0 g0
    obtain ⟨b, hb, _⟩ := DataW.trod_int t1 g1
    obtain rfl : v0 = .int .i64 a := by simpa using ha
    obtain rfl : v1 = .int .i64 b := by simpa using hb
    obtain ⟨va, vl, vc, rfl⟩ : ∃ va vl vc, v2 = .slice va vl vc := by
      rcases DataW.trod_slice t2 g2 with ⟨h0, _⟩ | ⟨x, len, cap, _, _, _, _, h0, _⟩
      · exact ⟨_, _, _, by simpa using h0⟩
      · exact ⟨_, _, _, by simpa using h0⟩
    obtain ⟨y2a, y2b⟩ := y2
    obtain ⟨l, hl, hlc, hd⟩ := bytes_arg2 t2 tu cu (by simpa [Value.cells] using g2)
    obtain rfl := Kp_bys_len hl
    simp only [Prod.mk.injEq] at hxy
    exact ⟨⟨a, b, l⟩, va, vc, y2a, rfl, ⟨hl, hlc⟩, ⟨_, _, by simpa using hxy.1⟩, hd⟩
theorem rsts_arg {H : Type} {enc : TypeId × Value → H} {P : Program} {W : World} {base : Nat} {a : Option Addr} {len cap fuel t e u : Nat} {f0 f1 f2 : Field} {d : DataW H} {p : List MemPlace}
    (ht : P.underlying t = some (.slice e)) (he : P.underlying e = some (.struct #[f0, f1, f2])) (ce : P.cellsOf e = 3) (o0 : f0.offset = 0) (o1 : f1.offset = 1) (o2 : f2.offset = 2)
    (c0 : P.cellsOf f0.type = 1) (c1 : P.cellsOf f1.type = 1) (c2 : P.cellsOf f2.type = 1)
    (t0 : P.underlying f0.type = some (.int .i64)) (t1 : P.underlying f1.type = some (.int .i64)) (t2 : P.underlying f2.type = some (.slice u)) (tu : P.underlying u = some (.int .u8)) (cu : P.cellsOf u = 1)
    (hf : DataW.trod enc P W base (fun _ => true) true fuel t (Value.slice a len cap).cells.toList = some (d, p)) :
    ∃ l : List RSt, RSts W (.slice a len cap) l ∧ ((d = .nil ∧ l = []) ∨ ∃ elems spare : List (DataW H), d = .slice elems spare ∧ l.length = elems.length ∧ ∀ i (hi : i < l.length), ∃ x0 x1 d2, DataW.agg [x0, x1, d2] ∈ elems ∧ Kp_DataOf d2 l[i].data) := by
  rcases open_slice ht hf with ⟨hcs, hd⟩ | ⟨x, n, c, m, k, D, Pl, hcs, _, hl, hm, hmm, hx, hel⟩
  · simp [Value.cells] at hcs
    obtain ⟨rfl, rfl, rfl⟩ := hcs
    exact ⟨[], ⟨_, _, rfl, fun h => absurd h (by decide)⟩, .inl ⟨(Prod.mk.inj hd).1, rfl⟩⟩
  · simp [Value.cells] at hcs
    obtain ⟨rfl, rfl, rfl⟩ := hcs
    simp only [if_true] at hmm
    subst hmm
    have each : ∀ i, i < len → ∃ s : RSt, ∃ va vc, (∃ x0 x1 d2, D i = .agg [x0, x1, d2] ∧ Kp_DataOf d2 s.data) ∧
        W.cell? ((x.add (i * 3)).add 0) = some (.int .i64 s.what) ∧ W.cell? ((x.add (i * 3)).add 1) = some (.int .i64 s.n) ∧ W.cell? ((x.add (i * 3)).add 2) = some (.slice va s.data.length vc) ∧ Bys W (.slice va s.data.length vc) s.data ∧ s.data.length ≤ vc := by
      intro i hi
      obtain ⟨cs', h1, h2⟩ := hel i (by omega)
      rw [ce] at h1
      obtain ⟨_, hlen, hcell⟩ := World.cells?_some h1
      obtain ⟨s, va, vc, d2, rfl, hb, ⟨x0, x1, hD⟩, hO⟩ := rst_cells he ce o0 o1 o2 c0 c1 c2 t0 t1 t2 tu cu h2
      exact ⟨s, va, vc, ⟨x0, x1, d2, hD, hO⟩, by simpa using hcell 0 (by omega), by simpa using hcell 1 (by omega), by simpa using hcell 2 (by omega), hb⟩
    obtain ⟨s, hs⟩ : ∃ s : Nat → RSt, ∀ i, i < len → ∃ va vc, (∃ x0 x1 d2, D i = .agg [x0, x1, d2] ∧ Kp_DataOf d2 (s i).data) ∧
        W.cell? ((x.add (i * 3)).add 0) = some (.int .i64 (s i).what) ∧ W.cell? ((x.add (i * 3)).add 1) = some (.int .i64 (s i).n) ∧ W.cell? ((x.add (i * 3)).add 2) = some (.slice va (s i).data.length vc) ∧ Bys W (.slice va (s i).data.length vc) (s i).data ∧ (s i).data.length ≤ vc :=
      ⟨fun i => if h : i < len then (each i h).choose else ⟨0, 0, []⟩, fun i hi => by simp only [dif_pos hi]; exact (each i hi).choose_spec⟩
    refine ⟨(List.range len).map s, ⟨some x, m, by simp, fun h0 => ?_⟩, .inr ⟨_, _, (Prod.mk.inj hx).1, by simp, fun i hi => ?_⟩⟩
    · have h0' : 0 < len := by simpa using h0
      obtain ⟨b, off, spot⟩ := x
      obtain ⟨_, _, _, q0, _⟩ := hs 0 h0'
      have hspot : spot = none := by simpa [Addr.add] using World.cell?_spot q0
      subst hspot
      refine ⟨b, off, rfl, fun j hj => ?_⟩
      have hj' : j < len := by simpa using hj
      obtain ⟨va, vc, _, q0, q1, q2, hb⟩ := hs j hj'
      have hadd : ∀ o k, (⟨b, o, none⟩ : Addr).add k = ⟨b, o + k, none⟩ := fun o k => by unfold Addr.add; split <;> simp_all
      rw [hadd, hadd] at q0 q1 q2
      simp only [List.getElem_map, List.getElem_range]
      exact ⟨va, vc, by simpa using q0, q1, q2, hb⟩
    · have hi' : i < len := by simpa using hi
      obtain ⟨va, vc, ⟨x0, x1, d2, hD, hO⟩, _⟩ := hs i hi'
      refine ⟨x0, x1, d2, ?_, by simpa using hO⟩
      rw [← hD]
      exact List.mem_map.2 ⟨i, by simpa using hi', rfl⟩
theorem rsts_at {W W' : World} {a : Option Addr} {n c : Nat} {l : List RSt} (h : RSts W (.slice a n c) l) (hB : Below W.heap.size W W') (j : Nat) (hj : j < l.length) :
    ∃ b off va vc, a = some ⟨b, off, none⟩ ∧ W'.cell? ⟨b, off + j * 3, none⟩ = some (.int .i64 l[j].what) ∧ W'.cell? ⟨b, off + j * 3 + 1, none⟩ = some (.int .i64 l[j].n) ∧ W'.cell? ⟨b, off + j * 3 + 2, none⟩ = some (.slice va l[j].data.length vc) ∧ Bys W (.slice va l[j].data.length vc) l[j].data ∧ l[j].data.length ≤ vc ∧ b < W.heap.size := by
  obtain ⟨a', c', he, hc⟩ := h
  cases he
  obtain ⟨b, off, rfl, hd⟩ := hc (by omega)
  obtain ⟨va, vc, q0, q1, q2, hb, hcap⟩ := hd j hj
  have hl := World.block_lt_of_cell? W _ q0
  exact ⟨b, off, va, vc, rfl, (hB.cell (p := ⟨b, off + j * 3, none⟩) hl).trans q0, (hB.cell (p := ⟨b, off + j * 3 + 1, none⟩) hl).trans q1, (hB.cell (p := ⟨b, off + j * 3 + 2, none⟩) hl).trans q2, hb, hcap, hl⟩
end Go.Proofs.YtkkicbhmcjbmbaaGreat

/- RetryPlays: a call of the program's, and then the reference's. -/
namespace Go.Proofs.YtkkicbhmcjbmbaaGreat
open Go.RowKit Go.Maps

structure Grow (K K' : KS) : Prop where
  inv : PInv K → PInv K'
  next : K'.next = K.next
  reads : K'.reads + K'.plan.length ≤ K.reads + K.plan.length + 1048577
  writes : K'.writes + K'.plan.length ≤ K.writes + K.plan.length + 1048577
theorem Grow.refl (K : KS) : Grow K K := ⟨fun h => h, rfl, by omega, by omega⟩
theorem Cr.grow {K K' : KS} {a : Nat} (h : Cr K K' a) (ha : a ≤ 1048577) (hi : PInv K → PInv K') : Grow K K' := ⟨hi, h.next, by have := h.reads; omega, by have := h.writes; have := h.plan; omega⟩
theorem Cw.grow {K K' : KS} {a : Nat} (h : Cw K K' a) (ha : a ≤ 1048577) (hi : PInv K → PInv K') : Grow K K' := ⟨hi, h.next, by have := h.reads; have := h.plan; omega, by have := h.writes; omega⟩
def BNum (K : KS) : Prop := K.reads + K.plan.length ≤ 9223372036850000000 ∧ K.writes + K.plan.length ≤ 9223372036850000000
/-- Both calls give the same bytes, the same number, and the same kernel. -/
def TwoB (F G : FuncId) (A B : Array Value) (Q : Nat → Prop) (kb mb g : Nat) (d : Int) (wr : World) (K : KS) : Prop := ∃ (Y : List UInt8) (E : Int) (K' : KS), Grow K K' ∧ Y.length ≤ 1048576 ∧ ∀ wb, Below wr.heap.size wr wb → Calls Tryz.prog F A wb fun e w5 => ∃ a n c, e = .returned (.tuple #[.slice a n c, .int .i64 E]) ∧ Turned Q wr w5 ∧
  ∀ w6, Below w5.heap.size w5 w6 → Calls Tryz.prog G B w6 fun e w7 => ∃ a' n' c', e = .returned (.tuple #[.slice a' n' c', .int .i64 E]) ∧ Bys w7 (.slice a n c) Y ∧ Bys w7 (.slice a' n' c') Y ∧ Tri w7 Q kb mb g d K' K' ∧ Turned Q wr w7
def TwoP (F G : FuncId) (A B : Array Value) (Q : Nat → Prop) (kb mb g : Nat) (d : Int) (wr : World) (K : KS) : Prop := ∃ (N E : Int) (K' : KS), Grow K K' ∧ ∀ wb, Below wr.heap.size wr wb → Calls Tryz.prog F A wb fun e w5 => e = .returned (.tuple #[.int .i64 N, .int .i64 E]) ∧ Turned Q wr w5 ∧
  ∀ w6, Below w5.heap.size w5 w6 → Calls Tryz.prog G B w6 fun e w7 => e = .returned (.tuple #[.int .i64 N, .int .i64 E]) ∧ Tri w7 Q kb mb g d K' K' ∧ Turned Q wr w7
theorem bys_slice {W : World} {v : Value} {l : List UInt8} (h : Bys W v l) : ∃ a n c, v = .slice a n c := by
  obtain ⟨a, c, e, -⟩ := bys_form h
  exact ⟨_, _, _, e⟩
theorem two_bytes {F G : FuncId} {A B : Array Value} {Q : Nat → Prop} {kb mb g : Nat} {d : Int} {wr : World} {K K' : KS} {Y : List UInt8} {E : Int} (h : Tri wr Q kb mb g d K K) (hQ : ∀ j, wr.heap.size ≤ j → Q j) (hg : Grow K K') (hY : Y.length ≤ 1048576)
    (hF : ∀ O wb, KAt wb O kb K → wr.heap.size ≤ wb.heap.size → (∀ j, O j → j < wb.heap.size) → Calls Tryz.prog F A wb fun e w5 => ∃ u, e = .returned (.tuple #[u, .int .i64 E]) ∧ Bys w5 u Y ∧ (∀ k, u.ownBlock = some k → wr.heap.size ≤ k) ∧ KStep wb O kb K' w5)
    (hG : ∀ P w6, RwS g mb d w6 P K → (∀ j, P j → j < w6.heap.size) → Calls Tryz.prog G B w6 fun e w7 => ∃ u, e = .returned (.tuple #[u, .int .i64 E]) ∧ Bys w7 u Y ∧ RwStep g mb d w6 P K' w7) : TwoB F G A B Q kb mb g d wr K := by
  refine ⟨Y, E, K', hg, hY, fun wb hb => ?_⟩
  obtain ⟨O, P, hK, hM, hO, hP, hboth⟩ := h.both hQ
  have hz := hb.size
  refine (hF O wb (hK.below hb) hz (fun j e => Nat.lt_of_lt_of_le (hO j e).2 hz)).mono ?_
  rintro e w5 ⟨u, rfl, hu, hub, hS⟩
  obtain ⟨a, n, c, rfl⟩ := bys_slice hu
  have hT5 : Turned Q wr w5 := (Turned.of_below (S := Q) hb).trans hS.turned (fun j _ e => (hO j e).1)
  refine ⟨a, n, c, rfl, hT5, fun w6 h56 => ?_⟩
  obtain ⟨hm, hbk⟩ := hboth wb hb K' w5 hS w6 h56
  refine (hG P w6 hm (fun j e => Nat.lt_of_lt_of_le (hP j e).2 (Nat.le_trans hT5.size h56.size))).mono ?_
  rintro e w7 ⟨v, rfl, hv, hS7⟩
  obtain ⟨a', n', c', rfl⟩ := bys_slice hv
  obtain ⟨hD7, hT7⟩ := hbk K' w7 hS7
  obtain ⟨P', _, _, t7⟩ := hS7
  exact ⟨a', n', c', rfl, (hu.below h56).turned t7 (fun k hk _ e => by have := hub k hk; have := (hP k e).2; omega), hv, hD7, hT7⟩
theorem two_nums {F G : FuncId} {A B : Array Value} {Q : Nat → Prop} {kb mb g : Nat} {d : Int} {wr : World} {K K' : KS} {N E : Int} (h : Tri wr Q kb mb g d K K) (hQ : ∀ j, wr.heap.size ≤ j → Q j) (hg : Grow K K')
    (hF : ∀ O wb, KAt wb O kb K → Below wr.heap.size wr wb → (∀ j, O j → Q j ∧ j < wb.heap.size) → Calls Tryz.prog F A wb fun e w5 => e = .returned (.tuple #[.int .i64 N, .int .i64 E]) ∧ KStep wb O kb K' w5)
    (hG : ∀ P w6, RwS g mb d w6 P K → Turned Q wr w6 → (∀ j, P j → Q j ∧ j < w6.heap.size) → Calls Tryz.prog G B w6 fun e w7 => e = .returned (.tuple #[.int .i64 N, .int .i64 E]) ∧ RwStep g mb d w6 P K' w7) : TwoP F G A B Q kb mb g d wr K := by
  refine ⟨N, E, K', hg, fun wb hb => ?_⟩
  obtain ⟨O, P, hK, hM, hO, hP, hboth⟩ := h.both hQ
  have hz := hb.size
  refine (hF O wb (hK.below hb) hb (fun j e => ⟨(hO j e).1, Nat.lt_of_lt_of_le (hO j e).2 hz⟩)).mono ?_
  rintro e w5 ⟨rfl, hS⟩
  have hT5 : Turned Q wr w5 := (Turned.of_below (S := Q) hb).trans hS.turned (fun j _ e => (hO j e).1)
  refine ⟨rfl, hT5, fun w6 h56 => ?_⟩
  obtain ⟨hm, hbk⟩ := hboth wb hb K' w5 hS w6 h56
  refine (hG P w6 hm (hT5.trans (Turned.of_below (S := Q) h56) (fun j _ e => e)) (fun j e => ⟨(hP j e).1, Nat.lt_of_lt_of_le (hP j e).2 (Nat.le_trans hT5.size h56.size)⟩)).mono ?_
  rintro e w7 ⟨rfl, hS7⟩
  obtain ⟨hD7, hT7⟩ := hbk K' w7 hS7
  exact ⟨rfl, hD7, hT7⟩
theorem RwStep.same {g mb : Nat} {d : Int} {w : World} {P : Nat → Prop} {K : KS} (h : RwS g mb d w P K) : RwStep g mb d w P K w := ⟨P, h, fun _ e => .inl e, Turned.refl _ _⟩
theorem bys_void (W : World) : Bys W (.slice none 0 0) [] := .inl ⟨rfl, rfl⟩
theorem owns_up {W : World} {base wz e size n : Nat} {v : Value} {xs : List Value} (h : W.ownsRow base e size v n xs) (hz : wz ≤ base) (k : Nat) (hk : v.ownBlock = some k) : wz ≤ k := Nat.le_trans hz (h.lt k hk).1
theorem two_some {Q : Nat → Prop} {kb mb g : Nat} {d : Int} {wr : World} {K : KS} (hd : I64 d) (h : Tri wr Q kb mb g d K K) (hQ : ∀ j, wr.heap.size ≤ j → Q j) (hB : BNum K) (n : Int) :
    TwoB 32 33 #[.iface 70 (.agg #[.pointer (some ⟨kb, 0, none⟩), .int .i64 d]), .int .i64 n] #[.pointer (some ⟨g, 0, none⟩), .int .i64 n] Q kb mb g d wr K := by
  by_cases hn : n < 1 ∨ 1048576 < n
  · refine two_bytes h hQ (Grow.refl K) (Y := []) (E := 4) (by decide) (fun O wb hK _ _ => ?_) (fun P w6 hM _ => ?_)
    · refine (psome_no _ _ n wb hn).mono ?_
      rintro e w5 ⟨rfl, rfl⟩
      exact ⟨_, rfl, bys_void _, fun k hk => by simp [Value.ownBlock] at hk, KStep.same hK⟩
    · refine (rsome_no _ n w6 hn).mono ?_
      rintro e w7 ⟨rfl, rfl⟩
      exact ⟨_, rfl, bys_void _, RwStep.same hM⟩
  · obtain ⟨m, rfl⟩ : ∃ m : Nat, n = m := ⟨n.toNat, by omega⟩
    have h1 : 1 ≤ m := by omega
    have h2 : m ≤ 1048576 := by omega
    have hpl : planOk K.plan := by obtain ⟨O0, P0, hK0, _⟩ := h; exact hK0.ok.1.plan
    obtain ⟨a1, a2, a3, a4⟩ := some_all d m 8192 K hpl (by unfold BNum at hB; omega)
    refine two_bytes h hQ (a2.grow (by omega) a4) (Y := (someV (kerD d) m 8192 K).1) (E := (someV (kerD d) m 8192 K).2.1) (Nat.le_trans (rsome_few d m 8192 K) h2) (fun O wb hK hz _ => ?_) (fun P w6 hM _ => ?_)
    · refine (some_any (ker_raw kb d hd) m hK h1 h2 a1).mono ?_
      rintro e w5 ⟨u, rfl, ho, hK5, hT⟩
      exact ⟨u, rfl, Bys.of_owns ho, owns_up ho hz, O, hK5, fun _ e => .inl e, hT⟩
    · refine (rsome_any g mb d m P K w6 hM h1 h2 a1).mono ?_
      rintro e w7 ⟨u, rfl, hu, hS⟩
      exact ⟨u, rfl, hu, hS⟩
theorem allV_len {S : Type} (D : RawD S) (n : Nat) : ∀ k s l, l.length ≤ n → (allV D n k s l).1.length ≤ n
  | 0, _, _, h => h
  | k + 1, s, l, h => by
    have hs := someV_len D (n - l.length) 8192 s
    rw [allV_next D n k s l (b := (someV D (n - l.length) 8192 s).1) (e := (someV D (n - l.length) 8192 s).2.1) (s2 := (someV D (n - l.length) 8192 s).2.2) rfl]
    split
    · split
      · exact allV_len D n k _ _ (by rw [List.length_append]; omega)
      · exact h
    · exact h
theorem two_all {Q : Nat → Prop} {kb mb g : Nat} {d : Int} {wr : World} {K : KS} (hd : I64 d) (h : Tri wr Q kb mb g d K K) (hQ : ∀ j, wr.heap.size ≤ j → Q j) (hB : BNum K) (n : Int) :
    TwoB 34 35 #[.iface 70 (.agg #[.pointer (some ⟨kb, 0, none⟩), .int .i64 d]), .int .i64 n] #[.pointer (some ⟨g, 0, none⟩), .int .i64 n] Q kb mb g d wr K := by
  by_cases hn : n < 1 ∨ 1048576 < n
  · refine two_bytes h hQ (Grow.refl K) (Y := []) (E := 4) (by decide) (fun O wb hK _ _ => ?_) (fun P w6 hM _ => ?_)
    · refine (pall_no _ _ n wb hn).mono ?_
      rintro e w5 ⟨rfl, rfl⟩
      exact ⟨_, rfl, bys_void _, fun k hk => by simp [Value.ownBlock] at hk, KStep.same hK⟩
    · refine (rall_no _ n w6 hn).mono ?_
      rintro e w7 ⟨rfl, rfl⟩
      exact ⟨_, rfl, bys_void _, RwStep.same hM⟩
  · obtain ⟨m, rfl⟩ : ∃ m : Nat, n = m := ⟨n.toNat, by omega⟩
    have h1 : 1 ≤ m := by omega
    have h2 : m ≤ 1048576 := by omega
    have hpl : planOk K.plan := by obtain ⟨O0, P0, hK0, _⟩ := h; exact hK0.ok.1.plan
    obtain ⟨a1, a2, a4⟩ := all_all d m m K [] hpl (by unfold BNum at hB; omega)
    refine two_bytes h hQ (a2.grow (by omega) a4) (Y := (allV (kerD d) m m K []).1) (E := (allV (kerD d) m m K []).2.1) (Nat.le_trans (allV_len (kerD d) m m K [] (Nat.zero_le _)) h2) (fun O wb hK hz hOl => ?_) (fun P w6 hM hPl => ?_)
    · refine (all_any (ker_raw kb d hd) m hK hOl h1 h2 a1).mono ?_
      rintro e w5 ⟨u, rfl, ho, hK5, hT⟩
      exact ⟨u, rfl, Bys.of_owns ho, owns_up ho hz, O, hK5, fun _ e => .inl e, hT⟩
    · refine (rall_any g mb d m P K w6 hM hPl h1 h2 a1).mono ?_
      rintro e w7 ⟨u, rfl, hu, hS⟩
      exact ⟨u, rfl, hu, hS⟩
theorem two_put {Q : Nat → Prop} {kb mb g : Nat} {d : Int} {wr : World} {K : KS} (hd : I64 d) (h : Tri wr Q kb mb g d K K) (hQ : ∀ j, wr.heap.size ≤ j → Q j) (hB : BNum K) (bs : List UInt8) (ba : Option Addr) (bc : Nat) (hb : Bys wr (.slice ba bs.length bc) bs) (hcap : bs.length ≤ bc) (hap : 0 < bs.length → ∀ k, (Value.slice ba bs.length bc).ownBlock = some k → ¬ Q k) :
    TwoP 36 37 #[.iface 70 (.agg #[.pointer (some ⟨kb, 0, none⟩), .int .i64 d]), .slice ba bs.length bc] #[.pointer (some ⟨g, 0, none⟩), .slice ba bs.length bc] Q kb mb g d wr K := by
  by_cases hn : 1048576 < bs.length
  · refine two_nums h hQ (Grow.refl K) (N := 0) (E := 5) (fun O wb hK _ _ => ?_) (fun P w6 hM _ _ => ?_)
    · refine (pput_no _ _ ba bs.length bc wb hn).mono ?_
      rintro e w5 ⟨rfl, rfl⟩
      exact ⟨rfl, KStep.same hK⟩
    · refine (rput_no _ ba bs.length bc w6 hn).mono ?_
      rintro e w7 ⟨rfl, rfl⟩
      exact ⟨rfl, RwStep.same hM⟩
  · have h2 : bs.length ≤ 1048576 := by omega
    have hpl : planOk K.plan := by obtain ⟨O0, P0, hK0, _⟩ := h; exact hK0.ok.1.plan
    have hdo : DOk K d := by obtain ⟨_, _, _, ⟨_, _, _, hM0, _⟩, _⟩ := h; exact DOk.of hM0 d
    obtain ⟨a1, a2, a4⟩ := put_all d bs (putF bs) K 0 0 hpl hdo (Nat.zero_le _) (by unfold BNum at hB; omega)
    refine two_nums h hQ (a2.grow (by omega) a4) (N := (putV (kerD d) bs (putF bs) K 0 0).1) (E := (putV (kerD d) bs (putF bs) K 0 0).2.1) (fun O wb hK hbb hO => ?_) (fun P w6 hM hT hP => ?_)
    · refine (rput_any (ker_raw kb d hd) bs ba bc hK (fun j e => (hO j e).2) (hb.below hbb) hcap h2 (fun h0 k hk e => hap h0 k hk (hO k e).1) a1).mono ?_
      rintro e w5 ⟨rfl, hS⟩
      exact ⟨rfl, hS⟩
    · by_cases h0 : 0 < bs.length
      · refine (rrput_any g mb d bs ba bc P K w6 hM (hb.turned hT (fun k hk _ => hap h0 k hk)) hcap h2 (fun h0 k hk e => hap h0 k hk (hP k e).1) a1).mono ?_
        rintro e w7 ⟨rfl, hS⟩
        exact ⟨rfl, hS⟩
      · refine (rrput_any g mb d bs ba bc P K w6 hM (bys_none hb h0) hcap h2 (fun h0' => absurd h0' h0) a1).mono ?_
        rintro e w7 ⟨rfl, hS⟩
        exact ⟨rfl, hS⟩
end Go.Proofs.YtkkicbhmcjbmbaaGreat

/- RetryPlays: what holds before every step. -/
namespace Go.Proofs.YtkkicbhmcjbmbaaGreat
open Go.RowKit Go.Maps

/-- The blocks that the calls may turn: those behind B, but for the handle's. -/
def Qh (B hb : Nat) (j : Nat) : Prop := B ≤ j ∧ j ≠ hb
structure Inv2 (w1 : World) (hb kb mb g : Nat) (dd : Int) (k i : Nat) (M : KS) (wx : World) : Prop where
  tri : Tri wx (Qh w1.heap.size hb) kb mb g dd M M
  inv : PInv M
  n1 : 1 ≤ M.next
  n2 : M.next ≤ 1 + 2 * k
  reads : M.reads + M.plan.length ≤ k + 4096 + i * 1048577
  writes : M.writes + M.plan.length ≤ k + 4096 + i * 1048577
  below : Below w1.heap.size w1 wx
  r0 : wx.cell? ⟨hb, 0, none⟩ = some (.pointer (some ⟨kb, 0, none⟩))
  r1 : wx.cell? ⟨hb, 1, none⟩ = some (.int .i64 dd)
theorem Inv2.lt {w1 wx : World} {hb kb mb g k i : Nat} {dd : Int} {M : KS} (h : Inv2 w1 hb kb mb g dd k i M wx) : hb < wx.heap.size := World.block_lt_of_cell? wx _ h.r0
theorem Inv2.hQ {w1 wx : World} {hb kb mb g k i : Nat} {dd : Int} {M : KS} (h : Inv2 w1 hb kb mb g dd k i M wx) (j : Nat) (hj : wx.heap.size ≤ j) : Qh w1.heap.size hb j := ⟨by have := h.below.size; omega, by have := h.lt; omega⟩
theorem Inv2.num {w1 wx : World} {hb kb mb g k i : Nat} {dd : Int} {M : KS} (h : Inv2 w1 hb kb mb g dd k i M wx) (hk : k * 72 ≤ 140737488351232) (hi : i * 40 ≤ 140737488351232) : BNum M := ⟨by have := h.reads; omega, by have := h.writes; omega⟩
theorem Inv2.small {w1 wx : World} {hb kb mb g k i : Nat} {dd : Int} {M : KS} (h : Inv2 w1 hb kb mb g dd k i M wx) (hk : k * 72 ≤ 140737488351232) (hi : i * 40 ≤ 140737488351232) : KSmall M := ⟨h.n1, by have := h.n2; omega, by have := h.reads; omega, by have := h.writes; omega⟩
theorem Inv2.next {w1 wx w7 w8 : World} {hb kb mb g k i : Nat} {dd : Int} {M M' : KS} (h : Inv2 w1 hb kb mb g dd k i M wx) (hG : Grow M M') (hT : Tri w7 (Qh w1.heap.size hb) kb mb g dd M' M') (hTu : Turned (Qh w1.heap.size hb) wx w7) (hB : Below w7.heap.size w7 w8) : Inv2 w1 hb kb mb g dd k (i + 1) M' w8 := by
  have hz := h.below.size
  have hz7 := hTu.size
  refine ⟨hT.below hB, hG.inv h.inv, by rw [hG.next]; exact h.n1, by rw [hG.next]; exact h.n2, by have := hG.reads; have := h.reads; omega, by have := hG.writes; have := h.writes; omega, h.below.trans ((hTu.below (fun _ e => e.1) hz).trans (hB.mono (by omega))), ?_, ?_⟩
  · exact (hB.cell (p := ⟨hb, 0, none⟩) (Nat.lt_of_lt_of_le h.lt hz7)).trans (cell_keep hTu h.r0 (fun e => e.2 rfl))
  · exact (hB.cell (p := ⟨hb, 1, none⟩) (Nat.lt_of_lt_of_le h.lt hz7)).trans (cell_keep hTu h.r1 (fun e => e.2 rfl))
theorem Inv2.up {w1 wx w8 : World} {hb kb mb g k i : Nat} {dd : Int} {M : KS} (h : Inv2 w1 hb kb mb g dd k i M wx) (hB : Below wx.heap.size wx w8) : Inv2 w1 hb kb mb g dd k (i + 1) M w8 := h.next (Grow.refl M) h.tri (Turned.refl _ _) hB
/-- The cells that a step is read from, behind the program's call. -/
theorem Inv2.keep {w1 wx w5 : World} {hb kb mb g k i b o : Nat} {dd : Int} {M : KS} {v : Value} (h : Inv2 w1 hb kb mb g dd k i M wx) (hTu : Turned (Qh w1.heap.size hb) wx w5) (hbz : b < w1.heap.size) (q : wx.cell? ⟨b, o, none⟩ = some v) :
    w5.cell? ⟨hb, 0, none⟩ = some (.pointer (some ⟨kb, 0, none⟩)) ∧ w5.cell? ⟨hb, 1, none⟩ = some (.int .i64 dd) ∧ w5.cell? ⟨b, o, none⟩ = some v :=
  ⟨cell_keep hTu h.r0 (fun e => e.2 rfl), cell_keep hTu h.r1 (fun e => e.2 rfl), cell_keep hTu q (fun e => by have := e.1; omega)⟩
theorem Inv2.first {w1 wr wO wH : World} {kb mb k : Nat} {dd : Int} {K : KS} (hD : Duo wr w1.heap.size kb mb K K) (hPi : PInv K) (hn : 1 ≤ K.next ∧ K.next ≤ 1 + 2 * k ∧ K.reads ≤ k ∧ K.writes ≤ k) (hB : Below w1.heap.size w1 wr)
    (hRw : wO.heap[wr.heap.size]? = some (.cells (rwc mb dd 0) 192)) (hBO : Below wr.heap.size wr wO) (hBH : Below wO.heap.size wO wH)
    (r0 : wH.cell? ⟨wO.heap.size, 0, none⟩ = some (.pointer (some ⟨kb, 0, none⟩))) (r1 : wH.cell? ⟨wO.heap.size, 1, none⟩ = some (.int .i64 dd)) : Inv2 w1 wO.heap.size kb mb wr.heap.size dd k 0 K wH := by
  have hzO : wr.heap.size < wO.heap.size := (Array.getElem?_eq_some_iff.1 hRw).1
  have hBz := hB.size
  obtain ⟨O, P, e1, e2, e3, e4⟩ := hD
  have hpl : planOk K.plan := e1.ok.1.plan
  have hp := hpl.1
  have t : Tri wO (Qh w1.heap.size wO.heap.size) kb mb wr.heap.size dd K K := by
    refine ⟨O, fun j => P j ∨ j = wr.heap.size, e1.below hBO, ⟨P, 0, hRw, e2.below hBO, fun k e => .inl e, .inr rfl, fun e => by have := (e4 _ e).2; omega⟩, fun j e => ⟨⟨(e3 j e).1, by have := (e3 j e).2.1; omega⟩, by have := (e3 j e).2.1; omega, fun e' => ?_⟩, fun j e => ?_⟩
    · rcases e' with e' | e'
      · exact (e3 j e).2.2 e'
      · have := (e3 j e).2.1; omega
    · rcases e with e | e
      · have := e4 j e
        exact ⟨⟨this.1, by omega⟩, by omega⟩
      · subst e
        exact ⟨⟨hBz, by omega⟩, hzO⟩
  exact ⟨t.below hBH, hPi, hn.1, hn.2.1, by omega, by omega, hB.trans ((hBO.mono hBz).trans (hBH.mono (by omega))), r0, r1⟩
end Go.Proofs.YtkkicbhmcjbmbaaGreat

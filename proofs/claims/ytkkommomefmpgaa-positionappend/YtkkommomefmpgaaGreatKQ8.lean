/- What the proof stands on, part 8: the contracts of the program's calls that it reaches. -/
import Derived.Test.YtkkommomefmpgaaGreatKQ7
/- The program's kernel: nameMayBe, flagsMayBe. -/
namespace Go.Proofs.YtkkommomefmpgaaGreat
open Go.RowKit Go.Maps
set_option linter.unusedSimpArgs false

set_option maxRecDepth 100000 in
set_option maxHeartbeats 2000000 in
theorem flagsMayBe_any (f : Int) (w : World) :
    Calls Tryz.prog 133 #[.int .i64 f] w fun e w' => e = .returned (.bool (flagsOk f)) ∧ w' = w := by
  unfold flagsOk
  rcases (show f < 0 ∨ (¬ f < 0 ∧ 64 ≤ f) ∨ (¬ f < 0 ∧ ¬ 64 ≤ f) by omega) with e1 | ⟨e1, e2⟩ | ⟨e1, e2⟩
  · rw [show decide (0 ≤ f ∧ f ≤ 63) = false by rw [decide_eq_false_iff_not]; omega]
    go_enter Tryz.func133, Tryz.ntmps133
    go_wp2
    go_ret
    exact ⟨rfl, rfl⟩
  · rw [show decide (0 ≤ f ∧ f ≤ 63) = false by rw [decide_eq_false_iff_not]; omega]
    go_enter Tryz.func133, Tryz.ntmps133
    go_wp2
    go_ret
    exact ⟨rfl, rfl⟩
  · rw [show decide (0 ≤ f ∧ f ≤ 63) = true by rw [decide_eq_true_eq]; omega]
    simp only [Bool.true_and]
    generalize h3 : (fbit f 3 == 0) = b3
    generalize h20 : (fbit f 20 == 0) = b20
    generalize h2 : (fbit f 2 == 0) = b2
    generalize h32 : (fbit f 32 == 0) = b32
    generalize h8 : (fbit f 8 == 0) = b8
    have n20 : (fbit f 20 != 0) = !b20 := by rw [← h20]; rfl
    have n32 : (fbit f 32 != 0) = !b32 := by rw [← h32]; rfl
    cases b3
    · cases b20
      · cases b2
        · cases b32
          · cases b8
            all_goals
              simp only [Bool.not_false, Bool.not_true] at n20 n32
              go_enter Tryz.func133, Tryz.ntmps133
              go_wp2
              go_ret
              exact ⟨rfl, rfl⟩
          · simp only [Bool.not_false, Bool.not_true] at n20 n32
            go_enter Tryz.func133, Tryz.ntmps133
            go_wp2
            go_ret
            exact ⟨rfl, rfl⟩
        · simp only [Bool.not_false, Bool.not_true] at n20 n32
          go_enter Tryz.func133, Tryz.ntmps133
          go_wp2
          go_ret
          exact ⟨rfl, rfl⟩
      · cases b32
        · cases b8
          all_goals
            simp only [Bool.not_false, Bool.not_true] at n20 n32
            go_enter Tryz.func133, Tryz.ntmps133
            go_wp2
            go_ret
            exact ⟨by cases b2 <;> rfl, rfl⟩
        · simp only [Bool.not_false, Bool.not_true] at n20 n32
          go_enter Tryz.func133, Tryz.ntmps133
          go_wp2
          go_ret
          exact ⟨by cases b2 <;> rfl, rfl⟩
    · go_enter Tryz.func133, Tryz.ntmps133
      go_wp2
      go_ret
      exact ⟨rfl, rfl⟩
set_option maxRecDepth 100000 in
set_option maxHeartbeats 1000000 in
theorem nameMayBe_any (s : ByteArray) (w : World) (hs : s.size ≤ maxLen) :
    Calls Tryz.prog 129 #[.string s] w fun e w' => e = .returned (.bool (nameOk s)) ∧ w' = w := by
  unfold maxLen at hs
  rcases (show s.size = 0 ∨ (0 < s.size ∧ 64 < s.size) ∨ (0 < s.size ∧ s.size ≤ 64) by omega) with h0 | ⟨h0, h1⟩ | ⟨h0, h1⟩
  · have d0 : (s.size : Int) < 1 := by omega
    have hE : nameOk s = false := by unfold nameOk; rw [show decide (0 < s.size) = false by rw [decide_eq_false_iff_not]; omega]; rfl
    rw [hE]
    clear hE
    go_enter Tryz.func129, Tryz.ntmps129
    go_wp2
    go_ret
    exact ⟨rfl, rfl⟩
  · have d0 : ¬ (s.size : Int) < 1 := by omega
    have d1 : (64 : Int) < (s.size : Int) := by omega
    have hE : nameOk s = false := by unfold nameOk; rw [show decide (s.size ≤ 64) = false by simp; omega]; simp
    rw [hE]
    clear hE
    go_enter Tryz.func129, Tryz.ntmps129
    go_wp2
    go_ret
    exact ⟨rfl, rfl⟩
  · have d0 : ¬ (s.size : Int) < 1 := by omega
    have d1 : ¬ (64 : Int) < (s.size : Int) := by omega
    have HE : Hid (nameOk s = s.data.toList.all (fun c => decide (33 ≤ c.toNat) && decide (c.toNat ≤ 126))) := hide (by unfold nameOk; rw [show decide (0 < s.size) = true by simp; omega, show decide (s.size ≤ 64) = true by simp; omega]; rfl)
    rw [HE.out]
    obtain ⟨R, hR⟩ : ∃ R, R = s.data.toList.all (fun c => decide (33 ≤ c.toNat) && decide (c.toNat ≤ 126)) := ⟨_, rfl⟩
    rw [← hR]
    have HR := hide hR
    clear HE hR
    go_enter Tryz.func129, Tryz.ntmps129
    go_wp2
    go_loop [14] (fun i => ∃ k : Nat, k ≤ s.size ∧ i = .int .i64 k ∧ Hid (∀ j (hj : j < s.data.toList.length), j < k → (decide (33 ≤ s.data.toList[j].toNat) && decide (s.data.toList[j].toNat ≤ 126)) = true)) (fun i => s.size - (intOf i).toNat)
    case atStart => exact ⟨0, Nat.zero_le _, rfl, fun _ _ h => by omega⟩
    case round =>
      obtain ⟨k, hk, rfl, HA⟩ := hrel
      by_cases hlt : k < s.size
      · have hby : ((s[k].toNat : Nat) : Int) ≤ 255 := by have := s[k].toNat_lt; omega
        rcases (show (s[k].toNat : Int) < 33 ∨ (¬ (s[k].toNat : Int) < 33 ∧ (126 : Int) < (s[k].toNat : Int)) ∨ (¬ (s[k].toNat : Int) < 33 ∧ ¬ (126 : Int) < (s[k].toNat : Int)) by omega) with e1 | ⟨e1, e2⟩ | ⟨e1, e2⟩
        · have HF : Hid (R = false) := hide (by
            rw [HR.out, List.all_eq_false]
            exact ⟨s[k], by simp [ByteArray.getElem_eq_getElem_data], by simp; omega⟩)
          go_wp2
          go_ret
          exact ⟨by rw [HF.out]; rfl, rfl⟩
        · have HF : Hid (R = false) := hide (by
            rw [HR.out, List.all_eq_false]
            exact ⟨s[k], by simp [ByteArray.getElem_eq_getElem_data], by simp; omega⟩)
          go_wp2
          go_ret
          exact ⟨by rw [HF.out]; rfl, rfl⟩
        · go_wp2
          go_round
          case rel =>
            refine ⟨k + 1, by omega, by go_num, fun j hj hjk => ?_⟩
            rcases Nat.lt_or_ge j k with h | h
            · exact HA.out j hj h
            · obtain rfl : j = k := by omega
              have : s.data.toList[j] = s[j] := by simp [ByteArray.getElem_eq_getElem_data]
              rw [this]
              simp; omega
          case measure => simp [intOf]; omega
      · have HF : Hid (R = true) := hide (by
          rw [HR.out, List.all_eq_true]
          intro c hc
          obtain ⟨j, hj, rfl⟩ := List.getElem_of_mem hc
          have hjs : j < s.size := by simpa using hj
          exact HA.out j hj (by omega))
        go_wp2
        go_ret
        exact ⟨by rw [HF.out]; rfl, rfl⟩
end Go.Proofs.YtkkommomefmpgaaGreat

/- The program's kernel: Open. -/
namespace Go.Proofs.YtkkommomefmpgaaGreat
open Go.RowKit Go.Maps

theorem TFor.newDe {ρ ρ' : Nat → Option PTag} {I I' : PI} {w w1 w2 : World} {K' : KS} {i : Nat} {flags : Int} {tv : Value} {xb nb : Nat} (h : PK w1 ρ' I' K') (hk : I'.kb = I.kb) (hn : newTags ρ ρ' w) (hT : Turned (Own ρ) w w1) (hF : Fits w1 ρ' I' K' i flags tv xb) (hx : (∃ b, K'.obOf i = .file b) → w.heap.size ≤ xb)
    (hf : flagsOk flags = true) (hfew : K'.de.length < 256) (hD : Described w1 I' K' tv flags nb w2) : PNext ρ I w (K'.newDe i flags) w2 := by
  obtain ⟨ρ2, g1, g2, g3⟩ := h.newDe hF.lt hf hfew hD hF.file hF.term hF.pipe
  refine ⟨ρ2, _, g1, hk, fun k t e => ?_, hT.trans hD.turned (fun k hk' e => ?_)⟩
  · rcases g2 k t e with e' | e' | ⟨e1, e2⟩
    · exact hn k t e'
    · exact .inr (by rw [e']; exact Nat.le_trans hT.size hD.new)
    · exact .inr (by rw [e2]; exact hx e1)
  · have : ∃ t, ρ' k = some t := by
      rcases e with e | e
      · exact ⟨_, by rw [e]; exact (h.comp .kern).2.1⟩
      · exact ⟨_, by rw [e]; exact (h.comp .omap).2⟩
    obtain ⟨t, e'⟩ := this
    rcases hn k t e' with h' | h'
    · exact h'
    · omega
set_option maxRecDepth 100000 in
set_option maxHeartbeats 4000000 in
theorem kopen_any (ρ : Nat → Option PTag) (I : PI) (K : KS) (s : ByteArray) (flags : Int) (w : World) (h : PK w ρ I K) (hs : s.size ≤ maxLen) (hl : K.next < 9223372036854775807) :
    Calls Tryz.prog 47 #[.pointer (some ⟨I.kb, 0, none⟩), .string s, .int .i64 flags] w (PNum ρ I w (K.open s flags)) := by
  have hm := hide (kmade_any I.kb w h.cells.made)
  have c3 := h.cells.opens
  have HNm := hide (nameMayBe_any s w hs)
  have HFl := hide (flagsMayBe_any flags w)
  have sl := (h.comp .omap).1.len Tryz.underlying93
  have HX := hide fun E w' hB => PNum.refused (w' := w') h hB E
  have HNX := hide (h.comp .kern).2.2
  rw [show (K.dl I).length = K.de.length by unfold KS.dl; simp] at sl
  have hfew := h.ok.few
  cases hn : nameOk s with
  | false =>
    rw [show K.open s flags = (0, 61, K) by unfold KS.open; rw [if_pos hn]]
    rw [hn] at HNm
    clear h
    go_enter Tryz.func47, Tryz.ntmps47
    go_wp2_with fail
    refine hm.out.mono ?_
    rintro e w1 ⟨rfl, rfl⟩
    go_wp2_with fail
    refine HNm.out.mono ?_
    rintro e w1 ⟨rfl, rfl⟩
    go_wp2
    go_ret2
    exact HX.out 61 _ (Below.refl _ _)
  | true =>
    rw [hn] at HNm
    cases hf : flagsOk flags with
    | false =>
      rw [show K.open s flags = (0, 65, K) by unfold KS.open; rw [if_neg (by rw [hn]; decide), if_pos hf]]
      rw [hf] at HFl
      clear h
      go_enter Tryz.func47, Tryz.ntmps47
      go_wp2_with fail
      refine hm.out.mono ?_
      rintro e w1 ⟨rfl, rfl⟩
      go_wp2_with fail
      refine HNm.out.mono ?_
      rintro e w1 ⟨rfl, rfl⟩
      go_wp2_with fail
      refine HFl.out.mono ?_
      rintro e w1 ⟨rfl, rfl⟩
      go_wp2
      go_ret2
      exact HX.out 65 _ (Below.refl _ _)
    | true =>
      rw [hf] at HFl
      by_cases hd : 256 ≤ K.de.length
      · rw [show K.open s flags = (0, 3, K) by unfold KS.open; rw [if_neg (by rw [hn]; decide), if_neg (by rw [hf]; decide), if_pos hd]]
        have hd' : (256 : Int) ≤ (K.de.length : Int) := by omega
        clear h
        go_enter Tryz.func47, Tryz.ntmps47
        go_wp2_with fail
        refine hm.out.mono ?_
        rintro e w1 ⟨rfl, rfl⟩
        go_wp2_with fail
        refine HNm.out.mono ?_
        rintro e w1 ⟨rfl, rfl⟩
        go_wp2_with fail
        refine HFl.out.mono ?_
        rintro e w1 ⟨rfl, rfl⟩
        go_wp2
        go_ret2
        exact HX.out 3 _ (Below.refl _ _)
      · have hd' : ¬ (256 : Int) ≤ (K.de.length : Int) := by omega
        have hO : K.open s flags = match K.byName s with
            | some i => if fbit flags 32 = 0 then (K.next, 0, (K.cut i flags).newDe i flags) else (0, 63, K)
            | none => if fbit flags 8 = 0 then (0, 62, K) else if 256 ≤ K.nm.length then (0, 3, K) else (K.next, 0, (K.addTh ⟨s, .file []⟩).newDe K.th.length flags) := by
          unfold KS.open; rw [if_neg (by rw [hn]; decide), if_neg (by rw [hf]; decide), if_neg hd]
          cases K.byName s <;> rfl
        have key : (∃ E, K.open s flags = (0, E, K) ∧ E ≠ 0 ∧ Calls Tryz.prog 134 #[.pointer (some ⟨I.kb, 0, none⟩), .string s, .int .i64 flags] w (TNo w E)) ∨
            ∃ i K1, K.open s flags = ((K.next : Int), 0, K1.newDe i flags) ∧ K1.de = K.de ∧ Calls Tryz.prog 134 #[.pointer (some ⟨I.kb, 0, none⟩), .string s, .int .i64 flags] w (TFor ρ I w K1 i flags) := by
          cases hb : K.byName s with
          | some i =>
            rw [hb] at hO
            simp only at hO
            by_cases hx : fbit flags 32 = 0
            · rw [if_pos hx] at hO
              refine .inr ⟨i, K.cut i flags, hO, ?_, ?_⟩
              · unfold KS.cut; split
                · split <;> rfl
                · rfl
              · cases ho : K.obOf i with
                | file b => exact for_file ρ I K s flags i b w h hs hb hx ho
                | term ls scr => exact for_term ρ I K s flags i ls scr w h hs hb hx ho
                | pipe q rd wt =>
                  have := h.nm.kind i (byName_some hb).1
                  rw [ho] at this
                  rcases this with h | h <;> cases h
            · rw [if_neg hx] at hO
              exact .inl ⟨63, hO, by decide, for_exist ρ I K s flags i w h hs hb hx⟩
          | none =>
            rw [hb] at hO
            simp only at hO
            by_cases hx : fbit flags 8 = 0
            · rw [if_pos hx] at hO
              exact .inl ⟨62, hO, by decide, for_none ρ I K s flags w h hs hb hx⟩
            · rw [if_neg hx] at hO
              by_cases hl2 : 256 ≤ K.nm.length
              · rw [if_pos hl2] at hO
                exact .inl ⟨3, hO, by decide, for_full ρ I K s flags w h hs hb hx hl2⟩
              · rw [if_neg hl2] at hO
                exact .inr ⟨K.th.length, K.addTh ⟨s, .file []⟩, hO, rfl, for_new ρ I K s flags w h hn hb hx (by omega)⟩
        rcases key with ⟨E, hE, hne, HC⟩ | ⟨i, K1, hE, hde, HC⟩
        · rw [hE]
          have hne2 : (E == 0) = false := by simpa using hne
          have HC := hide HC
          clear h hO hE
          go_enter Tryz.func47, Tryz.ntmps47
          go_wp2_with fail
          refine hm.out.mono ?_
          rintro e w1 ⟨rfl, rfl⟩
          go_wp2_with fail
          refine HNm.out.mono ?_
          rintro e w1 ⟨rfl, rfl⟩
          go_wp2_with fail
          refine HFl.out.mono ?_
          rintro e w1 ⟨rfl, rfl⟩
          go_wp2_with fail
          refine HC.out.mono ?_
          rintro e w2 ⟨v, rfl, hB⟩
          go_wp2
          go_ret2
          exact HX.out E _ hB
        · rw [hE]
          have HC := hide HC
          have HE := hide (And.intro hf (And.intro hde hd))
          clear h hO hE HX hde
          go_enter Tryz.func47, Tryz.ntmps47
          go_wp2_with fail
          refine hm.out.mono ?_
          rintro e w1 ⟨rfl, rfl⟩
          go_wp2_with fail
          refine HNm.out.mono ?_
          rintro e w1 ⟨rfl, rfl⟩
          go_wp2_with fail
          refine HFl.out.mono ?_
          rintro e w1 ⟨rfl, rfl⟩
          go_wp2_with fail
          refine HC.out.mono ?_
          rintro e w2 ⟨tT, tu, xb, ρ', I', rfl, h1, h2, h3, h4, h5, h6, h7⟩
          have HDs := hide (describe_any ρ' I' K1 tT tu flags w2 h1 (by rw [h3]; have := HNX.out; omega))
          rw [h2, h3, show ((I.last + 1 : Nat) : Int) = (K.next : Int) by rw [HNX.out]] at HDs
          have HP := hide fun w3 nb hD => TFor.newDe (w2 := w3) (nb := nb) h1 h2 h4 h5 h6 h7 HE.out.1 (by rw [HE.out.2.1]; have := HE.out.2.2; omega) hD
          clear h1 h4 h5 h6 h7
          go_wp2_with fail
          refine HDs.out.mono ?_
          rintro e w3 ⟨rfl, nb, hD⟩
          have HQ := hide (HP.out w3 nb hD)
          clear hD HP
          go_wp2
          go_ret2
          exact ⟨rfl, HQ.out⟩
end Go.Proofs.YtkkommomefmpgaaGreat

/- The program's kernel: give. -/
namespace Go.Proofs.YtkkommomefmpgaaGreat
open Go.RowKit Go.Maps

def NSet (W : World) (b : Nat) (ns : List ByteArray) : Prop := ∃ D : DataW Unit, W.ownsMap Tryz.prog 9 unitElem b ns.length D ∧ ∀ s, Maps.has D (nkey s) = inNames s ns
theorem NSet.lt {W : World} {b : Nat} {ns : List ByteArray} (h : NSet W b ns) : b < W.heap.size := by obtain ⟨D, h1, _⟩ := h; exact h1.lt
theorem NSet.keep {W W' : World} {b : Nat} {ns : List ByteArray} (h : NSet W b ns) (hk : W'.heap[b]? = W.heap[b]?) : NSet W' b ns := by
  obtain ⟨D, ⟨es, clock, hb, F, hs, hD⟩, h2⟩ := h
  exact ⟨D, ⟨es, clock, hk.trans hb, F, hs, hD⟩, h2⟩
theorem NSet.made (w : World) : NSet (w.alloc (.map #[] 0)) w.heap.size [] := ⟨.map [], World.ownsMap_made w _ _ unitElem, fun _ => rfl⟩
theorem zero_unit (w : World) : (zeroValue 226).run Tryz.prog w = .ok (.agg #[]) w := by kernel_rfl
theorem NSet.look {W : World} {b : Nat} {ns : List ByteArray} (h : NSet W b ns) (s : ByteArray) (hs : s.size ≤ maxLen) : (Instr.lookup 117 (.map (some b)) (.string s) true).run Tryz.prog W = .ok (.tuple #[.agg #[], .bool (inNames s ns)]) W := by
  obtain ⟨D, h1, h2⟩ := h
  obtain ⟨v, ps, hrun, hv⟩ := h1.look_ok skeyed (t := 117) (e := 226) Tryz.underlying117 (zero_unit W) (zd := .agg []) (zp := []) unitElem_mk (string_key s hs)
  obtain ⟨rfl, _⟩ := unitElem_inv hv
  rw [hrun, h2 s]
theorem NSet.store {W : World} {b : Nat} {ns : List ByteArray} (h : NSet W b ns) (s : ByteArray) (hs : s.size ≤ maxLen) (hl : ns.length < maxLen) : ∃ w', (Instr.mapUpdate 117 (.map (some b)) (.string s) (.agg #[])).run Tryz.prog W = .ok () w' ∧ Hid (NSet w' b (ns ++ [s])) ∧ W.mapTurned w' b := by
  obtain ⟨D, h1, h2⟩ := h
  obtain ⟨w', hrun, ho, hT⟩ := h1.store skeyed (t := 117) (e := 226) Tryz.underlying117 hl (string_key s hs) (val := .agg #[]) (d := .agg []) (ps := []) unitElem_mk
  refine ⟨w', hrun, hide ⟨_, by simpa using ho, fun x => ?_⟩, hT⟩
  by_cases e : x = s
  · subst e
    rw [Maps.has_put_same h1.isMap (skeyed.key (string_key x hs)), eq_comm, inNames_iff]
    simp
  · rw [Maps.has_put_other (fun e' => e (nkey_inj e')), h2 x, Bool.eq_iff_iff, inNames_iff, inNames_iff]
    simp [e]
def giveE (ns : List ByteArray) (s : ByteArray) : Int := if nameOk s = false then 61 else if inNames s ns = true then 6 else 0
set_option maxRecDepth 100000 in
set_option maxHeartbeats 1000000 in
theorem give_any (b : Nat) (ns : List ByteArray) (s : ByteArray) (w : World) (h : NSet w b ns) (hs : s.size ≤ maxLen) (hl : ns.length < maxLen) :
    Calls Tryz.prog 45 #[.map (some b), .string s] w fun e w' => e = .returned (.int .i64 (giveE ns s)) ∧ (giveE ns s = 0 → NSet w' b (ns ++ [s])) ∧ Turned (fun k => k = b) w w' := by
  have HN := hide (nameMayBe_any s w hs)
  have hlook := h.look s hs
  have hB := recv_below w (Obj.cells #[] 226)
  have hlook1 := (h.keep (hB.block _ h.lt)).look s hs
  have hst := (h.keep (hB.block _ h.lt)).store s hs hl
  have hlt := h.lt
  unfold giveE
  clear h
  cases hn : nameOk s with
  | false =>
    rw [hn] at HN
    rw [if_pos rfl]
    clear hst hlook
    go_enter Tryz.func45, Tryz.ntmps45
    go_wp2_with fail
    refine HN.out.mono ?_
    rintro e w1 ⟨rfl, rfl⟩
    go_wp2
    go_ret
    exact ⟨rfl, fun e => by simp at e, Turned.refl _ _⟩
  | true =>
    rw [hn] at HN
    rw [if_neg (by decide)]
    cases hd : inNames s ns with
    | true =>
      rw [hd] at hlook hlook1
      rw [if_pos rfl]
      clear hst
      go_enter Tryz.func45, Tryz.ntmps45
      go_wp2_with fail
      refine HN.out.mono ?_
      rintro e w1 ⟨rfl, rfl⟩
      go_wp2
      go_ret
      exact ⟨rfl, fun e => by simp at e, Turned.of_below hB⟩
    | false =>
      rw [hd] at hlook hlook1
      rw [if_neg (by decide)]
      obtain ⟨w2, hr2, H2, hT2⟩ := hst
      go_enter Tryz.func45, Tryz.ntmps45
      go_wp2_with fail
      refine HN.out.mono ?_
      rintro e w1 ⟨rfl, rfl⟩
      go_wp2
      go_ret
      exact ⟨rfl, fun _ => H2.out, (Turned.of_below hB).trans (mapTurned_turned hT2) (fun _ _ e => e)⟩
end Go.Proofs.YtkkommomefmpgaaGreat

/- The program's kernel: Check. -/
namespace Go.Proofs.YtkkommomefmpgaaGreat
open Go.RowKit Go.Maps

theorem kfiles_cons (ns : List ByteArray) (n : ByteArray) (d : List UInt8) (l : List Nm) : kfiles ns ((n, d) :: l) = if giveE ns n = 0 then (if 1048576 < d.length then (5, ns) else kfiles (ns ++ [n]) l) else (giveE ns n, ns) := by
  rw [kfiles]
  unfold giveE
  by_cases h1 : nameOk n = false
  · rw [if_pos h1, if_pos h1]; rfl
  · rw [if_neg h1, if_neg h1]
    by_cases h2 : inNames n ns = true
    · rw [if_pos h2, if_pos h2]; rfl
    · rw [if_neg h2, if_neg h2, if_pos rfl]
theorem kterms_cons (ns : List ByteArray) (n : ByteArray) (d : List (List UInt8)) (l : List Tp) : kterms ns ((n, d) :: l) = if giveE ns n = 0 then (if newE d = 0 then kterms (ns ++ [n]) l else newE d) else giveE ns n := by
  rw [kterms]
  unfold giveE
  by_cases h1 : nameOk n = false
  · rw [if_pos h1, if_pos h1]; rfl
  · rw [if_neg h1, if_neg h1]
    by_cases h2 : inNames n ns = true
    · rw [if_pos h2, if_pos h2]; rfl
    · rw [if_neg h2, if_neg h2, if_pos rfl]
theorem pair_cells (w : World) (x y : Value) (t : TypeId) : (w.alloc (Obj.cells #[x, y] t)).cell? ⟨w.heap.size, 0, none⟩ = some x ∧ (w.alloc (Obj.cells #[x, y] t)).cell? ⟨w.heap.size, 1, none⟩ = some y := by
  constructor <;> (simp only [World.cell?, heap_alloc_new]; rfl)
theorem trio_cells (w : World) (x y z : Value) (t : TypeId) : (w.alloc (Obj.cells #[x, y, z] t)).cell? ⟨w.heap.size, 0, none⟩ = some x ∧ (w.alloc (Obj.cells #[x, y, z] t)).cell? ⟨w.heap.size, 1, none⟩ = some y ∧ (w.alloc (Obj.cells #[x, y, z] t)).cell? ⟨w.heap.size, 2, none⟩ = some z := by
  refine ⟨?_, ?_, ?_⟩ <;> (simp only [World.cell?, heap_alloc_new]; rfl)
set_option maxRecDepth 100000 in
set_option maxHeartbeats 8000000 in
theorem kcheck_any (a1 a2 a3 : Option Addr) (c1 c2 c3 : Nat) (fs : List Nm) (ts : List Tp) (l : List Fault) (w : World) (h1 : Nms w (.slice a1 fs.length c1) fs) (h2 : Tps w (.slice a2 ts.length c2) ts) (h3 : Flts w (.slice a3 l.length c3) l) (hs3 : l.length ≤ maxLen) (hl1 : fs.length ≤ 140737488351232) (hl2 : ts.length ≤ 140737488351232) :
    Calls Tryz.prog 11 #[.agg #[.slice a1 fs.length c1, .slice a2 ts.length c2, .slice a3 l.length c3]] w fun e w' => e = .returned (.int .i64 (checkE fs ts l)) ∧ Below w.heap.size w w' := by
  by_cases hc : 256 < fs.length + ts.length
  · rw [show checkE fs ts l = 3 by unfold checkE; rw [if_pos hc]]
    have hc' : (256 : Int) < (fs.length : Int) + (ts.length : Int) := by omega
    go_enter Tryz.func11, Tryz.ntmps11
    go_wp2
    go_ret
    exact ⟨rfl, (Below.refl _ _).alloc (Nat.le_refl _) _⟩
  · have hc' : ¬ (256 : Int) < (fs.length : Int) + (ts.length : Int) := by omega
    have HE2 : Hid ((kfiles [] fs).1 ≠ 0 → checkE fs ts l = (kfiles [] fs).1) := hide fun h' => by unfold checkE; rw [if_neg hc, if_neg h']
    have HE3 : Hid ((kfiles [] fs).1 = 0 → kterms (kfiles [] fs).2 ts ≠ 0 → checkE fs ts l = kterms (kfiles [] fs).2 ts) := hide fun h' h'' => by unfold checkE; rw [if_neg hc, if_pos h', if_neg h'']
    have HE4 : Hid ((kfiles [] fs).1 = 0 → kterms (kfiles [] fs).2 ts = 0 → checkE fs ts l = (chk l).1) := hide fun h' h'' => by unfold checkE; rw [if_neg hc, if_pos h', if_pos h'']
    generalize checkE fs ts l = E at *
    obtain ⟨KF, hK⟩ : ∃ KF, KF = kfiles [] fs := ⟨_, rfl⟩
    have HK := hide hK
    rw [← hK] at HE2 HE3 HE4
    have H1 := hide h1
    have H2 := hide h2
    have H3 := hide h3
    have hmm := @run_makeMap Tryz.prog
    have hsC := recv_below w (Obj.cells #[.slice a1 fs.length c1, .slice a2 ts.length c2, .slice a3 l.length c3] 28)
    obtain ⟨cc0, cc1, cc2⟩ := trio_cells w (.slice a1 fs.length c1) (.slice a2 ts.length c2) (.slice a3 l.length c3) 28
    have hsz0 : (w.alloc (Obj.cells #[.slice a1 fs.length c1, .slice a2 ts.length c2, .slice a3 l.length c3] 28)).heap.size = w.heap.size + 1 := by simp
    have hsM := recv_below (w.alloc (Obj.cells #[.slice a1 fs.length c1, .slice a2 ts.length c2, .slice a3 l.length c3] 28)) (.map #[] 0)
    have hNS := NSet.made (w.alloc (Obj.cells #[.slice a1 fs.length c1, .slice a2 ts.length c2, .slice a3 l.length c3] 28))
    rw [hsz0] at hNS
    have HI : Hid (NSet ((w.alloc (Obj.cells #[.slice a1 fs.length c1, .slice a2 ts.length c2, .slice a3 l.length c3] 28)).alloc (.map #[] 0)) (w.heap.size + 1) [] ∧ ((w.alloc (Obj.cells #[.slice a1 fs.length c1, .slice a2 ts.length c2, .slice a3 l.length c3] 28)).alloc (.map #[] 0)).cell? ⟨w.heap.size, 1, none⟩ = some (.slice a2 ts.length c2) ∧ ((w.alloc (Obj.cells #[.slice a1 fs.length c1, .slice a2 ts.length c2, .slice a3 l.length c3] 28)).alloc (.map #[] 0)).cell? ⟨w.heap.size, 2, none⟩ = some (.slice a3 l.length c3) ∧ Below w.heap.size w ((w.alloc (Obj.cells #[.slice a1 fs.length c1, .slice a2 ts.length c2, .slice a3 l.length c3] 28)).alloc (.map #[] 0))) :=
      hide ⟨hNS, (hsM.cell (p := ⟨w.heap.size, 1, none⟩) (size_new _ _)).trans cc1, (hsM.cell (p := ⟨w.heap.size, 2, none⟩) (size_new _ _)).trans cc2, hsC.trans (hsM.mono hsC.size)⟩
    clear h1 h2 h3 hsC cc0 cc1 cc2 hsz0 hsM hNS hK
    go_enter Tryz.func11, Tryz.ntmps11
    go_wp2
    go_loopw [26] (fun i wr => ∃ (k : Nat) (ns : List ByteArray), k ≤ fs.length ∧ i = .int .i64 k ∧ Hid (ns.length = k) ∧ Hid (NSet wr (w.heap.size + 1) ns) ∧ Hid (kfiles ns (fs.drop k) = KF) ∧ Hid (wr.cell? ⟨w.heap.size, 1, none⟩ = some (.slice a2 ts.length c2) ∧ wr.cell? ⟨w.heap.size, 2, none⟩ = some (.slice a3 l.length c3)) ∧ Below w.heap.size w wr) (fun i _ => fs.length - (intOf i).toNat)
    case atStart => exact ⟨0, [], Nat.zero_le _, rfl, hide rfl, hide HI.out.1, hide (by rw [HK.out]; rfl), hide ⟨HI.out.2.1, HI.out.2.2.1⟩, HI.out.2.2.2⟩
    case round =>
      clear HI
      obtain ⟨k, ns, hk, rfl, HNl, HO, HF, HCc, hB⟩ := hrel
      have hsz := hB.size
      by_cases hlt : k < fs.length
      · obtain ⟨b, off, va, vc, rfl, hbl, q0, q1, -, -, hnm⟩ := H1.out.at k hlt
        have hc0 := (hB.cell (p := ⟨b, off + k * 2, none⟩) hbl).trans q0
        have hc1 := (hB.cell (p := ⟨b, off + k * 2 + 1, none⟩) hbl).trans q1
        have hF := HF.out
        rw [drop_at fs k hlt] at hF
        have hk1 : (0 : Int) ≤ (k : Int) := by omega
        have hk2 : (k : Int) < (fs.length : Int) := by omega
        clear q0 q1 HF
        generalize fs[k] = p at hc0 hc1 hnm hF
        obtain ⟨nm, L⟩ := p
        simp only at hc0 hc1 hnm
        rw [kfiles_cons] at hF
        have hBa := recv_below wr (Obj.cells #[.string nm, .slice va L.length vc] 86)
        obtain ⟨ca0, ca1⟩ := pair_cells wr (.string nm) (.slice va L.length vc) 86
        have hGlt := HO.out.lt
        have HG := hide (give_any (w.heap.size + 1) ns nm _ (HO.out.keep (hBa.block _ hGlt)) hnm (by have := HNl.out; unfold maxLen; omega))
        have HT : Hid (∀ w2, Turned (fun k => k = w.heap.size + 1) (wr.alloc (Obj.cells #[.string nm, .slice va L.length vc] 86)) w2 → w2.cell? ⟨wr.heap.size, 1, none⟩ = some (.slice va L.length vc) ∧ (w2.cell? ⟨w.heap.size, 1, none⟩ = some (.slice a2 ts.length c2) ∧ w2.cell? ⟨w.heap.size, 2, none⟩ = some (.slice a3 l.length c3)) ∧ Below w.heap.size w w2) := hide (fun w2 hT2 => by
          have hlt0 : w.heap.size < wr.heap.size := by omega
          refine ⟨hT2.cell ca1 (by show ¬ wr.heap.size = _; omega), ⟨hT2.cell ((hBa.cell (p := ⟨w.heap.size, 1, none⟩) hlt0).trans HCc.out.1) (by show ¬ w.heap.size = _; omega), hT2.cell ((hBa.cell (p := ⟨w.heap.size, 2, none⟩) hlt0).trans HCc.out.2) (by show ¬ w.heap.size = _; omega)⟩, ?_⟩
          exact (hB.trans (hBa.mono hsz)).trans (hT2.below (fun k e => by omega) (by have := hBa.size; omega)))
        clear hBa
        by_cases hg : giveE ns nm = 0
        · rw [if_pos hg] at hF
          rw [hg] at HG
          by_cases n3 : 1048576 < L.length
          · rw [if_pos n3] at hF
            have HR := hide (HE2.out (by rw [← hF]; simp))
            have HK1 : Hid (KF.1 = 5) := hide (by rw [← hF])
            have d3 : (1048576 : Int) < (L.length : Int) := by omega
            clear hF
            go_wp2_with fail
            refine HG.out.mono ?_
            rintro e w2 ⟨rfl, -, hT2⟩
            obtain ⟨t1, t2, t3⟩ := HT.out w2 hT2
            go_wp2
            go_ret
            exact ⟨by rw [HR.out, HK1.out]; rfl, t3⟩
          · rw [if_neg n3] at hF
            have d3 : ¬ (1048576 : Int) < (L.length : Int) := by omega
            have HF := hide hF
            clear hF
            go_wp2_with fail
            refine HG.out.mono ?_
            rintro e w2 ⟨rfl, hN2, hT2⟩
            obtain ⟨t1, t2, t3⟩ := HT.out w2 hT2
            have HN2 := hide (hN2 (by first | rfl | trivial))
            have HC2 := hide t2
            clear hN2 hT2 t2
            go_wp2
            all_goals
              go_roundw
              case rel => exact ⟨k + 1, ns ++ [nm], by omega, by go_num, hide (by have := HNl.out; simp; omega), HN2, HF, HC2, t3⟩
              case measure => simp [intOf]; omega
        · rw [if_neg hg] at hF
          have HR := hide (HE2.out (by rw [← hF]; exact hg))
          have HK1 : Hid (KF.1 = giveE ns nm) := hide (by rw [← hF])
          generalize giveE ns nm = gE at *
          have hg2 : (gE == 0) = false := by simpa using hg
          clear hF
          go_wp2_with fail
          refine HG.out.mono ?_
          rintro e w2 ⟨rfl, -, hT2⟩
          obtain ⟨t1, t2, t3⟩ := HT.out w2 hT2
          go_wp2
          go_ret
          exact ⟨by rw [HR.out, HK1.out]; rfl, t3⟩
      · have hF := HF.out
        rw [List.drop_eq_nil_of_le (by omega), kfiles] at hF
        have HE3 := hide (HE3.out (by rw [← hF]))
        have HE4 := hide (HE4.out (by rw [← hF]))
        rw [← hF] at HE3 HE4
        obtain ⟨M, hM⟩ : ∃ M, M = kterms ns ts := ⟨_, rfl⟩
        have HM := hide hM
        have HE3 : Hid (M ≠ 0 → E = M) := hide (by rw [hM]; exact HE3.out)
        have HE4 : Hid (M = 0 → E = (chk l).1) := hide (by rw [hM]; exact HE4.out)
        have c41 := HCc.out.1
        clear hF HF HE2 HK hM
        go_wp2
        go_loopw [45] (fun i wq => ∃ (k : Nat) (ms : List ByteArray), k ≤ ts.length ∧ i = .int .i64 k ∧ Hid (ms.length = fs.length + k) ∧ Hid (NSet wq (w.heap.size + 1) ms) ∧ Hid (kterms ms (ts.drop k) = M) ∧ Hid (wq.cell? ⟨w.heap.size, 2, none⟩ = some (.slice a3 l.length c3)) ∧ Below w.heap.size w wq) (fun i _ => ts.length - (intOf i).toNat)
        case atStart => exact ⟨0, ns, Nat.zero_le _, rfl, hide (by have := HNl.out; omega), HO, hide (by rw [HM.out]; rfl), hide HCc.out.2, hB⟩
        case round =>
          rename_i hrel
          clear HO HM HNl hB hsz c41 HCc
          obtain ⟨k2, ms, hk3, rfl, HNl, HO, HF, HCc, hB⟩ := hrel
          have hsz := hB.size
          by_cases hlt2 : k2 < ts.length
          · obtain ⟨b, off, va, vc, rfl, hbl, q0, q1, hln, hnm⟩ := H2.out.at k2 hlt2
            have hc0 := (hB.cell (p := ⟨b, off + k2 * 2, none⟩) hbl).trans q0
            have hc1 := (hB.cell (p := ⟨b, off + k2 * 2 + 1, none⟩) hbl).trans q1
            have hF := HF.out
            rw [drop_at ts k2 hlt2] at hF
            have hk1 : (0 : Int) ≤ (k2 : Int) := by omega
            have hk2 : (k2 : Int) < (ts.length : Int) := by omega
            clear q0 q1 HF
            generalize ts[k2] = p at hc0 hc1 hnm hF hln
            obtain ⟨nm, ls⟩ := p
            simp only at hc0 hc1 hnm hln
            rw [kterms_cons] at hF
            have hBa := recv_below wr (Obj.cells #[.string nm, .slice va ls.length vc] 100)
            obtain ⟨ca0, ca1⟩ := pair_cells wr (.string nm) (.slice va ls.length vc) 100
            have hGlt := HO.out.lt
            have HG := hide (give_any (w.heap.size + 1) ms nm _ (HO.out.keep (hBa.block _ hGlt)) hnm (by have := HNl.out; unfold maxLen; omega))
            have HT : Hid (∀ w2, Turned (fun k => k = w.heap.size + 1) (wr.alloc (Obj.cells #[.string nm, .slice va ls.length vc] 100)) w2 → w2.cell? ⟨wr.heap.size, 1, none⟩ = some (.slice va ls.length vc) ∧ w2.cell? ⟨w.heap.size, 2, none⟩ = some (.slice a3 l.length c3) ∧ Below w.heap.size w w2) := hide (fun w2 hT2 => by
              have hlt0 : w.heap.size < wr.heap.size := by omega
              refine ⟨hT2.cell ca1 (by show ¬ wr.heap.size = _; omega), hT2.cell ((hBa.cell (p := ⟨w.heap.size, 2, none⟩) hlt0).trans HCc.out) (by show ¬ w.heap.size = _; omega), ?_⟩
              exact (hB.trans (hBa.mono hsz)).trans (hT2.below (fun k e => by omega) (by have := hBa.size; omega)))
            have HL := hide hln
            clear hBa hln
            by_cases hg : giveE ms nm = 0
            · rw [if_pos hg] at hF
              rw [hg] at HG
              by_cases n3 : newE ls = 0
              · rw [if_pos n3] at hF
                have HF := hide hF
                have HN3 := hide n3
                clear hF n3
                go_wp2_with fail
                refine HG.out.mono ?_
                rintro e w2 ⟨rfl, hN2, hT2⟩
                obtain ⟨t1, t2, t3⟩ := HT.out w2 hT2
                have HN2 := hide (hN2 (by first | rfl | trivial))
                have HC2 := hide t2
                have HTn := hide (Te_new_good (.slice va ls.length vc) ls w2 (HL.out.below t3) HN3.out)
                clear hN2 hT2 t2
                go_wp2_with fail
                refine HTn.out.mono ?_
                rintro e w3 ⟨tp, O, rfl, -, hB3⟩
                have HN3' := hide (HN2.out.keep (hB3.block _ HN2.out.lt))
                have HC3 := hide ((hB3.cell (p := ⟨w.heap.size, 2, none⟩) (World.block_lt_of_cell? w2 _ HC2.out)).trans HC2.out)
                have t4 := t3.trans (hB3.mono t3.size)
                clear hB3
                go_wp2
                all_goals
                  go_roundw
                  case rel => exact ⟨k2 + 1, ms ++ [nm], by omega, by go_num, hide (by have := HNl.out; simp; omega), HN3', HF, HC3, t4⟩
                  case measure => simp [intOf]; omega
              · rw [if_neg n3] at hF
                have HR := hide (HE3.out (by rw [← hF]; exact n3))
                have HK1 := hide hF
                have HN3 := hide n3
                clear hF
                obtain ⟨x, hx⟩ : ∃ x, x = newE ls := ⟨_, rfl⟩
                have n3' : (x == 0) = false := by rw [hx]; simpa using n3
                have n4 : ¬ x = 0 := by rw [hx]; exact n3
                have HXx := hide hx
                clear hx n3
                go_wp2_with fail
                refine HG.out.mono ?_
                rintro e w2 ⟨rfl, -, hT2⟩
                obtain ⟨t1, t2, t3⟩ := HT.out w2 hT2
                have HTn := hide (Te_new_bad (.slice va ls.length vc) ls w2 (HL.out.below t3) HN3.out)
                rw [← HXx.out] at HTn
                clear hT2 t2
                go_wp2_with fail
                refine HTn.out.mono ?_
                rintro e w3 ⟨rfl, rfl⟩
                go_wp2
                go_ret
                exact ⟨by rw [HR.out, ← HK1.out, ← HXx.out]; rfl, t3⟩
            · rw [if_neg hg] at hF
              have HR := hide (HE3.out (by rw [← hF]; exact hg))
              have HK1 := hide hF
              clear hF
              generalize giveE ms nm = gE at *
              have hg2 : (gE == 0) = false := by simpa using hg
              go_wp2_with fail
              refine HG.out.mono ?_
              rintro e w2 ⟨rfl, -, hT2⟩
              obtain ⟨t1, t2, t3⟩ := HT.out w2 hT2
              go_wp2
              go_ret
              exact ⟨by rw [HR.out, ← HK1.out]; rfl, t3⟩
          · have hF := HF.out
            rw [List.drop_eq_nil_of_le (by omega), kterms] at hF
            have HR := hide (HE4.out hF.symm)
            have c42 := HCc.out
            have HCk := hide (Fa_check_any (.slice a3 l.length c3) l wr (H3.out.below hB) hs3)
            clear hF HF
            go_wp2_with fail
            refine HCk.out.mono ?_
            rintro e w2 ⟨rfl, hB2⟩
            go_wp2
            go_ret
            exact ⟨by rw [HR.out]; rfl, hB.trans (hB2.mono hsz)⟩
end Go.Proofs.YtkkommomefmpgaaGreat

/- The program's kernel as it is being made: without its plan. -/
namespace Go.Proofs.YtkkommomefmpgaaGreat
open Go.RowKit Go.Maps

structure PX (W : World) (ρ : Nat → Option PTag) (I : PI) (K : KS) : Prop where
  comp : ∀ t, t ≠ .kern → t ≠ .plan → PComp W ρ I K t
  lt : ∀ k t, ρ k = some t → k < W.heap.size
  ok : KOk K
  nm : KNm K
theorem PX.more {W W' : World} {ρ : Nat → Option PTag} {I : PI} {K K' : KS} {t : Th} (h : PX W ρ I K) (hM : More K K' t) (p c : Nat) {O' : Nat → Prop} (hO : PObj W' O' p t.ob) (hO' : ∀ k, O' k → W.heap.size ≤ k ∧ k ≠ c)
    (hc : ∀ ls scr, t.ob = .term ls scr → COc W' c p scr.length ∧ W.heap.size ≤ c) (hT : Turned (fun k => ρ k = some .fmap ∨ ρ k = some .tmap) W W') (hok : KOk K') (hnm : KNm K')
    (hf : PMap W' Tryz.prog 9 I.fm (K'.fl { I with ob := upd I.ob K.th.length p, cb := upd I.cb K.th.length c })) (ht : PMap W' Tryz.prog 9 I.tm (K'.tl { I with ob := upd I.ob K.th.length p, cb := upd I.cb K.th.length c })) :
    ∃ ρ', PX W' ρ' { I with ob := upd I.ob K.th.length p, cb := upd I.cb K.th.length c } K' ∧ newTags ρ ρ' W ∧ ∀ k, k < W.heap.size → ρ' k = ρ k := by
  classical
  obtain ⟨ρ', hρ⟩ : ∃ ρ' : Nat → Option PTag, ρ' = fun k => if k < W.heap.size then ρ k else if k < W'.heap.size then (if k = c then some (.cons K.th.length) else if O' k then some (.obj K.th.length) else none) else none := ⟨_, rfl⟩
  have low : ∀ k, k < W.heap.size → ρ' k = ρ k := fun k hlt => by rw [hρ]; simp [hlt]
  have fit : ∀ {k t}, ρ k = some t → ρ' k = some t := fun {k t} e => (low k (h.lt k t e)).trans e
  have back : ∀ {k t}, ρ' k = some t → ρ k = some t ∨ (W.heap.size ≤ k ∧ k < W'.heap.size) := by
    intro k t e
    by_cases hlt : k < W.heap.size
    · rw [low k hlt] at e; exact .inl e
    · rw [hρ] at e
      simp only [if_neg hlt] at e
      split at e
      · exact .inr ⟨by omega, by assumption⟩
      · cases e
  have key : ∀ t, t ≠ .fmap → t ≠ .tmap → t ≠ .kern → t ≠ .plan → PComp W' ρ I K t := fun t h1 h2 h3 h4 => (h.comp t h3 h4).keep (fun k e hlt => hT.block k hlt (fun e' => by
    rcases e' with e' | e'
    · rw [e'] at e; exact h1 (Option.some.inj e).symm
    · rw [e'] at e; exact h2 (Option.some.inj e).symm)) hT.size
  have hlen : K'.th.length = K.th.length + 1 := by rw [hM.th]; simp
  have hthv : ∀ d ∈ K.de, thingV { I with ob := upd I.ob K.th.length p, cb := upd I.cb K.th.length c } K' d = thingV I K d := by
    intro d hd
    have hlt := h.ok.th d hd
    unfold thingV
    rw [KS.tho_obOf, KS.tho_obOf, hM.obOf hlt]
    simp only [upd_other (Nat.ne_of_lt hlt)]
  refine ⟨ρ', ⟨fun t' h3 h4 => ?_, fun k t e => ?_, hok, hnm⟩, fun k t e => (back e).imp (fun e' => ⟨t, e'⟩) (fun e' => e'.1), low⟩
  · cases t' with
    | kern => exact absurd rfl h3
    | fmap => exact ⟨hf, fit (h.comp .fmap (by simp) (by simp)).2⟩
    | tmap => exact ⟨ht, fit (h.comp .tmap (by simp) (by simp)).2⟩
    | omap =>
      obtain ⟨a1, a2⟩ := key .omap (by simp) (by simp) (by simp) (by simp)
      refine ⟨?_, fit a2⟩
      unfold KS.dl at a1 ⊢
      rw [hM.de]
      exact a1
    | plan => exact absurd rfl h4
    | obj j =>
      intro hj
      by_cases e : j = K.th.length
      · subst e
        rw [hM.atNew hj]
        simp only [upd_same]
        refine hO.trim.mono fun k ⟨e1, e2⟩ => ?_
        have := hO' k e1
        rw [hρ]
        simp [Nat.not_lt.2 this.1, e2, this.2, e1]
      · have hj' : j < K.th.length := by omega
        rw [hM.at hj' hj]
        simp only [upd_other e]
        exact (key (.obj j) (by simp) (by simp) (by simp) (by simp) hj').mono fun k e => fit e
    | cons j =>
      intro hj ls scr e1
      by_cases e : j = K.th.length
      · subst e
        rw [hM.atNew hj] at e1
        obtain ⟨a1, a2⟩ := hc ls scr e1
        simp only [upd_same]
        have hlt : c < W'.heap.size := (Array.getElem?_eq_some_iff.1 a1).1
        exact ⟨a1, by rw [hρ]; simp [Nat.not_lt.2 a2, hlt]⟩
      · have hj' : j < K.th.length := by omega
        rw [hM.at hj' hj] at e1
        simp only [upd_other e]
        obtain ⟨a1, a2⟩ := key (.cons j) (by simp) (by simp) (by simp) (by simp) hj' ls scr e1
        exact ⟨a1, fit a2⟩
    | desc n =>
      intro d hd e
      rw [hM.de] at hd
      obtain ⟨a1, a2⟩ := key (.desc n) (by simp) (by simp) (by simp) (by simp) d hd e
      exact ⟨by rw [hthv d hd]; exact a1, fit a2⟩
    | ofile n =>
      intro d hd e b hb
      rw [hM.de] at hd
      have hlt := h.ok.th d hd
      rw [KS.tho_obOf, hM.obOf hlt] at hb
      simp only [upd_other (Nat.ne_of_lt hlt)]
      obtain ⟨a1, a2⟩ := key (.ofile n) (by simp) (by simp) (by simp) (by simp) d hd e b hb
      exact ⟨a1, fit a2⟩
  · rcases back e with e' | e'
    · exact Nat.lt_of_lt_of_le (h.lt k t e') hT.size
    · exact e'.2
theorem PX.under {W W' : World} {ρ : Nat → Option PTag} {I : PI} {K : KS} (h : PX W ρ I K) (hB : Below W.heap.size W W') : PX W' ρ I K :=
  ⟨fun t h1 h2 => (h.comp t h1 h2).keep (fun k e _ => hB.block k (h.lt k t e)) hB.size, fun k t e => Nat.lt_of_lt_of_le (h.lt k t e) hB.size, h.ok, h.nm⟩
set_option maxRecDepth 100000 in
set_option maxHeartbeats 2000000 in
theorem newFile_raw (kb fm : Nat) (L : List (Lit × Nat)) (s : ByteArray) (v : Value) (b : List UInt8) (w : World) (hc : w.cell? ⟨kb, 1, none⟩ = some (.map (some fm))) (hm : PMap w Tryz.prog 9 fm L) (hv : Bys w v b) (hb : b.length ≤ 1048576) (hs : s.size ≤ maxLen) (hnew : ∀ q ∈ L, q.1 ≠ nkey s) (hl : L.length < maxLen) :
    Calls Tryz.prog 37 #[.pointer (some ⟨kb, 0, none⟩), .string s, v] w fun e w' => ∃ p, e = .returned (.pointer (some ⟨p, 0, none⟩)) ∧ PObj w' (fun k => w.heap.size ≤ k ∧ k < w'.heap.size) p (.file b) ∧ PMap w' Tryz.prog 9 fm ((nkey s, p) :: L) ∧ Turned (fun k => k = fm) w w' := by
  have HN := hide (po_new_file v b w hv hb)
  have HM := hide hm
  have hlt := World.block_lt_of_cell? w _ hc
  clear hm hv
  go_enter Tryz.func37, Tryz.ntmps37
  go_wp2_with fail
  refine HN.out.mono ?_
  rintro e w1 ⟨p, rfl, hO, hB⟩
  have c1 := (hB.cell (p := ⟨kb, 1, none⟩) hlt).trans hc
  have hm1 := HM.out.keep (hB.block _ HM.out.lt)
  obtain ⟨w2, hrun, hm2, hmt⟩ := hm1.store skeyed Tryz.underlying91 hl (key := .string s) p (string_key s hs) hnew
  have HA : Hid (PObj w2 (fun k => w.heap.size ≤ k ∧ k < w2.heap.size) p (.file b) ∧ PMap w2 Tryz.prog 9 fm ((nkey s, p) :: L) ∧ Turned (fun k => k = fm) w w2) := hide (by
    have hT2 := mapTurned_turned hmt
    have hfl := HM.out.lt
    refine ⟨(hO.keep (fun k e hlt => hT2.block k hlt (by omega)) hT2.size).mono fun k e => ⟨e.1, Nat.lt_of_lt_of_le e.2 hT2.size⟩, hm2, (Turned.of_below hB).trans hT2 (fun _ _ e => e)⟩)
  clear hO hB hm1 hm2 hmt
  go_wp2
  go_ret
  exact ⟨p, rfl, HA.out⟩
end Go.Proofs.YtkkommomefmpgaaGreat

/- The program's kernel as it is being made: how it begins, and how files and terminals come to it. -/
namespace Go.Proofs.YtkkommomefmpgaaGreat
open Go.RowKit Go.Maps

def KB0 (W : World) (I : PI) : Prop := W.heap[I.kb]? = some (.cells ([.bool true, .map (some I.fm), .map (some I.tm), .map (some I.om), .int .i64 (0 : Nat), .pointer none, .int .i64 (0 : Nat), .int .i64 (0 : Nat)] : List Value).toArray 96 (0, 0))
structure PY (W : World) (B : Nat) (ρ : Nat → Option PTag) (I : PI) (K : KS) (k0 f0 t0 o0 : Nat) : Prop where
  px : PX W ρ I K
  blk : KB0 W I
  kern : ρ I.kb = some .kern
  kb : I.kb = k0
  fm : I.fm = f0
  tm : I.tm = t0
  om : I.om = o0
  last : I.last = 0
  low : ∀ k t, ρ k = some t → B ≤ k
def pi0 (n : Nat) : PI := ⟨n + 1 + 1 + 1, n, n + 1, n + 1 + 1, 0, .slice none 0 0, id, id, id, id, 0⟩
def rho0 (n : Nat) (k : Nat) : Option PTag := if k = n then some .fmap else if k = n + 1 then some .tmap else if k = n + 1 + 1 then some .omap else if k = n + 1 + 1 + 1 then some .kern else none
theorem planOk_of {l : List Fault} (h : planOk l) : KOk (KS.nought l) := by
  refine ⟨Nat.zero_le _, Nat.zero_le _, ?_, ?_, ?_, ?_, ?_, ?_, ?_, h⟩ <;> (intro d hd; cases hd)
theorem nought_nm (l : List Fault) : KNm (KS.nought l) := by
  refine ⟨List.Pairwise.nil, ?_, ?_, ?_⟩
  · intro i hi; cases hi
  · intro i hi; exact absurd hi (Nat.not_lt_zero _)
  · intro i hi; cases hi
theorem start_py (w1 : World) (B : Nat) (hB : B ≤ w1.heap.size) (l : List Fault) (hl : planOk l) :
    PY ((((w1.alloc (.map #[] 0)).alloc (.map #[] 0)).alloc (.map #[] 0)).alloc (Obj.cells #[.bool true, .map (some w1.heap.size), .map (some (w1.heap.size + 1)), .map (some (w1.heap.size + 1 + 1)), .int .i64 0, .pointer none, .int .i64 0, .int .i64 0] 96)) B (rho0 w1.heap.size) (pi0 w1.heap.size) (KS.nought l) (w1.heap.size + 1 + 1 + 1) w1.heap.size (w1.heap.size + 1) (w1.heap.size + 1 + 1) := by
  have s1 : (w1.alloc (.map #[] 0)).heap.size = w1.heap.size + 1 := by simp
  have s2 : ((w1.alloc (.map #[] 0)).alloc (.map #[] 0)).heap.size = w1.heap.size + 1 + 1 := by simp
  have s3 : (((w1.alloc (.map #[] 0)).alloc (.map #[] 0)).alloc (.map #[] 0)).heap.size = w1.heap.size + 1 + 1 + 1 := by simp
  have p1 := PMap.made w1 Tryz.prog 9
  have p2 := PMap.made (w1.alloc (.map #[] 0)) Tryz.prog 9
  have p3 := PMap.made ((w1.alloc (.map #[] 0)).alloc (.map #[] 0)) Tryz.prog 3
  rw [s1] at p2
  rw [s2] at p3
  have k1 := fun (w : World) (o : Obj) (b : Nat) (h : b < w.heap.size) => (recv_below w o).block b h
  refine ⟨⟨fun t h1 h2 => ?_, fun k t e => ?_, planOk_of hl, nought_nm l⟩, ?_, by show rho0 w1.heap.size (w1.heap.size + 1 + 1 + 1) = _; unfold rho0; rw [if_neg (by omega), if_neg (by omega), if_neg (by omega), if_pos rfl], rfl, rfl, rfl, rfl, rfl, fun k t e => ?_⟩
  · cases t with
    | kern => exact absurd rfl h1
    | plan => exact absurd rfl h2
    | fmap => exact ⟨((p1.keep (k1 _ _ _ (by omega))).keep (k1 _ _ _ (by omega))).keep (k1 _ _ _ (by show w1.heap.size < _; omega)), by simp [rho0, pi0]⟩
    | tmap => exact ⟨(p2.keep (k1 _ _ _ (by omega))).keep (k1 _ _ _ (by show w1.heap.size + 1 < _; omega)), by simp [rho0, pi0]⟩
    | omap => exact ⟨p3.keep (k1 _ _ _ (by show w1.heap.size + 1 + 1 < _; omega)), by show rho0 w1.heap.size (w1.heap.size + 1 + 1) = _; unfold rho0; rw [if_neg (by omega), if_neg (by omega), if_pos rfl]⟩
    | obj i => exact fun h => absurd h (Nat.not_lt_zero _)
    | cons i => exact fun h => absurd h (Nat.not_lt_zero _)
    | desc n => exact fun d hd => by cases hd
    | ofile n => exact fun d hd => by cases hd
  · have : k < w1.heap.size + 1 + 1 + 1 + 1 := by
      unfold rho0 at e
      split at e
      · omega
      · split at e
        · omega
        · split at e
          · omega
          · split at e
            · omega
            · cases e
    simp
    omega
  · have := heap_alloc_new (((w1.alloc (.map #[] 0)).alloc (.map #[] 0)).alloc (.map #[] 0)) (Obj.cells #[.bool true, .map (some w1.heap.size), .map (some (w1.heap.size + 1)), .map (some (w1.heap.size + 1 + 1)), .int .i64 0, .pointer none, .int .i64 0, .int .i64 0] 96)
    rw [s3] at this
    exact this
  · unfold rho0 at e
    split at e
    · omega
    · split at e
      · omega
      · split at e
        · omega
        · split at e
          · omega
          · cases e
theorem PY.under {W W' : World} {B : Nat} {ρ : Nat → Option PTag} {I : PI} {K : KS} {k0 f0 t0 o0 : Nat} (h : PY W B ρ I K k0 f0 t0 o0) (hB : Below W.heap.size W W') : PY W' B ρ I K k0 f0 t0 o0 :=
  ⟨h.px.under hB, (hB.block _ (h.px.lt _ _ h.kern)).trans h.blk, h.kern, h.kb, h.fm, h.tm, h.om, h.last, h.low⟩
theorem PY.addFile {W W' : World} {B : Nat} {ρ : Nat → Option PTag} {I : PI} {K : KS} {k0 f0 t0 o0 : Nat} (h : PY W B ρ I K k0 f0 t0 o0) (hB : B ≤ W.heap.size) {s : ByteArray} {b : List UInt8} {p : Nat} (hO : PObj W' (fun k => W.heap.size ≤ k ∧ k < W'.heap.size) p (.file b)) (hm : PMap W' Tryz.prog 9 I.fm ((nkey s, p) :: K.fl I)) (hT : Turned (fun k => k = I.fm) W W')
    (hs : nameOk s = true) (hnew : ∀ i ∈ K.nm, K.nameOf i ≠ s) (hl : K.nm.length < 256) : ∃ ρ' I', PY W' B ρ' I' (K.addTh ⟨s, .file b⟩) k0 f0 t0 o0 := by
  have hfm := (h.px.comp .fmap (by simp) (by simp)).2
  have htm := h.px.comp .tmap (by simp) (by simp)
  have hfl := fl_addFile K h.px.ok I s b p I.fm
  have hfmlt := h.px.lt _ _ hfm
  have hne : I.tm ≠ I.fm := fun e => by have := htm.2; rw [e, hfm] at this; cases this
  have hne2 : I.kb ≠ I.fm := fun e => by have := h.kern; rw [e, hfm] at this; cases this
  obtain ⟨ρ', a1, a2, a3⟩ := h.px.more (more_addTh K ⟨s, .file b⟩) p I.fm (W' := W') hO (fun k e => ⟨e.1, by omega⟩) (fun ls scr e => by cases e) (hT.mono fun k e => by rw [e]; exact .inl hfm)
    (h.px.ok.addTh _ hl) (h.px.nm.addTh h.px.ok _ (.inl rfl) hs hnew) (hm.perm hfl.1.symm) ((htm.1.keep (hT.block _ (h.px.lt _ _ htm.2) hne)).perm hfl.2.symm)
  refine ⟨ρ', _, a1, (hT.block _ (h.px.lt _ _ h.kern) hne2).trans h.blk, by rw [a3 _ (h.px.lt _ _ h.kern)]; exact h.kern, h.kb, h.fm, h.tm, h.om, h.last, fun k t e => ?_⟩
  rcases a2 k t e with ⟨t', e'⟩ | e'
  · exact h.low k t' e'
  · omega
theorem PY.addTerm {W W' : World} {B : Nat} {ρ : Nat → Option PTag} {I : PI} {K : KS} {k0 f0 t0 o0 : Nat} (h : PY W B ρ I K k0 f0 t0 o0) (hB : B ≤ W.heap.size) {s : ByteArray} {ls : List (List UInt8)} {p c : Nat} {O : Nat → Prop} (hO : PObj W' O p (.term ls [])) (hO' : ∀ k, O k → W.heap.size ≤ k ∧ k ≠ c) (hc : COc W' c p 0) (hcl : W.heap.size ≤ c) (hm : PMap W' Tryz.prog 9 I.tm ((nkey s, c) :: K.tl I)) (hT : Turned (fun k => k = I.tm) W W')
    (hs : nameOk s = true) (hnew : ∀ i ∈ K.nm, K.nameOf i ≠ s) (hl : K.nm.length < 256) : ∃ ρ' I', PY W' B ρ' I' (K.addTh ⟨s, .term ls []⟩) k0 f0 t0 o0 := by
  have htm := (h.px.comp .tmap (by simp) (by simp)).2
  have hfm := h.px.comp .fmap (by simp) (by simp)
  have hfl := fl_addTerm K h.px.ok I s ls [] p c
  have hne : I.fm ≠ I.tm := fun e => by have := hfm.2; rw [e, htm] at this; cases this
  have hne2 : I.kb ≠ I.tm := fun e => by have := h.kern; rw [e, htm] at this; cases this
  obtain ⟨ρ', a1, a2, a3⟩ := h.px.more (more_addTh K ⟨s, .term ls []⟩) p c (W' := W') hO hO' (fun ls' scr e => by cases e; exact ⟨hc, hcl⟩) (hT.mono fun k e => by rw [e]; exact .inr htm)
    (h.px.ok.addTh _ hl) (h.px.nm.addTh h.px.ok _ (.inr rfl) hs hnew) ((hfm.1.keep (hT.block _ (h.px.lt _ _ hfm.2) hne)).perm hfl.1.symm) (hm.perm hfl.2.symm)
  refine ⟨ρ', _, a1, (hT.block _ (h.px.lt _ _ h.kern) hne2).trans h.blk, by rw [a3 _ (h.px.lt _ _ h.kern)]; exact h.kern, h.kb, h.fm, h.tm, h.om, h.last, fun k t e => ?_⟩
  rcases a2 k t e with ⟨t', e'⟩ | e'
  · exact h.low k t' e'
  · omega
theorem PY.done {W W1 W' : World} {B : Nat} {ρ : Nat → Option PTag} {I : PI} {K : KS} {k0 f0 t0 o0 : Nat} (h : PY W B ρ I K k0 f0 t0 o0) (hB : B ≤ W.heap.size) (hN : K.next = 1 ∧ K.reads = 0 ∧ K.writes = 0) {g : Nat} {v : Value} (hP : PlanAt W1 g v K.plan) (hg : W.heap.size ≤ g) (hv : ∀ k, v.ownBlock = some k → W.heap.size ≤ k) (hB1 : Below W.heap.size W W1)
    (hW : W' = W1.setCell ⟨k0, 5, none⟩ (.pointer (some ⟨g, 0, none⟩))) (hgl : g < W1.heap.size) (hvl : ∀ k, v.ownBlock = some k → k < W1.heap.size) : KAt W' (fun k => B ≤ k) k0 K := by
  have hk0 := h.kb
  subst hk0
  have hkl := h.px.lt _ _ h.kern
  have hb1 : W1.heap[I.kb]? = _ := (hB1.block _ hkl).trans h.blk
  have hT : Turned (fun k => k = I.kb) W1 W' := by rw [hW]; exact (Turned.refl _ W1).set (.inl rfl)
  have hsz : W'.heap.size = W1.heap.size := by rw [hW]; exact heap_set_size _ _ _ _
  classical
  obtain ⟨ρ', hρ⟩ : ∃ ρ' : Nat → Option PTag, ρ' = fun k => if k = g ∨ v.ownBlock = some k then some .plan else ρ k := ⟨_, rfl⟩
  have hno : ∀ {k t}, ρ k = some t → ¬ (k = g ∨ v.ownBlock = some k) := fun {k t} e e' => by
    have := h.px.lt k t e
    rcases e' with e' | e'
    · omega
    · have := hv k e'; omega
  have fit : ∀ {k t}, ρ k = some t → ρ' k = some t := fun {k t} e => by rw [hρ]; simp only [if_neg (hno e)]; exact e
  have back : ∀ {k t}, ρ' k = some t → ρ k = some t ∨ k = g ∨ v.ownBlock = some k := fun {k t} e => by
    rw [hρ] at e
    simp only at e
    split at e
    · rename_i hh; exact .inr hh
    · exact .inl e
  have key : ∀ t, t ≠ .kern → t ≠ .plan → PComp W' ρ { I with pb := g, pv := v } K t := fun t h1 h2 => by
    have := ((h.px.comp t h1 h2).keep (W' := W1) (fun k e hlt => hB1.block k hlt) hB1.size).keep (W' := W') (fun k e hlt => hT.block k hlt (fun e' => by rw [e', h.kern] at e; exact h1 (Option.some.inj e).symm)) hT.size
    cases t <;> first | exact this | exact absurd rfl h1 | exact absurd rfl h2
  refine ⟨ρ', { I with pb := g, pv := v }, ⟨fun t => ?_, fun k t e => ?_, h.px.ok, h.px.nm⟩, rfl, fun k t e => ?_⟩
  · cases t with
    | kern =>
      refine ⟨?_, fit h.kern, by show K.next = I.last + 1; rw [h.last, hN.1]⟩
      rw [hW, heap_setCell_same 5 _ hb1, hN.2.1, hN.2.2]
      show _ = some (Obj.cells ([_, _, _, _, Value.int .i64 I.last, _, _, _] : List Value).toArray _ _)
      rw [h.last]
      rfl
    | plan =>
      refine ⟨?_, by rw [hρ]; simp, fun k e => by rw [hρ]; simp [show v.ownBlock = some k from e]⟩
      refine hP.keep fun k hlt e => hT.block k hlt (fun e' => ?_)
      rcases e with e | e
      · omega
      · have := hv k e; omega
    | fmap => obtain ⟨x1, x2⟩ := key .fmap (by simp) (by simp); exact ⟨x1, fit x2⟩
    | tmap => obtain ⟨x1, x2⟩ := key .tmap (by simp) (by simp); exact ⟨x1, fit x2⟩
    | omap => obtain ⟨x1, x2⟩ := key .omap (by simp) (by simp); exact ⟨x1, fit x2⟩
    | obj i => exact fun hi => (key (.obj i) (by simp) (by simp) hi).mono fun k e => fit e
    | cons i => exact fun hi ls scr e => by obtain ⟨x1, x2⟩ := key (.cons i) (by simp) (by simp) hi ls scr e; exact ⟨x1, fit x2⟩
    | desc n => exact fun d hd e => by obtain ⟨x1, x2⟩ := key (.desc n) (by simp) (by simp) d hd e; exact ⟨x1, fit x2⟩
    | ofile n => exact fun d hd e b hb => by obtain ⟨x1, x2⟩ := key (.ofile n) (by simp) (by simp) d hd e b hb; exact ⟨x1, fit x2⟩
  · rw [hsz]
    rcases back e with e' | e' | e'
    · exact Nat.lt_of_lt_of_le (h.px.lt k t e') hB1.size
    · omega
    · exact hvl k e'
  · rcases back e with e' | e' | e'
    · exact h.low k t e'
    · omega
    · have := hv k e'; omega
end Go.Proofs.YtkkommomefmpgaaGreat

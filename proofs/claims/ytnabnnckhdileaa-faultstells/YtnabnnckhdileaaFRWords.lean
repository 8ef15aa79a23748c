/- The reference's Words, for any text. -/
import Derived.Test.YtnabnnckhdileaaFRWord
namespace Go.Proofs.Ytnabnnckhdileaa
open Go.RowKit

/-- The word that begins at place a, as a cell. -/
def sv (b : List UInt8) (a : Nat) : Value := .string ⟨(wd (b.drop a)).toArray⟩
theorem owns_apart {W : World} {b1 b2 e1 e2 s1 s2 n1 n2 : Nat} {v1 v2 : Value} {x1 x2 : List Value} (h1 : W.ownsRow b1 e1 s1 v1 n1 x1) (h2 : W.ownsRow b2 e2 s2 v2 n2 x2) (hne : e1 ≠ e2) : v1.ownBlock = none ∨ v1.ownBlock ≠ v2.ownBlock := by
  rcases h1.2 with ⟨rfl, _⟩ | ⟨g1, c1, u1, rfl, _, q1, _⟩
  · exact .inl rfl
  · rcases h2.2 with ⟨rfl, _⟩ | ⟨g2, c2, u2, rfl, _, q2, _⟩
    · exact .inr (by simp [Value.ownBlock])
    · refine .inr fun e => ?_
      have : g1 = g2 := Option.some.inj e
      subst this
      rw [q1] at q2
      simp at q2
      exact hne q2.2
theorem append_keeps {W W' : World} {o : Obj} {b1 b2 e1 e2 s1 s2 n1 n2 : Nat} {v1 v2 : Value} {x1 x2 : List Value} (h1 : W.ownsRow b1 e1 s1 v1 n1 x1) (h2 : W.ownsRow b2 e2 s2 v2 n2 x2) (hne : e1 ≠ e2) (hg : (W.alloc o).grownBy W' v2.ownBlock) : W'.ownsRow b1 e1 s1 v1 n1 x1 :=
  (h1.alloc o).kept hg (owns_apart (h1.alloc o) (h2.alloc o) hne)
theorem append_below {w W W' : World} {o : Obj} {r : Option Nat} (hB : Below w.heap.size w W) (hg : (W.alloc o).grownBy W' r) (hr : ∀ j, r = some j → w.heap.size ≤ j) : Below w.heap.size w W' :=
  (hB.alloc hB.size o).grown hg (Nat.le_trans hB.size (Nat.le_of_lt (size_new _ _))) hr
theorem bl_end (s : ByteArray) : bl s.data.toList s.size = true := by
  unfold bl
  rw [List.getD_eq_getElem?_getD, List.getElem?_eq_none (by rw [Array.length_toList]; exact Nat.le_refl _)]
  rfl
theorem word_cut (s : ByteArray) (f k : Nat) (hf : f < k) (hk : k ≤ s.size) (hb : bl s.data.toList k = true) (ha : ∀ j, f ≤ j → j < k → bl s.data.toList j = false) :
    s.extract f k = ⟨(wd (s.data.toList.drop f)).toArray⟩ := by
  have hl : s.data.toList.length = s.size := Array.length_toList
  have hw : wd (s.data.toList.drop f) = (s.data.toList.drop f).take (k - f) := by
    refine wd_take _ _ (by rw [List.length_drop, hl]; omega) (fun j hj => ?_) ?_
    · have := ha (f + j) (by omega) (by omega)
      unfold bl at this
      rw [List.getElem?_drop]
      intro e
      rw [List.getD_eq_getElem?_getD, e] at this
      exact absurd this (by decide)
    · rcases Nat.lt_or_ge k s.size with h | h
      · refine .inr ?_
        rw [List.getElem?_drop, show f + (k - f) = k by omega, List.getElem?_eq_getElem (by rw [hl]; exact h)]
        unfold bl at hb
        rw [List.getD_eq_getElem?_getD, List.getElem?_eq_getElem (by rw [hl]; exact h)] at hb
        simpa using hb
      · exact .inl (by rw [List.length_drop, hl]; omega)
  rw [hw]
  have : (s.extract f k).data.toList = (s.data.toList.drop f).take (k - f) := by
    rw [ByteArray.data_extract, Array.toList_extract]
  rw [← this]

set_option maxRecDepth 100000 in
set_option maxHeartbeats 4000000 in
theorem rwords_any (s : ByteArray) (hs : s.size ≤ 65536) (w : World) :
    Calls Try.prog 35 #[.string s] w fun e w' => ∃ v1 v2, e = .returned (.tuple #[v1, v2]) ∧ w'.ownsRow w.heap.size 9 1 v1 (sts s.data.toList s.size).length ((sts s.data.toList s.size).map (sv s.data.toList)) ∧
      w'.ownsRow w.heap.size 3 1 v2 (sts s.data.toList s.size).length ((sts s.data.toList s.size).map iv) ∧ Below w.heap.size w w' := by
  obtain ⟨i0, hi, hz0, hz1, hz2⟩ := info_parts Try.infoI
  obtain ⟨i1, hj, hy0, hy1, hy2⟩ := info_parts Try.infoS
  have HB := hide (bl_at s)
  have HE := hide (bl_end s)
  have HW := hide (word_cut s)
  have HS : Hid (∀ f k, f < k → k ≤ s.size → bl s.data.toList k = true → (∀ j, f ≤ j → j < k → bl s.data.toList j = false) → Value.string (s.extract f k) = sv s.data.toList f) := fun f k h1 h2 h3 h4 => by rw [word_cut s f k h1 h2 h3 h4]; rfl
  clear HW
  generalize s.data.toList = b at *
  go_enter Try.func35, Try.ntmps35
  go_wp2
  go_loopw [4, 5, 6, 7, 8] (fun v4 v5 v6 i _ wr => ∃ (k : Nat) (ws : List Nat), k ≤ s.size + 1 ∧ i = .int .i64 k ∧ wr.ownsRow w.heap.size 9 1 v4 ws.length (ws.map (sv b)) ∧ wr.ownsRow w.heap.size 3 1 v5 ws.length (ws.map iv) ∧ Below w.heap.size w wr ∧
      ((v6 = .int .i64 (-1) ∧ ws = sts b k ∧ (k = 0 ∨ bl b (k - 1) = true)) ∨ ∃ f : Nat, v6 = .int .i64 f ∧ f < k ∧ k ≤ s.size ∧ sts b k = ws ++ [f] ∧ ∀ j, f ≤ j → j < k → bl b j = false)) (fun _ _ _ i _ _ => s.size + 1 - (intOf i).toNat)
  case atStart => exact ⟨0, [], Nat.zero_le _, rfl, World.ownsRow_nil _ _ _ _, World.ownsRow_nil _ _ _ _, Below.refl _ _, .inl ⟨rfl, rfl, .inl rfl⟩⟩
  case round =>
    obtain ⟨k, ws, hk, rfl, hown4, hown5, hB, hst⟩ := hrel
    have hsz := hB.size
    by_cases hle : k ≤ s.size
    · have hle' : (k : Int) ≤ (s.size : Int) := by omega
      have hk1 : (0 : Int) ≤ (k : Int) := by omega
      have hwl : ws.length ≤ 65536 := by
        have := sts_len b k
        rcases hst with ⟨_, rfl, _⟩ | ⟨f, _, _, _, e, _⟩
        · omega
        · rw [e, List.length_append] at this; simp at this; omega
      -- is place k a blank?
      have hcase : (bl b k = true ∧ ((k : Int) = (s.size : Int) ∨ ∃ h : k < s.size, (s[k].toNat : Int) = 32)) ∨ (bl b k = false ∧ ∃ h : k < s.size, ((s[k].toNat : Int) == 32) = false) := by
        rcases Nat.lt_or_ge k s.size with h | h
        · have := HB.out k h
          by_cases hq : ((s[k].toNat : Int) == 32) = true
          · exact .inl ⟨this.trans hq, .inr ⟨h, by simpa using hq⟩⟩
          · have hq' : ((s[k].toNat : Int) == 32) = false := by simpa using hq
            exact .inr ⟨this.trans hq', h, hq'⟩
        · have e : k = s.size := by omega
          exact .inl ⟨by rw [e]; exact HE.out, .inl (by omega)⟩
      rcases hst with ⟨rfl, hws, hprev⟩ | ⟨f, rfl, hfk, hks, hws, hall⟩
      · rcases hcase with ⟨hb, hbl⟩ | ⟨hb, hlt, hne⟩
        · have hsp : sts b (k + 1) = sts b k := sts_no (by simp [sp, hb])
          have HR : Hid (ws = sts b (k + 1) ∧ (k + 1 = 0 ∨ bl b (k + 1 - 1) = true)) := ⟨by rw [hsp]; exact hws, .inr (by rw [Nat.add_sub_cancel]; exact hb)⟩
          have H4 := hide hown4
          have H5 := hide hown5
          clear hown4 hown5 hws hprev hsp hb
          rcases hbl with hbl | ⟨hlt, hbl⟩
          all_goals
            go_wp2
            go_roundw
            case rel => exact ⟨k + 1, ws, by omega, by go_num, H4.out, H5.out, hB, .inl ⟨rfl, HR.out⟩⟩
            case measure => simp [intOf]; omega
        · have hsp : sts b (k + 1) = ws ++ [k] := by
            rw [sts_yes (by rcases hprev with rfl | hp <;> simp [sp, *]), hws]
          have HR : Hid (sts b (k + 1) = ws ++ [k] ∧ ∀ j, k ≤ j → j < k + 1 → bl b j = false) := ⟨hsp, fun j h1 h2 => by rw [show j = k by omega]; exact hb⟩
          have H4 := hide hown4
          have H5 := hide hown5
          have hne2 : ¬ (s[k].toNat : Int) = 32 := by simpa using hne
          have hk3 : ((k : Int) == (s.size : Int)) = false := by simp; omega
          have hlt' : (k : Int) < (s.size : Int) := by omega
          clear hown4 hown5 hws hprev hsp hb
          go_wp2
          go_roundw
          case rel => exact ⟨k + 1, ws, by omega, by go_num, H4.out, H5.out, hB, .inr ⟨k, rfl, by omega, by omega, HR.out⟩⟩
          case measure => simp [intOf]; omega
      · rcases hcase with ⟨hb, hbl⟩ | ⟨hb, hlt, hne⟩
        · have hsp : sts b (k + 1) = sts b k := sts_no (by simp [sp, hb])
          have HR : Hid (ws ++ [f] = sts b (k + 1) ∧ (k + 1 = 0 ∨ bl b (k + 1 - 1) = true)) := ⟨by rw [hsp]; exact hws.symm, .inr (by rw [Nat.add_sub_cancel]; exact hb)⟩
          have HV := hide (HS.out f k hfk hks hb hall)
          have hf1 : (0 : Int) ≤ (f : Int) := by omega
          have hf2 : (f : Int) ≤ (k : Int) := by omega
          clear hws hall hsp hb
          rcases hbl with hbl | ⟨hlt, hbl⟩
          · obtain rfl : k = s.size := by omega
            clear hbl
            go_wp2_with (at_builtin; first
              | (refine wpList_append_own _ rfl _ _ 64 rfl w.heap.size 9 i1 (.string ⟨#[]⟩) 1 16 Try.underlying64 hj hy0 hy1 hy2 rfl (by decide) _ _ _ rfl (hown4.alloc _) ⟨wr.heap.size, 0, none⟩ 1 1 [.string (s.extract f s.size)] rfl rfl (cell_one_new _ _ _) (by simp [Value.oneCell']) (by unfold maxLen; omega) (by omega) (by simp; omega) ?_; intro v4' w1 hown41 hgrow1 hnil1; have hown51 := append_keeps hown5 hown4 (by decide) hgrow1; have hB1 := append_below hB hgrow1 (fun j e => (hown4.lt j e).1); have hz1s := hB1.size)
              | (refine wpList_append_own _ rfl _ _ 41 rfl w.heap.size 3 i0 (.int .i64 0) 1 8 Try.underlying41 hi hz0 hz1 hz2 rfl (by decide) _ _ _ rfl (hown51.alloc _) ⟨w1.heap.size, 0, none⟩ 1 1 [.int .i64 f] rfl rfl (cell_one_new _ _ _) (by simp [Value.oneCell']) (by unfold maxLen; omega) (by omega) (by simp; omega) ?_; intro v5' w2 hown52 hgrow2 hnil2; have hown42 := append_keeps hown41 hown51 (by decide) hgrow2; have hB2 := append_below hB1 hgrow2 (fun j e => (hown51.lt j e).1)))
            go_roundw
            case rel =>
              refine ⟨s.size + 1, ws ++ [f], by omega, by go_num, ?_, ?_, hB2, .inl ⟨rfl, HR.out⟩⟩
              · rw [List.map_append, List.length_append]
                show World.ownsRow _ _ _ _ _ _ (_ ++ [sv b f])
                rw [← HV.out]
                exact hown42
              · rw [List.map_append, List.length_append]
                exact hown52
            case measure => simp [intOf]
          · have hlt' : (k : Int) < (s.size : Int) := by omega
            have hk3 : ((k : Int) == (s.size : Int)) = false := by simp; omega
            go_wp2_with (at_builtin; first
              | (refine wpList_append_own _ rfl _ _ 64 rfl w.heap.size 9 i1 (.string ⟨#[]⟩) 1 16 Try.underlying64 hj hy0 hy1 hy2 rfl (by decide) _ _ _ rfl (hown4.alloc _) ⟨wr.heap.size, 0, none⟩ 1 1 [.string (s.extract f k)] rfl rfl (cell_one_new _ _ _) (by simp [Value.oneCell']) (by unfold maxLen; omega) (by omega) (by simp; omega) ?_; intro v4' w1 hown41 hgrow1 hnil1; have hown51 := append_keeps hown5 hown4 (by decide) hgrow1; have hB1 := append_below hB hgrow1 (fun j e => (hown4.lt j e).1); have hz1s := hB1.size)
              | (refine wpList_append_own _ rfl _ _ 41 rfl w.heap.size 3 i0 (.int .i64 0) 1 8 Try.underlying41 hi hz0 hz1 hz2 rfl (by decide) _ _ _ rfl (hown51.alloc _) ⟨w1.heap.size, 0, none⟩ 1 1 [.int .i64 f] rfl rfl (cell_one_new _ _ _) (by simp [Value.oneCell']) (by unfold maxLen; omega) (by omega) (by simp; omega) ?_; intro v5' w2 hown52 hgrow2 hnil2; have hown42 := append_keeps hown41 hown51 (by decide) hgrow2; have hB2 := append_below hB1 hgrow2 (fun j e => (hown51.lt j e).1)))
            go_roundw
            case rel =>
              refine ⟨k + 1, ws ++ [f], by omega, by go_num, ?_, ?_, hB2, .inl ⟨rfl, HR.out⟩⟩
              · rw [List.map_append, List.length_append]
                show World.ownsRow _ _ _ _ _ _ (_ ++ [sv b f])
                rw [← HV.out]
                exact hown42
              · rw [List.map_append, List.length_append]
                exact hown52
            case measure => simp [intOf]; omega
        · have hsp : sts b (k + 1) = ws ++ [f] := by
            have hq : bl b (k - 1) = false := hall (k - 1) (by omega) (by omega)
            rw [sts_no (by simp [sp, hq]; omega), hws]
          have HR : Hid (sts b (k + 1) = ws ++ [f] ∧ ∀ j, f ≤ j → j < k + 1 → bl b j = false) := ⟨hsp, fun j h1 h2 => by
            rcases Nat.lt_or_ge j k with h | h
            · exact hall j h1 h
            · rw [show j = k by omega]; exact hb⟩
          have H4 := hide hown4
          have H5 := hide hown5
          have hne2 : ¬ (s[k].toNat : Int) = 32 := by simpa using hne
          have hk3 : ((k : Int) == (s.size : Int)) = false := by simp; omega
          have hlt' : (k : Int) < (s.size : Int) := by omega
          have hf1 : (0 : Int) ≤ (f : Int) := by omega
          clear hown4 hown5 hws hall hsp hb
          go_wp2
          go_roundw
          case rel => exact ⟨k + 1, ws, by omega, by go_num, H4.out, H5.out, hB, .inr ⟨f, rfl, by omega, by omega, HR.out⟩⟩
          case measure => simp [intOf]; omega
    · have hk' : k = s.size + 1 := by omega
      have hws : ws = sts b s.size := by
        rcases hst with ⟨_, rfl, _⟩ | ⟨f, _, _, h, _⟩
        · rw [hk', sts_no (by simp [sp, HE.out])]
        · omega
      have hle' : (s.size : Int) < (k : Int) := by omega
      subst hws
      have H4 := hide hown4
      have H5 := hide hown5
      clear hown4 hown5 hst
      go_wp2
      go_ret2
      exact ⟨_, _, rfl, H4.out, H5.out, hB⟩
end Go.Proofs.Ytnabnnckhdileaa

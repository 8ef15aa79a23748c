/- The reference of file: within, Piece, Lay. -/
import Derived.Test.YtdhdbakkhmmpjaaFiWrite
namespace Go.Proofs.Ytdhdbakkhmmpjaa
open Go.RowKit

theorem owns_len {W : World} {base e n : Nat} {v : Value} {xs : List Value} (h : W.ownsRow base e 1 v n xs) : W.ownsRow base e 1 v xs.length xs := by
  have := h.1
  rw [show xs.length = n by omega]
  exact h

set_option maxHeartbeats 1000000 in
theorem within_any (n : Int) (w : World) :
    Calls Try.prog 27 #[.int .i64 n] w fun e w' => e = .returned (.bool (inR n)) ∧ w' = w := by
  rcases (show n < 0 ∨ 1048576 < n ∨ (0 ≤ n ∧ n ≤ 1048576) by omega) with hx | hx | ⟨hx1, hx2⟩
  · rw [inR_no (by omega)]
    have hd : decide (0 ≤ n) = false := by simp; omega
    go_enter Try.func27, Try.ntmps27
    go_wp2
    go_ret
    exact ⟨rfl, rfl⟩
  · rw [inR_no (by omega)]
    have hd : decide (0 ≤ n) = true := by simp; omega
    have hd2 : decide (n ≤ 1048576) = false := by simp; omega
    go_enter Try.func27, Try.ntmps27
    go_wp2
    go_ret
    exact ⟨rfl, rfl⟩
  · rw [inR_yes (by omega) (by omega)]
    go_enter Try.func27, Try.ntmps27
    go_wp2
    go_ret
    exact ⟨rfl, rfl⟩

set_option maxRecDepth 100000 in
set_option maxHeartbeats 1000000 in
theorem piece_any (base : Nat) (u : Value) (l : List UInt8) (off n : Nat) (w : World) (h : w.ownsRow base 5 1 u l.length (l.map bv)) (hl : l.length ≤ 1048576) (ho : off ≤ 1048576) (hn : n ≤ 1048576) :
    Calls Try.prog 28 #[u, .int .i64 off, .int .i64 n] w fun e w' => ∃ v', e = .returned v' ∧ w'.ownsRow w.heap.size 5 1 v' (piece l off n).length ((piece l off n).map bv) ∧ Below w.heap.size w w' := by
  obtain ⟨i0, hi, hz0, hz1, hz2⟩ := info_parts Try.infoB
  by_cases hlt : off < l.length
  · obtain ⟨g, cap, rfl, hbg, hgl⟩ := h.form (by omega)
    have HR := hide (RowAt.of_owns h)
    have hcap := HR.out.len
    clear h
    have hd : decide ((l.length : Int) ≤ (off : Int)) = false := by simp; omega
    have HX : Hid (∀ j v, ((piece l off n).map bv)[j]? = some v → w.cell? ((⟨g, off, none⟩ : Addr).add j) = some v) := hide fun j v hj => by
      have hb := piece_bys HR.out off n off _ 0 rfl (.inr rfl)
      rcases hb with ⟨h0, _⟩ | ⟨a, c, h0, h1⟩ | ⟨b, o, c, h0, h1, h2⟩
      · cases h0
      · rw [h1] at hj; simp at hj
      · simp only [Value.slice.injEq, Option.some.injEq, Addr.mk.injEq] at h0
        obtain ⟨⟨rfl, rfl, -⟩, -, -⟩ := h0
        exact bys_news h2 j v hj
    have hpl := piece_len l off n
    have H1 := hide (bys_one (piece l off n))
    obtain ⟨X, hX⟩ : ∃ X, X = (piece l off n).map bv := ⟨_, rfl⟩
    have hXl : X.length = (piece l off n).length := by rw [hX]; simp
    rw [← hX] at HX H1
    have HE := hide hX
    have HPL := hide hpl
    have HXL := hide hXl
    clear hX hpl hXl
    have k1 : ¬ cap = off := by omega
    have k2 : (off : Int) < (cap : Int) := by omega
    by_cases hnn : n < l.length - off
    · go_enter Try.func28, Try.ntmps28
      go_wp2_with (at_builtin; refine wpList_append_own _ rfl _ _ 22 rfl w.heap.size 5 i0 (.int .u8 0) 1 1 Try.underlying22 hi hz0 hz1 hz2 rfl (by decide) _ _ _ rfl (World.ownsRow_nil _ _ _ _) ⟨g, off, none⟩ _ _ X rfl (by have := HPL.out; have := HXL.out; omega) HX.out H1.out (by unfold maxLen; omega) (by omega) (Nat.le_refl _) ?_; intro v' w1 hown hgrow hnil)
      all_goals
        go_ret
        refine ⟨v', rfl, ?_, (Below.refl _ _).grown hgrow (Nat.le_refl _) (fun j e => by cases e)⟩
        have h2 := owns_len hown
        rw [List.nil_append] at h2
        rw [← HE.out, ← HXL.out]
        exact h2
    · go_enter Try.func28, Try.ntmps28
      go_wp2_with (at_builtin; refine wpList_append_own _ rfl _ _ 22 rfl w.heap.size 5 i0 (.int .u8 0) 1 1 Try.underlying22 hi hz0 hz1 hz2 rfl (by decide) _ _ _ rfl (World.ownsRow_nil _ _ _ _) ⟨g, off, none⟩ _ _ X rfl (by have := HPL.out; have := HXL.out; omega) HX.out H1.out (by unfold maxLen; omega) (by omega) (Nat.le_refl _) ?_; intro v' w1 hown hgrow hnil)
      all_goals
        go_ret
        refine ⟨v', rfl, ?_, (Below.refl _ _).grown hgrow (Nat.le_refl _) (fun j e => by cases e)⟩
        have h2 := owns_len hown
        rw [List.nil_append] at h2
        rw [← HE.out, ← HXL.out]
        exact h2
  · have hp : piece l off n = [] := List.length_eq_zero_iff.1 (by rw [piece_len]; omega)
    rw [hp]
    obtain ⟨a, c, rfl⟩ := owns_slice h
    clear h
    have hd : decide ((l.length : Int) ≤ (off : Int)) = true := by simp; omega
    go_enter Try.func28, Try.ntmps28
    go_wp2
    all_goals first
      | (exfalso; omega)
      | (go_ret; exact ⟨_, rfl, World.ownsRow_nil _ _ _ _, Below.refl _ _⟩)

/-- Bytes laid one by one. -/
def rlay (l : List UInt8) (off : Nat) (x : List UInt8) : List UInt8 := (grow l off).take off ++ (x ++ (grow l off).drop (off + x.length))
theorem rlay_len (l : List UInt8) (off : Nat) (x : List UInt8) : (rlay l off x).length = max (max l.length off) (off + x.length) := by
  have := grow_len l off
  simp only [rlay, List.length_append, List.length_take, List.length_drop]
  omega
theorem rlay_nil (l : List UInt8) (off : Nat) : rlay l off [] = grow l off := by simp [rlay]
theorem grow_drop (l : List UInt8) (n m : Nat) (h : n ≤ m) : (grow l n).drop m = l.drop m := by
  by_cases hn : n ≤ l.length
  · rw [grow_no hn]
  · rw [List.drop_of_length_le (by rw [grow_len]; omega), List.drop_of_length_le (by omega)]
theorem grow_take (l : List UInt8) (n m : Nat) (h : m ≤ n) : (grow l n).take m = (grow l m).take m := by
  apply List.ext_getElem?
  intro j
  rw [List.getElem?_take, List.getElem?_take]
  split
  · rename_i hj
    simp only [grow]
    by_cases hl : j < l.length
    · rw [List.getElem?_append_left hl, List.getElem?_append_left hl]
    · rw [List.getElem?_append_right (by omega), List.getElem?_append_right (by omega), List.getElem?_replicate, List.getElem?_replicate, if_pos (by omega), if_pos (by omega)]
  · rfl
theorem lay_rlay (l : List UInt8) (off : Nat) (x : List UInt8) (h : x ≠ []) : lay l off x = rlay l off x := by
  rw [lay, if_neg h, rlay, grow_take l _ off (by omega), grow_drop _ _ _ (Nat.le_refl _), grow_drop _ _ _ (by omega)]
theorem trunc_rlay (l : List UInt8) (n : Nat) : trunc l n = rlay (l.take n) n [] := by rw [rlay_nil, trunc]
theorem grow_succ (l : List UInt8) (n : Nat) (h : l.length ≤ n) : grow l n ++ [0] = grow l (n + 1) := by
  simp only [grow]
  rw [show n + 1 - l.length = (n - l.length) + 1 by omega, List.replicate_succ', List.append_assoc]
theorem rlay_step (l : List UInt8) (off : Nat) (x : List UInt8) (k : Nat) (hk : k < x.length) (h1 : off + k < (rlay l off (x.take k)).length) : (rlay l off (x.take k)).set (off + k) x[k] = rlay l off (x.take (k + 1)) := by
  have hg := grow_len l off
  have hl := rlay_len l off (x.take k)
  have hl2 := rlay_len l off (x.take (k + 1))
  simp only [List.length_take] at hl hl2
  have hpre : ((grow l off).take off).length = off := by rw [List.length_take]; omega
  have hk' : (x.take k).length = k := by simp; omega
  have hk2 : (x.take (k + 1)).length = k + 1 := by simp; omega
  have hlt : off + k < (grow l off).length := by omega
  rw [rlay, rlay, hk', hk2, List.drop_eq_getElem_cons hlt, List.set_append_right _ _ (by omega), hpre, List.set_append_right _ _ (by omega), hk', Nat.add_sub_cancel_left, Nat.sub_self, List.set_cons_zero, List.take_succ_eq_append_getElem hk, List.append_assoc, Nat.add_assoc]
  rfl
theorem rlay_more (l : List UInt8) (off : Nat) (x : List UInt8) (k : Nat) (hk : k < x.length) (h1 : (rlay l off (x.take k)).length = off + k) : rlay l off (x.take k) ++ [x[k]] = rlay l off (x.take (k + 1)) := by
  have hl := rlay_len l off (x.take k)
  simp only [List.length_take] at hl
  have hg := grow_len l off
  rw [rlay, rlay, List.drop_of_length_le (by simp; omega), List.drop_of_length_le (by simp; omega), List.append_nil, List.append_nil, List.append_assoc, ← List.take_succ_eq_append_getElem hk]

theorem lay_turn {S : Nat → Prop} {w wr w1 : World} {o : Obj} {vb : Option Nat} (hT : Turned S w wr) (hg : (wr.alloc o).grownBy w1 vb) (hv : ∀ k, vb = some k → S k ∨ w.heap.size ≤ k) : Turned S w w1 := by
  refine hT.trans (S' := fun k => vb = some k) ⟨hg.os, hg.tape, hg.output, Nat.le_trans (by simp) hg.size, fun k hk hn => ?_⟩ (fun k hk e => (hv k e).resolve_right (by omega))
  exact (hg.block k (by simp; omega) (fun e => hn e.symm)).trans (Below.heap_alloc _ _ _ hk)
theorem map_set_bv (l : List UInt8) (j : Nat) (c : UInt8) : (l.map bv).set j (bv c) = (l.set j c).map bv := by rw [List.map_set]
theorem set_turn {S : Nat → Prop} {w wr : World} {g j : Nat} {u : Value} (hT : Turned S w wr) (hg : S g ∨ w.heap.size ≤ g) : Turned S w (wr.setCell ⟨g, j, none⟩ u) := by
  refine hT.trans (S' := fun k => k = g) ⟨rfl, rfl, rfl, by simp [World.setCell], fun k hk hn => Below.heap_setCell _ _ _ _ hn⟩ (fun k hk e => by subst e; exact hg.resolve_right (by omega))

set_option maxRecDepth 100000 in
set_option maxHeartbeats 2000000 in
theorem lay_any (base : Nat) (u vx : Value) (l x : List UInt8) (off : Nat) (w : World) (h : w.ownsRow base 5 1 u l.length (l.map bv)) (hx : Bys w vx x) (hux : 0 < x.length → ∀ k, vx.ownBlock = some k → u.ownBlock ≠ some k) (hl : l.length ≤ 1048576) (ho : off + x.length ≤ 1048576) (hb : base ≤ w.heap.size) :
    Calls Try.prog 30 #[u, .int .i64 off, vx] w fun e w' => ∃ u', e = .returned u' ∧ w'.ownsRow base 5 1 u' (rlay l off x).length ((rlay l off x).map bv) ∧ (∀ k, u'.ownBlock = some k → u.ownBlock = some k ∨ w.heap.size ≤ k) ∧ Turned (fun k => u.ownBlock = some k) w w' := by
  obtain ⟨i0, hi, hz0, hz1, hz2⟩ := info_parts Try.infoB
  have HX := hide hx
  have HU := hide hux
  have HO := hide h
  obtain ⟨a1, c1, rfl, -⟩ := bys_form hx
  obtain ⟨ua, uc, rfl⟩ := owns_slice h
  clear h hx hux
  go_enter Try.func30, Try.ntmps30
  go_wp2
  go_loopw [0] (fun v wr => ∃ m : List UInt8, Hid (m = l ∨ ∃ n, m = grow l n ∧ l.length ≤ n ∧ n ≤ off) ∧ m.length ≤ 1048576 ∧ wr.ownsRow base 5 1 v m.length (m.map bv) ∧ Hid (∀ k, v.ownBlock = some k → (Value.slice ua l.length uc).ownBlock = some k ∨ w.heap.size ≤ k) ∧ Turned (fun k => (Value.slice ua l.length uc).ownBlock = some k) w wr) (fun v _ => match v with | .slice _ n _ => off - n | _ => 0)
  case atStart => exact ⟨l, .inl rfl, hl, HO.out, fun k hk => .inl hk, Turned.refl _ _⟩
  case round =>
    clear HO
    obtain ⟨m, HM, hml, hown, HV, hT⟩ := hrel
    obtain ⟨va, vc, rfl⟩ := owns_slice hown
    have HO := hide hown
    have HT := hide hT
    have hsz := hT.size
    clear hown hT
    by_cases hlt : m.length < off
    · go_wp2_with (at_builtin; refine wpList_append_lies _ rfl _ _ 22 rfl base 5 i0 (.int .u8 0) 1 1 Try.underlying22 hi hz0 hz1 hz2 rfl (by decide) _ _ _ rfl (HO.out.alloc _) ⟨wr.heap.size, 0, none⟩ 1 1 [.int .u8 0] rfl rfl (cell_one_new _ _ _) (by simp [Value.oneCell']) (by decide) (by unfold maxLen; omega) (by omega) (by simp; omega) (wr.heap.size + 1) (by simp) ?_; intro g1 cap1 w1 hown1 hgrow1 hg1 hg2)
      go_roundw
      case rel =>
        have hv := HV.out
        refine ⟨m ++ [0], hide ?_, by simp; omega, by simpa [bv] using hown1, hide ?_, lay_turn HT.out hgrow1 (fun k e => hv k e)⟩
        · rcases HM.out with rfl | ⟨n, rfl, h1, h2⟩
          · exact .inr ⟨m.length + 1, by rw [← grow_succ _ _ (Nat.le_refl _), grow_no (Nat.le_refl _)], by omega, by omega⟩
          · rw [grow_len] at hlt
            exact .inr ⟨n + 1, grow_succ _ _ h1, by omega, by omega⟩
        · intro k hk
          obtain rfl : g1 = k := by simpa [Value.ownBlock] using hk
          rcases hg1 with h | h
          · exact hv _ h
          · right; omega
      case measure => simp; omega
    · have hme : m = grow l off := by
        rcases HM.out with rfl | ⟨n, rfl, h1, h2⟩
        · rw [grow_no (by omega)]
        · rw [grow_len] at hlt
          rw [show n = off by omega]
      have HE := hide hme
      clear hme HM
      go_wp2
      go_loopw [0, 7] (fun v i wr => ∃ k : Nat, k ≤ x.length ∧ i = .int .i64 k ∧ wr.ownsRow base 5 1 v (rlay l off (x.take k)).length ((rlay l off (x.take k)).map bv) ∧ Hid (∀ k, v.ownBlock = some k → (Value.slice ua l.length uc).ownBlock = some k ∨ w.heap.size ≤ k) ∧ Turned (fun k => (Value.slice ua l.length uc).ownBlock = some k) w wr) (fun _ i _ => x.length - (intOf i).toNat)
      case atStart => exact ⟨0, Nat.zero_le _, rfl, by rw [List.take_zero, rlay_nil, ← HE.out]; exact HO.out, HV, HT.out⟩
      case round =>
        clear HO HT HV HE hsz
        obtain ⟨k, hk, rfl, hown, HV, hT⟩ := hrel
        have hsz := hT.size
        have hrl := rlay_len l off (x.take k)
        have hk' : (x.take k).length = k := by simp; omega
        rw [hk'] at hrl
        have HE : Hid (k = x.length → rlay l off (x.take k) = rlay l off x) := hide fun e => by rw [e, List.take_length]
        have HS : Hid (∀ hlt : k < x.length, off + k < (rlay l off (x.take k)).length → (rlay l off (x.take k)).set (off + k) x[k] = rlay l off (x.take (k + 1))) := hide fun hlt => rlay_step l off x k hlt
        have HM : Hid (∀ hlt : k < x.length, (rlay l off (x.take k)).length = off + k → rlay l off (x.take k) ++ [x[k]] = rlay l off (x.take (k + 1))) := hide fun hlt => rlay_more l off x k hlt
        generalize rlay l off (x.take k) = L at *
        have hLb : L.length ≤ 1048576 := by omega
        have hLo : off + k ≤ L.length := by omega
        clear hrl hk'
        obtain ⟨va, vc, rfl⟩ := owns_slice hown
        have HT := hide hT
        by_cases hlt : k < x.length
        · have g1 : ∃ b o, a1 = some ⟨b, o, none⟩ ∧ wr.cell? ⟨b, o + k, none⟩ = some (.int .u8 (x[k].toNat : Int)) := by
            obtain ⟨a', c', he, hc⟩ := bys_form HX.out
            cases he
            obtain ⟨b, o, rfl, hd⟩ := hc (by omega)
            refine ⟨b, o, rfl, ?_⟩
            have h1 := hd k hlt
            have h2 := World.block_lt_of_cell? w _ h1
            have h3 := (World.cell?_of_block (w := w) (a := ⟨b, o + k, none⟩) (hT.block b h2 (HU.out (by omega) b rfl))).trans h1
            rw [h3, List.getD_eq_getElem?_getD, List.getElem?_eq_getElem hlt]
            rfl
          obtain ⟨bx, ox, rfl, g1⟩ := g1
          have hk1 : (0 : Int) ≤ (k : Int) := by omega
          have hk2 : (k : Int) < (x.length : Int) := by omega
          have HS' := hide (HS.out hlt)
          have HM' := hide (HM.out hlt)
          clear hT HS HM HE
          generalize x[k] = c at *
          by_cases hin : off + k < L.length
          · obtain ⟨g, cap, he, hbg, hgl⟩ := hown.form (by omega)
            cases he
            have HO := hide hown
            have hc := hown.cellAt (off + k) (by omega)
            have hf := hown.frozenAt (off + k)
            rw [List.getElem?_eq_getElem (by simpa using hin)] at hc
            generalize (L.map bv)[off + k]'(by simpa using hin) = old at hc
            have hin1 : (off : Int) + (k : Int) < (L.length : Int) := by omega
            have hin0 : (0 : Int) ≤ (off : Int) + (k : Int) := by omega
            clear hown
            go_wp2
            go_roundw
            case rel =>
              obtain ⟨hst, hgr⟩ := HO.out.stored (off + k) (bv c)
              refine ⟨k + 1, by omega, by go_num, ?_, HV, set_turn HT.out (HV.out g rfl)⟩
              have e1 := HS'.out hin
              rw [map_set_bv] at hst
              rw [← e1, List.length_set]
              exact hst
            case measure => simp [intOf]; omega
          · have HO := hide hown
            clear hown
            go_wp2_with (at_builtin; refine wpList_append_lies _ rfl _ _ 22 rfl base 5 i0 (.int .u8 0) 1 1 Try.underlying22 hi hz0 hz1 hz2 rfl (by decide) _ _ _ rfl (HO.out.alloc _) ⟨wr.heap.size, 0, none⟩ 1 1 [.int .u8 (c.toNat : Int)] rfl rfl (cell_one_new _ _ _) (by simp [Value.oneCell']) (by decide) (by unfold maxLen; omega) (by omega) (by simp; omega) (wr.heap.size + 1) (by simp) ?_; intro g1 cap1 w1 hown1 hgrow1 hg1 hg2)
            go_roundw
            case rel =>
              have hv := HV.out
              refine ⟨k + 1, by omega, by go_num, ?_, hide ?_, lay_turn HT.out hgrow1 (fun k e => hv k e)⟩
              · rw [← HM'.out (by omega)]
                simpa [bv] using hown1
              · intro k hk
                obtain rfl : g1 = k := by simpa [Value.ownBlock] using hk
                rcases hg1 with h | h
                · exact hv _ h
                · right; omega
            case measure => simp [intOf]; omega
        · have HO := hide hown
          clear hown hT
          go_wp2
          go_ret
          have e1 := HE.out (by omega)
          rw [e1] at HO HV
          rw [e1]
          exact ⟨_, rfl, HO.out, HV.out, HT.out⟩
end Go.Proofs.Ytdhdbakkhmmpjaa

/- What the proof stands on, part 3: the contracts of the program's calls that it reaches. -/
import Derived.Test.YtdmkjbdlidadiaaGreatKP2
import Derived.Lib.SlBytesConst
/- The reference of file: within, Piece, Lay. -/
namespace Go.Proofs.YtdmkjbdlidadiaaGreat
open Go.RowKit

theorem owns_len {W : World} {base e n : Nat} {v : Value} {xs : List Value} (h : W.ownsRow base e 1 v n xs) : W.ownsRow base e 1 v xs.length xs := by
  have := h.1
  rw [show xs.length = n by omega]
  exact h

set_option maxHeartbeats 1000000 in
theorem within_any (n : Int) (w : World) :
    Calls Tryz.prog 220 #[.int .i64 n] w fun e w' => e = .returned (.bool (inR n)) ∧ w' = w := by
  rcases (show n < 0 ∨ 1048576 < n ∨ (0 ≤ n ∧ n ≤ 1048576) by omega) with hx | hx | ⟨hx1, hx2⟩
  · rw [inR_no (by omega)]
    have hd : decide (0 ≤ n) = false := by simp; omega
    go_enter Tryz.func220, Tryz.ntmps220
    go_wp2
    go_ret
    exact ⟨rfl, rfl⟩
  · rw [inR_no (by omega)]
    have hd : decide (0 ≤ n) = true := by simp; omega
    have hd2 : decide (n ≤ 1048576) = false := by simp; omega
    go_enter Tryz.func220, Tryz.ntmps220
    go_wp2
    go_ret
    exact ⟨rfl, rfl⟩
  · rw [inR_yes (by omega) (by omega)]
    go_enter Tryz.func220, Tryz.ntmps220
    go_wp2
    go_ret
    exact ⟨rfl, rfl⟩

set_option maxRecDepth 100000 in
set_option maxHeartbeats 1000000 in
theorem piece_any (base : Nat) (u : Value) (l : List UInt8) (off n : Nat) (w : World) (h : w.ownsRow base 5 1 u l.length (l.map bv)) (hl : l.length ≤ 1048576) (ho : off ≤ 1048576) (hn : n ≤ 1048576) :
    Calls Tryz.prog 166 #[u, .int .i64 off, .int .i64 n] w fun e w' => ∃ v', e = .returned v' ∧ w'.ownsRow w.heap.size 5 1 v' (piece l off n).length ((piece l off n).map bv) ∧ Below w.heap.size w w' := by
  obtain ⟨i0, hi, hz0, hz1, hz2⟩ := info_parts Tryz.infoB
  by_cases hlt : off < l.length
  · obtain ⟨g, cap, rfl, hbg, hgl⟩ := h.form (by omega)
    have HR := hide (RowAt.of_owns h)
    have hcap := HR.out.len
    clear h
    have hd : decide ((l.length : Int) ≤ (off : Int)) = false := by simp; omega
    have HX : Hid (∀ j v, ((piece l off n).map bv)[j]? = some v → w.cell? ((⟨g, off, none⟩ : Addr).add j) = some v) := hide fun j v hj => by
      have hb := piece_bys HR.out off n off _ 0 rfl (.inr rfl)
      rcases hb with ⟨h0, _⟩ | ⟨a, c, h0, h1⟩ | ⟨b, o, c, h0, h1, h2⟩
      · cases h0
      · rw [h1] at hj; simp at hj
      · simp only [Value.slice.injEq, Option.some.injEq, Addr.mk.injEq] at h0
        obtain ⟨⟨rfl, rfl, -⟩, -, -⟩ := h0
        exact bys_news h2 j v hj
    have hpl := piece_len l off n
    have H1 := hide (bys_one (piece l off n))
    obtain ⟨X, hX⟩ : ∃ X, X = (piece l off n).map bv := ⟨_, rfl⟩
    have hXl : X.length = (piece l off n).length := by rw [hX]; simp
    rw [← hX] at HX H1
    have HE := hide hX
    have HPL := hide hpl
    have HXL := hide hXl
    clear hX hpl hXl
    have k1 : ¬ cap = off := by omega
    have k2 : (off : Int) < (cap : Int) := by omega
    by_cases hnn : n < l.length - off
    · go_enter Tryz.func166, Tryz.ntmps166
      go_wp2_with (at_builtin; refine wpList_append_own _ rfl _ _ 40 rfl w.heap.size 5 i0 (.int .u8 0) 1 1 Tryz.underlying40 hi hz0 hz1 hz2 rfl (by decide) _ _ _ rfl (World.ownsRow_nil _ _ _ _) ⟨g, off, none⟩ _ _ X rfl (by have := HPL.out; have := HXL.out; omega) HX.out H1.out (by unfold maxLen; omega) (by omega) (Nat.le_refl _) ?_; intro v' w1 hown hgrow hnil)
      all_goals
        go_ret
        refine ⟨v', rfl, ?_, (Below.refl _ _).grown hgrow (Nat.le_refl _) (fun j e => by cases e)⟩
        have h2 := owns_len hown
        rw [List.nil_append] at h2
        rw [← HE.out, ← HXL.out]
        exact h2
    · go_enter Tryz.func166, Tryz.ntmps166
      go_wp2_with (at_builtin; refine wpList_append_own _ rfl _ _ 40 rfl w.heap.size 5 i0 (.int .u8 0) 1 1 Tryz.underlying40 hi hz0 hz1 hz2 rfl (by decide) _ _ _ rfl (World.ownsRow_nil _ _ _ _) ⟨g, off, none⟩ _ _ X rfl (by have := HPL.out; have := HXL.out; omega) HX.out H1.out (by unfold maxLen; omega) (by omega) (Nat.le_refl _) ?_; intro v' w1 hown hgrow hnil)
      all_goals
        go_ret
        refine ⟨v', rfl, ?_, (Below.refl _ _).grown hgrow (Nat.le_refl _) (fun j e => by cases e)⟩
        have h2 := owns_len hown
        rw [List.nil_append] at h2
        rw [← HE.out, ← HXL.out]
        exact h2
  · have hp : piece l off n = [] := List.length_eq_zero_iff.1 (by rw [piece_len]; omega)
    rw [hp]
    obtain ⟨a, c, rfl⟩ := owns_slice h
    clear h
    have hd : decide ((l.length : Int) ≤ (off : Int)) = true := by simp; omega
    go_enter Tryz.func166, Tryz.ntmps166
    go_wp2
    all_goals first
      | (exfalso; omega)
      | (go_ret; exact ⟨_, rfl, World.ownsRow_nil _ _ _ _, Below.refl _ _⟩)

def rlay (l : List UInt8) (off : Nat) (x : List UInt8) : List UInt8 := (grow l off).take off ++ (x ++ (grow l off).drop (off + x.length))
theorem rlay_len (l : List UInt8) (off : Nat) (x : List UInt8) : (rlay l off x).length = max (max l.length off) (off + x.length) := by
  have := grow_len l off
  simp only [rlay, List.length_append, List.length_take, List.length_drop]
  omega
theorem rlay_nil (l : List UInt8) (off : Nat) : rlay l off [] = grow l off := by simp [rlay]
theorem grow_drop (l : List UInt8) (n m : Nat) (h : n ≤ m) : (grow l n).drop m = l.drop m := by
  by_cases hn : n ≤ l.length
  · rw [grow_no hn]
  · rw [List.drop_of_length_le (by rw [grow_len]; omega), List.drop_of_length_le (by omega)]
theorem grow_take (l : List UInt8) (n m : Nat) (h : m ≤ n) : (grow l n).take m = (grow l m).take m := by
  apply List.ext_getElem?
  intro j
  rw [List.getElem?_take, List.getElem?_take]
  split
  · rename_i hj
    simp only [grow]
    by_cases hl : j < l.length
    · rw [List.getElem?_append_left hl, List.getElem?_append_left hl]
    · rw [List.getElem?_append_right (by omega), List.getElem?_append_right (by omega), List.getElem?_replicate, List.getElem?_replicate, if_pos (by omega), if_pos (by omega)]
  · rfl
theorem lay_rlay (l : List UInt8) (off : Nat) (x : List UInt8) (h : x ≠ []) : lay l off x = rlay l off x := by
  rw [lay, if_neg h, rlay, grow_take l _ off (by omega), grow_drop _ _ _ (Nat.le_refl _), grow_drop _ _ _ (by omega)]
theorem grow_succ (l : List UInt8) (n : Nat) (h : l.length ≤ n) : grow l n ++ [0] = grow l (n + 1) := by
  simp only [grow]
  rw [show n + 1 - l.length = (n - l.length) + 1 by omega, List.replicate_succ', List.append_assoc]
theorem rlay_step (l : List UInt8) (off : Nat) (x : List UInt8) (k : Nat) (hk : k < x.length) (h1 : off + k < (rlay l off (x.take k)).length) : (rlay l off (x.take k)).set (off + k) x[k] = rlay l off (x.take (k + 1)) := by
  have hg := grow_len l off
  have hl := rlay_len l off (x.take k)
  have hl2 := rlay_len l off (x.take (k + 1))
  simp only [List.length_take] at hl hl2
  have hpre : ((grow l off).take off).length = off := by rw [List.length_take]; omega
  have hk' : (x.take k).length = k := by simp; omega
  have hk2 : (x.take (k + 1)).length = k + 1 := by simp; omega
  have hlt : off + k < (grow l off).length := by omega
  rw [rlay, rlay, hk', hk2, List.drop_eq_getElem_cons hlt, List.set_append_right _ _ (by omega), hpre, List.set_append_right _ _ (by omega), hk', Nat.add_sub_cancel_left, Nat.sub_self, List.set_cons_zero, List.take_succ_eq_append_getElem hk, List.append_assoc, Nat.add_assoc]
  rfl
theorem rlay_more (l : List UInt8) (off : Nat) (x : List UInt8) (k : Nat) (hk : k < x.length) (h1 : (rlay l off (x.take k)).length = off + k) : rlay l off (x.take k) ++ [x[k]] = rlay l off (x.take (k + 1)) := by
  have hl := rlay_len l off (x.take k)
  simp only [List.length_take] at hl
  have hg := grow_len l off
  rw [rlay, rlay, List.drop_of_length_le (by simp; omega), List.drop_of_length_le (by simp; omega), List.append_nil, List.append_nil, List.append_assoc, ← List.take_succ_eq_append_getElem hk]

theorem lay_turn {S : Nat → Prop} {w wr w1 : World} {o : Obj} {vb : Option Nat} (hT : Turned S w wr) (hg : (wr.alloc o).grownBy w1 vb) (hv : ∀ k, vb = some k → S k ∨ w.heap.size ≤ k) : Turned S w w1 := by
  refine hT.trans (S' := fun k => vb = some k) ⟨hg.os, hg.tape, hg.output, Nat.le_trans (by simp) hg.size, fun k hk hn => ?_⟩ (fun k hk e => (hv k e).resolve_right (by omega))
  exact (hg.block k (by simp; omega) (fun e => hn e.symm)).trans (Below.heap_alloc _ _ _ hk)
theorem map_set_bv (l : List UInt8) (j : Nat) (c : UInt8) : (l.map bv).set j (bv c) = (l.set j c).map bv := by rw [List.map_set]
theorem set_turn {S : Nat → Prop} {w wr : World} {g j : Nat} {u : Value} (hT : Turned S w wr) (hg : S g ∨ w.heap.size ≤ g) : Turned S w (wr.setCell ⟨g, j, none⟩ u) := by
  refine hT.trans (S' := fun k => k = g) ⟨rfl, rfl, rfl, by simp [World.setCell], fun k hk hn => Below.heap_setCell _ _ _ _ hn⟩ (fun k hk e => by subst e; exact hg.resolve_right (by omega))

set_option maxRecDepth 100000 in
set_option maxHeartbeats 2000000 in
theorem lay_any (base : Nat) (u vx : Value) (l x : List UInt8) (off : Nat) (w : World) (h : w.ownsRow base 5 1 u l.length (l.map bv)) (hx : Bys w vx x) (hux : 0 < x.length → ∀ k, vx.ownBlock = some k → u.ownBlock ≠ some k) (hl : l.length ≤ 1048576) (ho : off + x.length ≤ 1048576) (hb : base ≤ w.heap.size) :
    Calls Tryz.prog 221 #[u, .int .i64 off, vx] w fun e w' => ∃ u', e = .returned u' ∧ w'.ownsRow base 5 1 u' (rlay l off x).length ((rlay l off x).map bv) ∧ (∀ k, u'.ownBlock = some k → u.ownBlock = some k ∨ w.heap.size ≤ k) ∧ Turned (fun k => u.ownBlock = some k) w w' := by
  obtain ⟨i0, hi, hz0, hz1, hz2⟩ := info_parts Tryz.infoB
  have HX := hide hx
  have HU := hide hux
  have HO := hide h
  obtain ⟨a1, c1, rfl, -⟩ := bys_form hx
  obtain ⟨ua, uc, rfl⟩ := owns_slice h
  clear h hx hux
  go_enter Tryz.func221, Tryz.ntmps221
  go_wp2
  go_loopw [0] (fun v wr => ∃ m : List UInt8, Hid (m = l ∨ ∃ n, m = grow l n ∧ l.length ≤ n ∧ n ≤ off) ∧ m.length ≤ 1048576 ∧ wr.ownsRow base 5 1 v m.length (m.map bv) ∧ Hid (∀ k, v.ownBlock = some k → (Value.slice ua l.length uc).ownBlock = some k ∨ w.heap.size ≤ k) ∧ Turned (fun k => (Value.slice ua l.length uc).ownBlock = some k) w wr) (fun v _ => match v with | .slice _ n _ => off - n | _ => 0)
  case atStart => exact ⟨l, .inl rfl, hl, HO.out, fun k hk => .inl hk, Turned.refl _ _⟩
  case round =>
    clear HO
    obtain ⟨m, HM, hml, hown, HV, hT⟩ := hrel
    obtain ⟨va, vc, rfl⟩ := owns_slice hown
    have HO := hide hown
    have HT := hide hT
    have hsz := hT.size
    clear hown hT
    by_cases hlt : m.length < off
    · go_wp2_with (at_builtin; refine wpList_append_lies _ rfl _ _ 40 rfl base 5 i0 (.int .u8 0) 1 1 Tryz.underlying40 hi hz0 hz1 hz2 rfl (by decide) _ _ _ rfl (HO.out.alloc _) ⟨wr.heap.size, 0, none⟩ 1 1 [.int .u8 0] rfl rfl (cell_one_new _ _ _) (by simp [Value.oneCell']) (by decide) (by unfold maxLen; omega) (by omega) (by simp; omega) (wr.heap.size + 1) (by simp) ?_; intro g1 cap1 w1 hown1 hgrow1 hg1 hg2)
      go_roundw
      case rel =>
        have hv := HV.out
        refine ⟨m ++ [0], hide ?_, by simp; omega, by simpa [bv] using hown1, hide ?_, lay_turn HT.out hgrow1 (fun k e => hv k e)⟩
        · rcases HM.out with rfl | ⟨n, rfl, h1, h2⟩
          · exact .inr ⟨m.length + 1, by rw [← grow_succ _ _ (Nat.le_refl _), grow_no (Nat.le_refl _)], by omega, by omega⟩
          · rw [grow_len] at hlt
            exact .inr ⟨n + 1, grow_succ _ _ h1, by omega, by omega⟩
        · intro k hk
          obtain rfl : g1 = k := by simpa [Value.ownBlock] using hk
          rcases hg1 with h | h
          · exact hv _ h
          · right; omega
      case measure => simp; omega
    · have hme : m = grow l off := by
        rcases HM.out with rfl | ⟨n, rfl, h1, h2⟩
        · rw [grow_no (by omega)]
        · rw [grow_len] at hlt
          rw [show n = off by omega]
      have HE := hide hme
      clear hme HM
      go_wp2
      go_loopw [0, 7] (fun v i wr => ∃ k : Nat, k ≤ x.length ∧ i = .int .i64 k ∧ wr.ownsRow base 5 1 v (rlay l off (x.take k)).length ((rlay l off (x.take k)).map bv) ∧ Hid (∀ k, v.ownBlock = some k → (Value.slice ua l.length uc).ownBlock = some k ∨ w.heap.size ≤ k) ∧ Turned (fun k => (Value.slice ua l.length uc).ownBlock = some k) w wr) (fun _ i _ => x.length - (intOf i).toNat)
      case atStart => exact ⟨0, Nat.zero_le _, rfl, by rw [List.take_zero, rlay_nil, ← HE.out]; exact HO.out, HV, HT.out⟩
      case round =>
        clear HO HT HV HE hsz
        obtain ⟨k, hk, rfl, hown, HV, hT⟩ := hrel
        have hsz := hT.size
        have hrl := rlay_len l off (x.take k)
        have hk' : (x.take k).length = k := by simp; omega
        rw [hk'] at hrl
        have HE : Hid (k = x.length → rlay l off (x.take k) = rlay l off x) := hide fun e => by rw [e, List.take_length]
        have HS : Hid (∀ hlt : k < x.length, off + k < (rlay l off (x.take k)).length → (rlay l off (x.take k)).set (off + k) x[k] = rlay l off (x.take (k + 1))) := hide fun hlt => rlay_step l off x k hlt
        have HM : Hid (∀ hlt : k < x.length, (rlay l off (x.take k)).length = off + k → rlay l off (x.take k) ++ [x[k]] = rlay l off (x.take (k + 1))) := hide fun hlt => rlay_more l off x k hlt
        generalize rlay l off (x.take k) = L at *
        have hLb : L.length ≤ 1048576 := by omega
        have hLo : off + k ≤ L.length := by omega
        clear hrl hk'
        obtain ⟨va, vc, rfl⟩ := owns_slice hown
        have HT := hide hT
        by_cases hlt : k < x.length
        · have g1 : ∃ b o, a1 = some ⟨b, o, none⟩ ∧ wr.cell? ⟨b, o + k, none⟩ = some (.int .u8 (x[k].toNat : Int)) := by
            obtain ⟨a', c', he, hc⟩ := bys_form HX.out
            cases he
            obtain ⟨b, o, rfl, hd⟩ := hc (by omega)
            refine ⟨b, o, rfl, ?_⟩
            have h1 := hd k hlt
            have h2 := World.block_lt_of_cell? w _ h1
            have h3 := (World.cell?_of_block (w := w) (a := ⟨b, o + k, none⟩) (hT.block b h2 (HU.out (by omega) b rfl))).trans h1
            rw [h3, List.getD_eq_getElem?_getD, List.getElem?_eq_getElem hlt]
            rfl
          obtain ⟨bx, ox, rfl, g1⟩ := g1
          have hk1 : (0 : Int) ≤ (k : Int) := by omega
          have hk2 : (k : Int) < (x.length : Int) := by omega
          have HS' := hide (HS.out hlt)
          have HM' := hide (HM.out hlt)
          clear hT HS HM HE
          generalize x[k] = c at *
          by_cases hin : off + k < L.length
          · obtain ⟨g, cap, he, hbg, hgl⟩ := hown.form (by omega)
            cases he
            have HO := hide hown
            have hc := hown.cellAt (off + k) (by omega)
            have hf := hown.frozenAt (off + k)
            rw [List.getElem?_eq_getElem (by simpa using hin)] at hc
            generalize (L.map bv)[off + k]'(by simpa using hin) = old at hc
            have hin1 : (off : Int) + (k : Int) < (L.length : Int) := by omega
            have hin0 : (0 : Int) ≤ (off : Int) + (k : Int) := by omega
            clear hown
            go_wp2
            go_roundw
            case rel =>
              obtain ⟨hst, hgr⟩ := HO.out.stored (off + k) (bv c)
              refine ⟨k + 1, by omega, by go_num, ?_, HV, set_turn HT.out (HV.out g rfl)⟩
              have e1 := HS'.out hin
              rw [map_set_bv] at hst
              rw [← e1, List.length_set]
              exact hst
            case measure => simp [intOf]; omega
          · have HO := hide hown
            clear hown
            go_wp2_with (at_builtin; refine wpList_append_lies _ rfl _ _ 40 rfl base 5 i0 (.int .u8 0) 1 1 Tryz.underlying40 hi hz0 hz1 hz2 rfl (by decide) _ _ _ rfl (HO.out.alloc _) ⟨wr.heap.size, 0, none⟩ 1 1 [.int .u8 (c.toNat : Int)] rfl rfl (cell_one_new _ _ _) (by simp [Value.oneCell']) (by decide) (by unfold maxLen; omega) (by omega) (by simp; omega) (wr.heap.size + 1) (by simp) ?_; intro g1 cap1 w1 hown1 hgrow1 hg1 hg2)
            go_roundw
            case rel =>
              have hv := HV.out
              refine ⟨k + 1, by omega, by go_num, ?_, hide ?_, lay_turn HT.out hgrow1 (fun k e => hv k e)⟩
              · rw [← HM'.out (by omega)]
                simpa [bv] using hown1
              · intro k hk
                obtain rfl : g1 = k := by simpa [Value.ownBlock] using hk
                rcases hg1 with h | h
                · exact hv _ h
                · right; omega
            case measure => simp [intOf]; omega
        · have HO := hide hown
          clear hown hT
          go_wp2
          go_ret
          have e1 := HE.out (by omega)
          rw [e1] at HO HV
          rw [e1]
          exact ⟨_, rfl, HO.out, HV.out, HT.out⟩
end Go.Proofs.YtdmkjbdlidadiaaGreat

/- The reference's file: New, ReadAt, WriteAt, Truncate. -/
namespace Go.Proofs.YtdmkjbdlidadiaaGreat
open Go.RowKit

structure RFileAt (W : World) (base r : Nat) (u : Value) (l : List UInt8) : Prop where
  data : W.cell? ⟨r, 0, none⟩ = some u
  soft : W.frozen? ⟨r, 0, none⟩ = false
  row : W.ownsRow base 5 1 u l.length (l.map bv)
  apart : u.ownBlock ≠ some r
theorem RFileAt.lt {W : World} {base r : Nat} {u : Value} {l : List UInt8} (h : RFileAt W base r u l) : r < W.heap.size := World.block_lt_of_cell? W _ h.data
theorem RFileAt.keep {W W' : World} {base r : Nat} {u : Value} {l : List UInt8} (h : RFileAt W base r u l) (hB : ∀ k, k < W.heap.size → k = r ∨ u.ownBlock = some k → W'.heap[k]? = W.heap[k]?) : RFileAt W' base r u l :=
  ⟨(World.cell?_of_block (w := W) (hB r h.lt (.inl rfl))).trans h.data, (World.frozen?_of_block (w := W) (hB r h.lt (.inl rfl))).trans h.soft, owns_keep h.row fun k hk => hB k (h.row.lt k hk).2 (.inr hk), h.apart⟩
theorem RFileAt.below {W W' : World} {base r : Nat} {u : Value} {l : List UInt8} (h : RFileAt W base r u l) (hB : Below W.heap.size W W') : RFileAt W' base r u l :=
  h.keep fun k hk _ => hB.block k hk

theorem rstore {w w1 : World} {base r : Nat} {u u' : Value} {l l' : List UInt8} (h : RFileAt w base r u l) (hown : w1.ownsRow base 5 1 u' l'.length (l'.map bv)) (hb : ∀ k, u'.ownBlock = some k → u.ownBlock = some k ∨ w.heap.size ≤ k) (hT : Turned (fun k => u.ownBlock = some k) w w1) :
    RFileAt (w1.setCell ⟨r, 0, none⟩ u') base r u' l' ∧ Turned (fun k => k = r ∨ u.ownBlock = some k) w (w1.setCell ⟨r, 0, none⟩ u') := by
  have hrl := h.lt
  have hgg := hT.block r hrl h.apart
  have hap : u'.ownBlock ≠ some r := fun e => by
    rcases hb r e with h1 | h1
    · exact h.apart h1
    · omega
  refine ⟨⟨World.cell?_setCell_same _ _ _ ((World.cell?_of_block (w := w) hgg).trans h.data), ?_, owns_keep hown fun k hk => Below.heap_setCell _ _ _ _ (fun e => hap (by rw [hk, e])), hap⟩, ?_⟩
  · rw [World.frozen?_setCell]
    exact (World.frozen?_of_block (w := w) hgg).trans h.soft
  · refine ⟨hT.os, hT.tape, hT.output, by simpa [World.setCell] using hT.size, fun k hk hn => ?_⟩
    rw [Below.heap_setCell _ _ _ _ (fun e => hn (.inl e))]
    exact hT.block k hk (fun e => hn (.inr e))

set_option maxRecDepth 100000 in
set_option maxHeartbeats 1000000 in
theorem rwriteAt_any (base r : Nat) (u : Value) (l : List UInt8) (off : Int) (vx : Value) (x : List UInt8) (w : World) (h : RFileAt w base r u l) (hx : Bys w vx x) (hux : 0 < x.length → ∀ k, vx.ownBlock = some k → u.ownBlock ≠ some k) (hl : l.length ≤ 1048576) (hb : base ≤ w.heap.size) :
    Calls Tryz.prog 171 #[.pointer (some ⟨r, 0, none⟩), .int .i64 off, vx] w fun e w' => e = .returned (.int .i64 (Fi_wrE off x.length)) ∧ ∃ u', RFileAt w' base r u' (wrL l off x) ∧ (∀ k, u'.ownBlock = some k → u.ownBlock = some k ∨ w.heap.size ≤ k) ∧ Turned (fun k => k = r ∨ u.ownBlock = some k) w w' := by
  have HF := hide h
  have HX := hide hx
  have HU := hide hux
  obtain ⟨a1, c1, rfl, -⟩ := bys_form hx
  have h1 := h.data
  have h2 := h.soft
  obtain ⟨ua, uc, rfl⟩ := owns_slice h.row
  clear h hx hux
  by_cases ho : inR off = false
  · have e1 : Fi_wrE off x.length = 4 := by unfold Fi_wrE; rw [if_pos ho]
    rw [wrL, e1, if_neg (by decide)]
    have HO := hide ho
    clear ho e1
    go_enter Tryz.func171, Tryz.ntmps171
    go_wp2_with fail
    refine (within_any _ _).mono ?_
    rintro e w1 ⟨rfl, rfl⟩
    rw [HO.out]
    go_wp2
    go_ret
    exact ⟨rfl, _, HF.out, fun k hk => .inl hk, Turned.refl _ _⟩
  · have ho1 : inR off = true := by simpa using ho
    have ho' := ho1
    simp only [inR, decide_eq_true_eq] at ho'
    obtain ⟨o, rfl⟩ : ∃ o : Nat, off = o := ⟨off.toNat, by omega⟩
    by_cases h3 : (1048576 : Int) < (o : Int) + (x.length : Nat)
    · have e1 : Fi_wrE o x.length = 31 := by unfold Fi_wrE; rw [if_neg ho, if_pos h3]
      rw [wrL, e1, if_neg (by decide)]
      have HO := hide ho1
      clear ho e1 ho1
      have hd : decide ((1048576 - (o : Int)) < (x.length : Int)) = true := by simp; omega
      go_enter Tryz.func171, Tryz.ntmps171
      go_wp2_with fail
      refine (within_any _ _).mono ?_
      rintro e w1 ⟨rfl, rfl⟩
      rw [HO.out]
      go_wp2
      all_goals first
        | (exfalso; omega)
        | (go_ret; exact ⟨rfl, _, HF.out, fun k hk => .inl hk, Turned.refl _ _⟩)
    · have e1 : Fi_wrE o x.length = 0 := by unfold Fi_wrE; rw [if_neg ho, if_neg h3]
      rw [wrL, e1, if_pos rfl, Int.toNat_natCast]
      have HO := hide ho1
      clear ho e1 ho1
      have hd : decide ((1048576 - (o : Int)) < (x.length : Int)) = false := by simp; omega
      by_cases h4 : x = []
      · subst h4
        rw [lay, if_pos rfl]
        go_enter Tryz.func171, Tryz.ntmps171
        go_wp2_with fail
        refine (within_any _ _).mono ?_
        rintro e w1 ⟨rfl, rfl⟩
        rw [HO.out]
        go_wp2
        all_goals first
          | (exfalso; omega)
          | (go_ret; exact ⟨rfl, _, HF.out, fun k hk => .inl hk, Turned.refl _ _⟩)
      · have hx0 := List.length_pos_iff.2 h4
        rw [lay_rlay _ _ _ h4]
        have hd2 : decide ((0 : Int) < (x.length : Int)) = true := by simp; omega
        clear h4
        go_enter Tryz.func171, Tryz.ntmps171
        go_wp2_with fail
        refine (within_any _ _).mono ?_
        rintro e w1 ⟨rfl, rfl⟩
        rw [HO.out]
        go_wp2_with fail
        refine (lay_any base _ _ l x o _ HF.out.row HX.out HU.out hl (by omega) hb).mono ?_
        rintro e w2 ⟨u', rfl, hown, hub, hT⟩
        obtain ⟨a', c', rfl⟩ := owns_slice hown
        have HOw := hide hown
        have HUB := hide hub
        have HT := hide hT
        have hgg := hT.block r HF.out.lt HF.out.apart
        have q1 := (World.cell?_of_block (w := w1) (a := ⟨r, 0, none⟩) hgg).trans HF.out.data
        have q2 := (World.frozen?_of_block (w := w1) (a := ⟨r, 0, none⟩) hgg).trans HF.out.soft
        clear hown hub hT hgg
        go_wp2
        go_ret
        obtain ⟨r1, r2⟩ := rstore HF.out HOw.out HUB.out HT.out
        exact ⟨rfl, _, r1, HUB.out, r2⟩
end Go.Proofs.YtdmkjbdlidadiaaGreat

/- The reference's Truncate. -/
namespace Go.Proofs.YtdmkjbdlidadiaaGreat
open Go.RowKit

end Go.Proofs.YtdmkjbdlidadiaaGreat

/- A terminal in memory: its lines, its screen, the blocks that are its own. -/
namespace Go.Proofs.YtdmkjbdlidadiaaGreat
open Go.RowKit

structure Term (W : World) (B t c : Nat) (O : Nat → Prop) (la : Option Addr) (lc : Nat) (s : Value) (ls : List (List UInt8)) (scr : List UInt8) : Prop where
  lines : W.cell? ⟨t, c, none⟩ = some (.slice la ls.length lc)
  screen : W.cell? ⟨t, c + 1, none⟩ = some s
  soft1 : W.frozen? ⟨t, c, none⟩ = false
  soft2 : W.frozen? ⟨t, c + 1, none⟩ = false
  cap : ls.length ≤ lc
  lo : ∀ k, (Value.slice la ls.length lc).ownBlock = some k → O k ∧ k ≠ t ∧ s.ownBlock ≠ some k
  row : 0 < ls.length → ∃ r off, la = some ⟨r, off, none⟩ ∧ ∀ j (hj : j < ls.length), W.frozen? ⟨r, off + j, none⟩ = false ∧ ∃ va vc, W.cell? ⟨r, off + j, none⟩ = some (.slice va ls[j].length vc) ∧ ls[j].length ≤ vc ∧ Bys W (.slice va ls[j].length vc) ls[j] ∧ ∀ k, (Value.slice va ls[j].length vc).ownBlock = some k → O k ∧ k ≠ t ∧ k ≠ r ∧ s.ownBlock ≠ some k
  scr : W.ownsRow B 5 1 s scr.length (scr.map bv)
  st : ∀ k, s.ownBlock = some k → O k ∧ k ≠ t
  ot : O t
  lt : ∀ k, O k → B ≤ k ∧ k < W.heap.size

theorem Term.keep {W W' : World} {B t c : Nat} {O : Nat → Prop} {la : Option Addr} {lc : Nat} {s : Value} {ls : List (List UInt8)} {scr : List UInt8} (h : Term W B t c O la lc s ls scr) (hk : ∀ k, O k → W'.heap[k]? = W.heap[k]?) (hs : W.heap.size ≤ W'.heap.size) : Term W' B t c O la lc s ls scr := by
  have ht := hk t h.ot
  refine ⟨(World.cell?_of_block (w := W) ht).trans h.lines, (World.cell?_of_block (w := W) ht).trans h.screen, (World.frozen?_of_block (w := W) ht).trans h.soft1, (World.frozen?_of_block (w := W) ht).trans h.soft2, h.cap, h.lo, fun h0 => ?_, owns_keep h.scr fun k e => hk k (h.st k e).1, h.st, h.ot, fun k e => ⟨(h.lt k e).1, Nat.lt_of_lt_of_le (h.lt k e).2 hs⟩⟩
  obtain ⟨r, off, rfl, hr⟩ := h.row h0
  have hro := hk r (h.lo r rfl).1
  refine ⟨r, off, rfl, fun j hj => ?_⟩
  obtain ⟨h1, va, vc, h2, h3, h4, h5⟩ := hr j hj
  exact ⟨(World.frozen?_of_block (w := W) hro).trans h1, va, vc, (World.cell?_of_block (w := W) hro).trans h2, h3, h4.keep fun k e _ => hk k (h5 k e).1, h5⟩
theorem Term.below {W W' : World} {B t c : Nat} {O : Nat → Prop} {la : Option Addr} {lc : Nat} {s : Value} {ls : List (List UInt8)} {scr : List UInt8} (h : Term W B t c O la lc s ls scr) (hB : Below W.heap.size W W') : Term W' B t c O la lc s ls scr :=
  h.keep (fun k e => hB.block k (h.lt k e).2) hB.size
theorem Term.turned {S : Nat → Prop} {W W' : World} {B t c : Nat} {O : Nat → Prop} {la : Option Addr} {lc : Nat} {s : Value} {ls : List (List UInt8)} {scr : List UInt8} (h : Term W B t c O la lc s ls scr) (hT : Turned S W W') (hS : ∀ k, O k → ¬ S k) : Term W' B t c O la lc s ls scr :=
  h.keep (fun k e => hT.block k (h.lt k e).2 (hS k e)) hT.size
theorem Term.written {w w1 : World} {B t c : Nat} {O : Nat → Prop} {la : Option Addr} {lc : Nat} {s s' : Value} {ls : List (List UInt8)} {scr scr' : List UInt8} (h : Term w B t c O la lc s ls scr)
    (hown : w1.ownsRow B 5 1 s' scr'.length (scr'.map bv)) (hg : w.grownBy w1 s.ownBlock) (hb : s'.ownBlock = s.ownBlock ∨ s'.ownBlock = some w.heap.size) :
    Term (w1.setCell ⟨t, c + 1, none⟩ s') B t c (fun k => O k ∨ s'.ownBlock = some k) la lc s' ls scr' ∧ Turned O w (w1.setCell ⟨t, c + 1, none⟩ s') := by
  have hO : ∀ k, O k → s.ownBlock ≠ some k → k ≠ t → (w1.setCell ⟨t, c + 1, none⟩ s').heap[k]? = w.heap[k]? := fun k hk hs ht =>
    (Below.heap_setCell _ _ _ _ ht).trans (hg.block k (h.lt k hk).2 (fun e => hs e.symm))
  have htt : w1.heap[t]? = w.heap[t]? := hg.block t (h.lt t h.ot).2 (fun e => (h.st t e.symm).2 rfl)
  have hc1 : w1.cell? ⟨t, c, none⟩ = some (.slice la ls.length lc) := (World.cell?_of_block (w := w) htt).trans h.lines
  have hc2 : w1.cell? ⟨t, c + 1, none⟩ = some s := (World.cell?_of_block (w := w) htt).trans h.screen
  have hne : ∀ k, O k → s.ownBlock ≠ some k → s'.ownBlock ≠ some k := fun k hk hs => by
    rcases hb with e | e
    · rw [e]; exact hs
    · rw [e]; intro e'; have := (h.lt k hk).2; cases e'; omega
  have hst : ∀ k, s'.ownBlock = some k → k ≠ t := fun k e => by
    rcases hb with e' | e'
    · rw [e'] at e; exact (h.st k e).2
    · rw [e'] at e; cases e; have := (h.lt t h.ot).2; omega
  refine ⟨⟨?_, World.cell?_setCell_same _ _ _ hc2, ?_, ?_, h.cap, fun k e => ?_, fun h0 => ?_, ?_, fun k e => ⟨.inr e, hst k e⟩, .inl h.ot, ?_⟩, ?_⟩
  · rw [World.cell?_setCell_other _ _ _ _ (by simp)]; exact hc1
  · rw [World.frozen?_setCell]; exact (World.frozen?_of_block (w := w) htt).trans h.soft1
  · rw [World.frozen?_setCell]; exact (World.frozen?_of_block (w := w) htt).trans h.soft2
  · obtain ⟨h1, h2, h3⟩ := h.lo k e
    exact ⟨.inl h1, h2, hne k h1 h3⟩
  · obtain ⟨r, off, rfl, hr⟩ := h.row h0
    obtain ⟨r1, r2, r3⟩ := h.lo r rfl
    have hrr := hO r r1 r3 r2
    refine ⟨r, off, rfl, fun j hj => ?_⟩
    obtain ⟨h1, va, vc, h2, h3, h4, h5⟩ := hr j hj
    refine ⟨(World.frozen?_of_block (w := w) hrr).trans h1, va, vc, (World.cell?_of_block (w := w) hrr).trans h2, h3, h4.keep fun k e _ => ?_, fun k e => ?_⟩
    · obtain ⟨q1, q2, q3, q4⟩ := h5 k e
      exact hO k q1 q4 q2
    · obtain ⟨q1, q2, q3, q4⟩ := h5 k e
      exact ⟨.inl q1, q2, q3, hne k q1 q4⟩
  · exact owns_keep hown fun k e => Below.heap_setCell _ _ _ _ (hst k e)
  · intro k e
    have hsz : (w1.setCell ⟨t, c + 1, none⟩ s').heap.size = w1.heap.size := by simp [World.setCell]
    rw [hsz]
    have := hg.size
    rcases e with e | e
    · have := h.lt k e; omega
    · exact hown.lt k e
  · exact ((Turned.refl O w).grown hg (fun k e => .inl (h.st k e).1)).set (.inl h.ot)

theorem Term.cut {w : World} {B t c : Nat} {O : Nat → Prop} {r off lc b o vc n : Nat} {s : Value} {l : List UInt8} {ls : List (List UInt8)} {scr : List UInt8} (h : Term w B t c O (some ⟨r, off, none⟩) lc s (l :: ls) scr)
    (hc : w.cell? ⟨r, off, none⟩ = some (.slice (some ⟨b, o, none⟩) l.length vc)) (hn : n < l.length) :
    Term (w.setCell ⟨r, off, none⟩ (.slice (some ⟨b, o + n, none⟩) (l.length - n) (vc - n))) B t c O (some ⟨r, off, none⟩) lc s (l.drop n :: ls) scr ∧ Turned O w (w.setCell ⟨r, off, none⟩ (.slice (some ⟨b, o + n, none⟩) (l.length - n) (vc - n))) := by
  obtain ⟨ro, rt, rs⟩ := h.lo r rfl
  have hO : ∀ k, k ≠ r → (w.setCell ⟨r, off, none⟩ (.slice (some ⟨b, o + n, none⟩) (l.length - n) (vc - n))).heap[k]? = w.heap[k]? := fun k hk => Below.heap_setCell _ _ _ _ hk
  have htt := hO t (Ne.symm rt)
  refine ⟨⟨(World.cell?_of_block (w := w) htt).trans h.lines, (World.cell?_of_block (w := w) htt).trans h.screen, (World.frozen?_of_block (w := w) htt).trans h.soft1, (World.frozen?_of_block (w := w) htt).trans h.soft2, h.cap, h.lo, fun _ => ⟨r, off, rfl, fun j hj => ?_⟩, owns_keep h.scr fun k e => hO k (fun e' => by rw [e'] at e; exact rs e), h.st, h.ot, fun k e => by simpa [World.setCell] using h.lt k e⟩, (Turned.refl O w).set (.inl ro)⟩
  obtain ⟨r', off', he, hr⟩ := h.row (by simp)
  cases he
  cases j with
  | zero =>
    obtain ⟨h1, va, vc', h2, h3, h4, h5⟩ := hr 0 (by simp)
    simp only [Nat.add_zero, List.getElem_cons_zero] at h1 h2 h3 h4 h5 ⊢
    rw [hc] at h2
    simp only [Option.some.injEq, Value.slice.injEq, true_and] at h2
    obtain ⟨rfl, rfl⟩ := h2
    have hl : (l.drop n).length = l.length - n := by simp
    refine ⟨by rw [World.frozen?_setCell]; exact h1, _, _, by rw [hl]; exact World.cell?_setCell_same _ _ _ hc, by omega, ?_, fun k e => h5 k e⟩
    have hb := bys_cut h4 n (l.length - n) (vc - n) (by omega)
    rw [List.take_of_length_le (by simp)] at hb
    rw [hl]
    exact hb.keep fun k e _ => hO k (h5 k e).2.2.1
  | succ j =>
    have hj' : j + 1 < (l :: ls).length := by simpa using hj
    obtain ⟨h1, va, vc', h2, h3, h4, h5⟩ := hr (j + 1) hj'
    simp only [List.getElem_cons_succ] at h1 h2 h3 h4 h5 ⊢
    refine ⟨by rw [World.frozen?_setCell]; exact h1, va, vc', ?_, h3, h4.keep fun k e _ => hO k (h5 k e).2.2.1, h5⟩
    rw [World.cell?_setCell_other _ _ _ _ (by simp)]
    exact h2

theorem Term.dropped {w w1 : World} {B t c : Nat} {O : Nat → Prop} {r off lc : Nat} {s : Value} {l : List UInt8} {ls : List (List UInt8)} {scr : List UInt8} (h : Term w B t c O (some ⟨r, off, none⟩) lc s (l :: ls) scr)
    (hsz : w1.heap.size = w.heap.size) (hos : w1.os = w.os) (hta : w1.tape = w.tape) (hou : w1.output = w.output) (hO : ∀ k, k ≠ r → w1.heap[k]? = w.heap[k]?) (hr : ∀ j, w1.frozen? ⟨r, off + (j + 1), none⟩ = w.frozen? ⟨r, off + (j + 1), none⟩ ∧ w1.cell? ⟨r, off + (j + 1), none⟩ = w.cell? ⟨r, off + (j + 1), none⟩)
    (la : Option Addr) (n' : Nat) (hla : la = some ⟨r, off + 1, none⟩ ∨ ls = [] ∧ la = some ⟨r, off, none⟩) (hn' : n' = ls.length) :
    Term (w1.setCell ⟨t, c, none⟩ (.slice la n' (lc - 1))) B t c O la (lc - 1) s ls scr ∧ Turned (fun k => k = t ∨ k = r) w (w1.setCell ⟨t, c, none⟩ (.slice la n' (lc - 1))) := by
  subst hn'
  obtain ⟨ro, rt, rs⟩ := h.lo r rfl
  have hT1 : Turned (fun k => k = t ∨ k = r) w w1 := ⟨hos, hta, hou, by omega, fun k hk hn => hO k (fun e => hn (.inr e))⟩
  have htt : w1.heap[t]? = w.heap[t]? := hO t (Ne.symm rt)
  have hc1 : w1.cell? ⟨t, c, none⟩ = some (.slice (some ⟨r, off, none⟩) (ls.length + 1) lc) := (World.cell?_of_block (w := w) htt).trans h.lines
  have hK : ∀ k, k ≠ r → k ≠ t → (w1.setCell ⟨t, c, none⟩ (.slice la ls.length (lc - 1))).heap[k]? = w.heap[k]? := fun k h1 h2 => (Below.heap_setCell _ _ _ _ h2).trans (hO k h1)
  have hblk : ∀ k, (Value.slice la ls.length (lc - 1)).ownBlock = some k → k = r := fun k e => by
    rcases hla with rfl | ⟨_, rfl⟩ <;> (simp only [Value.ownBlock, Option.some.injEq] at e; exact e.symm)
  have hcap := h.cap
  simp only [List.length_cons] at hcap
  refine ⟨⟨World.cell?_setCell_same _ _ _ hc1, ?_, ?_, ?_, by omega, fun k e => ?_, fun h0 => ?_, ?_, h.st, h.ot, fun k e => ?_⟩, hT1.set (.inl (.inl rfl))⟩
  · rw [World.cell?_setCell_other _ _ _ _ (by simp)]; exact (World.cell?_of_block (w := w) htt).trans h.screen
  · rw [World.frozen?_setCell]; exact (World.frozen?_of_block (w := w) htt).trans h.soft1
  · rw [World.frozen?_setCell]; exact (World.frozen?_of_block (w := w) htt).trans h.soft2
  · rw [hblk k e]; exact ⟨ro, rt, rs⟩
  · rcases hla with rfl | ⟨rfl, _⟩
    · obtain ⟨r', off', he, hrow⟩ := h.row (by simp)
      cases he
      refine ⟨r, off + 1, rfl, fun j hj => ?_⟩
      obtain ⟨h1, va, vc', h2, h3, h4, h5⟩ := hrow (j + 1) (by simpa using hj)
      simp only [List.getElem_cons_succ] at h1 h2 h3 h4 h5
      have e1 : off + 1 + j = off + (j + 1) := by omega
      rw [e1]
      refine ⟨by rw [World.frozen?_setCell, (hr j).1]; exact h1, va, vc', ?_, h3, h4.keep fun k e _ => hK k (h5 k e).2.2.1 (h5 k e).2.1, h5⟩
      rw [World.cell?_setCell_other _ _ _ _ (by simp), (hr j).2]
      exact h2
    · simp at h0
  · exact owns_keep h.scr fun k e => hK k (fun e' => by rw [e'] at e; exact rs e) (h.st k e).2
  · have := h.lt k e
    simpa [World.setCell, hsz] using this
end Go.Proofs.YtdmkjbdlidadiaaGreat

/- The small functions of terminal: isMade, copied, copiedLines, New, Left, Screen, Copy. -/
namespace Go.Proofs.YtdmkjbdlidadiaaGreat
open Go.RowKit

set_option maxHeartbeats 1000000 in
theorem Te_isMade_yes (g : Nat) (w : World) (h : w.cell? ⟨g, 0, none⟩ = some (.bool true)) :
    Calls Tryz.prog 228 #[.pointer (some ⟨g, 0, none⟩)] w fun e w' => e = .returned (.bool true) ∧ w' = w := by
  go_enter Tryz.func228, Tryz.ntmps228
  go_wp2
  go_ret
  exact ⟨rfl, rfl⟩
theorem Te_made_row {w w1 : World} {T n : Nat} {xs : List Value} (h : w1.ownsRow w.heap.size T 1 (.slice (some ⟨w.heap.size, 0, none⟩) n n) n xs) (hg : w.grownBy w1 none) :
    ∃ cur : List Value, cur.length = n ∧ Hid (w1.heap[w.heap.size]? = some (.cells cur.toArray T (0, 0))) ∧ Below w.heap.size w w1 := by
  refine (?_ : ∃ cur : List Value, cur.length = n ∧ w1.heap[w.heap.size]? = some (.cells cur.toArray T (0, 0)) ∧ Below w.heap.size w w1)
  rcases h.2 with ⟨h0, _⟩ | ⟨g, c, cur, h1, h2, h3, h4, h5, h6, h7⟩
  · cases h0
  · cases h1
    exact ⟨cur.toList, by rw [Array.length_toList]; omega, by rw [Array.toArray_toList]; exact h3, (Below.refl _ w).grown hg (Nat.le_refl _) (fun k e => by cases e)⟩
theorem Te_bys_src {w : World} {a1 : Option Addr} {n c1 : Nat} {l : List UInt8} {X : List Value} (h : Bys w (.slice a1 n c1) l) (hX : X = l.map bv) :
    0 < X.length → ∃ ad, a1 = some ad ∧ ∀ j v, X[j]? = some v → w.cell? (ad.add j) = some v := by
  intro h0
  obtain ⟨a, c, he, hc⟩ := bys_form h
  cases he
  obtain ⟨b, off, rfl, hd⟩ := hc (by rw [hX] at h0; simpa using h0)
  exact ⟨_, rfl, fun j v hj => bys_news hd j v (by rw [← hX]; exact hj)⟩

set_option maxRecDepth 100000 in
set_option maxHeartbeats 1000000 in
theorem Te_copied_any (v : Value) (l : List UInt8) (w : World) (h : Bys w v l) (hs : l.length ≤ 140737488351232) :
    Calls Tryz.prog 215 #[v] w fun e w' => e = .returned (.slice (some ⟨w.heap.size, 0, none⟩) l.length l.length) ∧ w'.ownsRow w.heap.size 5 1 (.slice (some ⟨w.heap.size, 0, none⟩) l.length l.length) l.length (l.map bv) ∧ Below w.heap.size w w' := by
  obtain ⟨i0, hi, hz0, hz1, hz2⟩ := info_parts Tryz.infoB
  obtain ⟨a1, c1, rfl, -⟩ := bys_form h
  have HC1 := hide h
  clear h
  have hsz : (Tryz.prog.info? 5).map (·.size) = some 1 := by rw [hi]; simp [hz1]
  obtain ⟨X, hX⟩ : ∃ X, X = l.map bv := ⟨_, rfl⟩
  have HX := hide hX
  have hXl : X.length = l.length := by rw [hX]; simp
  have H1 : Hid (∀ v ∈ X, v.oneCell' = true) := hide (by rw [hX]; exact bys_one l)
  clear hX
  go_enter Tryz.func215, Tryz.ntmps215
  go_wp2_with (at_make; refine wpList_make_full _ rfl _ _ 40 rfl w.heap.size 5 i0 (.int .u8 0) 1 Tryz.underlying40 hi hz0 hz1 _ _ _ _ l.length rfl rfl rfl rfl (by rw [hz2]; omega) (by unfold maxLen; omega) (Nat.le_refl _) ?_; intro w1 hown1 hgrow1; obtain ⟨cur, hcl, HR, hB1⟩ := Te_made_row hown1 hgrow1; clear hown1 hgrow1; obtain ⟨w2, hrun, HG2, hgr2⟩ := run_copy w1 3 (some ⟨w.heap.size, 0, none⟩) a1 l.length l.length l.length c1 w.heap.size 0 cur HR.out X (by rw [hXl]; simp) (fun h0 => ⟨rfl, Te_bys_src (HC1.out.below hB1) HX.out h0⟩) (by omega) H1.out)
  go_ret
  refine ⟨rfl, ⟨by simp, .inr ⟨w.heap.size, l.length, _, rfl, Nat.le_refl _, HG2.out, Nat.le_refl _, by unfold maxLen; omega, ?_, ?_⟩⟩, hB1.grown hgr2 hB1.size (fun k e => by cases e; exact Nat.le_refl _)⟩
  · have := length_splice cur 0 X (by omega)
    simp [this, hcl]
  · simp [splice, ← hcl, HX.out]
    rw [hcl, List.take_of_length_le (by simp)]

def LRow (W : World) (B r off : Nat) (ls : List (List UInt8)) : Prop :=
  ∀ j (hj : j < ls.length), W.frozen? ⟨r, off + j, none⟩ = false ∧ ∃ va vc, W.cell? ⟨r, off + j, none⟩ = some (.slice va ls[j].length vc) ∧ ls[j].length ≤ vc ∧ Bys W (.slice va ls[j].length vc) ls[j] ∧ ∀ k, (Value.slice va ls[j].length vc).ownBlock = some k → B ≤ k ∧ k ≠ r ∧ k < W.heap.size
theorem LRow.below {W W' : World} {B r off : Nat} {ls : List (List UInt8)} (h : LRow W B r off ls) (hB : Below W.heap.size W W') : LRow W' B r off ls := fun j hj => by
  obtain ⟨h1, va, vc, h2, h3, h4, h5⟩ := h j hj
  have hr := World.block_lt_of_cell? W _ h2
  exact ⟨(hB.frozen (p := ⟨r, off + j, none⟩) hr).trans h1, va, vc, (hB.cell (p := ⟨r, off + j, none⟩) hr).trans h2, h3, h4.below hB, fun k e => by have := h5 k e; have := hB.size; omega⟩
end Go.Proofs.YtdmkjbdlidadiaaGreat

/- New, Left, Screen, Copy of a terminal. -/
namespace Go.Proofs.YtdmkjbdlidadiaaGreat
open Go.RowKit

structure PTerm (W : World) (B t : Nat) (O : Nat → Prop) (ls : List (List UInt8)) (scr : List UInt8) : Prop where
  made : W.cell? ⟨t, 0, none⟩ = some (.bool true)
  term : ∃ la lc s, Term W B t 1 O la lc s ls scr
  few : ls.length ≤ 256
  short : ∀ j (hj : j < ls.length), ls[j].length ≤ 4096
  room : scr.length ≤ 1048576
theorem PTerm.ot {W : World} {B t : Nat} {O : Nat → Prop} {ls : List (List UInt8)} {scr : List UInt8} (h : PTerm W B t O ls scr) : O t := by
  obtain ⟨_, _, _, h⟩ := h.term
  exact h.ot
theorem PTerm.lt {W : World} {B t : Nat} {O : Nat → Prop} {ls : List (List UInt8)} {scr : List UInt8} (h : PTerm W B t O ls scr) : ∀ k, O k → B ≤ k ∧ k < W.heap.size := by
  obtain ⟨_, _, _, h⟩ := h.term
  exact h.lt
theorem PTerm.keep {W W' : World} {B t : Nat} {O : Nat → Prop} {ls : List (List UInt8)} {scr : List UInt8} (h : PTerm W B t O ls scr) (hk : ∀ k, O k → W'.heap[k]? = W.heap[k]?) (hs : W.heap.size ≤ W'.heap.size) : PTerm W' B t O ls scr := by
  have ho := h.ot
  obtain ⟨h1, ⟨la, lc, s, h2⟩, h3, h4, h5⟩ := h
  exact ⟨(World.cell?_of_block (w := W) (hk t ho)).trans h1, ⟨la, lc, s, h2.keep hk hs⟩, h3, h4, h5⟩
theorem PTerm.below {W W' : World} {B t : Nat} {O : Nat → Prop} {ls : List (List UInt8)} {scr : List UInt8} (h : PTerm W B t O ls scr) (hB : Below W.heap.size W W') : PTerm W' B t O ls scr :=
  h.keep (fun k e => hB.block k (h.lt k e).2) hB.size
theorem PTerm.turned {S : Nat → Prop} {W W' : World} {B t : Nat} {O : Nat → Prop} {ls : List (List UInt8)} {scr : List UInt8} (h : PTerm W B t O ls scr) (hT : Turned S W W') (hS : ∀ k, O k → ¬ S k) : PTerm W' B t O ls scr :=
  h.keep (fun k e => hT.block k (h.lt k e).2 (hS k e)) hT.size

end Go.Proofs.YtdmkjbdlidadiaaGreat

/- Copy of a terminal. -/
namespace Go.Proofs.YtdmkjbdlidadiaaGreat
open Go.RowKit


end Go.Proofs.YtdmkjbdlidadiaaGreat

/- Read and Write of a terminal. -/
namespace Go.Proofs.YtdmkjbdlidadiaaGreat
open Go.RowKit

def restL : List (List UInt8) → Nat → List (List UInt8)
  | [], _ => []
  | l :: ls, n => if n < l.length then l.drop n :: ls else ls
def headL : List (List UInt8) → Nat → List UInt8
  | [], _ => []
  | l :: _, n => l.take n
theorem restL_few {ls : List (List UInt8)} {n : Nat} (h : ls.length ≤ 256) : (restL ls n).length ≤ 256 := by
  cases ls with
  | nil => simp [restL]
  | cons l ls =>
    simp only [List.length_cons] at h
    simp only [restL]
    split
    · simpa using h
    · omega
theorem restL_short {ls : List (List UInt8)} {n : Nat} (h : ∀ j (hj : j < ls.length), ls[j].length ≤ 4096) : ∀ j (hj : j < (restL ls n).length), (restL ls n)[j].length ≤ 4096 := by
  have h' : ∀ l ∈ ls, l.length ≤ 4096 := fun l hl => by
    obtain ⟨j, hj, rfl⟩ := List.getElem_of_mem hl
    exact h j hj
  suffices hh : ∀ l ∈ restL ls n, l.length ≤ 4096 from fun j hj => hh _ (List.getElem_mem hj)
  cases ls with
  | nil => simp [restL]
  | cons l ls =>
    intro x hx
    simp only [restL] at hx
    split at hx
    · rcases List.mem_cons.1 hx with rfl | hx
      · have := h' l (by simp)
        simp; omega
      · exact h' x (by simp [hx])
    · exact h' x (by simp [hx])

set_option maxRecDepth 100000 in
set_option maxHeartbeats 1000000 in
theorem dropFirst_any (B t : Nat) (O : Nat → Prop) (la : Option Addr) (lc : Nat) (s : Value) (l : List UInt8) (ls : List (List UInt8)) (scr : List UInt8) (w : World) (h : Term w B t 1 O la lc s (l :: ls) scr) :
    Calls Tryz.prog 321 #[.pointer (some ⟨t, 0, none⟩)] w fun e w' => e = .returned (.tuple #[]) ∧ (∃ la' lc', Term w' B t 1 O la' lc' s ls scr) ∧ Turned (fun k => k = t ∨ la.map (·.block) = some k) w w' ∧ w'.cell? ⟨t, 0, none⟩ = w.cell? ⟨t, 0, none⟩ := by
  have HT := hide h
  have h2 := h.lines
  have h3 := h.soft1
  obtain ⟨r, off, rfl, hr⟩ := h.row (by simp)
  obtain ⟨hf, va, vc, hc, -⟩ := hr 0 (by simp)
  obtain ⟨ro, rt, rs⟩ := h.lo r rfl
  have hcap := h.cap
  simp only [Nat.add_zero, List.getElem_cons_zero, List.length_cons] at hc hf h2 hcap
  clear hr h
  have q1 : (w.setCell ⟨r, off, none⟩ (.slice none 0 0)).cell? ⟨t, 1, none⟩ = some (.slice (some ⟨r, off, none⟩) (ls.length + 1) lc) := by
    rw [World.cell?_setCell_other _ _ _ _ (by simp)]; exact h2
  have q2 : (w.setCell ⟨r, off, none⟩ (.slice none 0 0)).frozen? ⟨t, 1, none⟩ = false := by
    rw [World.frozen?_setCell]; exact h3
  have HD := hide (fun la n' h5 h6 => HT.out.dropped (w1 := w.setCell ⟨r, off, none⟩ (.slice none 0 0)) (by simp [World.setCell]) rfl rfl rfl (fun k hk => Below.heap_setCell _ _ _ _ hk) (fun j => ⟨by rw [World.frozen?_setCell], by rw [World.cell?_setCell_other _ _ _ _ (by simp)]⟩) la n' h5 h6)
  have q3 : ∀ u, ((w.setCell ⟨r, off, none⟩ (.slice none 0 0)).setCell ⟨t, 1, none⟩ u).cell? ⟨t, 0, none⟩ = w.cell? ⟨t, 0, none⟩ := fun u => by
    rw [World.cell?_setCell_other _ _ _ _ (by simp), World.cell?_setCell_other _ _ _ _ (by simp)]
  have HQ3 := hide q3
  clear q3
  by_cases h1 : lc = 1
  · obtain rfl : ls = [] := List.length_eq_zero_iff.1 (by omega)
    subst h1
    simp only [List.length_nil] at *
    go_enter Tryz.func321, Tryz.ntmps321
    go_wp2
    go_end0
    obtain ⟨r1, r2⟩ := HD.out (some ⟨r, off, none⟩) 0 (.inr ⟨trivial, rfl⟩) rfl
    exact ⟨rfl, ⟨_, _, r1⟩, r2.mono fun k e => e.imp id fun e => by rw [e]; rfl, HQ3.out _⟩
  · have k1 : (1 : Int) < (lc : Int) := by omega
    have k2 : (1 : Int) ≤ (ls.length : Int) + 1 := by omega
    go_enter Tryz.func321, Tryz.ntmps321
    go_wp2
    go_end0
    obtain ⟨r1, r2⟩ := HD.out (some ⟨r, off + 1, none⟩) ls.length (.inl rfl) rfl
    exact ⟨rfl, ⟨_, _, r1⟩, r2.mono fun k e => e.imp id fun e => by rw [e]; rfl, HQ3.out _⟩

theorem take_keep {w w1 w2 : World} {O : Nat → Prop} (hT : Turned O w w1) (hB : Below w1.heap.size w1 w2) : Turned O w w2 :=
  hT.trans (Turned.of_below (S := O) hB) (fun _ _ h => h)

set_option maxRecDepth 100000 in
set_option maxHeartbeats 2000000 in
theorem Te_take_any (B t : Nat) (O : Nat → Prop) (la : Option Addr) (lc : Nat) (s : Value) (l : List UInt8) (ls : List (List UInt8)) (scr : List UInt8) (n : Nat) (w : World) (h : Term w B t 1 O la lc s (l :: ls) scr) (hl : l.length ≤ 4096) (hn1 : 1 ≤ n) (hn : n ≤ 1048576) :
    Calls Tryz.prog 322 #[.pointer (some ⟨t, 0, none⟩), .int .i64 n] w fun e w' => ∃ q, e = .returned (.slice (some ⟨q, 0, none⟩) (l.take n).length (l.take n).length) ∧ w'.ownsRow w.heap.size 5 1 (.slice (some ⟨q, 0, none⟩) (l.take n).length (l.take n).length) (l.take n).length ((l.take n).map bv) ∧ (∃ la' lc', Term w' B t 1 O la' lc' s (restL (l :: ls) n) scr) ∧ Turned O w w' ∧ w'.cell? ⟨t, 0, none⟩ = w.cell? ⟨t, 0, none⟩ := by
  have HT := hide h
  have h2 := h.lines
  have h3 := h.soft1
  have htl := h.lt t h.ot
  obtain ⟨r, off, rfl, hr⟩ := h.row (by simp)
  obtain ⟨hf, va, vc, hc, hvc, hby, hkk⟩ := hr 0 (by simp)
  obtain ⟨ro, rt, rs⟩ := h.lo r rfl
  have hcap := h.cap
  simp only [Nat.add_zero, List.getElem_cons_zero, List.length_cons] at hc hf h2 hcap hvc hby hkk
  have HBy := hide hby
  have HK := hide hkk
  clear hr h hby hkk
  by_cases hlt : n < l.length
  · obtain ⟨_, b, o, rfl, hbl, -⟩ := bys_block HBy.out (by omega)
    have hd : decide ((n : Int) < (l.length : Int)) = true := by simp; omega
    obtain ⟨hC, hTn⟩ := HT.out.cut hc hlt
    have k1 : (n : Int) < (vc : Int) := by omega
    have k2 : (n : Int) ≤ (l.length : Int) := by omega
    have k3 : ¬ vc = n := by omega
    have k4 : (n : Int) ≤ (vc : Int) := by omega
    have hby1 : Bys (w.setCell ⟨r, off, none⟩ (.slice (some ⟨b, o + n, none⟩) (l.length - n) (vc - n))) (.slice (some ⟨b, o, none⟩) n vc) (l.take n) := by
      have h5 := bys_cut HBy.out 0 n vc (by omega)
      rw [List.drop_zero, Nat.add_zero] at h5
      exact h5.keep fun k e _ => Below.heap_setCell _ _ _ _ (HK.out k e).2.2.1
    have HB1 := hide hby1
    have HC := hide hC
    have HTn := hide hTn
    have hq0 : (w.setCell ⟨r, off, none⟩ (.slice (some ⟨b, o + n, none⟩) (l.length - n) (vc - n))).cell? ⟨t, 0, none⟩ = w.cell? ⟨t, 0, none⟩ := World.cell?_of_block (w := w) (Below.heap_setCell _ _ _ _ (Ne.symm rt))
    have HQ0 := hide hq0
    have hre : restL (l :: ls) n = l.drop n :: ls := by rw [restL, if_pos hlt]
    rw [hre]
    have htk : (l.take n).length = n := by simp; omega
    have HTK := hide htk
    clear hby1 hC hTn hq0 hre htk
    go_enter Tryz.func322, Tryz.ntmps322
    go_wp2_with fail
    go_region
    go_wp2_with fail
    generalize w.setCell ⟨r, off, none⟩ (.slice (some ⟨b, o + n, none⟩) (l.length - n) (vc - n)) = w1 at *
    have hBd : Below w1.heap.size w1 w1.drew := (Below.refl _ _).drew
    refine (Te_copied_any _ (l.take n) _ (by have := HB1.out.below hBd; exact this) (by rw [HTK.out]; omega)).mono ?_
    rintro e w2 ⟨rfl, hown, hB2⟩
    have HO := hide hown
    clear hown
    go_wp2
    go_ret
    have hB12 : Below w1.heap.size w1 w2 := hBd.trans hB2
    exact ⟨w1.heap.size, by rw [List.length_take]; rfl, owns_mono HO.out HTn.out.size, ⟨_, _, HC.out.below hB12⟩, take_keep HTn.out hB12, (hB12.cell (p := ⟨t, 0, none⟩) (Nat.lt_of_lt_of_le htl.2 HTn.out.size)).trans HQ0.out⟩
  · have hd : decide ((n : Int) < (l.length : Int)) = false := by simp; omega
    have hre : restL (l :: ls) n = ls := by rw [restL, if_neg hlt]
    have htk : l.take n = l := List.take_of_length_le (by omega)
    rw [hre, htk]
    clear hre htk
    have k4 : (l.length : Int) ≤ (vc : Int) := by omega
    have k5 : (l.length : Int) ≤ (n : Int) := by omega
    have hva : (va = none ∧ l.length = 0 ∧ vc = 0) ∨ ∃ ad, va = some ad := by
      rcases HBy.out with ⟨h5, h6⟩ | ⟨a, c, h5, h6⟩ | ⟨b, o, c, h5, _⟩
      · simp only [Value.slice.injEq] at h5
        exact .inl ⟨h5.1, h5.2.1, h5.2.2⟩
      · simp only [Value.slice.injEq] at h5
        exact .inr ⟨_, h5.1⟩
      · simp only [Value.slice.injEq] at h5
        exact .inr ⟨_, h5.1⟩
    have hva' : (va = none ∧ l.length = 0 ∧ vc = 0) ∨ (∃ ad, va = some ad ∧ l.length < n) ∨ ∃ ad, va = some ad ∧ n = l.length := by
      rcases hva with h | ⟨ad, h⟩
      · exact .inl h
      · rcases Nat.lt_or_ge l.length n with h1 | h1
        · exact .inr (.inl ⟨ad, h, h1⟩)
        · exact .inr (.inr ⟨ad, h, by omega⟩)
    clear hva
    rcases hva' with ⟨rfl, hl0, rfl⟩ | ⟨ad, rfl, hcn⟩ | ⟨ad, rfl, rfl⟩
    case' inr.inr =>
      clear hd k5 hlt
      have hd : decide ((l.length : Int) < (l.length : Int)) = false := by simp
      have hd2 : ¬ l.length < l.length := by omega
    case' inl =>
      rw [hl0] at hc HBy
      obtain rfl : l = [] := List.length_eq_zero_iff.1 hl0
      clear hd k4 k5 hlt hvc hl
      have hd : decide ((n : Int) < 0) = false := by simp
      have k5 : (0 : Int) < (n : Int) := by omega
      have k6 : 0 < n := hn1
    all_goals
      go_enter Tryz.func322, Tryz.ntmps322
      go_wp2_with fail
      refine (dropFirst_any B t O _ lc s _ ls scr _ HT.out).mono ?_
      rintro e w1 ⟨rfl, hC, hT1, hq1⟩
      have HC := hide hC
      clear hC
      have HB1 := hide (HBy.out.keep (W' := w1) fun k e hk => hT1.block k hk (fun e' => by
        obtain ⟨q1, q2, q3, q4⟩ := HK.out k e
        rcases e' with e' | e'
        · exact q2 e'
        · simp only [Option.map_some, Option.some.injEq] at e'
          exact q3 e'.symm))
      have HT1 := hide (hT1.mono (S' := O) fun k e => by
        rcases e with rfl | e
        · exact HT.out.ot
        · simp only [Option.map_some, Option.some.injEq] at e
          rw [← e]; exact ro)
      clear hT1
      go_wp2_with fail
      refine (Te_copied_any _ _ _ HB1.out (by first | omega | simp)).mono ?_
      rintro e w2 ⟨rfl, hown, hB2⟩
      have HO := hide hown
      clear hown
      go_wp2
      go_ret
      obtain ⟨la', lc', hC⟩ := HC.out
      exact ⟨_, rfl, owns_mono HO.out HT1.out.size, ⟨la', lc', hC.below hB2⟩, take_keep HT1.out hB2, (hB2.cell (p := ⟨t, 0, none⟩) (Nat.lt_of_lt_of_le htl.2 HT1.out.size)).trans hq1⟩
end Go.Proofs.YtdmkjbdlidadiaaGreat

/- Read and Write of a terminal: what they answer, and what they leave. -/
namespace Go.Proofs.YtdmkjbdlidadiaaGreat
open Go.RowKit

def rOk (n : Int) : Bool := decide (1 ≤ n ∧ n ≤ 1048576)
theorem rOk_yes {n : Int} (h1 : 1 ≤ n) (h2 : n ≤ 1048576) : rOk n = true := by simp [rOk, h1, h2]
theorem rOk_no {n : Int} (h : ¬ (1 ≤ n ∧ n ≤ 1048576)) : rOk n = false := by simp only [rOk, decide_eq_false_iff_not]; exact h
def Te_rdE (n : Int) : Int := if rOk n = true then 0 else 4
def rdH (ls : List (List UInt8)) (n : Int) : List UInt8 := if rOk n = true then headL ls n.toNat else []
def rdR (ls : List (List UInt8)) (n : Int) : List (List UInt8) := if rOk n = true then restL ls n.toNat else ls

set_option maxRecDepth 100000 in
set_option maxHeartbeats 1000000 in
theorem read_bad (B t : Nat) (O : Nat → Prop) (ls : List (List UInt8)) (scr : List UInt8) (n : Int) (w : World) (h : PTerm w B t O ls scr) (hn : ¬ (1 ≤ n ∧ n ≤ 1048576)) :
    Calls Tryz.prog 319 #[.pointer (some ⟨t, 0, none⟩), .int .i64 n] w fun e w' => e = .returned (.tuple #[.slice none 0 0, .int .i64 4]) ∧ w' = w := by
  have h1 := h.made
  clear h
  by_cases hd1 : n < 1
  · have hd : decide (n < 1) = true := by simp; omega
    go_enter Tryz.func319, Tryz.ntmps319
    go_wp2_with fail
    refine (Te_isMade_yes t w h1).mono ?_
    rintro e w1 ⟨rfl, rfl⟩
    go_wp2
    go_ret2
    exact ⟨rfl, rfl⟩
  · have hd : decide (n < 1) = false := by simp; omega
    have hd2 : decide (1048576 < n) = true := by simp; omega
    go_enter Tryz.func319, Tryz.ntmps319
    go_wp2_with fail
    refine (Te_isMade_yes t w h1).mono ?_
    rintro e w1 ⟨rfl, rfl⟩
    go_wp2
    go_ret2
    exact ⟨rfl, rfl⟩

set_option maxRecDepth 100000 in
set_option maxHeartbeats 1000000 in
theorem read_good (B t : Nat) (O : Nat → Prop) (ls : List (List UInt8)) (scr : List UInt8) (n : Nat) (w : World) (h : PTerm w B t O ls scr) (hn1 : 1 ≤ n) (hn : n ≤ 1048576) :
    Calls Tryz.prog 319 #[.pointer (some ⟨t, 0, none⟩), .int .i64 n] w fun e w' => ∃ v, e = .returned (.tuple #[v, .int .i64 0]) ∧ w'.ownsRow w.heap.size 5 1 v (headL ls n).length ((headL ls n).map bv) ∧ PTerm w' B t O (restL ls n) scr ∧ Turned O w w' := by
  have h1 := h.made
  have HP := hide h
  obtain ⟨la, lc, s, hT⟩ := h.term
  have HT := hide hT
  have h2 := hT.lines
  clear h hT
  have hd : decide ((n : Int) < 1) = false := by simp; omega
  have hd2 : decide ((1048576 : Int) < (n : Int)) = false := by simp; omega
  cases ls with
  | nil =>
    simp only [List.length_nil] at h2
    go_enter Tryz.func319, Tryz.ntmps319
    go_wp2_with fail
    refine (Te_isMade_yes t w h1).mono ?_
    rintro e w1 ⟨rfl, rfl⟩
    go_wp2
    go_ret2
    exact ⟨_, rfl, World.ownsRow_nil _ _ _ _, HP.out, Turned.refl _ _⟩
  | cons l ls =>
    have hz : ((ls.length : Int) + 1 == 0) = false := by simp; omega
    have hz2 : ¬ (ls.length : Int) + 1 = 0 := by omega
    have hl := HP.out.short 0 (by simp)
    simp only [List.getElem_cons_zero] at hl
    have HTA := hide (Te_take_any B t O la lc s l ls scr n w HT.out hl hn1 hn)
    rw [show headL (l :: ls) n = l.take n from rfl]
    generalize l.take n = X at HTA ⊢
    go_enter Tryz.func319, Tryz.ntmps319
    go_wp2_with fail
    refine (Te_isMade_yes t w h1).mono ?_
    rintro e w1 ⟨rfl, rfl⟩
    go_wp2_with fail
    refine HTA.out.mono ?_
    rintro e w2 ⟨q, rfl, hown, hC, hT2, hq⟩
    have HO := hide hown
    have HC := hide hC
    clear hown hC
    go_wp2
    go_ret2
    obtain ⟨la', lc', hC⟩ := HC.out
    exact ⟨_, rfl, HO.out, ⟨hq.trans h1, ⟨la', lc', s, hC⟩, restL_few HP.out.few, restL_short HP.out.short, HP.out.room⟩, hT2⟩

theorem Te_read_any (B t : Nat) (O : Nat → Prop) (ls : List (List UInt8)) (scr : List UInt8) (n : Int) (w : World) (h : PTerm w B t O ls scr) :
    Calls Tryz.prog 319 #[.pointer (some ⟨t, 0, none⟩), .int .i64 n] w fun e w' => ∃ v, e = .returned (.tuple #[v, .int .i64 (Te_rdE n)]) ∧ w'.ownsRow w.heap.size 5 1 v (rdH ls n).length ((rdH ls n).map bv) ∧ PTerm w' B t O (rdR ls n) scr ∧ Turned O w w' := by
  by_cases hn : 1 ≤ n ∧ n ≤ 1048576
  · have hr := rOk_yes hn.1 hn.2
    rw [Te_rdE, rdH, rdR, if_pos hr, if_pos hr, if_pos hr]
    obtain ⟨m, rfl⟩ : ∃ m : Nat, n = m := ⟨n.toNat, by omega⟩
    rw [Int.toNat_natCast]
    exact read_good B t O ls scr m w h (by omega) (by omega)
  · have hr : ¬ rOk n = true := by rw [rOk_no hn]; simp
    rw [Te_rdE, rdH, rdR, if_neg hr, if_neg hr, if_neg hr]
    refine (read_bad B t O ls scr n w h hn).mono ?_
    rintro e w' ⟨rfl, rfl⟩
    exact ⟨_, rfl, World.ownsRow_nil _ _ _ _, h, Turned.refl _ _⟩

def Te_wrE (m n : Nat) : Int := if 1048576 < m + n then 31 else 0
def wrS (scr x : List UInt8) : List UInt8 := if 1048576 < scr.length + x.length then scr else scr ++ x

set_option maxRecDepth 100000 in
set_option maxHeartbeats 1000000 in
theorem Te_write_any (B t : Nat) (O : Nat → Prop) (ls : List (List UInt8)) (scr : List UInt8) (vx : Value) (x : List UInt8) (w : World) (h : PTerm w B t O ls scr) (hx : Bys w vx x) :
    Calls Tryz.prog 320 #[.pointer (some ⟨t, 0, none⟩), vx] w fun e w' => e = .returned (.int .i64 (Te_wrE scr.length x.length)) ∧ ∃ O', PTerm w' B t O' ls (wrS scr x) ∧ (∀ k, O' k → O k ∨ w.heap.size ≤ k) ∧ Turned O w w' := by
  have h1 := h.made
  have h0 := h.room
  have HP := hide h
  have hlt := h.lt t h.ot
  obtain ⟨la, lc, s, hT⟩ := h.term
  have HT := hide hT
  obtain ⟨sa, sc, rfl⟩ := owns_slice hT.scr
  have h2 := hT.screen
  have h3 := hT.soft2
  have hst := hT.st t
  have HX := hide hx
  obtain ⟨a1, c1, rfl, -⟩ := bys_form hx
  clear h hT hx
  by_cases hf : 1048576 < scr.length + x.length
  · rw [Te_wrE, wrS, if_pos hf, if_pos hf]
    have hd : decide ((1048576 : Int) - (scr.length : Int) < (x.length : Int)) = true := by simp; omega
    clear hst
    go_enter Tryz.func320, Tryz.ntmps320
    go_wp2_with fail
    refine (Te_isMade_yes t w h1).mono ?_
    rintro e w1 ⟨rfl, rfl⟩
    go_wp2
    all_goals first
      | (exfalso; omega)
      | (go_ret; exact ⟨rfl, O, HP.out, fun k e => .inl e, Turned.refl _ _⟩)
  · rw [Te_wrE, wrS, if_neg hf, if_neg hf]
    have hd : decide ((1048576 : Int) - (scr.length : Int) < (x.length : Int)) = false := by simp; omega
    obtain ⟨s', w1, hrun, HO, hg, hb⟩ := run_append_bytes w 40 B _ _ scr x HT.out.scr HX.out (by omega) (by omega)
    obtain ⟨sa', sc', rfl⟩ := owns_slice HO.out
    have hgt : w1.heap[t]? = w.heap[t]? := hg.block t hlt.2 (fun e => (hst e.symm).2 rfl)
    have q1 : w1.cell? ⟨t, 2, none⟩ = some (.slice sa scr.length sc) := (World.cell?_of_block (w := w) hgt).trans h2
    have q2 : w1.frozen? ⟨t, 2, none⟩ = false := (World.frozen?_of_block (w := w) hgt).trans h3
    obtain ⟨r1, r2⟩ := HT.out.written HO.out hg hb
    simp only [List.length_append] at r1 r2 hrun hb
    have R1 := hide r1
    have R2 := hide r2
    have HQ : Hid (∀ u, (w1.setCell ⟨t, 2, none⟩ u).cell? ⟨t, 0, none⟩ = some (.bool true)) := hide fun u => by
      rw [World.cell?_setCell_other _ _ _ _ (by simp)]
      exact (World.cell?_of_block (w := w) hgt).trans h1
    have HB := hide hb
    have HR := hide hrun
    clear r1 r2 hgt hst hg hb hrun
    go_enter Tryz.func320, Tryz.ntmps320
    go_wp2_with fail
    refine (Te_isMade_yes t w h1).mono ?_
    rintro e w1 ⟨rfl, rfl⟩
    go_wp2_with (at_builtin; refine Lib.wpList_append_run _ rfl _ _ _ _ rfl _ _ rfl rfl _ _ HR.out ?_)
    all_goals first
      | (exfalso; omega)
      | skip
    go_ret
    refine ⟨rfl, _, ⟨HQ.out _, ⟨_, _, _, R1.out⟩, HP.out.few, HP.out.short, by simp; omega⟩, fun k e => ?_, R2.out⟩
    rcases e with e | e
    · exact .inl e
    · rcases HB.out with e' | e'
      · rw [e'] at e; exact .inl (HT.out.st k e).1
      · rw [e'] at e; cases e; exact .inr (Nat.le_refl _)
theorem wrS_room {scr x : List UInt8} (h : scr.length ≤ 1048576) : (wrS scr x).length ≤ 1048576 := by
  unfold wrS
  split
  · exact h
  · simp; omega
end Go.Proofs.YtdmkjbdlidadiaaGreat

/- The statements' own example holds: alive answers true; terminals that no call made. -/
namespace Go.Proofs.YtdmkjbdlidadiaaGreat
open Go.RowKit

end Go.Proofs.YtdmkjbdlidadiaaGreat

/- What CopyLists and Spoil do with any lines. -/
namespace Go.Proofs.YtdmkjbdlidadiaaGreat
open Go.RowKit

theorem Te_owns_apart {W : World} {B B' e e' s s' n n' : Nat} {v v' : Value} {xs xs' : List Value} (h : W.ownsRow B e s v n xs) (h' : W.ownsRow B' e' s' v' n' xs') (hne : e ≠ e') (k : Nat) (h1 : v.ownBlock = some k) : v'.ownBlock ≠ some k := by
  intro h2
  rcases h.2 with ⟨rfl, _⟩ | ⟨g, cap, cur, rfl, _, h3, _⟩
  · cases h1
  · rcases h'.2 with ⟨rfl, _⟩ | ⟨g', cap', cur', rfl, _, h4, _⟩
    · cases h2
    · simp only [Value.ownBlock, Option.some.injEq] at h1 h2
      subst h1
      subst h2
      rw [h3] at h4
      cases h4
      exact hne rfl
def LCells (W : World) (B : Nat) (ls : List (List UInt8)) (xs : List Value) : Prop :=
  xs.length = ls.length ∧ (∀ j (hj : j < ls.length), ∃ v, xs[j]? = some v ∧ W.ownsRow B 5 1 v ls[j].length (ls[j].map bv)) ∧ ∀ (i j : Nat) (vi vj : Value) (k : Nat), i < j → xs[i]? = some vi → xs[j]? = some vj → vi.ownBlock = some k → vj.ownBlock ≠ some k
theorem LCells.keep {W W' : World} {B : Nat} {ls : List (List UInt8)} {xs : List Value} (h : LCells W B ls xs) (hk : ∀ j, j < ls.length → ∀ v k, xs[j]? = some v → v.ownBlock = some k → W'.heap[k]? = W.heap[k]?) : LCells W' B ls xs :=
  ⟨h.1, fun j hj => by
    obtain ⟨v, h1, h2⟩ := h.2.1 j hj
    exact ⟨v, h1, owns_keep h2 fun k e => hk j hj v k h1 e⟩, h.2.2⟩
theorem LCells.below {W W' : World} {B : Nat} {ls : List (List UInt8)} {xs : List Value} (h : LCells W B ls xs) (hB : Below W.heap.size W W') : LCells W' B ls xs :=
  h.keep fun j hj v k h1 e => by
    obtain ⟨v', h2, h3⟩ := h.2.1 j hj
    rw [h1] at h2
    cases h2
    exact hB.block k (h3.lt k e).2
end Go.Proofs.YtdmkjbdlidadiaaGreat

/- Names, and lists of named bytes: what holds them; Named, has, CopyNamed. -/
namespace Go.Proofs.YtdmkjbdlidadiaaGreat
open Go.RowKit

def I64 (d : Int) : Prop := -9223372036854775808 ≤ d ∧ d ≤ 9223372036854775807
theorem I64.wf {d : Int} (h : I64 d) : (Lit.int .i64 d).wf = true := by
  simp only [Lit.wf, Bool.and_eq_true, decide_eq_true_eq]
  exact ⟨h.1, h.2⟩
theorem I64.of {d : Int} (h : (Lit.int .i64 d).wf = true) : I64 d := by
  simp only [Lit.wf, Bool.and_eq_true, decide_eq_true_eq] at h
  exact h
abbrev Nm := ByteArray × List UInt8
def Nms (W : World) (v : Value) (l : List Nm) : Prop :=
  ∃ a c, v = .slice a l.length c ∧ l.length ≤ c ∧ (0 < l.length → ∃ b off, a = some ⟨b, off, none⟩ ∧ ∀ j (hj : j < l.length), ∃ va vc, W.cell? ⟨b, off + j * 2, none⟩ = some (.string l[j].1) ∧ W.cell? ⟨b, off + j * 2 + 1, none⟩ = some (.slice va l[j].2.length vc) ∧ Bys W (.slice va l[j].2.length vc) l[j].2 ∧ l[j].2.length ≤ vc ∧ l[j].1.size ≤ maxLen)
theorem Nms.form {W : World} {v : Value} {l : List Nm} (h : Nms W v l) : ∃ a c, v = .slice a l.length c := by
  obtain ⟨a, c, rfl, _⟩ := h
  exact ⟨a, c, rfl⟩
theorem Nms.below {W W' : World} {v : Value} {l : List Nm} (h : Nms W v l) (hB : Below W.heap.size W W') : Nms W' v l := by
  obtain ⟨a, c, rfl, hl, hc⟩ := h
  refine ⟨a, c, rfl, hl, fun h0 => ?_⟩
  obtain ⟨b, off, rfl, hd⟩ := hc h0
  refine ⟨b, off, rfl, fun j hj => ?_⟩
  obtain ⟨va, vc, h1, h2, h3, h4⟩ := hd j hj
  have hb := World.block_lt_of_cell? W _ h1
  exact ⟨va, vc, (hB.cell (p := ⟨b, off + j * 2, none⟩) hb).trans h1, (hB.cell (p := ⟨b, off + j * 2 + 1, none⟩) hb).trans h2, h3.below hB, h4⟩
theorem Nms.at {W : World} {a : Option Addr} {n c : Nat} {l : List Nm} (h : Nms W (.slice a n c) l) (j : Nat) (hj : j < l.length) :
    ∃ b off va vc, a = some ⟨b, off, none⟩ ∧ b < W.heap.size ∧ W.cell? ⟨b, off + j * 2, none⟩ = some (.string l[j].1) ∧ W.cell? ⟨b, off + j * 2 + 1, none⟩ = some (.slice va l[j].2.length vc) ∧ Bys W (.slice va l[j].2.length vc) l[j].2 ∧ l[j].2.length ≤ vc ∧ l[j].1.size ≤ maxLen := by
  obtain ⟨a', c', he, _, hc⟩ := h
  cases he
  obtain ⟨b, off, rfl, hd⟩ := hc (by omega)
  obtain ⟨va, vc, h1, h2, h3, h4⟩ := hd j hj
  exact ⟨b, off, va, vc, rfl, World.block_lt_of_cell? W _ h1, h1, h2, h3, h4⟩

abbrev Tp := ByteArray × List (List UInt8)
def Tps (W : World) (v : Value) (l : List Tp) : Prop :=
  ∃ a c, v = .slice a l.length c ∧ l.length ≤ c ∧ (0 < l.length → ∃ b off, a = some ⟨b, off, none⟩ ∧ ∀ j (hj : j < l.length), ∃ va vc, W.cell? ⟨b, off + j * 2, none⟩ = some (.string l[j].1) ∧ W.cell? ⟨b, off + j * 2 + 1, none⟩ = some (.slice va l[j].2.length vc) ∧ Lns W (.slice va l[j].2.length vc) l[j].2 ∧ l[j].1.size ≤ maxLen)
theorem Tps.form {W : World} {v : Value} {l : List Tp} (h : Tps W v l) : ∃ a c, v = .slice a l.length c := by
  obtain ⟨a, c, rfl, _⟩ := h
  exact ⟨a, c, rfl⟩
theorem Tps.below {W W' : World} {v : Value} {l : List Tp} (h : Tps W v l) (hB : Below W.heap.size W W') : Tps W' v l := by
  obtain ⟨a, c, rfl, hl, hc⟩ := h
  refine ⟨a, c, rfl, hl, fun h0 => ?_⟩
  obtain ⟨b, off, rfl, hd⟩ := hc h0
  refine ⟨b, off, rfl, fun j hj => ?_⟩
  obtain ⟨va, vc, h1, h2, h3⟩ := hd j hj
  have hb := World.block_lt_of_cell? W _ h1
  exact ⟨va, vc, (hB.cell (p := ⟨b, off + j * 2, none⟩) hb).trans h1, (hB.cell (p := ⟨b, off + j * 2 + 1, none⟩) hb).trans h2, h3.1.below hB, h3.2⟩
theorem Tps.at {W : World} {a : Option Addr} {n c : Nat} {l : List Tp} (h : Tps W (.slice a n c) l) (j : Nat) (hj : j < l.length) :
    ∃ b off va vc, a = some ⟨b, off, none⟩ ∧ b < W.heap.size ∧ W.cell? ⟨b, off + j * 2, none⟩ = some (.string l[j].1) ∧ W.cell? ⟨b, off + j * 2 + 1, none⟩ = some (.slice va l[j].2.length vc) ∧ Lns W (.slice va l[j].2.length vc) l[j].2 ∧ l[j].1.size ≤ maxLen := by
  obtain ⟨a', c', he, _, hc⟩ := h
  cases he
  obtain ⟨b, off, rfl, hd⟩ := hc (by omega)
  obtain ⟨va, vc, h1, h2, h3⟩ := hd j hj
  exact ⟨b, off, va, vc, rfl, World.block_lt_of_cell? W _ h1, h1, h2, h3⟩
def TC (W : World) (B : Nat) (ls : List (List UInt8)) (u : Value) : Prop := ∃ xs, W.ownsRow B 40 1 u ls.length xs ∧ LCells W B ls xs
theorem TC.below {W W' : World} {B : Nat} {ls : List (List UInt8)} {u : Value} (h : TC W B ls u) (hB : Below W.heap.size W W') : TC W' B ls u := by
  obtain ⟨xs, h1, h2⟩ := h
  exact ⟨xs, owns_below h1 hB, h2.below hB⟩
theorem TC.mono {W : World} {B B' : Nat} {ls : List (List UInt8)} {u : Value} (h : TC W B ls u) (hB : B' ≤ B) : TC W B' ls u := by
  obtain ⟨xs, h1, h2, h3, h4⟩ := h
  exact ⟨xs, owns_mono h1 hB, h2, fun j hj => by obtain ⟨v, h5, h6⟩ := h3 j hj; exact ⟨v, h5, owns_mono h6 hB⟩, h4⟩
theorem TC.grown {W W' : World} {B b' n : Nat} {s : Value} {ys : List Value} {ls : List (List UInt8)} {u : Value} (h : TC W B ls u) (hs : W.ownsRow b' 108 2 s n ys) (hg : W.grownBy W' s.ownBlock) : TC W' B ls u := by
  obtain ⟨xs, h1, h2⟩ := h
  refine ⟨xs, owns_keep h1 fun i e => hg.block i (h1.lt i e).2 (fun e' => Te_owns_apart h1 hs (by decide) i e e'.symm), h2.keep fun j hj v i h3 e => ?_⟩
  obtain ⟨v', h4, h5⟩ := h2.2.1 j hj
  rw [h3] at h4
  cases h4
  exact hg.block i (h5.lt i e).2 (fun e' => Te_owns_apart h5 hs (by decide) i e e'.symm)
end Go.Proofs.YtdmkjbdlidadiaaGreat

/- Faults: what a fault that may be is, and what mayBe, may answer. -/
namespace Go.Proofs.YtdmkjbdlidadiaaGreat
open Go.RowKit

def fv (x : Int × Int) : Value := .agg #[.int .i64 x.1, .int .i64 x.2]
def may (x : Int × Int) : Bool := if x.1 = 1 then decide (1 ≤ x.2 ∧ x.2 ≤ 1048576) else decide (0 ≤ x.1 ∧ x.1 ≤ 3 ∧ x.2 = 0)

end Go.Proofs.YtdmkjbdlidadiaaGreat

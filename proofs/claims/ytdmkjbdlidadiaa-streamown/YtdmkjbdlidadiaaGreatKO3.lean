/- What the proof stands on, part 3: the contracts of the program's calls that it reaches. -/
import Derived.Test.YtdmkjbdlidadiaaGreatKO2
import Derived.Lib.SlBytesConst
import Derived.Laws.AppendOwnNone
import Derived.Laws.OwnMore
import Derived.Lib.BufferMore
import Derived.Deep.QuietTactic
import Derived.BigQuiet
import Derived.Laws.StructEq
import Derived.Deep.RegionLaw
import Derived.Deep.RegionWith
/- The reference of file: within, Piece, Lay. -/
namespace Go.Proofs.YtdmkjbdlidadiaaGreat
open Go.RowKit

theorem owns_len {W : World} {base e n : Nat} {v : Value} {xs : List Value} (h : W.ownsRow base e 1 v n xs) : W.ownsRow base e 1 v xs.length xs := by
  have := h.1
  rw [show xs.length = n by omega]
  exact h

set_option maxRecDepth 100000 in
set_option maxHeartbeats 1000000 in
theorem piece_any (base : Nat) (u : Value) (l : List UInt8) (off n : Nat) (w : World) (h : w.ownsRow base 5 1 u l.length (l.map bv)) (hl : l.length ≤ 1048576) (ho : off ≤ 1048576) (hn : n ≤ 1048576) :
    Calls Tryz.prog 166 #[u, .int .i64 off, .int .i64 n] w fun e w' => ∃ v', e = .returned v' ∧ w'.ownsRow w.heap.size 5 1 v' (piece l off n).length ((piece l off n).map bv) ∧ Below w.heap.size w w' := by
  obtain ⟨i0, hi, hz0, hz1, hz2⟩ := info_parts Tryz.infoB
  by_cases hlt : off < l.length
  · obtain ⟨g, cap, rfl, hbg, hgl⟩ := h.form (by omega)
    have HR := hide (RowAt.of_owns h)
    have hcap := HR.out.len
    clear h
    have hd : decide ((l.length : Int) ≤ (off : Int)) = false := by simp; omega
    have HX : Hid (∀ j v, ((piece l off n).map bv)[j]? = some v → w.cell? ((⟨g, off, none⟩ : Addr).add j) = some v) := hide fun j v hj => by
      have hb := piece_bys HR.out off n off _ 0 rfl (.inr rfl)
      rcases hb with ⟨h0, _⟩ | ⟨a, c, h0, h1⟩ | ⟨b, o, c, h0, h1, h2⟩
      · cases h0
      · rw [h1] at hj; simp at hj
      · simp only [Value.slice.injEq, Option.some.injEq, Addr.mk.injEq] at h0
        obtain ⟨⟨rfl, rfl, -⟩, -, -⟩ := h0
        exact bys_news h2 j v hj
    have hpl := piece_len l off n
    have H1 := hide (bys_one (piece l off n))
    obtain ⟨X, hX⟩ : ∃ X, X = (piece l off n).map bv := ⟨_, rfl⟩
    have hXl : X.length = (piece l off n).length := by rw [hX]; simp
    rw [← hX] at HX H1
    have HE := hide hX
    have HPL := hide hpl
    have HXL := hide hXl
    clear hX hpl hXl
    have k1 : ¬ cap = off := by omega
    have k2 : (off : Int) < (cap : Int) := by omega
    by_cases hnn : n < l.length - off
    · go_enter Tryz.func166, Tryz.ntmps166
      go_wp2_with (at_builtin; refine wpList_append_own _ rfl _ _ 40 rfl w.heap.size 5 i0 (.int .u8 0) 1 1 Tryz.underlying40 hi hz0 hz1 hz2 rfl (by decide) _ _ _ rfl (World.ownsRow_nil _ _ _ _) ⟨g, off, none⟩ _ _ X rfl (by have := HPL.out; have := HXL.out; omega) HX.out H1.out (by unfold maxLen; omega) (by omega) (Nat.le_refl _) ?_; intro v' w1 hown hgrow hnil)
      all_goals
        go_ret
        refine ⟨v', rfl, ?_, (Below.refl _ _).grown hgrow (Nat.le_refl _) (fun j e => by cases e)⟩
        have h2 := owns_len hown
        rw [List.nil_append] at h2
        rw [← HE.out, ← HXL.out]
        exact h2
    · go_enter Tryz.func166, Tryz.ntmps166
      go_wp2_with (at_builtin; refine wpList_append_own _ rfl _ _ 40 rfl w.heap.size 5 i0 (.int .u8 0) 1 1 Tryz.underlying40 hi hz0 hz1 hz2 rfl (by decide) _ _ _ rfl (World.ownsRow_nil _ _ _ _) ⟨g, off, none⟩ _ _ X rfl (by have := HPL.out; have := HXL.out; omega) HX.out H1.out (by unfold maxLen; omega) (by omega) (Nat.le_refl _) ?_; intro v' w1 hown hgrow hnil)
      all_goals
        go_ret
        refine ⟨v', rfl, ?_, (Below.refl _ _).grown hgrow (Nat.le_refl _) (fun j e => by cases e)⟩
        have h2 := owns_len hown
        rw [List.nil_append] at h2
        rw [← HE.out, ← HXL.out]
        exact h2
  · have hp : piece l off n = [] := List.length_eq_zero_iff.1 (by rw [piece_len]; omega)
    rw [hp]
    obtain ⟨a, c, rfl⟩ := owns_slice h
    clear h
    have hd : decide ((l.length : Int) ≤ (off : Int)) = true := by simp; omega
    go_enter Tryz.func166, Tryz.ntmps166
    go_wp2
    all_goals first
      | (exfalso; omega)
      | (go_ret; exact ⟨_, rfl, World.ownsRow_nil _ _ _ _, Below.refl _ _⟩)

def rlay (l : List UInt8) (off : Nat) (x : List UInt8) : List UInt8 := (grow l off).take off ++ (x ++ (grow l off).drop (off + x.length))
theorem rlay_len (l : List UInt8) (off : Nat) (x : List UInt8) : (rlay l off x).length = max (max l.length off) (off + x.length) := by
  have := grow_len l off
  simp only [rlay, List.length_append, List.length_take, List.length_drop]
  omega
theorem rlay_nil (l : List UInt8) (off : Nat) : rlay l off [] = grow l off := by simp [rlay]
theorem grow_drop (l : List UInt8) (n m : Nat) (h : n ≤ m) : (grow l n).drop m = l.drop m := by
  by_cases hn : n ≤ l.length
  · rw [grow_no hn]
  · rw [List.drop_of_length_le (by rw [grow_len]; omega), List.drop_of_length_le (by omega)]
theorem grow_take (l : List UInt8) (n m : Nat) (h : m ≤ n) : (grow l n).take m = (grow l m).take m := by
  apply List.ext_getElem?
  intro j
  rw [List.getElem?_take, List.getElem?_take]
  split
  · rename_i hj
    simp only [grow]
    by_cases hl : j < l.length
    · rw [List.getElem?_append_left hl, List.getElem?_append_left hl]
    · rw [List.getElem?_append_right (by omega), List.getElem?_append_right (by omega), List.getElem?_replicate, List.getElem?_replicate, if_pos (by omega), if_pos (by omega)]
  · rfl
theorem lay_rlay (l : List UInt8) (off : Nat) (x : List UInt8) (h : x ≠ []) : lay l off x = rlay l off x := by
  rw [lay, if_neg h, rlay, grow_take l _ off (by omega), grow_drop _ _ _ (Nat.le_refl _), grow_drop _ _ _ (by omega)]
theorem grow_succ (l : List UInt8) (n : Nat) (h : l.length ≤ n) : grow l n ++ [0] = grow l (n + 1) := by
  simp only [grow]
  rw [show n + 1 - l.length = (n - l.length) + 1 by omega, List.replicate_succ', List.append_assoc]
theorem rlay_step (l : List UInt8) (off : Nat) (x : List UInt8) (k : Nat) (hk : k < x.length) (h1 : off + k < (rlay l off (x.take k)).length) : (rlay l off (x.take k)).set (off + k) x[k] = rlay l off (x.take (k + 1)) := by
  have hg := grow_len l off
  have hl := rlay_len l off (x.take k)
  have hl2 := rlay_len l off (x.take (k + 1))
  simp only [List.length_take] at hl hl2
  have hpre : ((grow l off).take off).length = off := by rw [List.length_take]; omega
  have hk' : (x.take k).length = k := by simp; omega
  have hk2 : (x.take (k + 1)).length = k + 1 := by simp; omega
  have hlt : off + k < (grow l off).length := by omega
  rw [rlay, rlay, hk', hk2, List.drop_eq_getElem_cons hlt, List.set_append_right _ _ (by omega), hpre, List.set_append_right _ _ (by omega), hk', Nat.add_sub_cancel_left, Nat.sub_self, List.set_cons_zero, List.take_succ_eq_append_getElem hk, List.append_assoc, Nat.add_assoc]
  rfl
theorem rlay_more (l : List UInt8) (off : Nat) (x : List UInt8) (k : Nat) (hk : k < x.length) (h1 : (rlay l off (x.take k)).length = off + k) : rlay l off (x.take k) ++ [x[k]] = rlay l off (x.take (k + 1)) := by
  have hl := rlay_len l off (x.take k)
  simp only [List.length_take] at hl
  have hg := grow_len l off
  rw [rlay, rlay, List.drop_of_length_le (by simp; omega), List.drop_of_length_le (by simp; omega), List.append_nil, List.append_nil, List.append_assoc, ← List.take_succ_eq_append_getElem hk]

theorem lay_turn {S : Nat → Prop} {w wr w1 : World} {o : Obj} {vb : Option Nat} (hT : Turned S w wr) (hg : (wr.alloc o).grownBy w1 vb) (hv : ∀ k, vb = some k → S k ∨ w.heap.size ≤ k) : Turned S w w1 := by
  refine hT.trans (S' := fun k => vb = some k) ⟨hg.os, hg.tape, hg.output, Nat.le_trans (by simp) hg.size, fun k hk hn => ?_⟩ (fun k hk e => (hv k e).resolve_right (by omega))
  exact (hg.block k (by simp; omega) (fun e => hn e.symm)).trans (Below.heap_alloc _ _ _ hk)
theorem map_set_bv (l : List UInt8) (j : Nat) (c : UInt8) : (l.map bv).set j (bv c) = (l.set j c).map bv := by rw [List.map_set]
theorem set_turn {S : Nat → Prop} {w wr : World} {g j : Nat} {u : Value} (hT : Turned S w wr) (hg : S g ∨ w.heap.size ≤ g) : Turned S w (wr.setCell ⟨g, j, none⟩ u) := by
  refine hT.trans (S' := fun k => k = g) ⟨rfl, rfl, rfl, by simp [World.setCell], fun k hk hn => Below.heap_setCell _ _ _ _ hn⟩ (fun k hk e => by subst e; exact hg.resolve_right (by omega))

set_option maxRecDepth 100000 in
set_option maxHeartbeats 2000000 in
theorem lay_any (base : Nat) (u vx : Value) (l x : List UInt8) (off : Nat) (w : World) (h : w.ownsRow base 5 1 u l.length (l.map bv)) (hx : Bys w vx x) (hux : 0 < x.length → ∀ k, vx.ownBlock = some k → u.ownBlock ≠ some k) (hl : l.length ≤ 1048576) (ho : off + x.length ≤ 1048576) (hb : base ≤ w.heap.size) :
    Calls Tryz.prog 221 #[u, .int .i64 off, vx] w fun e w' => ∃ u', e = .returned u' ∧ w'.ownsRow base 5 1 u' (rlay l off x).length ((rlay l off x).map bv) ∧ (∀ k, u'.ownBlock = some k → u.ownBlock = some k ∨ w.heap.size ≤ k) ∧ Turned (fun k => u.ownBlock = some k) w w' := by
  obtain ⟨i0, hi, hz0, hz1, hz2⟩ := info_parts Tryz.infoB
  have HX := hide hx
  have HU := hide hux
  have HO := hide h
  obtain ⟨a1, c1, rfl, -⟩ := bys_form hx
  obtain ⟨ua, uc, rfl⟩ := owns_slice h
  clear h hx hux
  go_enter Tryz.func221, Tryz.ntmps221
  go_wp2
  go_loopw [0] (fun v wr => ∃ m : List UInt8, Hid (m = l ∨ ∃ n, m = grow l n ∧ l.length ≤ n ∧ n ≤ off) ∧ m.length ≤ 1048576 ∧ wr.ownsRow base 5 1 v m.length (m.map bv) ∧ Hid (∀ k, v.ownBlock = some k → (Value.slice ua l.length uc).ownBlock = some k ∨ w.heap.size ≤ k) ∧ Turned (fun k => (Value.slice ua l.length uc).ownBlock = some k) w wr) (fun v _ => match v with | .slice _ n _ => off - n | _ => 0)
  case atStart => exact ⟨l, .inl rfl, hl, HO.out, fun k hk => .inl hk, Turned.refl _ _⟩
  case round =>
    clear HO
    obtain ⟨m, HM, hml, hown, HV, hT⟩ := hrel
    obtain ⟨va, vc, rfl⟩ := owns_slice hown
    have HO := hide hown
    have HT := hide hT
    have hsz := hT.size
    clear hown hT
    by_cases hlt : m.length < off
    · go_wp2_with (at_builtin; refine wpList_append_lies _ rfl _ _ 40 rfl base 5 i0 (.int .u8 0) 1 1 Tryz.underlying40 hi hz0 hz1 hz2 rfl (by decide) _ _ _ rfl (HO.out.alloc _) ⟨wr.heap.size, 0, none⟩ 1 1 [.int .u8 0] rfl rfl (cell_one_new _ _ _) (by simp [Value.oneCell']) (by decide) (by unfold maxLen; omega) (by omega) (by simp; omega) (wr.heap.size + 1) (by simp) ?_; intro g1 cap1 w1 hown1 hgrow1 hg1 hg2)
      go_roundw
      case rel =>
        have hv := HV.out
        refine ⟨m ++ [0], hide ?_, by simp; omega, by simpa [bv] using hown1, hide ?_, lay_turn HT.out hgrow1 (fun k e => hv k e)⟩
        · rcases HM.out with rfl | ⟨n, rfl, h1, h2⟩
          · exact .inr ⟨m.length + 1, by rw [← grow_succ _ _ (Nat.le_refl _), grow_no (Nat.le_refl _)], by omega, by omega⟩
          · rw [grow_len] at hlt
            exact .inr ⟨n + 1, grow_succ _ _ h1, by omega, by omega⟩
        · intro k hk
          obtain rfl : g1 = k := by simpa [Value.ownBlock] using hk
          rcases hg1 with h | h
          · exact hv _ h
          · right; omega
      case measure => simp; omega
    · have hme : m = grow l off := by
        rcases HM.out with rfl | ⟨n, rfl, h1, h2⟩
        · rw [grow_no (by omega)]
        · rw [grow_len] at hlt
          rw [show n = off by omega]
      have HE := hide hme
      clear hme HM
      go_wp2
      go_loopw [0, 7] (fun v i wr => ∃ k : Nat, k ≤ x.length ∧ i = .int .i64 k ∧ wr.ownsRow base 5 1 v (rlay l off (x.take k)).length ((rlay l off (x.take k)).map bv) ∧ Hid (∀ k, v.ownBlock = some k → (Value.slice ua l.length uc).ownBlock = some k ∨ w.heap.size ≤ k) ∧ Turned (fun k => (Value.slice ua l.length uc).ownBlock = some k) w wr) (fun _ i _ => x.length - (intOf i).toNat)
      case atStart => exact ⟨0, Nat.zero_le _, rfl, by rw [List.take_zero, rlay_nil, ← HE.out]; exact HO.out, HV, HT.out⟩
      case round =>
        clear HO HT HV HE hsz
        obtain ⟨k, hk, rfl, hown, HV, hT⟩ := hrel
        have hsz := hT.size
        have hrl := rlay_len l off (x.take k)
        have hk' : (x.take k).length = k := by simp; omega
        rw [hk'] at hrl
        have HE : Hid (k = x.length → rlay l off (x.take k) = rlay l off x) := hide fun e => by rw [e, List.take_length]
        have HS : Hid (∀ hlt : k < x.length, off + k < (rlay l off (x.take k)).length → (rlay l off (x.take k)).set (off + k) x[k] = rlay l off (x.take (k + 1))) := hide fun hlt => rlay_step l off x k hlt
        have HM : Hid (∀ hlt : k < x.length, (rlay l off (x.take k)).length = off + k → rlay l off (x.take k) ++ [x[k]] = rlay l off (x.take (k + 1))) := hide fun hlt => rlay_more l off x k hlt
        generalize rlay l off (x.take k) = L at *
        have hLb : L.length ≤ 1048576 := by omega
        have hLo : off + k ≤ L.length := by omega
        clear hrl hk'
        obtain ⟨va, vc, rfl⟩ := owns_slice hown
        have HT := hide hT
        by_cases hlt : k < x.length
        · have g1 : ∃ b o, a1 = some ⟨b, o, none⟩ ∧ wr.cell? ⟨b, o + k, none⟩ = some (.int .u8 (x[k].toNat : Int)) := by
            obtain ⟨a', c', he, hc⟩ := bys_form HX.out
            cases he
            obtain ⟨b, o, rfl, hd⟩ := hc (by omega)
            refine ⟨b, o, rfl, ?_⟩
            have h1 := hd k hlt
            have h2 := World.block_lt_of_cell? w _ h1
            have h3 := (World.cell?_of_block (w := w) (a := ⟨b, o + k, none⟩) (hT.block b h2 (HU.out (by omega) b rfl))).trans h1
            rw [h3, List.getD_eq_getElem?_getD, List.getElem?_eq_getElem hlt]
            rfl
          obtain ⟨bx, ox, rfl, g1⟩ := g1
          have hk1 : (0 : Int) ≤ (k : Int) := by omega
          have hk2 : (k : Int) < (x.length : Int) := by omega
          have HS' := hide (HS.out hlt)
          have HM' := hide (HM.out hlt)
          clear hT HS HM HE
          generalize x[k] = c at *
          by_cases hin : off + k < L.length
          · obtain ⟨g, cap, he, hbg, hgl⟩ := hown.form (by omega)
            cases he
            have HO := hide hown
            have hc := hown.cellAt (off + k) (by omega)
            have hf := hown.frozenAt (off + k)
            rw [List.getElem?_eq_getElem (by simpa using hin)] at hc
            generalize (L.map bv)[off + k]'(by simpa using hin) = old at hc
            have hin1 : (off : Int) + (k : Int) < (L.length : Int) := by omega
            have hin0 : (0 : Int) ≤ (off : Int) + (k : Int) := by omega
            clear hown
            go_wp2
            go_roundw
            case rel =>
              obtain ⟨hst, hgr⟩ := HO.out.stored (off + k) (bv c)
              refine ⟨k + 1, by omega, by go_num, ?_, HV, set_turn HT.out (HV.out g rfl)⟩
              have e1 := HS'.out hin
              rw [map_set_bv] at hst
              rw [← e1, List.length_set]
              exact hst
            case measure => simp [intOf]; omega
          · have HO := hide hown
            clear hown
            go_wp2_with (at_builtin; refine wpList_append_lies _ rfl _ _ 40 rfl base 5 i0 (.int .u8 0) 1 1 Tryz.underlying40 hi hz0 hz1 hz2 rfl (by decide) _ _ _ rfl (HO.out.alloc _) ⟨wr.heap.size, 0, none⟩ 1 1 [.int .u8 (c.toNat : Int)] rfl rfl (cell_one_new _ _ _) (by simp [Value.oneCell']) (by decide) (by unfold maxLen; omega) (by omega) (by simp; omega) (wr.heap.size + 1) (by simp) ?_; intro g1 cap1 w1 hown1 hgrow1 hg1 hg2)
            go_roundw
            case rel =>
              have hv := HV.out
              refine ⟨k + 1, by omega, by go_num, ?_, hide ?_, lay_turn HT.out hgrow1 (fun k e => hv k e)⟩
              · rw [← HM'.out (by omega)]
                simpa [bv] using hown1
              · intro k hk
                obtain rfl : g1 = k := by simpa [Value.ownBlock] using hk
                rcases hg1 with h | h
                · exact hv _ h
                · right; omega
            case measure => simp [intOf]; omega
        · have HO := hide hown
          clear hown hT
          go_wp2
          go_ret
          have e1 := HE.out (by omega)
          rw [e1] at HO HV
          rw [e1]
          exact ⟨_, rfl, HO.out, HV.out, HT.out⟩
end Go.Proofs.YtdmkjbdlidadiaaGreat

/- The reference's file: New, ReadAt, WriteAt, Truncate. -/
namespace Go.Proofs.YtdmkjbdlidadiaaGreat
open Go.RowKit

structure RFileAt (W : World) (base r : Nat) (u : Value) (l : List UInt8) : Prop where
  data : W.cell? ⟨r, 0, none⟩ = some u
  soft : W.frozen? ⟨r, 0, none⟩ = false
  row : W.ownsRow base 5 1 u l.length (l.map bv)
  apart : u.ownBlock ≠ some r
theorem RFileAt.lt {W : World} {base r : Nat} {u : Value} {l : List UInt8} (h : RFileAt W base r u l) : r < W.heap.size := World.block_lt_of_cell? W _ h.data
theorem RFileAt.keep {W W' : World} {base r : Nat} {u : Value} {l : List UInt8} (h : RFileAt W base r u l) (hB : ∀ k, k < W.heap.size → k = r ∨ u.ownBlock = some k → W'.heap[k]? = W.heap[k]?) : RFileAt W' base r u l :=
  ⟨(World.cell?_of_block (w := W) (hB r h.lt (.inl rfl))).trans h.data, (World.frozen?_of_block (w := W) (hB r h.lt (.inl rfl))).trans h.soft, owns_keep h.row fun k hk => hB k (h.row.lt k hk).2 (.inr hk), h.apart⟩
theorem RFileAt.below {W W' : World} {base r : Nat} {u : Value} {l : List UInt8} (h : RFileAt W base r u l) (hB : Below W.heap.size W W') : RFileAt W' base r u l :=
  h.keep fun k hk _ => hB.block k hk

end Go.Proofs.YtdmkjbdlidadiaaGreat

/- The reference's Truncate. -/
namespace Go.Proofs.YtdmkjbdlidadiaaGreat
open Go.RowKit

end Go.Proofs.YtdmkjbdlidadiaaGreat

/- A terminal in memory: its lines, its screen, the blocks that are its own. -/
namespace Go.Proofs.YtdmkjbdlidadiaaGreat
open Go.RowKit

structure Term (W : World) (B t c : Nat) (O : Nat → Prop) (la : Option Addr) (lc : Nat) (s : Value) (ls : List (List UInt8)) (scr : List UInt8) : Prop where
  lines : W.cell? ⟨t, c, none⟩ = some (.slice la ls.length lc)
  screen : W.cell? ⟨t, c + 1, none⟩ = some s
  soft1 : W.frozen? ⟨t, c, none⟩ = false
  soft2 : W.frozen? ⟨t, c + 1, none⟩ = false
  cap : ls.length ≤ lc
  lo : ∀ k, (Value.slice la ls.length lc).ownBlock = some k → O k ∧ k ≠ t ∧ s.ownBlock ≠ some k
  row : 0 < ls.length → ∃ r off, la = some ⟨r, off, none⟩ ∧ ∀ j (hj : j < ls.length), W.frozen? ⟨r, off + j, none⟩ = false ∧ ∃ va vc, W.cell? ⟨r, off + j, none⟩ = some (.slice va ls[j].length vc) ∧ ls[j].length ≤ vc ∧ Bys W (.slice va ls[j].length vc) ls[j] ∧ ∀ k, (Value.slice va ls[j].length vc).ownBlock = some k → O k ∧ k ≠ t ∧ k ≠ r ∧ s.ownBlock ≠ some k
  scr : W.ownsRow B 5 1 s scr.length (scr.map bv)
  st : ∀ k, s.ownBlock = some k → O k ∧ k ≠ t
  ot : O t
  lt : ∀ k, O k → B ≤ k ∧ k < W.heap.size

theorem Term.keep {W W' : World} {B t c : Nat} {O : Nat → Prop} {la : Option Addr} {lc : Nat} {s : Value} {ls : List (List UInt8)} {scr : List UInt8} (h : Term W B t c O la lc s ls scr) (hk : ∀ k, O k → W'.heap[k]? = W.heap[k]?) (hs : W.heap.size ≤ W'.heap.size) : Term W' B t c O la lc s ls scr := by
  have ht := hk t h.ot
  refine ⟨(World.cell?_of_block (w := W) ht).trans h.lines, (World.cell?_of_block (w := W) ht).trans h.screen, (World.frozen?_of_block (w := W) ht).trans h.soft1, (World.frozen?_of_block (w := W) ht).trans h.soft2, h.cap, h.lo, fun h0 => ?_, owns_keep h.scr fun k e => hk k (h.st k e).1, h.st, h.ot, fun k e => ⟨(h.lt k e).1, Nat.lt_of_lt_of_le (h.lt k e).2 hs⟩⟩
  obtain ⟨r, off, rfl, hr⟩ := h.row h0
  have hro := hk r (h.lo r rfl).1
  refine ⟨r, off, rfl, fun j hj => ?_⟩
  obtain ⟨h1, va, vc, h2, h3, h4, h5⟩ := hr j hj
  exact ⟨(World.frozen?_of_block (w := W) hro).trans h1, va, vc, (World.cell?_of_block (w := W) hro).trans h2, h3, h4.keep fun k e _ => hk k (h5 k e).1, h5⟩
theorem Term.below {W W' : World} {B t c : Nat} {O : Nat → Prop} {la : Option Addr} {lc : Nat} {s : Value} {ls : List (List UInt8)} {scr : List UInt8} (h : Term W B t c O la lc s ls scr) (hB : Below W.heap.size W W') : Term W' B t c O la lc s ls scr :=
  h.keep (fun k e => hB.block k (h.lt k e).2) hB.size
theorem Term.turned {S : Nat → Prop} {W W' : World} {B t c : Nat} {O : Nat → Prop} {la : Option Addr} {lc : Nat} {s : Value} {ls : List (List UInt8)} {scr : List UInt8} (h : Term W B t c O la lc s ls scr) (hT : Turned S W W') (hS : ∀ k, O k → ¬ S k) : Term W' B t c O la lc s ls scr :=
  h.keep (fun k e => hT.block k (h.lt k e).2 (hS k e)) hT.size
theorem Term.cut {w : World} {B t c : Nat} {O : Nat → Prop} {r off lc b o vc n : Nat} {s : Value} {l : List UInt8} {ls : List (List UInt8)} {scr : List UInt8} (h : Term w B t c O (some ⟨r, off, none⟩) lc s (l :: ls) scr)
    (hc : w.cell? ⟨r, off, none⟩ = some (.slice (some ⟨b, o, none⟩) l.length vc)) (hn : n < l.length) :
    Term (w.setCell ⟨r, off, none⟩ (.slice (some ⟨b, o + n, none⟩) (l.length - n) (vc - n))) B t c O (some ⟨r, off, none⟩) lc s (l.drop n :: ls) scr ∧ Turned O w (w.setCell ⟨r, off, none⟩ (.slice (some ⟨b, o + n, none⟩) (l.length - n) (vc - n))) := by
  obtain ⟨ro, rt, rs⟩ := h.lo r rfl
  have hO : ∀ k, k ≠ r → (w.setCell ⟨r, off, none⟩ (.slice (some ⟨b, o + n, none⟩) (l.length - n) (vc - n))).heap[k]? = w.heap[k]? := fun k hk => Below.heap_setCell _ _ _ _ hk
  have htt := hO t (Ne.symm rt)
  refine ⟨⟨(World.cell?_of_block (w := w) htt).trans h.lines, (World.cell?_of_block (w := w) htt).trans h.screen, (World.frozen?_of_block (w := w) htt).trans h.soft1, (World.frozen?_of_block (w := w) htt).trans h.soft2, h.cap, h.lo, fun _ => ⟨r, off, rfl, fun j hj => ?_⟩, owns_keep h.scr fun k e => hO k (fun e' => by rw [e'] at e; exact rs e), h.st, h.ot, fun k e => by simpa [World.setCell] using h.lt k e⟩, (Turned.refl O w).set (.inl ro)⟩
  obtain ⟨r', off', he, hr⟩ := h.row (by simp)
  cases he
  cases j with
  | zero =>
    obtain ⟨h1, va, vc', h2, h3, h4, h5⟩ := hr 0 (by simp)
    simp only [Nat.add_zero, List.getElem_cons_zero] at h1 h2 h3 h4 h5 ⊢
    rw [hc] at h2
    simp only [Option.some.injEq, Value.slice.injEq, true_and] at h2
    obtain ⟨rfl, rfl⟩ := h2
    have hl : (l.drop n).length = l.length - n := by simp
    refine ⟨by rw [World.frozen?_setCell]; exact h1, _, _, by rw [hl]; exact World.cell?_setCell_same _ _ _ hc, by omega, ?_, fun k e => h5 k e⟩
    have hb := bys_cut h4 n (l.length - n) (vc - n) (by omega)
    rw [List.take_of_length_le (by simp)] at hb
    rw [hl]
    exact hb.keep fun k e _ => hO k (h5 k e).2.2.1
  | succ j =>
    have hj' : j + 1 < (l :: ls).length := by simpa using hj
    obtain ⟨h1, va, vc', h2, h3, h4, h5⟩ := hr (j + 1) hj'
    simp only [List.getElem_cons_succ] at h1 h2 h3 h4 h5 ⊢
    refine ⟨by rw [World.frozen?_setCell]; exact h1, va, vc', ?_, h3, h4.keep fun k e _ => hO k (h5 k e).2.2.1, h5⟩
    rw [World.cell?_setCell_other _ _ _ _ (by simp)]
    exact h2

end Go.Proofs.YtdmkjbdlidadiaaGreat

/- The small functions of terminal: isMade, copied, copiedLines, New, Left, Screen, Copy. -/
namespace Go.Proofs.YtdmkjbdlidadiaaGreat
open Go.RowKit

theorem Te_made_row {w w1 : World} {T n : Nat} {xs : List Value} (h : w1.ownsRow w.heap.size T 1 (.slice (some ⟨w.heap.size, 0, none⟩) n n) n xs) (hg : w.grownBy w1 none) :
    ∃ cur : List Value, cur.length = n ∧ Hid (w1.heap[w.heap.size]? = some (.cells cur.toArray T (0, 0))) ∧ Below w.heap.size w w1 := by
  refine (?_ : ∃ cur : List Value, cur.length = n ∧ w1.heap[w.heap.size]? = some (.cells cur.toArray T (0, 0)) ∧ Below w.heap.size w w1)
  rcases h.2 with ⟨h0, _⟩ | ⟨g, c, cur, h1, h2, h3, h4, h5, h6, h7⟩
  · cases h0
  · cases h1
    exact ⟨cur.toList, by rw [Array.length_toList]; omega, by rw [Array.toArray_toList]; exact h3, (Below.refl _ w).grown hg (Nat.le_refl _) (fun k e => by cases e)⟩
theorem Te_bys_src {w : World} {a1 : Option Addr} {n c1 : Nat} {l : List UInt8} {X : List Value} (h : Bys w (.slice a1 n c1) l) (hX : X = l.map bv) :
    0 < X.length → ∃ ad, a1 = some ad ∧ ∀ j v, X[j]? = some v → w.cell? (ad.add j) = some v := by
  intro h0
  obtain ⟨a, c, he, hc⟩ := bys_form h
  cases he
  obtain ⟨b, off, rfl, hd⟩ := hc (by rw [hX] at h0; simpa using h0)
  exact ⟨_, rfl, fun j v hj => bys_news hd j v (by rw [← hX]; exact hj)⟩

def LRow (W : World) (B r off : Nat) (ls : List (List UInt8)) : Prop :=
  ∀ j (hj : j < ls.length), W.frozen? ⟨r, off + j, none⟩ = false ∧ ∃ va vc, W.cell? ⟨r, off + j, none⟩ = some (.slice va ls[j].length vc) ∧ ls[j].length ≤ vc ∧ Bys W (.slice va ls[j].length vc) ls[j] ∧ ∀ k, (Value.slice va ls[j].length vc).ownBlock = some k → B ≤ k ∧ k ≠ r ∧ k < W.heap.size
theorem LRow.below {W W' : World} {B r off : Nat} {ls : List (List UInt8)} (h : LRow W B r off ls) (hB : Below W.heap.size W W') : LRow W' B r off ls := fun j hj => by
  obtain ⟨h1, va, vc, h2, h3, h4, h5⟩ := h j hj
  have hr := World.block_lt_of_cell? W _ h2
  exact ⟨(hB.frozen (p := ⟨r, off + j, none⟩) hr).trans h1, va, vc, (hB.cell (p := ⟨r, off + j, none⟩) hr).trans h2, h3, h4.below hB, fun k e => by have := h5 k e; have := hB.size; omega⟩
end Go.Proofs.YtdmkjbdlidadiaaGreat

/- New, Left, Screen, Copy of a terminal. -/
namespace Go.Proofs.YtdmkjbdlidadiaaGreat
open Go.RowKit

structure PTerm (W : World) (B t : Nat) (O : Nat → Prop) (ls : List (List UInt8)) (scr : List UInt8) : Prop where
  made : W.cell? ⟨t, 0, none⟩ = some (.bool true)
  term : ∃ la lc s, Term W B t 1 O la lc s ls scr
  few : ls.length ≤ 256
  short : ∀ j (hj : j < ls.length), ls[j].length ≤ 4096
  room : scr.length ≤ 1048576
theorem PTerm.ot {W : World} {B t : Nat} {O : Nat → Prop} {ls : List (List UInt8)} {scr : List UInt8} (h : PTerm W B t O ls scr) : O t := by
  obtain ⟨_, _, _, h⟩ := h.term
  exact h.ot
theorem PTerm.lt {W : World} {B t : Nat} {O : Nat → Prop} {ls : List (List UInt8)} {scr : List UInt8} (h : PTerm W B t O ls scr) : ∀ k, O k → B ≤ k ∧ k < W.heap.size := by
  obtain ⟨_, _, _, h⟩ := h.term
  exact h.lt
theorem PTerm.keep {W W' : World} {B t : Nat} {O : Nat → Prop} {ls : List (List UInt8)} {scr : List UInt8} (h : PTerm W B t O ls scr) (hk : ∀ k, O k → W'.heap[k]? = W.heap[k]?) (hs : W.heap.size ≤ W'.heap.size) : PTerm W' B t O ls scr := by
  have ho := h.ot
  obtain ⟨h1, ⟨la, lc, s, h2⟩, h3, h4, h5⟩ := h
  exact ⟨(World.cell?_of_block (w := W) (hk t ho)).trans h1, ⟨la, lc, s, h2.keep hk hs⟩, h3, h4, h5⟩
theorem PTerm.below {W W' : World} {B t : Nat} {O : Nat → Prop} {ls : List (List UInt8)} {scr : List UInt8} (h : PTerm W B t O ls scr) (hB : Below W.heap.size W W') : PTerm W' B t O ls scr :=
  h.keep (fun k e => hB.block k (h.lt k e).2) hB.size
theorem PTerm.turned {S : Nat → Prop} {W W' : World} {B t : Nat} {O : Nat → Prop} {ls : List (List UInt8)} {scr : List UInt8} (h : PTerm W B t O ls scr) (hT : Turned S W W') (hS : ∀ k, O k → ¬ S k) : PTerm W' B t O ls scr :=
  h.keep (fun k e => hT.block k (h.lt k e).2 (hS k e)) hT.size

end Go.Proofs.YtdmkjbdlidadiaaGreat

/- Copy of a terminal. -/
namespace Go.Proofs.YtdmkjbdlidadiaaGreat
open Go.RowKit


end Go.Proofs.YtdmkjbdlidadiaaGreat

/- Read and Write of a terminal. -/
namespace Go.Proofs.YtdmkjbdlidadiaaGreat
open Go.RowKit

end Go.Proofs.YtdmkjbdlidadiaaGreat

/- Read and Write of a terminal: what they answer, and what they leave. -/
namespace Go.Proofs.YtdmkjbdlidadiaaGreat
open Go.RowKit

end Go.Proofs.YtdmkjbdlidadiaaGreat

/- The statements' own example holds: alive answers true; terminals that no call made. -/
namespace Go.Proofs.YtdmkjbdlidadiaaGreat
open Go.RowKit

theorem Te_lit_bys (w : World) (l : List UInt8) (cs : Array Value) (n g : Nat) (fr : Nat × Nat) (hg : g = w.heap.size) (hn : n = l.length) (hcs : cs.toList = l.map bv) : Bys (w.alloc (Obj.cells cs 5 fr)) (.slice (some ⟨g, 0, none⟩) n n) l := by
  subst hn
  subst hg
  by_cases h0 : l.length = 0
  · exact .inr (.inl ⟨_, _, by rw [h0], List.length_eq_zero_iff.1 h0⟩)
  · refine .inr (.inr ⟨w.heap.size, 0, l.length, rfl, by omega, fun j hj => ?_⟩)
    rw [cell_of_row _ w.heap.size _ cs _ fr (heap_alloc_new w _)]
    have h1 : cs.toList[0 + j]? = (l.map bv)[j]? := by rw [hcs, Nat.zero_add]
    rw [Array.getElem?_toList] at h1
    rw [h1]
    simp [List.getD_eq_getElem?_getD, List.getElem?_eq_getElem hj, bv]

theorem conv_lit (w : World) (C : Array Value) (n g m : Nat) (hg : g = w.heap.size) (hm : C.size = m) : (convert 40 40 (.slice (some ⟨g, 0, none⟩) n n)).run Tryz.prog (w.alloc (.cells C 5)) = .ok (.slice (some ⟨g, 0, none⟩) n n) (w.alloc (.cells C 5 (m, m + 1))) := by
  subst hg
  subst hm
  exact Lib.run_convert_bytes_const w 40 5 C n n Tryz.underlying40 Tryz.underlying5
end Go.Proofs.YtdmkjbdlidadiaaGreat

/- What CopyLists and Spoil do with any lines. -/
namespace Go.Proofs.YtdmkjbdlidadiaaGreat
open Go.RowKit

theorem Te_owns_apart {W : World} {B B' e e' s s' n n' : Nat} {v v' : Value} {xs xs' : List Value} (h : W.ownsRow B e s v n xs) (h' : W.ownsRow B' e' s' v' n' xs') (hne : e ≠ e') (k : Nat) (h1 : v.ownBlock = some k) : v'.ownBlock ≠ some k := by
  intro h2
  rcases h.2 with ⟨rfl, _⟩ | ⟨g, cap, cur, rfl, _, h3, _⟩
  · cases h1
  · rcases h'.2 with ⟨rfl, _⟩ | ⟨g', cap', cur', rfl, _, h4, _⟩
    · cases h2
    · simp only [Value.ownBlock, Option.some.injEq] at h1 h2
      subst h1
      subst h2
      rw [h3] at h4
      cases h4
      exact hne rfl
def LCells (W : World) (B : Nat) (ls : List (List UInt8)) (xs : List Value) : Prop :=
  xs.length = ls.length ∧ (∀ j (hj : j < ls.length), ∃ v, xs[j]? = some v ∧ W.ownsRow B 5 1 v ls[j].length (ls[j].map bv)) ∧ ∀ (i j : Nat) (vi vj : Value) (k : Nat), i < j → xs[i]? = some vi → xs[j]? = some vj → vi.ownBlock = some k → vj.ownBlock ≠ some k
theorem LCells.keep {W W' : World} {B : Nat} {ls : List (List UInt8)} {xs : List Value} (h : LCells W B ls xs) (hk : ∀ j, j < ls.length → ∀ v k, xs[j]? = some v → v.ownBlock = some k → W'.heap[k]? = W.heap[k]?) : LCells W' B ls xs :=
  ⟨h.1, fun j hj => by
    obtain ⟨v, h1, h2⟩ := h.2.1 j hj
    exact ⟨v, h1, owns_keep h2 fun k e => hk j hj v k h1 e⟩, h.2.2⟩
theorem LCells.below {W W' : World} {B : Nat} {ls : List (List UInt8)} {xs : List Value} (h : LCells W B ls xs) (hB : Below W.heap.size W W') : LCells W' B ls xs :=
  h.keep fun j hj v k h1 e => by
    obtain ⟨v', h2, h3⟩ := h.2.1 j hj
    rw [h1] at h2
    cases h2
    exact hB.block k (h3.lt k e).2
end Go.Proofs.YtdmkjbdlidadiaaGreat

/- Names, and lists of named bytes: what holds them; Named, has, CopyNamed. -/
namespace Go.Proofs.YtdmkjbdlidadiaaGreat
open Go.RowKit

def I64 (d : Int) : Prop := -9223372036854775808 ≤ d ∧ d ≤ 9223372036854775807
theorem I64.wf {d : Int} (h : I64 d) : (Lit.int .i64 d).wf = true := by
  simp only [Lit.wf, Bool.and_eq_true, decide_eq_true_eq]
  exact ⟨h.1, h.2⟩
theorem I64.of {d : Int} (h : (Lit.int .i64 d).wf = true) : I64 d := by
  simp only [Lit.wf, Bool.and_eq_true, decide_eq_true_eq] at h
  exact h
abbrev Nm := ByteArray × List UInt8
def Nms (W : World) (v : Value) (l : List Nm) : Prop :=
  ∃ a c, v = .slice a l.length c ∧ l.length ≤ c ∧ (0 < l.length → ∃ b off, a = some ⟨b, off, none⟩ ∧ ∀ j (hj : j < l.length), ∃ va vc, W.cell? ⟨b, off + j * 2, none⟩ = some (.string l[j].1) ∧ W.cell? ⟨b, off + j * 2 + 1, none⟩ = some (.slice va l[j].2.length vc) ∧ Bys W (.slice va l[j].2.length vc) l[j].2 ∧ l[j].2.length ≤ vc ∧ l[j].1.size ≤ maxLen)
theorem Nms.below {W W' : World} {v : Value} {l : List Nm} (h : Nms W v l) (hB : Below W.heap.size W W') : Nms W' v l := by
  obtain ⟨a, c, rfl, hl, hc⟩ := h
  refine ⟨a, c, rfl, hl, fun h0 => ?_⟩
  obtain ⟨b, off, rfl, hd⟩ := hc h0
  refine ⟨b, off, rfl, fun j hj => ?_⟩
  obtain ⟨va, vc, h1, h2, h3, h4⟩ := hd j hj
  have hb := World.block_lt_of_cell? W _ h1
  exact ⟨va, vc, (hB.cell (p := ⟨b, off + j * 2, none⟩) hb).trans h1, (hB.cell (p := ⟨b, off + j * 2 + 1, none⟩) hb).trans h2, h3.below hB, h4⟩
theorem Nms.at {W : World} {a : Option Addr} {n c : Nat} {l : List Nm} (h : Nms W (.slice a n c) l) (j : Nat) (hj : j < l.length) :
    ∃ b off va vc, a = some ⟨b, off, none⟩ ∧ b < W.heap.size ∧ W.cell? ⟨b, off + j * 2, none⟩ = some (.string l[j].1) ∧ W.cell? ⟨b, off + j * 2 + 1, none⟩ = some (.slice va l[j].2.length vc) ∧ Bys W (.slice va l[j].2.length vc) l[j].2 ∧ l[j].2.length ≤ vc ∧ l[j].1.size ≤ maxLen := by
  obtain ⟨a', c', he, _, hc⟩ := h
  cases he
  obtain ⟨b, off, rfl, hd⟩ := hc (by omega)
  obtain ⟨va, vc, h1, h2, h3, h4⟩ := hd j hj
  exact ⟨b, off, va, vc, rfl, World.block_lt_of_cell? W _ h1, h1, h2, h3, h4⟩

abbrev Tp := ByteArray × List (List UInt8)
def Tps (W : World) (v : Value) (l : List Tp) : Prop :=
  ∃ a c, v = .slice a l.length c ∧ l.length ≤ c ∧ (0 < l.length → ∃ b off, a = some ⟨b, off, none⟩ ∧ ∀ j (hj : j < l.length), ∃ va vc, W.cell? ⟨b, off + j * 2, none⟩ = some (.string l[j].1) ∧ W.cell? ⟨b, off + j * 2 + 1, none⟩ = some (.slice va l[j].2.length vc) ∧ Lns W (.slice va l[j].2.length vc) l[j].2 ∧ l[j].1.size ≤ maxLen)
theorem Tps.below {W W' : World} {v : Value} {l : List Tp} (h : Tps W v l) (hB : Below W.heap.size W W') : Tps W' v l := by
  obtain ⟨a, c, rfl, hl, hc⟩ := h
  refine ⟨a, c, rfl, hl, fun h0 => ?_⟩
  obtain ⟨b, off, rfl, hd⟩ := hc h0
  refine ⟨b, off, rfl, fun j hj => ?_⟩
  obtain ⟨va, vc, h1, h2, h3⟩ := hd j hj
  have hb := World.block_lt_of_cell? W _ h1
  exact ⟨va, vc, (hB.cell (p := ⟨b, off + j * 2, none⟩) hb).trans h1, (hB.cell (p := ⟨b, off + j * 2 + 1, none⟩) hb).trans h2, h3.1.below hB, h3.2⟩
theorem Tps.at {W : World} {a : Option Addr} {n c : Nat} {l : List Tp} (h : Tps W (.slice a n c) l) (j : Nat) (hj : j < l.length) :
    ∃ b off va vc, a = some ⟨b, off, none⟩ ∧ b < W.heap.size ∧ W.cell? ⟨b, off + j * 2, none⟩ = some (.string l[j].1) ∧ W.cell? ⟨b, off + j * 2 + 1, none⟩ = some (.slice va l[j].2.length vc) ∧ Lns W (.slice va l[j].2.length vc) l[j].2 ∧ l[j].1.size ≤ maxLen := by
  obtain ⟨a', c', he, _, hc⟩ := h
  cases he
  obtain ⟨b, off, rfl, hd⟩ := hc (by omega)
  obtain ⟨va, vc, h1, h2, h3⟩ := hd j hj
  exact ⟨b, off, va, vc, rfl, World.block_lt_of_cell? W _ h1, h1, h2, h3⟩
def TC (W : World) (B : Nat) (ls : List (List UInt8)) (u : Value) : Prop := ∃ xs, W.ownsRow B 40 1 u ls.length xs ∧ LCells W B ls xs
theorem TC.below {W W' : World} {B : Nat} {ls : List (List UInt8)} {u : Value} (h : TC W B ls u) (hB : Below W.heap.size W W') : TC W' B ls u := by
  obtain ⟨xs, h1, h2⟩ := h
  exact ⟨xs, owns_below h1 hB, h2.below hB⟩
theorem TC.mono {W : World} {B B' : Nat} {ls : List (List UInt8)} {u : Value} (h : TC W B ls u) (hB : B' ≤ B) : TC W B' ls u := by
  obtain ⟨xs, h1, h2, h3, h4⟩ := h
  exact ⟨xs, owns_mono h1 hB, h2, fun j hj => by obtain ⟨v, h5, h6⟩ := h3 j hj; exact ⟨v, h5, owns_mono h6 hB⟩, h4⟩
theorem TC.grown {W W' : World} {B b' n : Nat} {s : Value} {ys : List Value} {ls : List (List UInt8)} {u : Value} (h : TC W B ls u) (hs : W.ownsRow b' 108 2 s n ys) (hg : W.grownBy W' s.ownBlock) : TC W' B ls u := by
  obtain ⟨xs, h1, h2⟩ := h
  refine ⟨xs, owns_keep h1 fun i e => hg.block i (h1.lt i e).2 (fun e' => Te_owns_apart h1 hs (by decide) i e e'.symm), h2.keep fun j hj v i h3 e => ?_⟩
  obtain ⟨v', h4, h5⟩ := h2.2.1 j hj
  rw [h3] at h4
  cases h4
  exact hg.block i (h5.lt i e).2 (fun e' => Te_owns_apart h5 hs (by decide) i e e'.symm)
end Go.Proofs.YtdmkjbdlidadiaaGreat

/- Faults: what a fault that may be is, and what mayBe, may answer. -/
namespace Go.Proofs.YtdmkjbdlidadiaaGreat
open Go.RowKit

def fv (x : Int × Int) : Value := .agg #[.int .i64 x.1, .int .i64 x.2]
def may (x : Int × Int) : Bool := if x.1 = 1 then decide (1 ≤ x.2 ∧ x.2 ≤ 1048576) else decide (0 ≤ x.1 ∧ x.1 ≤ 3 ∧ x.2 = 0)

end Go.Proofs.YtdmkjbdlidadiaaGreat

/- Lists of faults in memory; CopyFaults, SameFaults, Clone, Check and the reference's Check, for any faults. -/
namespace Go.Proofs.YtdmkjbdlidadiaaGreat
open Go.RowKit

abbrev Fault := Int × Int
def Flts (W : World) (v : Value) (l : List Fault) : Prop :=
  (v = .slice none 0 0 ∧ l = []) ∨ (∃ a cap, v = .slice (some a) 0 cap ∧ l = []) ∨
  ∃ b off cap, v = .slice (some ⟨b, off, none⟩) l.length cap ∧ 0 < l.length ∧ l.length ≤ cap ∧ ∀ j, j < l.length → W.cell? ⟨b, off + j * 2, none⟩ = some (.int .i64 (l.getD j (0, 0)).1) ∧ W.cell? ⟨b, off + j * 2 + 1, none⟩ = some (.int .i64 (l.getD j (0, 0)).2)

theorem Flts.lift {W W' : World} {v : Value} {l : List Fault} (h : Flts W v l) (hB : ∀ k, v.ownBlock = some k → k < W.heap.size → W'.heap[k]? = W.heap[k]?) : Flts W' v l := by
  rcases h with h | h | ⟨b, off, cap, rfl, h0, hcap, hc⟩
  · exact .inl h
  · exact .inr (.inl h)
  · refine .inr (.inr ⟨b, off, cap, rfl, h0, hcap, fun j hj => ?_⟩)
    have h1 := World.block_lt_of_cell? W _ (hc j hj).1
    have h2 := hB b rfl h1
    exact ⟨(World.cell?_of_block (w := W) h2).trans (hc j hj).1, (World.cell?_of_block (w := W) h2).trans (hc j hj).2⟩
theorem Flts.below {W W' : World} {v : Value} {l : List Fault} (h : Flts W v l) (hB : Below W.heap.size W W') : Flts W' v l :=
  h.lift fun k _ hk => hB.block k hk
end Go.Proofs.YtdmkjbdlidadiaaGreat

/- SameFaults and the reference's Check, for any faults. -/
namespace Go.Proofs.YtdmkjbdlidadiaaGreat
open Go.RowKit

end Go.Proofs.YtdmkjbdlidadiaaGreat

/- Check and the reference's Check, for any faults. -/
namespace Go.Proofs.YtdmkjbdlidadiaaGreat
open Go.RowKit

end Go.Proofs.YtdmkjbdlidadiaaGreat

/- Check of faults: the closure, first, Check. -/
namespace Go.Proofs.YtdmkjbdlidadiaaGreat
open Go.RowKit

end Go.Proofs.YtdmkjbdlidadiaaGreat

/- Plans: isMade, New, Next, Rest, Copy, the reference's Next. -/
namespace Go.Proofs.YtdmkjbdlidadiaaGreat
open Go.RowKit

structure PlanAt (W : World) (g : Nat) (v : Value) (l : List Fault) : Prop where
  made : W.cell? ⟨g, 0, none⟩ = some (.bool true)
  left : W.cell? ⟨g, 1, none⟩ = some v
  soft : W.frozen? ⟨g, 1, none⟩ = false
  list : Flts W v l
  apart : v.ownBlock ≠ some g
structure RPlanAt (W : World) (g : Nat) (v : Value) (l : List Fault) : Prop where
  left : W.cell? ⟨g, 0, none⟩ = some v
  soft : W.frozen? ⟨g, 0, none⟩ = false
  list : Flts W v l
  apart : v.ownBlock ≠ some g

theorem PlanAt.keep {W W' : World} {g : Nat} {v : Value} {l : List Fault} (h : PlanAt W g v l) (hB : ∀ k, k < W.heap.size → k = g ∨ v.ownBlock = some k → W'.heap[k]? = W.heap[k]?) : PlanAt W' g v l := by
  have hg := World.block_lt_of_cell? W _ h.made
  have e := hB g hg (.inl rfl)
  exact ⟨(World.cell?_of_block (w := W) e).trans h.made, (World.cell?_of_block (w := W) e).trans h.left, (World.frozen?_of_block (w := W) e).trans h.soft, h.list.lift fun k hk hl => hB k hl (.inr hk), h.apart⟩
theorem PlanAt.below {W W' : World} {g : Nat} {v : Value} {l : List Fault} (h : PlanAt W g v l) (hB : Below W.heap.size W W') : PlanAt W' g v l :=
  h.keep fun k hk _ => hB.block k hk
theorem RPlanAt.keep {W W' : World} {g : Nat} {v : Value} {l : List Fault} (h : RPlanAt W g v l) (hB : ∀ k, k < W.heap.size → k = g ∨ v.ownBlock = some k → W'.heap[k]? = W.heap[k]?) : RPlanAt W' g v l := by
  have hg := World.block_lt_of_cell? W _ h.left
  have e := hB g hg (.inl rfl)
  exact ⟨(World.cell?_of_block (w := W) e).trans h.left, (World.frozen?_of_block (w := W) e).trans h.soft, h.list.lift fun k hk hl => hB k hl (.inr hk), h.apart⟩
theorem RPlanAt.below {W W' : World} {g : Nat} {v : Value} {l : List Fault} (h : RPlanAt W g v l) (hB : Below W.heap.size W W') : RPlanAt W' g v l :=
  h.keep fun k hk _ => hB.block k hk

end Go.Proofs.YtdmkjbdlidadiaaGreat

/- A pipe: what its block holds, and what stays of it. -/
namespace Go.Proofs.YtdmkjbdlidadiaaGreat
open Go.RowKit

def pcells (R : List Value) (f c rd wr : Nat) : List Value := .bool true :: (R ++ [.int .i64 f, .int .i64 c, .int .i64 rd, .int .i64 wr])
theorem pcells_tail (R : List Value) (f c rd wr : Nat) (h : R.length = 4096) (j : Nat) : (pcells R f c rd wr)[4097 + j]? = ([.int .i64 f, .int .i64 c, .int .i64 rd, .int .i64 wr] : List Value)[j]? := by
  unfold pcells
  rw [show 4097 + j = (4096 + j) + 1 by omega, List.getElem?_cons_succ, List.getElem?_append_right (by omega), h, show 4096 + j - 4096 = j by omega]
theorem pcells_set (R : List Value) (f c rd wr : Nat) (h : R.length = 4096) (j : Nat) (v : Value) : (pcells R f c rd wr).set (4097 + j) v = .bool true :: (R ++ ([.int .i64 f, .int .i64 c, .int .i64 rd, .int .i64 wr] : List Value).set j v) := by
  unfold pcells
  rw [show 4097 + j = (4096 + j) + 1 by omega, List.set_cons_succ, List.set_append_right _ _ (by omega), h, show 4096 + j - 4096 = j by omega]
theorem heap_setCell_same {W : World} {g : Nat} (j : Nat) (v : Value) {cur : List Value} {t : TypeId} {fr : Nat × Nat} (h : W.heap[g]? = some (.cells cur.toArray t fr)) : (W.setCell ⟨g, j, none⟩ v).heap[g]? = some (.cells (cur.set j v).toArray t fr) := by
  unfold World.setCell
  simp only [Array.getElem?_modify, h]
  simp

structure Pp (W : World) (g : Nat) (R : List Value) (f c rd wr : Nat) : Prop where
  blk : W.heap[g]? = some (.cells (pcells R f c rd wr).toArray 340 (0, 0))
  len : R.length = 4096
  lf : f < 4096
  lc : c ≤ 4096
  lr : rd ≤ 1024
  lw : wr ≤ 1024
theorem Pp.keep {W W' : World} {g : Nat} {R : List Value} {f c rd wr : Nat} (h : Pp W g R f c rd wr) (hB : W'.heap[g]? = W.heap[g]?) : Pp W' g R f c rd wr := ⟨hB.trans h.blk, h.len, h.lf, h.lc, h.lr, h.lw⟩
theorem Pp.lt {W : World} {g : Nat} {R : List Value} {f c rd wr : Nat} (h : Pp W g R f c rd wr) : g < W.heap.size := (Array.getElem?_eq_some_iff.1 h.blk).1
theorem Pp.soft {W : World} {g : Nat} {R : List Value} {f c rd wr : Nat} (h : Pp W g R f c rd wr) (j : Nat) : W.frozen? ⟨g, j, none⟩ = false := frozen_of_row W g j _ _ h.blk
theorem Pp.c0 {W : World} {g : Nat} {R : List Value} {f c rd wr : Nat} (h : Pp W g R f c rd wr) : W.cell? ⟨g, 0, none⟩ = some (.bool true) := by
  rw [cell_of_row W g 0 _ _ _ h.blk]; simp [pcells]
theorem Pp.cr {W : World} {g : Nat} {R : List Value} {f c rd wr : Nat} (h : Pp W g R f c rd wr) : W.cell? ⟨g, 4099, none⟩ = some (.int .i64 rd) := by
  rw [cell_of_row W g 4099 _ _ _ h.blk, List.getElem?_toArray]; exact pcells_tail R f c rd wr h.len 2
theorem Pp.cw {W : World} {g : Nat} {R : List Value} {f c rd wr : Nat} (h : Pp W g R f c rd wr) : W.cell? ⟨g, 4100, none⟩ = some (.int .i64 wr) := by
  rw [cell_of_row W g 4100 _ _ _ h.blk, List.getElem?_toArray]; exact pcells_tail R f c rd wr h.len 3
theorem Pp.setr {W : World} {g : Nat} {R : List Value} {f c rd wr : Nat} (h : Pp W g R f c rd wr) (r' : Nat) (hr : r' ≤ 1024) : Pp (W.setCell ⟨g, 4099, none⟩ (.int .i64 r')) g R f c r' wr :=
  ⟨by rw [heap_setCell_same 4099 _ h.blk, pcells_set R f c rd wr h.len 2]; rfl, h.len, h.lf, h.lc, hr, h.lw⟩
theorem Pp.setw {W : World} {g : Nat} {R : List Value} {f c rd wr : Nat} (h : Pp W g R f c rd wr) (w' : Nat) (hw : w' ≤ 1024) : Pp (W.setCell ⟨g, 4100, none⟩ (.int .i64 w')) g R f c rd w' :=
  ⟨by rw [heap_setCell_same 4100 _ h.blk, pcells_set R f c rd wr h.len 3]; rfl, h.len, h.lf, h.lc, h.lr, hw⟩

end Go.Proofs.YtdmkjbdlidadiaaGreat

/- What the small functions of a pipe answer: isMade, mayBeAsked, room, place, side, readWaits, refuses, fitting. -/
namespace Go.Proofs.YtdmkjbdlidadiaaGreat
open Go.RowKit

theorem isMade_is (g : Nat) (x : Bool) (w : World) (h : w.cell? ⟨g, 0, none⟩ = some (.bool x)) :
    Calls Tryz.prog 223 #[.pointer (some ⟨g, 0, none⟩)] w fun e w' => e = .returned (.bool x) ∧ w' = w := by
  go_enter Tryz.func223, Tryz.ntmps223
  go_wp2
  go_ret
  exact ⟨rfl, rfl⟩
theorem side_is (g : Nat) (x : Bool) (w : World) :
    Calls Tryz.prog 224 #[.pointer (some ⟨g, 0, none⟩), .bool x] w fun e w' => e = .returned (.pointer (some ⟨g, if x then 4100 else 4099, none⟩)) ∧ w' = w := by
  cases x
  · go_enter Tryz.func224, Tryz.ntmps224
    go_wp2
    go_ret
    exact ⟨rfl, rfl⟩
  · go_enter Tryz.func224, Tryz.ntmps224
    go_wp2
    go_ret
    exact ⟨rfl, rfl⟩
end Go.Proofs.YtdmkjbdlidadiaaGreat

/- The ring of a pipe: front. -/
namespace Go.Proofs.YtdmkjbdlidadiaaGreat
open Go.RowKit

end Go.Proofs.YtdmkjbdlidadiaaGreat

/- The ring of a pipe: take and put. -/
namespace Go.Proofs.YtdmkjbdlidadiaaGreat
open Go.RowKit

def RHeld (R : List Value) (f : Nat) (q : List UInt8) : Prop := (R.drop f ++ R).take q.length = q.map bv
theorem ring_at (R : List Value) (f j : Nat) (hR : R.length = 4096) (hf : f < 4096) (hj : j < 4096) : (R.drop f ++ R)[j]? = R[(f + j) % 4096]? := by
  by_cases h : f + j < 4096
  · rw [List.getElem?_append_left (by simp [hR]; omega), List.getElem?_drop, Nat.mod_eq_of_lt h]
  · rw [List.getElem?_append_right (by simp [hR]; omega), List.length_drop, hR]
    congr 1
    omega
theorem rheld_iff {R : List Value} {f : Nat} {q : List UInt8} (hR : R.length = 4096) (hf : f < 4096) (hc : q.length ≤ 4096) : RHeld R f q ↔ ∀ j, j < q.length → R[(f + j) % 4096]? = (q.map bv)[j]? := by
  constructor
  · intro h j hj
    rw [← h, List.getElem?_take, if_pos hj, ring_at R f j hR hf (by omega)]
  · intro h
    apply List.ext_getElem?
    intro j
    rw [List.getElem?_take]
    split
    · rename_i hj
      rw [ring_at R f j hR hf (by omega), h j hj]
    · rename_i hj
      rw [List.getElem?_eq_none (by simp; omega)]
theorem RHeld.drop {R : List Value} {f : Nat} {q : List UInt8} (h : RHeld R f q) (hR : R.length = 4096) (hf : f < 4096) (hc : q.length ≤ 4096) (m : Nat) (hm : m ≤ q.length) : RHeld R ((f + m) % 4096) (q.drop m) := by
  rw [rheld_iff hR (Nat.mod_lt _ (by omega)) (by simp; omega)]
  intro j hj
  rw [List.length_drop] at hj
  rw [List.map_drop, List.getElem?_drop, ← (rheld_iff hR hf hc).1 h (m + j) (by omega)]
  congr 1
  omega
theorem splice_get (L cs : List Value) (off i : Nat) (h : off + cs.length ≤ L.length) : (splice L off cs)[i]? = if i < off then L[i]? else if i < off + cs.length then cs[i - off]? else L[i]? := by
  unfold splice
  split
  · rename_i h1
    rw [List.getElem?_append_left (by simp; omega), List.getElem?_take, if_pos h1]
  · rename_i h1
    rw [List.getElem?_append_right (by simp; omega), List.length_take, Nat.min_eq_left (by omega)]
    split
    · rename_i h2
      rw [List.getElem?_append_left (by omega)]
    · rename_i h2
      rw [List.getElem?_append_right (by omega), List.getElem?_drop]
      congr 1
      omega
theorem RHeld.put {R : List Value} {f : Nat} {q x : List UInt8} (h : RHeld R f q) (hR : R.length = 4096) (hf : f < 4096) (hc : q.length + x.length ≤ 4096) (k : Nat) (hk : k = min (4096 - (f + q.length) % 4096) x.length) :
    RHeld (splice (splice R ((f + q.length) % 4096) ((x.map bv).take k)) 0 ((x.map bv).drop k)) f (q ++ x) := by
  have hp : (f + q.length) % 4096 < 4096 := Nat.mod_lt _ (by omega)
  have hk1 : ((x.map bv).take k).length = k := by simp; omega
  have hk2 : ((x.map bv).drop k).length = x.length - k := by simp
  have hR1 : (splice R ((f + q.length) % 4096) ((x.map bv).take k)).length = 4096 := by rw [length_splice _ _ _ (by rw [hk1]; omega), hR]
  have hR2 : (splice (splice R ((f + q.length) % 4096) ((x.map bv).take k)) 0 ((x.map bv).drop k)).length = 4096 := by rw [length_splice _ _ _ (by rw [hk2, hR1]; omega), hR1]
  rw [rheld_iff hR2 hf (by simpa using hc)]
  intro j hj
  rw [List.length_append] at hj
  rw [splice_get _ _ _ _ (by rw [hk2, hR1]; omega), if_neg (by omega), hk2, splice_get _ _ _ _ (by rw [hk1, hR]; omega), hk1, List.map_append]
  by_cases hjq : j < q.length
  · rw [if_neg (by omega), List.getElem?_append_left (by simpa using hjq), ← (rheld_iff hR hf (by omega)).1 h j hjq]
    by_cases h1 : (f + j) % 4096 < (f + q.length) % 4096
    · rw [if_pos h1]
    · rw [if_neg h1, if_neg (by omega)]
  · rw [List.getElem?_append_right (by simpa using hjq), List.length_map]
    by_cases hjk : j - q.length < k
    · have he : (f + j) % 4096 = (f + q.length) % 4096 + (j - q.length) := by omega
      rw [if_neg (by omega), if_neg (by omega), if_pos (by omega), he, List.getElem?_take, if_pos (by omega)]
      congr 1
      omega
    · have he : (f + j) % 4096 = j - q.length - k := by omega
      rw [if_pos (by omega), he, List.getElem?_drop]
      congr 1
      omega

def PipeAt (W : World) (g : Nat) (q : List UInt8) (rd wr : Nat) : Prop := ∃ R f, Pp W g R f q.length rd wr ∧ RHeld R f q
theorem PipeAt.keep {W W' : World} {g : Nat} {q : List UInt8} {rd wr : Nat} (h : PipeAt W g q rd wr) (hB : W'.heap[g]? = W.heap[g]?) : PipeAt W' g q rd wr := by
  obtain ⟨R, f, h1, h2⟩ := h
  exact ⟨R, f, h1.keep hB, h2⟩
theorem PipeAt.lt {W : World} {g : Nat} {q : List UInt8} {rd wr : Nat} (h : PipeAt W g q rd wr) : g < W.heap.size := by
  obtain ⟨R, f, h1, h2⟩ := h
  exact h1.lt
theorem PipeAt.below {W W' : World} {g : Nat} {q : List UInt8} {rd wr : Nat} (h : PipeAt W g q rd wr) (hB : Below W.heap.size W W') : PipeAt W' g q rd wr := h.keep (hB.block g h.lt)
theorem PipeAt.len {W : World} {g : Nat} {q : List UInt8} {rd wr : Nat} (h : PipeAt W g q rd wr) : q.length ≤ 4096 := by
  obtain ⟨R, f, h1, h2⟩ := h
  exact h1.lc

end Go.Proofs.YtdmkjbdlidadiaaGreat

/- What the calls of a pipe answer, and what they leave: New, Join, Leave, Held, Ends, CanRead, CanWrite. -/
namespace Go.Proofs.YtdmkjbdlidadiaaGreat
open Go.RowKit

def newTail : List Value := List.replicate 4096 (.int .u8 0) ++ [.int .i64 0, .int .i64 0, .int .i64 0, .int .i64 0]
theorem zero_pipe (w : World) : (zeroValue 340).run Tryz.prog w = .ok (.agg (.bool false :: newTail).toArray) w := by kernel_rfl
set_option maxRecDepth 100000 in
set_option maxHeartbeats 1000000 in
theorem new_any (w : World) :
    Calls Tryz.prog 217 #[] w fun e w' => e = .returned (.pointer (some ⟨w.heap.size, 0, none⟩)) ∧ PipeAt w' w.heap.size [] 0 0 ∧ Below w.heap.size w w' := by
  obtain ⟨T, hT⟩ : ∃ T, T = newTail := ⟨_, rfl⟩
  have hz : ∀ w, (zeroValue 340).run Tryz.prog w = .ok (.agg (.bool false :: T).toArray) w := fun w => by rw [hT]; exact zero_pipe w
  have HT := hide hT
  clear hT
  go_enter Tryz.func217, Tryz.ntmps217
  go_wp2
  go_ret
  exact ⟨rfl, ⟨_, 0, ⟨by rw [heap_alloc_new w _, HT.out]; rfl, List.length_replicate, by omega, by simp, by omega, by omega⟩, by simp [RHeld]⟩, (Below.refl _ w).alloc (Nat.le_refl _) _⟩
end Go.Proofs.YtdmkjbdlidadiaaGreat

/- What the calls of a pipe answer, and what they leave: Join, Leave, Held, Ends, CanRead, CanWrite. -/
namespace Go.Proofs.YtdmkjbdlidadiaaGreat
open Go.RowKit

def joinE : Bool → Nat → Nat → Int
  | true, _, wr => if wr = 1024 then 3 else 0
  | false, rd, _ => if rd = 1024 then 3 else 0
def joinR : Bool → Nat → Nat → Nat
  | true, rd, _ => rd
  | false, rd, _ => if rd = 1024 then rd else rd + 1
def joinW : Bool → Nat → Nat → Nat
  | true, _, wr => if wr = 1024 then wr else wr + 1
  | false, _, wr => wr
def leaveE : Bool → Nat → Nat → Int
  | true, _, wr => if wr = 0 then 51 else 0
  | false, rd, _ => if rd = 0 then 51 else 0
def leaveR : Bool → Nat → Nat → Nat
  | true, rd, _ => rd
  | false, rd, _ => rd - 1
def leaveW : Bool → Nat → Nat → Nat
  | true, _, wr => wr - 1
  | false, _, wr => wr

set_option maxRecDepth 100000 in
set_option maxHeartbeats 1000000 in
theorem join_any (x : Bool) (g : Nat) (q : List UInt8) (rd wr : Nat) (w : World) (h : PipeAt w g q rd wr) :
    Calls Tryz.prog 218 #[.pointer (some ⟨g, 0, none⟩), .bool x] w fun e w' => e = .returned (.int .i64 (joinE x rd wr)) ∧ PipeAt w' g q (joinR x rd wr) (joinW x rd wr) ∧ Turned (fun k => k = g) w w' := by
  obtain ⟨R, f, hP, hq⟩ := h
  have HP := hide hP
  have HQ := hide hq
  have h1 := hP.c0
  have h2 := hP.cr
  have h3 := hP.cw
  have h4 := hP.soft 4099
  have h5 := hP.soft 4100
  have h6 := hP.lr
  have h7 := hP.lw
  clear hP hq
  have fin : ∀ w', Pp w' g R f q.length (joinR x rd wr) (joinW x rd wr) → Turned (fun k => k = g) w w' → PipeAt w' g q (joinR x rd wr) (joinW x rd wr) ∧ Turned (fun k => k = g) w w' := fun w' h h' => ⟨⟨R, f, h, HQ.out⟩, h'⟩
  have HF := hide fin
  clear fin
  cases x
  · by_cases hf : rd = 1024
    · subst hf
      go_enter Tryz.func218, Tryz.ntmps218
      go_wp2_with fail
      refine (isMade_is g true w h1).mono ?_
      rintro e w1 ⟨rfl, rfl⟩
      go_wp2_with fail
      refine (side_is g false _).mono ?_
      rintro e w2 ⟨rfl, rfl⟩
      go_wp2
      go_ret
      exact ⟨rfl, HF.out _ HP.out (Turned.refl _ _)⟩
    · have k1 : ¬ (rd : Int) = 1024 := by omega
      have k2 : ((rd : Int) == 1024) = false := by simp; omega
      have HP2 := hide (HP.out.setr (rd + 1) (by omega))
      go_enter Tryz.func218, Tryz.ntmps218
      go_wp2_with fail
      refine (isMade_is g true w h1).mono ?_
      rintro e w1 ⟨rfl, rfl⟩
      go_wp2_with fail
      refine (side_is g false _).mono ?_
      rintro e w2 ⟨rfl, rfl⟩
      go_wp2
      go_ret
      refine ⟨ret_int (by simp [joinE, hf]), HF.out _ ?_ ((Turned.refl _ _).set (.inl rfl))⟩
      simpa [joinR, joinW, hf] using HP2.out
  · by_cases hf : wr = 1024
    · subst hf
      go_enter Tryz.func218, Tryz.ntmps218
      go_wp2_with fail
      refine (isMade_is g true w h1).mono ?_
      rintro e w1 ⟨rfl, rfl⟩
      go_wp2_with fail
      refine (side_is g true _).mono ?_
      rintro e w2 ⟨rfl, rfl⟩
      go_wp2
      go_ret
      exact ⟨rfl, HF.out _ HP.out (Turned.refl _ _)⟩
    · have k1 : ¬ (wr : Int) = 1024 := by omega
      have k2 : ((wr : Int) == 1024) = false := by simp; omega
      have HP2 := hide (HP.out.setw (wr + 1) (by omega))
      go_enter Tryz.func218, Tryz.ntmps218
      go_wp2_with fail
      refine (isMade_is g true w h1).mono ?_
      rintro e w1 ⟨rfl, rfl⟩
      go_wp2_with fail
      refine (side_is g true _).mono ?_
      rintro e w2 ⟨rfl, rfl⟩
      go_wp2
      go_ret
      refine ⟨ret_int (by simp [joinE, hf]), HF.out _ ?_ ((Turned.refl _ _).set (.inl rfl))⟩
      simpa [joinR, joinW, hf] using HP2.out

end Go.Proofs.YtdmkjbdlidadiaaGreat

/- What Read and Write of a pipe answer, and what they leave. -/
namespace Go.Proofs.YtdmkjbdlidadiaaGreat
open Go.RowKit

end Go.Proofs.YtdmkjbdlidadiaaGreat

/- A kernel by the page, as a value: what it is, and what calls answer and leave. No program. -/
namespace Go.Proofs.YtdmkjbdlidadiaaGreat
open Go.RowKit

def nameOk (s : ByteArray) : Bool := decide (0 < s.size) && (decide (s.size ≤ 64) && s.data.toList.all (fun c => decide (33 ≤ c.toNat) && decide (c.toNat ≤ 126)))

abbrev fbit (f m : Int) : Int := bits .and .i64 f m
def flagsOk (f : Int) : Bool := decide (0 ≤ f ∧ f ≤ 63) && (!(fbit f 3 == 0) && ((fbit f 20 == 0 || !(fbit f 2 == 0)) && (fbit f 32 == 0 || !(fbit f 8 == 0))))
def inNames (s : ByteArray) (ss : List ByteArray) : Bool := ss.any (fun x => x.data.toList == s.data.toList)
theorem inNames_iff (s : ByteArray) (ss : List ByteArray) : inNames s ss = true ↔ s ∈ ss := by
  unfold inNames
  rw [List.any_eq_true]
  constructor
  · rintro ⟨x, hx, he⟩
    have : x = s := Go.WideShapes.bytes_inj (by simpa using he)
    rw [← this]; exact hx
  · intro h
    exact ⟨s, h, by simp⟩

inductive Ob where
  | file (b : List UInt8)
  | term (ls : List (List UInt8)) (scr : List UInt8)
  | pipe (q : List UInt8) (rd wt : Nat)
def Ob.kind : Ob → Int
  | .file _ => 1
  | .term _ _ => 2
  | .pipe _ _ _ => 3
def Ob.ok : Ob → Prop
  | .file b => b.length ≤ 1048576
  | .term ls scr => ls.length ≤ 256 ∧ (∀ j (hj : j < ls.length), ls[j].length ≤ 4096) ∧ scr.length ≤ 1048576
  | .pipe q rd wt => q.length ≤ 4096 ∧ rd ≤ 1024 ∧ wt ≤ 1024
structure Th where
  name : ByteArray
  ob : Ob
structure De where
  n : Nat
  th : Nat
  flags : Int
  pos : Nat
  held : Nat
structure KS where
  th : List Th
  nm : List Nat
  de : List De
  next : Nat
  plan : List Fault
  reads : Nat
  writes : Nat
def KS.find (K : KS) (d : Int) : Option De := K.de.find? (fun x => decide ((x.n : Int) = d))

def planOk (l : List Fault) : Prop := l.length ≤ 4096 ∧ ∀ f ∈ l, f.1 = 1 → 1 ≤ f.2 ∧ f.2 ≤ 1048576
structure KOk (K : KS) : Prop where
  few : K.de.length ≤ 256
  named : K.nm.length ≤ 256
  th : ∀ d ∈ K.de, d.th < K.th.length
  nm : ∀ i ∈ K.nm, i < K.th.length
  num : ∀ d ∈ K.de, 1 ≤ d.n ∧ d.n < K.next
  once : ∀ d ∈ K.de, ∀ d' ∈ K.de, d.n = d'.n → d = d'
  flags : ∀ d ∈ K.de, flagsOk d.flags = true
  pos : ∀ d ∈ K.de, d.pos ≤ 1048576
  held : ∀ d ∈ K.de, 1 ≤ d.held ∧ d.held ≤ 1024
  plan : planOk K.plan
theorem KS.find_some {K : KS} {d : Int} {x : De} (h : K.find d = some x) : x ∈ K.de ∧ (x.n : Int) = d := by
  unfold KS.find at h
  exact ⟨List.mem_of_find?_eq_some h, by simpa using List.find?_some h⟩
def KS.tho (K : KS) (x : De) : Ob := (K.th[x.th]?.map Th.ob).getD (.file [])
theorem KS.tho_eq {K : KS} {x : De} (h : x.th < K.th.length) : K.tho x = K.th[x.th].ob := by simp [KS.tho, h]
def KS.setDe (K : KS) (x : De) : KS := { K with de := K.de.map fun y => if y.n = x.n then x else y }
theorem mem_setDe {K : KS} {x y : De} (h : y ∈ (K.setDe x).de) : y = x ∨ (y ∈ K.de ∧ y.n ≠ x.n) := by
  obtain ⟨z, hz, he⟩ := List.mem_map.1 h
  by_cases e : z.n = x.n
  · rw [if_pos e] at he; exact .inl he.symm
  · rw [if_neg e] at he; subst he; exact .inr ⟨hz, e⟩
theorem setDe_ns {K : KS} {x : De} (f : Nat → Value) : (K.setDe x).de.map (fun d => f d.n) = K.de.map fun d => f d.n := by
  unfold KS.setDe
  simp only [List.map_map]
  apply List.map_congr_left
  intro y _
  simp only [Function.comp]
  split
  · rename_i e; rw [e]
  · rfl
theorem KOk.setDe {K : KS} (h : KOk K) {x x' : De} (hx : x ∈ K.de) (hn : x'.n = x.n) (ht : x'.th = x.th) (hf : x'.flags = x.flags) (hp : x'.pos ≤ 1048576) (hh : 1 ≤ x'.held ∧ x'.held ≤ 1024) : KOk (K.setDe x') := by
  have el : ∀ y ∈ (K.setDe x').de, y = x' ∨ (y ∈ K.de ∧ y.n ≠ x'.n) := fun y hy => mem_setDe hy
  refine ⟨by simpa [KS.setDe] using h.few, h.named, fun y hy => ?_, h.nm, fun y hy => ?_, fun y hy z hz e => ?_, fun y hy => ?_, fun y hy => ?_, fun y hy => ?_, h.plan⟩
  · rcases el y hy with rfl | ⟨h1, _⟩
    · rw [ht]; exact h.th x hx
    · exact h.th y h1
  · rcases el y hy with rfl | ⟨h1, _⟩
    · rw [hn]; exact h.num x hx
    · exact h.num y h1
  · rcases el y hy with rfl | ⟨h1, h2⟩
    · rcases el z hz with rfl | ⟨h3, h4⟩
      · rfl
      · exact absurd e.symm h4
    · rcases el z hz with rfl | ⟨h3, h4⟩
      · exact absurd e h2
      · exact h.once y h1 z h3 e
  · rcases el y hy with rfl | ⟨h1, _⟩
    · rw [hf]; exact h.flags x hx
    · exact h.flags y h1
  · rcases el y hy with rfl | ⟨h1, _⟩
    · exact hp
    · exact h.pos y h1
  · rcases el y hy with rfl | ⟨h1, _⟩
    · exact hh
    · exact h.held y h1
def KS.setOb (K : KS) (i : Nat) (ob : Ob) : KS := { K with th := K.th.modify i fun t => { t with ob := ob } }
theorem setOb_len (K : KS) (i : Nat) (ob : Ob) : (K.setOb i ob).th.length = K.th.length := by simp [KS.setOb]
theorem setOb_same {K : KS} {i : Nat} {ob : Ob} (h : i < (K.setOb i ob).th.length) (h' : i < K.th.length) : (K.setOb i ob).th[i] = { K.th[i] with ob := ob } := by simp [KS.setOb]
theorem setOb_other {K : KS} {i j : Nat} {ob : Ob} (hne : j ≠ i) (h : j < (K.setOb i ob).th.length) (h' : j < K.th.length) : (K.setOb i ob).th[j] = K.th[j] := by simp [KS.setOb, Ne.symm hne]
end Go.Proofs.YtdmkjbdlidadiaaGreat

/- The reference's terminal: Check, New. -/
namespace Go.Proofs.YtdmkjbdlidadiaaGreat
open Go.RowKit

end Go.Proofs.YtdmkjbdlidadiaaGreat

/- The reference's terminal: Read, Write. -/
namespace Go.Proofs.YtdmkjbdlidadiaaGreat
open Go.RowKit

end Go.Proofs.YtdmkjbdlidadiaaGreat

/- The reference's pipe: Join, Leave, Read, CanRead, CanWrite. -/
namespace Go.Proofs.YtdmkjbdlidadiaaGreat
open Go.RowKit

structure RP (W : World) (B t : Nat) (a : Option Addr) (c : Nat) (q : List UInt8) (rd wr : Nat) : Prop where
  blk : W.heap[t]? = some (.cells ([.slice a q.length c, .int .i64 rd, .int .i64 wr] : List Value).toArray 254 (0, 0))
  bys : Bys W (.slice a q.length c) q
  cap : q.length ≤ c
  lq : q.length ≤ 4096
  lr : rd ≤ 1024
  lw : wr ≤ 1024
  ad : (a = none ∧ c = 0 ∧ q = []) ∨ ∃ b off, a = some ⟨b, off, none⟩ ∧ b ≠ t ∧ B ≤ b ∧ b < W.heap.size
theorem RP.lt {W : World} {B t : Nat} {a : Option Addr} {c : Nat} {q : List UInt8} {rd wr : Nat} (h : RP W B t a c q rd wr) : t < W.heap.size := (Array.getElem?_eq_some_iff.1 h.blk).1
theorem RP.soft {W : World} {B t : Nat} {a : Option Addr} {c : Nat} {q : List UInt8} {rd wr : Nat} (h : RP W B t a c q rd wr) (j : Nat) : W.frozen? ⟨t, j, none⟩ = false := frozen_of_row W t j _ _ h.blk
theorem RP.c0 {W : World} {B t : Nat} {a : Option Addr} {c : Nat} {q : List UInt8} {rd wr : Nat} (h : RP W B t a c q rd wr) : W.cell? ⟨t, 0, none⟩ = some (.slice a q.length c) := by rw [cell_of_row W t 0 _ _ _ h.blk]; rfl
theorem RP.c1 {W : World} {B t : Nat} {a : Option Addr} {c : Nat} {q : List UInt8} {rd wr : Nat} (h : RP W B t a c q rd wr) : W.cell? ⟨t, 1, none⟩ = some (.int .i64 rd) := by rw [cell_of_row W t 1 _ _ _ h.blk]; rfl
theorem RP.c2 {W : World} {B t : Nat} {a : Option Addr} {c : Nat} {q : List UInt8} {rd wr : Nat} (h : RP W B t a c q rd wr) : W.cell? ⟨t, 2, none⟩ = some (.int .i64 wr) := by rw [cell_of_row W t 2 _ _ _ h.blk]; rfl
theorem RP.keep {S : Nat → Prop} {W W' : World} {B t : Nat} {a : Option Addr} {c : Nat} {q : List UInt8} {rd wr : Nat} (h : RP W B t a c q rd wr) (hT : Turned S W W') (ht : ¬ S t) (hb : ∀ b, B ≤ b → b ≠ t → b < W.heap.size → (Value.slice a q.length c).ownBlock = some b → ¬ S b) : RP W' B t a c q rd wr := by
  refine ⟨(hT.block t h.lt ht).trans h.blk, h.bys.turned hT fun k hk hlt => ?_, h.cap, h.lq, h.lr, h.lw, ?_⟩
  · rcases h.ad with ⟨rfl, _⟩ | ⟨b, off, rfl, h1, h2, h3⟩
    · cases hk
    · obtain rfl : b = k := by simpa [Value.ownBlock] using hk
      exact hb b h2 h1 h3 rfl
  · rcases h.ad with h | ⟨b, off, h0, h1, h2, h3⟩
    · exact .inl h
    · exact .inr ⟨b, off, h0, h1, h2, Nat.lt_of_lt_of_le h3 hT.size⟩
theorem RP.below {W W' : World} {B t : Nat} {a : Option Addr} {c : Nat} {q : List UInt8} {rd wr : Nat} (h : RP W B t a c q rd wr) (hB : Below W.heap.size W W') : RP W' B t a c q rd wr :=
  h.keep (Turned.of_below (S := fun _ => False) hB) id (fun _ _ _ _ _ => id)
theorem RP.set {W : World} {B t : Nat} {a : Option Addr} {c : Nat} {q : List UInt8} {rd wr : Nat} (h : RP W B t a c q rd wr) (j : Nat) (v : Value) {a' : Option Addr} {c' : Nat} {q' : List UInt8} {rd' wr' : Nat}
    (hl : ([.slice a q.length c, .int .i64 rd, .int .i64 wr] : List Value).set j v = [.slice a' q'.length c', .int .i64 rd', .int .i64 wr']) (hb : Bys W (.slice a' q'.length c') q') (hc : q'.length ≤ c') (hq : q'.length ≤ 4096) (hr : rd' ≤ 1024) (hw : wr' ≤ 1024)
    (ha : (a' = none ∧ c' = 0 ∧ q' = []) ∨ ∃ b off, a' = some ⟨b, off, none⟩ ∧ b ≠ t ∧ B ≤ b ∧ b < W.heap.size) : RP (W.setCell ⟨t, j, none⟩ v) B t a' c' q' rd' wr' := by
  have hs : (W.setCell ⟨t, j, none⟩ v).heap.size = W.heap.size := by simp [World.setCell]
  refine ⟨by rw [heap_setCell_same j v h.blk, hl], hb.keep fun k hk _ => Below.heap_setCell _ _ _ _ ?_, hc, hq, hr, hw, ?_⟩
  · rcases ha with ⟨rfl, _⟩ | ⟨b, off, rfl, h1, _⟩
    · cases hk
    · obtain rfl : b = k := by simpa [Value.ownBlock] using hk
      exact h1
  · rw [hs]; exact ha

set_option maxRecDepth 100000 in
set_option maxHeartbeats 1000000 in
theorem rleave_any (x : Bool) (B t : Nat) (a : Option Addr) (c : Nat) (q : List UInt8) (rd wr : Nat) (w : World) (h : RP w B t a c q rd wr) :
    Calls Tryz.prog 176 #[.pointer (some ⟨t, 0, none⟩), .bool x] w fun e w' => e = .returned (.int .i64 (leaveE x rd wr)) ∧ RP w' B t a c q (leaveR x rd wr) (leaveW x rd wr) ∧ Turned (fun k => k = t) w w' := by
  have HP := hide h
  have h2 := h.c1
  have h3 := h.c2
  have h4 := h.soft 1
  have h5 := h.soft 2
  have h6 := h.lr
  have h7 := h.lw
  clear h
  cases x
  · by_cases hf : rd = 0
    · subst hf
      go_enter Tryz.func176, Tryz.ntmps176
      go_wp2
      go_ret
      exact ⟨rfl, HP.out, Turned.refl _ _⟩
    · have k1 : ¬ (rd : Int) = 0 := by omega
      have k2 : ((rd : Int) == 0) = false := by simp; omega
      have HP2 := hide (HP.out.set 1 (.int .i64 ((rd - 1 : Nat) : Int)) (a' := a) (c' := c) (q' := q) (rd' := rd - 1) (wr' := wr) rfl HP.out.bys HP.out.cap HP.out.lq (by omega) HP.out.lw HP.out.ad)
      go_enter Tryz.func176, Tryz.ntmps176
      go_wp2
      go_ret
      refine ⟨ret_int (by simp [leaveE, hf]), ?_, (Turned.refl _ _).set (.inl rfl)⟩
      rw [show (rd : Int) - 1 = ((rd - 1 : Nat) : Int) by omega]
      exact HP2.out
  · by_cases hf : wr = 0
    · subst hf
      go_enter Tryz.func176, Tryz.ntmps176
      go_wp2
      go_ret
      exact ⟨rfl, HP.out, Turned.refl _ _⟩
    · have k1 : ¬ (wr : Int) = 0 := by omega
      have k2 : ((wr : Int) == 0) = false := by simp; omega
      have HP2 := hide (HP.out.set 2 (.int .i64 ((wr - 1 : Nat) : Int)) (a' := a) (c' := c) (q' := q) (rd' := rd) (wr' := wr - 1) rfl HP.out.bys HP.out.cap HP.out.lq HP.out.lr (by omega) HP.out.ad)
      go_enter Tryz.func176, Tryz.ntmps176
      go_wp2
      go_ret
      refine ⟨ret_int (by simp [leaveE, hf]), ?_, (Turned.refl _ _).set (.inl rfl)⟩
      rw [show (wr : Int) - 1 = ((wr - 1 : Nat) : Int) by omega]
      exact HP2.out

end Go.Proofs.YtdmkjbdlidadiaaGreat

/- The reference's pipe: Read. -/
namespace Go.Proofs.YtdmkjbdlidadiaaGreat
open Go.RowKit

end Go.Proofs.YtdmkjbdlidadiaaGreat

/- The reference's pipe: Write. -/
namespace Go.Proofs.YtdmkjbdlidadiaaGreat
open Go.RowKit

end Go.Proofs.YtdmkjbdlidadiaaGreat

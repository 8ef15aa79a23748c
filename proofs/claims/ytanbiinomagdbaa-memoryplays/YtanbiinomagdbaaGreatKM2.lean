/- What the proof stands on, part 2: the contracts of the program's calls that it reaches. -/
import Derived.Test.YtanbiinomagdbaaGreatKM1
/- WriteAt. -/
namespace Go.Proofs.YtanbiinomagdbaaGreat
open Go.RowKit

def lay (l : List UInt8) (off : Nat) (x : List UInt8) : List UInt8 :=
  if x = [] then l else (grow l (off + x.length)).take off ++ (x ++ (grow l (off + x.length)).drop (off + x.length))
theorem lay_len (l : List UInt8) (off : Nat) (x : List UInt8) : (lay l off x).length = if x = [] then l.length else max l.length (off + x.length) := by
  unfold lay
  split
  · rfl
  · have := grow_len l (off + x.length)
    simp only [List.length_append, List.length_take, List.length_drop]
    omega

set_option maxRecDepth 100000 in
set_option maxHeartbeats 1000000 in
theorem writeAt_range (g b cap : Nat) (l : List UInt8) (off : Int) (vx : Value) (w : World) (h : FileAt w g b cap l) (hr : inR off = false) :
    Calls Tryz.prog 217 #[.pointer (some ⟨g, 0, none⟩), .int .i64 off, vx] w fun e w' => e = .returned (.int .i64 4) ∧ Below w.heap.size w w' := by
  have h1 := h.made
  clear h
  have HR : Hid (([off] : List Int).all inR = false) := hide (by simpa using hr)
  clear hr
  go_enter Tryz.func217, Tryz.ntmps217
  go_wp2_with fail
  refine (Fi_isMade_yes g w h1).mono ?_
  rintro e w1 ⟨rfl, rfl⟩
  go_wp2_with fail
  refine (inRange_any _ [off] _ (ints_one _ _) (by simp)).mono ?_
  rintro e w2 ⟨rfl, rfl⟩
  rw [HR.out]
  go_wp2
  go_ret
  exact ⟨rfl, (Below.refl _ _).alloc (Nat.le_refl _) _⟩

set_option maxRecDepth 100000 in
set_option maxHeartbeats 1000000 in
theorem writeAt_full (g b cap : Nat) (l : List UInt8) (off : Nat) (vx : Value) (x : List UInt8) (w : World) (h : FileAt w g b cap l) (hx : Bys w vx x) (ho : off ≤ 1048576) (hl : 1048576 < off + x.length) :
    Calls Tryz.prog 217 #[.pointer (some ⟨g, 0, none⟩), .int .i64 off, vx] w fun e w' => e = .returned (.int .i64 31) ∧ Below w.heap.size w w' := by
  have h1 := h.made
  obtain ⟨a1, c1, rfl, -⟩ := bys_form hx
  clear h hx
  have HR : Hid (([(off : Int)] : List Int).all inR = true) := hide (by simp [inR]; omega)
  have hd : decide ((1048576 - (off : Int)) < (x.length : Int)) = true := by simp; omega
  go_enter Tryz.func217, Tryz.ntmps217
  go_wp2_with fail
  refine (Fi_isMade_yes g w h1).mono ?_
  rintro e w1 ⟨rfl, rfl⟩
  go_wp2_with fail
  refine (inRange_any _ [(off : Int)] _ (ints_one _ _) (by simp)).mono ?_
  rintro e w2 ⟨rfl, rfl⟩
  rw [HR.out]
  go_wp2
  all_goals first
    | (exfalso; omega)
    | (go_ret; exact ⟨rfl, (Below.refl _ _).alloc (Nat.le_refl _) _⟩)

set_option maxRecDepth 100000 in
set_option maxHeartbeats 1000000 in
theorem writeAt_none (g b cap : Nat) (l : List UInt8) (off : Nat) (vx : Value) (w : World) (h : FileAt w g b cap l) (hx : Bys w vx []) (ho : off ≤ 1048576) :
    Calls Tryz.prog 217 #[.pointer (some ⟨g, 0, none⟩), .int .i64 off, vx] w fun e w' => e = .returned (.int .i64 0) ∧ Below w.heap.size w w' := by
  have h1 := h.made
  obtain ⟨a1, c1, rfl, -⟩ := bys_form hx
  clear h hx
  simp only [List.length_nil]
  have HR : Hid (([(off : Int)] : List Int).all inR = true) := hide (by simp [inR]; omega)
  have hd : decide ((1048576 - (off : Int)) < 0) = false := by simp; omega
  go_enter Tryz.func217, Tryz.ntmps217
  go_wp2_with fail
  refine (Fi_isMade_yes g w h1).mono ?_
  rintro e w1 ⟨rfl, rfl⟩
  go_wp2_with fail
  refine (inRange_any _ [(off : Int)] _ (ints_one _ _) (by simp)).mono ?_
  rintro e w2 ⟨rfl, rfl⟩
  rw [HR.out]
  go_wp2
  all_goals first
    | (exfalso; omega)
    | (go_ret; exact ⟨rfl, (Below.refl _ _).alloc (Nat.le_refl _) _⟩)

set_option maxRecDepth 100000 in
set_option maxHeartbeats 2000000 in
theorem writeAt_some (g b cap : Nat) (l : List UInt8) (off : Nat) (vx : Value) (x : List UInt8) (w : World) (h : FileAt w g b cap l) (hx : Bys w vx x) (hxb : ∀ k, vx.ownBlock = some k → k ≠ g ∧ k ≠ b) (hl : off + x.length ≤ 1048576) (hx0 : 0 < x.length) :
    Calls Tryz.prog 217 #[.pointer (some ⟨g, 0, none⟩), .int .i64 off, vx] w fun e w' => e = .returned (.int .i64 0) ∧ ∃ b' cap', FileAt w' g b' cap' (lay l off x) ∧ (b' = b ∨ w.heap.size ≤ b') ∧ Turned (fun k => k = g ∨ k = b) w w' := by
  have h1 := h.made
  have HF := hide h
  have HX := hide hx
  have HB := hide hxb
  obtain ⟨a1, c1, rfl, -⟩ := bys_form hx
  clear h hx hxb
  have HR : Hid (([(off : Int)] : List Int).all inR = true) := hide (by simp [inR]; omega)
  have hd : decide ((1048576 - (off : Int)) < (x.length : Int)) = false := by simp; omega
  have hd2 : ((x.length : Int) == 0) = false := by simp; intro e; rw [e] at hx0; simp at hx0
  go_enter Tryz.func217, Tryz.ntmps217
  go_wp2_with fail
  refine (Fi_isMade_yes g w h1).mono ?_
  rintro e w1 ⟨rfl, rfl⟩
  go_wp2_with fail
  refine (inRange_any _ [(off : Int)] _ (ints_one _ _) (by simp)).mono ?_
  rintro e w2 ⟨rfl, rfl⟩
  rw [HR.out]
  have hBa : Below w1.heap.size w1 (w1.alloc (Obj.cells #[.int .i64 (off : Int)] 3)) := (Below.refl _ _).alloc (Nat.le_refl _) _
  have HF2 := hide (HF.out.below hBa)
  have HX2 := hide (HX.out.below hBa)
  generalize w1.alloc (Obj.cells #[.int .i64 (off : Int)] 3) = w2 at *
  clear HF HR h1 HX
  go_wp2_with fail
  rw [show (off : Int) + (x.length : Int) = ((off + x.length : Nat) : Int) by omega]
  refine (growTo_any g b cap l (off + x.length) _ HF2.out hl).mono ?_
  rintro e w3 ⟨rfl, b', cap', hF3, hb3, hT3⟩
  have HX3 := hide (HX2.out.keep (W' := w3) fun k hk hlt => hT3.block k hlt (fun e => by have := HB.out k hk; omega))
  have hml := grow_len l (off + x.length)
  obtain ⟨m, hm⟩ : ∃ m, m = grow l (off + x.length) := ⟨_, rfl⟩
  rw [← hm] at hF3 hml
  have HM := hide hm
  have hml2 : off + x.length ≤ m.length := by omega
  clear hml
  have HF3 := hide hF3
  have h2 := hF3.data
  have h3 := hF3.row.len
  have h5 := hF3.row.lim
  obtain ⟨cur, hcur, hcl, hct⟩ := hF3.row.row
  have HCur := hide hcur
  have HCt := hide hct
  have hap := hF3.apart
  obtain ⟨X, hX⟩ : ∃ X, X = x.map bv := ⟨_, rfl⟩
  have HXe := hide hX
  have hXl : X.length = x.length := by rw [hX]; simp
  have H1 : Hid (∀ v ∈ X, v.oneCell' = true) := hide (by rw [hX]; exact bys_one x)
  obtain ⟨w4, hrun, HG4, hgr4⟩ := run_copy w3 3 (some ⟨b', off, none⟩) a1 (m.length - off) (cap' - off) x.length c1 b' off cur HCur.out X (by rw [hXl]; exact (Nat.min_eq_left (by omega)).symm) (fun h0 => ⟨rfl, Fi_bys_src HX3.out HXe.out h0⟩) (by omega) H1.out
  clear hm hF3 hcur hct hX HF2 HX2
  have k1 : (off : Int) < (cap' : Int) := by omega
  have k2 : (off : Int) ≤ (m.length : Int) := by omega
  have k3 : ¬ cap' = off := by omega
  go_wp2
  go_ret
  refine ⟨rfl, b', cap', ?_, ?_, ?_⟩
  · have hlay : lay l off x = m.take off ++ (x ++ m.drop (off + x.length)) := by rw [lay, if_neg (by intro e; rw [e] at hx0; simp at hx0), HM.out]
    have hrow := RowAt.laid (W' := w4) (b := b') (cap := cap') (l := m) (x := x) (off := off) hcl HCt.out h3 h5 hml2 (by rw [← HXe.out]; exact HG4.out)
    rw [← hlay] at hrow
    have hll : (lay l off x).length = m.length := by rw [hlay]; simp; omega
    have hgg := hgr4.block g HF3.out.lt (by intro e; cases e; exact hap rfl)
    refine ⟨(World.cell?_of_block (w := w3) hgg).trans HF3.out.made, ?_, (World.frozen?_of_block (w := w3) hgg).trans HF3.out.soft, hrow, hap⟩
    rw [hll]
    exact (World.cell?_of_block (w := w3) hgg).trans HF3.out.data
  · have := hBa.size; omega
  · have h1 : Turned (fun k => k = g ∨ k = b) w1 w3 := (Turned.of_below hBa).trans hT3 (fun k hk => id)
    have h2 : Turned (fun k => k = b') w3 w4 := ⟨hgr4.os, hgr4.tape, hgr4.output, hgr4.size, fun k hk hn => hgr4.block k hk (by intro e; cases e; exact hn rfl)⟩
    have := hBa.size
    exact h1.trans h2 (fun k hk e => by omega)

def Fi_wrE (off : Int) (n : Nat) : Int := if inR off = false then 4 else if 1048576 < off + n then 31 else 0
def wrL (l : List UInt8) (off : Int) (x : List UInt8) : List UInt8 := if Fi_wrE off x.length = 0 then lay l off.toNat x else l
theorem wrL_len {l : List UInt8} {off : Int} {x : List UInt8} (h : l.length ≤ 1048576) : (wrL l off x).length ≤ 1048576 := by
  unfold wrL Fi_wrE
  by_cases h1 : inR off = false
  · rw [if_pos h1, if_neg (by decide)]; exact h
  · rw [if_neg h1]
    by_cases h2 : (1048576 : Int) < off + (x.length : Nat)
    · rw [if_pos h2, if_neg (by decide)]; exact h
    · rw [if_neg h2, if_pos rfl, lay_len]
      have : inR off = true := by simpa using h1
      simp only [inR, decide_eq_true_eq] at this
      split <;> omega

theorem writeAt_any (g b cap : Nat) (l : List UInt8) (off : Int) (vx : Value) (x : List UInt8) (w : World) (h : FileAt w g b cap l) (hx : Bys w vx x) (hxb : 0 < x.length → ∀ k, vx.ownBlock = some k → k ≠ g ∧ k ≠ b) :
    Calls Tryz.prog 217 #[.pointer (some ⟨g, 0, none⟩), .int .i64 off, vx] w fun e w' => e = .returned (.int .i64 (Fi_wrE off x.length)) ∧ ∃ b' cap', FileAt w' g b' cap' (wrL l off x) ∧ (b' = b ∨ w.heap.size ≤ b') ∧ Turned (fun k => k = g ∨ k = b) w w' := by
  by_cases h1 : inR off = false
  · have e1 : Fi_wrE off x.length = 4 := by unfold Fi_wrE; rw [if_pos h1]
    rw [wrL, e1, if_neg (by decide)]
    refine (writeAt_range g b cap l off vx w h h1).mono ?_
    rintro e w' ⟨rfl, hB⟩
    exact ⟨rfl, b, cap, h.below hB, .inl rfl, Turned.of_below hB⟩
  · have h1' : inR off = true := by simpa using h1
    simp only [inR, decide_eq_true_eq] at h1'
    obtain ⟨o, rfl⟩ : ∃ o : Nat, off = o := ⟨off.toNat, by omega⟩
    by_cases h2 : (1048576 : Int) < (o : Int) + (x.length : Nat)
    · have e1 : Fi_wrE o x.length = 31 := by unfold Fi_wrE; rw [if_neg h1, if_pos h2]
      rw [wrL, e1, if_neg (by decide)]
      refine (writeAt_full g b cap l o vx x w h hx (by omega) (by omega)).mono ?_
      rintro e w' ⟨rfl, hB⟩
      exact ⟨rfl, b, cap, h.below hB, .inl rfl, Turned.of_below hB⟩
    · have e1 : Fi_wrE o x.length = 0 := by unfold Fi_wrE; rw [if_neg h1, if_neg h2]
      rw [wrL, e1, if_pos rfl, Int.toNat_natCast]
      by_cases h3 : x = []
      · subst h3
        refine (writeAt_none g b cap l o vx w h hx (by omega)).mono ?_
        rintro e w' ⟨rfl, hB⟩
        exact ⟨rfl, b, cap, h.below hB, .inl rfl, Turned.of_below hB⟩
      · have h4 := List.length_pos_iff.2 h3
        exact writeAt_some g b cap l o vx x w h hx (hxb h4) (by omega) h4

def trE (n : Int) : Int := if inR n = false then 4 else 0
def trL (l : List UInt8) (n : Int) : List UInt8 := if inR n = false then l else trunc l n.toNat
theorem truncate_any (g b cap : Nat) (l : List UInt8) (n : Int) (w : World) (h : FileAt w g b cap l) :
    Calls Tryz.prog 203 #[.pointer (some ⟨g, 0, none⟩), .int .i64 n] w fun e w' => e = .returned (.int .i64 (trE n)) ∧ ∃ b' cap', FileAt w' g b' cap' (trL l n) ∧ (b' = b ∨ w.heap.size ≤ b') ∧ Turned (fun k => k = g ∨ k = b) w w' := by
  by_cases h1 : inR n = false
  · rw [trE, trL, if_pos h1, if_pos h1]
    refine (truncate_bad g b cap l n w h h1).mono ?_
    rintro e w' ⟨rfl, hB⟩
    exact ⟨rfl, b, cap, h.below hB, .inl rfl, Turned.of_below hB⟩
  · have h1' : inR n = true := by simpa using h1
    simp only [inR, decide_eq_true_eq] at h1'
    obtain ⟨o, rfl⟩ : ∃ o : Nat, n = o := ⟨n.toNat, by omega⟩
    rw [trE, trL, if_neg h1, if_neg h1, Int.toNat_natCast]
    exact truncate_good g b cap l o w h (by omega)

def Fi_rdE (off n : Int) : Int := if (inR off && inR n) = false then 4 else 0
def rdL (l : List UInt8) (off n : Int) : List UInt8 := if (inR off && inR n) = false then [] else piece l off.toNat n.toNat
theorem readAt_any (g b cap : Nat) (l : List UInt8) (off n : Int) (w : World) (h : FileAt w g b cap l) (hl : l.length ≤ 1048576) :
    Calls Tryz.prog 218 #[.pointer (some ⟨g, 0, none⟩), .int .i64 off, .int .i64 n] w fun e w' => ∃ v, e = .returned (.tuple #[v, .int .i64 (Fi_rdE off n)]) ∧ w'.ownsRow w.heap.size 5 1 v (rdL l off n).length ((rdL l off n).map bv) ∧ Below w.heap.size w w' := by
  by_cases h1 : (inR off && inR n) = false
  · rw [Fi_rdE, rdL, if_pos h1, if_pos h1]
    refine (readAt_bad g b cap l off n w h h1).mono ?_
    rintro e w' ⟨rfl, hB⟩
    exact ⟨_, rfl, World.ownsRow_nil _ _ _ _, hB⟩
  · have h1' : (inR off && inR n) = true := by simpa using h1
    simp only [Bool.and_eq_true, inR, decide_eq_true_eq] at h1'
    obtain ⟨o, rfl⟩ : ∃ o : Nat, off = o := ⟨off.toNat, by omega⟩
    obtain ⟨m, rfl⟩ : ∃ m : Nat, n = m := ⟨n.toNat, by omega⟩
    rw [Fi_rdE, rdL, if_neg h1, if_neg h1, Int.toNat_natCast, Int.toNat_natCast]
    refine (readAt_good g b cap l o m w h hl (by omega) (by omega)).mono ?_
    rintro e w' ⟨q, rfl, hown, hB⟩
    exact ⟨_, rfl, hown, hB⟩
end Go.Proofs.YtanbiinomagdbaaGreat

/- The reference of file: within, Piece, Lay. -/
namespace Go.Proofs.YtanbiinomagdbaaGreat
open Go.RowKit

theorem owns_len {W : World} {base e n : Nat} {v : Value} {xs : List Value} (h : W.ownsRow base e 1 v n xs) : W.ownsRow base e 1 v xs.length xs := by
  have := h.1
  rw [show xs.length = n by omega]
  exact h

set_option maxHeartbeats 1000000 in
theorem within_any (n : Int) (w : World) :
    Calls Tryz.prog 207 #[.int .i64 n] w fun e w' => e = .returned (.bool (inR n)) ∧ w' = w := by
  rcases (show n < 0 ∨ 1048576 < n ∨ (0 ≤ n ∧ n ≤ 1048576) by omega) with hx | hx | ⟨hx1, hx2⟩
  · rw [inR_no (by omega)]
    have hd : decide (0 ≤ n) = false := by simp; omega
    go_enter Tryz.func207, Tryz.ntmps207
    go_wp2
    go_ret
    exact ⟨rfl, rfl⟩
  · rw [inR_no (by omega)]
    have hd : decide (0 ≤ n) = true := by simp; omega
    have hd2 : decide (n ≤ 1048576) = false := by simp; omega
    go_enter Tryz.func207, Tryz.ntmps207
    go_wp2
    go_ret
    exact ⟨rfl, rfl⟩
  · rw [inR_yes (by omega) (by omega)]
    go_enter Tryz.func207, Tryz.ntmps207
    go_wp2
    go_ret
    exact ⟨rfl, rfl⟩

set_option maxRecDepth 100000 in
set_option maxHeartbeats 1000000 in
theorem piece_any (base : Nat) (u : Value) (l : List UInt8) (off n : Nat) (w : World) (h : w.ownsRow base 5 1 u l.length (l.map bv)) (hl : l.length ≤ 1048576) (ho : off ≤ 1048576) (hn : n ≤ 1048576) :
    Calls Tryz.prog 102 #[u, .int .i64 off, .int .i64 n] w fun e w' => ∃ v', e = .returned v' ∧ w'.ownsRow w.heap.size 5 1 v' (piece l off n).length ((piece l off n).map bv) ∧ Below w.heap.size w w' := by
  obtain ⟨i0, hi, hz0, hz1, hz2⟩ := info_parts Tryz.infoB
  by_cases hlt : off < l.length
  · obtain ⟨g, cap, rfl, hbg, hgl⟩ := h.form (by omega)
    have HR := hide (RowAt.of_owns h)
    have hcap := HR.out.len
    clear h
    have hd : decide ((l.length : Int) ≤ (off : Int)) = false := by simp; omega
    have HX : Hid (∀ j v, ((piece l off n).map bv)[j]? = some v → w.cell? ((⟨g, off, none⟩ : Addr).add j) = some v) := hide fun j v hj => by
      have hb := piece_bys HR.out off n off _ 0 rfl (.inr rfl)
      rcases hb with ⟨h0, _⟩ | ⟨a, c, h0, h1⟩ | ⟨b, o, c, h0, h1, h2⟩
      · cases h0
      · rw [h1] at hj; simp at hj
      · simp only [Value.slice.injEq, Option.some.injEq, Addr.mk.injEq] at h0
        obtain ⟨⟨rfl, rfl, -⟩, -, -⟩ := h0
        exact bys_news h2 j v hj
    have hpl := piece_len l off n
    have H1 := hide (bys_one (piece l off n))
    obtain ⟨X, hX⟩ : ∃ X, X = (piece l off n).map bv := ⟨_, rfl⟩
    have hXl : X.length = (piece l off n).length := by rw [hX]; simp
    rw [← hX] at HX H1
    have HE := hide hX
    have HPL := hide hpl
    have HXL := hide hXl
    clear hX hpl hXl
    have k1 : ¬ cap = off := by omega
    have k2 : (off : Int) < (cap : Int) := by omega
    by_cases hnn : n < l.length - off
    · go_enter Tryz.func102, Tryz.ntmps102
      go_wp2_with (at_builtin; refine wpList_append_own _ rfl _ _ 40 rfl w.heap.size 5 i0 (.int .u8 0) 1 1 Tryz.underlying40 hi hz0 hz1 hz2 rfl (by decide) _ _ _ rfl (World.ownsRow_nil _ _ _ _) ⟨g, off, none⟩ _ _ X rfl (by have := HPL.out; have := HXL.out; omega) HX.out H1.out (by unfold maxLen; omega) (by omega) (Nat.le_refl _) ?_; intro v' w1 hown hgrow hnil)
      all_goals
        go_ret
        refine ⟨v', rfl, ?_, (Below.refl _ _).grown hgrow (Nat.le_refl _) (fun j e => by cases e)⟩
        have h2 := owns_len hown
        rw [List.nil_append] at h2
        rw [← HE.out, ← HXL.out]
        exact h2
    · go_enter Tryz.func102, Tryz.ntmps102
      go_wp2_with (at_builtin; refine wpList_append_own _ rfl _ _ 40 rfl w.heap.size 5 i0 (.int .u8 0) 1 1 Tryz.underlying40 hi hz0 hz1 hz2 rfl (by decide) _ _ _ rfl (World.ownsRow_nil _ _ _ _) ⟨g, off, none⟩ _ _ X rfl (by have := HPL.out; have := HXL.out; omega) HX.out H1.out (by unfold maxLen; omega) (by omega) (Nat.le_refl _) ?_; intro v' w1 hown hgrow hnil)
      all_goals
        go_ret
        refine ⟨v', rfl, ?_, (Below.refl _ _).grown hgrow (Nat.le_refl _) (fun j e => by cases e)⟩
        have h2 := owns_len hown
        rw [List.nil_append] at h2
        rw [← HE.out, ← HXL.out]
        exact h2
  · have hp : piece l off n = [] := List.length_eq_zero_iff.1 (by rw [piece_len]; omega)
    rw [hp]
    obtain ⟨a, c, rfl⟩ := owns_slice h
    clear h
    have hd : decide ((l.length : Int) ≤ (off : Int)) = true := by simp; omega
    go_enter Tryz.func102, Tryz.ntmps102
    go_wp2
    all_goals first
      | (exfalso; omega)
      | (go_ret; exact ⟨_, rfl, World.ownsRow_nil _ _ _ _, Below.refl _ _⟩)

def rlay (l : List UInt8) (off : Nat) (x : List UInt8) : List UInt8 := (grow l off).take off ++ (x ++ (grow l off).drop (off + x.length))
theorem rlay_len (l : List UInt8) (off : Nat) (x : List UInt8) : (rlay l off x).length = max (max l.length off) (off + x.length) := by
  have := grow_len l off
  simp only [rlay, List.length_append, List.length_take, List.length_drop]
  omega
theorem rlay_nil (l : List UInt8) (off : Nat) : rlay l off [] = grow l off := by simp [rlay]
theorem grow_drop (l : List UInt8) (n m : Nat) (h : n ≤ m) : (grow l n).drop m = l.drop m := by
  by_cases hn : n ≤ l.length
  · rw [grow_no hn]
  · rw [List.drop_of_length_le (by rw [grow_len]; omega), List.drop_of_length_le (by omega)]
theorem grow_take (l : List UInt8) (n m : Nat) (h : m ≤ n) : (grow l n).take m = (grow l m).take m := by
  apply List.ext_getElem?
  intro j
  rw [List.getElem?_take, List.getElem?_take]
  split
  · rename_i hj
    simp only [grow]
    by_cases hl : j < l.length
    · rw [List.getElem?_append_left hl, List.getElem?_append_left hl]
    · rw [List.getElem?_append_right (by omega), List.getElem?_append_right (by omega), List.getElem?_replicate, List.getElem?_replicate, if_pos (by omega), if_pos (by omega)]
  · rfl
theorem lay_rlay (l : List UInt8) (off : Nat) (x : List UInt8) (h : x ≠ []) : lay l off x = rlay l off x := by
  rw [lay, if_neg h, rlay, grow_take l _ off (by omega), grow_drop _ _ _ (Nat.le_refl _), grow_drop _ _ _ (by omega)]
theorem grow_succ (l : List UInt8) (n : Nat) (h : l.length ≤ n) : grow l n ++ [0] = grow l (n + 1) := by
  simp only [grow]
  rw [show n + 1 - l.length = (n - l.length) + 1 by omega, List.replicate_succ', List.append_assoc]
theorem rlay_step (l : List UInt8) (off : Nat) (x : List UInt8) (k : Nat) (hk : k < x.length) (h1 : off + k < (rlay l off (x.take k)).length) : (rlay l off (x.take k)).set (off + k) x[k] = rlay l off (x.take (k + 1)) := by
  have hg := grow_len l off
  have hl := rlay_len l off (x.take k)
  have hl2 := rlay_len l off (x.take (k + 1))
  simp only [List.length_take] at hl hl2
  have hpre : ((grow l off).take off).length = off := by rw [List.length_take]; omega
  have hk' : (x.take k).length = k := by simp; omega
  have hk2 : (x.take (k + 1)).length = k + 1 := by simp; omega
  have hlt : off + k < (grow l off).length := by omega
  rw [rlay, rlay, hk', hk2, List.drop_eq_getElem_cons hlt, List.set_append_right _ _ (by omega), hpre, List.set_append_right _ _ (by omega), hk', Nat.add_sub_cancel_left, Nat.sub_self, List.set_cons_zero, List.take_succ_eq_append_getElem hk, List.append_assoc, Nat.add_assoc]
  rfl
theorem rlay_more (l : List UInt8) (off : Nat) (x : List UInt8) (k : Nat) (hk : k < x.length) (h1 : (rlay l off (x.take k)).length = off + k) : rlay l off (x.take k) ++ [x[k]] = rlay l off (x.take (k + 1)) := by
  have hl := rlay_len l off (x.take k)
  simp only [List.length_take] at hl
  have hg := grow_len l off
  rw [rlay, rlay, List.drop_of_length_le (by simp; omega), List.drop_of_length_le (by simp; omega), List.append_nil, List.append_nil, List.append_assoc, ← List.take_succ_eq_append_getElem hk]

theorem lay_turn {S : Nat → Prop} {w wr w1 : World} {o : Obj} {vb : Option Nat} (hT : Turned S w wr) (hg : (wr.alloc o).grownBy w1 vb) (hv : ∀ k, vb = some k → S k ∨ w.heap.size ≤ k) : Turned S w w1 := by
  refine hT.trans (S' := fun k => vb = some k) ⟨hg.os, hg.tape, hg.output, Nat.le_trans (by simp) hg.size, fun k hk hn => ?_⟩ (fun k hk e => (hv k e).resolve_right (by omega))
  exact (hg.block k (by simp; omega) (fun e => hn e.symm)).trans (Below.heap_alloc _ _ _ hk)
theorem map_set_bv (l : List UInt8) (j : Nat) (c : UInt8) : (l.map bv).set j (bv c) = (l.set j c).map bv := by rw [List.map_set]
theorem set_turn {S : Nat → Prop} {w wr : World} {g j : Nat} {u : Value} (hT : Turned S w wr) (hg : S g ∨ w.heap.size ≤ g) : Turned S w (wr.setCell ⟨g, j, none⟩ u) := by
  refine hT.trans (S' := fun k => k = g) ⟨rfl, rfl, rfl, by simp [World.setCell], fun k hk hn => Below.heap_setCell _ _ _ _ hn⟩ (fun k hk e => by subst e; exact hg.resolve_right (by omega))

set_option maxRecDepth 100000 in
set_option maxHeartbeats 2000000 in
theorem lay_any (base : Nat) (u vx : Value) (l x : List UInt8) (off : Nat) (w : World) (h : w.ownsRow base 5 1 u l.length (l.map bv)) (hx : Bys w vx x) (hux : 0 < x.length → ∀ k, vx.ownBlock = some k → u.ownBlock ≠ some k) (hl : l.length ≤ 1048576) (ho : off + x.length ≤ 1048576) (hb : base ≤ w.heap.size) :
    Calls Tryz.prog 104 #[u, .int .i64 off, vx] w fun e w' => ∃ u', e = .returned u' ∧ w'.ownsRow base 5 1 u' (rlay l off x).length ((rlay l off x).map bv) ∧ (∀ k, u'.ownBlock = some k → u.ownBlock = some k ∨ w.heap.size ≤ k) ∧ Turned (fun k => u.ownBlock = some k) w w' := by
  obtain ⟨i0, hi, hz0, hz1, hz2⟩ := info_parts Tryz.infoB
  have HX := hide hx
  have HU := hide hux
  have HO := hide h
  obtain ⟨a1, c1, rfl, -⟩ := bys_form hx
  obtain ⟨ua, uc, rfl⟩ := owns_slice h
  clear h hx hux
  go_enter Tryz.func104, Tryz.ntmps104
  go_wp2
  go_loopw [0] (fun v wr => ∃ m : List UInt8, Hid (m = l ∨ ∃ n, m = grow l n ∧ l.length ≤ n ∧ n ≤ off) ∧ m.length ≤ 1048576 ∧ wr.ownsRow base 5 1 v m.length (m.map bv) ∧ Hid (∀ k, v.ownBlock = some k → (Value.slice ua l.length uc).ownBlock = some k ∨ w.heap.size ≤ k) ∧ Turned (fun k => (Value.slice ua l.length uc).ownBlock = some k) w wr) (fun v _ => match v with | .slice _ n _ => off - n | _ => 0)
  case atStart => exact ⟨l, .inl rfl, hl, HO.out, fun k hk => .inl hk, Turned.refl _ _⟩
  case round =>
    clear HO
    obtain ⟨m, HM, hml, hown, HV, hT⟩ := hrel
    obtain ⟨va, vc, rfl⟩ := owns_slice hown
    have HO := hide hown
    have HT := hide hT
    have hsz := hT.size
    clear hown hT
    by_cases hlt : m.length < off
    · go_wp2_with (at_builtin; refine wpList_append_lies _ rfl _ _ 40 rfl base 5 i0 (.int .u8 0) 1 1 Tryz.underlying40 hi hz0 hz1 hz2 rfl (by decide) _ _ _ rfl (HO.out.alloc _) ⟨wr.heap.size, 0, none⟩ 1 1 [.int .u8 0] rfl rfl (cell_one_new _ _ _) (by simp [Value.oneCell']) (by decide) (by unfold maxLen; omega) (by omega) (by simp; omega) (wr.heap.size + 1) (by simp) ?_; intro g1 cap1 w1 hown1 hgrow1 hg1 hg2)
      go_roundw
      case rel =>
        have hv := HV.out
        refine ⟨m ++ [0], hide ?_, by simp; omega, by simpa [bv] using hown1, hide ?_, lay_turn HT.out hgrow1 (fun k e => hv k e)⟩
        · rcases HM.out with rfl | ⟨n, rfl, h1, h2⟩
          · exact .inr ⟨m.length + 1, by rw [← grow_succ _ _ (Nat.le_refl _), grow_no (Nat.le_refl _)], by omega, by omega⟩
          · rw [grow_len] at hlt
            exact .inr ⟨n + 1, grow_succ _ _ h1, by omega, by omega⟩
        · intro k hk
          obtain rfl : g1 = k := by simpa [Value.ownBlock] using hk
          rcases hg1 with h | h
          · exact hv _ h
          · right; omega
      case measure => simp; omega
    · have hme : m = grow l off := by
        rcases HM.out with rfl | ⟨n, rfl, h1, h2⟩
        · rw [grow_no (by omega)]
        · rw [grow_len] at hlt
          rw [show n = off by omega]
      have HE := hide hme
      clear hme HM
      go_wp2
      go_loopw [0, 7] (fun v i wr => ∃ k : Nat, k ≤ x.length ∧ i = .int .i64 k ∧ wr.ownsRow base 5 1 v (rlay l off (x.take k)).length ((rlay l off (x.take k)).map bv) ∧ Hid (∀ k, v.ownBlock = some k → (Value.slice ua l.length uc).ownBlock = some k ∨ w.heap.size ≤ k) ∧ Turned (fun k => (Value.slice ua l.length uc).ownBlock = some k) w wr) (fun _ i _ => x.length - (intOf i).toNat)
      case atStart => exact ⟨0, Nat.zero_le _, rfl, by rw [List.take_zero, rlay_nil, ← HE.out]; exact HO.out, HV, HT.out⟩
      case round =>
        clear HO HT HV HE hsz
        obtain ⟨k, hk, rfl, hown, HV, hT⟩ := hrel
        have hsz := hT.size
        have hrl := rlay_len l off (x.take k)
        have hk' : (x.take k).length = k := by simp; omega
        rw [hk'] at hrl
        have HE : Hid (k = x.length → rlay l off (x.take k) = rlay l off x) := hide fun e => by rw [e, List.take_length]
        have HS : Hid (∀ hlt : k < x.length, off + k < (rlay l off (x.take k)).length → (rlay l off (x.take k)).set (off + k) x[k] = rlay l off (x.take (k + 1))) := hide fun hlt => rlay_step l off x k hlt
        have HM : Hid (∀ hlt : k < x.length, (rlay l off (x.take k)).length = off + k → rlay l off (x.take k) ++ [x[k]] = rlay l off (x.take (k + 1))) := hide fun hlt => rlay_more l off x k hlt
        generalize rlay l off (x.take k) = L at *
        have hLb : L.length ≤ 1048576 := by omega
        have hLo : off + k ≤ L.length := by omega
        clear hrl hk'
        obtain ⟨va, vc, rfl⟩ := owns_slice hown
        have HT := hide hT
        by_cases hlt : k < x.length
        · have g1 : ∃ b o, a1 = some ⟨b, o, none⟩ ∧ wr.cell? ⟨b, o + k, none⟩ = some (.int .u8 (x[k].toNat : Int)) := by
            obtain ⟨a', c', he, hc⟩ := bys_form HX.out
            cases he
            obtain ⟨b, o, rfl, hd⟩ := hc (by omega)
            refine ⟨b, o, rfl, ?_⟩
            have h1 := hd k hlt
            have h2 := World.block_lt_of_cell? w _ h1
            have h3 := (World.cell?_of_block (w := w) (a := ⟨b, o + k, none⟩) (hT.block b h2 (HU.out (by omega) b rfl))).trans h1
            rw [h3, List.getD_eq_getElem?_getD, List.getElem?_eq_getElem hlt]
            rfl
          obtain ⟨bx, ox, rfl, g1⟩ := g1
          have hk1 : (0 : Int) ≤ (k : Int) := by omega
          have hk2 : (k : Int) < (x.length : Int) := by omega
          have HS' := hide (HS.out hlt)
          have HM' := hide (HM.out hlt)
          clear hT HS HM HE
          generalize x[k] = c at *
          by_cases hin : off + k < L.length
          · obtain ⟨g, cap, he, hbg, hgl⟩ := hown.form (by omega)
            cases he
            have HO := hide hown
            have hc := hown.cellAt (off + k) (by omega)
            have hf := hown.frozenAt (off + k)
            rw [List.getElem?_eq_getElem (by simpa using hin)] at hc
            generalize (L.map bv)[off + k]'(by simpa using hin) = old at hc
            have hin1 : (off : Int) + (k : Int) < (L.length : Int) := by omega
            have hin0 : (0 : Int) ≤ (off : Int) + (k : Int) := by omega
            clear hown
            go_wp2
            go_roundw
            case rel =>
              obtain ⟨hst, hgr⟩ := HO.out.stored (off + k) (bv c)
              refine ⟨k + 1, by omega, by go_num, ?_, HV, set_turn HT.out (HV.out g rfl)⟩
              have e1 := HS'.out hin
              rw [map_set_bv] at hst
              rw [← e1, List.length_set]
              exact hst
            case measure => simp [intOf]; omega
          · have HO := hide hown
            clear hown
            go_wp2_with (at_builtin; refine wpList_append_lies _ rfl _ _ 40 rfl base 5 i0 (.int .u8 0) 1 1 Tryz.underlying40 hi hz0 hz1 hz2 rfl (by decide) _ _ _ rfl (HO.out.alloc _) ⟨wr.heap.size, 0, none⟩ 1 1 [.int .u8 (c.toNat : Int)] rfl rfl (cell_one_new _ _ _) (by simp [Value.oneCell']) (by decide) (by unfold maxLen; omega) (by omega) (by simp; omega) (wr.heap.size + 1) (by simp) ?_; intro g1 cap1 w1 hown1 hgrow1 hg1 hg2)
            go_roundw
            case rel =>
              have hv := HV.out
              refine ⟨k + 1, by omega, by go_num, ?_, hide ?_, lay_turn HT.out hgrow1 (fun k e => hv k e)⟩
              · rw [← HM'.out (by omega)]
                simpa [bv] using hown1
              · intro k hk
                obtain rfl : g1 = k := by simpa [Value.ownBlock] using hk
                rcases hg1 with h | h
                · exact hv _ h
                · right; omega
            case measure => simp [intOf]; omega
        · have HO := hide hown
          clear hown hT
          go_wp2
          go_ret
          have e1 := HE.out (by omega)
          rw [e1] at HO HV
          rw [e1]
          exact ⟨_, rfl, HO.out, HV.out, HT.out⟩
end Go.Proofs.YtanbiinomagdbaaGreat

/- The reference's file: New, ReadAt, WriteAt, Truncate. -/
namespace Go.Proofs.YtanbiinomagdbaaGreat
open Go.RowKit

structure RFileAt (W : World) (base r : Nat) (u : Value) (l : List UInt8) : Prop where
  data : W.cell? ⟨r, 0, none⟩ = some u
  soft : W.frozen? ⟨r, 0, none⟩ = false
  row : W.ownsRow base 5 1 u l.length (l.map bv)
  apart : u.ownBlock ≠ some r
theorem RFileAt.lt {W : World} {base r : Nat} {u : Value} {l : List UInt8} (h : RFileAt W base r u l) : r < W.heap.size := World.block_lt_of_cell? W _ h.data
theorem rnew_file {w w1 : World} {u : Value} {l : List UInt8} (hown : w1.ownsRow (w.heap.size + 1) 5 1 u l.length (l.map bv)) (hg : (w.alloc (Obj.cells #[Value.slice none 0 0] 245)).grownBy w1 none) :
    RFileAt (w1.setCell ⟨w.heap.size, 0, none⟩ u) (w.heap.size + 1) w.heap.size u l ∧ Below w.heap.size w (w1.setCell ⟨w.heap.size, 0, none⟩ u) := by
  have hsz := size_new w (Obj.cells #[Value.slice none 0 0] 245)
  have hgg := hg.block w.heap.size hsz (by simp)
  have hB : Below w.heap.size w w1 := ((Below.refl _ _).alloc (Nat.le_refl _) _).grown hg (Nat.le_of_lt hsz) (fun k e => by cases e)
  have hc : w1.cell? ⟨w.heap.size, 0, none⟩ = some (.slice none 0 0) := by
    rw [World.cell?_of_block (w := w.alloc (Obj.cells #[Value.slice none 0 0] 245)) hgg]
    simp only [World.cell?, heap_alloc_new]; rfl
  have hap : u.ownBlock ≠ some w.heap.size := fun e => by have := (hown.lt _ e).1; omega
  refine ⟨⟨World.cell?_setCell_same _ _ _ hc, ?_, owns_keep hown fun k hk => Below.heap_setCell _ _ _ _ (fun e => hap (by rw [hk, e])), hap⟩, hB.setCell (Nat.le_refl _) _⟩
  rw [World.frozen?_setCell, World.frozen?_of_block (w := w.alloc (Obj.cells #[Value.slice none 0 0] 245)) hgg]
  simp only [World.frozen?, heap_alloc_new]; rfl

set_option maxRecDepth 100000 in
set_option maxHeartbeats 1000000 in
theorem Fi_rnew_good (v : Value) (l : List UInt8) (w : World) (h : Bys w v l) (hl : l.length ≤ 1048576) :
    Calls Tryz.prog 135 #[v] w fun e w' => e = .returned (.tuple #[.pointer (some ⟨w.heap.size, 0, none⟩), .int .i64 0]) ∧ (∃ u, RFileAt w' (w.heap.size + 1) w.heap.size u l) ∧ Below w.heap.size w w' := by
  obtain ⟨i0, hi, hz0, hz1, hz2⟩ := info_parts Tryz.infoB
  have hd : decide ((1048576 : Int) < (l.length : Int)) = false := by simp; omega
  have hBa : Below w.heap.size w (w.alloc (Obj.cells #[Value.slice none 0 0] 245)) := (Below.refl _ _).alloc (Nat.le_refl _) _
  have hc0 : (w.alloc (Obj.cells #[Value.slice none 0 0] 245)).cell? ⟨w.heap.size, 0, none⟩ = some (.slice none 0 0) := by simp only [World.cell?, heap_alloc_new]; rfl
  have hf0 : (w.alloc (Obj.cells #[Value.slice none 0 0] 245)).frozen? ⟨w.heap.size, 0, none⟩ = false := by simp only [World.frozen?, heap_alloc_new]; rfl
  have hsz := size_new w (Obj.cells #[Value.slice none 0 0] 245)
  rcases h with ⟨rfl, rfl⟩ | ⟨a, cap, rfl, rfl⟩ | ⟨b, off, cap, rfl, h0, hc⟩
  · go_enter Tryz.func135, Tryz.ntmps135
    go_wp2_with (at_builtin; refine wpList_append_own_none rfl _ _ 40 rfl w.heap.size 5 i0 1 Tryz.underlying40 hi _ _ _ rfl (World.ownsRow_nil _ _ _ _) rfl ?_)
    go_ret2
    exact ⟨rfl, ⟨_, hc0, hf0, World.ownsRow_nil _ _ _ _, by simp [Value.ownBlock]⟩, hBa⟩
  · go_enter Tryz.func135, Tryz.ntmps135
    go_wp2_with (at_builtin; refine wpList_append_own _ rfl _ _ 40 rfl (w.heap.size + 1) 5 i0 (.int .u8 0) 1 1 Tryz.underlying40 hi hz0 hz1 hz2 rfl (by decide) _ _ _ rfl (World.ownsRow_nil _ _ _ _) a 0 cap [] rfl rfl (by simp) (by simp) (by decide) (by decide) (by simp) ?_; intro v' w1 hown hgrow hnil; obtain ⟨a', c', rfl⟩ := owns_slice hown; have q1 := (hgrow.cell_far ⟨w.heap.size, 0, none⟩ hsz (by rintro ⟨⟩)).trans hc0; have q2 := (hgrow.frozen_far ⟨w.heap.size, 0, none⟩ hsz (by rintro ⟨⟩)).trans hf0)
    go_ret2
    obtain ⟨h1, h2⟩ := rnew_file (w := w) (l := []) hown hgrow
    exact ⟨rfl, ⟨_, h1⟩, h2⟩
  · have HN := hide (fun j u hj => (hBa.cell (World.block_lt_of_cell? w _ (bys_news hc j u hj))).trans (bys_news hc j u hj))
    clear hc
    go_enter Tryz.func135, Tryz.ntmps135
    go_wp2_with (at_builtin; refine wpList_append_own _ rfl _ _ 40 rfl (w.heap.size + 1) 5 i0 (.int .u8 0) 1 1 Tryz.underlying40 hi hz0 hz1 hz2 rfl (by decide) _ _ _ rfl (World.ownsRow_nil _ _ _ _) ⟨b, off, none⟩ l.length cap (l.map bv) rfl (by simp) HN.out (bys_one l) (by unfold maxLen; omega) (by omega) (by simp) ?_; intro v' w1 hown hgrow hnil; obtain ⟨a', c', rfl⟩ := owns_slice hown; have q1 := (hgrow.cell_far ⟨w.heap.size, 0, none⟩ hsz (by rintro ⟨⟩)).trans hc0; have q2 := (hgrow.frozen_far ⟨w.heap.size, 0, none⟩ hsz (by rintro ⟨⟩)).trans hf0)
    go_ret2
    obtain ⟨h1, h2⟩ := rnew_file (w := w) (l := l) (by simpa using hown) hgrow
    exact ⟨rfl, ⟨_, h1⟩, h2⟩

theorem rstore {w w1 : World} {base r : Nat} {u u' : Value} {l l' : List UInt8} (h : RFileAt w base r u l) (hown : w1.ownsRow base 5 1 u' l'.length (l'.map bv)) (hb : ∀ k, u'.ownBlock = some k → u.ownBlock = some k ∨ w.heap.size ≤ k) (hT : Turned (fun k => u.ownBlock = some k) w w1) :
    RFileAt (w1.setCell ⟨r, 0, none⟩ u') base r u' l' ∧ Turned (fun k => k = r ∨ u.ownBlock = some k) w (w1.setCell ⟨r, 0, none⟩ u') := by
  have hrl := h.lt
  have hgg := hT.block r hrl h.apart
  have hap : u'.ownBlock ≠ some r := fun e => by
    rcases hb r e with h1 | h1
    · exact h.apart h1
    · omega
  refine ⟨⟨World.cell?_setCell_same _ _ _ ((World.cell?_of_block (w := w) hgg).trans h.data), ?_, owns_keep hown fun k hk => Below.heap_setCell _ _ _ _ (fun e => hap (by rw [hk, e])), hap⟩, ?_⟩
  · rw [World.frozen?_setCell]
    exact (World.frozen?_of_block (w := w) hgg).trans h.soft
  · refine ⟨hT.os, hT.tape, hT.output, by simpa [World.setCell] using hT.size, fun k hk hn => ?_⟩
    rw [Below.heap_setCell _ _ _ _ (fun e => hn (.inl e))]
    exact hT.block k hk (fun e => hn (.inr e))

set_option maxRecDepth 100000 in
set_option maxHeartbeats 1000000 in
theorem rwriteAt_any (base r : Nat) (u : Value) (l : List UInt8) (off : Int) (vx : Value) (x : List UInt8) (w : World) (h : RFileAt w base r u l) (hx : Bys w vx x) (hux : 0 < x.length → ∀ k, vx.ownBlock = some k → u.ownBlock ≠ some k) (hl : l.length ≤ 1048576) (hb : base ≤ w.heap.size) :
    Calls Tryz.prog 161 #[.pointer (some ⟨r, 0, none⟩), .int .i64 off, vx] w fun e w' => e = .returned (.int .i64 (Fi_wrE off x.length)) ∧ ∃ u', RFileAt w' base r u' (wrL l off x) ∧ (∀ k, u'.ownBlock = some k → u.ownBlock = some k ∨ w.heap.size ≤ k) ∧ Turned (fun k => k = r ∨ u.ownBlock = some k) w w' := by
  have HF := hide h
  have HX := hide hx
  have HU := hide hux
  obtain ⟨a1, c1, rfl, -⟩ := bys_form hx
  have h1 := h.data
  have h2 := h.soft
  obtain ⟨ua, uc, rfl⟩ := owns_slice h.row
  clear h hx hux
  by_cases ho : inR off = false
  · have e1 : Fi_wrE off x.length = 4 := by unfold Fi_wrE; rw [if_pos ho]
    rw [wrL, e1, if_neg (by decide)]
    have HO := hide ho
    clear ho e1
    go_enter Tryz.func161, Tryz.ntmps161
    go_wp2_with fail
    refine (within_any _ _).mono ?_
    rintro e w1 ⟨rfl, rfl⟩
    rw [HO.out]
    go_wp2
    go_ret
    exact ⟨rfl, _, HF.out, fun k hk => .inl hk, Turned.refl _ _⟩
  · have ho1 : inR off = true := by simpa using ho
    have ho' := ho1
    simp only [inR, decide_eq_true_eq] at ho'
    obtain ⟨o, rfl⟩ : ∃ o : Nat, off = o := ⟨off.toNat, by omega⟩
    by_cases h3 : (1048576 : Int) < (o : Int) + (x.length : Nat)
    · have e1 : Fi_wrE o x.length = 31 := by unfold Fi_wrE; rw [if_neg ho, if_pos h3]
      rw [wrL, e1, if_neg (by decide)]
      have HO := hide ho1
      clear ho e1 ho1
      have hd : decide ((1048576 - (o : Int)) < (x.length : Int)) = true := by simp; omega
      go_enter Tryz.func161, Tryz.ntmps161
      go_wp2_with fail
      refine (within_any _ _).mono ?_
      rintro e w1 ⟨rfl, rfl⟩
      rw [HO.out]
      go_wp2
      all_goals first
        | (exfalso; omega)
        | (go_ret; exact ⟨rfl, _, HF.out, fun k hk => .inl hk, Turned.refl _ _⟩)
    · have e1 : Fi_wrE o x.length = 0 := by unfold Fi_wrE; rw [if_neg ho, if_neg h3]
      rw [wrL, e1, if_pos rfl, Int.toNat_natCast]
      have HO := hide ho1
      clear ho e1 ho1
      have hd : decide ((1048576 - (o : Int)) < (x.length : Int)) = false := by simp; omega
      by_cases h4 : x = []
      · subst h4
        rw [lay, if_pos rfl]
        go_enter Tryz.func161, Tryz.ntmps161
        go_wp2_with fail
        refine (within_any _ _).mono ?_
        rintro e w1 ⟨rfl, rfl⟩
        rw [HO.out]
        go_wp2
        all_goals first
          | (exfalso; omega)
          | (go_ret; exact ⟨rfl, _, HF.out, fun k hk => .inl hk, Turned.refl _ _⟩)
      · have hx0 := List.length_pos_iff.2 h4
        rw [lay_rlay _ _ _ h4]
        have hd2 : decide ((0 : Int) < (x.length : Int)) = true := by simp; omega
        clear h4
        go_enter Tryz.func161, Tryz.ntmps161
        go_wp2_with fail
        refine (within_any _ _).mono ?_
        rintro e w1 ⟨rfl, rfl⟩
        rw [HO.out]
        go_wp2_with fail
        refine (lay_any base _ _ l x o _ HF.out.row HX.out HU.out hl (by omega) hb).mono ?_
        rintro e w2 ⟨u', rfl, hown, hub, hT⟩
        obtain ⟨a', c', rfl⟩ := owns_slice hown
        have HOw := hide hown
        have HUB := hide hub
        have HT := hide hT
        have hgg := hT.block r HF.out.lt HF.out.apart
        have q1 := (World.cell?_of_block (w := w1) (a := ⟨r, 0, none⟩) hgg).trans HF.out.data
        have q2 := (World.frozen?_of_block (w := w1) (a := ⟨r, 0, none⟩) hgg).trans HF.out.soft
        clear hown hub hT hgg
        go_wp2
        go_ret
        obtain ⟨r1, r2⟩ := rstore HF.out HOw.out HUB.out HT.out
        exact ⟨rfl, _, r1, HUB.out, r2⟩
end Go.Proofs.YtanbiinomagdbaaGreat

/- The reference's Truncate. -/
namespace Go.Proofs.YtanbiinomagdbaaGreat
open Go.RowKit

end Go.Proofs.YtanbiinomagdbaaGreat

/- A terminal in memory: its lines, its screen, the blocks that are its own. -/
namespace Go.Proofs.YtanbiinomagdbaaGreat
open Go.RowKit

structure Term (W : World) (B t c : Nat) (O : Nat → Prop) (la : Option Addr) (lc : Nat) (s : Value) (ls : List (List UInt8)) (scr : List UInt8) : Prop where
  lines : W.cell? ⟨t, c, none⟩ = some (.slice la ls.length lc)
  screen : W.cell? ⟨t, c + 1, none⟩ = some s
  soft1 : W.frozen? ⟨t, c, none⟩ = false
  soft2 : W.frozen? ⟨t, c + 1, none⟩ = false
  cap : ls.length ≤ lc
  lo : ∀ k, (Value.slice la ls.length lc).ownBlock = some k → O k ∧ k ≠ t ∧ s.ownBlock ≠ some k
  row : 0 < ls.length → ∃ r off, la = some ⟨r, off, none⟩ ∧ ∀ j (hj : j < ls.length), W.frozen? ⟨r, off + j, none⟩ = false ∧ ∃ va vc, W.cell? ⟨r, off + j, none⟩ = some (.slice va ls[j].length vc) ∧ ls[j].length ≤ vc ∧ Bys W (.slice va ls[j].length vc) ls[j] ∧ ∀ k, (Value.slice va ls[j].length vc).ownBlock = some k → O k ∧ k ≠ t ∧ k ≠ r ∧ s.ownBlock ≠ some k
  scr : W.ownsRow B 5 1 s scr.length (scr.map bv)
  st : ∀ k, s.ownBlock = some k → O k ∧ k ≠ t
  ot : O t
  lt : ∀ k, O k → B ≤ k ∧ k < W.heap.size

theorem Term.keep {W W' : World} {B t c : Nat} {O : Nat → Prop} {la : Option Addr} {lc : Nat} {s : Value} {ls : List (List UInt8)} {scr : List UInt8} (h : Term W B t c O la lc s ls scr) (hk : ∀ k, O k → W'.heap[k]? = W.heap[k]?) (hs : W.heap.size ≤ W'.heap.size) : Term W' B t c O la lc s ls scr := by
  have ht := hk t h.ot
  refine ⟨(World.cell?_of_block (w := W) ht).trans h.lines, (World.cell?_of_block (w := W) ht).trans h.screen, (World.frozen?_of_block (w := W) ht).trans h.soft1, (World.frozen?_of_block (w := W) ht).trans h.soft2, h.cap, h.lo, fun h0 => ?_, owns_keep h.scr fun k e => hk k (h.st k e).1, h.st, h.ot, fun k e => ⟨(h.lt k e).1, Nat.lt_of_lt_of_le (h.lt k e).2 hs⟩⟩
  obtain ⟨r, off, rfl, hr⟩ := h.row h0
  have hro := hk r (h.lo r rfl).1
  refine ⟨r, off, rfl, fun j hj => ?_⟩
  obtain ⟨h1, va, vc, h2, h3, h4, h5⟩ := hr j hj
  exact ⟨(World.frozen?_of_block (w := W) hro).trans h1, va, vc, (World.cell?_of_block (w := W) hro).trans h2, h3, h4.keep fun k e _ => hk k (h5 k e).1, h5⟩
theorem Term.below {W W' : World} {B t c : Nat} {O : Nat → Prop} {la : Option Addr} {lc : Nat} {s : Value} {ls : List (List UInt8)} {scr : List UInt8} (h : Term W B t c O la lc s ls scr) (hB : Below W.heap.size W W') : Term W' B t c O la lc s ls scr :=
  h.keep (fun k e => hB.block k (h.lt k e).2) hB.size
theorem Term.written {w w1 : World} {B t c : Nat} {O : Nat → Prop} {la : Option Addr} {lc : Nat} {s s' : Value} {ls : List (List UInt8)} {scr scr' : List UInt8} (h : Term w B t c O la lc s ls scr)
    (hown : w1.ownsRow B 5 1 s' scr'.length (scr'.map bv)) (hg : w.grownBy w1 s.ownBlock) (hb : s'.ownBlock = s.ownBlock ∨ s'.ownBlock = some w.heap.size) :
    Term (w1.setCell ⟨t, c + 1, none⟩ s') B t c (fun k => O k ∨ s'.ownBlock = some k) la lc s' ls scr' ∧ Turned O w (w1.setCell ⟨t, c + 1, none⟩ s') := by
  have hO : ∀ k, O k → s.ownBlock ≠ some k → k ≠ t → (w1.setCell ⟨t, c + 1, none⟩ s').heap[k]? = w.heap[k]? := fun k hk hs ht =>
    (Below.heap_setCell _ _ _ _ ht).trans (hg.block k (h.lt k hk).2 (fun e => hs e.symm))
  have htt : w1.heap[t]? = w.heap[t]? := hg.block t (h.lt t h.ot).2 (fun e => (h.st t e.symm).2 rfl)
  have hc1 : w1.cell? ⟨t, c, none⟩ = some (.slice la ls.length lc) := (World.cell?_of_block (w := w) htt).trans h.lines
  have hc2 : w1.cell? ⟨t, c + 1, none⟩ = some s := (World.cell?_of_block (w := w) htt).trans h.screen
  have hne : ∀ k, O k → s.ownBlock ≠ some k → s'.ownBlock ≠ some k := fun k hk hs => by
    rcases hb with e | e
    · rw [e]; exact hs
    · rw [e]; intro e'; have := (h.lt k hk).2; cases e'; omega
  have hst : ∀ k, s'.ownBlock = some k → k ≠ t := fun k e => by
    rcases hb with e' | e'
    · rw [e'] at e; exact (h.st k e).2
    · rw [e'] at e; cases e; have := (h.lt t h.ot).2; omega
  refine ⟨⟨?_, World.cell?_setCell_same _ _ _ hc2, ?_, ?_, h.cap, fun k e => ?_, fun h0 => ?_, ?_, fun k e => ⟨.inr e, hst k e⟩, .inl h.ot, ?_⟩, ?_⟩
  · rw [World.cell?_setCell_other _ _ _ _ (by simp)]; exact hc1
  · rw [World.frozen?_setCell]; exact (World.frozen?_of_block (w := w) htt).trans h.soft1
  · rw [World.frozen?_setCell]; exact (World.frozen?_of_block (w := w) htt).trans h.soft2
  · obtain ⟨h1, h2, h3⟩ := h.lo k e
    exact ⟨.inl h1, h2, hne k h1 h3⟩
  · obtain ⟨r, off, rfl, hr⟩ := h.row h0
    obtain ⟨r1, r2, r3⟩ := h.lo r rfl
    have hrr := hO r r1 r3 r2
    refine ⟨r, off, rfl, fun j hj => ?_⟩
    obtain ⟨h1, va, vc, h2, h3, h4, h5⟩ := hr j hj
    refine ⟨(World.frozen?_of_block (w := w) hrr).trans h1, va, vc, (World.cell?_of_block (w := w) hrr).trans h2, h3, h4.keep fun k e _ => ?_, fun k e => ?_⟩
    · obtain ⟨q1, q2, q3, q4⟩ := h5 k e
      exact hO k q1 q4 q2
    · obtain ⟨q1, q2, q3, q4⟩ := h5 k e
      exact ⟨.inl q1, q2, q3, hne k q1 q4⟩
  · exact owns_keep hown fun k e => Below.heap_setCell _ _ _ _ (hst k e)
  · intro k e
    have hsz : (w1.setCell ⟨t, c + 1, none⟩ s').heap.size = w1.heap.size := by simp [World.setCell]
    rw [hsz]
    have := hg.size
    rcases e with e | e
    · have := h.lt k e; omega
    · exact hown.lt k e
  · exact ((Turned.refl O w).grown hg (fun k e => .inl (h.st k e).1)).set (.inl h.ot)

theorem Term.cut {w : World} {B t c : Nat} {O : Nat → Prop} {r off lc b o vc n : Nat} {s : Value} {l : List UInt8} {ls : List (List UInt8)} {scr : List UInt8} (h : Term w B t c O (some ⟨r, off, none⟩) lc s (l :: ls) scr)
    (hc : w.cell? ⟨r, off, none⟩ = some (.slice (some ⟨b, o, none⟩) l.length vc)) (hn : n < l.length) :
    Term (w.setCell ⟨r, off, none⟩ (.slice (some ⟨b, o + n, none⟩) (l.length - n) (vc - n))) B t c O (some ⟨r, off, none⟩) lc s (l.drop n :: ls) scr ∧ Turned O w (w.setCell ⟨r, off, none⟩ (.slice (some ⟨b, o + n, none⟩) (l.length - n) (vc - n))) := by
  obtain ⟨ro, rt, rs⟩ := h.lo r rfl
  have hO : ∀ k, k ≠ r → (w.setCell ⟨r, off, none⟩ (.slice (some ⟨b, o + n, none⟩) (l.length - n) (vc - n))).heap[k]? = w.heap[k]? := fun k hk => Below.heap_setCell _ _ _ _ hk
  have htt := hO t (Ne.symm rt)
  refine ⟨⟨(World.cell?_of_block (w := w) htt).trans h.lines, (World.cell?_of_block (w := w) htt).trans h.screen, (World.frozen?_of_block (w := w) htt).trans h.soft1, (World.frozen?_of_block (w := w) htt).trans h.soft2, h.cap, h.lo, fun _ => ⟨r, off, rfl, fun j hj => ?_⟩, owns_keep h.scr fun k e => hO k (fun e' => by rw [e'] at e; exact rs e), h.st, h.ot, fun k e => by simpa [World.setCell] using h.lt k e⟩, (Turned.refl O w).set (.inl ro)⟩
  obtain ⟨r', off', he, hr⟩ := h.row (by simp)
  cases he
  cases j with
  | zero =>
    obtain ⟨h1, va, vc', h2, h3, h4, h5⟩ := hr 0 (by simp)
    simp only [Nat.add_zero, List.getElem_cons_zero] at h1 h2 h3 h4 h5 ⊢
    rw [hc] at h2
    simp only [Option.some.injEq, Value.slice.injEq, true_and] at h2
    obtain ⟨rfl, rfl⟩ := h2
    have hl : (l.drop n).length = l.length - n := by simp
    refine ⟨by rw [World.frozen?_setCell]; exact h1, _, _, by rw [hl]; exact World.cell?_setCell_same _ _ _ hc, by omega, ?_, fun k e => h5 k e⟩
    have hb := bys_cut h4 n (l.length - n) (vc - n) (by omega)
    rw [List.take_of_length_le (by simp)] at hb
    rw [hl]
    exact hb.keep fun k e _ => hO k (h5 k e).2.2.1
  | succ j =>
    have hj' : j + 1 < (l :: ls).length := by simpa using hj
    obtain ⟨h1, va, vc', h2, h3, h4, h5⟩ := hr (j + 1) hj'
    simp only [List.getElem_cons_succ] at h1 h2 h3 h4 h5 ⊢
    refine ⟨by rw [World.frozen?_setCell]; exact h1, va, vc', ?_, h3, h4.keep fun k e _ => hO k (h5 k e).2.2.1, h5⟩
    rw [World.cell?_setCell_other _ _ _ _ (by simp)]
    exact h2

theorem Term.dropped {w w1 : World} {B t c : Nat} {O : Nat → Prop} {r off lc : Nat} {s : Value} {l : List UInt8} {ls : List (List UInt8)} {scr : List UInt8} (h : Term w B t c O (some ⟨r, off, none⟩) lc s (l :: ls) scr)
    (hsz : w1.heap.size = w.heap.size) (hos : w1.os = w.os) (hta : w1.tape = w.tape) (hou : w1.output = w.output) (hO : ∀ k, k ≠ r → w1.heap[k]? = w.heap[k]?) (hr : ∀ j, w1.frozen? ⟨r, off + (j + 1), none⟩ = w.frozen? ⟨r, off + (j + 1), none⟩ ∧ w1.cell? ⟨r, off + (j + 1), none⟩ = w.cell? ⟨r, off + (j + 1), none⟩)
    (la : Option Addr) (n' : Nat) (hla : la = some ⟨r, off + 1, none⟩ ∨ ls = [] ∧ la = some ⟨r, off, none⟩) (hn' : n' = ls.length) :
    Term (w1.setCell ⟨t, c, none⟩ (.slice la n' (lc - 1))) B t c O la (lc - 1) s ls scr ∧ Turned (fun k => k = t ∨ k = r) w (w1.setCell ⟨t, c, none⟩ (.slice la n' (lc - 1))) := by
  subst hn'
  obtain ⟨ro, rt, rs⟩ := h.lo r rfl
  have hT1 : Turned (fun k => k = t ∨ k = r) w w1 := ⟨hos, hta, hou, by omega, fun k hk hn => hO k (fun e => hn (.inr e))⟩
  have htt : w1.heap[t]? = w.heap[t]? := hO t (Ne.symm rt)
  have hc1 : w1.cell? ⟨t, c, none⟩ = some (.slice (some ⟨r, off, none⟩) (ls.length + 1) lc) := (World.cell?_of_block (w := w) htt).trans h.lines
  have hK : ∀ k, k ≠ r → k ≠ t → (w1.setCell ⟨t, c, none⟩ (.slice la ls.length (lc - 1))).heap[k]? = w.heap[k]? := fun k h1 h2 => (Below.heap_setCell _ _ _ _ h2).trans (hO k h1)
  have hblk : ∀ k, (Value.slice la ls.length (lc - 1)).ownBlock = some k → k = r := fun k e => by
    rcases hla with rfl | ⟨_, rfl⟩ <;> (simp only [Value.ownBlock, Option.some.injEq] at e; exact e.symm)
  have hcap := h.cap
  simp only [List.length_cons] at hcap
  refine ⟨⟨World.cell?_setCell_same _ _ _ hc1, ?_, ?_, ?_, by omega, fun k e => ?_, fun h0 => ?_, ?_, h.st, h.ot, fun k e => ?_⟩, hT1.set (.inl (.inl rfl))⟩
  · rw [World.cell?_setCell_other _ _ _ _ (by simp)]; exact (World.cell?_of_block (w := w) htt).trans h.screen
  · rw [World.frozen?_setCell]; exact (World.frozen?_of_block (w := w) htt).trans h.soft1
  · rw [World.frozen?_setCell]; exact (World.frozen?_of_block (w := w) htt).trans h.soft2
  · rw [hblk k e]; exact ⟨ro, rt, rs⟩
  · rcases hla with rfl | ⟨rfl, _⟩
    · obtain ⟨r', off', he, hrow⟩ := h.row (by simp)
      cases he
      refine ⟨r, off + 1, rfl, fun j hj => ?_⟩
      obtain ⟨h1, va, vc', h2, h3, h4, h5⟩ := hrow (j + 1) (by simpa using hj)
      simp only [List.getElem_cons_succ] at h1 h2 h3 h4 h5
      have e1 : off + 1 + j = off + (j + 1) := by omega
      rw [e1]
      refine ⟨by rw [World.frozen?_setCell, (hr j).1]; exact h1, va, vc', ?_, h3, h4.keep fun k e _ => hK k (h5 k e).2.2.1 (h5 k e).2.1, h5⟩
      rw [World.cell?_setCell_other _ _ _ _ (by simp), (hr j).2]
      exact h2
    · simp at h0
  · exact owns_keep h.scr fun k e => hK k (fun e' => by rw [e'] at e; exact rs e) (h.st k e).2
  · have := h.lt k e
    simpa [World.setCell, hsz] using this
end Go.Proofs.YtanbiinomagdbaaGreat

/- The small functions of terminal: isMade, copied, copiedLines, New, Left, Screen, Copy. -/
namespace Go.Proofs.YtanbiinomagdbaaGreat
open Go.RowKit

set_option maxHeartbeats 1000000 in
theorem Te_isMade_yes (g : Nat) (w : World) (h : w.cell? ⟨g, 0, none⟩ = some (.bool true)) :
    Calls Tryz.prog 214 #[.pointer (some ⟨g, 0, none⟩)] w fun e w' => e = .returned (.bool true) ∧ w' = w := by
  go_enter Tryz.func214, Tryz.ntmps214
  go_wp2
  go_ret
  exact ⟨rfl, rfl⟩
theorem Te_made_row {w w1 : World} {T n : Nat} {xs : List Value} (h : w1.ownsRow w.heap.size T 1 (.slice (some ⟨w.heap.size, 0, none⟩) n n) n xs) (hg : w.grownBy w1 none) :
    ∃ cur : List Value, cur.length = n ∧ Hid (w1.heap[w.heap.size]? = some (.cells cur.toArray T (0, 0))) ∧ Below w.heap.size w w1 := by
  refine (?_ : ∃ cur : List Value, cur.length = n ∧ w1.heap[w.heap.size]? = some (.cells cur.toArray T (0, 0)) ∧ Below w.heap.size w w1)
  rcases h.2 with ⟨h0, _⟩ | ⟨g, c, cur, h1, h2, h3, h4, h5, h6, h7⟩
  · cases h0
  · cases h1
    exact ⟨cur.toList, by rw [Array.length_toList]; omega, by rw [Array.toArray_toList]; exact h3, (Below.refl _ w).grown hg (Nat.le_refl _) (fun k e => by cases e)⟩
theorem Te_bys_src {w : World} {a1 : Option Addr} {n c1 : Nat} {l : List UInt8} {X : List Value} (h : Bys w (.slice a1 n c1) l) (hX : X = l.map bv) :
    0 < X.length → ∃ ad, a1 = some ad ∧ ∀ j v, X[j]? = some v → w.cell? (ad.add j) = some v := by
  intro h0
  obtain ⟨a, c, he, hc⟩ := bys_form h
  cases he
  obtain ⟨b, off, rfl, hd⟩ := hc (by rw [hX] at h0; simpa using h0)
  exact ⟨_, rfl, fun j v hj => bys_news hd j v (by rw [← hX]; exact hj)⟩

set_option maxRecDepth 100000 in
set_option maxHeartbeats 1000000 in
theorem Te_copied_any (v : Value) (l : List UInt8) (w : World) (h : Bys w v l) (hs : l.length ≤ 140737488351232) :
    Calls Tryz.prog 202 #[v] w fun e w' => e = .returned (.slice (some ⟨w.heap.size, 0, none⟩) l.length l.length) ∧ w'.ownsRow w.heap.size 5 1 (.slice (some ⟨w.heap.size, 0, none⟩) l.length l.length) l.length (l.map bv) ∧ Below w.heap.size w w' := by
  obtain ⟨i0, hi, hz0, hz1, hz2⟩ := info_parts Tryz.infoB
  obtain ⟨a1, c1, rfl, -⟩ := bys_form h
  have HC1 := hide h
  clear h
  have hsz : (Tryz.prog.info? 5).map (·.size) = some 1 := by rw [hi]; simp [hz1]
  obtain ⟨X, hX⟩ : ∃ X, X = l.map bv := ⟨_, rfl⟩
  have HX := hide hX
  have hXl : X.length = l.length := by rw [hX]; simp
  have H1 : Hid (∀ v ∈ X, v.oneCell' = true) := hide (by rw [hX]; exact bys_one l)
  clear hX
  go_enter Tryz.func202, Tryz.ntmps202
  go_wp2_with (at_make; refine wpList_make_full _ rfl _ _ 40 rfl w.heap.size 5 i0 (.int .u8 0) 1 Tryz.underlying40 hi hz0 hz1 _ _ _ _ l.length rfl rfl rfl rfl (by rw [hz2]; omega) (by unfold maxLen; omega) (Nat.le_refl _) ?_; intro w1 hown1 hgrow1; obtain ⟨cur, hcl, HR, hB1⟩ := Te_made_row hown1 hgrow1; clear hown1 hgrow1; obtain ⟨w2, hrun, HG2, hgr2⟩ := run_copy w1 3 (some ⟨w.heap.size, 0, none⟩) a1 l.length l.length l.length c1 w.heap.size 0 cur HR.out X (by rw [hXl]; simp) (fun h0 => ⟨rfl, Te_bys_src (HC1.out.below hB1) HX.out h0⟩) (by omega) H1.out)
  go_ret
  refine ⟨rfl, ⟨by simp, .inr ⟨w.heap.size, l.length, _, rfl, Nat.le_refl _, HG2.out, Nat.le_refl _, by unfold maxLen; omega, ?_, ?_⟩⟩, hB1.grown hgr2 hB1.size (fun k e => by cases e; exact Nat.le_refl _)⟩
  · have := length_splice cur 0 X (by omega)
    simp [this, hcl]
  · simp [splice, ← hcl, HX.out]
    rw [hcl, List.take_of_length_le (by simp)]

def LRow (W : World) (B r off : Nat) (ls : List (List UInt8)) : Prop :=
  ∀ j (hj : j < ls.length), W.frozen? ⟨r, off + j, none⟩ = false ∧ ∃ va vc, W.cell? ⟨r, off + j, none⟩ = some (.slice va ls[j].length vc) ∧ ls[j].length ≤ vc ∧ Bys W (.slice va ls[j].length vc) ls[j] ∧ ∀ k, (Value.slice va ls[j].length vc).ownBlock = some k → B ≤ k ∧ k ≠ r ∧ k < W.heap.size
theorem LRow.below {W W' : World} {B r off : Nat} {ls : List (List UInt8)} (h : LRow W B r off ls) (hB : Below W.heap.size W W') : LRow W' B r off ls := fun j hj => by
  obtain ⟨h1, va, vc, h2, h3, h4, h5⟩ := h j hj
  have hr := World.block_lt_of_cell? W _ h2
  exact ⟨(hB.frozen (p := ⟨r, off + j, none⟩) hr).trans h1, va, vc, (hB.cell (p := ⟨r, off + j, none⟩) hr).trans h2, h3, h4.below hB, fun k e => by have := h5 k e; have := hB.size; omega⟩
theorem LRow.stored {w1 : World} {B B' r k n : Nat} {ls : List (List UInt8)} {xs : List Value} (hcur : w1.ownsRow B' 40 1 (.slice (some ⟨r, 0, none⟩) n n) n xs) (hk : k < ls.length) (hn : ls.length = n) (h : LRow w1 B r 0 (ls.take k))
    (va : Option Addr) (vc : Nat) (hb : Bys w1 (.slice va ls[k].length vc) ls[k]) (hvc : ls[k].length ≤ vc) (hv : ∀ j, (Value.slice va ls[k].length vc).ownBlock = some j → B ≤ j ∧ j ≠ r ∧ j < w1.heap.size) :
    LRow (w1.setCell ⟨r, k, none⟩ (.slice va ls[k].length vc)) B r 0 (ls.take (k + 1)) ∧ ∃ xs' : List Value, (w1.setCell ⟨r, k, none⟩ (.slice va ls[k].length vc)).ownsRow B' 40 1 (.slice (some ⟨r, 0, none⟩) n n) n xs' := by
  have hxl : xs.length = n := by have := hcur.1; omega
  have hcell : w1.cell? ⟨r, k, none⟩ = some (xs[k]'(by omega)) := by
    rw [hcur.cellAt k (by omega), List.getElem?_eq_getElem]
  have hO : ∀ j, j ≠ r → (w1.setCell ⟨r, k, none⟩ (.slice va ls[k].length vc)).heap[j]? = w1.heap[j]? := fun j hj => Below.heap_setCell _ _ _ _ hj
  refine ⟨fun j hj => ?_, _, (hcur.stored k (.slice va ls[k].length vc)).1⟩
  have hj' : j < k + 1 := by simp at hj; omega
  by_cases hjk : j = k
  · subst hjk
    simp only [List.getElem_take, Nat.zero_add]
    refine ⟨by rw [World.frozen?_setCell]; exact hcur.frozenAt j, va, vc, World.cell?_setCell_same _ _ _ hcell, hvc, hb.keep fun i e _ => hO i (hv i e).2.1, fun i e => ?_⟩
    simpa [World.setCell] using hv i e
  · obtain ⟨h1, va', vc', h2, h3, h4, h5⟩ := h j (by simp; omega)
    simp only [List.getElem_take] at h1 h2 h3 h4 h5 ⊢
    refine ⟨by rw [World.frozen?_setCell]; exact h1, va', vc', by rw [World.cell?_setCell_other _ _ _ _ (by simp)]; exact h2, h3, h4.keep fun i e _ => hO i (h5 i e).2.1, fun i e => ?_⟩
    simpa [World.setCell] using h5 i e

set_option maxRecDepth 100000 in
set_option maxHeartbeats 2000000 in
theorem copiedLines_any (v : Value) (ls : List (List UInt8)) (w : World) (h : Lns w v ls) (hs : ls.length ≤ 256) (hs2 : ∀ j (hj : j < ls.length), ls[j].length ≤ 4096) :
    Calls Tryz.prog 132 #[v] w fun e w' => e = .returned (.slice (some ⟨w.heap.size, 0, none⟩) ls.length ls.length) ∧ LRow w' w.heap.size w.heap.size 0 ls ∧ w.heap.size < w'.heap.size ∧ Below w.heap.size w w' := by
  obtain ⟨i0, hi, hz0, hz1, hz2⟩ := info_parts Tryz.infoL
  have H0 := hide h
  obtain ⟨a1, c1, rfl⟩ := h.form
  have HS := hide hs2
  clear h hs2
  go_enter Tryz.func132, Tryz.ntmps132
  go_wp2_with (at_make; refine wpList_make_full _ rfl _ _ 48 rfl w.heap.size 40 i0 (.slice none 0 0) 1 Tryz.underlying48 hi hz0 hz1 _ _ _ _ ls.length rfl rfl rfl rfl (by rw [hz2]; omega) (by unfold maxLen; omega) (Nat.le_refl _) ?_; intro w1 hown1 hgrow1)
  have hB1 : Below w.heap.size w w1 := (Below.refl _ w).grown hgrow1 (Nat.le_refl _) (fun k e => by cases e)
  have HO1 := hide hown1
  clear hown1 hgrow1
  go_loopw [4, 5, 11] (fun _ _ i wr => ∃ (k : Nat) (xs : List Value), k ≤ ls.length ∧ i = .int .i64 k ∧ Hid (wr.ownsRow w.heap.size 40 1 (.slice (some ⟨w.heap.size, 0, none⟩) ls.length ls.length) ls.length xs) ∧ Hid (LRow wr w.heap.size w.heap.size 0 (ls.take k)) ∧ Below w.heap.size w wr) (fun _ _ i _ => ls.length - (intOf i).toNat)
  case atStart => exact ⟨0, _, Nat.zero_le _, rfl, HO1, fun j hj => by simp at hj, hB1⟩
  case round =>
    clear HO1 hB1
    obtain ⟨k, xs, hk, rfl, HO, HL, hB⟩ := hrel
    by_cases hlt : k < ls.length
    · obtain ⟨b, off, va, vc, rfl, hc, hby⟩ := H0.out.at k hlt
      have hbl := World.block_lt_of_cell? w _ hc
      have hc' := (hB.cell (p := ⟨b, off + k, none⟩) hbl).trans hc
      have hk1 : (0 : Int) ≤ (k : Int) := by omega
      have hk2 : (k : Int) < (ls.length : Int) := by omega
      have HBy := hide hby
      have hl4 := HS.out k hlt
      have hrw := (HO.out.lt w.heap.size rfl).2
      clear hc hby
      obtain ⟨L, hL⟩ : ∃ L, L = ls[k] := ⟨_, rfl⟩
      rw [← hL] at hc' HBy hl4
      have HLk := hide hL
      clear hL
      go_wp2_with fail
      refine (Te_copied_any _ L _ (HBy.out.below hB) (by omega)).mono ?_
      rintro e w2 ⟨rfl, hown2, hB2⟩
      have hB02 := hB.trans (hB2.mono hB.size)
      have HO2 := hide (owns_below HO.out hB2)
      have HL2 := hide (HL.out.below hB2)
      have HN := hide hown2
      have hsz := hB.size
      have hlt2 := (hown2.lt wr.heap.size rfl).2
      have hcell : ∃ u, w2.cell? ⟨w.heap.size, k, none⟩ = some u := ⟨_, by
        rw [HO2.out.cellAt k (by omega), List.getElem?_eq_getElem]
        have := HO2.out.1; omega⟩
      obtain ⟨u, hcell⟩ := hcell
      have hfr := HO2.out.frozenAt k
      clear hown2 HO HL
      go_wp2
      go_roundw
      case rel =>
        obtain ⟨r1, xs', r2⟩ := HL2.out.stored (k := k) HO2.out hlt rfl (some ⟨wr.heap.size, 0, none⟩) L.length (by rw [← HLk.out]; exact Bys.of_owns HN.out) (by rw [← HLk.out]; exact Nat.le_refl _) (fun j e => by cases e; dsimp only; omega)
        rw [← HLk.out] at r1 r2
        exact ⟨k + 1, xs', by omega, by go_num, r2, r1, hB02.setCell (p := ⟨w.heap.size, k, none⟩) (Nat.le_refl _) _⟩
      case measure => simp [intOf]; omega
    · have hke : k = ls.length := by omega
      go_wp2
      go_ret
      have := HL.out
      rw [hke, List.take_length] at this
      exact ⟨rfl, this, (HO.out.lt w.heap.size rfl).2, hB⟩
end Go.Proofs.YtanbiinomagdbaaGreat

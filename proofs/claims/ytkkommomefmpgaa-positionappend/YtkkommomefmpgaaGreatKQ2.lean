/- What the proof stands on, part 2: the contracts of the program's calls that it reaches. -/
import Derived.Test.YtkkommomefmpgaaGreatKQ1
import Derived.Lib.SlBytesConst
/- WriteAt. -/
namespace Go.Proofs.YtkkommomefmpgaaGreat
open Go.RowKit

def lay (l : List UInt8) (off : Nat) (x : List UInt8) : List UInt8 :=
  if x = [] then l else (grow l (off + x.length)).take off ++ (x ++ (grow l (off + x.length)).drop (off + x.length))
theorem lay_len (l : List UInt8) (off : Nat) (x : List UInt8) : (lay l off x).length = if x = [] then l.length else max l.length (off + x.length) := by
  unfold lay
  split
  · rfl
  · have := grow_len l (off + x.length)
    simp only [List.length_append, List.length_take, List.length_drop]
    omega

set_option maxRecDepth 100000 in
set_option maxHeartbeats 1000000 in
theorem writeAt_range (g b cap : Nat) (l : List UInt8) (off : Int) (vx : Value) (w : World) (h : FileAt w g b cap l) (hr : inR off = false) :
    Calls Tryz.prog 283 #[.pointer (some ⟨g, 0, none⟩), .int .i64 off, vx] w fun e w' => e = .returned (.int .i64 4) ∧ Below w.heap.size w w' := by
  have h1 := h.made
  clear h
  have HR : Hid (([off] : List Int).all inR = false) := hide (by simpa using hr)
  clear hr
  go_enter Tryz.func283, Tryz.ntmps283
  go_wp2_with fail
  refine (Fi_isMade_yes g w h1).mono ?_
  rintro e w1 ⟨rfl, rfl⟩
  go_wp2_with fail
  refine (inRange_any _ [off] _ (ints_one _ _) (by simp)).mono ?_
  rintro e w2 ⟨rfl, rfl⟩
  rw [HR.out]
  go_wp2
  go_ret
  exact ⟨rfl, (Below.refl _ _).alloc (Nat.le_refl _) _⟩

set_option maxRecDepth 100000 in
set_option maxHeartbeats 1000000 in
theorem writeAt_full (g b cap : Nat) (l : List UInt8) (off : Nat) (vx : Value) (x : List UInt8) (w : World) (h : FileAt w g b cap l) (hx : Bys w vx x) (ho : off ≤ 1048576) (hl : 1048576 < off + x.length) :
    Calls Tryz.prog 283 #[.pointer (some ⟨g, 0, none⟩), .int .i64 off, vx] w fun e w' => e = .returned (.int .i64 31) ∧ Below w.heap.size w w' := by
  have h1 := h.made
  obtain ⟨a1, c1, rfl, -⟩ := bys_form hx
  clear h hx
  have HR : Hid (([(off : Int)] : List Int).all inR = true) := hide (by simp [inR]; omega)
  have hd : decide ((1048576 - (off : Int)) < (x.length : Int)) = true := by simp; omega
  go_enter Tryz.func283, Tryz.ntmps283
  go_wp2_with fail
  refine (Fi_isMade_yes g w h1).mono ?_
  rintro e w1 ⟨rfl, rfl⟩
  go_wp2_with fail
  refine (inRange_any _ [(off : Int)] _ (ints_one _ _) (by simp)).mono ?_
  rintro e w2 ⟨rfl, rfl⟩
  rw [HR.out]
  go_wp2
  all_goals first
    | (exfalso; omega)
    | (go_ret; exact ⟨rfl, (Below.refl _ _).alloc (Nat.le_refl _) _⟩)

set_option maxRecDepth 100000 in
set_option maxHeartbeats 1000000 in
theorem writeAt_none (g b cap : Nat) (l : List UInt8) (off : Nat) (vx : Value) (w : World) (h : FileAt w g b cap l) (hx : Bys w vx []) (ho : off ≤ 1048576) :
    Calls Tryz.prog 283 #[.pointer (some ⟨g, 0, none⟩), .int .i64 off, vx] w fun e w' => e = .returned (.int .i64 0) ∧ Below w.heap.size w w' := by
  have h1 := h.made
  obtain ⟨a1, c1, rfl, -⟩ := bys_form hx
  clear h hx
  simp only [List.length_nil]
  have HR : Hid (([(off : Int)] : List Int).all inR = true) := hide (by simp [inR]; omega)
  have hd : decide ((1048576 - (off : Int)) < 0) = false := by simp; omega
  go_enter Tryz.func283, Tryz.ntmps283
  go_wp2_with fail
  refine (Fi_isMade_yes g w h1).mono ?_
  rintro e w1 ⟨rfl, rfl⟩
  go_wp2_with fail
  refine (inRange_any _ [(off : Int)] _ (ints_one _ _) (by simp)).mono ?_
  rintro e w2 ⟨rfl, rfl⟩
  rw [HR.out]
  go_wp2
  all_goals first
    | (exfalso; omega)
    | (go_ret; exact ⟨rfl, (Below.refl _ _).alloc (Nat.le_refl _) _⟩)

set_option maxRecDepth 100000 in
set_option maxHeartbeats 2000000 in
theorem writeAt_some (g b cap : Nat) (l : List UInt8) (off : Nat) (vx : Value) (x : List UInt8) (w : World) (h : FileAt w g b cap l) (hx : Bys w vx x) (hxb : ∀ k, vx.ownBlock = some k → k ≠ g ∧ k ≠ b) (hl : off + x.length ≤ 1048576) (hx0 : 0 < x.length) :
    Calls Tryz.prog 283 #[.pointer (some ⟨g, 0, none⟩), .int .i64 off, vx] w fun e w' => e = .returned (.int .i64 0) ∧ ∃ b' cap', FileAt w' g b' cap' (lay l off x) ∧ (b' = b ∨ w.heap.size ≤ b') ∧ Turned (fun k => k = g ∨ k = b) w w' := by
  have h1 := h.made
  have HF := hide h
  have HX := hide hx
  have HB := hide hxb
  obtain ⟨a1, c1, rfl, -⟩ := bys_form hx
  clear h hx hxb
  have HR : Hid (([(off : Int)] : List Int).all inR = true) := hide (by simp [inR]; omega)
  have hd : decide ((1048576 - (off : Int)) < (x.length : Int)) = false := by simp; omega
  have hd2 : ((x.length : Int) == 0) = false := by simp; intro e; rw [e] at hx0; simp at hx0
  go_enter Tryz.func283, Tryz.ntmps283
  go_wp2_with fail
  refine (Fi_isMade_yes g w h1).mono ?_
  rintro e w1 ⟨rfl, rfl⟩
  go_wp2_with fail
  refine (inRange_any _ [(off : Int)] _ (ints_one _ _) (by simp)).mono ?_
  rintro e w2 ⟨rfl, rfl⟩
  rw [HR.out]
  have hBa : Below w1.heap.size w1 (w1.alloc (Obj.cells #[.int .i64 (off : Int)] 3)) := (Below.refl _ _).alloc (Nat.le_refl _) _
  have HF2 := hide (HF.out.below hBa)
  have HX2 := hide (HX.out.below hBa)
  generalize w1.alloc (Obj.cells #[.int .i64 (off : Int)] 3) = w2 at *
  clear HF HR h1 HX
  go_wp2_with fail
  rw [show (off : Int) + (x.length : Int) = ((off + x.length : Nat) : Int) by omega]
  refine (growTo_any g b cap l (off + x.length) _ HF2.out hl).mono ?_
  rintro e w3 ⟨rfl, b', cap', hF3, hb3, hT3⟩
  have HX3 := hide (HX2.out.keep (W' := w3) fun k hk hlt => hT3.block k hlt (fun e => by have := HB.out k hk; omega))
  have hml := grow_len l (off + x.length)
  obtain ⟨m, hm⟩ : ∃ m, m = grow l (off + x.length) := ⟨_, rfl⟩
  rw [← hm] at hF3 hml
  have HM := hide hm
  have hml2 : off + x.length ≤ m.length := by omega
  clear hml
  have HF3 := hide hF3
  have h2 := hF3.data
  have h3 := hF3.row.len
  have h5 := hF3.row.lim
  obtain ⟨cur, hcur, hcl, hct⟩ := hF3.row.row
  have HCur := hide hcur
  have HCt := hide hct
  have hap := hF3.apart
  obtain ⟨X, hX⟩ : ∃ X, X = x.map bv := ⟨_, rfl⟩
  have HXe := hide hX
  have hXl : X.length = x.length := by rw [hX]; simp
  have H1 : Hid (∀ v ∈ X, v.oneCell' = true) := hide (by rw [hX]; exact bys_one x)
  obtain ⟨w4, hrun, HG4, hgr4⟩ := run_copy w3 3 (some ⟨b', off, none⟩) a1 (m.length - off) (cap' - off) x.length c1 b' off cur HCur.out X (by rw [hXl]; exact (Nat.min_eq_left (by omega)).symm) (fun h0 => ⟨rfl, Fi_bys_src HX3.out HXe.out h0⟩) (by omega) H1.out
  clear hm hF3 hcur hct hX HF2 HX2
  have k1 : (off : Int) < (cap' : Int) := by omega
  have k2 : (off : Int) ≤ (m.length : Int) := by omega
  have k3 : ¬ cap' = off := by omega
  go_wp2
  go_ret
  refine ⟨rfl, b', cap', ?_, ?_, ?_⟩
  · have hlay : lay l off x = m.take off ++ (x ++ m.drop (off + x.length)) := by rw [lay, if_neg (by intro e; rw [e] at hx0; simp at hx0), HM.out]
    have hrow := RowAt.laid (W' := w4) (b := b') (cap := cap') (l := m) (x := x) (off := off) hcl HCt.out h3 h5 hml2 (by rw [← HXe.out]; exact HG4.out)
    rw [← hlay] at hrow
    have hll : (lay l off x).length = m.length := by rw [hlay]; simp; omega
    have hgg := hgr4.block g HF3.out.lt (by intro e; cases e; exact hap rfl)
    refine ⟨(World.cell?_of_block (w := w3) hgg).trans HF3.out.made, ?_, (World.frozen?_of_block (w := w3) hgg).trans HF3.out.soft, hrow, hap⟩
    rw [hll]
    exact (World.cell?_of_block (w := w3) hgg).trans HF3.out.data
  · have := hBa.size; omega
  · have h1 : Turned (fun k => k = g ∨ k = b) w1 w3 := (Turned.of_below hBa).trans hT3 (fun k hk => id)
    have h2 : Turned (fun k => k = b') w3 w4 := ⟨hgr4.os, hgr4.tape, hgr4.output, hgr4.size, fun k hk hn => hgr4.block k hk (by intro e; cases e; exact hn rfl)⟩
    have := hBa.size
    exact h1.trans h2 (fun k hk e => by omega)

def Fi_wrE (off : Int) (n : Nat) : Int := if inR off = false then 4 else if 1048576 < off + n then 31 else 0
def wrL (l : List UInt8) (off : Int) (x : List UInt8) : List UInt8 := if Fi_wrE off x.length = 0 then lay l off.toNat x else l
theorem wrL_len {l : List UInt8} {off : Int} {x : List UInt8} (h : l.length ≤ 1048576) : (wrL l off x).length ≤ 1048576 := by
  unfold wrL Fi_wrE
  by_cases h1 : inR off = false
  · rw [if_pos h1, if_neg (by decide)]; exact h
  · rw [if_neg h1]
    by_cases h2 : (1048576 : Int) < off + (x.length : Nat)
    · rw [if_pos h2, if_neg (by decide)]; exact h
    · rw [if_neg h2, if_pos rfl, lay_len]
      have : inR off = true := by simpa using h1
      simp only [inR, decide_eq_true_eq] at this
      split <;> omega

theorem writeAt_any (g b cap : Nat) (l : List UInt8) (off : Int) (vx : Value) (x : List UInt8) (w : World) (h : FileAt w g b cap l) (hx : Bys w vx x) (hxb : 0 < x.length → ∀ k, vx.ownBlock = some k → k ≠ g ∧ k ≠ b) :
    Calls Tryz.prog 283 #[.pointer (some ⟨g, 0, none⟩), .int .i64 off, vx] w fun e w' => e = .returned (.int .i64 (Fi_wrE off x.length)) ∧ ∃ b' cap', FileAt w' g b' cap' (wrL l off x) ∧ (b' = b ∨ w.heap.size ≤ b') ∧ Turned (fun k => k = g ∨ k = b) w w' := by
  by_cases h1 : inR off = false
  · have e1 : Fi_wrE off x.length = 4 := by unfold Fi_wrE; rw [if_pos h1]
    rw [wrL, e1, if_neg (by decide)]
    refine (writeAt_range g b cap l off vx w h h1).mono ?_
    rintro e w' ⟨rfl, hB⟩
    exact ⟨rfl, b, cap, h.below hB, .inl rfl, Turned.of_below hB⟩
  · have h1' : inR off = true := by simpa using h1
    simp only [inR, decide_eq_true_eq] at h1'
    obtain ⟨o, rfl⟩ : ∃ o : Nat, off = o := ⟨off.toNat, by omega⟩
    by_cases h2 : (1048576 : Int) < (o : Int) + (x.length : Nat)
    · have e1 : Fi_wrE o x.length = 31 := by unfold Fi_wrE; rw [if_neg h1, if_pos h2]
      rw [wrL, e1, if_neg (by decide)]
      refine (writeAt_full g b cap l o vx x w h hx (by omega) (by omega)).mono ?_
      rintro e w' ⟨rfl, hB⟩
      exact ⟨rfl, b, cap, h.below hB, .inl rfl, Turned.of_below hB⟩
    · have e1 : Fi_wrE o x.length = 0 := by unfold Fi_wrE; rw [if_neg h1, if_neg h2]
      rw [wrL, e1, if_pos rfl, Int.toNat_natCast]
      by_cases h3 : x = []
      · subst h3
        refine (writeAt_none g b cap l o vx w h hx (by omega)).mono ?_
        rintro e w' ⟨rfl, hB⟩
        exact ⟨rfl, b, cap, h.below hB, .inl rfl, Turned.of_below hB⟩
      · have h4 := List.length_pos_iff.2 h3
        exact writeAt_some g b cap l o vx x w h hx (hxb h4) (by omega) h4

def trE (n : Int) : Int := if inR n = false then 4 else 0
def trL (l : List UInt8) (n : Int) : List UInt8 := if inR n = false then l else trunc l n.toNat
theorem truncate_any (g b cap : Nat) (l : List UInt8) (n : Int) (w : World) (h : FileAt w g b cap l) :
    Calls Tryz.prog 198 #[.pointer (some ⟨g, 0, none⟩), .int .i64 n] w fun e w' => e = .returned (.int .i64 (trE n)) ∧ ∃ b' cap', FileAt w' g b' cap' (trL l n) ∧ (b' = b ∨ w.heap.size ≤ b') ∧ Turned (fun k => k = g ∨ k = b) w w' := by
  by_cases h1 : inR n = false
  · rw [trE, trL, if_pos h1, if_pos h1]
    refine (truncate_bad g b cap l n w h h1).mono ?_
    rintro e w' ⟨rfl, hB⟩
    exact ⟨rfl, b, cap, h.below hB, .inl rfl, Turned.of_below hB⟩
  · have h1' : inR n = true := by simpa using h1
    simp only [inR, decide_eq_true_eq] at h1'
    obtain ⟨o, rfl⟩ : ∃ o : Nat, n = o := ⟨n.toNat, by omega⟩
    rw [trE, trL, if_neg h1, if_neg h1, Int.toNat_natCast]
    exact truncate_good g b cap l o w h (by omega)

def Fi_rdE (off n : Int) : Int := if (inR off && inR n) = false then 4 else 0
def rdL (l : List UInt8) (off n : Int) : List UInt8 := if (inR off && inR n) = false then [] else piece l off.toNat n.toNat
theorem readAt_any (g b cap : Nat) (l : List UInt8) (off n : Int) (w : World) (h : FileAt w g b cap l) (hl : l.length ≤ 1048576) :
    Calls Tryz.prog 282 #[.pointer (some ⟨g, 0, none⟩), .int .i64 off, .int .i64 n] w fun e w' => ∃ v, e = .returned (.tuple #[v, .int .i64 (Fi_rdE off n)]) ∧ w'.ownsRow w.heap.size 5 1 v (rdL l off n).length ((rdL l off n).map bv) ∧ Below w.heap.size w w' := by
  by_cases h1 : (inR off && inR n) = false
  · rw [Fi_rdE, rdL, if_pos h1, if_pos h1]
    refine (readAt_bad g b cap l off n w h h1).mono ?_
    rintro e w' ⟨rfl, hB⟩
    exact ⟨_, rfl, World.ownsRow_nil _ _ _ _, hB⟩
  · have h1' : (inR off && inR n) = true := by simpa using h1
    simp only [Bool.and_eq_true, inR, decide_eq_true_eq] at h1'
    obtain ⟨o, rfl⟩ : ∃ o : Nat, off = o := ⟨off.toNat, by omega⟩
    obtain ⟨m, rfl⟩ : ∃ m : Nat, n = m := ⟨n.toNat, by omega⟩
    rw [Fi_rdE, rdL, if_neg h1, if_neg h1, Int.toNat_natCast, Int.toNat_natCast]
    refine (readAt_good g b cap l o m w h hl (by omega) (by omega)).mono ?_
    rintro e w' ⟨q, rfl, hown, hB⟩
    exact ⟨_, rfl, hown, hB⟩
end Go.Proofs.YtkkommomefmpgaaGreat

/- The reference of file: within, Piece, Lay. -/
namespace Go.Proofs.YtkkommomefmpgaaGreat
open Go.RowKit

end Go.Proofs.YtkkommomefmpgaaGreat

/- The reference's file: New, ReadAt, WriteAt, Truncate. -/
namespace Go.Proofs.YtkkommomefmpgaaGreat
open Go.RowKit

structure RFileAt (W : World) (base r : Nat) (u : Value) (l : List UInt8) : Prop where
  data : W.cell? ⟨r, 0, none⟩ = some u
  soft : W.frozen? ⟨r, 0, none⟩ = false
  row : W.ownsRow base 5 1 u l.length (l.map bv)
  apart : u.ownBlock ≠ some r
theorem RFileAt.lt {W : World} {base r : Nat} {u : Value} {l : List UInt8} (h : RFileAt W base r u l) : r < W.heap.size := World.block_lt_of_cell? W _ h.data
theorem rnew_file {w w1 : World} {u : Value} {l : List UInt8} (hown : w1.ownsRow (w.heap.size + 1) 5 1 u l.length (l.map bv)) (hg : (w.alloc (Obj.cells #[Value.slice none 0 0] 236)).grownBy w1 none) :
    RFileAt (w1.setCell ⟨w.heap.size, 0, none⟩ u) (w.heap.size + 1) w.heap.size u l ∧ Below w.heap.size w (w1.setCell ⟨w.heap.size, 0, none⟩ u) := by
  have hsz := size_new w (Obj.cells #[Value.slice none 0 0] 236)
  have hgg := hg.block w.heap.size hsz (by simp)
  have hB : Below w.heap.size w w1 := ((Below.refl _ _).alloc (Nat.le_refl _) _).grown hg (Nat.le_of_lt hsz) (fun k e => by cases e)
  have hc : w1.cell? ⟨w.heap.size, 0, none⟩ = some (.slice none 0 0) := by
    rw [World.cell?_of_block (w := w.alloc (Obj.cells #[Value.slice none 0 0] 236)) hgg]
    simp only [World.cell?, heap_alloc_new]; rfl
  have hap : u.ownBlock ≠ some w.heap.size := fun e => by have := (hown.lt _ e).1; omega
  refine ⟨⟨World.cell?_setCell_same _ _ _ hc, ?_, owns_keep hown fun k hk => Below.heap_setCell _ _ _ _ (fun e => hap (by rw [hk, e])), hap⟩, hB.setCell (Nat.le_refl _) _⟩
  rw [World.frozen?_setCell, World.frozen?_of_block (w := w.alloc (Obj.cells #[Value.slice none 0 0] 236)) hgg]
  simp only [World.frozen?, heap_alloc_new]; rfl

set_option maxRecDepth 100000 in
set_option maxHeartbeats 1000000 in
theorem Fi_rnew_good (v : Value) (l : List UInt8) (w : World) (h : Bys w v l) (hl : l.length ≤ 1048576) :
    Calls Tryz.prog 126 #[v] w fun e w' => e = .returned (.tuple #[.pointer (some ⟨w.heap.size, 0, none⟩), .int .i64 0]) ∧ (∃ u, RFileAt w' (w.heap.size + 1) w.heap.size u l) ∧ Below w.heap.size w w' := by
  obtain ⟨i0, hi, hz0, hz1, hz2⟩ := info_parts Tryz.infoB
  have hd : decide ((1048576 : Int) < (l.length : Int)) = false := by simp; omega
  have hBa : Below w.heap.size w (w.alloc (Obj.cells #[Value.slice none 0 0] 236)) := (Below.refl _ _).alloc (Nat.le_refl _) _
  have hc0 : (w.alloc (Obj.cells #[Value.slice none 0 0] 236)).cell? ⟨w.heap.size, 0, none⟩ = some (.slice none 0 0) := by simp only [World.cell?, heap_alloc_new]; rfl
  have hf0 : (w.alloc (Obj.cells #[Value.slice none 0 0] 236)).frozen? ⟨w.heap.size, 0, none⟩ = false := by simp only [World.frozen?, heap_alloc_new]; rfl
  have hsz := size_new w (Obj.cells #[Value.slice none 0 0] 236)
  rcases h with ⟨rfl, rfl⟩ | ⟨a, cap, rfl, rfl⟩ | ⟨b, off, cap, rfl, h0, hc⟩
  · go_enter Tryz.func126, Tryz.ntmps126
    go_wp2_with (at_builtin; refine wpList_append_own_none rfl _ _ 40 rfl w.heap.size 5 i0 1 Tryz.underlying40 hi _ _ _ rfl (World.ownsRow_nil _ _ _ _) rfl ?_)
    go_ret2
    exact ⟨rfl, ⟨_, hc0, hf0, World.ownsRow_nil _ _ _ _, by simp [Value.ownBlock]⟩, hBa⟩
  · go_enter Tryz.func126, Tryz.ntmps126
    go_wp2_with (at_builtin; refine wpList_append_own _ rfl _ _ 40 rfl (w.heap.size + 1) 5 i0 (.int .u8 0) 1 1 Tryz.underlying40 hi hz0 hz1 hz2 rfl (by decide) _ _ _ rfl (World.ownsRow_nil _ _ _ _) a 0 cap [] rfl rfl (by simp) (by simp) (by decide) (by decide) (by simp) ?_; intro v' w1 hown hgrow hnil; obtain ⟨a', c', rfl⟩ := owns_slice hown; have q1 := (hgrow.cell_far ⟨w.heap.size, 0, none⟩ hsz (by rintro ⟨⟩)).trans hc0; have q2 := (hgrow.frozen_far ⟨w.heap.size, 0, none⟩ hsz (by rintro ⟨⟩)).trans hf0)
    go_ret2
    obtain ⟨h1, h2⟩ := rnew_file (w := w) (l := []) hown hgrow
    exact ⟨rfl, ⟨_, h1⟩, h2⟩
  · have HN := hide (fun j u hj => (hBa.cell (World.block_lt_of_cell? w _ (bys_news hc j u hj))).trans (bys_news hc j u hj))
    clear hc
    go_enter Tryz.func126, Tryz.ntmps126
    go_wp2_with (at_builtin; refine wpList_append_own _ rfl _ _ 40 rfl (w.heap.size + 1) 5 i0 (.int .u8 0) 1 1 Tryz.underlying40 hi hz0 hz1 hz2 rfl (by decide) _ _ _ rfl (World.ownsRow_nil _ _ _ _) ⟨b, off, none⟩ l.length cap (l.map bv) rfl (by simp) HN.out (bys_one l) (by unfold maxLen; omega) (by omega) (by simp) ?_; intro v' w1 hown hgrow hnil; obtain ⟨a', c', rfl⟩ := owns_slice hown; have q1 := (hgrow.cell_far ⟨w.heap.size, 0, none⟩ hsz (by rintro ⟨⟩)).trans hc0; have q2 := (hgrow.frozen_far ⟨w.heap.size, 0, none⟩ hsz (by rintro ⟨⟩)).trans hf0)
    go_ret2
    obtain ⟨h1, h2⟩ := rnew_file (w := w) (l := l) (by simpa using hown) hgrow
    exact ⟨rfl, ⟨_, h1⟩, h2⟩

end Go.Proofs.YtkkommomefmpgaaGreat

/- The reference's Truncate. -/
namespace Go.Proofs.YtkkommomefmpgaaGreat
open Go.RowKit

end Go.Proofs.YtkkommomefmpgaaGreat

/- A terminal in memory: its lines, its screen, the blocks that are its own. -/
namespace Go.Proofs.YtkkommomefmpgaaGreat
open Go.RowKit

structure Term (W : World) (B t c : Nat) (O : Nat → Prop) (la : Option Addr) (lc : Nat) (s : Value) (ls : List (List UInt8)) (scr : List UInt8) : Prop where
  lines : W.cell? ⟨t, c, none⟩ = some (.slice la ls.length lc)
  screen : W.cell? ⟨t, c + 1, none⟩ = some s
  soft1 : W.frozen? ⟨t, c, none⟩ = false
  soft2 : W.frozen? ⟨t, c + 1, none⟩ = false
  cap : ls.length ≤ lc
  lo : ∀ k, (Value.slice la ls.length lc).ownBlock = some k → O k ∧ k ≠ t ∧ s.ownBlock ≠ some k
  row : 0 < ls.length → ∃ r off, la = some ⟨r, off, none⟩ ∧ ∀ j (hj : j < ls.length), W.frozen? ⟨r, off + j, none⟩ = false ∧ ∃ va vc, W.cell? ⟨r, off + j, none⟩ = some (.slice va ls[j].length vc) ∧ ls[j].length ≤ vc ∧ Bys W (.slice va ls[j].length vc) ls[j] ∧ ∀ k, (Value.slice va ls[j].length vc).ownBlock = some k → O k ∧ k ≠ t ∧ k ≠ r ∧ s.ownBlock ≠ some k
  scr : W.ownsRow B 5 1 s scr.length (scr.map bv)
  st : ∀ k, s.ownBlock = some k → O k ∧ k ≠ t
  ot : O t
  lt : ∀ k, O k → B ≤ k ∧ k < W.heap.size

theorem Term.keep {W W' : World} {B t c : Nat} {O : Nat → Prop} {la : Option Addr} {lc : Nat} {s : Value} {ls : List (List UInt8)} {scr : List UInt8} (h : Term W B t c O la lc s ls scr) (hk : ∀ k, O k → W'.heap[k]? = W.heap[k]?) (hs : W.heap.size ≤ W'.heap.size) : Term W' B t c O la lc s ls scr := by
  have ht := hk t h.ot
  refine ⟨(World.cell?_of_block (w := W) ht).trans h.lines, (World.cell?_of_block (w := W) ht).trans h.screen, (World.frozen?_of_block (w := W) ht).trans h.soft1, (World.frozen?_of_block (w := W) ht).trans h.soft2, h.cap, h.lo, fun h0 => ?_, owns_keep h.scr fun k e => hk k (h.st k e).1, h.st, h.ot, fun k e => ⟨(h.lt k e).1, Nat.lt_of_lt_of_le (h.lt k e).2 hs⟩⟩
  obtain ⟨r, off, rfl, hr⟩ := h.row h0
  have hro := hk r (h.lo r rfl).1
  refine ⟨r, off, rfl, fun j hj => ?_⟩
  obtain ⟨h1, va, vc, h2, h3, h4, h5⟩ := hr j hj
  exact ⟨(World.frozen?_of_block (w := W) hro).trans h1, va, vc, (World.cell?_of_block (w := W) hro).trans h2, h3, h4.keep fun k e _ => hk k (h5 k e).1, h5⟩
theorem Term.below {W W' : World} {B t c : Nat} {O : Nat → Prop} {la : Option Addr} {lc : Nat} {s : Value} {ls : List (List UInt8)} {scr : List UInt8} (h : Term W B t c O la lc s ls scr) (hB : Below W.heap.size W W') : Term W' B t c O la lc s ls scr :=
  h.keep (fun k e => hB.block k (h.lt k e).2) hB.size
theorem Term.written {w w1 : World} {B t c : Nat} {O : Nat → Prop} {la : Option Addr} {lc : Nat} {s s' : Value} {ls : List (List UInt8)} {scr scr' : List UInt8} (h : Term w B t c O la lc s ls scr)
    (hown : w1.ownsRow B 5 1 s' scr'.length (scr'.map bv)) (hg : w.grownBy w1 s.ownBlock) (hb : s'.ownBlock = s.ownBlock ∨ s'.ownBlock = some w.heap.size) :
    Term (w1.setCell ⟨t, c + 1, none⟩ s') B t c (fun k => O k ∨ s'.ownBlock = some k) la lc s' ls scr' ∧ Turned O w (w1.setCell ⟨t, c + 1, none⟩ s') := by
  have hO : ∀ k, O k → s.ownBlock ≠ some k → k ≠ t → (w1.setCell ⟨t, c + 1, none⟩ s').heap[k]? = w.heap[k]? := fun k hk hs ht =>
    (Below.heap_setCell _ _ _ _ ht).trans (hg.block k (h.lt k hk).2 (fun e => hs e.symm))
  have htt : w1.heap[t]? = w.heap[t]? := hg.block t (h.lt t h.ot).2 (fun e => (h.st t e.symm).2 rfl)
  have hc1 : w1.cell? ⟨t, c, none⟩ = some (.slice la ls.length lc) := (World.cell?_of_block (w := w) htt).trans h.lines
  have hc2 : w1.cell? ⟨t, c + 1, none⟩ = some s := (World.cell?_of_block (w := w) htt).trans h.screen
  have hne : ∀ k, O k → s.ownBlock ≠ some k → s'.ownBlock ≠ some k := fun k hk hs => by
    rcases hb with e | e
    · rw [e]; exact hs
    · rw [e]; intro e'; have := (h.lt k hk).2; cases e'; omega
  have hst : ∀ k, s'.ownBlock = some k → k ≠ t := fun k e => by
    rcases hb with e' | e'
    · rw [e'] at e; exact (h.st k e).2
    · rw [e'] at e; cases e; have := (h.lt t h.ot).2; omega
  refine ⟨⟨?_, World.cell?_setCell_same _ _ _ hc2, ?_, ?_, h.cap, fun k e => ?_, fun h0 => ?_, ?_, fun k e => ⟨.inr e, hst k e⟩, .inl h.ot, ?_⟩, ?_⟩
  · rw [World.cell?_setCell_other _ _ _ _ (by simp)]; exact hc1
  · rw [World.frozen?_setCell]; exact (World.frozen?_of_block (w := w) htt).trans h.soft1
  · rw [World.frozen?_setCell]; exact (World.frozen?_of_block (w := w) htt).trans h.soft2
  · obtain ⟨h1, h2, h3⟩ := h.lo k e
    exact ⟨.inl h1, h2, hne k h1 h3⟩
  · obtain ⟨r, off, rfl, hr⟩ := h.row h0
    obtain ⟨r1, r2, r3⟩ := h.lo r rfl
    have hrr := hO r r1 r3 r2
    refine ⟨r, off, rfl, fun j hj => ?_⟩
    obtain ⟨h1, va, vc, h2, h3, h4, h5⟩ := hr j hj
    refine ⟨(World.frozen?_of_block (w := w) hrr).trans h1, va, vc, (World.cell?_of_block (w := w) hrr).trans h2, h3, h4.keep fun k e _ => ?_, fun k e => ?_⟩
    · obtain ⟨q1, q2, q3, q4⟩ := h5 k e
      exact hO k q1 q4 q2
    · obtain ⟨q1, q2, q3, q4⟩ := h5 k e
      exact ⟨.inl q1, q2, q3, hne k q1 q4⟩
  · exact owns_keep hown fun k e => Below.heap_setCell _ _ _ _ (hst k e)
  · intro k e
    have hsz : (w1.setCell ⟨t, c + 1, none⟩ s').heap.size = w1.heap.size := by simp [World.setCell]
    rw [hsz]
    have := hg.size
    rcases e with e | e
    · have := h.lt k e; omega
    · exact hown.lt k e
  · exact ((Turned.refl O w).grown hg (fun k e => .inl (h.st k e).1)).set (.inl h.ot)

theorem Term.cut {w : World} {B t c : Nat} {O : Nat → Prop} {r off lc b o vc n : Nat} {s : Value} {l : List UInt8} {ls : List (List UInt8)} {scr : List UInt8} (h : Term w B t c O (some ⟨r, off, none⟩) lc s (l :: ls) scr)
    (hc : w.cell? ⟨r, off, none⟩ = some (.slice (some ⟨b, o, none⟩) l.length vc)) (hn : n < l.length) :
    Term (w.setCell ⟨r, off, none⟩ (.slice (some ⟨b, o + n, none⟩) (l.length - n) (vc - n))) B t c O (some ⟨r, off, none⟩) lc s (l.drop n :: ls) scr ∧ Turned O w (w.setCell ⟨r, off, none⟩ (.slice (some ⟨b, o + n, none⟩) (l.length - n) (vc - n))) := by
  obtain ⟨ro, rt, rs⟩ := h.lo r rfl
  have hO : ∀ k, k ≠ r → (w.setCell ⟨r, off, none⟩ (.slice (some ⟨b, o + n, none⟩) (l.length - n) (vc - n))).heap[k]? = w.heap[k]? := fun k hk => Below.heap_setCell _ _ _ _ hk
  have htt := hO t (Ne.symm rt)
  refine ⟨⟨(World.cell?_of_block (w := w) htt).trans h.lines, (World.cell?_of_block (w := w) htt).trans h.screen, (World.frozen?_of_block (w := w) htt).trans h.soft1, (World.frozen?_of_block (w := w) htt).trans h.soft2, h.cap, h.lo, fun _ => ⟨r, off, rfl, fun j hj => ?_⟩, owns_keep h.scr fun k e => hO k (fun e' => by rw [e'] at e; exact rs e), h.st, h.ot, fun k e => by simpa [World.setCell] using h.lt k e⟩, (Turned.refl O w).set (.inl ro)⟩
  obtain ⟨r', off', he, hr⟩ := h.row (by simp)
  cases he
  cases j with
  | zero =>
    obtain ⟨h1, va, vc', h2, h3, h4, h5⟩ := hr 0 (by simp)
    simp only [Nat.add_zero, List.getElem_cons_zero] at h1 h2 h3 h4 h5 ⊢
    rw [hc] at h2
    simp only [Option.some.injEq, Value.slice.injEq, true_and] at h2
    obtain ⟨rfl, rfl⟩ := h2
    have hl : (l.drop n).length = l.length - n := by simp
    refine ⟨by rw [World.frozen?_setCell]; exact h1, _, _, by rw [hl]; exact World.cell?_setCell_same _ _ _ hc, by omega, ?_, fun k e => h5 k e⟩
    have hb := bys_cut h4 n (l.length - n) (vc - n) (by omega)
    rw [List.take_of_length_le (by simp)] at hb
    rw [hl]
    exact hb.keep fun k e _ => hO k (h5 k e).2.2.1
  | succ j =>
    have hj' : j + 1 < (l :: ls).length := by simpa using hj
    obtain ⟨h1, va, vc', h2, h3, h4, h5⟩ := hr (j + 1) hj'
    simp only [List.getElem_cons_succ] at h1 h2 h3 h4 h5 ⊢
    refine ⟨by rw [World.frozen?_setCell]; exact h1, va, vc', ?_, h3, h4.keep fun k e _ => hO k (h5 k e).2.2.1, h5⟩
    rw [World.cell?_setCell_other _ _ _ _ (by simp)]
    exact h2

theorem Term.dropped {w w1 : World} {B t c : Nat} {O : Nat → Prop} {r off lc : Nat} {s : Value} {l : List UInt8} {ls : List (List UInt8)} {scr : List UInt8} (h : Term w B t c O (some ⟨r, off, none⟩) lc s (l :: ls) scr)
    (hsz : w1.heap.size = w.heap.size) (hos : w1.os = w.os) (hta : w1.tape = w.tape) (hou : w1.output = w.output) (hO : ∀ k, k ≠ r → w1.heap[k]? = w.heap[k]?) (hr : ∀ j, w1.frozen? ⟨r, off + (j + 1), none⟩ = w.frozen? ⟨r, off + (j + 1), none⟩ ∧ w1.cell? ⟨r, off + (j + 1), none⟩ = w.cell? ⟨r, off + (j + 1), none⟩)
    (la : Option Addr) (n' : Nat) (hla : la = some ⟨r, off + 1, none⟩ ∨ ls = [] ∧ la = some ⟨r, off, none⟩) (hn' : n' = ls.length) :
    Term (w1.setCell ⟨t, c, none⟩ (.slice la n' (lc - 1))) B t c O la (lc - 1) s ls scr ∧ Turned (fun k => k = t ∨ k = r) w (w1.setCell ⟨t, c, none⟩ (.slice la n' (lc - 1))) := by
  subst hn'
  obtain ⟨ro, rt, rs⟩ := h.lo r rfl
  have hT1 : Turned (fun k => k = t ∨ k = r) w w1 := ⟨hos, hta, hou, by omega, fun k hk hn => hO k (fun e => hn (.inr e))⟩
  have htt : w1.heap[t]? = w.heap[t]? := hO t (Ne.symm rt)
  have hc1 : w1.cell? ⟨t, c, none⟩ = some (.slice (some ⟨r, off, none⟩) (ls.length + 1) lc) := (World.cell?_of_block (w := w) htt).trans h.lines
  have hK : ∀ k, k ≠ r → k ≠ t → (w1.setCell ⟨t, c, none⟩ (.slice la ls.length (lc - 1))).heap[k]? = w.heap[k]? := fun k h1 h2 => (Below.heap_setCell _ _ _ _ h2).trans (hO k h1)
  have hblk : ∀ k, (Value.slice la ls.length (lc - 1)).ownBlock = some k → k = r := fun k e => by
    rcases hla with rfl | ⟨_, rfl⟩ <;> (simp only [Value.ownBlock, Option.some.injEq] at e; exact e.symm)
  have hcap := h.cap
  simp only [List.length_cons] at hcap
  refine ⟨⟨World.cell?_setCell_same _ _ _ hc1, ?_, ?_, ?_, by omega, fun k e => ?_, fun h0 => ?_, ?_, h.st, h.ot, fun k e => ?_⟩, hT1.set (.inl (.inl rfl))⟩
  · rw [World.cell?_setCell_other _ _ _ _ (by simp)]; exact (World.cell?_of_block (w := w) htt).trans h.screen
  · rw [World.frozen?_setCell]; exact (World.frozen?_of_block (w := w) htt).trans h.soft1
  · rw [World.frozen?_setCell]; exact (World.frozen?_of_block (w := w) htt).trans h.soft2
  · rw [hblk k e]; exact ⟨ro, rt, rs⟩
  · rcases hla with rfl | ⟨rfl, _⟩
    · obtain ⟨r', off', he, hrow⟩ := h.row (by simp)
      cases he
      refine ⟨r, off + 1, rfl, fun j hj => ?_⟩
      obtain ⟨h1, va, vc', h2, h3, h4, h5⟩ := hrow (j + 1) (by simpa using hj)
      simp only [List.getElem_cons_succ] at h1 h2 h3 h4 h5
      have e1 : off + 1 + j = off + (j + 1) := by omega
      rw [e1]
      refine ⟨by rw [World.frozen?_setCell, (hr j).1]; exact h1, va, vc', ?_, h3, h4.keep fun k e _ => hK k (h5 k e).2.2.1 (h5 k e).2.1, h5⟩
      rw [World.cell?_setCell_other _ _ _ _ (by simp), (hr j).2]
      exact h2
    · simp at h0
  · exact owns_keep h.scr fun k e => hK k (fun e' => by rw [e'] at e; exact rs e) (h.st k e).2
  · have := h.lt k e
    simpa [World.setCell, hsz] using this
end Go.Proofs.YtkkommomefmpgaaGreat

/- The small functions of terminal: isMade, copied, copiedLines, New, Left, Screen, Copy. -/
namespace Go.Proofs.YtkkommomefmpgaaGreat
open Go.RowKit

set_option maxHeartbeats 1000000 in
theorem Te_isMade_yes (g : Nat) (w : World) (h : w.cell? ⟨g, 0, none⟩ = some (.bool true)) :
    Calls Tryz.prog 206 #[.pointer (some ⟨g, 0, none⟩)] w fun e w' => e = .returned (.bool true) ∧ w' = w := by
  go_enter Tryz.func206, Tryz.ntmps206
  go_wp2
  go_ret
  exact ⟨rfl, rfl⟩
theorem Te_made_row {w w1 : World} {T n : Nat} {xs : List Value} (h : w1.ownsRow w.heap.size T 1 (.slice (some ⟨w.heap.size, 0, none⟩) n n) n xs) (hg : w.grownBy w1 none) :
    ∃ cur : List Value, cur.length = n ∧ Hid (w1.heap[w.heap.size]? = some (.cells cur.toArray T (0, 0))) ∧ Below w.heap.size w w1 := by
  refine (?_ : ∃ cur : List Value, cur.length = n ∧ w1.heap[w.heap.size]? = some (.cells cur.toArray T (0, 0)) ∧ Below w.heap.size w w1)
  rcases h.2 with ⟨h0, _⟩ | ⟨g, c, cur, h1, h2, h3, h4, h5, h6, h7⟩
  · cases h0
  · cases h1
    exact ⟨cur.toList, by rw [Array.length_toList]; omega, by rw [Array.toArray_toList]; exact h3, (Below.refl _ w).grown hg (Nat.le_refl _) (fun k e => by cases e)⟩
theorem Te_bys_src {w : World} {a1 : Option Addr} {n c1 : Nat} {l : List UInt8} {X : List Value} (h : Bys w (.slice a1 n c1) l) (hX : X = l.map bv) :
    0 < X.length → ∃ ad, a1 = some ad ∧ ∀ j v, X[j]? = some v → w.cell? (ad.add j) = some v := by
  intro h0
  obtain ⟨a, c, he, hc⟩ := bys_form h
  cases he
  obtain ⟨b, off, rfl, hd⟩ := hc (by rw [hX] at h0; simpa using h0)
  exact ⟨_, rfl, fun j v hj => bys_news hd j v (by rw [← hX]; exact hj)⟩

set_option maxRecDepth 100000 in
set_option maxHeartbeats 1000000 in
theorem Te_copied_any (v : Value) (l : List UInt8) (w : World) (h : Bys w v l) (hs : l.length ≤ 140737488351232) :
    Calls Tryz.prog 197 #[v] w fun e w' => e = .returned (.slice (some ⟨w.heap.size, 0, none⟩) l.length l.length) ∧ w'.ownsRow w.heap.size 5 1 (.slice (some ⟨w.heap.size, 0, none⟩) l.length l.length) l.length (l.map bv) ∧ Below w.heap.size w w' := by
  obtain ⟨i0, hi, hz0, hz1, hz2⟩ := info_parts Tryz.infoB
  obtain ⟨a1, c1, rfl, -⟩ := bys_form h
  have HC1 := hide h
  clear h
  have hsz : (Tryz.prog.info? 5).map (·.size) = some 1 := by rw [hi]; simp [hz1]
  obtain ⟨X, hX⟩ : ∃ X, X = l.map bv := ⟨_, rfl⟩
  have HX := hide hX
  have hXl : X.length = l.length := by rw [hX]; simp
  have H1 : Hid (∀ v ∈ X, v.oneCell' = true) := hide (by rw [hX]; exact bys_one l)
  clear hX
  go_enter Tryz.func197, Tryz.ntmps197
  go_wp2_with (at_make; refine wpList_make_full _ rfl _ _ 40 rfl w.heap.size 5 i0 (.int .u8 0) 1 Tryz.underlying40 hi hz0 hz1 _ _ _ _ l.length rfl rfl rfl rfl (by rw [hz2]; omega) (by unfold maxLen; omega) (Nat.le_refl _) ?_; intro w1 hown1 hgrow1; obtain ⟨cur, hcl, HR, hB1⟩ := Te_made_row hown1 hgrow1; clear hown1 hgrow1; obtain ⟨w2, hrun, HG2, hgr2⟩ := run_copy w1 3 (some ⟨w.heap.size, 0, none⟩) a1 l.length l.length l.length c1 w.heap.size 0 cur HR.out X (by rw [hXl]; simp) (fun h0 => ⟨rfl, Te_bys_src (HC1.out.below hB1) HX.out h0⟩) (by omega) H1.out)
  go_ret
  refine ⟨rfl, ⟨by simp, .inr ⟨w.heap.size, l.length, _, rfl, Nat.le_refl _, HG2.out, Nat.le_refl _, by unfold maxLen; omega, ?_, ?_⟩⟩, hB1.grown hgr2 hB1.size (fun k e => by cases e; exact Nat.le_refl _)⟩
  · have := length_splice cur 0 X (by omega)
    simp [this, hcl]
  · simp [splice, ← hcl, HX.out]
    rw [hcl, List.take_of_length_le (by simp)]

def LRow (W : World) (B r off : Nat) (ls : List (List UInt8)) : Prop :=
  ∀ j (hj : j < ls.length), W.frozen? ⟨r, off + j, none⟩ = false ∧ ∃ va vc, W.cell? ⟨r, off + j, none⟩ = some (.slice va ls[j].length vc) ∧ ls[j].length ≤ vc ∧ Bys W (.slice va ls[j].length vc) ls[j] ∧ ∀ k, (Value.slice va ls[j].length vc).ownBlock = some k → B ≤ k ∧ k ≠ r ∧ k < W.heap.size
theorem LRow.below {W W' : World} {B r off : Nat} {ls : List (List UInt8)} (h : LRow W B r off ls) (hB : Below W.heap.size W W') : LRow W' B r off ls := fun j hj => by
  obtain ⟨h1, va, vc, h2, h3, h4, h5⟩ := h j hj
  have hr := World.block_lt_of_cell? W _ h2
  exact ⟨(hB.frozen (p := ⟨r, off + j, none⟩) hr).trans h1, va, vc, (hB.cell (p := ⟨r, off + j, none⟩) hr).trans h2, h3, h4.below hB, fun k e => by have := h5 k e; have := hB.size; omega⟩
theorem LRow.stored {w1 : World} {B B' r k n : Nat} {ls : List (List UInt8)} {xs : List Value} (hcur : w1.ownsRow B' 40 1 (.slice (some ⟨r, 0, none⟩) n n) n xs) (hk : k < ls.length) (hn : ls.length = n) (h : LRow w1 B r 0 (ls.take k))
    (va : Option Addr) (vc : Nat) (hb : Bys w1 (.slice va ls[k].length vc) ls[k]) (hvc : ls[k].length ≤ vc) (hv : ∀ j, (Value.slice va ls[k].length vc).ownBlock = some j → B ≤ j ∧ j ≠ r ∧ j < w1.heap.size) :
    LRow (w1.setCell ⟨r, k, none⟩ (.slice va ls[k].length vc)) B r 0 (ls.take (k + 1)) ∧ ∃ xs' : List Value, (w1.setCell ⟨r, k, none⟩ (.slice va ls[k].length vc)).ownsRow B' 40 1 (.slice (some ⟨r, 0, none⟩) n n) n xs' := by
  have hxl : xs.length = n := by have := hcur.1; omega
  have hcell : w1.cell? ⟨r, k, none⟩ = some (xs[k]'(by omega)) := by
    rw [hcur.cellAt k (by omega), List.getElem?_eq_getElem]
  have hO : ∀ j, j ≠ r → (w1.setCell ⟨r, k, none⟩ (.slice va ls[k].length vc)).heap[j]? = w1.heap[j]? := fun j hj => Below.heap_setCell _ _ _ _ hj
  refine ⟨fun j hj => ?_, _, (hcur.stored k (.slice va ls[k].length vc)).1⟩
  have hj' : j < k + 1 := by simp at hj; omega
  by_cases hjk : j = k
  · subst hjk
    simp only [List.getElem_take, Nat.zero_add]
    refine ⟨by rw [World.frozen?_setCell]; exact hcur.frozenAt j, va, vc, World.cell?_setCell_same _ _ _ hcell, hvc, hb.keep fun i e _ => hO i (hv i e).2.1, fun i e => ?_⟩
    simpa [World.setCell] using hv i e
  · obtain ⟨h1, va', vc', h2, h3, h4, h5⟩ := h j (by simp; omega)
    simp only [List.getElem_take] at h1 h2 h3 h4 h5 ⊢
    refine ⟨by rw [World.frozen?_setCell]; exact h1, va', vc', by rw [World.cell?_setCell_other _ _ _ _ (by simp)]; exact h2, h3, h4.keep fun i e _ => hO i (h5 i e).2.1, fun i e => ?_⟩
    simpa [World.setCell] using h5 i e

set_option maxRecDepth 100000 in
set_option maxHeartbeats 2000000 in
theorem copiedLines_any (v : Value) (ls : List (List UInt8)) (w : World) (h : Lns w v ls) (hs : ls.length ≤ 256) (hs2 : ∀ j (hj : j < ls.length), ls[j].length ≤ 4096) :
    Calls Tryz.prog 123 #[v] w fun e w' => e = .returned (.slice (some ⟨w.heap.size, 0, none⟩) ls.length ls.length) ∧ LRow w' w.heap.size w.heap.size 0 ls ∧ w.heap.size < w'.heap.size ∧ Below w.heap.size w w' := by
  obtain ⟨i0, hi, hz0, hz1, hz2⟩ := info_parts Tryz.infoL
  have H0 := hide h
  obtain ⟨a1, c1, rfl⟩ := h.form
  have HS := hide hs2
  clear h hs2
  go_enter Tryz.func123, Tryz.ntmps123
  go_wp2_with (at_make; refine wpList_make_full _ rfl _ _ 48 rfl w.heap.size 40 i0 (.slice none 0 0) 1 Tryz.underlying48 hi hz0 hz1 _ _ _ _ ls.length rfl rfl rfl rfl (by rw [hz2]; omega) (by unfold maxLen; omega) (Nat.le_refl _) ?_; intro w1 hown1 hgrow1)
  have hB1 : Below w.heap.size w w1 := (Below.refl _ w).grown hgrow1 (Nat.le_refl _) (fun k e => by cases e)
  have HO1 := hide hown1
  clear hown1 hgrow1
  go_loopw [4, 5, 11] (fun _ _ i wr => ∃ (k : Nat) (xs : List Value), k ≤ ls.length ∧ i = .int .i64 k ∧ Hid (wr.ownsRow w.heap.size 40 1 (.slice (some ⟨w.heap.size, 0, none⟩) ls.length ls.length) ls.length xs) ∧ Hid (LRow wr w.heap.size w.heap.size 0 (ls.take k)) ∧ Below w.heap.size w wr) (fun _ _ i _ => ls.length - (intOf i).toNat)
  case atStart => exact ⟨0, _, Nat.zero_le _, rfl, HO1, fun j hj => by simp at hj, hB1⟩
  case round =>
    clear HO1 hB1
    obtain ⟨k, xs, hk, rfl, HO, HL, hB⟩ := hrel
    by_cases hlt : k < ls.length
    · obtain ⟨b, off, va, vc, rfl, hc, hby⟩ := H0.out.at k hlt
      have hbl := World.block_lt_of_cell? w _ hc
      have hc' := (hB.cell (p := ⟨b, off + k, none⟩) hbl).trans hc
      have hk1 : (0 : Int) ≤ (k : Int) := by omega
      have hk2 : (k : Int) < (ls.length : Int) := by omega
      have HBy := hide hby
      have hl4 := HS.out k hlt
      have hrw := (HO.out.lt w.heap.size rfl).2
      clear hc hby
      obtain ⟨L, hL⟩ : ∃ L, L = ls[k] := ⟨_, rfl⟩
      rw [← hL] at hc' HBy hl4
      have HLk := hide hL
      clear hL
      go_wp2_with fail
      refine (Te_copied_any _ L _ (HBy.out.below hB) (by omega)).mono ?_
      rintro e w2 ⟨rfl, hown2, hB2⟩
      have hB02 := hB.trans (hB2.mono hB.size)
      have HO2 := hide (owns_below HO.out hB2)
      have HL2 := hide (HL.out.below hB2)
      have HN := hide hown2
      have hsz := hB.size
      have hlt2 := (hown2.lt wr.heap.size rfl).2
      have hcell : ∃ u, w2.cell? ⟨w.heap.size, k, none⟩ = some u := ⟨_, by
        rw [HO2.out.cellAt k (by omega), List.getElem?_eq_getElem]
        have := HO2.out.1; omega⟩
      obtain ⟨u, hcell⟩ := hcell
      have hfr := HO2.out.frozenAt k
      clear hown2 HO HL
      go_wp2
      go_roundw
      case rel =>
        obtain ⟨r1, xs', r2⟩ := HL2.out.stored (k := k) HO2.out hlt rfl (some ⟨wr.heap.size, 0, none⟩) L.length (by rw [← HLk.out]; exact Bys.of_owns HN.out) (by rw [← HLk.out]; exact Nat.le_refl _) (fun j e => by cases e; dsimp only; omega)
        rw [← HLk.out] at r1 r2
        exact ⟨k + 1, xs', by omega, by go_num, r2, r1, hB02.setCell (p := ⟨w.heap.size, k, none⟩) (Nat.le_refl _) _⟩
      case measure => simp [intOf]; omega
    · have hke : k = ls.length := by omega
      go_wp2
      go_ret
      have := HL.out
      rw [hke, List.take_length] at this
      exact ⟨rfl, this, (HO.out.lt w.heap.size rfl).2, hB⟩
end Go.Proofs.YtkkommomefmpgaaGreat

/- New, Left, Screen, Copy of a terminal. -/
namespace Go.Proofs.YtkkommomefmpgaaGreat
open Go.RowKit

def newE (ls : List (List UInt8)) : Int := if 256 < ls.length then 3 else if ls.any (fun l => decide (4096 < l.length)) = true then 5 else 0
theorem newE_long {ls : List (List UInt8)} (k : Nat) (hk : k < ls.length) (h1 : ls.length ≤ 256) (h2 : 4096 < ls[k].length) : newE ls = 5 := by
  unfold newE
  rw [if_neg (by omega), if_pos]
  rw [List.any_eq_true]
  exact ⟨_, List.getElem_mem hk, by simpa using h2⟩
theorem newE_ok {ls : List (List UInt8)} (h1 : ls.length ≤ 256) (h2 : ∀ j (hj : j < ls.length), ls[j].length ≤ 4096) : newE ls = 0 := by
  unfold newE
  rw [if_neg (by omega), if_neg]
  rw [List.any_eq_true]
  rintro ⟨l, hl, h⟩
  obtain ⟨j, hj, rfl⟩ := List.getElem_of_mem hl
  have := h2 j hj
  simp at h
  omega
theorem newE_small {ls : List (List UInt8)} (h : newE ls = 0) : ls.length ≤ 256 ∧ ∀ j (hj : j < ls.length), ls[j].length ≤ 4096 := by
  unfold newE at h
  split at h
  · cases h
  · split at h
    · cases h
    · rename_i h1 h2
      refine ⟨by omega, fun j hj => ?_⟩
      simp only [List.any_eq_true, not_exists, not_and, decide_eq_true_eq] at h2
      have := h2 _ (List.getElem_mem hj)
      omega

structure PTerm (W : World) (B t : Nat) (O : Nat → Prop) (ls : List (List UInt8)) (scr : List UInt8) : Prop where
  made : W.cell? ⟨t, 0, none⟩ = some (.bool true)
  term : ∃ la lc s, Term W B t 1 O la lc s ls scr
  few : ls.length ≤ 256
  short : ∀ j (hj : j < ls.length), ls[j].length ≤ 4096
  room : scr.length ≤ 1048576
theorem PTerm.ot {W : World} {B t : Nat} {O : Nat → Prop} {ls : List (List UInt8)} {scr : List UInt8} (h : PTerm W B t O ls scr) : O t := by
  obtain ⟨_, _, _, h⟩ := h.term
  exact h.ot
theorem PTerm.lt {W : World} {B t : Nat} {O : Nat → Prop} {ls : List (List UInt8)} {scr : List UInt8} (h : PTerm W B t O ls scr) : ∀ k, O k → B ≤ k ∧ k < W.heap.size := by
  obtain ⟨_, _, _, h⟩ := h.term
  exact h.lt
set_option maxRecDepth 100000 in
set_option maxHeartbeats 1000000 in
theorem Te_new_bad (v : Value) (ls : List (List UInt8)) (w : World) (h : Lns w v ls) (hl : newE ls ≠ 0) :
    Calls Tryz.prog 38 #[v] w fun e w' => e = .returned (.tuple #[.pointer none, .int .i64 (newE ls)]) ∧ w' = w := by
  have H0 := hide h
  obtain ⟨a1, c1, rfl⟩ := h.form
  clear h
  by_cases hc : 256 < ls.length
  · have hE : newE ls = 3 := by unfold newE; rw [if_pos hc]
    rw [hE]
    have hd : decide ((256 : Int) < (ls.length : Int)) = true := by simp; omega
    clear hE hl
    go_enter Tryz.func38, Tryz.ntmps38
    go_wp2
    all_goals first
      | (exfalso; omega)
      | (go_ret2; exact ⟨rfl, rfl⟩)
  · have hd : decide ((256 : Int) < (ls.length : Int)) = false := by simp; omega
    have HL := hide hl
    have HN : Hid (∀ k (hk : k < ls.length), 4096 < ls[k].length → newE ls = 5) := hide fun k hk h2 => newE_long k hk (by omega) h2
    have HZ : Hid ((∀ j (hj : j < ls.length), ls[j].length ≤ 4096) → newE ls = 0) := hide fun h2 => newE_ok (by omega) h2
    generalize newE ls = E at *
    clear hl
    go_enter Tryz.func38, Tryz.ntmps38
    go_wp2
    go_loopw [5, 11] (fun _ i wr => ∃ k : Nat, k ≤ ls.length ∧ i = .int .i64 k ∧ wr = w ∧ Hid (∀ j (hj : j < ls.length), j < k → ls[j].length ≤ 4096)) (fun _ i _ => ls.length - (intOf i).toNat)
    case atStart => exact ⟨0, Nat.zero_le _, rfl, rfl, fun j _ hj => by omega⟩
    case round =>
      obtain ⟨k, hk, rfl, rfl, HK⟩ := hrel
      by_cases hlt : k < ls.length
      · obtain ⟨b, off, va, vc, rfl, hcell, _⟩ := H0.out.at k hlt
        have hk1 : (0 : Int) ≤ (k : Int) := by omega
        have hk2 : (k : Int) < (ls.length : Int) := by omega
        by_cases hb : 4096 < ls[k].length
        · have HE := hide (HN.out k hlt hb)
          generalize ls[k].length = n at *
          have hd4 : decide ((4096 : Int) < (n : Int)) = true := by simp; omega
          go_wp2
          all_goals first
            | (exfalso; omega)
            | (go_ret2; exact ⟨by rw [HE.out]; rfl, rfl⟩)
        · have HK' : Hid (∀ j (hj : j < ls.length), j < k + 1 → ls[j].length ≤ 4096) := hide fun j hj hjk => by
            by_cases e : j = k
            · subst e; omega
            · exact HK.out j hj (by omega)
          generalize ls[k].length = n at *
          have hd4 : decide ((4096 : Int) < (n : Int)) = false := by simp; omega
          go_wp2
          all_goals first
            | (exfalso; omega)
            | (go_roundw
               case rel => exact ⟨k + 1, by omega, by go_num, by trivial, HK'⟩
               case measure => simp [intOf]; omega)
      · exact absurd (HZ.out fun j hj => HK.out j hj (by omega)) HL.out

theorem term_new {w w2 : World} {s : Value} {ls : List (List UInt8)} {scr : List UInt8} {cs : Array Value} {T : TypeId} (r : Nat) (hr : w.heap.size ≤ r) (hL : LRow w2 w.heap.size r 0 ls) (hlt : r < w2.heap.size) (hown : w2.ownsRow w.heap.size 5 1 s scr.length (scr.map bv)) (hsr : s.ownBlock ≠ some r) (hsl : ∀ j (hj : j < ls.length) va vc k, w2.cell? ⟨r, j, none⟩ = some (.slice va ls[j].length vc) → (Value.slice va ls[j].length vc).ownBlock = some k → s.ownBlock ≠ some k)
    (hB : Below w.heap.size w w2) (hf : ls.length ≤ 256) (hf2 : ∀ j (hj : j < ls.length), ls[j].length ≤ 4096) (hf3 : scr.length ≤ 1048576)
    (hcs : cs = #[Value.bool true, Value.slice (some ⟨r, 0, none⟩) ls.length ls.length, s]) :
    PTerm (w2.alloc (Obj.cells cs T)) w.heap.size w2.heap.size (fun k => w.heap.size ≤ k ∧ k < w2.heap.size + 1) ls scr ∧ Below w.heap.size w (w2.alloc (Obj.cells cs T)) := by
  subst hcs
  have hBa : Below w2.heap.size w2 (w2.alloc (Obj.cells #[Value.bool true, Value.slice (some ⟨r, 0, none⟩) ls.length ls.length, s] T)) := (Below.refl _ _).alloc (Nat.le_refl _) _
  have hsz := hB.size
  refine ⟨⟨?_, ⟨some ⟨r, 0, none⟩, ls.length, s, ⟨?_, ?_, ?_, ?_, Nat.le_refl _, fun k e => ?_, fun _ => ⟨r, 0, rfl, fun j hj => ?_⟩, owns_below hown hBa, fun k e => ?_, ⟨hsz, by omega⟩, fun k e => ?_⟩⟩, hf, hf2, hf3⟩, hB.alloc hB.size _⟩
  · simp only [World.cell?, heap_alloc_new]; rfl
  · simp only [World.cell?, heap_alloc_new]; rfl
  · simp only [World.cell?, heap_alloc_new]; rfl
  · simp only [World.frozen?, heap_alloc_new]; rfl
  · simp only [World.frozen?, heap_alloc_new]; rfl
  · cases e
    exact ⟨⟨hr, by dsimp only; omega⟩, by dsimp only; omega, hsr⟩
  · obtain ⟨h1, va, vc, h2, h3, h4, h5⟩ := hL j hj
    refine ⟨(hBa.frozen (p := ⟨r, 0 + j, none⟩) hlt).trans h1, va, vc, (hBa.cell (p := ⟨r, 0 + j, none⟩) hlt).trans h2, h3, h4.below hBa, fun k e => ?_⟩
    obtain ⟨q1, q2, q3⟩ := h5 k e
    exact ⟨⟨q1, by omega⟩, by omega, q2, hsl j hj va vc k (by rw [Nat.zero_add] at h2; exact h2) e⟩
  · have := hown.lt k e
    exact ⟨⟨this.1, by omega⟩, by omega⟩
  · have : (w2.alloc (Obj.cells #[Value.bool true, Value.slice (some ⟨r, 0, none⟩) ls.length ls.length, s] T)).heap.size = w2.heap.size + 1 := by simp
    rw [this]
    exact e

set_option maxRecDepth 100000 in
set_option maxHeartbeats 1000000 in
theorem Te_new_good (v : Value) (ls : List (List UInt8)) (w : World) (h : Lns w v ls) (hl : newE ls = 0) :
    Calls Tryz.prog 38 #[v] w fun e w' => ∃ t O, e = .returned (.tuple #[.pointer (some ⟨t, 0, none⟩), .int .i64 0]) ∧ PTerm w' w.heap.size t O ls [] ∧ Below w.heap.size w w' := by
  have H0 := hide h
  obtain ⟨a1, c1, rfl⟩ := h.form
  obtain ⟨hf, hf2⟩ := newE_small hl
  have HF := hide hf2
  clear h hl hf2
  have hd : decide ((256 : Int) < (ls.length : Int)) = false := by simp; omega
  go_enter Tryz.func38, Tryz.ntmps38
  go_wp2
  go_loopw [5, 11] (fun _ i wr => ∃ k : Nat, k ≤ ls.length ∧ i = .int .i64 k ∧ wr = w) (fun _ i _ => ls.length - (intOf i).toNat)
  case atStart => exact ⟨0, Nat.zero_le _, rfl, rfl⟩
  case round =>
    obtain ⟨k, hk, rfl, rfl⟩ := hrel
    by_cases hlt : k < ls.length
    · obtain ⟨b, off, va, vc, rfl, hcell, _⟩ := H0.out.at k hlt
      have hk1 : (0 : Int) ≤ (k : Int) := by omega
      have hk2 : (k : Int) < (ls.length : Int) := by omega
      have hb := HF.out k hlt
      generalize ls[k].length = n at *
      have hd4 : decide ((4096 : Int) < (n : Int)) = false := by simp; omega
      go_wp2
      all_goals first
        | (exfalso; omega)
        | (go_roundw
           case rel => exact ⟨k + 1, by omega, by go_num, by trivial⟩
           case measure => simp [intOf]; omega)
    · go_wp2_with fail
      refine (copiedLines_any _ ls _ H0.out hf HF.out).mono ?_
      rintro e w2 ⟨rfl, hL, hlt2, hB⟩
      have HL := hide hL
      clear hL
      go_wp2
      go_ret2
      obtain ⟨r1, r2⟩ := term_new (w := wr) (s := .slice none 0 0) (scr := []) (T := 209) wr.heap.size (Nat.le_refl _) HL.out hlt2 (World.ownsRow_nil _ _ _ _) (by intro e; cases e) (fun _ _ _ _ _ _ _ e => by cases e) hB hf HF.out (by simp) rfl
      exact ⟨_, _, rfl, r1, r2⟩

end Go.Proofs.YtkkommomefmpgaaGreat

/- Copy of a terminal. -/
namespace Go.Proofs.YtkkommomefmpgaaGreat
open Go.RowKit


end Go.Proofs.YtkkommomefmpgaaGreat

/- Read and Write of a terminal. -/
namespace Go.Proofs.YtkkommomefmpgaaGreat
open Go.RowKit

def restL : List (List UInt8) → Nat → List (List UInt8)
  | [], _ => []
  | l :: ls, n => if n < l.length then l.drop n :: ls else ls
def headL : List (List UInt8) → Nat → List UInt8
  | [], _ => []
  | l :: _, n => l.take n
theorem restL_few {ls : List (List UInt8)} {n : Nat} (h : ls.length ≤ 256) : (restL ls n).length ≤ 256 := by
  cases ls with
  | nil => simp [restL]
  | cons l ls =>
    simp only [List.length_cons] at h
    simp only [restL]
    split
    · simpa using h
    · omega
theorem restL_short {ls : List (List UInt8)} {n : Nat} (h : ∀ j (hj : j < ls.length), ls[j].length ≤ 4096) : ∀ j (hj : j < (restL ls n).length), (restL ls n)[j].length ≤ 4096 := by
  have h' : ∀ l ∈ ls, l.length ≤ 4096 := fun l hl => by
    obtain ⟨j, hj, rfl⟩ := List.getElem_of_mem hl
    exact h j hj
  suffices hh : ∀ l ∈ restL ls n, l.length ≤ 4096 from fun j hj => hh _ (List.getElem_mem hj)
  cases ls with
  | nil => simp [restL]
  | cons l ls =>
    intro x hx
    simp only [restL] at hx
    split at hx
    · rcases List.mem_cons.1 hx with rfl | hx
      · have := h' l (by simp)
        simp; omega
      · exact h' x (by simp [hx])
    · exact h' x (by simp [hx])

set_option maxRecDepth 100000 in
set_option maxHeartbeats 1000000 in
theorem dropFirst_any (B t : Nat) (O : Nat → Prop) (la : Option Addr) (lc : Nat) (s : Value) (l : List UInt8) (ls : List (List UInt8)) (scr : List UInt8) (w : World) (h : Term w B t 1 O la lc s (l :: ls) scr) :
    Calls Tryz.prog 295 #[.pointer (some ⟨t, 0, none⟩)] w fun e w' => e = .returned (.tuple #[]) ∧ (∃ la' lc', Term w' B t 1 O la' lc' s ls scr) ∧ Turned (fun k => k = t ∨ la.map (·.block) = some k) w w' ∧ w'.cell? ⟨t, 0, none⟩ = w.cell? ⟨t, 0, none⟩ := by
  have HT := hide h
  have h2 := h.lines
  have h3 := h.soft1
  obtain ⟨r, off, rfl, hr⟩ := h.row (by simp)
  obtain ⟨hf, va, vc, hc, -⟩ := hr 0 (by simp)
  obtain ⟨ro, rt, rs⟩ := h.lo r rfl
  have hcap := h.cap
  simp only [Nat.add_zero, List.getElem_cons_zero, List.length_cons] at hc hf h2 hcap
  clear hr h
  have q1 : (w.setCell ⟨r, off, none⟩ (.slice none 0 0)).cell? ⟨t, 1, none⟩ = some (.slice (some ⟨r, off, none⟩) (ls.length + 1) lc) := by
    rw [World.cell?_setCell_other _ _ _ _ (by simp)]; exact h2
  have q2 : (w.setCell ⟨r, off, none⟩ (.slice none 0 0)).frozen? ⟨t, 1, none⟩ = false := by
    rw [World.frozen?_setCell]; exact h3
  have HD := hide (fun la n' h5 h6 => HT.out.dropped (w1 := w.setCell ⟨r, off, none⟩ (.slice none 0 0)) (by simp [World.setCell]) rfl rfl rfl (fun k hk => Below.heap_setCell _ _ _ _ hk) (fun j => ⟨by rw [World.frozen?_setCell], by rw [World.cell?_setCell_other _ _ _ _ (by simp)]⟩) la n' h5 h6)
  have q3 : ∀ u, ((w.setCell ⟨r, off, none⟩ (.slice none 0 0)).setCell ⟨t, 1, none⟩ u).cell? ⟨t, 0, none⟩ = w.cell? ⟨t, 0, none⟩ := fun u => by
    rw [World.cell?_setCell_other _ _ _ _ (by simp), World.cell?_setCell_other _ _ _ _ (by simp)]
  have HQ3 := hide q3
  clear q3
  by_cases h1 : lc = 1
  · obtain rfl : ls = [] := List.length_eq_zero_iff.1 (by omega)
    subst h1
    simp only [List.length_nil] at *
    go_enter Tryz.func295, Tryz.ntmps295
    go_wp2
    go_end0
    obtain ⟨r1, r2⟩ := HD.out (some ⟨r, off, none⟩) 0 (.inr ⟨trivial, rfl⟩) rfl
    exact ⟨rfl, ⟨_, _, r1⟩, r2.mono fun k e => e.imp id fun e => by rw [e]; rfl, HQ3.out _⟩
  · have k1 : (1 : Int) < (lc : Int) := by omega
    have k2 : (1 : Int) ≤ (ls.length : Int) + 1 := by omega
    go_enter Tryz.func295, Tryz.ntmps295
    go_wp2
    go_end0
    obtain ⟨r1, r2⟩ := HD.out (some ⟨r, off + 1, none⟩) ls.length (.inl rfl) rfl
    exact ⟨rfl, ⟨_, _, r1⟩, r2.mono fun k e => e.imp id fun e => by rw [e]; rfl, HQ3.out _⟩

theorem take_keep {w w1 w2 : World} {O : Nat → Prop} (hT : Turned O w w1) (hB : Below w1.heap.size w1 w2) : Turned O w w2 :=
  hT.trans (Turned.of_below (S := O) hB) (fun _ _ h => h)

set_option maxRecDepth 100000 in
set_option maxHeartbeats 2000000 in
theorem Te_take_any (B t : Nat) (O : Nat → Prop) (la : Option Addr) (lc : Nat) (s : Value) (l : List UInt8) (ls : List (List UInt8)) (scr : List UInt8) (n : Nat) (w : World) (h : Term w B t 1 O la lc s (l :: ls) scr) (hl : l.length ≤ 4096) (hn1 : 1 ≤ n) (hn : n ≤ 1048576) :
    Calls Tryz.prog 296 #[.pointer (some ⟨t, 0, none⟩), .int .i64 n] w fun e w' => ∃ q, e = .returned (.slice (some ⟨q, 0, none⟩) (l.take n).length (l.take n).length) ∧ w'.ownsRow w.heap.size 5 1 (.slice (some ⟨q, 0, none⟩) (l.take n).length (l.take n).length) (l.take n).length ((l.take n).map bv) ∧ (∃ la' lc', Term w' B t 1 O la' lc' s (restL (l :: ls) n) scr) ∧ Turned O w w' ∧ w'.cell? ⟨t, 0, none⟩ = w.cell? ⟨t, 0, none⟩ := by
  have HT := hide h
  have h2 := h.lines
  have h3 := h.soft1
  have htl := h.lt t h.ot
  obtain ⟨r, off, rfl, hr⟩ := h.row (by simp)
  obtain ⟨hf, va, vc, hc, hvc, hby, hkk⟩ := hr 0 (by simp)
  obtain ⟨ro, rt, rs⟩ := h.lo r rfl
  have hcap := h.cap
  simp only [Nat.add_zero, List.getElem_cons_zero, List.length_cons] at hc hf h2 hcap hvc hby hkk
  have HBy := hide hby
  have HK := hide hkk
  clear hr h hby hkk
  by_cases hlt : n < l.length
  · obtain ⟨_, b, o, rfl, hbl, -⟩ := bys_block HBy.out (by omega)
    have hd : decide ((n : Int) < (l.length : Int)) = true := by simp; omega
    obtain ⟨hC, hTn⟩ := HT.out.cut hc hlt
    have k1 : (n : Int) < (vc : Int) := by omega
    have k2 : (n : Int) ≤ (l.length : Int) := by omega
    have k3 : ¬ vc = n := by omega
    have k4 : (n : Int) ≤ (vc : Int) := by omega
    have hby1 : Bys (w.setCell ⟨r, off, none⟩ (.slice (some ⟨b, o + n, none⟩) (l.length - n) (vc - n))) (.slice (some ⟨b, o, none⟩) n vc) (l.take n) := by
      have h5 := bys_cut HBy.out 0 n vc (by omega)
      rw [List.drop_zero, Nat.add_zero] at h5
      exact h5.keep fun k e _ => Below.heap_setCell _ _ _ _ (HK.out k e).2.2.1
    have HB1 := hide hby1
    have HC := hide hC
    have HTn := hide hTn
    have hq0 : (w.setCell ⟨r, off, none⟩ (.slice (some ⟨b, o + n, none⟩) (l.length - n) (vc - n))).cell? ⟨t, 0, none⟩ = w.cell? ⟨t, 0, none⟩ := World.cell?_of_block (w := w) (Below.heap_setCell _ _ _ _ (Ne.symm rt))
    have HQ0 := hide hq0
    have hre : restL (l :: ls) n = l.drop n :: ls := by rw [restL, if_pos hlt]
    rw [hre]
    have htk : (l.take n).length = n := by simp; omega
    have HTK := hide htk
    clear hby1 hC hTn hq0 hre htk
    go_enter Tryz.func296, Tryz.ntmps296
    go_wp2_with fail
    go_region
    go_wp2_with fail
    generalize w.setCell ⟨r, off, none⟩ (.slice (some ⟨b, o + n, none⟩) (l.length - n) (vc - n)) = w1 at *
    have hBd : Below w1.heap.size w1 w1.drew := (Below.refl _ _).drew
    refine (Te_copied_any _ (l.take n) _ (by have := HB1.out.below hBd; exact this) (by rw [HTK.out]; omega)).mono ?_
    rintro e w2 ⟨rfl, hown, hB2⟩
    have HO := hide hown
    clear hown
    go_wp2
    go_ret
    have hB12 : Below w1.heap.size w1 w2 := hBd.trans hB2
    exact ⟨w1.heap.size, by rw [List.length_take]; rfl, owns_mono HO.out HTn.out.size, ⟨_, _, HC.out.below hB12⟩, take_keep HTn.out hB12, (hB12.cell (p := ⟨t, 0, none⟩) (Nat.lt_of_lt_of_le htl.2 HTn.out.size)).trans HQ0.out⟩
  · have hd : decide ((n : Int) < (l.length : Int)) = false := by simp; omega
    have hre : restL (l :: ls) n = ls := by rw [restL, if_neg hlt]
    have htk : l.take n = l := List.take_of_length_le (by omega)
    rw [hre, htk]
    clear hre htk
    have k4 : (l.length : Int) ≤ (vc : Int) := by omega
    have k5 : (l.length : Int) ≤ (n : Int) := by omega
    have hva : (va = none ∧ l.length = 0 ∧ vc = 0) ∨ ∃ ad, va = some ad := by
      rcases HBy.out with ⟨h5, h6⟩ | ⟨a, c, h5, h6⟩ | ⟨b, o, c, h5, _⟩
      · simp only [Value.slice.injEq] at h5
        exact .inl ⟨h5.1, h5.2.1, h5.2.2⟩
      · simp only [Value.slice.injEq] at h5
        exact .inr ⟨_, h5.1⟩
      · simp only [Value.slice.injEq] at h5
        exact .inr ⟨_, h5.1⟩
    have hva' : (va = none ∧ l.length = 0 ∧ vc = 0) ∨ (∃ ad, va = some ad ∧ l.length < n) ∨ ∃ ad, va = some ad ∧ n = l.length := by
      rcases hva with h | ⟨ad, h⟩
      · exact .inl h
      · rcases Nat.lt_or_ge l.length n with h1 | h1
        · exact .inr (.inl ⟨ad, h, h1⟩)
        · exact .inr (.inr ⟨ad, h, by omega⟩)
    clear hva
    rcases hva' with ⟨rfl, hl0, rfl⟩ | ⟨ad, rfl, hcn⟩ | ⟨ad, rfl, rfl⟩
    case' inr.inr =>
      clear hd k5 hlt
      have hd : decide ((l.length : Int) < (l.length : Int)) = false := by simp
      have hd2 : ¬ l.length < l.length := by omega
    case' inl =>
      rw [hl0] at hc HBy
      obtain rfl : l = [] := List.length_eq_zero_iff.1 hl0
      clear hd k4 k5 hlt hvc hl
      have hd : decide ((n : Int) < 0) = false := by simp
      have k5 : (0 : Int) < (n : Int) := by omega
      have k6 : 0 < n := hn1
    all_goals
      go_enter Tryz.func296, Tryz.ntmps296
      go_wp2_with fail
      refine (dropFirst_any B t O _ lc s _ ls scr _ HT.out).mono ?_
      rintro e w1 ⟨rfl, hC, hT1, hq1⟩
      have HC := hide hC
      clear hC
      have HB1 := hide (HBy.out.keep (W' := w1) fun k e hk => hT1.block k hk (fun e' => by
        obtain ⟨q1, q2, q3, q4⟩ := HK.out k e
        rcases e' with e' | e'
        · exact q2 e'
        · simp only [Option.map_some, Option.some.injEq] at e'
          exact q3 e'.symm))
      have HT1 := hide (hT1.mono (S' := O) fun k e => by
        rcases e with rfl | e
        · exact HT.out.ot
        · simp only [Option.map_some, Option.some.injEq] at e
          rw [← e]; exact ro)
      clear hT1
      go_wp2_with fail
      refine (Te_copied_any _ _ _ HB1.out (by first | omega | simp)).mono ?_
      rintro e w2 ⟨rfl, hown, hB2⟩
      have HO := hide hown
      clear hown
      go_wp2
      go_ret
      obtain ⟨la', lc', hC⟩ := HC.out
      exact ⟨_, rfl, owns_mono HO.out HT1.out.size, ⟨la', lc', hC.below hB2⟩, take_keep HT1.out hB2, (hB2.cell (p := ⟨t, 0, none⟩) (Nat.lt_of_lt_of_le htl.2 HT1.out.size)).trans hq1⟩
end Go.Proofs.YtkkommomefmpgaaGreat

/- Read and Write of a terminal: what they answer, and what they leave. -/
namespace Go.Proofs.YtkkommomefmpgaaGreat
open Go.RowKit

def rOk (n : Int) : Bool := decide (1 ≤ n ∧ n ≤ 1048576)
theorem rOk_yes {n : Int} (h1 : 1 ≤ n) (h2 : n ≤ 1048576) : rOk n = true := by simp [rOk, h1, h2]
theorem rOk_no {n : Int} (h : ¬ (1 ≤ n ∧ n ≤ 1048576)) : rOk n = false := by simp only [rOk, decide_eq_false_iff_not]; exact h
def Te_rdE (n : Int) : Int := if rOk n = true then 0 else 4
def rdH (ls : List (List UInt8)) (n : Int) : List UInt8 := if rOk n = true then headL ls n.toNat else []
def rdR (ls : List (List UInt8)) (n : Int) : List (List UInt8) := if rOk n = true then restL ls n.toNat else ls

set_option maxRecDepth 100000 in
set_option maxHeartbeats 1000000 in
theorem read_bad (B t : Nat) (O : Nat → Prop) (ls : List (List UInt8)) (scr : List UInt8) (n : Int) (w : World) (h : PTerm w B t O ls scr) (hn : ¬ (1 ≤ n ∧ n ≤ 1048576)) :
    Calls Tryz.prog 293 #[.pointer (some ⟨t, 0, none⟩), .int .i64 n] w fun e w' => e = .returned (.tuple #[.slice none 0 0, .int .i64 4]) ∧ w' = w := by
  have h1 := h.made
  clear h
  by_cases hd1 : n < 1
  · have hd : decide (n < 1) = true := by simp; omega
    go_enter Tryz.func293, Tryz.ntmps293
    go_wp2_with fail
    refine (Te_isMade_yes t w h1).mono ?_
    rintro e w1 ⟨rfl, rfl⟩
    go_wp2
    go_ret2
    exact ⟨rfl, rfl⟩
  · have hd : decide (n < 1) = false := by simp; omega
    have hd2 : decide (1048576 < n) = true := by simp; omega
    go_enter Tryz.func293, Tryz.ntmps293
    go_wp2_with fail
    refine (Te_isMade_yes t w h1).mono ?_
    rintro e w1 ⟨rfl, rfl⟩
    go_wp2
    go_ret2
    exact ⟨rfl, rfl⟩

set_option maxRecDepth 100000 in
set_option maxHeartbeats 1000000 in
theorem read_good (B t : Nat) (O : Nat → Prop) (ls : List (List UInt8)) (scr : List UInt8) (n : Nat) (w : World) (h : PTerm w B t O ls scr) (hn1 : 1 ≤ n) (hn : n ≤ 1048576) :
    Calls Tryz.prog 293 #[.pointer (some ⟨t, 0, none⟩), .int .i64 n] w fun e w' => ∃ v, e = .returned (.tuple #[v, .int .i64 0]) ∧ w'.ownsRow w.heap.size 5 1 v (headL ls n).length ((headL ls n).map bv) ∧ PTerm w' B t O (restL ls n) scr ∧ Turned O w w' := by
  have h1 := h.made
  have HP := hide h
  obtain ⟨la, lc, s, hT⟩ := h.term
  have HT := hide hT
  have h2 := hT.lines
  clear h hT
  have hd : decide ((n : Int) < 1) = false := by simp; omega
  have hd2 : decide ((1048576 : Int) < (n : Int)) = false := by simp; omega
  cases ls with
  | nil =>
    simp only [List.length_nil] at h2
    go_enter Tryz.func293, Tryz.ntmps293
    go_wp2_with fail
    refine (Te_isMade_yes t w h1).mono ?_
    rintro e w1 ⟨rfl, rfl⟩
    go_wp2
    go_ret2
    exact ⟨_, rfl, World.ownsRow_nil _ _ _ _, HP.out, Turned.refl _ _⟩
  | cons l ls =>
    have hz : ((ls.length : Int) + 1 == 0) = false := by simp; omega
    have hz2 : ¬ (ls.length : Int) + 1 = 0 := by omega
    have hl := HP.out.short 0 (by simp)
    simp only [List.getElem_cons_zero] at hl
    have HTA := hide (Te_take_any B t O la lc s l ls scr n w HT.out hl hn1 hn)
    rw [show headL (l :: ls) n = l.take n from rfl]
    generalize l.take n = X at HTA ⊢
    go_enter Tryz.func293, Tryz.ntmps293
    go_wp2_with fail
    refine (Te_isMade_yes t w h1).mono ?_
    rintro e w1 ⟨rfl, rfl⟩
    go_wp2_with fail
    refine HTA.out.mono ?_
    rintro e w2 ⟨q, rfl, hown, hC, hT2, hq⟩
    have HO := hide hown
    have HC := hide hC
    clear hown hC
    go_wp2
    go_ret2
    obtain ⟨la', lc', hC⟩ := HC.out
    exact ⟨_, rfl, HO.out, ⟨hq.trans h1, ⟨la', lc', s, hC⟩, restL_few HP.out.few, restL_short HP.out.short, HP.out.room⟩, hT2⟩

theorem Te_read_any (B t : Nat) (O : Nat → Prop) (ls : List (List UInt8)) (scr : List UInt8) (n : Int) (w : World) (h : PTerm w B t O ls scr) :
    Calls Tryz.prog 293 #[.pointer (some ⟨t, 0, none⟩), .int .i64 n] w fun e w' => ∃ v, e = .returned (.tuple #[v, .int .i64 (Te_rdE n)]) ∧ w'.ownsRow w.heap.size 5 1 v (rdH ls n).length ((rdH ls n).map bv) ∧ PTerm w' B t O (rdR ls n) scr ∧ Turned O w w' := by
  by_cases hn : 1 ≤ n ∧ n ≤ 1048576
  · have hr := rOk_yes hn.1 hn.2
    rw [Te_rdE, rdH, rdR, if_pos hr, if_pos hr, if_pos hr]
    obtain ⟨m, rfl⟩ : ∃ m : Nat, n = m := ⟨n.toNat, by omega⟩
    rw [Int.toNat_natCast]
    exact read_good B t O ls scr m w h (by omega) (by omega)
  · have hr : ¬ rOk n = true := by rw [rOk_no hn]; simp
    rw [Te_rdE, rdH, rdR, if_neg hr, if_neg hr, if_neg hr]
    refine (read_bad B t O ls scr n w h hn).mono ?_
    rintro e w' ⟨rfl, rfl⟩
    exact ⟨_, rfl, World.ownsRow_nil _ _ _ _, h, Turned.refl _ _⟩

def Te_wrE (m n : Nat) : Int := if 1048576 < m + n then 31 else 0
def wrS (scr x : List UInt8) : List UInt8 := if 1048576 < scr.length + x.length then scr else scr ++ x

set_option maxRecDepth 100000 in
set_option maxHeartbeats 1000000 in
theorem Te_write_any (B t : Nat) (O : Nat → Prop) (ls : List (List UInt8)) (scr : List UInt8) (vx : Value) (x : List UInt8) (w : World) (h : PTerm w B t O ls scr) (hx : Bys w vx x) :
    Calls Tryz.prog 294 #[.pointer (some ⟨t, 0, none⟩), vx] w fun e w' => e = .returned (.int .i64 (Te_wrE scr.length x.length)) ∧ ∃ O', PTerm w' B t O' ls (wrS scr x) ∧ (∀ k, O' k → O k ∨ w.heap.size ≤ k) ∧ Turned O w w' := by
  have h1 := h.made
  have h0 := h.room
  have HP := hide h
  have hlt := h.lt t h.ot
  obtain ⟨la, lc, s, hT⟩ := h.term
  have HT := hide hT
  obtain ⟨sa, sc, rfl⟩ := owns_slice hT.scr
  have h2 := hT.screen
  have h3 := hT.soft2
  have hst := hT.st t
  have HX := hide hx
  obtain ⟨a1, c1, rfl, -⟩ := bys_form hx
  clear h hT hx
  by_cases hf : 1048576 < scr.length + x.length
  · rw [Te_wrE, wrS, if_pos hf, if_pos hf]
    have hd : decide ((1048576 : Int) - (scr.length : Int) < (x.length : Int)) = true := by simp; omega
    clear hst
    go_enter Tryz.func294, Tryz.ntmps294
    go_wp2_with fail
    refine (Te_isMade_yes t w h1).mono ?_
    rintro e w1 ⟨rfl, rfl⟩
    go_wp2
    all_goals first
      | (exfalso; omega)
      | (go_ret; exact ⟨rfl, O, HP.out, fun k e => .inl e, Turned.refl _ _⟩)
  · rw [Te_wrE, wrS, if_neg hf, if_neg hf]
    have hd : decide ((1048576 : Int) - (scr.length : Int) < (x.length : Int)) = false := by simp; omega
    obtain ⟨s', w1, hrun, HO, hg, hb⟩ := run_append_bytes w 40 B _ _ scr x HT.out.scr HX.out (by omega) (by omega)
    obtain ⟨sa', sc', rfl⟩ := owns_slice HO.out
    have hgt : w1.heap[t]? = w.heap[t]? := hg.block t hlt.2 (fun e => (hst e.symm).2 rfl)
    have q1 : w1.cell? ⟨t, 2, none⟩ = some (.slice sa scr.length sc) := (World.cell?_of_block (w := w) hgt).trans h2
    have q2 : w1.frozen? ⟨t, 2, none⟩ = false := (World.frozen?_of_block (w := w) hgt).trans h3
    obtain ⟨r1, r2⟩ := HT.out.written HO.out hg hb
    simp only [List.length_append] at r1 r2 hrun hb
    have R1 := hide r1
    have R2 := hide r2
    have HQ : Hid (∀ u, (w1.setCell ⟨t, 2, none⟩ u).cell? ⟨t, 0, none⟩ = some (.bool true)) := hide fun u => by
      rw [World.cell?_setCell_other _ _ _ _ (by simp)]
      exact (World.cell?_of_block (w := w) hgt).trans h1
    have HB := hide hb
    have HR := hide hrun
    clear r1 r2 hgt hst hg hb hrun
    go_enter Tryz.func294, Tryz.ntmps294
    go_wp2_with fail
    refine (Te_isMade_yes t w h1).mono ?_
    rintro e w1 ⟨rfl, rfl⟩
    go_wp2_with (at_builtin; refine Lib.wpList_append_run _ rfl _ _ _ _ rfl _ _ rfl rfl _ _ HR.out ?_)
    all_goals first
      | (exfalso; omega)
      | skip
    go_ret
    refine ⟨rfl, _, ⟨HQ.out _, ⟨_, _, _, R1.out⟩, HP.out.few, HP.out.short, by simp; omega⟩, fun k e => ?_, R2.out⟩
    rcases e with e | e
    · exact .inl e
    · rcases HB.out with e' | e'
      · rw [e'] at e; exact .inl (HT.out.st k e).1
      · rw [e'] at e; cases e; exact .inr (Nat.le_refl _)
end Go.Proofs.YtkkommomefmpgaaGreat

/- The statements' own example holds: alive answers true; terminals that no call made. -/
namespace Go.Proofs.YtkkommomefmpgaaGreat
open Go.RowKit

end Go.Proofs.YtkkommomefmpgaaGreat

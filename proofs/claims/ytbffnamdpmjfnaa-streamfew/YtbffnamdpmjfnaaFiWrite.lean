/- WriteAt. -/
import Derived.Test.YtbffnamdpmjfnaaTeRow
import Derived.Test.YtbffnamdpmjfnaaFiGrow
namespace Go.Proofs.Ytbffnamdpmjfnaa
open Go.RowKit

/-- Bytes laid at a place. -/
def lay (l : List UInt8) (off : Nat) (x : List UInt8) : List UInt8 :=
  if x = [] then l else (grow l (off + x.length)).take off ++ (x ++ (grow l (off + x.length)).drop (off + x.length))
theorem lay_len (l : List UInt8) (off : Nat) (x : List UInt8) : (lay l off x).length = if x = [] then l.length else max l.length (off + x.length) := by
  unfold lay
  split
  · rfl
  · have := grow_len l (off + x.length)
    simp only [List.length_append, List.length_take, List.length_drop]
    omega

set_option maxRecDepth 100000 in
set_option maxHeartbeats 1000000 in
theorem writeAt_range (g b cap : Nat) (l : List UInt8) (off : Int) (vx : Value) (w : World) (h : FileAt w g b cap l) (hr : inR off = false) :
    Calls Try.prog 90 #[.pointer (some ⟨g, 0, none⟩), .int .i64 off, vx] w fun e w' => e = .returned (.int .i64 4) ∧ Below w.heap.size w w' := by
  have h1 := h.made
  clear h
  have HR : Hid (([off] : List Int).all inR = false) := hide (by simpa using hr)
  clear hr
  go_enter Try.func90, Try.ntmps90
  go_wp2_with fail
  refine (Fi_isMade_yes g w h1).mono ?_
  rintro e w1 ⟨rfl, rfl⟩
  go_wp2_with fail
  refine (inRange_any _ [off] _ (ints_one _ _) (by simp)).mono ?_
  rintro e w2 ⟨rfl, rfl⟩
  rw [HR.out]
  go_wp2
  go_ret
  exact ⟨rfl, (Below.refl _ _).alloc (Nat.le_refl _) _⟩

set_option maxRecDepth 100000 in
set_option maxHeartbeats 1000000 in
theorem writeAt_full (g b cap : Nat) (l : List UInt8) (off : Nat) (vx : Value) (x : List UInt8) (w : World) (h : FileAt w g b cap l) (hx : Bys w vx x) (ho : off ≤ 1048576) (hl : 1048576 < off + x.length) :
    Calls Try.prog 90 #[.pointer (some ⟨g, 0, none⟩), .int .i64 off, vx] w fun e w' => e = .returned (.int .i64 31) ∧ Below w.heap.size w w' := by
  have h1 := h.made
  obtain ⟨a1, c1, rfl, -⟩ := bys_form hx
  clear h hx
  have HR : Hid (([(off : Int)] : List Int).all inR = true) := hide (by simp [inR]; omega)
  have hd : decide ((1048576 - (off : Int)) < (x.length : Int)) = true := by simp; omega
  go_enter Try.func90, Try.ntmps90
  go_wp2_with fail
  refine (Fi_isMade_yes g w h1).mono ?_
  rintro e w1 ⟨rfl, rfl⟩
  go_wp2_with fail
  refine (inRange_any _ [(off : Int)] _ (ints_one _ _) (by simp)).mono ?_
  rintro e w2 ⟨rfl, rfl⟩
  rw [HR.out]
  go_wp2
  all_goals first
    | (exfalso; omega)
    | (go_ret; exact ⟨rfl, (Below.refl _ _).alloc (Nat.le_refl _) _⟩)

set_option maxRecDepth 100000 in
set_option maxHeartbeats 1000000 in
theorem writeAt_none (g b cap : Nat) (l : List UInt8) (off : Nat) (vx : Value) (w : World) (h : FileAt w g b cap l) (hx : Bys w vx []) (ho : off ≤ 1048576) :
    Calls Try.prog 90 #[.pointer (some ⟨g, 0, none⟩), .int .i64 off, vx] w fun e w' => e = .returned (.int .i64 0) ∧ Below w.heap.size w w' := by
  have h1 := h.made
  obtain ⟨a1, c1, rfl, -⟩ := bys_form hx
  clear h hx
  simp only [List.length_nil]
  have HR : Hid (([(off : Int)] : List Int).all inR = true) := hide (by simp [inR]; omega)
  have hd : decide ((1048576 - (off : Int)) < 0) = false := by simp; omega
  go_enter Try.func90, Try.ntmps90
  go_wp2_with fail
  refine (Fi_isMade_yes g w h1).mono ?_
  rintro e w1 ⟨rfl, rfl⟩
  go_wp2_with fail
  refine (inRange_any _ [(off : Int)] _ (ints_one _ _) (by simp)).mono ?_
  rintro e w2 ⟨rfl, rfl⟩
  rw [HR.out]
  go_wp2
  all_goals first
    | (exfalso; omega)
    | (go_ret; exact ⟨rfl, (Below.refl _ _).alloc (Nat.le_refl _) _⟩)

set_option maxRecDepth 100000 in
set_option maxHeartbeats 2000000 in
theorem writeAt_some (g b cap : Nat) (l : List UInt8) (off : Nat) (vx : Value) (x : List UInt8) (w : World) (h : FileAt w g b cap l) (hx : Bys w vx x) (hxb : ∀ k, vx.ownBlock = some k → k ≠ g ∧ k ≠ b) (hl : off + x.length ≤ 1048576) (hx0 : 0 < x.length) :
    Calls Try.prog 90 #[.pointer (some ⟨g, 0, none⟩), .int .i64 off, vx] w fun e w' => e = .returned (.int .i64 0) ∧ ∃ b' cap', FileAt w' g b' cap' (lay l off x) ∧ (b' = b ∨ w.heap.size ≤ b') ∧ Turned (fun k => k = g ∨ k = b) w w' := by
  have h1 := h.made
  have HF := hide h
  have HX := hide hx
  have HB := hide hxb
  obtain ⟨a1, c1, rfl, -⟩ := bys_form hx
  clear h hx hxb
  have HR : Hid (([(off : Int)] : List Int).all inR = true) := hide (by simp [inR]; omega)
  have hd : decide ((1048576 - (off : Int)) < (x.length : Int)) = false := by simp; omega
  have hd2 : ((x.length : Int) == 0) = false := by simp; intro e; rw [e] at hx0; simp at hx0
  go_enter Try.func90, Try.ntmps90
  go_wp2_with fail
  refine (Fi_isMade_yes g w h1).mono ?_
  rintro e w1 ⟨rfl, rfl⟩
  go_wp2_with fail
  refine (inRange_any _ [(off : Int)] _ (ints_one _ _) (by simp)).mono ?_
  rintro e w2 ⟨rfl, rfl⟩
  rw [HR.out]
  have hBa : Below w1.heap.size w1 (w1.alloc (Obj.cells #[.int .i64 (off : Int)] 3)) := (Below.refl _ _).alloc (Nat.le_refl _) _
  have HF2 := hide (HF.out.below hBa)
  have HX2 := hide (HX.out.below hBa)
  generalize w1.alloc (Obj.cells #[.int .i64 (off : Int)] 3) = w2 at *
  clear HF HR h1 HX
  go_wp2_with fail
  rw [show (off : Int) + (x.length : Int) = ((off + x.length : Nat) : Int) by omega]
  refine (growTo_any g b cap l (off + x.length) _ HF2.out hl).mono ?_
  rintro e w3 ⟨rfl, b', cap', hF3, hb3, hT3⟩
  have HX3 := hide (HX2.out.keep (W' := w3) fun k hk hlt => hT3.block k hlt (fun e => by have := HB.out k hk; omega))
  have hml := grow_len l (off + x.length)
  obtain ⟨m, hm⟩ : ∃ m, m = grow l (off + x.length) := ⟨_, rfl⟩
  rw [← hm] at hF3 hml
  have HM := hide hm
  have hml2 : off + x.length ≤ m.length := by omega
  clear hml
  have HF3 := hide hF3
  have h2 := hF3.data
  have h3 := hF3.row.len
  have h5 := hF3.row.lim
  obtain ⟨cur, hcur, hcl, hct⟩ := hF3.row.row
  have HCur := hide hcur
  have HCt := hide hct
  have hap := hF3.apart
  obtain ⟨X, hX⟩ : ∃ X, X = x.map bv := ⟨_, rfl⟩
  have HXe := hide hX
  have hXl : X.length = x.length := by rw [hX]; simp
  have H1 : Hid (∀ v ∈ X, v.oneCell' = true) := hide (by rw [hX]; exact bys_one x)
  obtain ⟨w4, hrun, HG4, hgr4⟩ := run_copy w3 3 (some ⟨b', off, none⟩) a1 (m.length - off) (cap' - off) x.length c1 b' off cur HCur.out X (by rw [hXl]; exact (Nat.min_eq_left (by omega)).symm) (fun h0 => ⟨rfl, Fi_bys_src HX3.out HXe.out h0⟩) (by omega) H1.out
  clear hm hF3 hcur hct hX HF2 HX2
  have k1 : (off : Int) < (cap' : Int) := by omega
  have k2 : (off : Int) ≤ (m.length : Int) := by omega
  have k3 : ¬ cap' = off := by omega
  go_wp2
  go_ret
  refine ⟨rfl, b', cap', ?_, ?_, ?_⟩
  · have hlay : lay l off x = m.take off ++ (x ++ m.drop (off + x.length)) := by rw [lay, if_neg (by intro e; rw [e] at hx0; simp at hx0), HM.out]
    have hrow := RowAt.laid (W' := w4) (b := b') (cap := cap') (l := m) (x := x) (off := off) hcl HCt.out h3 h5 hml2 (by rw [← HXe.out]; exact HG4.out)
    rw [← hlay] at hrow
    have hll : (lay l off x).length = m.length := by rw [hlay]; simp; omega
    have hgg := hgr4.block g HF3.out.lt (by intro e; cases e; exact hap rfl)
    refine ⟨(World.cell?_of_block (w := w3) hgg).trans HF3.out.made, ?_, (World.frozen?_of_block (w := w3) hgg).trans HF3.out.soft, hrow, hap⟩
    rw [hll]
    exact (World.cell?_of_block (w := w3) hgg).trans HF3.out.data
  · have := hBa.size; omega
  · have h1 : Turned (fun k => k = g ∨ k = b) w1 w3 := (Turned.of_below hBa).trans hT3 (fun k hk => id)
    have h2 : Turned (fun k => k = b') w3 w4 := ⟨hgr4.os, hgr4.tape, hgr4.output, hgr4.size, fun k hk hn => hgr4.block k hk (by intro e; cases e; exact hn rfl)⟩
    have := hBa.size
    exact h1.trans h2 (fun k hk e => by omega)

/-- What WriteAt answers. -/
def Fi_wrE (off : Int) (n : Nat) : Int := if inR off = false then 4 else if 1048576 < off + n then 31 else 0
/-- What the file has behind WriteAt. -/
def wrL (l : List UInt8) (off : Int) (x : List UInt8) : List UInt8 := if Fi_wrE off x.length = 0 then lay l off.toNat x else l
theorem wrL_len {l : List UInt8} {off : Int} {x : List UInt8} (h : l.length ≤ 1048576) : (wrL l off x).length ≤ 1048576 := by
  unfold wrL Fi_wrE
  by_cases h1 : inR off = false
  · rw [if_pos h1, if_neg (by decide)]; exact h
  · rw [if_neg h1]
    by_cases h2 : (1048576 : Int) < off + (x.length : Nat)
    · rw [if_pos h2, if_neg (by decide)]; exact h
    · rw [if_neg h2, if_pos rfl, lay_len]
      have : inR off = true := by simpa using h1
      simp only [inR, decide_eq_true_eq] at this
      split <;> omega

theorem writeAt_any (g b cap : Nat) (l : List UInt8) (off : Int) (vx : Value) (x : List UInt8) (w : World) (h : FileAt w g b cap l) (hx : Bys w vx x) (hxb : 0 < x.length → ∀ k, vx.ownBlock = some k → k ≠ g ∧ k ≠ b) :
    Calls Try.prog 90 #[.pointer (some ⟨g, 0, none⟩), .int .i64 off, vx] w fun e w' => e = .returned (.int .i64 (Fi_wrE off x.length)) ∧ ∃ b' cap', FileAt w' g b' cap' (wrL l off x) ∧ (b' = b ∨ w.heap.size ≤ b') ∧ Turned (fun k => k = g ∨ k = b) w w' := by
  by_cases h1 : inR off = false
  · have e1 : Fi_wrE off x.length = 4 := by unfold Fi_wrE; rw [if_pos h1]
    rw [wrL, e1, if_neg (by decide)]
    refine (writeAt_range g b cap l off vx w h h1).mono ?_
    rintro e w' ⟨rfl, hB⟩
    exact ⟨rfl, b, cap, h.below hB, .inl rfl, Turned.of_below hB⟩
  · have h1' : inR off = true := by simpa using h1
    simp only [inR, decide_eq_true_eq] at h1'
    obtain ⟨o, rfl⟩ : ∃ o : Nat, off = o := ⟨off.toNat, by omega⟩
    by_cases h2 : (1048576 : Int) < (o : Int) + (x.length : Nat)
    · have e1 : Fi_wrE o x.length = 31 := by unfold Fi_wrE; rw [if_neg h1, if_pos h2]
      rw [wrL, e1, if_neg (by decide)]
      refine (writeAt_full g b cap l o vx x w h hx (by omega) (by omega)).mono ?_
      rintro e w' ⟨rfl, hB⟩
      exact ⟨rfl, b, cap, h.below hB, .inl rfl, Turned.of_below hB⟩
    · have e1 : Fi_wrE o x.length = 0 := by unfold Fi_wrE; rw [if_neg h1, if_neg h2]
      rw [wrL, e1, if_pos rfl, Int.toNat_natCast]
      by_cases h3 : x = []
      · subst h3
        refine (writeAt_none g b cap l o vx w h hx (by omega)).mono ?_
        rintro e w' ⟨rfl, hB⟩
        exact ⟨rfl, b, cap, h.below hB, .inl rfl, Turned.of_below hB⟩
      · have h4 := List.length_pos_iff.2 h3
        exact writeAt_some g b cap l o vx x w h hx (hxb h4) (by omega) h4

/-- What Truncate answers, and what the file has behind it. -/
def trE (n : Int) : Int := if inR n = false then 4 else 0
def trL (l : List UInt8) (n : Int) : List UInt8 := if inR n = false then l else trunc l n.toNat
theorem trL_len {l : List UInt8} {n : Int} (h : l.length ≤ 1048576) : (trL l n).length ≤ 1048576 := by
  unfold trL
  split
  · exact h
  · rename_i h1
    have h1' : inR n = true := by simpa using h1
    simp only [inR, decide_eq_true_eq] at h1'
    rw [trunc_len]; omega
/-- What ReadAt answers. -/
def Fi_rdE (off n : Int) : Int := if (inR off && inR n) = false then 4 else 0
def rdL (l : List UInt8) (off n : Int) : List UInt8 := if (inR off && inR n) = false then [] else piece l off.toNat n.toNat
theorem rdL_len (l : List UInt8) (off n : Int) : (rdL l off n).length ≤ l.length := by
  unfold rdL
  split
  · simp
  · rw [piece_len]; omega
theorem readAt_any (g b cap : Nat) (l : List UInt8) (off n : Int) (w : World) (h : FileAt w g b cap l) (hl : l.length ≤ 1048576) :
    Calls Try.prog 89 #[.pointer (some ⟨g, 0, none⟩), .int .i64 off, .int .i64 n] w fun e w' => ∃ v, e = .returned (.tuple #[v, .int .i64 (Fi_rdE off n)]) ∧ w'.ownsRow w.heap.size 5 1 v (rdL l off n).length ((rdL l off n).map bv) ∧ Below w.heap.size w w' := by
  by_cases h1 : (inR off && inR n) = false
  · rw [Fi_rdE, rdL, if_pos h1, if_pos h1]
    refine (readAt_bad g b cap l off n w h h1).mono ?_
    rintro e w' ⟨rfl, hB⟩
    exact ⟨_, rfl, World.ownsRow_nil _ _ _ _, hB⟩
  · have h1' : (inR off && inR n) = true := by simpa using h1
    simp only [Bool.and_eq_true, inR, decide_eq_true_eq] at h1'
    obtain ⟨o, rfl⟩ : ∃ o : Nat, off = o := ⟨off.toNat, by omega⟩
    obtain ⟨m, rfl⟩ : ∃ m : Nat, n = m := ⟨n.toNat, by omega⟩
    rw [Fi_rdE, rdL, if_neg h1, if_neg h1, Int.toNat_natCast, Int.toNat_natCast]
    refine (readAt_good g b cap l o m w h hl (by omega) (by omega)).mono ?_
    rintro e w' ⟨q, rfl, hown, hB⟩
    exact ⟨_, rfl, hown, hB⟩
end Go.Proofs.Ytbffnamdpmjfnaa

/- Read and Write of a terminal: what they answer, and what they leave. -/
import Derived.Test.YtoihblhhifcpnaaTeRead
namespace Go.Proofs.Ytoihblhhifcpnaa
open Go.RowKit

/-- May n be read? -/
def rOk (n : Int) : Bool := decide (1 ≤ n ∧ n ≤ 1048576)
theorem rOk_yes {n : Int} (h1 : 1 ≤ n) (h2 : n ≤ 1048576) : rOk n = true := by simp [rOk, h1, h2]
theorem rOk_no {n : Int} (h : ¬ (1 ≤ n ∧ n ≤ 1048576)) : rOk n = false := by simp only [rOk, decide_eq_false_iff_not]; exact h
def rdE (n : Int) : Int := if rOk n = true then 0 else 4
def rdH (ls : List (List UInt8)) (n : Int) : List UInt8 := if rOk n = true then headL ls n.toNat else []
def rdR (ls : List (List UInt8)) (n : Int) : List (List UInt8) := if rOk n = true then restL ls n.toNat else ls

set_option maxRecDepth 100000 in
set_option maxHeartbeats 1000000 in
theorem read_bad (B t : Nat) (O : Nat → Prop) (ls : List (List UInt8)) (scr : List UInt8) (n : Int) (w : World) (h : PTerm w B t O ls scr) (hn : ¬ (1 ≤ n ∧ n ≤ 1048576)) :
    Calls Try.prog 11 #[.pointer (some ⟨t, 0, none⟩), .int .i64 n] w fun e w' => e = .returned (.tuple #[.slice none 0 0, .int .i64 4]) ∧ w' = w := by
  have h1 := h.made
  clear h
  by_cases hd1 : n < 1
  · have hd : decide (n < 1) = true := by simp; omega
    go_enter Try.func11, Try.ntmps11
    go_wp2_with fail
    refine (isMade_yes t w h1).mono ?_
    rintro e w1 ⟨rfl, rfl⟩
    go_wp2
    go_ret2
    exact ⟨rfl, rfl⟩
  · have hd : decide (n < 1) = false := by simp; omega
    have hd2 : decide (1048576 < n) = true := by simp; omega
    go_enter Try.func11, Try.ntmps11
    go_wp2_with fail
    refine (isMade_yes t w h1).mono ?_
    rintro e w1 ⟨rfl, rfl⟩
    go_wp2
    go_ret2
    exact ⟨rfl, rfl⟩

set_option maxRecDepth 100000 in
set_option maxHeartbeats 1000000 in
theorem read_good (B t : Nat) (O : Nat → Prop) (ls : List (List UInt8)) (scr : List UInt8) (n : Nat) (w : World) (h : PTerm w B t O ls scr) (hn1 : 1 ≤ n) (hn : n ≤ 1048576) :
    Calls Try.prog 11 #[.pointer (some ⟨t, 0, none⟩), .int .i64 n] w fun e w' => ∃ v, e = .returned (.tuple #[v, .int .i64 0]) ∧ w'.ownsRow w.heap.size 5 1 v (headL ls n).length ((headL ls n).map bv) ∧ PTerm w' B t O (restL ls n) scr ∧ Turned O w w' := by
  have h1 := h.made
  have HP := hide h
  obtain ⟨la, lc, s, hT⟩ := h.term
  have HT := hide hT
  have h2 := hT.lines
  clear h hT
  have hd : decide ((n : Int) < 1) = false := by simp; omega
  have hd2 : decide ((1048576 : Int) < (n : Int)) = false := by simp; omega
  cases ls with
  | nil =>
    simp only [List.length_nil] at h2
    go_enter Try.func11, Try.ntmps11
    go_wp2_with fail
    refine (isMade_yes t w h1).mono ?_
    rintro e w1 ⟨rfl, rfl⟩
    go_wp2
    go_ret2
    exact ⟨_, rfl, World.ownsRow_nil _ _ _ _, HP.out, Turned.refl _ _⟩
  | cons l ls =>
    have hz : ((ls.length : Int) + 1 == 0) = false := by simp; omega
    have hz2 : ¬ (ls.length : Int) + 1 = 0 := by omega
    have hl := HP.out.short 0 (by simp)
    simp only [List.getElem_cons_zero] at hl
    have HTA := hide (take_any B t O la lc s l ls scr n w HT.out hl hn1 hn)
    rw [show headL (l :: ls) n = l.take n from rfl]
    generalize l.take n = X at HTA ⊢
    go_enter Try.func11, Try.ntmps11
    go_wp2_with fail
    refine (isMade_yes t w h1).mono ?_
    rintro e w1 ⟨rfl, rfl⟩
    go_wp2_with fail
    refine HTA.out.mono ?_
    rintro e w2 ⟨q, rfl, hown, hC, hT2, hq⟩
    have HO := hide hown
    have HC := hide hC
    clear hown hC
    go_wp2
    go_ret2
    obtain ⟨la', lc', hC⟩ := HC.out
    exact ⟨_, rfl, HO.out, ⟨hq.trans h1, ⟨la', lc', s, hC⟩, restL_few HP.out.few, restL_short HP.out.short, HP.out.room⟩, hT2⟩

theorem read_any (B t : Nat) (O : Nat → Prop) (ls : List (List UInt8)) (scr : List UInt8) (n : Int) (w : World) (h : PTerm w B t O ls scr) :
    Calls Try.prog 11 #[.pointer (some ⟨t, 0, none⟩), .int .i64 n] w fun e w' => ∃ v, e = .returned (.tuple #[v, .int .i64 (rdE n)]) ∧ w'.ownsRow w.heap.size 5 1 v (rdH ls n).length ((rdH ls n).map bv) ∧ PTerm w' B t O (rdR ls n) scr ∧ Turned O w w' := by
  by_cases hn : 1 ≤ n ∧ n ≤ 1048576
  · have hr := rOk_yes hn.1 hn.2
    rw [rdE, rdH, rdR, if_pos hr, if_pos hr, if_pos hr]
    obtain ⟨m, rfl⟩ : ∃ m : Nat, n = m := ⟨n.toNat, by omega⟩
    rw [Int.toNat_natCast]
    exact read_good B t O ls scr m w h (by omega) (by omega)
  · have hr : ¬ rOk n = true := by rw [rOk_no hn]; simp
    rw [rdE, rdH, rdR, if_neg hr, if_neg hr, if_neg hr]
    refine (read_bad B t O ls scr n w h hn).mono ?_
    rintro e w' ⟨rfl, rfl⟩
    exact ⟨_, rfl, World.ownsRow_nil _ _ _ _, h, Turned.refl _ _⟩

/-- What Write answers, and what the screen has behind it. -/
def wrE (m n : Nat) : Int := if 1048576 < m + n then 31 else 0
def wrS (scr x : List UInt8) : List UInt8 := if 1048576 < scr.length + x.length then scr else scr ++ x

set_option maxRecDepth 100000 in
set_option maxHeartbeats 1000000 in
theorem write_any (B t : Nat) (O : Nat → Prop) (ls : List (List UInt8)) (scr : List UInt8) (vx : Value) (x : List UInt8) (w : World) (h : PTerm w B t O ls scr) (hx : Bys w vx x) :
    Calls Try.prog 14 #[.pointer (some ⟨t, 0, none⟩), vx] w fun e w' => e = .returned (.int .i64 (wrE scr.length x.length)) ∧ ∃ O', PTerm w' B t O' ls (wrS scr x) ∧ (∀ k, O' k → O k ∨ w.heap.size ≤ k) ∧ Turned O w w' := by
  have h1 := h.made
  have h0 := h.room
  have HP := hide h
  have hlt := h.lt t h.ot
  obtain ⟨la, lc, s, hT⟩ := h.term
  have HT := hide hT
  obtain ⟨sa, sc, rfl⟩ := owns_slice hT.scr
  have h2 := hT.screen
  have h3 := hT.soft2
  have hst := hT.st t
  have HX := hide hx
  obtain ⟨a1, c1, rfl, -⟩ := bys_form hx
  clear h hT hx
  by_cases hf : 1048576 < scr.length + x.length
  · rw [wrE, wrS, if_pos hf, if_pos hf]
    have hd : decide ((1048576 : Int) - (scr.length : Int) < (x.length : Int)) = true := by simp; omega
    clear hst
    go_enter Try.func14, Try.ntmps14
    go_wp2_with fail
    refine (isMade_yes t w h1).mono ?_
    rintro e w1 ⟨rfl, rfl⟩
    go_wp2
    all_goals first
      | (exfalso; omega)
      | (go_ret; exact ⟨rfl, O, HP.out, fun k e => .inl e, Turned.refl _ _⟩)
  · rw [wrE, wrS, if_neg hf, if_neg hf]
    have hd : decide ((1048576 : Int) - (scr.length : Int) < (x.length : Int)) = false := by simp; omega
    obtain ⟨s', w1, hrun, HO, hg, hb⟩ := run_append_bytes w 33 B _ _ scr x HT.out.scr HX.out (by omega) (by omega)
    obtain ⟨sa', sc', rfl⟩ := owns_slice HO.out
    have hgt : w1.heap[t]? = w.heap[t]? := hg.block t hlt.2 (fun e => (hst e.symm).2 rfl)
    have q1 : w1.cell? ⟨t, 2, none⟩ = some (.slice sa scr.length sc) := (World.cell?_of_block (w := w) hgt).trans h2
    have q2 : w1.frozen? ⟨t, 2, none⟩ = false := (World.frozen?_of_block (w := w) hgt).trans h3
    obtain ⟨r1, r2⟩ := HT.out.written HO.out hg hb
    simp only [List.length_append] at r1 r2 hrun hb
    have R1 := hide r1
    have R2 := hide r2
    have HQ : Hid (∀ u, (w1.setCell ⟨t, 2, none⟩ u).cell? ⟨t, 0, none⟩ = some (.bool true)) := hide fun u => by
      rw [World.cell?_setCell_other _ _ _ _ (by simp)]
      exact (World.cell?_of_block (w := w) hgt).trans h1
    have HB := hide hb
    have HR := hide hrun
    clear r1 r2 hgt hst hg hb hrun
    go_enter Try.func14, Try.ntmps14
    go_wp2_with fail
    refine (isMade_yes t w h1).mono ?_
    rintro e w1 ⟨rfl, rfl⟩
    go_wp2_with (at_builtin; refine Lib.wpList_append_run _ rfl _ _ _ _ rfl _ _ rfl rfl _ _ HR.out ?_)
    all_goals first
      | (exfalso; omega)
      | skip
    go_ret
    refine ⟨rfl, _, ⟨HQ.out _, ⟨_, _, _, R1.out⟩, HP.out.few, HP.out.short, by simp; omega⟩, fun k e => ?_, R2.out⟩
    rcases e with e | e
    · exact .inl e
    · rcases HB.out with e' | e'
      · rw [e'] at e; exact .inl (HT.out.st k e).1
      · rw [e'] at e; cases e; exact .inr (Nat.le_refl _)
theorem wrS_room {scr x : List UInt8} (h : scr.length ≤ 1048576) : (wrS scr x).length ≤ 1048576 := by
  unfold wrS
  split
  · exact h
  · simp; omega
end Go.Proofs.Ytoihblhhifcpnaa

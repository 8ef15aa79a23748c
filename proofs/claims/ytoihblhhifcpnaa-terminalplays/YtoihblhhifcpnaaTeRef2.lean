/- The reference's terminal: Read, Write. -/
import Derived.Test.YtoihblhhifcpnaaTeRef
namespace Go.Proofs.Ytoihblhhifcpnaa
open Go.RowKit

set_option maxRecDepth 100000 in
set_option maxHeartbeats 1000000 in
theorem rread_bad (t : Nat) (n : Int) (w : World) (hn : ¬ (1 ≤ n ∧ n ≤ 1048576)) :
    Calls Try.prog 12 #[.pointer (some ⟨t, 0, none⟩), .int .i64 n] w fun e w' => e = .returned (.tuple #[.slice none 0 0, .int .i64 4]) ∧ w' = w := by
  by_cases hd1 : n < 1
  · have hd : decide (n < 1) = true := by simp; omega
    go_enter Try.func12, Try.ntmps12
    go_wp2
    go_ret2
    exact ⟨rfl, rfl⟩
  · have hd : decide (n < 1) = false := by simp; omega
    have hd2 : decide (1048576 < n) = true := by simp; omega
    go_enter Try.func12, Try.ntmps12
    go_wp2
    go_ret2
    exact ⟨rfl, rfl⟩

set_option maxRecDepth 100000 in
set_option maxHeartbeats 2000000 in
theorem rread_good (B t : Nat) (O : Nat → Prop) (la : Option Addr) (lc : Nat) (s : Value) (ls : List (List UInt8)) (scr : List UInt8) (n : Nat) (w : World) (h : Term w B t 0 O la lc s ls scr) (hn1 : 1 ≤ n) (hn : n ≤ 1048576) (hf : ls.length ≤ 256) (hsh : ∀ j (hj : j < ls.length), ls[j].length ≤ 4096) :
    Calls Try.prog 12 #[.pointer (some ⟨t, 0, none⟩), .int .i64 n] w fun e w' => ∃ v, e = .returned (.tuple #[v, .int .i64 0]) ∧ Bys w' v (headL ls n) ∧ (∃ la' lc', Term w' B t 0 O la' lc' s (restL ls n) scr) ∧ Turned O w w' := by
  have HT := hide h
  have h2 := h.lines
  have h3 := h.soft1
  have hd : decide ((n : Int) < 1) = false := by simp; omega
  have hd2 : decide ((1048576 : Int) < (n : Int)) = false := by simp; omega
  cases ls with
  | nil =>
    simp only [List.length_nil] at h2
    clear h
    go_enter Try.func12, Try.ntmps12
    go_wp2
    go_ret2
    exact ⟨_, rfl, .inl ⟨rfl, rfl⟩, ⟨_, _, HT.out⟩, Turned.refl _ _⟩
  | cons l ls =>
    have hz : ((ls.length : Int) + 1 == 0) = false := by simp; omega
    have hz2 : ¬ (ls.length : Int) + 1 = 0 := by omega
    have hl := hsh 0 (by simp)
    simp only [List.getElem_cons_zero] at hl
    obtain ⟨r, off, rfl, hr⟩ := h.row (by simp)
    obtain ⟨hfz, va, vc, hc, hvc, hby, hkk⟩ := hr 0 (by simp)
    obtain ⟨ro, rt, rs⟩ := h.lo r rfl
    have hcap := h.cap
    simp only [Nat.add_zero, List.getElem_cons_zero, List.length_cons] at hc hfz h2 hcap hvc hby hkk
    have HBy := hide hby
    have HK := hide hkk
    clear hr h hby hkk hsh hf
    by_cases hlt : n < l.length
    · obtain ⟨_, b, o, rfl, hbl, -⟩ := bys_block HBy.out (by omega)
      have hd3 : decide ((n : Int) < (l.length : Int)) = true := by simp; omega
      have hq : ((n : Int) == (l.length : Int)) = false := by simp; omega
      have hq2 : ¬ (n : Int) = (l.length : Int) := by omega
      have hq3 : ¬ n = l.length := by omega
      obtain ⟨hC, hTn⟩ := HT.out.cut hc hlt
      have k1 : (n : Int) < (vc : Int) := by omega
      have k2 : (n : Int) ≤ (l.length : Int) := by omega
      have k3 : ¬ vc = n := by omega
      have k4 : (n : Int) ≤ (vc : Int) := by omega
      have hby1 : Bys (w.setCell ⟨r, off, none⟩ (.slice (some ⟨b, o + n, none⟩) (l.length - n) (vc - n))) (.slice (some ⟨b, o, none⟩) n vc) (l.take n) := by
        have h5 := bys_cut HBy.out 0 n vc (by omega)
        rw [List.drop_zero, Nat.add_zero] at h5
        exact h5.keep fun k e _ => Below.heap_setCell _ _ _ _ (HK.out k e).2.2.1
      have HB1 := hide hby1
      have HC := hide hC
      have HTn := hide hTn
      rw [show restL (l :: ls) n = l.drop n :: ls by rw [restL, if_pos hlt], show headL (l :: ls) n = l.take n from rfl]
      clear hby1 hC hTn
      go_enter Try.func12, Try.ntmps12
      go_wp2_with fail
      go_region
      go_wp2
      go_ret2
      generalize w.setCell ⟨r, off, none⟩ (.slice (some ⟨b, o + n, none⟩) (l.length - n) (vc - n)) = w1 at *
      have hBd : Below w1.heap.size w1 w1.drew := (Below.refl _ _).drew
      exact ⟨_, rfl, HB1.out.below hBd, ⟨_, _, HC.out.below hBd⟩, HTn.out.trans (Turned.of_below (S := O) hBd) (fun _ _ h => h)⟩
    · have hd3 : decide ((n : Int) < (l.length : Int)) = false := by simp; omega
      rw [show restL (l :: ls) n = ls by rw [restL, if_neg hlt], show headL (l :: ls) n = l from List.take_of_length_le (by omega)]
      have k4 : (l.length : Int) ≤ (vc : Int) := by omega
      have k5 : (l.length : Int) ≤ (n : Int) := by omega
      have hva : (va = none ∧ l.length = 0 ∧ vc = 0) ∨ (∃ ad, va = some ad ∧ l.length < n) ∨ ∃ ad, va = some ad ∧ n = l.length := by
        have hva : (va = none ∧ l.length = 0 ∧ vc = 0) ∨ ∃ ad, va = some ad := by
          rcases HBy.out with ⟨h5, h6⟩ | ⟨a, c, h5, h6⟩ | ⟨b, o, c, h5, _⟩
          · simp only [Value.slice.injEq] at h5
            exact .inl ⟨h5.1, h5.2.1, h5.2.2⟩
          · simp only [Value.slice.injEq] at h5
            exact .inr ⟨_, h5.1⟩
          · simp only [Value.slice.injEq] at h5
            exact .inr ⟨_, h5.1⟩
        rcases hva with h | ⟨ad, h⟩
        · exact .inl h
        · rcases Nat.lt_or_ge l.length n with h1 | h1
          · exact .inr (.inl ⟨ad, h, h1⟩)
          · exact .inr (.inr ⟨ad, h, by omega⟩)
      have HD := hide (fun la n' h5 h6 => HT.out.dropped (w1 := w) rfl rfl rfl rfl (fun k hk => rfl) (fun j => ⟨rfl, rfl⟩) la n' h5 h6)
      have HTo : Hid (∀ W, Turned (fun k => k = t ∨ k = r) w W → Turned O w W) := hide fun W h => h.mono fun k e => by
        rcases e with rfl | rfl
        · exact HT.out.ot
        · exact ro
      have HBk : Hid (∀ u, Bys (w.setCell ⟨t, 0, none⟩ u) (.slice va l.length vc) l) := hide fun u => HBy.out.keep fun k e _ => Below.heap_setCell _ _ _ _ (HK.out k e).2.1
      clear HBy HK
      rcases hva with ⟨rfl, hl0, rfl⟩ | ⟨ad, rfl, hcn⟩ | ⟨ad, rfl, rfl⟩
      case' inr.inr =>
        clear hd3 k5 hlt
        have hd3 : decide ((l.length : Int) < (l.length : Int)) = false := by simp
        have hd4 : ¬ l.length < l.length := by omega
      case' inl =>
        rw [hl0] at hc
        obtain rfl : l = [] := List.length_eq_zero_iff.1 hl0
        clear hd3 k4 k5 hlt hvc hl
        have hd3 : decide ((n : Int) < 0) = false := by simp
        have k5 : (0 : Int) < (n : Int) := by omega
        have k6 : 0 < n := hn1
      all_goals
        by_cases h1 : lc = 1
        · obtain rfl : ls = [] := List.length_eq_zero_iff.1 (by omega)
          subst h1
          simp only [List.length_nil, Nat.zero_add] at h2
          clear hz hz2 hcap
          go_enter Try.func12, Try.ntmps12
          go_wp2
          go_ret2
          obtain ⟨r1, r2⟩ := HD.out (some ⟨r, off, none⟩) 0 (.inr ⟨trivial, rfl⟩) rfl
          exact ⟨_, rfl, HBk.out _, ⟨_, _, r1⟩, HTo.out _ r2⟩
        · have k7 : (1 : Int) < (lc : Int) := by omega
          have k8 : (1 : Int) ≤ (ls.length : Int) + 1 := by omega
          go_enter Try.func12, Try.ntmps12
          go_wp2
          go_ret2
          obtain ⟨r1, r2⟩ := HD.out (some ⟨r, off + 1, none⟩) ls.length (.inl rfl) rfl
          exact ⟨_, rfl, HBk.out _, ⟨_, _, r1⟩, HTo.out _ r2⟩

theorem rread_any (B t : Nat) (O : Nat → Prop) (la : Option Addr) (lc : Nat) (s : Value) (ls : List (List UInt8)) (scr : List UInt8) (n : Int) (w : World) (h : Term w B t 0 O la lc s ls scr) (hf : ls.length ≤ 256) (hsh : ∀ j (hj : j < ls.length), ls[j].length ≤ 4096) :
    Calls Try.prog 12 #[.pointer (some ⟨t, 0, none⟩), .int .i64 n] w fun e w' => ∃ v, e = .returned (.tuple #[v, .int .i64 (rdE n)]) ∧ Bys w' v (rdH ls n) ∧ (∃ la' lc', Term w' B t 0 O la' lc' s (rdR ls n) scr) ∧ Turned O w w' := by
  by_cases hn : 1 ≤ n ∧ n ≤ 1048576
  · have hr := rOk_yes hn.1 hn.2
    rw [rdE, rdH, rdR, if_pos hr, if_pos hr, if_pos hr]
    obtain ⟨m, rfl⟩ : ∃ m : Nat, n = m := ⟨n.toNat, by omega⟩
    rw [Int.toNat_natCast]
    exact rread_good B t O la lc s ls scr m w h (by omega) (by omega) hf hsh
  · have hr : ¬ rOk n = true := by rw [rOk_no hn]; simp
    rw [rdE, rdH, rdR, if_neg hr, if_neg hr, if_neg hr]
    refine (rread_bad t n w hn).mono ?_
    rintro e w' ⟨rfl, rfl⟩
    exact ⟨_, rfl, .inl ⟨rfl, rfl⟩, ⟨_, _, h⟩, Turned.refl _ _⟩

set_option maxRecDepth 100000 in
set_option maxHeartbeats 1000000 in
theorem rwrite_any (B t : Nat) (O : Nat → Prop) (la : Option Addr) (lc : Nat) (s : Value) (ls : List (List UInt8)) (scr : List UInt8) (vx : Value) (x : List UInt8) (w : World) (h : Term w B t 0 O la lc s ls scr) (hx : Bys w vx x) (h0 : scr.length ≤ 1048576) (hxs : x.length ≤ 140737488351232) :
    Calls Try.prog 16 #[.pointer (some ⟨t, 0, none⟩), vx] w fun e w' => e = .returned (.int .i64 (wrE scr.length x.length)) ∧ ∃ O' s', Term w' B t 0 O' la lc s' ls (wrS scr x) ∧ (∀ k, O' k → O k ∨ w.heap.size ≤ k) ∧ Turned O w w' := by
  have HT := hide h
  have hlt := h.lt t h.ot
  obtain ⟨sa, sc, rfl⟩ := owns_slice h.scr
  have h2 := h.screen
  have h3 := h.soft2
  have hst := h.st t
  have HX := hide hx
  obtain ⟨a1, c1, rfl, -⟩ := bys_form hx
  clear h hx
  by_cases hf : 1048576 < scr.length + x.length
  · rw [wrE, wrS, if_pos hf, if_pos hf]
    have hd : decide ((1048576 : Int) < (scr.length : Int) + (x.length : Int)) = true := by simp; omega
    clear hst
    go_enter Try.func16, Try.ntmps16
    go_wp2
    all_goals first
      | (exfalso; omega)
      | (go_ret; exact ⟨rfl, O, _, HT.out, fun k e => .inl e, Turned.refl _ _⟩)
  · rw [wrE, wrS, if_neg hf, if_neg hf]
    have hd : decide ((1048576 : Int) < (scr.length : Int) + (x.length : Int)) = false := by simp; omega
    obtain ⟨s', w1, hrun, HO, hg, hb⟩ := run_append_bytes w 33 B _ _ scr x HT.out.scr HX.out (by omega) (by omega)
    obtain ⟨sa', sc', rfl⟩ := owns_slice HO.out
    have hgt : w1.heap[t]? = w.heap[t]? := hg.block t hlt.2 (fun e => (hst e.symm).2 rfl)
    have q1 : w1.cell? ⟨t, 1, none⟩ = some (.slice sa scr.length sc) := (World.cell?_of_block (w := w) hgt).trans h2
    have q2 : w1.frozen? ⟨t, 1, none⟩ = false := (World.frozen?_of_block (w := w) hgt).trans h3
    obtain ⟨r1, r2⟩ := HT.out.written HO.out hg hb
    simp only [List.length_append] at r1 r2 hrun hb
    have R1 := hide r1
    have R2 := hide r2
    have HB := hide hb
    have HR := hide hrun
    clear r1 r2 hgt hst hg hb hrun
    go_enter Try.func16, Try.ntmps16
    go_wp2_with (at_builtin; refine Lib.wpList_append_run _ rfl _ _ _ _ rfl _ _ rfl rfl _ _ HR.out ?_)
    all_goals first
      | (exfalso; omega)
      | skip
    go_ret
    refine ⟨rfl, _, _, R1.out, fun k e => ?_, R2.out⟩
    rcases e with e | e
    · exact .inl e
    · rcases HB.out with e' | e'
      · rw [e'] at e; exact .inl (HT.out.st k e).1
      · rw [e'] at e; cases e; exact .inr (Nat.le_refl _)
end Go.Proofs.Ytoihblhhifcpnaa

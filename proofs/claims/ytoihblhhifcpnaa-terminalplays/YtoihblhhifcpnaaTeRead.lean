/- Read and Write of a terminal. -/
import Derived.Test.YtoihblhhifcpnaaTeCopy
namespace Go.Proofs.Ytoihblhhifcpnaa
open Go.RowKit

/-- What is left of lines, read from their first one at most n bytes. -/
def restL : List (List UInt8) → Nat → List (List UInt8)
  | [], _ => []
  | l :: ls, n => if n < l.length then l.drop n :: ls else ls
/-- What is read. -/
def headL : List (List UInt8) → Nat → List UInt8
  | [], _ => []
  | l :: _, n => l.take n
theorem headL_len (ls : List (List UInt8)) (n : Nat) : (headL ls n).length ≤ n := by
  cases ls with
  | nil => simp [headL]
  | cons l ls => simp [headL]; omega
theorem restL_few {ls : List (List UInt8)} {n : Nat} (h : ls.length ≤ 256) : (restL ls n).length ≤ 256 := by
  cases ls with
  | nil => simp [restL]
  | cons l ls =>
    simp only [List.length_cons] at h
    simp only [restL]
    split
    · simpa using h
    · omega
theorem restL_short {ls : List (List UInt8)} {n : Nat} (h : ∀ j (hj : j < ls.length), ls[j].length ≤ 4096) : ∀ j (hj : j < (restL ls n).length), (restL ls n)[j].length ≤ 4096 := by
  have h' : ∀ l ∈ ls, l.length ≤ 4096 := fun l hl => by
    obtain ⟨j, hj, rfl⟩ := List.getElem_of_mem hl
    exact h j hj
  suffices hh : ∀ l ∈ restL ls n, l.length ≤ 4096 from fun j hj => hh _ (List.getElem_mem hj)
  cases ls with
  | nil => simp [restL]
  | cons l ls =>
    intro x hx
    simp only [restL] at hx
    split at hx
    · rcases List.mem_cons.1 hx with rfl | hx
      · have := h' l (by simp)
        simp; omega
      · exact h' x (by simp [hx])
    · exact h' x (by simp [hx])

set_option maxRecDepth 100000 in
set_option maxHeartbeats 1000000 in
theorem dropFirst_any (B t : Nat) (O : Nat → Prop) (la : Option Addr) (lc : Nat) (s : Value) (l : List UInt8) (ls : List (List UInt8)) (scr : List UInt8) (w : World) (h : Term w B t 1 O la lc s (l :: ls) scr) :
    Calls Try.prog 28 #[.pointer (some ⟨t, 0, none⟩)] w fun e w' => e = .returned (.tuple #[]) ∧ (∃ la' lc', Term w' B t 1 O la' lc' s ls scr) ∧ Turned (fun k => k = t ∨ la.map (·.block) = some k) w w' ∧ w'.cell? ⟨t, 0, none⟩ = w.cell? ⟨t, 0, none⟩ := by
  have HT := hide h
  have h2 := h.lines
  have h3 := h.soft1
  obtain ⟨r, off, rfl, hr⟩ := h.row (by simp)
  obtain ⟨hf, va, vc, hc, -⟩ := hr 0 (by simp)
  obtain ⟨ro, rt, rs⟩ := h.lo r rfl
  have hcap := h.cap
  simp only [Nat.add_zero, List.getElem_cons_zero, List.length_cons] at hc hf h2 hcap
  clear hr h
  have q1 : (w.setCell ⟨r, off, none⟩ (.slice none 0 0)).cell? ⟨t, 1, none⟩ = some (.slice (some ⟨r, off, none⟩) (ls.length + 1) lc) := by
    rw [World.cell?_setCell_other _ _ _ _ (by simp)]; exact h2
  have q2 : (w.setCell ⟨r, off, none⟩ (.slice none 0 0)).frozen? ⟨t, 1, none⟩ = false := by
    rw [World.frozen?_setCell]; exact h3
  have HD := hide (fun la n' h5 h6 => HT.out.dropped (w1 := w.setCell ⟨r, off, none⟩ (.slice none 0 0)) (by simp [World.setCell]) rfl rfl rfl (fun k hk => Below.heap_setCell _ _ _ _ hk) (fun j => ⟨by rw [World.frozen?_setCell], by rw [World.cell?_setCell_other _ _ _ _ (by simp)]⟩) la n' h5 h6)
  have q3 : ∀ u, ((w.setCell ⟨r, off, none⟩ (.slice none 0 0)).setCell ⟨t, 1, none⟩ u).cell? ⟨t, 0, none⟩ = w.cell? ⟨t, 0, none⟩ := fun u => by
    rw [World.cell?_setCell_other _ _ _ _ (by simp), World.cell?_setCell_other _ _ _ _ (by simp)]
  have HQ3 := hide q3
  clear q3
  by_cases h1 : lc = 1
  · obtain rfl : ls = [] := List.length_eq_zero_iff.1 (by omega)
    subst h1
    simp only [List.length_nil] at *
    go_enter Try.func28, Try.ntmps28
    go_wp2
    go_end0
    obtain ⟨r1, r2⟩ := HD.out (some ⟨r, off, none⟩) 0 (.inr ⟨trivial, rfl⟩) rfl
    exact ⟨rfl, ⟨_, _, r1⟩, r2.mono fun k e => e.imp id fun e => by rw [e]; rfl, HQ3.out _⟩
  · have k1 : (1 : Int) < (lc : Int) := by omega
    have k2 : (1 : Int) ≤ (ls.length : Int) + 1 := by omega
    go_enter Try.func28, Try.ntmps28
    go_wp2
    go_end0
    obtain ⟨r1, r2⟩ := HD.out (some ⟨r, off + 1, none⟩) ls.length (.inl rfl) rfl
    exact ⟨rfl, ⟨_, _, r1⟩, r2.mono fun k e => e.imp id fun e => by rw [e]; rfl, HQ3.out _⟩

/-- What stands behind take. -/
theorem take_keep {w w1 w2 : World} {O : Nat → Prop} (hT : Turned O w w1) (hB : Below w1.heap.size w1 w2) : Turned O w w2 :=
  hT.trans (Turned.of_below (S := O) hB) (fun _ _ h => h)

set_option maxRecDepth 100000 in
set_option maxHeartbeats 2000000 in
theorem take_any (B t : Nat) (O : Nat → Prop) (la : Option Addr) (lc : Nat) (s : Value) (l : List UInt8) (ls : List (List UInt8)) (scr : List UInt8) (n : Nat) (w : World) (h : Term w B t 1 O la lc s (l :: ls) scr) (hl : l.length ≤ 4096) (hn1 : 1 ≤ n) (hn : n ≤ 1048576) :
    Calls Try.prog 26 #[.pointer (some ⟨t, 0, none⟩), .int .i64 n] w fun e w' => ∃ q, e = .returned (.slice (some ⟨q, 0, none⟩) (l.take n).length (l.take n).length) ∧ w'.ownsRow w.heap.size 5 1 (.slice (some ⟨q, 0, none⟩) (l.take n).length (l.take n).length) (l.take n).length ((l.take n).map bv) ∧ (∃ la' lc', Term w' B t 1 O la' lc' s (restL (l :: ls) n) scr) ∧ Turned O w w' ∧ w'.cell? ⟨t, 0, none⟩ = w.cell? ⟨t, 0, none⟩ := by
  have HT := hide h
  have h2 := h.lines
  have h3 := h.soft1
  have htl := h.lt t h.ot
  obtain ⟨r, off, rfl, hr⟩ := h.row (by simp)
  obtain ⟨hf, va, vc, hc, hvc, hby, hkk⟩ := hr 0 (by simp)
  obtain ⟨ro, rt, rs⟩ := h.lo r rfl
  have hcap := h.cap
  simp only [Nat.add_zero, List.getElem_cons_zero, List.length_cons] at hc hf h2 hcap hvc hby hkk
  have HBy := hide hby
  have HK := hide hkk
  clear hr h hby hkk
  by_cases hlt : n < l.length
  · obtain ⟨_, b, o, rfl, hbl, -⟩ := bys_block HBy.out (by omega)
    have hd : decide ((n : Int) < (l.length : Int)) = true := by simp; omega
    obtain ⟨hC, hTn⟩ := HT.out.cut hc hlt
    have k1 : (n : Int) < (vc : Int) := by omega
    have k2 : (n : Int) ≤ (l.length : Int) := by omega
    have k3 : ¬ vc = n := by omega
    have k4 : (n : Int) ≤ (vc : Int) := by omega
    have hby1 : Bys (w.setCell ⟨r, off, none⟩ (.slice (some ⟨b, o + n, none⟩) (l.length - n) (vc - n))) (.slice (some ⟨b, o, none⟩) n vc) (l.take n) := by
      have h5 := bys_cut HBy.out 0 n vc (by omega)
      rw [List.drop_zero, Nat.add_zero] at h5
      exact h5.keep fun k e _ => Below.heap_setCell _ _ _ _ (HK.out k e).2.2.1
    have HB1 := hide hby1
    have HC := hide hC
    have HTn := hide hTn
    have hq0 : (w.setCell ⟨r, off, none⟩ (.slice (some ⟨b, o + n, none⟩) (l.length - n) (vc - n))).cell? ⟨t, 0, none⟩ = w.cell? ⟨t, 0, none⟩ := World.cell?_of_block (w := w) (Below.heap_setCell _ _ _ _ (Ne.symm rt))
    have HQ0 := hide hq0
    have hre : restL (l :: ls) n = l.drop n :: ls := by rw [restL, if_pos hlt]
    rw [hre]
    have htk : (l.take n).length = n := by simp; omega
    have HTK := hide htk
    clear hby1 hC hTn hq0 hre htk
    go_enter Try.func26, Try.ntmps26
    go_wp2_with fail
    go_region
    go_wp2_with fail
    generalize w.setCell ⟨r, off, none⟩ (.slice (some ⟨b, o + n, none⟩) (l.length - n) (vc - n)) = w1 at *
    have hBd : Below w1.heap.size w1 w1.drew := (Below.refl _ _).drew
    refine (copied_any _ (l.take n) _ (by have := HB1.out.below hBd; exact this) (by rw [HTK.out]; omega)).mono ?_
    rintro e w2 ⟨rfl, hown, hB2⟩
    have HO := hide hown
    clear hown
    go_wp2
    go_ret
    have hB12 : Below w1.heap.size w1 w2 := hBd.trans hB2
    exact ⟨w1.heap.size, by rw [List.length_take]; rfl, owns_mono HO.out HTn.out.size, ⟨_, _, HC.out.below hB12⟩, take_keep HTn.out hB12, (hB12.cell (p := ⟨t, 0, none⟩) (Nat.lt_of_lt_of_le htl.2 HTn.out.size)).trans HQ0.out⟩
  · have hd : decide ((n : Int) < (l.length : Int)) = false := by simp; omega
    have hre : restL (l :: ls) n = ls := by rw [restL, if_neg hlt]
    have htk : l.take n = l := List.take_of_length_le (by omega)
    rw [hre, htk]
    clear hre htk
    have k4 : (l.length : Int) ≤ (vc : Int) := by omega
    have k5 : (l.length : Int) ≤ (n : Int) := by omega
    have hva : (va = none ∧ l.length = 0 ∧ vc = 0) ∨ ∃ ad, va = some ad := by
      rcases HBy.out with ⟨h5, h6⟩ | ⟨a, c, h5, h6⟩ | ⟨b, o, c, h5, _⟩
      · simp only [Value.slice.injEq] at h5
        exact .inl ⟨h5.1, h5.2.1, h5.2.2⟩
      · simp only [Value.slice.injEq] at h5
        exact .inr ⟨_, h5.1⟩
      · simp only [Value.slice.injEq] at h5
        exact .inr ⟨_, h5.1⟩
    have hva' : (va = none ∧ l.length = 0 ∧ vc = 0) ∨ (∃ ad, va = some ad ∧ l.length < n) ∨ ∃ ad, va = some ad ∧ n = l.length := by
      rcases hva with h | ⟨ad, h⟩
      · exact .inl h
      · rcases Nat.lt_or_ge l.length n with h1 | h1
        · exact .inr (.inl ⟨ad, h, h1⟩)
        · exact .inr (.inr ⟨ad, h, by omega⟩)
    clear hva
    rcases hva' with ⟨rfl, hl0, rfl⟩ | ⟨ad, rfl, hcn⟩ | ⟨ad, rfl, rfl⟩
    case' inr.inr =>
      clear hd k5 hlt
      have hd : decide ((l.length : Int) < (l.length : Int)) = false := by simp
      have hd2 : ¬ l.length < l.length := by omega
    case' inl =>
      rw [hl0] at hc HBy
      obtain rfl : l = [] := List.length_eq_zero_iff.1 hl0
      clear hd k4 k5 hlt hvc hl
      have hd : decide ((n : Int) < 0) = false := by simp
      have k5 : (0 : Int) < (n : Int) := by omega
      have k6 : 0 < n := hn1
    all_goals
      go_enter Try.func26, Try.ntmps26
      go_wp2_with fail
      refine (dropFirst_any B t O _ lc s _ ls scr _ HT.out).mono ?_
      rintro e w1 ⟨rfl, hC, hT1, hq1⟩
      have HC := hide hC
      clear hC
      have HB1 := hide (HBy.out.keep (W' := w1) fun k e hk => hT1.block k hk (fun e' => by
        obtain ⟨q1, q2, q3, q4⟩ := HK.out k e
        rcases e' with e' | e'
        · exact q2 e'
        · simp only [Option.map_some, Option.some.injEq] at e'
          exact q3 e'.symm))
      have HT1 := hide (hT1.mono (S' := O) fun k e => by
        rcases e with rfl | e
        · exact HT.out.ot
        · simp only [Option.map_some, Option.some.injEq] at e
          rw [← e]; exact ro)
      clear hT1
      go_wp2_with fail
      refine (copied_any _ _ _ HB1.out (by first | omega | simp)).mono ?_
      rintro e w2 ⟨rfl, hown, hB2⟩
      have HO := hide hown
      clear hown
      go_wp2
      go_ret
      obtain ⟨la', lc', hC⟩ := HC.out
      exact ⟨_, rfl, owns_mono HO.out HT1.out.size, ⟨la', lc', hC.below hB2⟩, take_keep HT1.out hB2, (hB2.cell (p := ⟨t, 0, none⟩) (Nat.lt_of_lt_of_le htl.2 HT1.out.size)).trans hq1⟩
end Go.Proofs.Ytoihblhhifcpnaa

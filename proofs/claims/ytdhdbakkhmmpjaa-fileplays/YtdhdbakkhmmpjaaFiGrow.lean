/- growTo, Truncate, WriteAt. -/
import Derived.Test.YtdhdbakkhmmpjaaFiFile
namespace Go.Proofs.Ytdhdbakkhmmpjaa
open Go.RowKit

/-- Bytes, grown to n by zeros. -/
def grow (l : List UInt8) (n : Nat) : List UInt8 := l ++ List.replicate (n - l.length) 0
theorem grow_len (l : List UInt8) (n : Nat) : (grow l n).length = max l.length n := by simp [grow]; omega
theorem grow_no {l : List UInt8} {n : Nat} (h : n ≤ l.length) : grow l n = l := by simp [grow, Nat.sub_eq_zero_of_le h]

/-- All but the blocks S stays. -/
structure Turned (S : Nat → Prop) (w w' : World) : Prop where
  os : w'.os = w.os
  tape : w'.tape = w.tape
  output : w'.output = w.output
  size : w.heap.size ≤ w'.heap.size
  block : ∀ k, k < w.heap.size → ¬ S k → w'.heap[k]? = w.heap[k]?
theorem Turned.refl (S : Nat → Prop) (w : World) : Turned S w w := ⟨rfl, rfl, rfl, Nat.le_refl _, fun _ _ _ => rfl⟩
theorem Turned.trans {S S' : Nat → Prop} {a b c : World} (h : Turned S a b) (h' : Turned S' b c) (hs : ∀ k, k < a.heap.size → S' k → S k) : Turned S a c :=
  ⟨h'.os.trans h.os, h'.tape.trans h.tape, h'.output.trans h.output, Nat.le_trans h.size h'.size, fun k hk hn => (h'.block k (Nat.lt_of_lt_of_le hk h.size) (fun e => hn (hs k hk e))).trans (h.block k hk hn)⟩
theorem Turned.below {S : Nat → Prop} {B : Nat} {w w' : World} (h : Turned S w w') (hS : ∀ k, S k → B ≤ k) (hB : B ≤ w.heap.size) : Below B w w' :=
  ⟨h.os, h.tape, h.output, h.size, fun k hk => h.block k (Nat.lt_of_lt_of_le hk hB) (fun e => by have := hS k e; omega)⟩
theorem Turned.of_below {S : Nat → Prop} {w w' : World} (h : Below w.heap.size w w') : Turned S w w' := ⟨h.os, h.tape, h.output, h.size, fun k hk _ => h.block k hk⟩

set_option maxRecDepth 100000 in
set_option maxHeartbeats 1000000 in
theorem growTo_no (g b cap : Nat) (l : List UInt8) (n : Nat) (w : World) (h : FileAt w g b cap l) (hn : n ≤ l.length) :
    Calls Try.prog 29 #[.pointer (some ⟨g, 0, none⟩), .int .i64 n] w fun e w' => e = .returned (.tuple #[]) ∧ w' = w := by
  have h2 := h.data
  clear h
  have hd : decide ((l.length : Int) < (n : Int)) = false := by simp; omega
  go_enter Try.func29, Try.ntmps29
  go_wp2
  go_end0
  exact ⟨rfl, rfl⟩

/-- What stands behind 'f.data = append(..)'. -/
theorem grown_file {w w' : World} {g b cap b' cap' : Nat} {l l' : List UInt8} {v : Value} (h : FileAt w g b cap l) (hr : RowAt w' b' cap' l') (hg : w.drew.grownBy w' (some b)) (hb : b' = b ∨ b' = w.drew.heap.size) (hv : v = .slice (some ⟨b', 0, none⟩) l'.length cap') :
    FileAt (w'.setCell ⟨g, 1, none⟩ v) g b' cap' l' ∧ (b' = b ∨ w.heap.size ≤ b') ∧ Turned (fun k => k = g ∨ k = b) w (w'.setCell ⟨g, 1, none⟩ v) := by
  have e1 : w.drew.heap = w.heap := rfl
  have e2 : w.drew.os = w.os := rfl
  have e3 : w.drew.tape = w.tape := rfl
  have e4 : w.drew.output = w.output := rfl
  have hgl := h.lt
  have hbl := h.row.lt
  have hap := h.apart
  have hgg : w'.heap[g]? = w.heap[g]? := (hg.block g (by rw [e1]; exact hgl) (by intro e; cases e; exact hap rfl)).trans (by rw [e1])
  have hne : b' ≠ g := by
    rcases hb with rfl | rfl
    · exact hap
    · rw [e1]; omega
  have hsz : w.heap.size ≤ w'.heap.size := by have := hg.size; rw [e1] at this; exact this
  refine ⟨⟨?_, ?_, ?_, ?_, hne⟩, ?_, ⟨hg.os.trans e2, hg.tape.trans e3, hg.output.trans e4, ?_, ?_⟩⟩
  · rw [World.cell?_setCell_other _ _ _ _ (by simp)]
    exact (World.cell?_of_block (w := w) hgg).trans h.made
  · rw [← hv]
    exact World.cell?_setCell_same _ _ _ ((World.cell?_of_block (w := w) hgg).trans h.data)
  · rw [World.frozen?_setCell]
    exact (World.frozen?_of_block (w := w) hgg).trans h.soft
  · exact hr.keep (Below.heap_setCell _ _ _ _ hne)
  · rcases hb with rfl | rfl
    · exact .inl rfl
    · right; rw [e1]; exact Nat.le_refl _
  · simpa [World.setCell] using hsz
  · intro k hk hn
    rw [Below.heap_setCell _ _ _ _ (fun e => hn (.inl e))]
    exact (hg.block k (by rw [e1]; exact hk) (by intro e; cases e; exact hn (.inr rfl))).trans (by rw [e1])

set_option maxRecDepth 100000 in
set_option maxHeartbeats 1000000 in
theorem growTo_yes (g b cap : Nat) (l : List UInt8) (n : Nat) (w : World) (h : FileAt w g b cap l) (hn : l.length < n) (hm : n ≤ 1048576) :
    Calls Try.prog 29 #[.pointer (some ⟨g, 0, none⟩), .int .i64 n] w fun e w' => e = .returned (.tuple #[]) ∧ ∃ b' cap', FileAt w' g b' cap' (grow l n) ∧ (b' = b ∨ w.heap.size ≤ b') ∧ Turned (fun k => k = g ∨ k = b) w w' := by
  have h2 := h.data
  have h3 := h.soft
  have hap := h.apart
  have hgl := h.lt
  have HF := hide h
  clear h
  have hd : decide ((l.length : Int) < (n : Int)) = true := by simp; omega
  go_enter Try.func29, Try.ntmps29
  go_wp2_with fail
  go_region_law (refine step_append_zeros _ (by rfl) _ _ (by rfl) b cap l (n - l.length) (HF.out.row.keep (by rfl)) (by omega) (by omega) (by rfl) _ (by rfl) (by first | omega | (rw [IntKind.wrap_i64]; omega)) ?_; intro b' cap' w' HR' hgr' hb'; have q1 := (hgr'.cell_far ⟨g, 1, none⟩ (by exact hgl) (by intro e; cases e; exact hap rfl)).trans h2; have q2 := (hgr'.frozen_far ⟨g, 1, none⟩ (by exact hgl) (by intro e; cases e; exact hap rfl)).trans h3)
  all_goals
    go_end0
    have hl' : (l ++ List.replicate (n - l.length) (0 : UInt8)).length = l.length + (n - l.length) := by simp
    exact ⟨rfl, b', cap', grown_file HF.out HR'.out hgr' hb' (by rw [show (grow l n).length = l.length + (n - l.length) from hl'])⟩

theorem growTo_any (g b cap : Nat) (l : List UInt8) (n : Nat) (w : World) (h : FileAt w g b cap l) (hm : n ≤ 1048576) :
    Calls Try.prog 29 #[.pointer (some ⟨g, 0, none⟩), .int .i64 n] w fun e w' => e = .returned (.tuple #[]) ∧ ∃ b' cap', FileAt w' g b' cap' (grow l n) ∧ (b' = b ∨ w.heap.size ≤ b') ∧ Turned (fun k => k = g ∨ k = b) w w' := by
  by_cases hn : n ≤ l.length
  · refine (growTo_no g b cap l n w h hn).mono ?_
    rintro e w' ⟨rfl, rfl⟩
    rw [grow_no hn]
    exact ⟨rfl, b, cap, h, .inl rfl, Turned.refl _ _⟩
  · exact growTo_yes g b cap l n w h (by omega) hm

theorem cut_file {w : World} {g b cap n : Nat} {l : List UInt8} (h : FileAt w g b cap l) (hn : n ≤ l.length) :
    FileAt (w.setCell ⟨g, 1, none⟩ (.slice (some ⟨b, 0, none⟩) n n)) g b n (l.take n) ∧ Turned (fun k => k = g ∨ k = b) w (w.setCell ⟨g, 1, none⟩ (.slice (some ⟨b, 0, none⟩) n n)) := by
  refine ⟨⟨?_, ?_, ?_, (h.row.shorter n hn).keep (Below.heap_setCell _ _ _ _ h.apart), h.apart⟩, ⟨rfl, rfl, rfl, by simp [World.setCell], fun k hk hn => Below.heap_setCell _ _ _ _ (fun e => hn (.inl e))⟩⟩
  · rw [World.cell?_setCell_other _ _ _ _ (by simp)]; exact h.made
  · rw [World.cell?_setCell_same _ _ _ h.data]; simp [Nat.min_eq_left hn]
  · rw [World.frozen?_setCell]; exact h.soft

/-- A file cut, or grown, to n bytes. -/
def trunc (l : List UInt8) (n : Nat) : List UInt8 := grow (l.take n) n
theorem trunc_len (l : List UInt8) (n : Nat) : (trunc l n).length = n := by rw [trunc, grow_len]; simp; omega

set_option maxRecDepth 100000 in
set_option maxHeartbeats 1000000 in
theorem truncate_bad (g b cap : Nat) (l : List UInt8) (n : Int) (w : World) (h : FileAt w g b cap l) (hr : inR n = false) :
    Calls Try.prog 16 #[.pointer (some ⟨g, 0, none⟩), .int .i64 n] w fun e w' => e = .returned (.int .i64 4) ∧ Below w.heap.size w w' := by
  have h1 := h.made
  clear h
  have HR : Hid (([n] : List Int).all inR = false) := hide (by simpa using hr)
  clear hr
  go_enter Try.func16, Try.ntmps16
  go_wp2_with fail
  refine (isMade_yes g w h1).mono ?_
  rintro e w1 ⟨rfl, rfl⟩
  go_wp2_with fail
  refine (inRange_any _ [n] _ (ints_one _ _) (by simp)).mono ?_
  rintro e w2 ⟨rfl, rfl⟩
  rw [HR.out]
  go_wp2
  go_ret
  exact ⟨rfl, (Below.refl _ _).alloc (Nat.le_refl _) _⟩

set_option maxRecDepth 100000 in
set_option maxHeartbeats 1000000 in
theorem truncate_good (g b cap : Nat) (l : List UInt8) (n : Nat) (w : World) (h : FileAt w g b cap l) (hn : n ≤ 1048576) :
    Calls Try.prog 16 #[.pointer (some ⟨g, 0, none⟩), .int .i64 n] w fun e w' => e = .returned (.int .i64 0) ∧ ∃ b' cap', FileAt w' g b' cap' (trunc l n) ∧ (b' = b ∨ w.heap.size ≤ b') ∧ Turned (fun k => k = g ∨ k = b) w w' := by
  have h1 := h.made
  have HF := hide h
  clear h
  have HR : Hid (([(n : Int)] : List Int).all inR = true) := hide (by simp [inR]; omega)
  go_enter Try.func16, Try.ntmps16
  go_wp2_with fail
  refine (isMade_yes g w h1).mono ?_
  rintro e w1 ⟨rfl, rfl⟩
  go_wp2_with fail
  refine (inRange_any _ [(n : Int)] _ (ints_one _ _) (by simp)).mono ?_
  rintro e w2 ⟨rfl, rfl⟩
  rw [HR.out]
  have hBa : Below w1.heap.size w1 (w1.alloc (Obj.cells #[.int .i64 (n : Int)] 3)) := (Below.refl _ _).alloc (Nat.le_refl _) _
  have HF2 := hide (HF.out.below hBa)
  generalize w1.alloc (Obj.cells #[.int .i64 (n : Int)] 3) = w2 at *
  have h2 := HF2.out.data
  have h3 := HF2.out.row.len
  have h4 := HF2.out.soft
  clear HF HR h1
  by_cases hc : n < l.length
  · have hd : decide ((n : Int) < (l.length : Int)) = true := by simp; omega
    go_wp2_with fail
    obtain ⟨hF3, hT3⟩ := cut_file HF2.out (n := n) (by omega)
    have HF3 := hide hF3
    clear hF3
    generalize w2.setCell ⟨g, 1, none⟩ (.slice (some ⟨b, 0, none⟩) n n) = w3 at *
    refine (growTo_any g b n (l.take n) n _ HF3.out hn).mono ?_
    rintro e w4 ⟨rfl, b', cap', hF4, hb4, hT4⟩
    have HF4 := hide hF4
    clear hF4
    go_wp2
    go_ret
    have hs := hT3.size
    have hs2 := hBa.size
    refine ⟨rfl, b', cap', HF4.out, by omega, ((Turned.of_below hBa).trans hT3 (fun k hk => ?_)).trans hT4 (fun k hk => ?_)⟩
    · exact id
    · exact id
  · have hd : decide ((n : Int) < (l.length : Int)) = false := by simp; omega
    go_wp2_with fail
    refine (growTo_any g b cap l n _ HF2.out hn).mono ?_
    rintro e w4 ⟨rfl, b', cap', hF4, hb4, hT4⟩
    have HF4 := hide hF4
    clear hF4
    go_wp2
    go_ret
    have hs2 := hBa.size
    refine ⟨rfl, b', cap', ?_, by omega, (Turned.of_below hBa).trans hT4 (fun k hk => id)⟩
    rw [trunc, List.take_of_length_le (by omega)]
    exact HF4.out
end Go.Proofs.Ytdhdbakkhmmpjaa

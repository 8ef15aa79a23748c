/- growTo, Truncate, WriteAt. -/
import Derived.Test.YtbffnamdpmjfnaaTeRow
import Derived.Test.YtbffnamdpmjfnaaFiFile
namespace Go.Proofs.Ytbffnamdpmjfnaa
open Go.RowKit

/-- Bytes, grown to n by zeros. -/
def grow (l : List UInt8) (n : Nat) : List UInt8 := l ++ List.replicate (n - l.length) 0
theorem grow_len (l : List UInt8) (n : Nat) : (grow l n).length = max l.length n := by simp [grow]; omega
theorem grow_no {l : List UInt8} {n : Nat} (h : n ≤ l.length) : grow l n = l := by simp [grow, Nat.sub_eq_zero_of_le h]

set_option maxRecDepth 100000 in
set_option maxHeartbeats 1000000 in
theorem growTo_no (g b cap : Nat) (l : List UInt8) (n : Nat) (w : World) (h : FileAt w g b cap l) (hn : n ≤ l.length) :
    Calls Try.prog 92 #[.pointer (some ⟨g, 0, none⟩), .int .i64 n] w fun e w' => e = .returned (.tuple #[]) ∧ w' = w := by
  have h2 := h.data
  clear h
  have hd : decide ((l.length : Int) < (n : Int)) = false := by simp; omega
  go_enter Try.func92, Try.ntmps92
  go_wp2
  go_end0
  exact ⟨rfl, rfl⟩

/-- What stands behind 'f.data = append(..)'. -/
theorem grown_file {w w' : World} {g b cap b' cap' : Nat} {l l' : List UInt8} {v : Value} (h : FileAt w g b cap l) (hr : RowAt w' b' cap' l') (hg : w.drew.grownBy w' (some b)) (hb : b' = b ∨ b' = w.drew.heap.size) (hv : v = .slice (some ⟨b', 0, none⟩) l'.length cap') :
    FileAt (w'.setCell ⟨g, 1, none⟩ v) g b' cap' l' ∧ (b' = b ∨ w.heap.size ≤ b') ∧ Turned (fun k => k = g ∨ k = b) w (w'.setCell ⟨g, 1, none⟩ v) := by
  have e1 : w.drew.heap = w.heap := rfl
  have e2 : w.drew.os = w.os := rfl
  have e3 : w.drew.tape = w.tape := rfl
  have e4 : w.drew.output = w.output := rfl
  have hgl := h.lt
  have hbl := h.row.lt
  have hap := h.apart
  have hgg : w'.heap[g]? = w.heap[g]? := (hg.block g (by rw [e1]; exact hgl) (by intro e; cases e; exact hap rfl)).trans (by rw [e1])
  have hne : b' ≠ g := by
    rcases hb with rfl | rfl
    · exact hap
    · rw [e1]; omega
  have hsz : w.heap.size ≤ w'.heap.size := by have := hg.size; rw [e1] at this; exact this
  refine ⟨⟨?_, ?_, ?_, ?_, hne⟩, ?_, ⟨hg.os.trans e2, hg.tape.trans e3, hg.output.trans e4, ?_, ?_⟩⟩
  · rw [World.cell?_setCell_other _ _ _ _ (by simp)]
    exact (World.cell?_of_block (w := w) hgg).trans h.made
  · rw [← hv]
    exact World.cell?_setCell_same _ _ _ ((World.cell?_of_block (w := w) hgg).trans h.data)
  · rw [World.frozen?_setCell]
    exact (World.frozen?_of_block (w := w) hgg).trans h.soft
  · exact hr.keep (Below.heap_setCell _ _ _ _ hne)
  · rcases hb with rfl | rfl
    · exact .inl rfl
    · right; rw [e1]; exact Nat.le_refl _
  · simpa [World.setCell] using hsz
  · intro k hk hn
    rw [Below.heap_setCell _ _ _ _ (fun e => hn (.inl e))]
    exact (hg.block k (by rw [e1]; exact hk) (by intro e; cases e; exact hn (.inr rfl))).trans (by rw [e1])

set_option maxRecDepth 100000 in
set_option maxHeartbeats 1000000 in
theorem growTo_yes (g b cap : Nat) (l : List UInt8) (n : Nat) (w : World) (h : FileAt w g b cap l) (hn : l.length < n) (hm : n ≤ 1048576) :
    Calls Try.prog 92 #[.pointer (some ⟨g, 0, none⟩), .int .i64 n] w fun e w' => e = .returned (.tuple #[]) ∧ ∃ b' cap', FileAt w' g b' cap' (grow l n) ∧ (b' = b ∨ w.heap.size ≤ b') ∧ Turned (fun k => k = g ∨ k = b) w w' := by
  have h2 := h.data
  have h3 := h.soft
  have hap := h.apart
  have hgl := h.lt
  have HF := hide h
  clear h
  have hd : decide ((l.length : Int) < (n : Int)) = true := by simp; omega
  go_enter Try.func92, Try.ntmps92
  go_wp2_with fail
  go_region_law (refine step_append_zeros _ (by rfl) _ _ (by rfl) b cap l (n - l.length) (HF.out.row.keep (by rfl)) (by omega) (by omega) (by rfl) _ (by rfl) (by first | omega | (rw [IntKind.wrap_i64]; omega)) ?_; intro b' cap' w' HR' hgr' hb'; have q1 := (hgr'.cell_far ⟨g, 1, none⟩ (by exact hgl) (by intro e; cases e; exact hap rfl)).trans h2; have q2 := (hgr'.frozen_far ⟨g, 1, none⟩ (by exact hgl) (by intro e; cases e; exact hap rfl)).trans h3)
  all_goals
    go_end0
    have hl' : (l ++ List.replicate (n - l.length) (0 : UInt8)).length = l.length + (n - l.length) := by simp
    exact ⟨rfl, b', cap', grown_file HF.out HR'.out hgr' hb' (by rw [show (grow l n).length = l.length + (n - l.length) from hl'])⟩

theorem growTo_any (g b cap : Nat) (l : List UInt8) (n : Nat) (w : World) (h : FileAt w g b cap l) (hm : n ≤ 1048576) :
    Calls Try.prog 92 #[.pointer (some ⟨g, 0, none⟩), .int .i64 n] w fun e w' => e = .returned (.tuple #[]) ∧ ∃ b' cap', FileAt w' g b' cap' (grow l n) ∧ (b' = b ∨ w.heap.size ≤ b') ∧ Turned (fun k => k = g ∨ k = b) w w' := by
  by_cases hn : n ≤ l.length
  · refine (growTo_no g b cap l n w h hn).mono ?_
    rintro e w' ⟨rfl, rfl⟩
    rw [grow_no hn]
    exact ⟨rfl, b, cap, h, .inl rfl, Turned.refl _ _⟩
  · exact growTo_yes g b cap l n w h (by omega) hm

theorem cut_file {w : World} {g b cap n : Nat} {l : List UInt8} (h : FileAt w g b cap l) (hn : n ≤ l.length) :
    FileAt (w.setCell ⟨g, 1, none⟩ (.slice (some ⟨b, 0, none⟩) n n)) g b n (l.take n) ∧ Turned (fun k => k = g ∨ k = b) w (w.setCell ⟨g, 1, none⟩ (.slice (some ⟨b, 0, none⟩) n n)) := by
  refine ⟨⟨?_, ?_, ?_, (h.row.shorter n hn).keep (Below.heap_setCell _ _ _ _ h.apart), h.apart⟩, ⟨rfl, rfl, rfl, by simp [World.setCell], fun k hk hn => Below.heap_setCell _ _ _ _ (fun e => hn (.inl e))⟩⟩
  · rw [World.cell?_setCell_other _ _ _ _ (by simp)]; exact h.made
  · rw [World.cell?_setCell_same _ _ _ h.data]; simp [Nat.min_eq_left hn]
  · rw [World.frozen?_setCell]; exact h.soft

/-- A file cut, or grown, to n bytes. -/
def trunc (l : List UInt8) (n : Nat) : List UInt8 := grow (l.take n) n
theorem trunc_len (l : List UInt8) (n : Nat) : (trunc l n).length = n := by rw [trunc, grow_len]; simp; omega


end Go.Proofs.Ytbffnamdpmjfnaa

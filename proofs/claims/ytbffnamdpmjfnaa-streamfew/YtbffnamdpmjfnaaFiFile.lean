/- A file in memory; New, ReadAt, Size, Bytes, Copy. -/
import Derived.Test.YtbffnamdpmjfnaaTeRow
import Derived.Test.YtbffnamdpmjfnaaFiLeaf
namespace Go.Proofs.Ytbffnamdpmjfnaa
open Go.RowKit

/-- Block g is a file of the bytes l, whose bytes lie in block b. -/
structure FileAt (W : World) (g b cap : Nat) (l : List UInt8) : Prop where
  made : W.cell? ⟨g, 0, none⟩ = some (.bool true)
  data : W.cell? ⟨g, 1, none⟩ = some (.slice (some ⟨b, 0, none⟩) l.length cap)
  soft : W.frozen? ⟨g, 1, none⟩ = false
  row : RowAt W b cap l
  apart : b ≠ g
theorem FileAt.keep {W W' : World} {g b cap : Nat} {l : List UInt8} (h : FileAt W g b cap l) (hg : W'.heap[g]? = W.heap[g]?) (hb : W'.heap[b]? = W.heap[b]?) : FileAt W' g b cap l :=
  ⟨(World.cell?_of_block (w := W) hg).trans h.made, (World.cell?_of_block (w := W) hg).trans h.data, (World.frozen?_of_block (w := W) hg).trans h.soft, h.row.keep hb, h.apart⟩
theorem FileAt.lt {W : World} {g b cap : Nat} {l : List UInt8} (h : FileAt W g b cap l) : g < W.heap.size := World.block_lt_of_cell? W _ h.made
theorem FileAt.below {W W' : World} {g b cap : Nat} {l : List UInt8} (h : FileAt W g b cap l) (hB : Below W.heap.size W W') : FileAt W' g b cap l :=
  h.keep (hB.block _ h.lt) (hB.block _ h.row.lt)

set_option maxRecDepth 100000 in
set_option maxHeartbeats 1000000 in
theorem Fi_new_bad (v : Value) (l : List UInt8) (w : World) (h : Bys w v l) (hl : 1048576 < l.length) :
    Calls Try.prog 29 #[v] w fun e w' => e = .returned (.tuple #[.pointer none, .int .i64 5]) ∧ w' = w := by
  obtain ⟨a1, c1, rfl, -⟩ := bys_form h
  clear h
  have hd : decide ((1048576 : Int) < (l.length : Int)) = true := by simp; omega
  go_enter Try.func29, Try.ntmps29
  go_wp2
  all_goals first
    | (exfalso; omega)
    | (go_ret2; exact ⟨rfl, rfl⟩)

/-- What stands behind '&File{made: true, data: copied(b)}'. -/
theorem file_new {w w2 : World} {l : List UInt8} (hown : w2.ownsRow w.heap.size 5 1 (.slice (some ⟨w.heap.size, 0, none⟩) l.length l.length) l.length (l.map bv)) (hB : Below w.heap.size w w2) :
    FileAt (w2.alloc (Obj.cells #[Value.bool true, Value.slice (some ⟨w.heap.size, 0, none⟩) l.length l.length] 82)) w2.heap.size w.heap.size l.length l ∧ w.heap.size < w2.heap.size ∧ Below w.heap.size w (w2.alloc (Obj.cells #[Value.bool true, Value.slice (some ⟨w.heap.size, 0, none⟩) l.length l.length] 82)) := by
  have hr := RowAt.of_owns hown
  have hlt := hr.lt
  refine ⟨⟨?_, ?_, ?_, hr.keep (Below.heap_alloc _ _ _ hlt), by omega⟩, hlt, hB.alloc hB.size _⟩
  · simp only [World.cell?, heap_alloc_new]; rfl
  · simp only [World.cell?, heap_alloc_new]; rfl
  · simp only [World.frozen?, heap_alloc_new]; rfl

set_option maxRecDepth 100000 in
set_option maxHeartbeats 1000000 in
theorem Fi_new_good (v : Value) (l : List UInt8) (w : World) (h : Bys w v l) (hl : l.length ≤ 1048576) :
    Calls Try.prog 29 #[v] w fun e w' => ∃ g, e = .returned (.tuple #[.pointer (some ⟨g, 0, none⟩), .int .i64 0]) ∧ FileAt w' g w.heap.size l.length l ∧ w.heap.size < g ∧ Below w.heap.size w w' := by
  obtain ⟨a1, c1, rfl, -⟩ := bys_form h
  have HF := hide h
  clear h
  have hd : decide ((1048576 : Int) < (l.length : Int)) = false := by simp; omega
  go_enter Try.func29, Try.ntmps29
  go_wp2_with fail
  refine (Fi_copied_any _ l _ HF.out (by omega)).mono ?_
  rintro e w2 ⟨rfl, hown, hB⟩
  have HO := hide hown
  clear hown
  go_wp2
  go_ret2
  obtain ⟨h1, h2, h3⟩ := file_new HO.out hB
  exact ⟨_, rfl, h1, h2, h3⟩

set_option maxRecDepth 100000 in
set_option maxHeartbeats 1000000 in
theorem bytes_any (g b cap : Nat) (l : List UInt8) (w : World) (h : FileAt w g b cap l) (hl : l.length ≤ 1048576) :
    Calls Try.prog 39 #[.pointer (some ⟨g, 0, none⟩)] w fun e w' => e = .returned (.slice (some ⟨w.heap.size, 0, none⟩) l.length l.length) ∧ w'.ownsRow w.heap.size 5 1 (.slice (some ⟨w.heap.size, 0, none⟩) l.length l.length) l.length (l.map bv) ∧ Below w.heap.size w w' := by
  have h1 := h.made
  have h2 := h.data
  have h3 := hide h.row
  clear h
  go_enter Try.func39, Try.ntmps39
  go_wp2_with fail
  refine (Fi_isMade_yes g w h1).mono ?_
  rintro e w1 ⟨rfl, rfl⟩
  go_wp2_with fail
  refine (Fi_copied_any _ l _ h3.out.bys (by omega)).mono ?_
  rintro e w2 ⟨rfl, hown, hB⟩
  have HO := hide hown
  clear hown
  go_wp2
  go_ret
  exact ⟨rfl, HO.out, hB⟩

/-- Two numbers, built into a row for a variadic call. -/
theorem ints_two (w : World) (x y : Int) : Fi_Ints (w.alloc (Obj.cells #[.int .i64 x, .int .i64 y] 3)) (.slice (some ⟨w.heap.size, 0, none⟩) 2 2) [x, y] := by
  refine ⟨_, 2, rfl, fun _ => ⟨_, _, rfl, fun j hj => ?_⟩⟩
  simp only [World.cell?, heap_alloc_new]
  have : j = 0 ∨ j = 1 := by simp only [List.length_cons, List.length_nil] at hj; omega
  rcases this with rfl | rfl <;> rfl
theorem ints_one (w : World) (x : Int) : Fi_Ints (w.alloc (Obj.cells #[.int .i64 x] 3)) (.slice (some ⟨w.heap.size, 0, none⟩) 1 1) [x] := by
  refine ⟨_, 1, rfl, fun _ => ⟨_, _, rfl, fun j hj => ?_⟩⟩
  simp only [World.cell?, heap_alloc_new]
  have : j = 0 := by simp only [List.length_cons, List.length_nil] at hj; omega
  subst this
  rfl

set_option maxRecDepth 100000 in
set_option maxHeartbeats 1000000 in
theorem readAt_bad (g b cap : Nat) (l : List UInt8) (off n : Int) (w : World) (h : FileAt w g b cap l) (hr : (inR off && inR n) = false) :
    Calls Try.prog 89 #[.pointer (some ⟨g, 0, none⟩), .int .i64 off, .int .i64 n] w fun e w' => e = .returned (.tuple #[.slice none 0 0, .int .i64 4]) ∧ Below w.heap.size w w' := by
  have h1 := h.made
  clear h
  have HR : Hid (([off, n] : List Int).all inR = false) := hide (by simpa using hr)
  clear hr
  go_enter Try.func89, Try.ntmps89
  go_wp2_with fail
  refine (Fi_isMade_yes g w h1).mono ?_
  rintro e w1 ⟨rfl, rfl⟩
  go_wp2_with fail
  refine (inRange_any _ [off, n] _ (ints_two _ _ _) (by simp)).mono ?_
  rintro e w2 ⟨rfl, rfl⟩
  rw [HR.out]
  go_wp2
  go_ret2
  exact ⟨rfl, (Below.refl _ _).alloc (Nat.le_refl _) _⟩

/-- n bytes from off on. -/
def piece (l : List UInt8) (off n : Nat) : List UInt8 := (l.drop off).take n
theorem piece_len (l : List UInt8) (off n : Nat) : (piece l off n).length = min n (l.length - off) := by simp [piece]

theorem piece_bys {W : World} {b cap : Nat} {l : List UInt8} (h : RowAt W b cap l) (off n x m c : Nat) (hm : m = min n (l.length - off)) (hx : m = 0 ∨ x = off) : Bys W (.slice (some ⟨b, x, none⟩) m c) (piece l off n) := by
  by_cases h0 : m = 0
  · refine .inr (.inl ⟨_, _, by rw [h0], List.length_eq_zero_iff.1 (by rw [piece_len]; omega)⟩)
  · obtain rfl : x = off := by omega
    have := h.cut x m c (by omega)
    rwa [show (l.drop x).take m = piece l x n by rw [hm, piece, ← List.length_drop, List.take_eq_take_iff]; omega] at this
set_option maxRecDepth 100000 in
set_option maxHeartbeats 1000000 in
theorem readAt_good (g b cap : Nat) (l : List UInt8) (off n : Nat) (w : World) (h : FileAt w g b cap l) (hl : l.length ≤ 1048576) (ho : off ≤ 1048576) (hn : n ≤ 1048576) :
    Calls Try.prog 89 #[.pointer (some ⟨g, 0, none⟩), .int .i64 off, .int .i64 n] w fun e w' => ∃ q, e = .returned (.tuple #[.slice (some ⟨q, 0, none⟩) (piece l off n).length (piece l off n).length, .int .i64 0]) ∧ w'.ownsRow w.heap.size 5 1 (.slice (some ⟨q, 0, none⟩) (piece l off n).length (piece l off n).length) (piece l off n).length ((piece l off n).map bv) ∧ Below w.heap.size w w' := by
  have h1 := h.made
  have HF := hide h
  clear h
  have HR : Hid (([(off : Int), (n : Int)] : List Int).all inR = true) := hide (by simp [inR]; omega)
  go_enter Try.func89, Try.ntmps89
  go_wp2_with fail
  refine (Fi_isMade_yes g w h1).mono ?_
  rintro e w1 ⟨rfl, rfl⟩
  go_wp2_with fail
  refine (inRange_any _ [(off : Int), (n : Int)] _ (ints_two _ _ _) (by simp)).mono ?_
  rintro e w2 ⟨rfl, rfl⟩
  rw [HR.out]
  have hBa : Below w1.heap.size w1 (w1.alloc (Obj.cells #[.int .i64 (off : Int), .int .i64 (n : Int)] 3)) := (Below.refl _ _).alloc (Nat.le_refl _) _
  have HF2 := hide (HF.out.below hBa)
  generalize w1.alloc (Obj.cells #[.int .i64 (off : Int), .int .i64 (n : Int)] 3) = w2 at *
  have h2 := HF2.out.data
  have h3 := HF2.out.row.len
  clear HF HR h1
  go_wp2
  go_quiet (fail)
  go_wp2_with fail
  all_goals
    have hd : Below w2.heap.size w2 (w2.drewN nq) := below_drewN (Below.refl _ _) _
    refine (Fi_copied_any _ (piece l off n) _ (piece_bys (HF2.out.below hd).row off n _ _ _ (by omega) (by omega)) (by rw [piece_len]; omega)).mono ?_
    rintro e w3 ⟨rfl, hown, hB⟩
    have HO := hide hown
    clear hown
    go_wp2
    go_ret2
    have hB3 : Below w1.heap.size w1 w3 := (hBa.trans (hd.mono hBa.size)).trans (hB.mono (Nat.le_trans hBa.size hd.size))
    exact ⟨_, rfl, owns_mono HO.out (Nat.le_trans hBa.size hd.size), hB3⟩
end Go.Proofs.Ytbffnamdpmjfnaa

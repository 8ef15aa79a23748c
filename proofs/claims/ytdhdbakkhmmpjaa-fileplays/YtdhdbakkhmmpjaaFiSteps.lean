/- Lists of steps, read in a walk; what a write does to the byte at a place. -/
import Derived.Test.YtdhdbakkhmmpjaaFiOwn
import Derived.Test.YtdhdbakkhmmpjaaFiFrame
namespace Go.Proofs.Ytdhdbakkhmmpjaa
open Go.RowKit

/-- Step j of the steps l, in whatever later world. -/
theorem stps_at {W W' : World} {v : Value} {l : List Stp} (h : Stps W v l) (hB : Below W.heap.size W W') (j : Nat) (hj : j < l.length) :
    ∃ b off c va vc, v = .slice (some ⟨b, off, none⟩) l.length c ∧ b < W.heap.size ∧ W'.cell? ⟨b, off + j * 4, none⟩ = some (.int .i64 l[j].1) ∧ W'.cell? ⟨b, off + j * 4 + 1, none⟩ = some (.int .i64 l[j].2.1) ∧ W'.cell? ⟨b, off + j * 4 + 2, none⟩ = some (.int .i64 l[j].2.2.1) ∧
      W'.cell? ⟨b, off + j * 4 + 3, none⟩ = some (.slice va l[j].2.2.2.length vc) ∧ Bys W (.slice va l[j].2.2.2.length vc) l[j].2.2.2 ∧ (0 < l[j].2.2.2.length → ∃ bx ox, va = some ⟨bx, ox, none⟩ ∧ bx < W.heap.size) := by
  obtain ⟨a, c, rfl, hc⟩ := h
  obtain ⟨b, off, rfl, hd⟩ := hc (by omega)
  obtain ⟨va, vl, vc, q0, q1, q2, q3, hb⟩ := hd j hj
  obtain ⟨a', c', he, hf⟩ := bys_form hb
  cases he
  have hlt : b < W.heap.size := World.block_lt_of_cell? W _ q0
  refine ⟨b, off, c, va, vc, rfl, hlt, (hB.cell (p := ⟨b, off + j * 4, none⟩) hlt).trans q0, (hB.cell (p := ⟨b, off + j * 4 + 1, none⟩) hlt).trans q1, (hB.cell (p := ⟨b, off + j * 4 + 2, none⟩) hlt).trans q2, (hB.cell (p := ⟨b, off + j * 4 + 3, none⟩) hlt).trans q3, hb, fun h0 => ?_⟩
  obtain ⟨bx, ox, rfl, hx⟩ := hf h0
  exact ⟨bx, ox, rfl, World.block_lt_of_cell? W _ (hx 0 h0)⟩

theorem grow_at (l : List UInt8) (n i : Nat) : (grow l n).getD i 0 = l.getD i 0 := by
  simp only [grow, List.getD_eq_getElem?_getD]
  by_cases h : i < l.length
  · rw [List.getElem?_append_left h]
  · rw [List.getElem?_append_right (by omega), List.getElem?_replicate, List.getElem?_eq_none (by omega)]
    split <;> rfl
/-- The byte at a place, behind bytes laid at another. -/
theorem lay_at (l : List UInt8) (off : Nat) (x : List UInt8) (hx : x ≠ []) (i : Nat) : (lay l off x).getD i 0 = if off ≤ i ∧ i < off + x.length then x.getD (i - off) 0 else l.getD i 0 := by
  have hg := grow_len l (off + x.length)
  rw [← grow_at l (off + x.length) i, lay, if_neg hx]
  generalize grow l (off + x.length) = m at *
  have hpre : (m.take off).length = off := by rw [List.length_take]; omega
  simp only [List.getD_eq_getElem?_getD]
  by_cases h1 : i < off
  · rw [if_neg (by omega), List.getElem?_append_left (by omega), List.getElem?_take, if_pos h1]
  · rw [List.getElem?_append_right (by omega), hpre]
    by_cases h2 : i < off + x.length
    · rw [if_pos (by omega), List.getElem?_append_left (by omega)]
    · rw [if_neg (by omega), List.getElem?_append_right (by omega), List.getElem?_drop]
      congr 2
      omega
/-- The byte at a place that no write touched. -/
theorem last_out {at_ : Int} {L X : List UInt8} {o : Nat} {x : UInt8} (hX : X ≠ []) (hx : 0 ≤ at_ → x = L.getD at_.toNat 0) (h : at_ < (o : Int) ∨ (o : Int) + (X.length : Int) ≤ at_) : 0 ≤ at_ → x = (lay L o X).getD at_.toNat 0 := by
  intro h0
  rw [lay_at L o X hX, if_neg (by omega)]
  exact hx h0
theorem last_in {at_ : Int} {L X : List UInt8} {o : Nat} (hX : X ≠ []) (h1 : (o : Int) ≤ at_) (h2 : at_ < (o : Int) + (X.length : Int)) : X.getD (at_.toNat - o) 0 = (lay L o X).getD at_.toNat 0 := by
  rw [lay_at L o X hX, if_pos (by omega)]
theorem piece_one (L : List UInt8) (p : Nat) (h : p < L.length) : piece L p 1 = [L.getD p 0] := by
  rw [piece, List.drop_eq_getElem_cons h, List.take_succ_cons, List.take_zero, List.getD_eq_getElem?_getD, List.getElem?_eq_getElem h]
  rfl
theorem piece_end (L : List UInt8) (p n : Nat) (h : L.length ≤ p) : piece L p n = [] := List.length_eq_zero_iff.1 (by rw [piece_len]; omega)
/-- What a write answers, and what the file has behind it. -/
theorem wr_cases (L : List UInt8) (off : Int) (X : List UInt8) : (wrE off X.length ≠ 0 ∧ wrL L off X = L) ∨ (wrE off X.length = 0 ∧ ∃ o : Nat, off = (o : Int) ∧ o + X.length ≤ 1048576 ∧ wrL L off X = lay L o X) := by
  by_cases h : wrE off X.length = 0
  · right
    refine ⟨h, ?_⟩
    unfold wrE at h
    split at h
    · cases h
    · rename_i h1
      split at h
      · cases h
      · rename_i h2
        have h1' : inR off = true := by simpa using h1
        simp only [inR, decide_eq_true_eq] at h1'
        refine ⟨off.toNat, by omega, by omega, ?_⟩
        rw [wrL, if_pos]
        unfold wrE
        rw [if_neg h1, if_neg h2]
  · exact .inl ⟨h, by rw [wrL, if_neg h]⟩
end Go.Proofs.Ytdhdbakkhmmpjaa

/- Memories: seek. -/
import Derived.Test.YtbffnamdpmjfnaaMeStore
namespace Go.Proofs.Ytbffnamdpmjfnaa
open Go.RowKit

theorem MS.seek_arg {S : MS} {off wh : Int} (h : wh < 0 ∨ 2 < wh) : S.seek off wh = (0, 1, S) := by unfold MS.seek; rw [if_pos h]
theorem MS.seek_range {S : MS} {off wh : Int} (h : ¬ (wh < 0 ∨ 2 < wh)) (h2 : off < -(S.from wh : Int) ∨ (S.room : Int) - (S.from wh : Int) < off) : S.seek off wh = (0, 4, S) := by unfold MS.seek; rw [if_neg h, if_pos h2]
theorem MS.seek_good {S : MS} {off wh : Int} (h : ¬ (wh < 0 ∨ 2 < wh)) (h2 : ¬ (off < -(S.from wh : Int) ∨ (S.room : Int) - (S.from wh : Int) < off)) : S.seek off wh = ((S.from wh : Int) + off, 0, ⟨S.l, S.room, ((S.from wh : Int) + off).toNat⟩) := by unfold MS.seek; rw [if_neg h, if_neg h2]

/-- The place is set. -/
theorem MemAt.place {w : World} {O : Nat → Prop} {g : Nat} {S : MS} (h : MemAt w O g S) (m : Nat) (hm : m ≤ S.room) : MStep w O g ⟨S.l, S.room, m⟩ (w.setCell ⟨g, 2, none⟩ (.int .i64 m)) := by
  obtain ⟨f, b, cap, h0, h1, h2, h3, h4, og, of, ob, n1, n2, r1, r2, r3⟩ := h
  refine ⟨O, ⟨f, b, cap, ?_, ?_, ?_, ?_, ?_, og, of, ob, n1, n2, r1, hm, r3⟩, fun _ e => .inl e, (Turned.refl O w).set (.inl og)⟩
  · rw [World.cell?_setCell_other _ _ _ _ (by simp)]; exact h0
  · rw [World.cell?_setCell_other _ _ _ _ (by simp)]; exact h1
  · exact World.cell?_setCell_same _ _ _ h2
  · rw [World.frozen?_setCell]; exact h3
  · exact h4.keep (Below.heap_setCell _ _ _ _ (fun e => n1 e.symm)) (Below.heap_setCell _ _ _ _ (fun e => n2 e.symm))

/-- An offset that is refused. -/
def SeekBad (S : MS) (off wh : Int) : Prop := off < -(S.from wh : Int) ∨ (S.room : Int) - (S.from wh : Int) < off

end Go.Proofs.Ytbffnamdpmjfnaa

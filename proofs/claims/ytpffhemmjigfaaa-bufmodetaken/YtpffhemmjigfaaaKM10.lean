/- What the proof stands on, part 10: the contracts of the program's calls that it reaches. -/
import Derived.Test.YtpffhemmjigfaaaKM9
import Derived.Deep.Cut
import Derived.Deep.RegionLaw
import Derived.RangeFuncNested
import Derived.RangeFuncBound
import Derived.RangeFuncCalls
import Derived.RangeFuncLeaves
import Derived.RangeFuncBox
import Derived.Shelf.Abstract
import Derived.Shelf.RegionOpen
import Derived.OwnWalkIn
import Derived.TacticsInMore
import Derived.LoopNIn
import Derived.LoopIn
import Derived.Maps.AppendAt
import Derived.Sort.BigQuietIn
/- Streams: the reference's Check, Begin. -/
namespace Go.Proofs.Ytpffhemmjigfaaa
open Go.RowKit

theorem may_iff (x : SS) : x.may = true ↔ 1 ≤ x.mode ∧ x.mode ≤ 3 ∧ 1 ≤ x.size ∧ x.size ≤ 65536 ∧ (x.out.length : Int) ≤ x.size ∧ (x.mode = 1 → x.out.length = 0) ∧ x.inn.length ≤ 65536 ∧ x.back.length ≤ 8 ∧
    ((x.dir = 0 ∧ x.out.length = 0 ∧ x.inn.length + x.back.length = 0) ∨ (x.dir = 1 ∧ x.rd = true ∧ x.out.length = 0 ∧ x.closed = false) ∨ (x.dir = 2 ∧ x.wt = true ∧ x.inn.length + x.back.length = 0 ∧ x.closed = false)) := by
  unfold SS.may SS.buf SS.way SS.toR SS.toW
  simp only [Bool.and_eq_true, decide_eq_true_eq]
  constructor
  · rintro ⟨⟨⟨⟨⟨⟨h1, h2⟩, h3, h4⟩, h5⟩, h6⟩, h7⟩, h8⟩
    have h9 : (x.out.length : Int) ≤ x.size ∧ (x.mode = 1 → x.out.length = 0) := by split at h5 <;> (refine ⟨by omega, fun _ => by omega⟩)
    refine ⟨h1, h2, h3, h4, h9.1, h9.2, by omega, by omega, ?_⟩
    split at h8
    · simp at h8; exact .inl ⟨by assumption, by rw [h8.2]; rfl, by omega⟩
    split at h8
    · simp at h8; exact .inr (.inl ⟨by assumption, h8.1.1, by rw [h8.1.2]; rfl, h8.2⟩)
    split at h8
    · simp at h8; exact .inr (.inr ⟨by assumption, h8.1.1, by omega, h8.2⟩)
    · simp at h8
  · rintro ⟨h1, h2, h3, h4, h5, h6, h7, h8, h9⟩
    refine ⟨⟨⟨⟨⟨⟨h1, h2⟩, h3, h4⟩, ?_⟩, by omega⟩, by omega⟩, ?_⟩
    · split
      · have := h6 (by assumption); omega
      · exact h5
    · rcases h9 with ⟨e, e1, e2⟩ | ⟨e, e1, e2, e3⟩ | ⟨e, e1, e2, e3⟩
      · rw [if_pos e]; simp; exact ⟨by omega, List.length_eq_zero_iff.1 e1⟩
      · rw [if_neg (by omega), if_pos e, e1, e3]; simp; exact List.length_eq_zero_iff.1 e2
      · rw [if_neg (by omega), if_neg (by omega), if_pos e, e1, e3]; simp; omega
set_option maxRecDepth 100000 in
set_option maxHeartbeats 8000000 in
theorem rcheck_any (x : SS) (oa ia ba : Option Addr) (oc ic bc : Nat) (w : World) (hi : x.inn.length ≤ 140737488351232) (hb : x.back.length ≤ 140737488351232) :
    Calls Try.prog 54 #[.agg #[.bool x.rd, .bool x.wt, .int .i64 x.mode, .int .i64 x.size, .slice oa x.out.length oc, .slice ia x.inn.length ic, .slice ba x.back.length bc, .int .i64 x.dir, .bool x.fin, .bool x.bad, .bool x.closed]] w fun e w' => e = .returned (.int .i64 (if x.may = true then 0 else 51)) ∧ Below w.heap.size w w' := by
  generalize hr : (if x.may = true then (0 : Int) else 51) = r
  have HR := hide hr
  clear hr
  go_enter Try.func54, Try.ntmps54
  go_upto_region 1 with fail
  have HB0 := hide (recv_below w (Obj.cells #[.bool x.rd, .bool x.wt, .int .i64 x.mode, .int .i64 x.size, .slice oa x.out.length oc, .slice ia x.inn.length ic, .slice ba x.back.length bc, .int .i64 x.dir, .bool x.fin, .bool x.bad, .bool x.closed] 24))
  have HS0 := hide (RSt.new w x (.slice oa x.out.length oc) (.slice ia x.inn.length ic) (.slice ba x.back.length bc))
  generalize w.alloc (Obj.cells #[.bool x.rd, .bool x.wt, .int .i64 x.mode, .int .i64 x.size, .slice oa x.out.length oc, .slice ia x.inn.length ic, .slice ba x.back.length bc, .int .i64 x.dir, .bool x.fin, .bool x.bad, .bool x.closed] 24) = w0 at *
  obtain ⟨c0, c1, c2, c3, c4, c5, c6, c7, c8, c9, c10⟩ := HS0.out.cs
  clear HS0
  obtain ⟨rd, wt, mode, size, out, inn, back, dir, fin, bad, closed⟩ := x
  simp only at HR hi hb c0 c1 c2 c3 c4 c5 c6 c7 c8 c9 c10 ⊢
  by_cases a0 : 1 ≤ mode
  case neg =>
    · have HN : Hid (51 = r) := hide (by rw [← HR.out]; refine (if_neg ?_).symm; intro h; have h := (may_iff _).1 h; dsimp only at h; obtain ⟨h1, h2, h3, h4, h5, h6, h7, h8, h9⟩ := h; first | omega | (have := h6 rfl; simp at this; done) | (rcases h9 with ⟨e, e1, e2⟩ | ⟨e, e1, e2, e3⟩ | ⟨e, e1, e2, e3⟩ <;> first | omega | (simp at e1; done) | (simp at e2; done) | (simp at e3; done)))
      clear HR
      go_wp2
      go_ret
      exact ⟨by rw [← HN.out]; rfl, HB0.out⟩
  by_cases a1 : mode ≤ 3
  case neg =>
    · have HN : Hid (51 = r) := hide (by rw [← HR.out]; refine (if_neg ?_).symm; intro h; have h := (may_iff _).1 h; dsimp only at h; obtain ⟨h1, h2, h3, h4, h5, h6, h7, h8, h9⟩ := h; first | omega | (have := h6 rfl; simp at this; done) | (rcases h9 with ⟨e, e1, e2⟩ | ⟨e, e1, e2, e3⟩ | ⟨e, e1, e2, e3⟩ <;> first | omega | (simp at e1; done) | (simp at e2; done) | (simp at e3; done)))
      clear HR
      go_wp2
      go_ret
      exact ⟨by rw [← HN.out]; rfl, HB0.out⟩
  by_cases a2 : 1 ≤ size
  case neg =>
    · have HN : Hid (51 = r) := hide (by rw [← HR.out]; refine (if_neg ?_).symm; intro h; have h := (may_iff _).1 h; dsimp only at h; obtain ⟨h1, h2, h3, h4, h5, h6, h7, h8, h9⟩ := h; first | omega | (have := h6 rfl; simp at this; done) | (rcases h9 with ⟨e, e1, e2⟩ | ⟨e, e1, e2, e3⟩ | ⟨e, e1, e2, e3⟩ <;> first | omega | (simp at e1; done) | (simp at e2; done) | (simp at e3; done)))
      clear HR
      go_wp2
      go_ret
      exact ⟨by rw [← HN.out]; rfl, HB0.out⟩
  by_cases a3 : size ≤ 65536
  case neg =>
    · have HN : Hid (51 = r) := hide (by rw [← HR.out]; refine (if_neg ?_).symm; intro h; have h := (may_iff _).1 h; dsimp only at h; obtain ⟨h1, h2, h3, h4, h5, h6, h7, h8, h9⟩ := h; first | omega | (have := h6 rfl; simp at this; done) | (rcases h9 with ⟨e, e1, e2⟩ | ⟨e, e1, e2, e3⟩ | ⟨e, e1, e2, e3⟩ <;> first | omega | (simp at e1; done) | (simp at e2; done) | (simp at e3; done)))
      clear HR
      go_wp2
      go_ret
      exact ⟨by rw [← HN.out]; rfl, HB0.out⟩
  by_cases a4 : 0 ≤ dir
  case neg =>
    · have HN : Hid (51 = r) := hide (by rw [← HR.out]; refine (if_neg ?_).symm; intro h; have h := (may_iff _).1 h; dsimp only at h; obtain ⟨h1, h2, h3, h4, h5, h6, h7, h8, h9⟩ := h; first | omega | (have := h6 rfl; simp at this; done) | (rcases h9 with ⟨e, e1, e2⟩ | ⟨e, e1, e2, e3⟩ | ⟨e, e1, e2, e3⟩ <;> first | omega | (simp at e1; done) | (simp at e2; done) | (simp at e3; done)))
      clear HR
      go_wp2
      go_ret
      exact ⟨by rw [← HN.out]; rfl, HB0.out⟩
  by_cases a5 : dir ≤ 2
  case neg =>
    · have HN : Hid (51 = r) := hide (by rw [← HR.out]; refine (if_neg ?_).symm; intro h; have h := (may_iff _).1 h; dsimp only at h; obtain ⟨h1, h2, h3, h4, h5, h6, h7, h8, h9⟩ := h; first | omega | (have := h6 rfl; simp at this; done) | (rcases h9 with ⟨e, e1, e2⟩ | ⟨e, e1, e2, e3⟩ | ⟨e, e1, e2, e3⟩ <;> first | omega | (simp at e1; done) | (simp at e2; done) | (simp at e3; done)))
      clear HR
      go_wp2
      go_ret
      exact ⟨by rw [← HN.out]; rfl, HB0.out⟩
  go_upto_region 3 with fail
  by_cases b0 : (out.length : Int) ≤ size
  case neg =>
    · have HN : Hid (51 = r) := hide (by rw [← HR.out]; refine (if_neg ?_).symm; intro h; have h := (may_iff _).1 h; dsimp only at h; obtain ⟨h1, h2, h3, h4, h5, h6, h7, h8, h9⟩ := h; first | omega | (have := h6 rfl; simp at this; done) | (rcases h9 with ⟨e, e1, e2⟩ | ⟨e, e1, e2, e3⟩ | ⟨e, e1, e2, e3⟩ <;> first | omega | (simp at e1; done) | (simp at e2; done) | (simp at e3; done)))
      clear HR
      go_wp2
      go_ret
      exact ⟨by rw [← HN.out]; rfl, HB0.out⟩
  by_cases m1 : mode = 1
  · subst m1
    clear a0 a1
    rcases out with _ | ⟨c, t⟩
    case cons =>
      · have HN : Hid (51 = r) := hide (by rw [← HR.out]; refine (if_neg ?_).symm; intro h; have h := (may_iff _).1 h; dsimp only at h; obtain ⟨h1, h2, h3, h4, h5, h6, h7, h8, h9⟩ := h; first | omega | (have := h6 rfl; simp at this; done) | (rcases h9 with ⟨e, e1, e2⟩ | ⟨e, e1, e2, e3⟩ | ⟨e, e1, e2, e3⟩ <;> first | omega | (simp at e1; done) | (simp at e2; done) | (simp at e3; done)))
        clear HR
        go_wp2
        go_ret
        exact ⟨by rw [← HN.out]; rfl, HB0.out⟩
    by_cases b1 : (inn.length : Int) ≤ 65536
    case neg =>
      · have HN : Hid (51 = r) := hide (by rw [← HR.out]; refine (if_neg ?_).symm; intro h; have h := (may_iff _).1 h; dsimp only at h; obtain ⟨h1, h2, h3, h4, h5, h6, h7, h8, h9⟩ := h; first | omega | (have := h6 rfl; simp at this; done) | (rcases h9 with ⟨e, e1, e2⟩ | ⟨e, e1, e2, e3⟩ | ⟨e, e1, e2, e3⟩ <;> first | omega | (simp at e1; done) | (simp at e2; done) | (simp at e3; done)))
        clear HR
        go_wp2
        go_ret
        exact ⟨by rw [← HN.out]; rfl, HB0.out⟩
    by_cases b2 : (back.length : Int) ≤ 8
    case neg =>
      · have HN : Hid (51 = r) := hide (by rw [← HR.out]; refine (if_neg ?_).symm; intro h; have h := (may_iff _).1 h; dsimp only at h; obtain ⟨h1, h2, h3, h4, h5, h6, h7, h8, h9⟩ := h; first | omega | (have := h6 rfl; simp at this; done) | (rcases h9 with ⟨e, e1, e2⟩ | ⟨e, e1, e2, e3⟩ | ⟨e, e1, e2, e3⟩ <;> first | omega | (simp at e1; done) | (simp at e2; done) | (simp at e3; done)))
        clear HR
        go_wp2
        go_ret
        exact ⟨by rw [← HN.out]; rfl, HB0.out⟩
    go_upto_region 5 with fail
    have hz : dir = 0 ∨ dir = 1 ∨ dir = 2 := by omega
    rcases hz with rfl | rfl | rfl
    · clear a4 a5
      by_cases e1 : 0 < (inn.length : Int) + (back.length : Int)
      case pos =>
        · have HN : Hid (51 = r) := hide (by rw [← HR.out]; refine (if_neg ?_).symm; intro h; have h := (may_iff _).1 h; dsimp only at h; obtain ⟨h1, h2, h3, h4, h5, h6, h7, h8, h9⟩ := h; first | omega | (have := h6 rfl; simp at this; done) | (rcases h9 with ⟨e, e1, e2⟩ | ⟨e, e1, e2, e3⟩ | ⟨e, e1, e2, e3⟩ <;> first | omega | (simp at e1; done) | (simp at e2; done) | (simp at e3; done)))
          clear HR
          go_wp2
          go_ret
          exact ⟨by rw [← HN.out]; rfl, HB0.out⟩
      cases closed with
      | false =>
        · have HN : Hid (0 = r) := hide (by rw [← HR.out]; exact (if_pos ((may_iff _).2 ⟨by first | rfl | (dsimp only; omega) | (intro _; rfl) | (intro e; exact absurd e m1), by first | rfl | (dsimp only; omega) | (intro _; rfl) | (intro e; exact absurd e m1), by first | rfl | (dsimp only; omega) | (intro _; rfl) | (intro e; exact absurd e m1), by first | rfl | (dsimp only; omega) | (intro _; rfl) | (intro e; exact absurd e m1), by first | rfl | (dsimp only; omega) | (intro _; rfl) | (intro e; exact absurd e m1), by first | rfl | (dsimp only; omega) | (intro _; rfl) | (intro e; exact absurd e m1), by first | rfl | (dsimp only; omega) | (intro _; rfl) | (intro e; exact absurd e m1), by first | rfl | (dsimp only; omega) | (intro _; rfl) | (intro e; exact absurd e m1), .inl ⟨rfl, by first | rfl | (dsimp only; omega) | (intro _; rfl) | (intro e; exact absurd e m1), by first | rfl | (dsimp only; omega) | (intro _; rfl) | (intro e; exact absurd e m1)⟩⟩)).symm)
          clear HR
          go_wp2
          go_ret
          exact ⟨by rw [← HN.out]; rfl, HB0.out⟩
      | true =>
        · have HN : Hid (0 = r) := hide (by rw [← HR.out]; exact (if_pos ((may_iff _).2 ⟨by first | rfl | (dsimp only; omega) | (intro _; rfl) | (intro e; exact absurd e m1), by first | rfl | (dsimp only; omega) | (intro _; rfl) | (intro e; exact absurd e m1), by first | rfl | (dsimp only; omega) | (intro _; rfl) | (intro e; exact absurd e m1), by first | rfl | (dsimp only; omega) | (intro _; rfl) | (intro e; exact absurd e m1), by first | rfl | (dsimp only; omega) | (intro _; rfl) | (intro e; exact absurd e m1), by first | rfl | (dsimp only; omega) | (intro _; rfl) | (intro e; exact absurd e m1), by first | rfl | (dsimp only; omega) | (intro _; rfl) | (intro e; exact absurd e m1), by first | rfl | (dsimp only; omega) | (intro _; rfl) | (intro e; exact absurd e m1), .inl ⟨rfl, by first | rfl | (dsimp only; omega) | (intro _; rfl) | (intro e; exact absurd e m1), by first | rfl | (dsimp only; omega) | (intro _; rfl) | (intro e; exact absurd e m1)⟩⟩)).symm)
          clear HR
          go_wp2
          go_ret
          exact ⟨by rw [← HN.out]; rfl, HB0.out⟩
    · clear a4 a5
      cases rd with
      | false =>
        · have HN : Hid (51 = r) := hide (by rw [← HR.out]; refine (if_neg ?_).symm; intro h; have h := (may_iff _).1 h; dsimp only at h; obtain ⟨h1, h2, h3, h4, h5, h6, h7, h8, h9⟩ := h; first | omega | (have := h6 rfl; simp at this; done) | (rcases h9 with ⟨e, e1, e2⟩ | ⟨e, e1, e2, e3⟩ | ⟨e, e1, e2, e3⟩ <;> first | omega | (simp at e1; done) | (simp at e2; done) | (simp at e3; done)))
          clear HR
          go_wp2
          go_ret
          exact ⟨by rw [← HN.out]; rfl, HB0.out⟩
      | true =>
      cases closed with
      | false =>
        · have HN : Hid (0 = r) := hide (by rw [← HR.out]; exact (if_pos ((may_iff _).2 ⟨by first | rfl | (dsimp only; omega) | (intro _; rfl) | (intro e; exact absurd e m1), by first | rfl | (dsimp only; omega) | (intro _; rfl) | (intro e; exact absurd e m1), by first | rfl | (dsimp only; omega) | (intro _; rfl) | (intro e; exact absurd e m1), by first | rfl | (dsimp only; omega) | (intro _; rfl) | (intro e; exact absurd e m1), by first | rfl | (dsimp only; omega) | (intro _; rfl) | (intro e; exact absurd e m1), by first | rfl | (dsimp only; omega) | (intro _; rfl) | (intro e; exact absurd e m1), by first | rfl | (dsimp only; omega) | (intro _; rfl) | (intro e; exact absurd e m1), by first | rfl | (dsimp only; omega) | (intro _; rfl) | (intro e; exact absurd e m1), .inr (.inl ⟨rfl, rfl, by first | rfl | (dsimp only; omega) | (intro _; rfl) | (intro e; exact absurd e m1), rfl⟩)⟩)).symm)
          clear HR
          go_wp2
          go_ret
          exact ⟨by rw [← HN.out]; rfl, HB0.out⟩
      | true =>
        · have HN : Hid (51 = r) := hide (by rw [← HR.out]; refine (if_neg ?_).symm; intro h; have h := (may_iff _).1 h; dsimp only at h; obtain ⟨h1, h2, h3, h4, h5, h6, h7, h8, h9⟩ := h; first | omega | (have := h6 rfl; simp at this; done) | (rcases h9 with ⟨e, e1, e2⟩ | ⟨e, e1, e2, e3⟩ | ⟨e, e1, e2, e3⟩ <;> first | omega | (simp at e1; done) | (simp at e2; done) | (simp at e3; done)))
          clear HR
          go_wp2
          go_ret
          exact ⟨by rw [← HN.out]; rfl, HB0.out⟩
    · clear a4 a5
      cases wt with
      | false =>
        · have HN : Hid (51 = r) := hide (by rw [← HR.out]; refine (if_neg ?_).symm; intro h; have h := (may_iff _).1 h; dsimp only at h; obtain ⟨h1, h2, h3, h4, h5, h6, h7, h8, h9⟩ := h; first | omega | (have := h6 rfl; simp at this; done) | (rcases h9 with ⟨e, e1, e2⟩ | ⟨e, e1, e2, e3⟩ | ⟨e, e1, e2, e3⟩ <;> first | omega | (simp at e1; done) | (simp at e2; done) | (simp at e3; done)))
          clear HR
          go_wp2
          go_ret
          exact ⟨by rw [← HN.out]; rfl, HB0.out⟩
      | true =>
      by_cases e1 : 0 < (inn.length : Int) + (back.length : Int)
      case pos =>
        · have HN : Hid (51 = r) := hide (by rw [← HR.out]; refine (if_neg ?_).symm; intro h; have h := (may_iff _).1 h; dsimp only at h; obtain ⟨h1, h2, h3, h4, h5, h6, h7, h8, h9⟩ := h; first | omega | (have := h6 rfl; simp at this; done) | (rcases h9 with ⟨e, e1, e2⟩ | ⟨e, e1, e2, e3⟩ | ⟨e, e1, e2, e3⟩ <;> first | omega | (simp at e1; done) | (simp at e2; done) | (simp at e3; done)))
          clear HR
          go_wp2
          go_ret
          exact ⟨by rw [← HN.out]; rfl, HB0.out⟩
      cases closed with
      | false =>
        · have HN : Hid (0 = r) := hide (by rw [← HR.out]; exact (if_pos ((may_iff _).2 ⟨by first | rfl | (dsimp only; omega) | (intro _; rfl) | (intro e; exact absurd e m1), by first | rfl | (dsimp only; omega) | (intro _; rfl) | (intro e; exact absurd e m1), by first | rfl | (dsimp only; omega) | (intro _; rfl) | (intro e; exact absurd e m1), by first | rfl | (dsimp only; omega) | (intro _; rfl) | (intro e; exact absurd e m1), by first | rfl | (dsimp only; omega) | (intro _; rfl) | (intro e; exact absurd e m1), by first | rfl | (dsimp only; omega) | (intro _; rfl) | (intro e; exact absurd e m1), by first | rfl | (dsimp only; omega) | (intro _; rfl) | (intro e; exact absurd e m1), by first | rfl | (dsimp only; omega) | (intro _; rfl) | (intro e; exact absurd e m1), .inr (.inr ⟨rfl, rfl, by first | rfl | (dsimp only; omega) | (intro _; rfl) | (intro e; exact absurd e m1), rfl⟩)⟩)).symm)
          clear HR
          go_wp2
          go_ret
          exact ⟨by rw [← HN.out]; rfl, HB0.out⟩
      | true =>
        · have HN : Hid (51 = r) := hide (by rw [← HR.out]; refine (if_neg ?_).symm; intro h; have h := (may_iff _).1 h; dsimp only at h; obtain ⟨h1, h2, h3, h4, h5, h6, h7, h8, h9⟩ := h; first | omega | (have := h6 rfl; simp at this; done) | (rcases h9 with ⟨e, e1, e2⟩ | ⟨e, e1, e2, e3⟩ | ⟨e, e1, e2, e3⟩ <;> first | omega | (simp at e1; done) | (simp at e2; done) | (simp at e3; done)))
          clear HR
          go_wp2
          go_ret
          exact ⟨by rw [← HN.out]; rfl, HB0.out⟩
  have m2 : (mode == 1) = false := by simp [m1]
  by_cases b1 : (inn.length : Int) ≤ 65536
  case neg =>
    · have HN : Hid (51 = r) := hide (by rw [← HR.out]; refine (if_neg ?_).symm; intro h; have h := (may_iff _).1 h; dsimp only at h; obtain ⟨h1, h2, h3, h4, h5, h6, h7, h8, h9⟩ := h; first | omega | (have := h6 rfl; simp at this; done) | (rcases h9 with ⟨e, e1, e2⟩ | ⟨e, e1, e2, e3⟩ | ⟨e, e1, e2, e3⟩ <;> first | omega | (simp at e1; done) | (simp at e2; done) | (simp at e3; done)))
      clear HR
      go_wp2
      go_ret
      exact ⟨by rw [← HN.out]; rfl, HB0.out⟩
  by_cases b2 : (back.length : Int) ≤ 8
  case neg =>
    · have HN : Hid (51 = r) := hide (by rw [← HR.out]; refine (if_neg ?_).symm; intro h; have h := (may_iff _).1 h; dsimp only at h; obtain ⟨h1, h2, h3, h4, h5, h6, h7, h8, h9⟩ := h; first | omega | (have := h6 rfl; simp at this; done) | (rcases h9 with ⟨e, e1, e2⟩ | ⟨e, e1, e2, e3⟩ | ⟨e, e1, e2, e3⟩ <;> first | omega | (simp at e1; done) | (simp at e2; done) | (simp at e3; done)))
      clear HR
      go_wp2
      go_ret
      exact ⟨by rw [← HN.out]; rfl, HB0.out⟩
  go_upto_region 5 with fail
  have hz : dir = 0 ∨ dir = 1 ∨ dir = 2 := by omega
  rcases hz with rfl | rfl | rfl
  · clear a4 a5
    rcases out with _ | ⟨c, t⟩
    case cons =>
      · have HN : Hid (51 = r) := hide (by rw [← HR.out]; refine (if_neg ?_).symm; intro h; have h := (may_iff _).1 h; dsimp only at h; obtain ⟨h1, h2, h3, h4, h5, h6, h7, h8, h9⟩ := h; first | omega | (have := h6 rfl; simp at this; done) | (rcases h9 with ⟨e, e1, e2⟩ | ⟨e, e1, e2, e3⟩ | ⟨e, e1, e2, e3⟩ <;> first | omega | (simp at e1; done) | (simp at e2; done) | (simp at e3; done)))
        clear HR
        go_wp2
        go_ret
        exact ⟨by rw [← HN.out]; rfl, HB0.out⟩
    by_cases e1 : 0 < (inn.length : Int) + (back.length : Int)
    case pos =>
      · have HN : Hid (51 = r) := hide (by rw [← HR.out]; refine (if_neg ?_).symm; intro h; have h := (may_iff _).1 h; dsimp only at h; obtain ⟨h1, h2, h3, h4, h5, h6, h7, h8, h9⟩ := h; first | omega | (have := h6 rfl; simp at this; done) | (rcases h9 with ⟨e, e1, e2⟩ | ⟨e, e1, e2, e3⟩ | ⟨e, e1, e2, e3⟩ <;> first | omega | (simp at e1; done) | (simp at e2; done) | (simp at e3; done)))
        clear HR
        go_wp2
        go_ret
        exact ⟨by rw [← HN.out]; rfl, HB0.out⟩
    cases closed with
    | false =>
      · have HN : Hid (0 = r) := hide (by rw [← HR.out]; exact (if_pos ((may_iff _).2 ⟨by first | rfl | (dsimp only; omega) | (intro _; rfl) | (intro e; exact absurd e m1), by first | rfl | (dsimp only; omega) | (intro _; rfl) | (intro e; exact absurd e m1), by first | rfl | (dsimp only; omega) | (intro _; rfl) | (intro e; exact absurd e m1), by first | rfl | (dsimp only; omega) | (intro _; rfl) | (intro e; exact absurd e m1), by first | rfl | (dsimp only; omega) | (intro _; rfl) | (intro e; exact absurd e m1), by first | rfl | (dsimp only; omega) | (intro _; rfl) | (intro e; exact absurd e m1), by first | rfl | (dsimp only; omega) | (intro _; rfl) | (intro e; exact absurd e m1), by first | rfl | (dsimp only; omega) | (intro _; rfl) | (intro e; exact absurd e m1), .inl ⟨rfl, by first | rfl | (dsimp only; omega) | (intro _; rfl) | (intro e; exact absurd e m1), by first | rfl | (dsimp only; omega) | (intro _; rfl) | (intro e; exact absurd e m1)⟩⟩)).symm)
        clear HR
        go_wp2
        go_ret
        exact ⟨by rw [← HN.out]; rfl, HB0.out⟩
    | true =>
      · have HN : Hid (0 = r) := hide (by rw [← HR.out]; exact (if_pos ((may_iff _).2 ⟨by first | rfl | (dsimp only; omega) | (intro _; rfl) | (intro e; exact absurd e m1), by first | rfl | (dsimp only; omega) | (intro _; rfl) | (intro e; exact absurd e m1), by first | rfl | (dsimp only; omega) | (intro _; rfl) | (intro e; exact absurd e m1), by first | rfl | (dsimp only; omega) | (intro _; rfl) | (intro e; exact absurd e m1), by first | rfl | (dsimp only; omega) | (intro _; rfl) | (intro e; exact absurd e m1), by first | rfl | (dsimp only; omega) | (intro _; rfl) | (intro e; exact absurd e m1), by first | rfl | (dsimp only; omega) | (intro _; rfl) | (intro e; exact absurd e m1), by first | rfl | (dsimp only; omega) | (intro _; rfl) | (intro e; exact absurd e m1), .inl ⟨rfl, by first | rfl | (dsimp only; omega) | (intro _; rfl) | (intro e; exact absurd e m1), by first | rfl | (dsimp only; omega) | (intro _; rfl) | (intro e; exact absurd e m1)⟩⟩)).symm)
        clear HR
        go_wp2
        go_ret
        exact ⟨by rw [← HN.out]; rfl, HB0.out⟩
  · clear a4 a5
    cases rd with
    | false =>
      · have HN : Hid (51 = r) := hide (by rw [← HR.out]; refine (if_neg ?_).symm; intro h; have h := (may_iff _).1 h; dsimp only at h; obtain ⟨h1, h2, h3, h4, h5, h6, h7, h8, h9⟩ := h; first | omega | (have := h6 rfl; simp at this; done) | (rcases h9 with ⟨e, e1, e2⟩ | ⟨e, e1, e2, e3⟩ | ⟨e, e1, e2, e3⟩ <;> first | omega | (simp at e1; done) | (simp at e2; done) | (simp at e3; done)))
        clear HR
        go_wp2
        go_ret
        exact ⟨by rw [← HN.out]; rfl, HB0.out⟩
    | true =>
    rcases out with _ | ⟨c, t⟩
    case cons =>
      · have HN : Hid (51 = r) := hide (by rw [← HR.out]; refine (if_neg ?_).symm; intro h; have h := (may_iff _).1 h; dsimp only at h; obtain ⟨h1, h2, h3, h4, h5, h6, h7, h8, h9⟩ := h; first | omega | (have := h6 rfl; simp at this; done) | (rcases h9 with ⟨e, e1, e2⟩ | ⟨e, e1, e2, e3⟩ | ⟨e, e1, e2, e3⟩ <;> first | omega | (simp at e1; done) | (simp at e2; done) | (simp at e3; done)))
        clear HR
        go_wp2
        go_ret
        exact ⟨by rw [← HN.out]; rfl, HB0.out⟩
    cases closed with
    | false =>
      · have HN : Hid (0 = r) := hide (by rw [← HR.out]; exact (if_pos ((may_iff _).2 ⟨by first | rfl | (dsimp only; omega) | (intro _; rfl) | (intro e; exact absurd e m1), by first | rfl | (dsimp only; omega) | (intro _; rfl) | (intro e; exact absurd e m1), by first | rfl | (dsimp only; omega) | (intro _; rfl) | (intro e; exact absurd e m1), by first | rfl | (dsimp only; omega) | (intro _; rfl) | (intro e; exact absurd e m1), by first | rfl | (dsimp only; omega) | (intro _; rfl) | (intro e; exact absurd e m1), by first | rfl | (dsimp only; omega) | (intro _; rfl) | (intro e; exact absurd e m1), by first | rfl | (dsimp only; omega) | (intro _; rfl) | (intro e; exact absurd e m1), by first | rfl | (dsimp only; omega) | (intro _; rfl) | (intro e; exact absurd e m1), .inr (.inl ⟨rfl, rfl, by first | rfl | (dsimp only; omega) | (intro _; rfl) | (intro e; exact absurd e m1), rfl⟩)⟩)).symm)
        clear HR
        go_wp2
        go_ret
        exact ⟨by rw [← HN.out]; rfl, HB0.out⟩
    | true =>
      · have HN : Hid (51 = r) := hide (by rw [← HR.out]; refine (if_neg ?_).symm; intro h; have h := (may_iff _).1 h; dsimp only at h; obtain ⟨h1, h2, h3, h4, h5, h6, h7, h8, h9⟩ := h; first | omega | (have := h6 rfl; simp at this; done) | (rcases h9 with ⟨e, e1, e2⟩ | ⟨e, e1, e2, e3⟩ | ⟨e, e1, e2, e3⟩ <;> first | omega | (simp at e1; done) | (simp at e2; done) | (simp at e3; done)))
        clear HR
        go_wp2
        go_ret
        exact ⟨by rw [← HN.out]; rfl, HB0.out⟩
  · clear a4 a5
    cases wt with
    | false =>
      · have HN : Hid (51 = r) := hide (by rw [← HR.out]; refine (if_neg ?_).symm; intro h; have h := (may_iff _).1 h; dsimp only at h; obtain ⟨h1, h2, h3, h4, h5, h6, h7, h8, h9⟩ := h; first | omega | (have := h6 rfl; simp at this; done) | (rcases h9 with ⟨e, e1, e2⟩ | ⟨e, e1, e2, e3⟩ | ⟨e, e1, e2, e3⟩ <;> first | omega | (simp at e1; done) | (simp at e2; done) | (simp at e3; done)))
        clear HR
        go_wp2
        go_ret
        exact ⟨by rw [← HN.out]; rfl, HB0.out⟩
    | true =>
    by_cases e1 : 0 < (inn.length : Int) + (back.length : Int)
    case pos =>
      · have HN : Hid (51 = r) := hide (by rw [← HR.out]; refine (if_neg ?_).symm; intro h; have h := (may_iff _).1 h; dsimp only at h; obtain ⟨h1, h2, h3, h4, h5, h6, h7, h8, h9⟩ := h; first | omega | (have := h6 rfl; simp at this; done) | (rcases h9 with ⟨e, e1, e2⟩ | ⟨e, e1, e2, e3⟩ | ⟨e, e1, e2, e3⟩ <;> first | omega | (simp at e1; done) | (simp at e2; done) | (simp at e3; done)))
        clear HR
        go_wp2
        go_ret
        exact ⟨by rw [← HN.out]; rfl, HB0.out⟩
    cases closed with
    | false =>
      · have HN : Hid (0 = r) := hide (by rw [← HR.out]; exact (if_pos ((may_iff _).2 ⟨by first | rfl | (dsimp only; omega) | (intro _; rfl) | (intro e; exact absurd e m1), by first | rfl | (dsimp only; omega) | (intro _; rfl) | (intro e; exact absurd e m1), by first | rfl | (dsimp only; omega) | (intro _; rfl) | (intro e; exact absurd e m1), by first | rfl | (dsimp only; omega) | (intro _; rfl) | (intro e; exact absurd e m1), by first | rfl | (dsimp only; omega) | (intro _; rfl) | (intro e; exact absurd e m1), by first | rfl | (dsimp only; omega) | (intro _; rfl) | (intro e; exact absurd e m1), by first | rfl | (dsimp only; omega) | (intro _; rfl) | (intro e; exact absurd e m1), by first | rfl | (dsimp only; omega) | (intro _; rfl) | (intro e; exact absurd e m1), .inr (.inr ⟨rfl, rfl, by first | rfl | (dsimp only; omega) | (intro _; rfl) | (intro e; exact absurd e m1), rfl⟩)⟩)).symm)
        clear HR
        go_wp2
        go_ret
        exact ⟨by rw [← HN.out]; rfl, HB0.out⟩
    | true =>
      · have HN : Hid (51 = r) := hide (by rw [← HR.out]; refine (if_neg ?_).symm; intro h; have h := (may_iff _).1 h; dsimp only at h; obtain ⟨h1, h2, h3, h4, h5, h6, h7, h8, h9⟩ := h; first | omega | (have := h6 rfl; simp at this; done) | (rcases h9 with ⟨e, e1, e2⟩ | ⟨e, e1, e2, e3⟩ | ⟨e, e1, e2, e3⟩ <;> first | omega | (simp at e1; done) | (simp at e2; done) | (simp at e3; done)))
        clear HR
        go_wp2
        go_ret
        exact ⟨by rw [← HN.out]; rfl, HB0.out⟩
set_option maxRecDepth 100000 in
set_option maxHeartbeats 1000000 in
theorem rbegin_any (x : SS) (oa ia ba : Option Addr) (oc ic bc : Nat) (w : World) (hi : x.inn.length ≤ 140737488351232) (hb : x.back.length ≤ 140737488351232) :
    Calls Try.prog 32 #[.agg #[.bool x.rd, .bool x.wt, .int .i64 x.mode, .int .i64 x.size, .slice oa x.out.length oc, .slice ia x.inn.length ic, .slice ba x.back.length bc, .int .i64 x.dir, .bool x.fin, .bool x.bad, .bool x.closed]] w fun e w' => e = .returned (.int .i64 (x.refuse true)) ∧ Below w.heap.size w w' := by
  have HC := hide (fun W => rcheck_any x oa ia ba oc ic bc W hi hb)
  generalize hr : x.refuse true = r
  unfold SS.refuse at hr
  cases h1 : x.may with
  | false =>
    rw [h1] at HC
    simp only [Bool.false_eq_true, if_false] at HC
    have HR : Hid (51 = r) := hide (by rw [← hr, h1]; rfl)
    clear hr h1
    go_enter Try.func32, Try.ntmps32
    go_wp2_with fail
    have HB0 := hide (recv_below w (Obj.cells #[.bool x.rd, .bool x.wt, .int .i64 x.mode, .int .i64 x.size, .slice oa x.out.length oc, .slice ia x.inn.length ic, .slice ba x.back.length bc, .int .i64 x.dir, .bool x.fin, .bool x.bad, .bool x.closed] 24))
    generalize w.alloc (Obj.cells #[.bool x.rd, .bool x.wt, .int .i64 x.mode, .int .i64 x.size, .slice oa x.out.length oc, .slice ia x.inn.length ic, .slice ba x.back.length bc, .int .i64 x.dir, .bool x.fin, .bool x.bad, .bool x.closed] 24) = w0 at *
    refine (HC.out w0).mono ?_
    rintro _ w1 ⟨rfl, hB1⟩
    have HB1 := hide (HB0.out.trans (hB1.mono HB0.out.size))
    clear hB1
    go_wp2
    go_ret
    exact ⟨by rw [← HR.out]; rfl, HB1.out⟩
  | true =>
    rw [h1] at HC
    simp only [if_true] at HC
    rcases Bool.eq_false_or_eq_true x.closed with h2 | h2
    · have HR : Hid (113 = r) := hide (by rw [← hr, h1, h2]; rfl)
      have H2 := hide h2
      clear hr h1 h2
      go_enter Try.func32, Try.ntmps32
      go_wp2_with fail
      have HB0 := hide (recv_below w (Obj.cells #[.bool x.rd, .bool x.wt, .int .i64 x.mode, .int .i64 x.size, .slice oa x.out.length oc, .slice ia x.inn.length ic, .slice ba x.back.length bc, .int .i64 x.dir, .bool x.fin, .bool x.bad, .bool x.closed] 24))
      have HS0 := hide (RSt.new w x (.slice oa x.out.length oc) (.slice ia x.inn.length ic) (.slice ba x.back.length bc))
      generalize w.alloc (Obj.cells #[.bool x.rd, .bool x.wt, .int .i64 x.mode, .int .i64 x.size, .slice oa x.out.length oc, .slice ia x.inn.length ic, .slice ba x.back.length bc, .int .i64 x.dir, .bool x.fin, .bool x.bad, .bool x.closed] 24) = w0 at *
      refine (HC.out w0).mono ?_
      rintro _ w1 ⟨rfl, hB1⟩
      have HS1 := hide (HS0.out.below hB1)
      obtain ⟨-, -, -, -, -, -, -, -, -, -, c10⟩ := HS1.out.cs
      rw [H2.out] at c10
      have HB1 := hide (HB0.out.trans (hB1.mono HB0.out.size))
      clear hB1
      go_wp2
      go_ret
      exact ⟨by rw [← HR.out]; rfl, HB1.out⟩
    · have HR : Hid (0 = r) := hide (by rw [← hr, h1, h2]; simp)
      have H2 := hide h2
      clear hr h1 h2
      go_enter Try.func32, Try.ntmps32
      go_wp2_with fail
      have HB0 := hide (recv_below w (Obj.cells #[.bool x.rd, .bool x.wt, .int .i64 x.mode, .int .i64 x.size, .slice oa x.out.length oc, .slice ia x.inn.length ic, .slice ba x.back.length bc, .int .i64 x.dir, .bool x.fin, .bool x.bad, .bool x.closed] 24))
      have HS0 := hide (RSt.new w x (.slice oa x.out.length oc) (.slice ia x.inn.length ic) (.slice ba x.back.length bc))
      generalize w.alloc (Obj.cells #[.bool x.rd, .bool x.wt, .int .i64 x.mode, .int .i64 x.size, .slice oa x.out.length oc, .slice ia x.inn.length ic, .slice ba x.back.length bc, .int .i64 x.dir, .bool x.fin, .bool x.bad, .bool x.closed] 24) = w0 at *
      refine (HC.out w0).mono ?_
      rintro _ w1 ⟨rfl, hB1⟩
      have HS1 := hide (HS0.out.below hB1)
      obtain ⟨-, -, -, -, -, -, -, -, -, -, c10⟩ := HS1.out.cs
      rw [H2.out] at c10
      have HB1 := hide (HB0.out.trans (hB1.mono HB0.out.size))
      clear hB1
      go_wp2
      go_ret
      exact ⟨by rw [← HR.out]; rfl, HB1.out⟩
end Go.Proofs.Ytpffhemmjigfaaa

/- Bytes pushed back: a copy of a state, its lists apart. -/
namespace Go.Proofs.Ytpffhemmjigfaaa
open Go.RowKit

set_option maxRecDepth 100000 in
set_option maxHeartbeats 40000000 in
theorem pcopied_any (x : SS) (o i b : Value) (P : Nat → Prop) (w : World) (h : SIn w P x o i b) (ho : x.out.length ≤ 140737488351232) (hi : x.inn.length ≤ 140737488351232) (hb : x.back.length ≤ 140737488351232) :
    Calls Try.prog 29 #[.agg #[.bool x.rd, .bool x.wt, .int .i64 x.mode, .int .i64 x.size, o, i, b, .int .i64 x.dir, .bool x.fin, .bool x.bad, .bool x.closed]] w fun e w' => ∃ o' i' b', e = .returned (.agg #[.bool x.rd, .bool x.wt, .int .i64 x.mode, .int .i64 x.size, o', i', b', .int .i64 x.dir, .bool x.fin, .bool x.bad, .bool x.closed]) ∧ w'.ownsRow w.heap.size 5 1 o' x.out.length (x.out.map bv) ∧ w'.ownsRow w.heap.size 5 1 i' x.inn.length (x.inn.map bv) ∧ w'.ownsRow w.heap.size 5 1 b' x.back.length (x.back.map bv) ∧ Below w.heap.size w w' ∧ Ap3 o' i' b' := by
  have HC1 := hide (fun W (hB : Below w.heap.size w W) => bclone_any o x.out W ((h.so.turned (Turned.of_below (S := fun _ => False) hB) (fun _ _ _ => id)).choose_spec.choose_spec.2.1) ho)
  have HC2 := hide (fun W (hB : Below w.heap.size w W) => bclone_any i x.inn W ((h.si.turned (Turned.of_below (S := fun _ => False) hB) (fun _ _ _ => id)).choose_spec.choose_spec.2.1) hi)
  have HC3 := hide (fun W (hB : Below w.heap.size w W) => bclone_any b x.back W ((h.sb.turned (Turned.of_below (S := fun _ => False) hB) (fun _ _ _ => id)).choose_spec.choose_spec.2.1) hb)
  obtain ⟨oa, oc, rfl, -⟩ := h.so
  obtain ⟨ia, ic, rfl, -⟩ := h.si
  obtain ⟨ba, bc, rfl, -⟩ := h.sb
  clear h
  go_enter Try.func29, Try.ntmps29
  go_wp2_with fail
  have HB0 := hide ((recv_below w (Obj.cells #[.bool x.rd, .bool x.wt, .int .i64 x.mode, .int .i64 x.size, .slice oa x.out.length oc, .slice ia x.inn.length ic, .slice ba x.back.length bc, .int .i64 x.dir, .bool x.fin, .bool x.bad, .bool x.closed] 25)).trans ((recv_below (w.alloc (Obj.cells #[.bool x.rd, .bool x.wt, .int .i64 x.mode, .int .i64 x.size, .slice oa x.out.length oc, .slice ia x.inn.length ic, .slice ba x.back.length bc, .int .i64 x.dir, .bool x.fin, .bool x.bad, .bool x.closed] 25)) (Obj.cells #[.bool false, .bool false, .int .i64 0, .int .i64 0, .slice none 0 0, .slice none 0 0, .slice none 0 0, .int .i64 0, .bool false, .bool false, .bool false] 25)).mono (recv_below w (Obj.cells #[.bool x.rd, .bool x.wt, .int .i64 x.mode, .int .i64 x.size, .slice oa x.out.length oc, .slice ia x.inn.length ic, .slice ba x.back.length bc, .int .i64 x.dir, .bool x.fin, .bool x.bad, .bool x.closed] 25)).size))
  have HS0 := hide ((StAt.new w x (.slice oa x.out.length oc) (.slice ia x.inn.length ic) (.slice ba x.back.length bc)).below (recv_below _ (Obj.cells #[.bool false, .bool false, .int .i64 0, .int .i64 0, .slice none 0 0, .slice none 0 0, .slice none 0 0, .int .i64 0, .bool false, .bool false, .bool false] 25)))
  have HZ0 : Hid (((w.alloc (Obj.cells #[.bool x.rd, .bool x.wt, .int .i64 x.mode, .int .i64 x.size, .slice oa x.out.length oc, .slice ia x.inn.length ic, .slice ba x.back.length bc, .int .i64 x.dir, .bool x.fin, .bool x.bad, .bool x.closed] 25)).alloc (Obj.cells #[.bool false, .bool false, .int .i64 0, .int .i64 0, .slice none 0 0, .slice none 0 0, .slice none 0 0, .int .i64 0, .bool false, .bool false, .bool false] 25)).heap[w.heap.size + 1]? = some (Obj.cells #[.bool false, .bool false, .int .i64 0, .int .i64 0, .slice none 0 0, .slice none 0 0, .slice none 0 0, .int .i64 0, .bool false, .bool false, .bool false] 25)) := hide (by have := heap_alloc_new (w.alloc (Obj.cells #[.bool x.rd, .bool x.wt, .int .i64 x.mode, .int .i64 x.size, .slice oa x.out.length oc, .slice ia x.inn.length ic, .slice ba x.back.length bc, .int .i64 x.dir, .bool x.fin, .bool x.bad, .bool x.closed] 25)) (Obj.cells #[.bool false, .bool false, .int .i64 0, .int .i64 0, .slice none 0 0, .slice none 0 0, .slice none 0 0, .int .i64 0, .bool false, .bool false, .bool false] 25); rw [show (w.alloc (Obj.cells #[.bool x.rd, .bool x.wt, .int .i64 x.mode, .int .i64 x.size, .slice oa x.out.length oc, .slice ia x.inn.length ic, .slice ba x.back.length bc, .int .i64 x.dir, .bool x.fin, .bool x.bad, .bool x.closed] 25)).heap.size = w.heap.size + 1 from Array.size_push ..] at this; exact this)
  generalize (w.alloc (Obj.cells #[.bool x.rd, .bool x.wt, .int .i64 x.mode, .int .i64 x.size, .slice oa x.out.length oc, .slice ia x.inn.length ic, .slice ba x.back.length bc, .int .i64 x.dir, .bool x.fin, .bool x.bad, .bool x.closed] 25)).alloc (Obj.cells #[.bool false, .bool false, .int .i64 0, .int .i64 0, .slice none 0 0, .slice none 0 0, .slice none 0 0, .int .i64 0, .bool false, .bool false, .bool false] 25) = w0 at *
  have hz0 : w.heap.size + 1 < w0.heap.size := (Array.getElem?_eq_some_iff.1 HZ0.out).1
  obtain ⟨-, -, -, -, c4, c5, c6, -⟩ := HS0.out.cs
  go_region_law (first
    | (go_simp; go_at_call 52; have := HB2; refine (HC3.out _ HB2.out).mono ?_; rintro _ w3 ⟨u3, rfl, hO3, hB3⟩; obtain ⟨a3, k3, rfl⟩ := owns_slice hO3; have HS3 := hide (HS2.out.below hB3); have HZ3 := hide ((hB3.block (w.heap.size + 1) (Array.getElem?_eq_some_iff.1 HZ2.out).1).trans HZ2.out); have HB3 := hide (HB2.out.trans (hB3.mono HB2.out.size)); have HO3 := hide (And.intro (And.intro (owns_below HO2.out.1 hB3) (owns_below HO2.out.2 hB3)) hO3); clear hO3 hB3; obtain ⟨f0, f1, f2, f3, f4, f5, f6, f7, f8, f9, f10⟩ := HS3.out.cs; have g4 := frozen_of_row w3 w.heap.size 4 _ _ HS3.out; have g5 := frozen_of_row w3 w.heap.size 5 _ _ HS3.out; have g6 := frozen_of_row w3 w.heap.size 6 _ _ HS3.out)
    | (go_simp; go_at_call 52; have := HB1; refine (HC2.out _ HB1.out).mono ?_; rintro _ w2 ⟨u2, rfl, hO2, hB2⟩; obtain ⟨a2, k2, rfl⟩ := owns_slice hO2; have HS2 := hide (HS1.out.below hB2); have HZ2 := hide ((hB2.block (w.heap.size + 1) (Array.getElem?_eq_some_iff.1 HZ1.out).1).trans HZ1.out); have HB2 := hide (HB1.out.trans (hB2.mono HB1.out.size)); have hs2 := hB2.size; have HO2 := hide (And.intro (owns_below HO1.out hB2) hO2); clear hO2 hB2; obtain ⟨-, -, -, -, e4, e5, e6, -⟩ := HS2.out.cs)
    | (go_simp; go_at_call 52; refine (HC1.out _ (by exact HB0.out.drew)).mono ?_; rintro _ w1 ⟨u1, rfl, hO1, hB1⟩; obtain ⟨a1, k1, rfl⟩ := owns_slice hO1; have HS1 := hide (HS0.out.below ((Below.refl _ _).drew.trans hB1)); have HZ1 := hide ((hB1.block (w.heap.size + 1) (Array.getElem?_eq_some_iff.1 HZ0.out).1).trans HZ0.out); have HB1 := hide (HB0.out.trans (((Below.refl _ _).drew.trans hB1).mono HB0.out.size)); have hs1 : w0.heap.size ≤ w1.heap.size := hB1.size; have HO1 := hide hO1; clear hO1 hB1; obtain ⟨-, -, -, -, d4, d5, d6, -⟩ := HS1.out.cs)
    | fail)
  all_goals
    have e4 := Go.heap_setCell_same w3 w.heap.size 4 _ _ (.slice a1 x.out.length k1) HS3.out
    have e5 := Go.heap_setCell_same _ w.heap.size 5 _ _ (.slice a2 x.inn.length k2) e4
    have e6 := Go.heap_setCell_same _ w.heap.size 6 _ _ (.slice a3 x.back.length k3) e5
    have HS4 : Hid (StAt (((w3.setCell ⟨w.heap.size, 4, none⟩ (.slice a1 x.out.length k1)).setCell ⟨w.heap.size, 5, none⟩ (.slice a2 x.inn.length k2)).setCell ⟨w.heap.size, 6, none⟩ (.slice a3 x.back.length k3)) w.heap.size x (.slice a1 x.out.length k1) (.slice a2 x.inn.length k2) (.slice a3 x.back.length k3)) := hide e6
    have HT4 : Hid (Turned (fun k => k = w.heap.size) w3 (((w3.setCell ⟨w.heap.size, 4, none⟩ (.slice a1 x.out.length k1)).setCell ⟨w.heap.size, 5, none⟩ (.slice a2 x.inn.length k2)).setCell ⟨w.heap.size, 6, none⟩ (.slice a3 x.back.length k3))) := hide ((((Turned.refl (fun k => k = w.heap.size) w3).set (.inl rfl)).set (.inl rfl)).set (.inl rfl))
    clear e4 e5 e6 f0 f1 f2 f3 f4 f5 f6 f7 f8 f9 f10 g4 g5 g6 c4 c5 c6 d4 d5 d6 HS0 HS1 HS2 HS3 HZ0 HZ1 HZ2 HC1 HC2 HC3
    generalize ((w3.setCell ⟨w.heap.size, 4, none⟩ (.slice a1 x.out.length k1)).setCell ⟨w.heap.size, 5, none⟩ (.slice a2 x.inn.length k2)).setCell ⟨w.heap.size, 6, none⟩ (.slice a3 x.back.length k3) = w4 at *
    have HZ4 := hide ((HT4.out.block (w.heap.size + 1) (Array.getElem?_eq_some_iff.1 HZ3.out).1 (by omega)).trans HZ3.out)
    obtain ⟨f0, f1, f2, f3, f4, f5, f6, f7, f8, f9, f10⟩ := HS4.out.cs
    have z0 := cell_of_row w4 (w.heap.size + 1) 0 _ _ _ HZ4.out
    have z1 := cell_of_row w4 (w.heap.size + 1) 1 _ _ _ HZ4.out
    have z2 := cell_of_row w4 (w.heap.size + 1) 2 _ _ _ HZ4.out
    have z3 := cell_of_row w4 (w.heap.size + 1) 3 _ _ _ HZ4.out
    have z4 := cell_of_row w4 (w.heap.size + 1) 4 _ _ _ HZ4.out
    have z5 := cell_of_row w4 (w.heap.size + 1) 5 _ _ _ HZ4.out
    have z6 := cell_of_row w4 (w.heap.size + 1) 6 _ _ _ HZ4.out
    have z7 := cell_of_row w4 (w.heap.size + 1) 7 _ _ _ HZ4.out
    have z8 := cell_of_row w4 (w.heap.size + 1) 8 _ _ _ HZ4.out
    have z9 := cell_of_row w4 (w.heap.size + 1) 9 _ _ _ HZ4.out
    have z10 := cell_of_row w4 (w.heap.size + 1) 10 _ _ _ HZ4.out
    have y0 := frozen_of_row w4 (w.heap.size + 1) 0 _ _ HZ4.out
    have y1 := frozen_of_row w4 (w.heap.size + 1) 1 _ _ HZ4.out
    have y2 := frozen_of_row w4 (w.heap.size + 1) 2 _ _ HZ4.out
    have y3 := frozen_of_row w4 (w.heap.size + 1) 3 _ _ HZ4.out
    have y4 := frozen_of_row w4 (w.heap.size + 1) 4 _ _ HZ4.out
    have y5 := frozen_of_row w4 (w.heap.size + 1) 5 _ _ HZ4.out
    have y6 := frozen_of_row w4 (w.heap.size + 1) 6 _ _ HZ4.out
    have y7 := frozen_of_row w4 (w.heap.size + 1) 7 _ _ HZ4.out
    have y8 := frozen_of_row w4 (w.heap.size + 1) 8 _ _ HZ4.out
    have y9 := frozen_of_row w4 (w.heap.size + 1) 9 _ _ HZ4.out
    have y10 := frozen_of_row w4 (w.heap.size + 1) 10 _ _ HZ4.out
    simp at z0 z1 z2 z3 z4 z5 z6 z7 z8 z9 z10
    go_wp2
    obtain ⟨e1, e2⟩ := st_fill w4 (w.heap.size + 1) x (.slice a1 x.out.length k1) (.slice a2 x.inn.length k2) (.slice a3 x.back.length k3) HZ4.out
    have HTw := hide ((HT4.out.mono fun k e => (.inl e : k = w.heap.size ∨ k = w.heap.size + 1)).trans (e2.mono fun k e => (.inr e : k = w.heap.size ∨ k = w.heap.size + 1)) (fun _ _ e => e))
    refine bodyPost_ret (results_cell_row rfl _ _ (w.heap.size + 1) _ _ _ _ rfl e1 Try.underlying25 rfl (by kernel_rfl)) rfl ?_
    have far : ∀ k, w.heap.size + 1 < k → ¬ (k = w.heap.size ∨ k = w.heap.size + 1) := fun k h e => by omega
    have hr1 := HO3.out.1.1
    have hr2 := HO3.out.1.2
    have hr3 := HO3.out.2
    have hs0 : w.heap.size + 1 < w0.drew.heap.size := hz0
    exact ⟨_, _, _, rfl, owns_mono (owns_turned hr1 HTw.out (fun k e => far k (by have := (hr1.lt k e).1; omega))) (by omega), owns_mono (owns_turned hr2 HTw.out (fun k e => far k (by have := (hr2.lt k e).1; omega))) (by omega), owns_mono (owns_turned hr3 HTw.out (fun k e => far k (by have := (hr3.lt k e).1; omega))) (by omega), (HTw.out.below (B := w.heap.size) (fun k e => by omega) HB3.out.size) |> HB3.out.trans, fun k e => ⟨fun e' => by have := (HO1.out.lt k e).2; have := (HO2.out.2.lt k e').1; omega, fun e' => by have := (HO1.out.lt k e).2; have := (HO3.out.2.lt k e').1; omega⟩, fun k e e' => by have := (HO2.out.2.lt k e).2; have := (HO3.out.2.lt k e').1; omega⟩
end Go.Proofs.Ytpffhemmjigfaaa

/- Bytes pushed back: what is asked first. -/
namespace Go.Proofs.Ytpffhemmjigfaaa
open Go.RowKit

/-- Why n bytes are not pushed back. -/
def SS.noPush (x : SS) (n : Nat) : Int := if x.refuse true ≠ 0 then x.refuse true else if x.rd = false then 65 else if x.dir = 2 then 112 else if (8 : Int) - x.back.length < n then 31 else 0
def SS.unget (x : SS) (l : List UInt8) : SS × Int :=
  if x.noPush l.length ≠ 0 ∨ l = [] then (x, x.noPush l.length) else ({ x with back := x.back ++ l.reverse, dir := 1, fin := false }, 0)
def SS.heldE (x : SS) : Int := x.refuse true
def SS.heldL (x : SS) : List UInt8 := if x.refuse true ≠ 0 then [] else x.back.reverse ++ x.inn
theorem noPush_may {x : SS} {n : Nat} (h : x.noPush n = 0) : x.refuse true = 0 ∧ x.rd = true ∧ x.dir ≠ 2 ∧ (n : Int) ≤ 8 - x.back.length := by
  unfold SS.noPush at h
  split at h
  · contradiction
  split at h
  · omega
  split at h
  · omega
  split at h
  · omega
  rename_i h1 h2 h3 h4
  exact ⟨by simpa using h1, by simpa using h2, h3, by omega⟩
set_option maxRecDepth 100000 in
set_option maxHeartbeats 1000000 in
theorem prefusal_any (x : SS) (oa ia ba : Option Addr) (oc ic bc : Nat) (w : World) (hi : x.inn.length ≤ 140737488351232) (hb : x.back.length ≤ 140737488351232) :
    Calls Try.prog 33 #[.agg #[.bool x.rd, .bool x.wt, .int .i64 x.mode, .int .i64 x.size, .slice oa x.out.length oc, .slice ia x.inn.length ic, .slice ba x.back.length bc, .int .i64 x.dir, .bool x.fin, .bool x.bad, .bool x.closed]] w fun e w' => e = .returned (.int .i64 (x.refuse true)) ∧ Below w.heap.size w w' := by
  have HC := hide (fun W => scheck_any x oa ia ba oc ic bc W hi hb)
  generalize hr : x.refuse true = r
  unfold SS.refuse at hr
  cases h1 : x.may with
  | false =>
    rw [h1] at HC
    simp only [Bool.false_eq_true, if_false] at HC
    have HR : Hid (51 = r) := hide (by rw [← hr, h1]; rfl)
    clear hr h1
    go_enter Try.func33, Try.ntmps33
    go_wp2_with fail
    have HB0 := hide (recv_below w (Obj.cells #[.bool x.rd, .bool x.wt, .int .i64 x.mode, .int .i64 x.size, .slice oa x.out.length oc, .slice ia x.inn.length ic, .slice ba x.back.length bc, .int .i64 x.dir, .bool x.fin, .bool x.bad, .bool x.closed] 25))
    generalize w.alloc (Obj.cells #[.bool x.rd, .bool x.wt, .int .i64 x.mode, .int .i64 x.size, .slice oa x.out.length oc, .slice ia x.inn.length ic, .slice ba x.back.length bc, .int .i64 x.dir, .bool x.fin, .bool x.bad, .bool x.closed] 25) = w0 at *
    refine (HC.out w0).mono ?_
    rintro _ w1 ⟨rfl, hB1⟩
    have HB1 := hide (HB0.out.trans (hB1.mono HB0.out.size))
    clear hB1
    go_wp2
    go_ret
    exact ⟨by rw [← HR.out]; rfl, HB1.out⟩
  | true =>
    rw [h1] at HC
    simp only [if_true] at HC
    rcases Bool.eq_false_or_eq_true x.closed with h2 | h2
    · have HR : Hid (113 = r) := hide (by rw [← hr, h1, h2]; rfl)
      have H2 := hide h2
      clear hr h1 h2
      go_enter Try.func33, Try.ntmps33
      go_wp2_with fail
      have HB0 := hide (recv_below w (Obj.cells #[.bool x.rd, .bool x.wt, .int .i64 x.mode, .int .i64 x.size, .slice oa x.out.length oc, .slice ia x.inn.length ic, .slice ba x.back.length bc, .int .i64 x.dir, .bool x.fin, .bool x.bad, .bool x.closed] 25))
      have HS0 := hide (StAt.new w x (.slice oa x.out.length oc) (.slice ia x.inn.length ic) (.slice ba x.back.length bc))
      generalize w.alloc (Obj.cells #[.bool x.rd, .bool x.wt, .int .i64 x.mode, .int .i64 x.size, .slice oa x.out.length oc, .slice ia x.inn.length ic, .slice ba x.back.length bc, .int .i64 x.dir, .bool x.fin, .bool x.bad, .bool x.closed] 25) = w0 at *
      refine (HC.out w0).mono ?_
      rintro _ w1 ⟨rfl, hB1⟩
      have HS1 := hide (HS0.out.below hB1)
      obtain ⟨-, -, -, -, -, -, -, -, -, -, c10⟩ := HS1.out.cs
      rw [H2.out] at c10
      have HB1 := hide (HB0.out.trans (hB1.mono HB0.out.size))
      clear hB1
      go_wp2
      go_ret
      exact ⟨by rw [← HR.out]; rfl, HB1.out⟩
    · have HR : Hid (0 = r) := hide (by rw [← hr, h1, h2]; simp)
      have H2 := hide h2
      clear hr h1 h2
      go_enter Try.func33, Try.ntmps33
      go_wp2_with fail
      have HB0 := hide (recv_below w (Obj.cells #[.bool x.rd, .bool x.wt, .int .i64 x.mode, .int .i64 x.size, .slice oa x.out.length oc, .slice ia x.inn.length ic, .slice ba x.back.length bc, .int .i64 x.dir, .bool x.fin, .bool x.bad, .bool x.closed] 25))
      have HS0 := hide (StAt.new w x (.slice oa x.out.length oc) (.slice ia x.inn.length ic) (.slice ba x.back.length bc))
      generalize w.alloc (Obj.cells #[.bool x.rd, .bool x.wt, .int .i64 x.mode, .int .i64 x.size, .slice oa x.out.length oc, .slice ia x.inn.length ic, .slice ba x.back.length bc, .int .i64 x.dir, .bool x.fin, .bool x.bad, .bool x.closed] 25) = w0 at *
      refine (HC.out w0).mono ?_
      rintro _ w1 ⟨rfl, hB1⟩
      have HS1 := hide (HS0.out.below hB1)
      obtain ⟨-, -, -, -, -, -, -, -, -, -, c10⟩ := HS1.out.cs
      rw [H2.out] at c10
      have HB1 := hide (HB0.out.trans (hB1.mono HB0.out.size))
      clear hB1
      go_wp2
      go_ret
      exact ⟨by rw [← HR.out]; rfl, HB1.out⟩
set_option maxRecDepth 100000 in
set_option maxHeartbeats 2000000 in
theorem ppush_any (x : SS) (n : Nat) (oa ia ba : Option Addr) (oc ic bc : Nat) (w : World) (hi : x.inn.length ≤ 140737488351232) (hb : x.back.length ≤ 140737488351232) :
    Calls Try.prog 30 #[.agg #[.bool x.rd, .bool x.wt, .int .i64 x.mode, .int .i64 x.size, .slice oa x.out.length oc, .slice ia x.inn.length ic, .slice ba x.back.length bc, .int .i64 x.dir, .bool x.fin, .bool x.bad, .bool x.closed], .int .i64 n] w fun e w' => e = .returned (.int .i64 (x.noPush n)) ∧ Below w.heap.size w w' := by
  have HC := hide (fun W => prefusal_any x oa ia ba oc ic bc W hi hb)
  generalize hr : x.noPush n = r
  unfold SS.noPush at hr
  generalize x.refuse true = q at *
  go_enter Try.func30, Try.ntmps30
  go_wp2_with fail
  have HB0 := hide (recv_below w (Obj.cells #[.bool x.rd, .bool x.wt, .int .i64 x.mode, .int .i64 x.size, .slice oa x.out.length oc, .slice ia x.inn.length ic, .slice ba x.back.length bc, .int .i64 x.dir, .bool x.fin, .bool x.bad, .bool x.closed] 25))
  have HS0 := hide (StAt.new w x (.slice oa x.out.length oc) (.slice ia x.inn.length ic) (.slice ba x.back.length bc))
  generalize w.alloc (Obj.cells #[.bool x.rd, .bool x.wt, .int .i64 x.mode, .int .i64 x.size, .slice oa x.out.length oc, .slice ia x.inn.length ic, .slice ba x.back.length bc, .int .i64 x.dir, .bool x.fin, .bool x.bad, .bool x.closed] 25) = w0 at *
  refine (HC.out w0).mono ?_
  rintro _ w1 ⟨rfl, hB1⟩
  have HS1 := hide (HS0.out.below hB1)
  obtain ⟨c0, -, -, -, -, -, c6, c7, -, -, -⟩ := HS1.out.cs
  have HB1 := hide (HB0.out.trans (hB1.mono HB0.out.size))
  clear hB1
  by_cases hq : q = 0
  case neg =>
    rw [if_pos hq] at hr
    subst hr
    have hq2 : (q == 0) = false := by simp [hq]
    have hq3 : (q != 0) = true := by simp [hq]
    go_wp2
    go_ret
    exact ⟨rfl, HB1.out⟩
  subst hq
  rw [if_neg (by omega)] at hr
  rcases Bool.eq_false_or_eq_true x.rd with h2 | h2
  case inr =>
    rw [if_pos h2] at hr
    rw [h2] at c0
    subst hr
    clear h2
    go_wp2
    go_ret
    exact ⟨rfl, HB1.out⟩
  rw [if_neg (by simp [h2])] at hr
  rw [h2] at c0
  clear h2
  by_cases h3 : x.dir = 2
  · rw [if_pos h3] at hr
    rw [h3] at c7
    subst hr
    clear h3
    go_wp2
    go_ret
    exact ⟨rfl, HB1.out⟩
  rw [if_neg h3] at hr
  have h3b : (x.dir == 2) = false := by simp [h3]
  by_cases h4 : (8 : Int) - x.back.length < n
  · rw [if_pos h4] at hr
    have HR := hide hr
    clear hr
    go_wp2
    go_ret
    exact ⟨by rw [← HR.out]; rfl, HB1.out⟩
  · rw [if_neg h4] at hr
    have HR := hide hr
    clear hr
    go_wp2
    go_ret
    exact ⟨by rw [← HR.out]; rfl, HB1.out⟩
end Go.Proofs.Ytpffhemmjigfaaa

/- What bufmode.lengths hands out, for every loop body: how long the writes are, the first one first. -/
namespace Go.Proofs.Ytpffhemmjigfaaa
open Go.RowKit Go.Shelf

attribute [local go_sem] Oper.semAt_some

/-- What a body leaves alone: the boxes, and the text. -/
def LenKp (Bt Bm Bk : Nat) (tv : Value) (t : List UInt8) (W W' : World) : Prop := W'.cell? ⟨Bt, 0, none⟩ = W.cell? ⟨Bt, 0, none⟩ ∧ W'.cell? ⟨Bm, 0, none⟩ = W.cell? ⟨Bm, 0, none⟩ ∧ W'.cell? ⟨Bk, 0, none⟩ = W.cell? ⟨Bk, 0, none⟩ ∧ (Bys W tv t → Bys W' tv t)
theorem take_min_len (l : List UInt8) (m : Nat) : l.take (min m l.length) = l.take m := by
  by_cases h : m ≤ l.length
  · rw [Nat.min_eq_left h]
  · rw [Nat.min_eq_right (by omega), List.take_length, List.take_of_length_le (by omega)]

set_option maxRecDepth 100000 in
set_option maxHeartbeats 2000000 in
theorem len1_in (f : Nat) (hn : 1 ≤ f) (l Bt Bm Bk : Nat) (mode : Int) (m : Nat) (ta : Option Addr) (tc : Nat) (t : List UInt8) (hm1 : 1 ≤ m) (hm2 : m ≤ 65536) (htc : t.length ≤ tc) (htl : t.length ≤ 1048576) (J Jx : List Nat → World → Prop)
    (hY : ∀ (pre : List Nat) (x : Nat) (W : World), J pre W → pre.length < t.length + 1 → YieldAt Fence.wide (f - 1) Try.prog l #[.int .i64 (x : Int)] W fun e W' =>
      (e = .returned (.bool true) ∧ J (pre ++ [x]) W' ∧ LenKp Bt Bm Bk (.slice ta t.length tc) t W W') ∨ (e = .returned (.bool false) ∧ Jx (pre ++ [x]) W'))
    (W : World) (hct : W.cell? ⟨Bt, 0, none⟩ = some (.slice ta t.length tc)) (hcm : W.cell? ⟨Bm, 0, none⟩ = some (.int .i64 m)) (hck : W.cell? ⟨Bk, 0, none⟩ = some (.int .i64 mode)) (hb : Bys W (.slice ta t.length tc) t) (h0 : J [] W) :
    CallsIn Fence.wide f Try.prog 78 #[.func (.yield l) #[] #[], .pointer (some ⟨Bt, 0, none⟩), .pointer (some ⟨Bm, 0, none⟩), .pointer (some ⟨Bk, 0, none⟩)] W fun e W' => (∃ v, e = .returned v) ∧
      (J (rwr (decide (mode = 2)) m 0 t) W' ∨ (∃ pre, pre <+: rwr (decide (mode = 2)) m 0 t ∧ Jx pre W')) := by
  obtain ⟨b, off, hbo⟩ : ∃ b off, 0 < t.length → ta = some ⟨b, off, none⟩ := by
    by_cases h : 0 < t.length
    · obtain ⟨-, qb, qo, e, -⟩ := bys_block hb h
      exact ⟨qb, qo, fun _ => e⟩
    · exact ⟨0, 0, fun h' => absurd h' h⟩
  obtain ⟨R, hR⟩ : ∃ R, R = rwr (decide (mode = 2)) m 0 t := ⟨_, rfl⟩
  have hRl : R.length ≤ t.length := by rw [hR]; have := rwr_len_le (decide (mode = 2)) m t 0 (by omega); omega
  rw [← hR]
  have HR := hide hR
  have HBO := hide hbo
  have HB0 := hide hb
  clear hR hbo hb
  refine callsIn_of_wp Try.func78 rfl trivial ?_ rfl
  simp only [Try.ntmps78, List.size_toArray, List.length_cons, List.length_nil, Nat.reduceAdd, Nat.reduceSub, Array.replicate_succ, Array.replicate_zero, List.push_toArray, List.append_toArray, List.nil_append, List.cons_append]
  gi_wp2
  gi_loopw [5] (fun r wr => ∃ (d : Nat) (ra : Option Addr) (rc : Nat) (pre : List Nat), d ≤ t.length ∧ r = .slice ra (t.length - d) rc ∧ t.length - d ≤ rc ∧ Hid (d < t.length → ra = some ⟨b, off + d, none⟩) ∧ J pre wr ∧ Hid (pre ++ rwr (decide (mode = 2)) m 0 (t.drop d) = R) ∧ wr.cell? ⟨Bt, 0, none⟩ = some (.slice ta t.length tc) ∧ wr.cell? ⟨Bm, 0, none⟩ = some (.int .i64 m) ∧ wr.cell? ⟨Bk, 0, none⟩ = some (.int .i64 mode) ∧ Hid (Bys wr (.slice ta t.length tc) t)) (fun r _ => (match r with | .slice _ n _ => n | _ => 0))
  case atStart => exact ⟨0, ta, tc, [], Nat.zero_le _, by simp, by simpa using htc, hide (fun h => by rw [HBO.out h]; rfl), h0, hide (by rw [HR.out]; rfl), hct, hcm, hck, HB0⟩
  case round =>
    clear hct hcm hck h0 HB0
    obtain ⟨d, ra, rc, pre, hd, rfl, hrc, HA, hJ, HP, hct, hcm, hck, HB⟩ := hrel
    by_cases hlt : d < t.length
    case neg =>
      obtain rfl : d = t.length := by omega
      have e0 : t.length - t.length = 0 := by omega
      rw [e0]
      rw [e0] at hrc
      gi_wp2
      go_end0
      refine ⟨⟨_, rfl⟩, .inl ?_⟩
      have := HP.out
      rw [List.drop_length, rwr_nil, List.append_nil] at this
      rw [← this]
      exact hJ
    obtain rfl := HA.out hlt
    obtain ⟨L, hL⟩ : ∃ L, L = t.length - d := ⟨_, rfl⟩
    have hdl : (t.drop d).length = L := by rw [List.length_drop, hL]
    have hne : t.drop d ≠ [] := fun e => by rw [e] at hdl; simp at hdl; omega
    have hst := rwr_step (decide (mode = 2)) m (t.drop d) 0 (by omega) hne
    obtain ⟨k1, k2, k3⟩ := chk_pos (decide (mode = 2)) m (t.drop d) hm1 hne
    rw [Nat.sub_zero, Nat.zero_add, List.drop_drop] at hst
    have hlen : pre.length < t.length + 1 := by
      have h1 := congrArg List.length HP.out
      rw [List.length_append] at h1
      omega
    rw [hdl] at k3
    obtain ⟨m0, hm0⟩ : ∃ m0, m0 = min m L := ⟨_, rfl⟩
    have hmin : min (m : Int) (L : Int) = (m0 : Int) := by omega
    have hcut : ∀ j, j < ((t.drop d).take m0).length → wr.cell? ⟨b, off + d + j, none⟩ = some (.int .u8 ((((t.drop d).take m0).getD j 0).toNat : Int)) := by
      obtain ⟨-, qb, qo, e, -, hc⟩ := bys_block HB.out (by omega)
      cases (HBO.out (by omega)).symm.trans e
      intro j hj
      rw [List.length_take, hdl] at hj
      rw [Nat.add_assoc, hc (d + j) (by omega)]
      congr 3
      simp only [List.getD_eq_getElem?_getD, List.getElem?_take, List.getElem?_drop]
      rw [if_pos (by omega)]
    have htk : ((t.drop d).take m0).length = m0 := by rw [List.length_take, hdl]; omega
    have hck2 : mode = 2 → lnw ((t.drop d).take m0) = chk (decide (mode = 2)) m (t.drop d) := fun e => by
      unfold chk
      rw [if_pos (by simpa using e), hm0, ← hdl, take_min_len]
    have hck3 : ¬ mode = 2 → m0 = chk (decide (mode = 2)) m (t.drop d) := fun e => by
      unfold chk
      rw [if_neg (by simpa using e), hm0, hdl]
    have HCk2 := hide hck2
    have HCk3 := hide hck3
    have HLw := hide (fun W' (hc : ∀ j, j < ((t.drop d).take m0).length → W'.cell? ⟨b, off + d + j, none⟩ = some (.int .u8 ((((t.drop d).take m0).getD j 0).toNat : Int))) => bline_any b (off + d) rc ((t.drop d).take m0) W' hc (by omega))
    rw [htk] at HLw
    rw [htk] at hcut
    have HCu := hide hcut
    have HSt := hide hst
    have hL0 : 0 < L := by omega
    have hLr : L ≤ rc := by omega
    have hm0L : m0 ≤ L := by omega
    have hm01 : 1 ≤ m0 := by omega
    have hLm : L ≤ 1048576 := by omega
    rw [← hL]
    have HL := hide hL
    generalize hkk : chk (decide (mode = 2)) m (t.drop d) = k at *
    have HKk := hide hkk
    obtain ⟨fn, tmps, assign, body, hy, hYR⟩ := hY pre k wr hJ hlen
    clear hst hL hkk hcut hck2 hck3 hdl hne htk hm0 hY hd hrc hlt hRl
    have hgt : (0 : Int) < (L : Int) := by omega
    have hkp : (1 : Int) ≤ (k : Int) := by omega
    have hkr : (k : Int) ≤ (rc : Int) := by omega
    have hmr : (m0 : Int) ≤ (rc : Int) := by omega
    have HN : Hid (∀ W3, J (pre ++ [k]) W3 → LenKp Bt Bm Bk (.slice ta t.length tc) t wr W3 → ∀ ra' rc', (d + k < t.length → ra' = some ⟨b, off + d + k, none⟩) → L - k ≤ rc' →
        ∃ (d1 : Nat) (ra : Option Addr) (rc : Nat) (pre : List Nat), d1 ≤ t.length ∧ Value.slice ra' (L - k) rc' = .slice ra (t.length - d1) rc ∧ t.length - d1 ≤ rc ∧ Hid (d1 < t.length → ra = some ⟨b, off + d1, none⟩) ∧ J pre W3 ∧ Hid (pre ++ rwr (decide (mode = 2)) m 0 (t.drop d1) = R) ∧ W3.cell? ⟨Bt, 0, none⟩ = some (.slice ta t.length tc) ∧ W3.cell? ⟨Bm, 0, none⟩ = some (.int .i64 m) ∧ W3.cell? ⟨Bk, 0, none⟩ = some (.int .i64 mode) ∧ Hid (Bys W3 (.slice ta t.length tc) t)) := hide (by
      have hL := HL.out
      intro W3 hJ3 hK3 ra' rc' h1 h2
      refine ⟨d + k, ra', rc', pre ++ [k], by omega, by rw [show t.length - (d + k) = L - k by omega], by omega, hide (fun h => by rw [h1 h, Nat.add_assoc]), hJ3, hide ?_, hK3.1.trans hct, hK3.2.1.trans hcm, hK3.2.2.1.trans hck, hide (hK3.2.2.2 HB.out)⟩
      have := HP.out
      rw [HSt.out] at this
      rw [List.append_assoc]
      exact this)
    have HX : Hid (pre ++ [k] <+: R) := hide (by
      have := HP.out
      rw [HSt.out] at this
      exact ⟨_, by rw [List.append_assoc]; exact this⟩)
    have hdk : d + k < t.length ↔ k < L := by have := HL.out; omega
    have HDk := hide hdk
    clear hdk
    by_cases h2 : mode = 2
    · have hb2 : (mode == 2) = true := by simpa using h2
      have HLk := hide (HCk2.out h2)
      clear h2
      gi_wp2
      refine ⟨trivial, ?_⟩
      refine (callsIn_wide.2 (HLw.out _ HCu.out)).mono ?_
      rintro e w' ⟨rfl, rfl⟩
      rw [HLk.out]
      gi_wp2
      refine hYR.mono ?_
      rintro e W3 (⟨rfl, hJ3, hK3⟩ | ⟨rfl, hJx3⟩)
      · have HN3 := hide (HN.out W3 hJ3 hK3)
        clear hJ3 hK3 hYR hy
        by_cases hc : rc = k
        · gi_wp2
          go_roundw
          case rel => exact HN3.out _ _ (fun h => by have := HDk.out.1 h; omega) (by omega)
          case measure => show L - k < L; omega
        · gi_wp2
          go_roundw
          case rel => exact HN3.out _ _ (fun h => rfl) (by omega)
          case measure => show L - k < L; omega
      · gi_wp2
        refine bodyPost_ret (results_none rfl _ _ _) rfl ?_
        exact ⟨⟨_, rfl⟩, .inr ⟨pre ++ [k], HX.out, hJx3⟩⟩
    · have hb2 : (mode == 2) = false := by simpa using h2
      have hmk := HCk3.out h2
      subst hmk
      clear h2
      gi_wp2
      refine hYR.mono ?_
      rintro e W3 (⟨rfl, hJ3, hK3⟩ | ⟨rfl, hJx3⟩)
      · have HN3 := hide (HN.out W3 hJ3 hK3)
        clear hJ3 hK3 hYR hy
        by_cases hc : rc = m0
        · gi_wp2
          go_roundw
          case rel => exact HN3.out _ _ (fun h => by have := HDk.out.1 h; omega) (by omega)
          case measure => show L - m0 < L; omega
        · gi_wp2
          go_roundw
          case rel => exact HN3.out _ _ (fun h => rfl) (by omega)
          case measure => show L - m0 < L; omega
      · gi_wp2
        refine bodyPost_ret (results_none rfl _ _ _) rfl ?_
        exact ⟨⟨_, rfl⟩, .inr ⟨pre ++ [m0], HX.out, hJx3⟩⟩
set_option maxHeartbeats 1000000 in
/-- lengths: three boxes; the function value captures them. -/
theorem lengths_in (f : Nat) (hf : 1 ≤ f) (mode size : Int) (ta : Option Addr) (tn tc : Nat) (w : World) :
    CallsIn Fence.wide f Try.prog 62 #[.int .i64 mode, .int .i64 size, .slice ta tn tc] w fun e w' => e = .returned (.func (.func 78) #[] #[.pointer (some ⟨w.heap.size + 1, 0, none⟩), .pointer (some ⟨w.heap.size + 2, 0, none⟩), .pointer (some ⟨w.heap.size, 0, none⟩)]) ∧
      Boxed w' w.heap.size 3 (.int .i64 mode) ∧ Boxed w' (w.heap.size + 1) 22 (.slice ta tn tc) ∧ Boxed w' (w.heap.size + 2) 3 (.int .i64 (brm mode size)) ∧ w'.heap.size = w.heap.size + 3 ∧ Below w.heap.size w w' := by
  refine callsIn_of_wp Try.func62 rfl trivial ?_ rfl
  simp only [Try.ntmps62, List.size_toArray, List.length_cons, List.length_nil, Nat.reduceAdd, Nat.reduceSub, Array.replicate_succ, Array.replicate_zero, List.push_toArray, List.append_toArray, List.nil_append, List.cons_append]
  gi_wp2
  refine ⟨trivial, ?_⟩
  refine (callsIn_wide.2 (broom_any mode size _)).mono ?_
  rintro e w' ⟨rfl, rfl⟩
  gi_wp2
  have b1 := ((Boxed.new w 3 (.int .i64 mode)).alloc (.cells #[.slice ta tn tc] 22)).alloc (.cells #[.int .i64 (brm mode size)] 3)
  have b2 := Boxed.new (w.alloc (.cells #[.int .i64 mode] 3)) 22 (.slice ta tn tc)
  rw [World.size_alloc] at b2
  have b2 := b2.alloc (.cells #[.int .i64 (brm mode size)] 3)
  have b3 := Boxed.new ((w.alloc (.cells #[.int .i64 mode] 3)).alloc (.cells #[.slice ta tn tc] 22)) 3 (.int .i64 (brm mode size))
  rw [World.size_alloc, World.size_alloc] at b3
  go_ret
  refine ⟨rfl, b1, b2, b3, by simp, ?_⟩
  exact (((Below.refl _ w).alloc (Nat.le_refl _) _).alloc (by simp) _).alloc (by simp; omega) _
theorem lengths_stops (f : Nat) (hn : 1 ≤ f) (Bt Bm Bk : Nat) (mode : Int) (m : Nat) (ta : Option Addr) (tc : Nat) (t : List UInt8) (hm1 : 1 ≤ m) (hm2 : m ≤ 65536) (htc : t.length ≤ tc) (htl : t.length ≤ 1048576) (w : World) (hBt : Bt < w.heap.size) (hBm : Bm < w.heap.size) (hBk : Bk < w.heap.size)
    (hct : w.cell? ⟨Bt, 0, none⟩ = some (.slice ta t.length tc)) (hcm : w.cell? ⟨Bm, 0, none⟩ = some (.int .i64 m)) (hck : w.cell? ⟨Bk, 0, none⟩ = some (.int .i64 mode)) (hb : Bys w (.slice ta t.length tc) t) :
    SeqStopsK Fence.wide f Try.prog 78 #[.pointer (some ⟨Bt, 0, none⟩), .pointer (some ⟨Bm, 0, none⟩), .pointer (some ⟨Bk, 0, none⟩)] (fun x : Nat => #[Value.int .i64 (x : Int)]) (LenKp Bt Bm Bk (.slice ta t.length tc) t) (fun ys => ys = rwr (decide (mode = 2)) m 0 t) (fun pre => pre <+: rwr (decide (mode = 2)) m 0 t) (t.length + 1) w := fun l J Jx W hW _ _ hY h0 =>
  (len1_in f hn l Bt Bm Bk mode m ta tc t hm1 hm2 htc htl J Jx hY W ((hW.cell (p := ⟨Bt, 0, none⟩) hBt).trans hct) ((hW.cell (p := ⟨Bm, 0, none⟩) hBm).trans hcm) ((hW.cell (p := ⟨Bk, 0, none⟩) hBk).trans hck) (hb.below hW) h0).mono fun _ _ ⟨h1, h2⟩ => ⟨h1, h2.imp (fun h => ⟨_, rfl, h⟩) id⟩
end Go.Proofs.Ytpffhemmjigfaaa

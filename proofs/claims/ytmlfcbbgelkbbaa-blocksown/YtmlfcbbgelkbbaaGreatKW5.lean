/- What the proof stands on, part 5: the contracts of the program's calls that it reaches. -/
import Derived.Test.YtmlfcbbgelkbbaaGreatKW4
import Derived.Deep.Cut
/- Streams: what follows a call may be too; how many calls of retry it takes. -/
namespace Go.Proofs.YtmlfcbbgelkbbaaGreat
open Go.RowKit

theorem may_iff (x : SS) : x.may = true ↔ 1 ≤ x.mode ∧ x.mode ≤ 3 ∧ 1 ≤ x.size ∧ x.size ≤ 65536 ∧ (x.out.length : Int) ≤ x.size ∧ (x.mode = 1 → x.out.length = 0) ∧ x.inn.length ≤ 65536 ∧ x.back.length ≤ 8 ∧
    ((x.dir = 0 ∧ x.out.length = 0 ∧ x.inn.length + x.back.length = 0) ∨ (x.dir = 1 ∧ x.rd = true ∧ x.out.length = 0 ∧ x.closed = false) ∨ (x.dir = 2 ∧ x.wt = true ∧ x.inn.length + x.back.length = 0 ∧ x.closed = false)) := by
  unfold SS.may SS.buf SS.way SS.toR SS.toW
  simp only [Bool.and_eq_true, decide_eq_true_eq]
  constructor
  · rintro ⟨⟨⟨⟨⟨⟨h1, h2⟩, h3, h4⟩, h5⟩, h6⟩, h7⟩, h8⟩
    have h9 : (x.out.length : Int) ≤ x.size ∧ (x.mode = 1 → x.out.length = 0) := by split at h5 <;> (refine ⟨by omega, fun _ => by omega⟩)
    refine ⟨h1, h2, h3, h4, h9.1, h9.2, by omega, by omega, ?_⟩
    split at h8
    · simp at h8; exact .inl ⟨by assumption, by rw [h8.2]; rfl, by omega⟩
    split at h8
    · simp at h8; exact .inr (.inl ⟨by assumption, h8.1.1, by rw [h8.1.2]; rfl, h8.2⟩)
    split at h8
    · simp at h8; exact .inr (.inr ⟨by assumption, h8.1.1, by omega, h8.2⟩)
    · simp at h8
  · rintro ⟨h1, h2, h3, h4, h5, h6, h7, h8, h9⟩
    refine ⟨⟨⟨⟨⟨⟨h1, h2⟩, h3, h4⟩, ?_⟩, by omega⟩, by omega⟩, ?_⟩
    · split
      · have := h6 (by assumption); omega
      · exact h5
    · rcases h9 with ⟨e, e1, e2⟩ | ⟨e, e1, e2, e3⟩ | ⟨e, e1, e2, e3⟩
      · rw [if_pos e]; simp; exact ⟨by omega, List.length_eq_zero_iff.1 e1⟩
      · rw [if_neg (by omega), if_pos e, e1, e3]; simp; exact List.length_eq_zero_iff.1 e2
      · rw [if_neg (by omega), if_neg (by omega), if_pos e, e1, e3]; simp; omega
theorem some_le {S : Type} (D : RawD S) (n : Nat) : ∀ k s, (someV D n k s).1.length ≤ n
  | 0, s => Nat.zero_le _
  | k + 1, s => by
    rw [someV_next D n k s (b := (D.read s n).1) (e := (D.read s n).2.1) (s2 := (D.read s n).2.2) rfl]
    split
    · exact some_le D n k _
    split
    · exact Nat.zero_le _
    split
    · rename_i h _
      exact Nat.le_of_not_lt h
    · exact Nat.zero_le _
theorem mark_may (x : SS) (e : Int) : (x.mark e).may = x.may := by
  unfold SS.mark
  split <;> rfl
theorem mark_out (x : SS) (e : Int) : (x.mark e).out = x.out := by
  unfold SS.mark
  split <;> rfl
theorem rd_may {x : SS} (h : x.noRead = 0) : ({ x with dir := 1 } : SS).may = true ∧ x.closed = false ∧ x.out.length = 0 := by
  obtain ⟨n1, n2, n3⟩ := noRead_may h
  obtain ⟨m1, -, m3⟩ := refuse_may n1
  obtain ⟨h1, h2, h3, h4, h5, h6, h7, h8, h9⟩ := (may_iff x).1 m1
  have ho : x.out.length = 0 := by
    rcases h9 with ⟨e1, e2, e3⟩ | ⟨e1, e2, e3, e4⟩ | ⟨e1, e2, e3, e4⟩
    · exact e2
    · exact e3
    · exact absurd e1 n3
  exact ⟨(may_iff _).2 ⟨h1, h2, h3, h4, h5, h6, h7, h8, .inr (.inl ⟨rfl, n2, ho, m3⟩)⟩, m3, ho⟩
theorem get_may {S : Type} (D : RawD S) {x : SS} (s : S) (h : x.may = true) : (x.get D s).1.may = true ∧ (x.get D s).1.out = x.out := by
  unfold SS.get
  split
  case isFalse => exact ⟨h, rfl⟩
  case isTrue hn =>
    obtain ⟨hw, hc, ho⟩ := rd_may hn
    have hq : ({ x with dir := 1 } : SS).out = x.out := rfl
    have hd : ({ x with dir := 1 } : SS).dir = 1 := rfl
    generalize ({ x with dir := 1 } : SS) = y at *
    obtain ⟨h1, h2, h3, h4, h5, h6, h7, h8, h9⟩ := (may_iff y).1 hw
    have h9' : (y.dir = 1 ∧ y.rd = true ∧ y.out.length = 0 ∧ y.closed = false) := by
      rcases h9 with ⟨e1, _⟩ | e | ⟨e1, _⟩
      · omega
      · exact e
      · omega
    unfold SS.get1
    split
    · refine ⟨(may_iff _).2 ⟨h1, h2, h3, h4, h5, h6, h7, ?_, .inr (.inl h9')⟩, hq⟩
      simp only [List.length_dropLast]; omega
    split
    · refine ⟨(may_iff _).2 ⟨h1, h2, h3, h4, h5, h6, ?_, h8, .inr (.inl h9')⟩, hq⟩
      simp only [List.length_drop]; omega
    split
    · exact ⟨hw, hq⟩
    split
    · exact ⟨by rw [mark_may]; exact hw, by rw [mark_out]; exact hq⟩
    split
    · exact ⟨(may_iff _).2 ⟨h1, h2, h3, h4, h5, h6, h7, h8, .inr (.inl h9')⟩, hq⟩
    · refine ⟨(may_iff _).2 ⟨h1, h2, h3, h4, h5, h6, ?_, h8, .inr (.inl h9')⟩, hq⟩
      have hl := some_le D y.most 8192 s
      have hm : y.most ≤ 65536 := by unfold SS.most; split <;> omega
      simp only [List.length_drop]
      omega
theorem get_bear {S : Type} {D : RawD S} {rok wok : S → Prop} {G : Nat → S → Prop} (hG : Bears D rok wok G) {n : Nat} {s : S} (x : SS) (h : G (n + 2) s) : G n (x.get D s).2.2.2 := by
  have hn := hG.less _ _ (hG.less _ _ h)
  unfold SS.get
  split
  case isFalse => exact hn
  case isTrue hr =>
    have hy := (rd_may hr).1
    generalize ({ x with dir := 1 } : SS) = y at *
    obtain ⟨h1, h2, h3, h4, h5, h6, h7, h8, h9⟩ := (may_iff y).1 hy
    have hs := hG.less _ _ (hG.some (n + 1) s y.most h (by unfold SS.most; split <;> omega) (by unfold SS.most; split <;> omega)).2
    unfold SS.get1
    split
    · exact hn
    split
    · exact hn
    split
    · exact hn
    split
    · exact hs
    split <;> exact hs
end Go.Proofs.YtmlfcbbgelkbbaaGreat

/- Streams: the reference's Check, Begin. -/
namespace Go.Proofs.YtmlfcbbgelkbbaaGreat
open Go.RowKit

set_option maxRecDepth 100000 in
set_option maxHeartbeats 8000000 in
theorem rcheck11_any (x : SS) (oa ia ba : Option Addr) (oc ic bc : Nat) (w : World) (hi : x.inn.length ≤ 140737488351232) (hb : x.back.length ≤ 140737488351232) :
    Calls Tryz.prog 22 #[.agg #[.bool x.rd, .bool x.wt, .int .i64 x.mode, .int .i64 x.size, .slice oa x.out.length oc, .slice ia x.inn.length ic, .slice ba x.back.length bc, .int .i64 x.dir, .bool x.fin, .bool x.bad, .bool x.closed]] w fun e w' => e = .returned (.int .i64 (if x.may = true then 0 else 51)) ∧ Below w.heap.size w w' := by
  generalize hr : (if x.may = true then (0 : Int) else 51) = r
  have HR := hide hr
  clear hr
  go_enter Tryz.func22, Tryz.ntmps22
  go_upto_region 1 with fail
  have HB0 := hide (recv_below w (Obj.cells #[.bool x.rd, .bool x.wt, .int .i64 x.mode, .int .i64 x.size, .slice oa x.out.length oc, .slice ia x.inn.length ic, .slice ba x.back.length bc, .int .i64 x.dir, .bool x.fin, .bool x.bad, .bool x.closed] 52))
  have HS0 := hide (RSt.new w x (.slice oa x.out.length oc) (.slice ia x.inn.length ic) (.slice ba x.back.length bc))
  generalize w.alloc (Obj.cells #[.bool x.rd, .bool x.wt, .int .i64 x.mode, .int .i64 x.size, .slice oa x.out.length oc, .slice ia x.inn.length ic, .slice ba x.back.length bc, .int .i64 x.dir, .bool x.fin, .bool x.bad, .bool x.closed] 52) = w0 at *
  obtain ⟨c0, c1, c2, c3, c4, c5, c6, c7, c8, c9, c10⟩ := HS0.out.cs
  clear HS0
  obtain ⟨rd, wt, mode, size, out, inn, back, dir, fin, bad, closed⟩ := x
  simp only at HR hi hb c0 c1 c2 c3 c4 c5 c6 c7 c8 c9 c10 ⊢
  by_cases a0 : 1 ≤ mode
  case neg =>
    · have HN : Hid (51 = r) := hide (by rw [← HR.out]; refine (if_neg ?_).symm; intro h; have h := (may_iff _).1 h; dsimp only at h; obtain ⟨h1, h2, h3, h4, h5, h6, h7, h8, h9⟩ := h; first | omega | (have := h6 rfl; simp at this; done) | (rcases h9 with ⟨e, e1, e2⟩ | ⟨e, e1, e2, e3⟩ | ⟨e, e1, e2, e3⟩ <;> first | omega | (simp at e1; done) | (simp at e2; done) | (simp at e3; done)))
      clear HR
      go_wp2
      go_ret
      exact ⟨by rw [← HN.out]; rfl, HB0.out⟩
  by_cases a1 : mode ≤ 3
  case neg =>
    · have HN : Hid (51 = r) := hide (by rw [← HR.out]; refine (if_neg ?_).symm; intro h; have h := (may_iff _).1 h; dsimp only at h; obtain ⟨h1, h2, h3, h4, h5, h6, h7, h8, h9⟩ := h; first | omega | (have := h6 rfl; simp at this; done) | (rcases h9 with ⟨e, e1, e2⟩ | ⟨e, e1, e2, e3⟩ | ⟨e, e1, e2, e3⟩ <;> first | omega | (simp at e1; done) | (simp at e2; done) | (simp at e3; done)))
      clear HR
      go_wp2
      go_ret
      exact ⟨by rw [← HN.out]; rfl, HB0.out⟩
  by_cases a2 : 1 ≤ size
  case neg =>
    · have HN : Hid (51 = r) := hide (by rw [← HR.out]; refine (if_neg ?_).symm; intro h; have h := (may_iff _).1 h; dsimp only at h; obtain ⟨h1, h2, h3, h4, h5, h6, h7, h8, h9⟩ := h; first | omega | (have := h6 rfl; simp at this; done) | (rcases h9 with ⟨e, e1, e2⟩ | ⟨e, e1, e2, e3⟩ | ⟨e, e1, e2, e3⟩ <;> first | omega | (simp at e1; done) | (simp at e2; done) | (simp at e3; done)))
      clear HR
      go_wp2
      go_ret
      exact ⟨by rw [← HN.out]; rfl, HB0.out⟩
  by_cases a3 : size ≤ 65536
  case neg =>
    · have HN : Hid (51 = r) := hide (by rw [← HR.out]; refine (if_neg ?_).symm; intro h; have h := (may_iff _).1 h; dsimp only at h; obtain ⟨h1, h2, h3, h4, h5, h6, h7, h8, h9⟩ := h; first | omega | (have := h6 rfl; simp at this; done) | (rcases h9 with ⟨e, e1, e2⟩ | ⟨e, e1, e2, e3⟩ | ⟨e, e1, e2, e3⟩ <;> first | omega | (simp at e1; done) | (simp at e2; done) | (simp at e3; done)))
      clear HR
      go_wp2
      go_ret
      exact ⟨by rw [← HN.out]; rfl, HB0.out⟩
  by_cases a4 : 0 ≤ dir
  case neg =>
    · have HN : Hid (51 = r) := hide (by rw [← HR.out]; refine (if_neg ?_).symm; intro h; have h := (may_iff _).1 h; dsimp only at h; obtain ⟨h1, h2, h3, h4, h5, h6, h7, h8, h9⟩ := h; first | omega | (have := h6 rfl; simp at this; done) | (rcases h9 with ⟨e, e1, e2⟩ | ⟨e, e1, e2, e3⟩ | ⟨e, e1, e2, e3⟩ <;> first | omega | (simp at e1; done) | (simp at e2; done) | (simp at e3; done)))
      clear HR
      go_wp2
      go_ret
      exact ⟨by rw [← HN.out]; rfl, HB0.out⟩
  by_cases a5 : dir ≤ 2
  case neg =>
    · have HN : Hid (51 = r) := hide (by rw [← HR.out]; refine (if_neg ?_).symm; intro h; have h := (may_iff _).1 h; dsimp only at h; obtain ⟨h1, h2, h3, h4, h5, h6, h7, h8, h9⟩ := h; first | omega | (have := h6 rfl; simp at this; done) | (rcases h9 with ⟨e, e1, e2⟩ | ⟨e, e1, e2, e3⟩ | ⟨e, e1, e2, e3⟩ <;> first | omega | (simp at e1; done) | (simp at e2; done) | (simp at e3; done)))
      clear HR
      go_wp2
      go_ret
      exact ⟨by rw [← HN.out]; rfl, HB0.out⟩
  go_upto_region 3 with fail
  by_cases b0 : (out.length : Int) ≤ size
  case neg =>
    · have HN : Hid (51 = r) := hide (by rw [← HR.out]; refine (if_neg ?_).symm; intro h; have h := (may_iff _).1 h; dsimp only at h; obtain ⟨h1, h2, h3, h4, h5, h6, h7, h8, h9⟩ := h; first | omega | (have := h6 rfl; simp at this; done) | (rcases h9 with ⟨e, e1, e2⟩ | ⟨e, e1, e2, e3⟩ | ⟨e, e1, e2, e3⟩ <;> first | omega | (simp at e1; done) | (simp at e2; done) | (simp at e3; done)))
      clear HR
      go_wp2
      go_ret
      exact ⟨by rw [← HN.out]; rfl, HB0.out⟩
  by_cases m1 : mode = 1
  · subst m1
    clear a0 a1
    rcases out with _ | ⟨c, t⟩
    case cons =>
      · have HN : Hid (51 = r) := hide (by rw [← HR.out]; refine (if_neg ?_).symm; intro h; have h := (may_iff _).1 h; dsimp only at h; obtain ⟨h1, h2, h3, h4, h5, h6, h7, h8, h9⟩ := h; first | omega | (have := h6 rfl; simp at this; done) | (rcases h9 with ⟨e, e1, e2⟩ | ⟨e, e1, e2, e3⟩ | ⟨e, e1, e2, e3⟩ <;> first | omega | (simp at e1; done) | (simp at e2; done) | (simp at e3; done)))
        clear HR
        go_wp2
        go_ret
        exact ⟨by rw [← HN.out]; rfl, HB0.out⟩
    by_cases b1 : (inn.length : Int) ≤ 65536
    case neg =>
      · have HN : Hid (51 = r) := hide (by rw [← HR.out]; refine (if_neg ?_).symm; intro h; have h := (may_iff _).1 h; dsimp only at h; obtain ⟨h1, h2, h3, h4, h5, h6, h7, h8, h9⟩ := h; first | omega | (have := h6 rfl; simp at this; done) | (rcases h9 with ⟨e, e1, e2⟩ | ⟨e, e1, e2, e3⟩ | ⟨e, e1, e2, e3⟩ <;> first | omega | (simp at e1; done) | (simp at e2; done) | (simp at e3; done)))
        clear HR
        go_wp2
        go_ret
        exact ⟨by rw [← HN.out]; rfl, HB0.out⟩
    by_cases b2 : (back.length : Int) ≤ 8
    case neg =>
      · have HN : Hid (51 = r) := hide (by rw [← HR.out]; refine (if_neg ?_).symm; intro h; have h := (may_iff _).1 h; dsimp only at h; obtain ⟨h1, h2, h3, h4, h5, h6, h7, h8, h9⟩ := h; first | omega | (have := h6 rfl; simp at this; done) | (rcases h9 with ⟨e, e1, e2⟩ | ⟨e, e1, e2, e3⟩ | ⟨e, e1, e2, e3⟩ <;> first | omega | (simp at e1; done) | (simp at e2; done) | (simp at e3; done)))
        clear HR
        go_wp2
        go_ret
        exact ⟨by rw [← HN.out]; rfl, HB0.out⟩
    go_upto_region 5 with fail
    have hz : dir = 0 ∨ dir = 1 ∨ dir = 2 := by omega
    rcases hz with rfl | rfl | rfl
    · clear a4 a5
      by_cases e1 : 0 < (inn.length : Int) + (back.length : Int)
      case pos =>
        · have HN : Hid (51 = r) := hide (by rw [← HR.out]; refine (if_neg ?_).symm; intro h; have h := (may_iff _).1 h; dsimp only at h; obtain ⟨h1, h2, h3, h4, h5, h6, h7, h8, h9⟩ := h; first | omega | (have := h6 rfl; simp at this; done) | (rcases h9 with ⟨e, e1, e2⟩ | ⟨e, e1, e2, e3⟩ | ⟨e, e1, e2, e3⟩ <;> first | omega | (simp at e1; done) | (simp at e2; done) | (simp at e3; done)))
          clear HR
          go_wp2
          go_ret
          exact ⟨by rw [← HN.out]; rfl, HB0.out⟩
      cases closed with
      | false =>
        · have HN : Hid (0 = r) := hide (by rw [← HR.out]; exact (if_pos ((may_iff _).2 ⟨by first | rfl | (dsimp only; omega) | (intro _; rfl) | (intro e; exact absurd e m1), by first | rfl | (dsimp only; omega) | (intro _; rfl) | (intro e; exact absurd e m1), by first | rfl | (dsimp only; omega) | (intro _; rfl) | (intro e; exact absurd e m1), by first | rfl | (dsimp only; omega) | (intro _; rfl) | (intro e; exact absurd e m1), by first | rfl | (dsimp only; omega) | (intro _; rfl) | (intro e; exact absurd e m1), by first | rfl | (dsimp only; omega) | (intro _; rfl) | (intro e; exact absurd e m1), by first | rfl | (dsimp only; omega) | (intro _; rfl) | (intro e; exact absurd e m1), by first | rfl | (dsimp only; omega) | (intro _; rfl) | (intro e; exact absurd e m1), .inl ⟨rfl, by first | rfl | (dsimp only; omega) | (intro _; rfl) | (intro e; exact absurd e m1), by first | rfl | (dsimp only; omega) | (intro _; rfl) | (intro e; exact absurd e m1)⟩⟩)).symm)
          clear HR
          go_wp2
          go_ret
          exact ⟨by rw [← HN.out]; rfl, HB0.out⟩
      | true =>
        · have HN : Hid (0 = r) := hide (by rw [← HR.out]; exact (if_pos ((may_iff _).2 ⟨by first | rfl | (dsimp only; omega) | (intro _; rfl) | (intro e; exact absurd e m1), by first | rfl | (dsimp only; omega) | (intro _; rfl) | (intro e; exact absurd e m1), by first | rfl | (dsimp only; omega) | (intro _; rfl) | (intro e; exact absurd e m1), by first | rfl | (dsimp only; omega) | (intro _; rfl) | (intro e; exact absurd e m1), by first | rfl | (dsimp only; omega) | (intro _; rfl) | (intro e; exact absurd e m1), by first | rfl | (dsimp only; omega) | (intro _; rfl) | (intro e; exact absurd e m1), by first | rfl | (dsimp only; omega) | (intro _; rfl) | (intro e; exact absurd e m1), by first | rfl | (dsimp only; omega) | (intro _; rfl) | (intro e; exact absurd e m1), .inl ⟨rfl, by first | rfl | (dsimp only; omega) | (intro _; rfl) | (intro e; exact absurd e m1), by first | rfl | (dsimp only; omega) | (intro _; rfl) | (intro e; exact absurd e m1)⟩⟩)).symm)
          clear HR
          go_wp2
          go_ret
          exact ⟨by rw [← HN.out]; rfl, HB0.out⟩
    · clear a4 a5
      cases rd with
      | false =>
        · have HN : Hid (51 = r) := hide (by rw [← HR.out]; refine (if_neg ?_).symm; intro h; have h := (may_iff _).1 h; dsimp only at h; obtain ⟨h1, h2, h3, h4, h5, h6, h7, h8, h9⟩ := h; first | omega | (have := h6 rfl; simp at this; done) | (rcases h9 with ⟨e, e1, e2⟩ | ⟨e, e1, e2, e3⟩ | ⟨e, e1, e2, e3⟩ <;> first | omega | (simp at e1; done) | (simp at e2; done) | (simp at e3; done)))
          clear HR
          go_wp2
          go_ret
          exact ⟨by rw [← HN.out]; rfl, HB0.out⟩
      | true =>
      cases closed with
      | false =>
        · have HN : Hid (0 = r) := hide (by rw [← HR.out]; exact (if_pos ((may_iff _).2 ⟨by first | rfl | (dsimp only; omega) | (intro _; rfl) | (intro e; exact absurd e m1), by first | rfl | (dsimp only; omega) | (intro _; rfl) | (intro e; exact absurd e m1), by first | rfl | (dsimp only; omega) | (intro _; rfl) | (intro e; exact absurd e m1), by first | rfl | (dsimp only; omega) | (intro _; rfl) | (intro e; exact absurd e m1), by first | rfl | (dsimp only; omega) | (intro _; rfl) | (intro e; exact absurd e m1), by first | rfl | (dsimp only; omega) | (intro _; rfl) | (intro e; exact absurd e m1), by first | rfl | (dsimp only; omega) | (intro _; rfl) | (intro e; exact absurd e m1), by first | rfl | (dsimp only; omega) | (intro _; rfl) | (intro e; exact absurd e m1), .inr (.inl ⟨rfl, rfl, by first | rfl | (dsimp only; omega) | (intro _; rfl) | (intro e; exact absurd e m1), rfl⟩)⟩)).symm)
          clear HR
          go_wp2
          go_ret
          exact ⟨by rw [← HN.out]; rfl, HB0.out⟩
      | true =>
        · have HN : Hid (51 = r) := hide (by rw [← HR.out]; refine (if_neg ?_).symm; intro h; have h := (may_iff _).1 h; dsimp only at h; obtain ⟨h1, h2, h3, h4, h5, h6, h7, h8, h9⟩ := h; first | omega | (have := h6 rfl; simp at this; done) | (rcases h9 with ⟨e, e1, e2⟩ | ⟨e, e1, e2, e3⟩ | ⟨e, e1, e2, e3⟩ <;> first | omega | (simp at e1; done) | (simp at e2; done) | (simp at e3; done)))
          clear HR
          go_wp2
          go_ret
          exact ⟨by rw [← HN.out]; rfl, HB0.out⟩
    · clear a4 a5
      cases wt with
      | false =>
        · have HN : Hid (51 = r) := hide (by rw [← HR.out]; refine (if_neg ?_).symm; intro h; have h := (may_iff _).1 h; dsimp only at h; obtain ⟨h1, h2, h3, h4, h5, h6, h7, h8, h9⟩ := h; first | omega | (have := h6 rfl; simp at this; done) | (rcases h9 with ⟨e, e1, e2⟩ | ⟨e, e1, e2, e3⟩ | ⟨e, e1, e2, e3⟩ <;> first | omega | (simp at e1; done) | (simp at e2; done) | (simp at e3; done)))
          clear HR
          go_wp2
          go_ret
          exact ⟨by rw [← HN.out]; rfl, HB0.out⟩
      | true =>
      by_cases e1 : 0 < (inn.length : Int) + (back.length : Int)
      case pos =>
        · have HN : Hid (51 = r) := hide (by rw [← HR.out]; refine (if_neg ?_).symm; intro h; have h := (may_iff _).1 h; dsimp only at h; obtain ⟨h1, h2, h3, h4, h5, h6, h7, h8, h9⟩ := h; first | omega | (have := h6 rfl; simp at this; done) | (rcases h9 with ⟨e, e1, e2⟩ | ⟨e, e1, e2, e3⟩ | ⟨e, e1, e2, e3⟩ <;> first | omega | (simp at e1; done) | (simp at e2; done) | (simp at e3; done)))
          clear HR
          go_wp2
          go_ret
          exact ⟨by rw [← HN.out]; rfl, HB0.out⟩
      cases closed with
      | false =>
        · have HN : Hid (0 = r) := hide (by rw [← HR.out]; exact (if_pos ((may_iff _).2 ⟨by first | rfl | (dsimp only; omega) | (intro _; rfl) | (intro e; exact absurd e m1), by first | rfl | (dsimp only; omega) | (intro _; rfl) | (intro e; exact absurd e m1), by first | rfl | (dsimp only; omega) | (intro _; rfl) | (intro e; exact absurd e m1), by first | rfl | (dsimp only; omega) | (intro _; rfl) | (intro e; exact absurd e m1), by first | rfl | (dsimp only; omega) | (intro _; rfl) | (intro e; exact absurd e m1), by first | rfl | (dsimp only; omega) | (intro _; rfl) | (intro e; exact absurd e m1), by first | rfl | (dsimp only; omega) | (intro _; rfl) | (intro e; exact absurd e m1), by first | rfl | (dsimp only; omega) | (intro _; rfl) | (intro e; exact absurd e m1), .inr (.inr ⟨rfl, rfl, by first | rfl | (dsimp only; omega) | (intro _; rfl) | (intro e; exact absurd e m1), rfl⟩)⟩)).symm)
          clear HR
          go_wp2
          go_ret
          exact ⟨by rw [← HN.out]; rfl, HB0.out⟩
      | true =>
        · have HN : Hid (51 = r) := hide (by rw [← HR.out]; refine (if_neg ?_).symm; intro h; have h := (may_iff _).1 h; dsimp only at h; obtain ⟨h1, h2, h3, h4, h5, h6, h7, h8, h9⟩ := h; first | omega | (have := h6 rfl; simp at this; done) | (rcases h9 with ⟨e, e1, e2⟩ | ⟨e, e1, e2, e3⟩ | ⟨e, e1, e2, e3⟩ <;> first | omega | (simp at e1; done) | (simp at e2; done) | (simp at e3; done)))
          clear HR
          go_wp2
          go_ret
          exact ⟨by rw [← HN.out]; rfl, HB0.out⟩
  have m2 : (mode == 1) = false := by simp [m1]
  by_cases b1 : (inn.length : Int) ≤ 65536
  case neg =>
    · have HN : Hid (51 = r) := hide (by rw [← HR.out]; refine (if_neg ?_).symm; intro h; have h := (may_iff _).1 h; dsimp only at h; obtain ⟨h1, h2, h3, h4, h5, h6, h7, h8, h9⟩ := h; first | omega | (have := h6 rfl; simp at this; done) | (rcases h9 with ⟨e, e1, e2⟩ | ⟨e, e1, e2, e3⟩ | ⟨e, e1, e2, e3⟩ <;> first | omega | (simp at e1; done) | (simp at e2; done) | (simp at e3; done)))
      clear HR
      go_wp2
      go_ret
      exact ⟨by rw [← HN.out]; rfl, HB0.out⟩
  by_cases b2 : (back.length : Int) ≤ 8
  case neg =>
    · have HN : Hid (51 = r) := hide (by rw [← HR.out]; refine (if_neg ?_).symm; intro h; have h := (may_iff _).1 h; dsimp only at h; obtain ⟨h1, h2, h3, h4, h5, h6, h7, h8, h9⟩ := h; first | omega | (have := h6 rfl; simp at this; done) | (rcases h9 with ⟨e, e1, e2⟩ | ⟨e, e1, e2, e3⟩ | ⟨e, e1, e2, e3⟩ <;> first | omega | (simp at e1; done) | (simp at e2; done) | (simp at e3; done)))
      clear HR
      go_wp2
      go_ret
      exact ⟨by rw [← HN.out]; rfl, HB0.out⟩
  go_upto_region 5 with fail
  have hz : dir = 0 ∨ dir = 1 ∨ dir = 2 := by omega
  rcases hz with rfl | rfl | rfl
  · clear a4 a5
    rcases out with _ | ⟨c, t⟩
    case cons =>
      · have HN : Hid (51 = r) := hide (by rw [← HR.out]; refine (if_neg ?_).symm; intro h; have h := (may_iff _).1 h; dsimp only at h; obtain ⟨h1, h2, h3, h4, h5, h6, h7, h8, h9⟩ := h; first | omega | (have := h6 rfl; simp at this; done) | (rcases h9 with ⟨e, e1, e2⟩ | ⟨e, e1, e2, e3⟩ | ⟨e, e1, e2, e3⟩ <;> first | omega | (simp at e1; done) | (simp at e2; done) | (simp at e3; done)))
        clear HR
        go_wp2
        go_ret
        exact ⟨by rw [← HN.out]; rfl, HB0.out⟩
    by_cases e1 : 0 < (inn.length : Int) + (back.length : Int)
    case pos =>
      · have HN : Hid (51 = r) := hide (by rw [← HR.out]; refine (if_neg ?_).symm; intro h; have h := (may_iff _).1 h; dsimp only at h; obtain ⟨h1, h2, h3, h4, h5, h6, h7, h8, h9⟩ := h; first | omega | (have := h6 rfl; simp at this; done) | (rcases h9 with ⟨e, e1, e2⟩ | ⟨e, e1, e2, e3⟩ | ⟨e, e1, e2, e3⟩ <;> first | omega | (simp at e1; done) | (simp at e2; done) | (simp at e3; done)))
        clear HR
        go_wp2
        go_ret
        exact ⟨by rw [← HN.out]; rfl, HB0.out⟩
    cases closed with
    | false =>
      · have HN : Hid (0 = r) := hide (by rw [← HR.out]; exact (if_pos ((may_iff _).2 ⟨by first | rfl | (dsimp only; omega) | (intro _; rfl) | (intro e; exact absurd e m1), by first | rfl | (dsimp only; omega) | (intro _; rfl) | (intro e; exact absurd e m1), by first | rfl | (dsimp only; omega) | (intro _; rfl) | (intro e; exact absurd e m1), by first | rfl | (dsimp only; omega) | (intro _; rfl) | (intro e; exact absurd e m1), by first | rfl | (dsimp only; omega) | (intro _; rfl) | (intro e; exact absurd e m1), by first | rfl | (dsimp only; omega) | (intro _; rfl) | (intro e; exact absurd e m1), by first | rfl | (dsimp only; omega) | (intro _; rfl) | (intro e; exact absurd e m1), by first | rfl | (dsimp only; omega) | (intro _; rfl) | (intro e; exact absurd e m1), .inl ⟨rfl, by first | rfl | (dsimp only; omega) | (intro _; rfl) | (intro e; exact absurd e m1), by first | rfl | (dsimp only; omega) | (intro _; rfl) | (intro e; exact absurd e m1)⟩⟩)).symm)
        clear HR
        go_wp2
        go_ret
        exact ⟨by rw [← HN.out]; rfl, HB0.out⟩
    | true =>
      · have HN : Hid (0 = r) := hide (by rw [← HR.out]; exact (if_pos ((may_iff _).2 ⟨by first | rfl | (dsimp only; omega) | (intro _; rfl) | (intro e; exact absurd e m1), by first | rfl | (dsimp only; omega) | (intro _; rfl) | (intro e; exact absurd e m1), by first | rfl | (dsimp only; omega) | (intro _; rfl) | (intro e; exact absurd e m1), by first | rfl | (dsimp only; omega) | (intro _; rfl) | (intro e; exact absurd e m1), by first | rfl | (dsimp only; omega) | (intro _; rfl) | (intro e; exact absurd e m1), by first | rfl | (dsimp only; omega) | (intro _; rfl) | (intro e; exact absurd e m1), by first | rfl | (dsimp only; omega) | (intro _; rfl) | (intro e; exact absurd e m1), by first | rfl | (dsimp only; omega) | (intro _; rfl) | (intro e; exact absurd e m1), .inl ⟨rfl, by first | rfl | (dsimp only; omega) | (intro _; rfl) | (intro e; exact absurd e m1), by first | rfl | (dsimp only; omega) | (intro _; rfl) | (intro e; exact absurd e m1)⟩⟩)).symm)
        clear HR
        go_wp2
        go_ret
        exact ⟨by rw [← HN.out]; rfl, HB0.out⟩
  · clear a4 a5
    cases rd with
    | false =>
      · have HN : Hid (51 = r) := hide (by rw [← HR.out]; refine (if_neg ?_).symm; intro h; have h := (may_iff _).1 h; dsimp only at h; obtain ⟨h1, h2, h3, h4, h5, h6, h7, h8, h9⟩ := h; first | omega | (have := h6 rfl; simp at this; done) | (rcases h9 with ⟨e, e1, e2⟩ | ⟨e, e1, e2, e3⟩ | ⟨e, e1, e2, e3⟩ <;> first | omega | (simp at e1; done) | (simp at e2; done) | (simp at e3; done)))
        clear HR
        go_wp2
        go_ret
        exact ⟨by rw [← HN.out]; rfl, HB0.out⟩
    | true =>
    rcases out with _ | ⟨c, t⟩
    case cons =>
      · have HN : Hid (51 = r) := hide (by rw [← HR.out]; refine (if_neg ?_).symm; intro h; have h := (may_iff _).1 h; dsimp only at h; obtain ⟨h1, h2, h3, h4, h5, h6, h7, h8, h9⟩ := h; first | omega | (have := h6 rfl; simp at this; done) | (rcases h9 with ⟨e, e1, e2⟩ | ⟨e, e1, e2, e3⟩ | ⟨e, e1, e2, e3⟩ <;> first | omega | (simp at e1; done) | (simp at e2; done) | (simp at e3; done)))
        clear HR
        go_wp2
        go_ret
        exact ⟨by rw [← HN.out]; rfl, HB0.out⟩
    cases closed with
    | false =>
      · have HN : Hid (0 = r) := hide (by rw [← HR.out]; exact (if_pos ((may_iff _).2 ⟨by first | rfl | (dsimp only; omega) | (intro _; rfl) | (intro e; exact absurd e m1), by first | rfl | (dsimp only; omega) | (intro _; rfl) | (intro e; exact absurd e m1), by first | rfl | (dsimp only; omega) | (intro _; rfl) | (intro e; exact absurd e m1), by first | rfl | (dsimp only; omega) | (intro _; rfl) | (intro e; exact absurd e m1), by first | rfl | (dsimp only; omega) | (intro _; rfl) | (intro e; exact absurd e m1), by first | rfl | (dsimp only; omega) | (intro _; rfl) | (intro e; exact absurd e m1), by first | rfl | (dsimp only; omega) | (intro _; rfl) | (intro e; exact absurd e m1), by first | rfl | (dsimp only; omega) | (intro _; rfl) | (intro e; exact absurd e m1), .inr (.inl ⟨rfl, rfl, by first | rfl | (dsimp only; omega) | (intro _; rfl) | (intro e; exact absurd e m1), rfl⟩)⟩)).symm)
        clear HR
        go_wp2
        go_ret
        exact ⟨by rw [← HN.out]; rfl, HB0.out⟩
    | true =>
      · have HN : Hid (51 = r) := hide (by rw [← HR.out]; refine (if_neg ?_).symm; intro h; have h := (may_iff _).1 h; dsimp only at h; obtain ⟨h1, h2, h3, h4, h5, h6, h7, h8, h9⟩ := h; first | omega | (have := h6 rfl; simp at this; done) | (rcases h9 with ⟨e, e1, e2⟩ | ⟨e, e1, e2, e3⟩ | ⟨e, e1, e2, e3⟩ <;> first | omega | (simp at e1; done) | (simp at e2; done) | (simp at e3; done)))
        clear HR
        go_wp2
        go_ret
        exact ⟨by rw [← HN.out]; rfl, HB0.out⟩
  · clear a4 a5
    cases wt with
    | false =>
      · have HN : Hid (51 = r) := hide (by rw [← HR.out]; refine (if_neg ?_).symm; intro h; have h := (may_iff _).1 h; dsimp only at h; obtain ⟨h1, h2, h3, h4, h5, h6, h7, h8, h9⟩ := h; first | omega | (have := h6 rfl; simp at this; done) | (rcases h9 with ⟨e, e1, e2⟩ | ⟨e, e1, e2, e3⟩ | ⟨e, e1, e2, e3⟩ <;> first | omega | (simp at e1; done) | (simp at e2; done) | (simp at e3; done)))
        clear HR
        go_wp2
        go_ret
        exact ⟨by rw [← HN.out]; rfl, HB0.out⟩
    | true =>
    by_cases e1 : 0 < (inn.length : Int) + (back.length : Int)
    case pos =>
      · have HN : Hid (51 = r) := hide (by rw [← HR.out]; refine (if_neg ?_).symm; intro h; have h := (may_iff _).1 h; dsimp only at h; obtain ⟨h1, h2, h3, h4, h5, h6, h7, h8, h9⟩ := h; first | omega | (have := h6 rfl; simp at this; done) | (rcases h9 with ⟨e, e1, e2⟩ | ⟨e, e1, e2, e3⟩ | ⟨e, e1, e2, e3⟩ <;> first | omega | (simp at e1; done) | (simp at e2; done) | (simp at e3; done)))
        clear HR
        go_wp2
        go_ret
        exact ⟨by rw [← HN.out]; rfl, HB0.out⟩
    cases closed with
    | false =>
      · have HN : Hid (0 = r) := hide (by rw [← HR.out]; exact (if_pos ((may_iff _).2 ⟨by first | rfl | (dsimp only; omega) | (intro _; rfl) | (intro e; exact absurd e m1), by first | rfl | (dsimp only; omega) | (intro _; rfl) | (intro e; exact absurd e m1), by first | rfl | (dsimp only; omega) | (intro _; rfl) | (intro e; exact absurd e m1), by first | rfl | (dsimp only; omega) | (intro _; rfl) | (intro e; exact absurd e m1), by first | rfl | (dsimp only; omega) | (intro _; rfl) | (intro e; exact absurd e m1), by first | rfl | (dsimp only; omega) | (intro _; rfl) | (intro e; exact absurd e m1), by first | rfl | (dsimp only; omega) | (intro _; rfl) | (intro e; exact absurd e m1), by first | rfl | (dsimp only; omega) | (intro _; rfl) | (intro e; exact absurd e m1), .inr (.inr ⟨rfl, rfl, by first | rfl | (dsimp only; omega) | (intro _; rfl) | (intro e; exact absurd e m1), rfl⟩)⟩)).symm)
        clear HR
        go_wp2
        go_ret
        exact ⟨by rw [← HN.out]; rfl, HB0.out⟩
    | true =>
      · have HN : Hid (51 = r) := hide (by rw [← HR.out]; refine (if_neg ?_).symm; intro h; have h := (may_iff _).1 h; dsimp only at h; obtain ⟨h1, h2, h3, h4, h5, h6, h7, h8, h9⟩ := h; first | omega | (have := h6 rfl; simp at this; done) | (rcases h9 with ⟨e, e1, e2⟩ | ⟨e, e1, e2, e3⟩ | ⟨e, e1, e2, e3⟩ <;> first | omega | (simp at e1; done) | (simp at e2; done) | (simp at e3; done)))
        clear HR
        go_wp2
        go_ret
        exact ⟨by rw [← HN.out]; rfl, HB0.out⟩
end Go.Proofs.YtmlfcbbgelkbbaaGreat

/- Streams: a state on its way, in memory. -/
namespace Go.Proofs.YtmlfcbbgelkbbaaGreat
open Go.RowKit

def Way (W : World) (g : Nat) (x : SS) (o i b r : Value) : Prop := W.heap[g]? = some (.cells #[.bool x.rd, .bool x.wt, .int .i64 x.mode, .int .i64 x.size, o, i, b, .int .i64 x.dir, .bool x.fin, .bool x.bad, .bool x.closed, r] 203)
theorem Way.cs {W : World} {g : Nat} {x : SS} {o i b r : Value} (h : Way W g x o i b r) : W.cell? ⟨g, 0, none⟩ = some (.bool x.rd) ∧ W.cell? ⟨g, 1, none⟩ = some (.bool x.wt) ∧ W.cell? ⟨g, 2, none⟩ = some (.int .i64 x.mode) ∧ W.cell? ⟨g, 3, none⟩ = some (.int .i64 x.size) ∧ W.cell? ⟨g, 4, none⟩ = some (o) ∧ W.cell? ⟨g, 5, none⟩ = some (i) ∧ W.cell? ⟨g, 6, none⟩ = some (b) ∧ W.cell? ⟨g, 7, none⟩ = some (.int .i64 x.dir) ∧ W.cell? ⟨g, 8, none⟩ = some (.bool x.fin) ∧ W.cell? ⟨g, 9, none⟩ = some (.bool x.bad) ∧ W.cell? ⟨g, 10, none⟩ = some (.bool x.closed) ∧ W.cell? ⟨g, 11, none⟩ = some (r) :=
  ⟨cell_of_row W g 0 _ _ _ h, cell_of_row W g 1 _ _ _ h, cell_of_row W g 2 _ _ _ h, cell_of_row W g 3 _ _ _ h, cell_of_row W g 4 _ _ _ h, cell_of_row W g 5 _ _ _ h, cell_of_row W g 6 _ _ _ h, cell_of_row W g 7 _ _ _ h, cell_of_row W g 8 _ _ _ h, cell_of_row W g 9 _ _ _ h, cell_of_row W g 10 _ _ _ h, cell_of_row W g 11 _ _ _ h⟩
theorem Way.lt {W : World} {g : Nat} {x : SS} {o i b r : Value} (h : Way W g x o i b r) : g < W.heap.size := (Array.getElem?_eq_some_iff.1 h).1
theorem Way.soft {W : World} {g : Nat} {x : SS} {o i b r : Value} (h : Way W g x o i b r) (j : Nat) : W.frozen? ⟨g, j, none⟩ = false := frozen_of_row W g j _ _ h
theorem Way.set {W : World} {g : Nat} {x x' : SS} {o i b o' i' b' r : Value} (h : Way W g x o i b r) (j : Nat) (u : Value) (hl : ([.bool x.rd, .bool x.wt, .int .i64 x.mode, .int .i64 x.size, o, i, b, .int .i64 x.dir, .bool x.fin, .bool x.bad, .bool x.closed, r] : List Value).set j u = [.bool x'.rd, .bool x'.wt, .int .i64 x'.mode, .int .i64 x'.size, o', i', b', .int .i64 x'.dir, .bool x'.fin, .bool x'.bad, .bool x'.closed, r]) : Way (W.setCell ⟨g, j, none⟩ u) g x' o' i' b' r := by
  have := Go.heap_setCell_same W g j _ _ u h
  unfold Way
  rw [this]
  simp only [List.setIfInBounds_toArray, hl]
structure On {S : Type} (At : World → (Nat → Prop) → S → Prop) (W : World) (O : Nat → Prop) (s : S) (B g : Nat) (x : SS) (o i b r : Value) : Prop where
  way : Way W g x o i b r
  ls : SIn W (fun k => B ≤ k ∧ ¬ O k ∧ k ≠ g ∧ k < W.heap.size) x o i b
  raw : At W O s
  og : ¬ O g
  gB : B ≤ g
  ol : ∀ j, O j → j < W.heap.size
theorem marked_any (x : SS) (g : Nat) (e : Int) (o i b r : Value) (w : World) (h : Way w g x o i b r) : Calls Tryz.prog 200 #[.pointer (some ⟨g, 0, none⟩), .int .i64 e] w fun en w' => en = .returned (.int .i64 e) ∧ Way w' g (x.mark e) o i b r ∧ Turned (fun k => k = g) w w' := by
  have HW := hide h
  have g9 := h.soft 9
  have c9 := h.cs.2.2.2.2.2.2.2.2.2.1
  clear h
  obtain ⟨y, hy⟩ : ∃ y, y = x.mark e := ⟨_, rfl⟩
  rw [← hy]
  unfold SS.mark at hy
  by_cases h0 : e = 0
  · subst h0
    have HY : Hid (y = x) := hide (by rw [hy, if_pos (.inl rfl)])
    clear hy
    go_enter Tryz.func200, Tryz.ntmps200
    go_wp2
    go_ret
    exact ⟨rfl, by rw [HY.out]; exact HW.out, Turned.refl _ _⟩
  by_cases h1 : e = 52
  · subst h1
    have HY : Hid (y = x) := hide (by rw [hy, if_pos (.inr rfl)])
    clear hy
    go_enter Tryz.func200, Tryz.ntmps200
    go_wp2
    go_ret
    exact ⟨rfl, by rw [HY.out]; exact HW.out, Turned.refl _ _⟩
  have HY : Hid (y = { x with bad := true }) := hide (by rw [hy, if_neg (by intro h; rcases h with h | h; exact h0 h; exact h1 h)])
  clear hy
  have h2 : (e == 0) = false := by simp [h0]
  have h3 : (e == 52) = false := by simp [h1]
  have h4 : (e != 0) = true := by simp [h0]
  have h5 : (e != 52) = true := by simp [h1]
  go_enter Tryz.func200, Tryz.ntmps200
  go_wp2
  go_ret
  exact ⟨rfl, by rw [HY.out]; exact HW.out.set 9 (.bool true) rfl, (Turned.refl _ _).set (.inl rfl)⟩
theorem Way.below {W W' : World} {g : Nat} {x : SS} {o i b r : Value} (h : Way W g x o i b r) (hB : Below W.heap.size W W') : Way W' g x o i b r := (hB.block g h.lt).trans h
theorem Way.turned {P : Nat → Prop} {W W' : World} {g : Nat} {x : SS} {o i b r : Value} (h : Way W g x o i b r) (hT : Turned P W W') (hg : ¬ P g) : Way W' g x o i b r := (hT.block g h.lt hg).trans h
set_option maxRecDepth 100000 in
set_option maxHeartbeats 1000000 in
theorem wrefusal_any (x : SS) (g : Nat) (oa ia ba : Option Addr) (oc ic bc : Nat) (T : TypeId) (v : Value) (w : World) (h : Way w g x (.slice oa x.out.length oc) (.slice ia x.inn.length ic) (.slice ba x.back.length bc) (.iface T v)) (hi : x.inn.length ≤ 140737488351232) (hb : x.back.length ≤ 140737488351232) : Calls Tryz.prog 178 #[.pointer (some ⟨g, 0, none⟩)] w fun en w' => en = .returned (.int .i64 (x.refuse true)) ∧ Below w.heap.size w w' := by
  obtain ⟨c0, c1, c2, c3, c4, c5, c6, c7, c8, c9, c10, c11⟩ := h.cs
  have HC := hide (fun W => srefusal_any x true oa ia ba oc ic bc W hi hb)
  have HK := hide (fun (w' : World) (hB : Below w.heap.size w w') => (show w'.cell? ⟨g, 0, none⟩ = some (.bool x.rd) ∧ w'.cell? ⟨g, 1, none⟩ = some (.bool x.wt) ∧ w'.cell? ⟨g, 2, none⟩ = some (.int .i64 x.mode) ∧ w'.cell? ⟨g, 3, none⟩ = some (.int .i64 x.size) ∧ w'.cell? ⟨g, 4, none⟩ = some (.slice oa x.out.length oc) ∧ w'.cell? ⟨g, 5, none⟩ = some (.slice ia x.inn.length ic) ∧ w'.cell? ⟨g, 6, none⟩ = some (.slice ba x.back.length bc) ∧ w'.cell? ⟨g, 7, none⟩ = some (.int .i64 x.dir) ∧ w'.cell? ⟨g, 8, none⟩ = some (.bool x.fin) ∧ w'.cell? ⟨g, 9, none⟩ = some (.bool x.bad) ∧ w'.cell? ⟨g, 10, none⟩ = some (.bool x.closed) ∧ w'.cell? ⟨g, 11, none⟩ = some (.iface T v) from (h.below hB).cs))
  clear h c0 c1 c2 c3 c4 c5 c6 c7 c8 c9 c10 c11
  go_enter Tryz.func178, Tryz.ntmps178
  go_wp2_with fail
  go_region_held3 (fun w' => w'.cell? ⟨g, 0, none⟩ = some (.bool x.rd) ∧ w'.cell? ⟨g, 1, none⟩ = some (.bool x.wt) ∧ w'.cell? ⟨g, 2, none⟩ = some (.int .i64 x.mode) ∧ w'.cell? ⟨g, 3, none⟩ = some (.int .i64 x.size) ∧ w'.cell? ⟨g, 4, none⟩ = some (.slice oa x.out.length oc) ∧ w'.cell? ⟨g, 5, none⟩ = some (.slice ia x.inn.length ic) ∧ w'.cell? ⟨g, 6, none⟩ = some (.slice ba x.back.length bc) ∧ w'.cell? ⟨g, 7, none⟩ = some (.int .i64 x.dir) ∧ w'.cell? ⟨g, 8, none⟩ = some (.bool x.fin) ∧ w'.cell? ⟨g, 9, none⟩ = some (.bool x.bad) ∧ w'.cell? ⟨g, 10, none⟩ = some (.bool x.closed) ∧ w'.cell? ⟨g, 11, none⟩ = some (.iface T v)) (first | exact HK.out _ (Below.refl _ _).drew | exact HK.out _ HB1.out) (first | (go_at_call 191; refine (HC.out _).mono ?_; rintro _ w1 ⟨rfl, hB1⟩; have HB1 := hide ((Below.refl _ _).drew.trans hB1)) | fail)
  go_wp2
  go_ret
  exact ⟨rfl, HB1.out⟩
end Go.Proofs.YtmlfcbbgelkbbaaGreat

/- Streams: a state is turned to writing, to reading. -/
namespace Go.Proofs.YtmlfcbbgelkbbaaGreat
open Go.RowKit

set_option maxRecDepth 100000 in
set_option maxHeartbeats 2000000 in
theorem turnToReading_any (x : SS) (g : Nat) (oa ia ba : Option Addr) (oc ic bc : Nat) (T : TypeId) (v : Value) (w : World) (h : Way w g x (.slice oa x.out.length oc) (.slice ia x.inn.length ic) (.slice ba x.back.length bc) (.iface T v)) (hi : x.inn.length ≤ 140737488351232) (hb : x.back.length ≤ 140737488351232) :
    Calls Tryz.prog 185 #[.pointer (some ⟨g, 0, none⟩)] w fun en w' => en = .returned (.int .i64 x.noRead) ∧ Way w' g (if x.noRead = 0 then { x with dir := 1 } else x) (.slice oa x.out.length oc) (.slice ia x.inn.length ic) (.slice ba x.back.length bc) (.iface T v) ∧ Turned (fun k => k = g) w w' := by
  have HC := hide (wrefusal_any x g oa ia ba oc ic bc T v w h hi hb)
  have HW := hide h
  clear h
  generalize hn : x.noRead = q
  unfold SS.noRead at hn
  by_cases h0 : x.refuse true = 0
  case neg =>
    rw [if_pos h0] at hn
    subst hn
    have HN := hide h0
    have HE : Hid (x.refuse true = x.refuse true) := hide rfl
    generalize hrr : x.refuse true = rr at *
    have h2 : (rr != 0) = true := by simp [h0]
    have h3 : ¬ rr = 0 := h0
    clear h0 hrr
    go_enter Tryz.func185, Tryz.ntmps185
    go_wp2_with fail
    refine (HC.out).mono ?_
    rintro _ w1 ⟨rfl, hB1⟩
    have HW1 := hide (HW.out.below hB1)
    have HB1 := hide hB1
    clear hB1
    go_wp2
    go_ret
    exact ⟨rfl, by first | exact HW1.out | (rw [if_neg HN.out]; exact HW1.out), Turned.of_below HB1.out⟩
  rw [if_neg (by simp [h0])] at hn
  have HE := hide h0
  clear h0
  rcases Bool.eq_false_or_eq_true x.rd with hf | hf
  case inr =>
    rw [if_pos hf] at hn
    subst hn
    have HF := hide hf
    clear hf
    go_enter Tryz.func185, Tryz.ntmps185
    go_wp2_with fail
    refine (HC.out).mono ?_
    rintro _ w1 ⟨rfl, hB1⟩
    rw [HE.out]
    have HW1 := hide (HW.out.below hB1)
    have HB1 := hide hB1
    clear hB1
    obtain ⟨c0, c1, c2, c3, c4, c5, c6, c7, c8, c9, c10, c11⟩ := HW1.out.cs
    rw [HF.out] at c0
    go_wp2
    go_ret
    exact ⟨rfl, by first | exact HW1.out | (rw [if_neg (by decide)]; exact HW1.out), Turned.of_below HB1.out⟩
  rw [if_neg (by simp [hf])] at hn
  have HF := hide hf
  clear hf
  by_cases hd : x.dir = 2
  · rw [if_pos hd] at hn
    subst hn
    have HD := hide hd
    clear hd
    go_enter Tryz.func185, Tryz.ntmps185
    go_wp2_with fail
    refine (HC.out).mono ?_
    rintro _ w1 ⟨rfl, hB1⟩
    rw [HE.out]
    have HW1 := hide (HW.out.below hB1)
    have HB1 := hide hB1
    clear hB1
    obtain ⟨c0, c1, c2, c3, c4, c5, c6, c7, c8, c9, c10, c11⟩ := HW1.out.cs
    rw [HF.out] at c0
    rw [HD.out] at c7
    go_wp2
    go_ret
    exact ⟨rfl, by first | exact HW1.out | (rw [if_neg (by decide)]; exact HW1.out), Turned.of_below HB1.out⟩
  rw [if_neg hd] at hn
  subst hn
  have hd2 : (x.dir == 2) = false := by simp [hd]
  go_enter Tryz.func185, Tryz.ntmps185
  go_wp2_with fail
  refine (HC.out).mono ?_
  rintro _ w1 ⟨rfl, hB1⟩
  rw [HE.out]
  have HW1 := hide (HW.out.below hB1)
  have HB1 := hide hB1
  clear hB1
  obtain ⟨c0, c1, c2, c3, c4, c5, c6, c7, c8, c9, c10, c11⟩ := HW1.out.cs
  have g7 := HW1.out.soft 7
  rw [HF.out] at c0
  go_wp2
  go_ret
  exact ⟨rfl, by first | exact HW1.out.set 7 (.int .i64 1) rfl | (rw [if_pos rfl]; exact HW1.out.set 7 (.int .i64 1) rfl), (Turned.of_below HB1.out).set (.inl rfl)⟩
end Go.Proofs.YtmlfcbbgelkbbaaGreat

/- Streams: what was put is delivered. -/
namespace Go.Proofs.YtmlfcbbgelkbbaaGreat
open Go.RowKit

theorem On.at {S : Type} {At : World → (Nat → Prop) → S → Prop} (hT : ∀ s, OAt (fun w O => At w O s)) {w w1 : World} {O : Nat → Prop} {s : S} {B g : Nat} {x x' : SS} {o i b o' i' b' r r' : Value} (h : On At w O s B g x o i b r) (hw : Way w1 g x' o' i' b' r') (hT1 : Turned (fun k => k = g) w w1) (hl : SIn w (fun k => B ≤ k ∧ ¬ O k ∧ k ≠ g ∧ k < w.heap.size) x' o' i' b') : On At w1 O s B g x' o' i' b' r' := by
  have hz := hT1.size
  exact ⟨hw, (hl.turned hT1 fun k e _ => e.2.2.1).mono fun k e => ⟨e.1, e.2.1, e.2.2.1, by have := e.2.2.2; omega⟩, (hT s).keep h.raw (fun j e hj => hT1.block j hj (fun e' => h.og (e' ▸ e))) hz, h.og, h.gB, fun j e => Nat.lt_of_lt_of_le (h.ol j e) hz⟩
theorem SIn.mark {W : World} {P : Nat → Prop} {x : SS} {o i b : Value} {e : Int} (h : SIn W P x o i b) : SIn W P (x.mark e) o i b := by
  unfold SS.mark
  split
  · exact h
  · exact ⟨h.so, h.si, h.sb, h.po, h.pi, h.pb⟩
end Go.Proofs.YtmlfcbbgelkbbaaGreat

/- Streams: a byte is put. -/
namespace Go.Proofs.YtmlfcbbgelkbbaaGreat
open Go.RowKit

end Go.Proofs.YtmlfcbbgelkbbaaGreat

/- Streams: a byte is put into the buffer. -/
namespace Go.Proofs.YtmlfcbbgelkbbaaGreat
open Go.RowKit

end Go.Proofs.YtmlfcbbgelkbbaaGreat

/- Streams: put; fill, get. -/
namespace Go.Proofs.YtmlfcbbgelkbbaaGreat
open Go.RowKit

def SS.fill {S : Type} (D : RawD S) (x : SS) (s : S) : SS × Int × S :=
  if x.fin = true then (x, 111, s)
  else if (someV D x.most 8192 s).2.1 ≠ 0 then (x.mark (someV D x.most 8192 s).2.1, (someV D x.most 8192 s).2.1, (someV D x.most 8192 s).2.2)
  else if (someV D x.most 8192 s).1.length = 0 then ({ x with fin := true }, 111, (someV D x.most 8192 s).2.2)
  else ({ x with inn := (someV D x.most 8192 s).1 }, 0, (someV D x.most 8192 s).2.2)
theorem SIn.kin {W : World} {P : Nat → Prop} {x y : SS} {o i b : Value} (h : SIn W P x o i b) (h1 : y.out = x.out) (h2 : y.inn = x.inn) (h3 : y.back = x.back) : SIn W P y o i b := ⟨h1 ▸ h.so, h2 ▸ h.si, h3 ▸ h.sb, h.po, h.pi, h.pb⟩
set_option maxRecDepth 100000 in
set_option maxHeartbeats 4000000 in
theorem fill_any {S : Type} {D : RawD S} {T : TypeId} {v : Value} {fr fw : FuncId} {rok wok : S → Prop} {At : World → (Nat → Prop) → S → Prop} (R : RawM D T v fr fw rok wok At) (hT : ∀ s, OAt (fun w O => At w O s)) {w : World} {O : Nat → Prop} {s : S} {B g : Nat} {x : SS} {o i b : Value} (h : On At w O s B g x o i b (.iface T v)) (hB : B ≤ w.heap.size) (h1 : 1 ≤ x.size) (hs : x.size ≤ 65536) (hok : x.fin = false → someOk D rok x.most 8192 s) :
    Calls Tryz.prog 227 #[.pointer (some ⟨g, 0, none⟩)] w fun en w' => en = .returned (.int .i64 (x.fill D s).2.1) ∧ ∃ i', On At w' O (x.fill D s).2.2 B g (x.fill D s).1 o i' b (.iface T v) ∧ Turned (fun k => O k ∨ k = g) w w' := by
  obtain ⟨c0, c1, c2, c3, c4, c5, c6, c7, c8, c9, c10, c11⟩ := h.way.cs
  generalize hq : x.fill D s = q
  obtain ⟨qx, qe, qs⟩ := q
  unfold SS.fill at hq
  rcases Bool.eq_false_or_eq_true x.fin with hf | hf
  · rw [if_pos hf] at hq
    obtain ⟨rfl, rfl, rfl⟩ : x = qx ∧ 111 = qe ∧ s = qs := by simpa using hq
    have HH := hide h
    rw [hf] at c8
    clear h hq hok c0 c1 c2 c3 c4 c5 c6 c7 c9 c10 c11 hf
    go_enter Tryz.func227, Tryz.ntmps227
    go_wp2
    go_ret
    exact ⟨rfl, _, HH.out, Turned.refl _ _⟩
  rw [if_neg (by simp [hf])] at hq
  have hok := hok hf
  rw [hf] at c8
  have g5 := h.way.soft 5
  have g8 := h.way.soft 8
  have hmost : 1 ≤ x.most ∧ x.most ≤ 65536 := by
    unfold SS.most
    split <;> omega
  have HSm := hide (some_any R x.most h.raw hmost.1 (by omega) hok)
  obtain ⟨m, hm⟩ : ∃ m, m = x.most := ⟨_, rfl⟩
  rw [← hm] at HSm hq hmost
  have HH := hide h
  have HHol := hide h.ol
  generalize someV D m 8192 s = X at *
  obtain ⟨L, e, s2⟩ := X
  simp only at HSm hq
  have HQ := hide hq
  clear h hok hq
  have HFin : Hid (∀ (u : Value) (w1 : World), w1.ownsRow w.heap.size 5 1 u L.length (L.map bv) → At w1 O s2 → Turned O w w1 → On At w1 O s2 B g x o i b (.iface T v) ∧ Sl w1 u L ∧ ∀ k, u.ownBlock = some k → B ≤ k ∧ ¬ O k ∧ k ≠ g ∧ k < w1.heap.size) := hide (fun u w1 a1 a2 a3 => by
    have hz := a3.size
    refine ⟨⟨HH.out.way.turned a3 HH.out.og, (HH.out.ls.turned a3 fun k e _ => e.2.1).mono fun k e => ⟨e.1, e.2.1, e.2.2.1, by have := e.2.2.2; omega⟩, a2, HH.out.og, HH.out.gB, fun j e => Nat.lt_of_lt_of_le (HHol.out j e) hz⟩, Sl.own a1, fun k e => ?_⟩
    have hk := a1.lt k e
    exact ⟨by omega, fun e' => by have := HHol.out k e'; omega, fun e' => by have := HH.out.way.lt; omega, hk.2⟩)
  clear g5 g8 c0 c1 c4 c5 c6 c7 c9 c10
  have hm2 : x.most = if x.mode = 1 then 1 else x.size.toNat := rfl
  by_cases hmd : x.mode = 1
  · rw [if_pos hmd] at hm2
    rw [← hm] at hm2
    subst hm2
    rw [hmd] at c2
    clear hm
    by_cases he : e = 0
    case neg =>
      have hq := HQ.out
      rw [if_pos he] at hq
      obtain ⟨rfl, rfl, rfl⟩ : x.mark e = qx ∧ e = qe ∧ s2 = qs := by simpa using hq
      have he2 : (e != 0) = true := by simp [he]
      clear hq HQ
      go_enter Tryz.func227, Tryz.ntmps227
      go_wp2_with fail
      refine HSm.out.mono ?_
      rintro _ w1 ⟨u, rfl, a1, a2, a3⟩
      obtain ⟨ua, uc, rfl⟩ := owns_slice a1
      obtain ⟨q1, q2, q3⟩ := HFin.out _ w1 a1 a2 a3
      have HOn1 := hide q1
      have HT1 := hide (a3.mono fun k e => (.inl e : O k ∨ k = g))
      clear q1 q2 q3 a1 a2 a3
      go_wp2_with fail
      refine (marked_any _ g e _ _ _ _ _ HOn1.out.way).mono ?_
      rintro _ w3 ⟨rfl, hW3, hT3⟩
      have HOn3 := hide (On.at hT HOn1.out hW3 hT3 HOn1.out.ls.mark)
      have HT3 := hide (HT1.out.trans hT3 (fun _ _ e => .inr e))
      clear hW3 hT3
      go_wp2
      go_ret
      exact ⟨rfl, _, HOn3.out, HT3.out⟩
    subst he
    by_cases hl : L.length = 0
    · have hq := HQ.out
      rw [if_neg (by simp), if_pos hl] at hq
      obtain ⟨rfl, rfl, rfl⟩ : { x with fin := true } = qx ∧ 111 = qe ∧ s2 = qs := by simpa using hq
      rw [hl] at HSm
      clear hq HQ
      go_enter Tryz.func227, Tryz.ntmps227
      go_wp2_with fail
      refine HSm.out.mono ?_
      rintro _ w1 ⟨u, rfl, a1, a2, a3⟩
      obtain ⟨ua, uc, rfl⟩ := owns_slice a1
      obtain ⟨q1, q2, q3⟩ := HFin.out _ w1 (by rw [hl]; exact a1) a2 a3
      have HOn1 := hide q1
      have HT1 := hide (a3.mono fun k e => (.inl e : O k ∨ k = g))
      clear q1 q2 q3 a1 a2 a3
      have d8 := HOn1.out.way.cs.2.2.2.2.2.2.2.2.1
      have g8 := HOn1.out.way.soft 8
      have HWy := hide (HOn1.out.way.set (x' := { x with fin := true }) (o' := o) (i' := i) (b' := b) 8 (.bool true) rfl)
      have HOn2 := hide (On.at hT HOn1.out HWy.out ((Turned.refl (fun k => k = g) w1).set (.inl rfl)) (HOn1.out.ls.kin rfl rfl rfl))
      go_wp2
      go_ret
      exact ⟨rfl, _, HOn2.out, HT1.out.set (.inl (.inr rfl))⟩
    · have hq := HQ.out
      rw [if_neg (by simp), if_neg hl] at hq
      obtain ⟨rfl, rfl, rfl⟩ : { x with inn := L } = qx ∧ 0 = qe ∧ s2 = qs := by simpa using hq
      have hl2 : ((L.length : Int) == 0) = false := by simp only [beq_eq_false_iff_ne]; omega
      have hl3 : ¬ L = [] := fun e => hl (by rw [e]; rfl)
      clear hq HQ
      go_enter Tryz.func227, Tryz.ntmps227
      go_wp2_with fail
      refine HSm.out.mono ?_
      rintro _ w1 ⟨u, rfl, a1, a2, a3⟩
      obtain ⟨ua, uc, rfl⟩ := owns_slice a1
      obtain ⟨q1, q2, q3⟩ := HFin.out _ w1 a1 a2 a3
      have HOn1 := hide q1
      have HT1 := hide (a3.mono fun k e => (.inl e : O k ∨ k = g))
      have HQ2 := hide (And.intro q2 q3)
      clear q1 q2 q3 a1 a2 a3
      have d5 := HOn1.out.way.cs.2.2.2.2.2.1
      have g5 := HOn1.out.way.soft 5
      have HWy := hide (HOn1.out.way.set (x' := { x with inn := L }) (o' := o) (i' := .slice ua L.length uc) (b' := b) 5 (.slice ua L.length uc) rfl)
      have HOn2 := hide (On.at hT HOn1.out HWy.out ((Turned.refl (fun k => k = g) w1).set (.inl rfl)) ⟨HOn1.out.ls.so, HQ2.out.1, HOn1.out.ls.sb, HOn1.out.ls.po, HQ2.out.2, HOn1.out.ls.pb⟩)
      go_wp2
      go_ret
      exact ⟨rfl, _, HOn2.out, HT1.out.set (.inl (.inr rfl))⟩
  · rw [if_neg hmd] at hm2
    rw [← hm] at hm2
    have hsz : x.size = (m : Int) := by omega
    rw [hsz] at c3
    have hmb : (x.mode == 1) = false := by simp [hmd]
    clear hm2
    clear hm
    by_cases he : e = 0
    case neg =>
      have hq := HQ.out
      rw [if_pos he] at hq
      obtain ⟨rfl, rfl, rfl⟩ : x.mark e = qx ∧ e = qe ∧ s2 = qs := by simpa using hq
      have he2 : (e != 0) = true := by simp [he]
      clear hq HQ
      go_enter Tryz.func227, Tryz.ntmps227
      go_wp2_with fail
      refine HSm.out.mono ?_
      rintro _ w1 ⟨u, rfl, a1, a2, a3⟩
      obtain ⟨ua, uc, rfl⟩ := owns_slice a1
      obtain ⟨q1, q2, q3⟩ := HFin.out _ w1 a1 a2 a3
      have HOn1 := hide q1
      have HT1 := hide (a3.mono fun k e => (.inl e : O k ∨ k = g))
      clear q1 q2 q3 a1 a2 a3
      go_wp2_with fail
      refine (marked_any _ g e _ _ _ _ _ HOn1.out.way).mono ?_
      rintro _ w3 ⟨rfl, hW3, hT3⟩
      have HOn3 := hide (On.at hT HOn1.out hW3 hT3 HOn1.out.ls.mark)
      have HT3 := hide (HT1.out.trans hT3 (fun _ _ e => .inr e))
      clear hW3 hT3
      go_wp2
      go_ret
      exact ⟨rfl, _, HOn3.out, HT3.out⟩
    subst he
    by_cases hl : L.length = 0
    · have hq := HQ.out
      rw [if_neg (by simp), if_pos hl] at hq
      obtain ⟨rfl, rfl, rfl⟩ : { x with fin := true } = qx ∧ 111 = qe ∧ s2 = qs := by simpa using hq
      rw [hl] at HSm
      clear hq HQ
      go_enter Tryz.func227, Tryz.ntmps227
      go_wp2_with fail
      refine HSm.out.mono ?_
      rintro _ w1 ⟨u, rfl, a1, a2, a3⟩
      obtain ⟨ua, uc, rfl⟩ := owns_slice a1
      obtain ⟨q1, q2, q3⟩ := HFin.out _ w1 (by rw [hl]; exact a1) a2 a3
      have HOn1 := hide q1
      have HT1 := hide (a3.mono fun k e => (.inl e : O k ∨ k = g))
      clear q1 q2 q3 a1 a2 a3
      have d8 := HOn1.out.way.cs.2.2.2.2.2.2.2.2.1
      have g8 := HOn1.out.way.soft 8
      have HWy := hide (HOn1.out.way.set (x' := { x with fin := true }) (o' := o) (i' := i) (b' := b) 8 (.bool true) rfl)
      have HOn2 := hide (On.at hT HOn1.out HWy.out ((Turned.refl (fun k => k = g) w1).set (.inl rfl)) (HOn1.out.ls.kin rfl rfl rfl))
      go_wp2
      go_ret
      exact ⟨rfl, _, HOn2.out, HT1.out.set (.inl (.inr rfl))⟩
    · have hq := HQ.out
      rw [if_neg (by simp), if_neg hl] at hq
      obtain ⟨rfl, rfl, rfl⟩ : { x with inn := L } = qx ∧ 0 = qe ∧ s2 = qs := by simpa using hq
      have hl2 : ((L.length : Int) == 0) = false := by simp only [beq_eq_false_iff_ne]; omega
      have hl3 : ¬ L = [] := fun e => hl (by rw [e]; rfl)
      clear hq HQ
      go_enter Tryz.func227, Tryz.ntmps227
      go_wp2_with fail
      refine HSm.out.mono ?_
      rintro _ w1 ⟨u, rfl, a1, a2, a3⟩
      obtain ⟨ua, uc, rfl⟩ := owns_slice a1
      obtain ⟨q1, q2, q3⟩ := HFin.out _ w1 a1 a2 a3
      have HOn1 := hide q1
      have HT1 := hide (a3.mono fun k e => (.inl e : O k ∨ k = g))
      have HQ2 := hide (And.intro q2 q3)
      clear q1 q2 q3 a1 a2 a3
      have d5 := HOn1.out.way.cs.2.2.2.2.2.1
      have g5 := HOn1.out.way.soft 5
      have HWy := hide (HOn1.out.way.set (x' := { x with inn := L }) (o' := o) (i' := .slice ua L.length uc) (b' := b) 5 (.slice ua L.length uc) rfl)
      have HOn2 := hide (On.at hT HOn1.out HWy.out ((Turned.refl (fun k => k = g) w1).set (.inl rfl)) ⟨HOn1.out.ls.so, HQ2.out.1, HOn1.out.ls.sb, HOn1.out.ls.po, HQ2.out.2, HOn1.out.ls.pb⟩)
      go_wp2
      go_ret
      exact ⟨rfl, _, HOn2.out, HT1.out.set (.inl (.inr rfl))⟩
end Go.Proofs.YtmlfcbbgelkbbaaGreat

/- Streams: get, flush, close on a way. -/
namespace Go.Proofs.YtmlfcbbgelkbbaaGreat
open Go.RowKit

theorem get1_fill {S : Type} (D : RawD S) (x : SS) (s : S) (hb : x.back.length = 0) (hi : x.inn.length = 0) : x.get1 D s = if (x.fill D s).2.1 = 0 then ({ (x.fill D s).1 with inn := (x.fill D s).1.inn.drop 1 }, (x.fill D s).1.inn.getD 0 0, 0, (x.fill D s).2.2) else ((x.fill D s).1, 0, (x.fill D s).2.1, (x.fill D s).2.2) := by
  unfold SS.get1 SS.fill
  rw [if_neg (by omega), if_neg (by omega)]
  by_cases h1 : x.fin = true
  · rw [if_pos h1, if_pos h1]; rfl
  rw [if_neg h1, if_neg h1]
  by_cases h2 : (someV D x.most 8192 s).2.1 ≠ 0
  · rw [if_pos h2, if_pos h2, if_neg h2]
  rw [if_neg h2, if_neg h2]
  by_cases h3 : (someV D x.most 8192 s).1.length = 0
  · rw [if_pos h3, if_pos h3]; rfl
  rw [if_neg h3, if_neg h3]; rfl
theorem fill_inn {S : Type} (D : RawD S) (x : SS) (s : S) (h : (x.fill D s).2.1 = 0) : 0 < (x.fill D s).1.inn.length := by
  unfold SS.fill at h ⊢
  split at h
  · simp at h
  rename_i h1
  rw [if_neg h1]
  split at h
  · contradiction
  rename_i h2
  rw [if_neg h2]
  split at h
  · simp at h
  rename_i h3
  rw [if_neg h3]
  exact Nat.pos_of_ne_zero h3
set_option maxRecDepth 100000 in
set_option maxHeartbeats 4000000 in
theorem get_any {S : Type} {D : RawD S} {T : TypeId} {v : Value} {fr fw : FuncId} {rok wok : S → Prop} {At : World → (Nat → Prop) → S → Prop} (R : RawM D T v fr fw rok wok At) (hT : ∀ s, OAt (fun w O => At w O s)) {w : World} {O : Nat → Prop} {s : S} {B g : Nat} {x : SS} {o i b : Value} (h : On At w O s B g x o i b (.iface T v)) (hB : B ≤ w.heap.size) (h1 : 1 ≤ x.size) (hs : x.size ≤ 65536) (hbl : x.back.length ≤ 8) (hil : x.inn.length ≤ 65536) (hok : someOk D rok x.most 8192 s) :
    Calls Tryz.prog 186 #[.pointer (some ⟨g, 0, none⟩)] w fun en w' => en = .returned (.tuple #[.int .u8 ((x.get1 D s).2.1.toNat : Int), .int .i64 (x.get1 D s).2.2.1]) ∧ ∃ i' b', On At w' O (x.get1 D s).2.2.2 B g (x.get1 D s).1 o i' b' (.iface T v) ∧ Turned (fun k => O k ∨ k = g) w w' := by
  obtain ⟨ia, ic, rfl, hib, hic⟩ := h.ls.si
  obtain ⟨ba, bc, rfl, hbb, hbc⟩ := h.ls.sb
  obtain ⟨c0, c1, c2, c3, c4, c5, c6, c7, c8, c9, c10, c11⟩ := h.way.cs
  have g5 := h.way.soft 5
  have g6 := h.way.soft 6
  have HH := hide h
  clear c0 c1 c2 c3 c4 c7 c8 c9 c10 c11
  generalize hq : x.get1 D s = q
  obtain ⟨qx, qc, qe, qs⟩ := q
  by_cases hb : 0 < x.back.length
  · unfold SS.get1 at hq
    rw [if_pos hb] at hq
    obtain ⟨rfl, rfl, rfl, rfl⟩ : { x with back := x.back.dropLast } = qx ∧ x.back.getD (x.back.length - 1) 0 = qc ∧ 0 = qe ∧ s = qs := by simpa using hq
    obtain ⟨-, bb, off, rfl, -, hcell⟩ := bys_block hbb hb
    have hcl := hcell (x.back.length - 1) (by omega)
    have hcut : Sl w (.slice (some ⟨bb, off, none⟩) (x.back.length - 1) bc) x.back.dropLast := by
      have := bys_cut hbb 0 (x.back.length - 1) bc (by omega)
      rw [List.drop_zero, ← List.dropLast_eq_take] at this
      exact ⟨_, _, by rw [List.length_dropLast], this, by rw [List.length_dropLast]; omega⟩
    obtain ⟨n, hn⟩ : ∃ n, n = x.back.length - 1 := ⟨_, rfl⟩
    rw [← hn] at hcl hcut ⊢
    have hbn : x.back.length = n + 1 := by omega
    rw [hbn] at c6 hbc
    have HWy := hide (h.way.set (x' := { x with back := x.back.dropLast }) (o' := o) (i' := .slice ia x.inn.length ic) (b' := .slice (some ⟨bb, off, none⟩) n bc) 6 (.slice (some ⟨bb, off, none⟩) n bc) rfl)
    have HOn2 := hide (On.at hT h HWy.out ((Turned.refl (fun k => k = g) w).set (.inl rfl)) ⟨h.ls.so, h.ls.si, hcut, h.ls.po, h.ls.pi, fun k e => h.ls.pb k e⟩)
    have k0 : (0 : Int) ≤ (n : Int) := by omega
    have k8 : (n : Int) ≤ 8 := by omega
    have k1 : (n : Int) < (n : Int) + 1 := by omega
    have k2 : (n : Int) ≤ (bc : Int) := by omega
    have k3 : ((n : Int) + 1) - 1 = (n : Int) := by omega
    have HNn := hide hbn
    clear hq hcut hbb hib h hcell hbn hn hok
    go_enter Tryz.func186, Tryz.ntmps186
    go_wp2
    go_ret2
    exact ⟨rfl, _, _, HOn2.out, (Turned.refl _ _).set (.inl (.inr rfl))⟩
  have hb0 : x.back.length = 0 := by omega
  rw [hb0] at c6
  by_cases hi : 0 < x.inn.length
  · unfold SS.get1 at hq
    rw [if_neg hb, if_pos hi] at hq
    obtain ⟨rfl, rfl, rfl, rfl⟩ : { x with inn := x.inn.drop 1 } = qx ∧ x.inn.getD 0 0 = qc ∧ 0 = qe ∧ s = qs := by simpa using hq
    obtain ⟨-, bb, off, rfl, -, hcell⟩ := bys_block hib hi
    have hcl := hcell 0 hi
    rw [Nat.add_zero] at hcl
    generalize x.inn.getD 0 0 = ch at hcl ⊢
    have HBh := hide (behind_any x.inn (.slice (some ⟨bb, off, none⟩) x.inn.length ic) 1 w h.ls.si hi)
    have k0 : (0 : Int) < (x.inn.length : Int) := by omega
    have k1 : ((x.inn.length : Int) == 0) = false := by simp only [beq_eq_false_iff_ne]; omega
    have k2 : ¬ x.inn = [] := fun e => by rw [e] at hi; simp at hi
    obtain ⟨L, hL⟩ : ∃ L, L = x.inn.drop 1 := ⟨_, rfl⟩
    rw [← hL] at HBh ⊢
    clear hq hib h hcell hL hok
    go_enter Tryz.func186, Tryz.ntmps186
    go_wp2_with fail
    refine HBh.out.mono ?_
    rintro _ _ ⟨u, rfl, hu, hub, -, rfl⟩
    have hu2 := hu
    obtain ⟨ua, uc, rfl, -⟩ := hu2
    have HWy := hide (HH.out.way.set (x' := { x with inn := L }) (o' := o) (i' := .slice ua L.length uc) (b' := .slice ba x.back.length bc) 5 (.slice ua L.length uc) rfl)
    have HOn2 := hide (On.at hT HH.out HWy.out ((Turned.refl (fun k => k = g) w).set (.inl rfl)) ⟨HH.out.ls.so, hu, HH.out.ls.sb, HH.out.ls.po, fun k e => HH.out.ls.pi k (hub k e), HH.out.ls.pb⟩)
    clear hu hub
    go_wp2
    go_ret2
    exact ⟨rfl, _, _, HOn2.out, (Turned.refl _ _).set (.inl (.inr rfl))⟩
  have hi0 : x.inn.length = 0 := by omega
  rw [get1_fill D x s hb0 hi0] at hq
  have HF := hide (fill_any R hT h hB h1 hs (fun _ => hok))
  have HIn := hide (fill_inn D x s)
  rw [hi0] at c5
  generalize x.fill D s = X at *
  obtain ⟨fx, fe, fs⟩ := X
  simp only at hq HF HIn
  have HQ := hide hq
  clear hq h hib hbb hok
  by_cases he : fe = 0
  · subst he
    have hq := HQ.out
    rw [if_pos rfl] at hq
    obtain ⟨rfl, rfl, rfl, rfl⟩ : { fx with inn := fx.inn.drop 1 } = qx ∧ fx.inn.getD 0 0 = qc ∧ 0 = qe ∧ fs = qs := by simpa using hq
    have hpos := HIn.out rfl
    obtain ⟨ch, hch⟩ : ∃ ch, ch = fx.inn.getD 0 0 := ⟨_, rfl⟩
    rw [← hch]
    have HCh := hide hch
    clear hch
    obtain ⟨L, hL⟩ : ∃ L, L = fx.inn.drop 1 := ⟨_, rfl⟩
    rw [← hL]
    have HL := hide hL
    clear hq HQ hL
    go_enter Tryz.func186, Tryz.ntmps186
    go_wp2_with fail
    refine HF.out.mono ?_
    rintro _ w1 ⟨rfl, i', hO1, hT1⟩
    obtain ⟨ja, jc, rfl, hjb, hjc⟩ := hO1.ls.si
    obtain ⟨-, bb, off, rfl, -, hcell⟩ := bys_block hjb hpos
    have hcl := hcell 0 hpos
    rw [Nat.add_zero, ← HCh.out] at hcl
    have hbh := behind_any fx.inn (.slice (some ⟨bb, off, none⟩) fx.inn.length jc) 1 w1 hO1.ls.si hpos
    rw [← HL.out] at hbh
    have HBh := hide hbh
    have d5 := hO1.way.cs.2.2.2.2.2.1
    have e5 := hO1.way.soft 5
    have HO1 := hide hO1
    have HT1 := hide hT1
    have k0 : (0 : Int) < (fx.inn.length : Int) := by omega
    clear hO1 hT1 hjb hcell hbh c5 c6 g5 g6
    go_wp2_with fail
    refine HBh.out.mono ?_
    rintro _ _ ⟨u, rfl, hu, hub, -, rfl⟩
    have hu2 := hu
    obtain ⟨ua, uc, rfl, -⟩ := hu2
    have HWy := hide (HO1.out.way.set (x' := { fx with inn := L }) (o' := o) (i' := .slice ua L.length uc) (b' := .slice ba x.back.length bc) 5 (.slice ua L.length uc) rfl)
    have HOn2 := hide (On.at hT HO1.out HWy.out ((Turned.refl (fun k => k = g) w1).set (.inl rfl)) ⟨HO1.out.ls.so, hu, HO1.out.ls.sb, HO1.out.ls.po, fun k e => HO1.out.ls.pi k (hub k e), HO1.out.ls.pb⟩)
    clear hu hub
    go_wp2
    go_ret2
    exact ⟨rfl, _, _, HOn2.out, HT1.out.set (.inl (.inr rfl))⟩
  · have hq := HQ.out
    rw [if_neg he] at hq
    obtain ⟨rfl, rfl, rfl, rfl⟩ : fx = qx ∧ 0 = qc ∧ fe = qe ∧ fs = qs := by simpa using hq
    have he2 : (fe != 0) = true := by simp [he]
    clear hq HQ
    go_enter Tryz.func186, Tryz.ntmps186
    go_wp2_with fail
    refine HF.out.mono ?_
    rintro _ w1 ⟨rfl, i', hO1, hT1⟩
    have HO1 := hide hO1
    have HT1 := hide hT1
    clear hO1 hT1 c5 c6 g5 g6
    go_wp2
    go_ret2
    exact ⟨rfl, _, _, HO1.out, HT1.out⟩
end Go.Proofs.YtmlfcbbgelkbbaaGreat

/- Streams: a way is begun. -/
namespace Go.Proofs.YtmlfcbbgelkbbaaGreat
open Go.RowKit

theorem Way.new (w : World) (x : SS) (o i b r : Value) : Way (w.alloc (Obj.cells #[.bool x.rd, .bool x.wt, .int .i64 x.mode, .int .i64 x.size, o, i, b, .int .i64 x.dir, .bool x.fin, .bool x.bad, .bool x.closed, r] 203)) w.heap.size x o i b r := heap_alloc_new w _
set_option maxRecDepth 100000 in
set_option maxHeartbeats 4000000 in
theorem onWay_any (x : SS) (o i b : Value) (P : Nat → Prop) (r : Value) (w : World) (h : SIn w P x o i b) (ho : x.out.length ≤ 140737488351232) (hi : x.inn.length ≤ 140737488351232) (hb : x.back.length ≤ 140737488351232) (hr : r = .nilIface ∨ ∃ T v, r = .iface T v) :
    Calls Tryz.prog 118 #[.agg #[.bool x.rd, .bool x.wt, .int .i64 x.mode, .int .i64 x.size, o, i, b, .int .i64 x.dir, .bool x.fin, .bool x.bad, .bool x.closed], r] w fun e w' => ∃ g o' i' b', e = .returned (.pointer (some ⟨g, 0, none⟩)) ∧ Way w' g x o' i' b' r ∧ w.heap.size ≤ g ∧ w'.ownsRow w.heap.size 5 1 o' x.out.length (x.out.map bv) ∧ w'.ownsRow w.heap.size 5 1 i' x.inn.length (x.inn.map bv) ∧ w'.ownsRow w.heap.size 5 1 b' x.back.length (x.back.map bv) ∧ (∀ k, o'.ownBlock = some k ∨ i'.ownBlock = some k ∨ b'.ownBlock = some k → k ≠ g) ∧ Below w.heap.size w w' := by
  have HC := hide (fun (W : World) (hW : Below w.heap.size w W) => scopied_any x o i b P W (h.below hW) ho hi hb)
  obtain ⟨oa, oc, rfl, -⟩ := h.so
  obtain ⟨ia, ic, rfl, -⟩ := h.si
  obtain ⟨ba, bc, rfl, -⟩ := h.sb
  clear h
  rcases hr with rfl | ⟨T, v, rfl⟩
  · skip
    go_enter Tryz.func118, Tryz.ntmps118
    go_wp2_with fail
    refine (HC.out _ (recv_below w _)).mono ?_
    rintro _ w1 ⟨o', i', b', rfl, q1, q2, q3, hB1⟩
    obtain ⟨a1, k1, rfl⟩ := owns_slice q1
    obtain ⟨a2, k2, rfl⟩ := owns_slice q2
    obtain ⟨a3, k3, rfl⟩ := owns_slice q3
    have HQ := hide (And.intro q1 (And.intro q2 q3))
    have hz := (recv_below w (Obj.cells #[.bool x.rd, .bool x.wt, .int .i64 x.mode, .int .i64 x.size, .slice oa x.out.length oc, .slice ia x.inn.length ic, .slice ba x.back.length bc, .int .i64 x.dir, .bool x.fin, .bool x.bad, .bool x.closed] 58)).size
    have HB1 := hide ((recv_below w _).trans (hB1.mono hz))
    have HZ := hide hz
    clear q1 q2 q3 hB1 HC hz
    go_wp2
    go_ret
    have hBn := recv_below w1 (Obj.cells #[.bool x.rd, .bool x.wt, .int .i64 x.mode, .int .i64 x.size, .slice a1 x.out.length k1, .slice a2 x.inn.length k2, .slice a3 x.back.length k3, .int .i64 x.dir, .bool x.fin, .bool x.bad, .bool x.closed, .nilIface] 203)
    refine ⟨w1.heap.size, _, _, _, rfl, Way.new w1 x _ _ _ _, HB1.out.size, owns_mono (owns_below HQ.out.1 hBn) HZ.out, owns_mono (owns_below HQ.out.2.1 hBn) HZ.out, owns_mono (owns_below HQ.out.2.2 hBn) HZ.out, fun k e e' => ?_, HB1.out.trans (hBn.mono HB1.out.size)⟩
    rcases e with e | e | e
    · have := (HQ.out.1.lt k e).2; omega
    · have := (HQ.out.2.1.lt k e).2; omega
    · have := (HQ.out.2.2.lt k e).2; omega
  · skip
    go_enter Tryz.func118, Tryz.ntmps118
    go_wp2_with fail
    refine (HC.out _ (recv_below w _)).mono ?_
    rintro _ w1 ⟨o', i', b', rfl, q1, q2, q3, hB1⟩
    obtain ⟨a1, k1, rfl⟩ := owns_slice q1
    obtain ⟨a2, k2, rfl⟩ := owns_slice q2
    obtain ⟨a3, k3, rfl⟩ := owns_slice q3
    have HQ := hide (And.intro q1 (And.intro q2 q3))
    have hz := (recv_below w (Obj.cells #[.bool x.rd, .bool x.wt, .int .i64 x.mode, .int .i64 x.size, .slice oa x.out.length oc, .slice ia x.inn.length ic, .slice ba x.back.length bc, .int .i64 x.dir, .bool x.fin, .bool x.bad, .bool x.closed] 58)).size
    have HB1 := hide ((recv_below w _).trans (hB1.mono hz))
    have HZ := hide hz
    clear q1 q2 q3 hB1 HC hz
    go_wp2
    go_ret
    have hBn := recv_below w1 (Obj.cells #[.bool x.rd, .bool x.wt, .int .i64 x.mode, .int .i64 x.size, .slice a1 x.out.length k1, .slice a2 x.inn.length k2, .slice a3 x.back.length k3, .int .i64 x.dir, .bool x.fin, .bool x.bad, .bool x.closed, .iface T v] 203)
    refine ⟨w1.heap.size, _, _, _, rfl, Way.new w1 x _ _ _ _, HB1.out.size, owns_mono (owns_below HQ.out.1 hBn) HZ.out, owns_mono (owns_below HQ.out.2.1 hBn) HZ.out, owns_mono (owns_below HQ.out.2.2 hBn) HZ.out, fun k e e' => ?_, HB1.out.trans (hBn.mono HB1.out.size)⟩
    rcases e with e | e | e
    · have := (HQ.out.1.lt k e).2; omega
    · have := (HQ.out.2.1.lt k e).2; omega
    · have := (HQ.out.2.2.lt k e).2; omega
end Go.Proofs.YtmlfcbbgelkbbaaGreat

/- Streams: which states may be; copies; what lies behind. -/
import Derived.Test.YtbffnamdpmjfnaaStV
import Derived.Test.YtbffnamdpmjfnaaMeBoth
namespace Go.Proofs.Ytbffnamdpmjfnaa
open Go.RowKit

/-- A slice of bytes that is read. -/
def Sl (W : World) (v : Value) (l : List UInt8) : Prop := ∃ a c, v = .slice a l.length c ∧ Bys W v l ∧ l.length ≤ c
theorem Sl.own {W : World} {base : Nat} {v : Value} {l : List UInt8} (h : W.ownsRow base 5 1 v l.length (l.map bv)) : Sl W v l := by
  obtain ⟨a, c, rfl⟩ := owns_slice h
  exact ⟨a, c, rfl, Bys.of_owns h, owns_cap h⟩
theorem Sl.nil {W : World} : Sl W (.slice none 0 0) [] := ⟨none, 0, rfl, .inl ⟨rfl, rfl⟩, Nat.le_refl _⟩
theorem Sl.turned {P : Nat → Prop} {W W' : World} {v : Value} {l : List UInt8} (h : Sl W v l) (hT : Turned P W W') (hS : ∀ k, v.ownBlock = some k → k < W.heap.size → ¬ P k) : Sl W' v l := by
  obtain ⟨a, c, rfl, hb, hc⟩ := h
  exact ⟨a, c, rfl, hb.turned hT hS, hc⟩
/-- The lists of a state, within P. -/
structure SIn (W : World) (P : Nat → Prop) (x : SS) (o i b : Value) : Prop where
  so : Sl W o x.out
  si : Sl W i x.inn
  sb : Sl W b x.back
  po : ∀ k, o.ownBlock = some k → P k
  pi : ∀ k, i.ownBlock = some k → P k
  pb : ∀ k, b.ownBlock = some k → P k
theorem SIn.mono {W : World} {P Q : Nat → Prop} {x : SS} {o i b : Value} (h : SIn W P x o i b) (hq : ∀ k, P k → Q k) : SIn W Q x o i b := ⟨h.so, h.si, h.sb, fun k e => hq k (h.po k e), fun k e => hq k (h.pi k e), fun k e => hq k (h.pb k e)⟩
theorem SIn.turned {P Q : Nat → Prop} {W W' : World} {x : SS} {o i b : Value} (h : SIn W P x o i b) (hT : Turned Q W W') (hS : ∀ k, P k → k < W.heap.size → ¬ Q k) : SIn W' P x o i b :=
  ⟨h.so.turned hT fun k e => hS k (h.po k e), h.si.turned hT fun k e => hS k (h.pi k e), h.sb.turned hT fun k e => hS k (h.pb k e), h.po, h.pi, h.pb⟩
theorem SIn.below {P : Nat → Prop} {W W' : World} {x : SS} {o i b : Value} (h : SIn W P x o i b) (hB : Below W.heap.size W W') : SIn W' P x o i b := h.turned (Turned.of_below (S := fun _ => False) hB) fun _ _ _ => id

theorem recv_drew (w : World) (o : Obj) (n : Nat) : Below w.heap.size w ((w.alloc o).drewN n) := ⟨rfl, rfl, rfl, (recv_below w o).size, fun k hk => (recv_below w o).block k hk⟩
theorem isMode_any (m : Int) (w : World) : Calls Try.prog 18 #[.int .i64 m] w fun e w' => e = .returned (.bool (decide (1 ≤ m) && decide (m ≤ 3))) ∧ w = w' := by
  generalize hr : (decide (1 ≤ m) && decide (m ≤ 3)) = r
  by_cases h1 : 1 ≤ m
  · by_cases h2 : m ≤ 3
    · skip
      have HR : Hid (true = r) := hide (by rw [← hr, decide_eq_true h1, decide_eq_true h2]; rfl)
      clear hr
      go_enter Try.func18, Try.ntmps18
      go_wp2
      go_ret
      exact ⟨by rw [← HR.out]; first | rfl | (show Ending.returned (Value.bool (decide _)) = _; rw [decide_eq_false (by omega)]), rfl⟩
    · skip
      have HR : Hid (false = r) := hide (by rw [← hr, decide_eq_true h1, decide_eq_false h2]; rfl)
      clear hr
      go_enter Try.func18, Try.ntmps18
      go_wp2
      go_ret
      exact ⟨by rw [← HR.out]; first | rfl | (show Ending.returned (Value.bool (decide _)) = _; rw [decide_eq_false (by omega)]), rfl⟩
  · skip
    have HR : Hid (false = r) := hide (by rw [← hr, decide_eq_false h1]; rfl)
    clear hr
    go_enter Try.func18, Try.ntmps18
    go_wp2
    go_ret
    exact ⟨by rw [← HR.out]; first | rfl | (show Ending.returned (Value.bool (decide _)) = _; rw [decide_eq_false (by omega)]), rfl⟩
theorem isSize_any (m : Int) (w : World) : Calls Try.prog 19 #[.int .i64 m] w fun e w' => e = .returned (.bool (decide (1 ≤ m) && decide (m ≤ 65536))) ∧ w = w' := by
  generalize hr : (decide (1 ≤ m) && decide (m ≤ 65536)) = r
  by_cases h1 : 1 ≤ m
  · by_cases h2 : m ≤ 65536
    · skip
      have HR : Hid (true = r) := hide (by rw [← hr, decide_eq_true h1, decide_eq_true h2]; rfl)
      clear hr
      go_enter Try.func19, Try.ntmps19
      go_wp2
      go_ret
      exact ⟨by rw [← HR.out]; first | rfl | (show Ending.returned (Value.bool (decide _)) = _; rw [decide_eq_false (by omega)]), rfl⟩
    · skip
      have HR : Hid (false = r) := hide (by rw [← hr, decide_eq_true h1, decide_eq_false h2]; rfl)
      clear hr
      go_enter Try.func19, Try.ntmps19
      go_wp2
      go_ret
      exact ⟨by rw [← HR.out]; first | rfl | (show Ending.returned (Value.bool (decide _)) = _; rw [decide_eq_false (by omega)]), rfl⟩
  · skip
    have HR : Hid (false = r) := hide (by rw [← hr, decide_eq_false h1]; rfl)
    clear hr
    go_enter Try.func19, Try.ntmps19
    go_wp2
    go_ret
    exact ⟨by rw [← HR.out]; first | rfl | (show Ending.returned (Value.bool (decide _)) = _; rw [decide_eq_false (by omega)]), rfl⟩
set_option maxRecDepth 100000 in
set_option maxHeartbeats 4000000 in
theorem bufMay_any (x : SS) (oa ia ba : Option Addr) (oc ic bc : Nat) (w : World) : Calls Try.prog 66 #[.agg #[.bool x.rd, .bool x.wt, .int .i64 x.mode, .int .i64 x.size, .slice oa x.out.length oc, .slice ia x.inn.length ic, .slice ba x.back.length bc, .int .i64 x.dir, .bool x.fin, .bool x.bad, .bool x.closed]] w fun e w' => e = .returned (.bool x.buf) ∧ Below w.heap.size w w' := by
  obtain ⟨rd, wt, mode, size, out, inn, back, dir, fin, bad, closed⟩ := x
  generalize hr : SS.buf ⟨rd, wt, mode, size, out, inn, back, dir, fin, bad, closed⟩ = r
  unfold SS.buf at hr
  simp only at hr ⊢
  by_cases hm : mode = 1
  · subst hm
    rw [if_pos rfl, show (decide ((1 : Int) ≤ 1) && decide ((1 : Int) ≤ 3)) = true from rfl] at hr
    cases h2 : (decide (1 ≤ size) && decide (size ≤ 65536)) with
    | false =>
      have H2 := hide h2
      rw [h2] at hr
      have HR : Hid (false = r) := hide (by rw [← hr]; rfl)
      clear hr h2
      go_enter Try.func66, Try.ntmps66
      go_wp2_with (first | (go_at_call 18; refine (isMode_any _ _).mono ?_; rintro _ _ ⟨rfl, rfl⟩; skip) | (go_at_call 19; refine (isSize_any _ _).mono ?_; rintro _ _ ⟨rfl, rfl⟩; rw [H2.out]) | fail)
      go_ret
      exact ⟨by rw [← HR.out]; first | rfl | (show Ending.returned (Value.bool (decide _)) = _; rw [decide_eq_false (by omega)]), recv_below _ _⟩
    | true =>
    have H2 := hide h2
    rw [h2] at hr
    clear h2
    rcases out with _ | ⟨c, t⟩
    · skip
      by_cases h4 : (inn.length : Int) ≤ 65536
      · by_cases h5 : (back.length : Int) ≤ 8
        · skip
          have HR : Hid (true = r) := hide (by rw [← hr, decide_eq_true (show (([] : List UInt8).length : Int) ≤ 0 from Int.le_refl _), decide_eq_true h4, decide_eq_true h5]; rfl)
          clear hr
          go_enter Try.func66, Try.ntmps66
          go_wp2_with (first | (go_at_call 18; refine (isMode_any _ _).mono ?_; rintro _ _ ⟨rfl, rfl⟩; skip) | (go_at_call 19; refine (isSize_any _ _).mono ?_; rintro _ _ ⟨rfl, rfl⟩; rw [H2.out]) | fail)
          go_ret
          exact ⟨by rw [← HR.out]; first | rfl | (show Ending.returned (Value.bool (decide _)) = _; rw [decide_eq_false (by omega)]), recv_below _ _⟩
        · skip
          have HR : Hid (false = r) := hide (by rw [← hr, decide_eq_true (show (([] : List UInt8).length : Int) ≤ 0 from Int.le_refl _), decide_eq_true h4, decide_eq_false h5]; rfl)
          clear hr
          go_enter Try.func66, Try.ntmps66
          go_wp2_with (first | (go_at_call 18; refine (isMode_any _ _).mono ?_; rintro _ _ ⟨rfl, rfl⟩; skip) | (go_at_call 19; refine (isSize_any _ _).mono ?_; rintro _ _ ⟨rfl, rfl⟩; rw [H2.out]) | fail)
          go_ret
          exact ⟨by rw [← HR.out]; first | rfl | (show Ending.returned (Value.bool (decide _)) = _; rw [decide_eq_false (by omega)]), recv_below _ _⟩
      · skip
        have HR : Hid (false = r) := hide (by rw [← hr, decide_eq_true (show (([] : List UInt8).length : Int) ≤ 0 from Int.le_refl _), decide_eq_false h4]; rfl)
        clear hr
        go_enter Try.func66, Try.ntmps66
        go_wp2_with (first | (go_at_call 18; refine (isMode_any _ _).mono ?_; rintro _ _ ⟨rfl, rfl⟩; skip) | (go_at_call 19; refine (isSize_any _ _).mono ?_; rintro _ _ ⟨rfl, rfl⟩; rw [H2.out]) | fail)
        go_ret
        exact ⟨by rw [← HR.out]; first | rfl | (show Ending.returned (Value.bool (decide _)) = _; rw [decide_eq_false (by omega)]), recv_below _ _⟩
    · have h3 : ¬ (((c :: t).length : Int) ≤ 0) := by simp only [List.length_cons]; omega
      have HR : Hid (false = r) := hide (by rw [← hr, decide_eq_false h3]; rfl)
      clear hr
      have h3' : ¬ ((t.length : Int) + 1 ≤ 0) := by omega
      go_enter Try.func66, Try.ntmps66
      go_wp2_with (first | (go_at_call 18; refine (isMode_any _ _).mono ?_; rintro _ _ ⟨rfl, rfl⟩; skip) | (go_at_call 19; refine (isSize_any _ _).mono ?_; rintro _ _ ⟨rfl, rfl⟩; rw [H2.out]) | fail)
      go_ret
      exact ⟨by rw [← HR.out]; first | rfl | (show Ending.returned (Value.bool (decide _)) = _; rw [decide_eq_false (by omega)]), recv_below _ _⟩
  · rw [if_neg hm] at hr
    cases h1 : (decide (1 ≤ mode) && decide (mode ≤ 3)) with
    | false =>
      have H1 := hide h1
      rw [h1] at hr
      have HR : Hid (false = r) := hide (by rw [← hr]; rfl)
      clear hr h1
      go_enter Try.func66, Try.ntmps66
      go_wp2_with (first | (go_at_call 18; refine (isMode_any _ _).mono ?_; rintro _ _ ⟨rfl, rfl⟩; rw [H1.out]) | (go_at_call 19; refine (isSize_any _ _).mono ?_; rintro _ _ ⟨rfl, rfl⟩; rw [H2.out]) | fail)
      go_ret
      exact ⟨by rw [← HR.out]; first | rfl | (show Ending.returned (Value.bool (decide _)) = _; rw [decide_eq_false (by omega)]), recv_below _ _⟩
    | true =>
    have H1 := hide h1
    rw [h1] at hr
    clear h1
    cases h2 : (decide (1 ≤ size) && decide (size ≤ 65536)) with
    | false =>
      have H2 := hide h2
      rw [h2] at hr
      have HR : Hid (false = r) := hide (by rw [← hr]; rfl)
      clear hr h2
      go_enter Try.func66, Try.ntmps66
      go_wp2_with (first | (go_at_call 18; refine (isMode_any _ _).mono ?_; rintro _ _ ⟨rfl, rfl⟩; rw [H1.out]) | (go_at_call 19; refine (isSize_any _ _).mono ?_; rintro _ _ ⟨rfl, rfl⟩; rw [H2.out]) | fail)
      go_ret
      exact ⟨by rw [← HR.out]; first | rfl | (show Ending.returned (Value.bool (decide _)) = _; rw [decide_eq_false (by omega)]), recv_below _ _⟩
    | true =>
    have H2 := hide h2
    rw [h2] at hr
    clear h2
    by_cases h3 : (out.length : Int) ≤ size
    · skip
      by_cases h4 : (inn.length : Int) ≤ 65536
      · by_cases h5 : (back.length : Int) ≤ 8
        · skip
          have HR : Hid (true = r) := hide (by rw [← hr, decide_eq_true h3, decide_eq_true h4, decide_eq_true h5]; rfl)
          clear hr
          go_enter Try.func66, Try.ntmps66
          go_wp2_with (first | (go_at_call 18; refine (isMode_any _ _).mono ?_; rintro _ _ ⟨rfl, rfl⟩; rw [H1.out]) | (go_at_call 19; refine (isSize_any _ _).mono ?_; rintro _ _ ⟨rfl, rfl⟩; rw [H2.out]) | fail)
          go_ret
          exact ⟨by rw [← HR.out]; first | rfl | (show Ending.returned (Value.bool (decide _)) = _; rw [decide_eq_false (by omega)]), recv_below _ _⟩
        · skip
          have HR : Hid (false = r) := hide (by rw [← hr, decide_eq_true h3, decide_eq_true h4, decide_eq_false h5]; rfl)
          clear hr
          go_enter Try.func66, Try.ntmps66
          go_wp2_with (first | (go_at_call 18; refine (isMode_any _ _).mono ?_; rintro _ _ ⟨rfl, rfl⟩; rw [H1.out]) | (go_at_call 19; refine (isSize_any _ _).mono ?_; rintro _ _ ⟨rfl, rfl⟩; rw [H2.out]) | fail)
          go_ret
          exact ⟨by rw [← HR.out]; first | rfl | (show Ending.returned (Value.bool (decide _)) = _; rw [decide_eq_false (by omega)]), recv_below _ _⟩
      · skip
        have HR : Hid (false = r) := hide (by rw [← hr, decide_eq_true h3, decide_eq_false h4]; rfl)
        clear hr
        go_enter Try.func66, Try.ntmps66
        go_wp2_with (first | (go_at_call 18; refine (isMode_any _ _).mono ?_; rintro _ _ ⟨rfl, rfl⟩; rw [H1.out]) | (go_at_call 19; refine (isSize_any _ _).mono ?_; rintro _ _ ⟨rfl, rfl⟩; rw [H2.out]) | fail)
        go_ret
        exact ⟨by rw [← HR.out]; first | rfl | (show Ending.returned (Value.bool (decide _)) = _; rw [decide_eq_false (by omega)]), recv_below _ _⟩
    · skip
      have HR : Hid (false = r) := hide (by rw [← hr, decide_eq_false h3]; rfl)
      clear hr
      go_enter Try.func66, Try.ntmps66
      go_wp2_with (first | (go_at_call 18; refine (isMode_any _ _).mono ?_; rintro _ _ ⟨rfl, rfl⟩; rw [H1.out]) | (go_at_call 19; refine (isSize_any _ _).mono ?_; rintro _ _ ⟨rfl, rfl⟩; rw [H2.out]) | fail)
      go_ret
      exact ⟨by rw [← HR.out]; first | rfl | (show Ending.returned (Value.bool (decide _)) = _; rw [decide_eq_false (by omega)]), recv_below _ _⟩
set_option maxRecDepth 100000 in
set_option maxHeartbeats 4000000 in
theorem wayMay_any (x : SS) (oa ia ba : Option Addr) (oc ic bc : Nat) (w : World) (hi : x.inn.length ≤ 140737488351232) (hb : x.back.length ≤ 140737488351232) : Calls Try.prog 67 #[.agg #[.bool x.rd, .bool x.wt, .int .i64 x.mode, .int .i64 x.size, .slice oa x.out.length oc, .slice ia x.inn.length ic, .slice ba x.back.length bc, .int .i64 x.dir, .bool x.fin, .bool x.bad, .bool x.closed]] w fun e w' => e = .returned (.bool x.way) ∧ Below w.heap.size w w' := by
  obtain ⟨rd, wt, mode, size, out, inn, back, dir, fin, bad, closed⟩ := x
  generalize hr : SS.way ⟨rd, wt, mode, size, out, inn, back, dir, fin, bad, closed⟩ = r
  unfold SS.way SS.toR SS.toW at hr
  simp only at hr hi hb ⊢
  by_cases h0 : dir = 0
  · subst h0
    rw [if_pos rfl] at hr
    by_cases h1 : 0 < (inn.length : Int) + (back.length : Int)
    · by_cases h2 : 0 < (out.length : Int)
      · skip
        have HR : Hid (false = r) := hide (by rw [← hr, decide_eq_true h1, decide_eq_true h2]; rfl)
        clear hr
        have q1 := decide_eq_true h1
        have q2 : decide (0 < out.length) = true := decide_eq_true (by omega)
        go_enter Try.func67, Try.ntmps67
        go_wp2
        go_quiet (fail)
        go_wp2
        go_ret
        exact ⟨by rw [← HR.out]; first | rfl | (show Ending.returned (Value.bool (decide _)) = _; rw [decide_eq_false (by omega)]), recv_drew _ _ _⟩
      · skip
        have HR : Hid (false = r) := hide (by rw [← hr, decide_eq_true h1, decide_eq_false h2]; rfl)
        clear hr
        have q1 := decide_eq_true h1
        have q2 : decide (0 < out.length) = false := decide_eq_false (by omega)
        go_enter Try.func67, Try.ntmps67
        go_wp2
        go_quiet (fail)
        go_wp2
        go_ret
        exact ⟨by rw [← HR.out]; first | rfl | (show Ending.returned (Value.bool (decide _)) = _; rw [decide_eq_false (by omega)]), recv_drew _ _ _⟩
    · by_cases h2 : 0 < (out.length : Int)
      · skip
        have HR : Hid (false = r) := hide (by rw [← hr, decide_eq_false h1, decide_eq_true h2]; rfl)
        clear hr
        have q1 := decide_eq_false h1
        have q2 : decide (0 < out.length) = true := decide_eq_true (by omega)
        go_enter Try.func67, Try.ntmps67
        go_wp2
        go_quiet (fail)
        go_wp2
        go_ret
        exact ⟨by rw [← HR.out]; first | rfl | (show Ending.returned (Value.bool (decide _)) = _; rw [decide_eq_false (by omega)]), recv_drew _ _ _⟩
      · skip
        have HR : Hid (true = r) := hide (by rw [← hr, decide_eq_false h1, decide_eq_false h2]; rfl)
        clear hr
        have q1 := decide_eq_false h1
        have q2 : decide (0 < out.length) = false := decide_eq_false (by omega)
        go_enter Try.func67, Try.ntmps67
        go_wp2
        go_quiet (fail)
        go_wp2
        go_ret
        exact ⟨by rw [← HR.out]; first | rfl | (show Ending.returned (Value.bool (decide _)) = _; rw [decide_eq_false (by omega)]), recv_drew _ _ _⟩
  rw [if_neg h0] at hr
  by_cases h3 : dir = 1
  · subst h3
    rw [if_pos rfl] at hr
    cases rd with
    | false =>
      have HR : Hid (false = r) := hide (by rw [← hr]; rfl)
      clear hr
      go_enter Try.func67, Try.ntmps67
      go_wp2
      go_quiet (fail)
      go_wp2
      go_ret
      exact ⟨by rw [← HR.out]; first | rfl | (show Ending.returned (Value.bool (decide _)) = _; rw [decide_eq_false (by omega)]), recv_drew _ _ _⟩
    | true =>
    by_cases h2 : 0 < (out.length : Int)
    · skip
      have HR : Hid (false = r) := hide (by rw [← hr, decide_eq_true h2]; rfl)
      clear hr
      have q2 : decide (0 < out.length) = true := decide_eq_true (by omega)
      go_enter Try.func67, Try.ntmps67
      go_wp2
      go_quiet (fail)
      go_wp2
      go_ret
      exact ⟨by rw [← HR.out]; first | rfl | (show Ending.returned (Value.bool (decide _)) = _; rw [decide_eq_false (by omega)]), recv_drew _ _ _⟩
    · cases closed with
      | false =>
        have HR : Hid (true = r) := hide (by rw [← hr, decide_eq_false h2]; rfl)
        clear hr
        have q2 : decide (0 < out.length) = false := decide_eq_false (by omega)
        go_enter Try.func67, Try.ntmps67
        go_wp2
        go_quiet (fail)
        go_wp2
        go_ret
        exact ⟨by rw [← HR.out]; first | rfl | (show Ending.returned (Value.bool (decide _)) = _; rw [decide_eq_false (by omega)]), recv_drew _ _ _⟩
      | true =>
        have HR : Hid (false = r) := hide (by rw [← hr, decide_eq_false h2]; rfl)
        clear hr
        have q2 : decide (0 < out.length) = false := decide_eq_false (by omega)
        go_enter Try.func67, Try.ntmps67
        go_wp2
        go_quiet (fail)
        go_wp2
        go_ret
        exact ⟨by rw [← HR.out]; first | rfl | (show Ending.returned (Value.bool (decide _)) = _; rw [decide_eq_false (by omega)]), recv_drew _ _ _⟩
  rw [if_neg h3] at hr
  by_cases h4 : dir = 2
  · subst h4
    rw [if_pos rfl] at hr
    cases wt with
    | false =>
      have HR : Hid (false = r) := hide (by rw [← hr]; rfl)
      clear hr
      go_enter Try.func67, Try.ntmps67
      go_wp2
      go_quiet (fail)
      go_wp2
      go_ret
      exact ⟨by rw [← HR.out]; first | rfl | (show Ending.returned (Value.bool (decide _)) = _; rw [decide_eq_false (by omega)]), recv_drew _ _ _⟩
    | true =>
    by_cases h1 : 0 < (inn.length : Int) + (back.length : Int)
    · skip
      have HR : Hid (false = r) := hide (by rw [← hr, decide_eq_true h1]; rfl)
      clear hr
      have q1 := decide_eq_true h1
      go_enter Try.func67, Try.ntmps67
      go_wp2
      go_quiet (fail)
      go_wp2
      go_ret
      exact ⟨by rw [← HR.out]; first | rfl | (show Ending.returned (Value.bool (decide _)) = _; rw [decide_eq_false (by omega)]), recv_drew _ _ _⟩
    · cases closed with
      | false =>
        have HR : Hid (true = r) := hide (by rw [← hr, decide_eq_false h1]; rfl)
        clear hr
        have q1 := decide_eq_false h1
        go_enter Try.func67, Try.ntmps67
        go_wp2
        go_quiet (fail)
        go_wp2
        go_ret
        exact ⟨by rw [← HR.out]; first | rfl | (show Ending.returned (Value.bool (decide _)) = _; rw [decide_eq_false (by omega)]), recv_drew _ _ _⟩
      | true =>
        have HR : Hid (false = r) := hide (by rw [← hr, decide_eq_false h1]; rfl)
        clear hr
        have q1 := decide_eq_false h1
        go_enter Try.func67, Try.ntmps67
        go_wp2
        go_quiet (fail)
        go_wp2
        go_ret
        exact ⟨by rw [← HR.out]; first | rfl | (show Ending.returned (Value.bool (decide _)) = _; rw [decide_eq_false (by omega)]), recv_drew _ _ _⟩
  rw [if_neg h4] at hr
  have HR : Hid (false = r) := hide hr
  clear hr
  go_enter Try.func67, Try.ntmps67
  go_wp2
  go_quiet (fail)
  go_wp2
  go_ret
  exact ⟨by rw [← HR.out]; first | rfl | (show Ending.returned (Value.bool (decide _)) = _; rw [decide_eq_false (by omega)]), recv_drew _ _ _⟩
end Go.Proofs.Ytbffnamdpmjfnaa

/- What the proof stands on, part 15: the contracts of the program's calls that it reaches. -/
import Derived.Test.YtkkommomefmpgaaGreatKQ14
import Derived.Deep.RegionHeld3
import Derived.Deep.RegionLaw
/- Streams: which states may be; copies; what lies behind. -/
namespace Go.Proofs.YtkkommomefmpgaaGreat
open Go.RowKit

def Sl (W : World) (v : Value) (l : List UInt8) : Prop := ∃ a c, v = .slice a l.length c ∧ Bys W v l ∧ l.length ≤ c
theorem Sl.own {W : World} {base : Nat} {v : Value} {l : List UInt8} (h : W.ownsRow base 5 1 v l.length (l.map bv)) : Sl W v l := by
  obtain ⟨a, c, rfl⟩ := owns_slice h
  exact ⟨a, c, rfl, Bys.of_owns h, owns_cap h⟩
theorem Sl.nil {W : World} : Sl W (.slice none 0 0) [] := ⟨none, 0, rfl, .inl ⟨rfl, rfl⟩, Nat.le_refl _⟩
theorem Sl.turned {P : Nat → Prop} {W W' : World} {v : Value} {l : List UInt8} (h : Sl W v l) (hT : Turned P W W') (hS : ∀ k, v.ownBlock = some k → k < W.heap.size → ¬ P k) : Sl W' v l := by
  obtain ⟨a, c, rfl, hb, hc⟩ := h
  exact ⟨a, c, rfl, hb.turned hT hS, hc⟩
structure SIn (W : World) (P : Nat → Prop) (x : SS) (o i b : Value) : Prop where
  so : Sl W o x.out
  si : Sl W i x.inn
  sb : Sl W b x.back
  po : ∀ k, o.ownBlock = some k → P k
  pi : ∀ k, i.ownBlock = some k → P k
  pb : ∀ k, b.ownBlock = some k → P k
theorem SIn.mono {W : World} {P Q : Nat → Prop} {x : SS} {o i b : Value} (h : SIn W P x o i b) (hq : ∀ k, P k → Q k) : SIn W Q x o i b := ⟨h.so, h.si, h.sb, fun k e => hq k (h.po k e), fun k e => hq k (h.pi k e), fun k e => hq k (h.pb k e)⟩
theorem SIn.turned {P Q : Nat → Prop} {W W' : World} {x : SS} {o i b : Value} (h : SIn W P x o i b) (hT : Turned Q W W') (hS : ∀ k, P k → k < W.heap.size → ¬ Q k) : SIn W' P x o i b :=
  ⟨h.so.turned hT fun k e => hS k (h.po k e), h.si.turned hT fun k e => hS k (h.pi k e), h.sb.turned hT fun k e => hS k (h.pb k e), h.po, h.pi, h.pb⟩
theorem SIn.below {P : Nat → Prop} {W W' : World} {x : SS} {o i b : Value} (h : SIn W P x o i b) (hB : Below W.heap.size W W') : SIn W' P x o i b := h.turned (Turned.of_below (S := fun _ => False) hB) fun _ _ _ => id

theorem recv_drew (w : World) (o : Obj) (n : Nat) : Below w.heap.size w ((w.alloc o).drewN n) := ⟨rfl, rfl, rfl, (recv_below w o).size, fun k hk => (recv_below w o).block k hk⟩
theorem isMode_any (m : Int) (w : World) : Calls Tryz.prog 105 #[.int .i64 m] w fun e w' => e = .returned (.bool (decide (1 ≤ m) && decide (m ≤ 3))) ∧ w = w' := by
  generalize hr : (decide (1 ≤ m) && decide (m ≤ 3)) = r
  by_cases h1 : 1 ≤ m
  · by_cases h2 : m ≤ 3
    · skip
      have HR : Hid (true = r) := hide (by rw [← hr, decide_eq_true h1, decide_eq_true h2]; rfl)
      clear hr
      go_enter Tryz.func105, Tryz.ntmps105
      go_wp2
      go_ret
      exact ⟨by rw [← HR.out]; first | rfl | (show Ending.returned (Value.bool (decide _)) = _; rw [decide_eq_false (by omega)]), rfl⟩
    · skip
      have HR : Hid (false = r) := hide (by rw [← hr, decide_eq_true h1, decide_eq_false h2]; rfl)
      clear hr
      go_enter Tryz.func105, Tryz.ntmps105
      go_wp2
      go_ret
      exact ⟨by rw [← HR.out]; first | rfl | (show Ending.returned (Value.bool (decide _)) = _; rw [decide_eq_false (by omega)]), rfl⟩
  · skip
    have HR : Hid (false = r) := hide (by rw [← hr, decide_eq_false h1]; rfl)
    clear hr
    go_enter Tryz.func105, Tryz.ntmps105
    go_wp2
    go_ret
    exact ⟨by rw [← HR.out]; first | rfl | (show Ending.returned (Value.bool (decide _)) = _; rw [decide_eq_false (by omega)]), rfl⟩
theorem isSize_any (m : Int) (w : World) : Calls Tryz.prog 106 #[.int .i64 m] w fun e w' => e = .returned (.bool (decide (1 ≤ m) && decide (m ≤ 65536))) ∧ w = w' := by
  generalize hr : (decide (1 ≤ m) && decide (m ≤ 65536)) = r
  by_cases h1 : 1 ≤ m
  · by_cases h2 : m ≤ 65536
    · skip
      have HR : Hid (true = r) := hide (by rw [← hr, decide_eq_true h1, decide_eq_true h2]; rfl)
      clear hr
      go_enter Tryz.func106, Tryz.ntmps106
      go_wp2
      go_ret
      exact ⟨by rw [← HR.out]; first | rfl | (show Ending.returned (Value.bool (decide _)) = _; rw [decide_eq_false (by omega)]), rfl⟩
    · skip
      have HR : Hid (false = r) := hide (by rw [← hr, decide_eq_true h1, decide_eq_false h2]; rfl)
      clear hr
      go_enter Tryz.func106, Tryz.ntmps106
      go_wp2
      go_ret
      exact ⟨by rw [← HR.out]; first | rfl | (show Ending.returned (Value.bool (decide _)) = _; rw [decide_eq_false (by omega)]), rfl⟩
  · skip
    have HR : Hid (false = r) := hide (by rw [← hr, decide_eq_false h1]; rfl)
    clear hr
    go_enter Tryz.func106, Tryz.ntmps106
    go_wp2
    go_ret
    exact ⟨by rw [← HR.out]; first | rfl | (show Ending.returned (Value.bool (decide _)) = _; rw [decide_eq_false (by omega)]), rfl⟩
set_option maxRecDepth 100000 in
set_option maxHeartbeats 4000000 in
theorem bufMay_any (x : SS) (oa ia ba : Option Addr) (oc ic bc : Nat) (w : World) : Calls Tryz.prog 92 #[.agg #[.bool x.rd, .bool x.wt, .int .i64 x.mode, .int .i64 x.size, .slice oa x.out.length oc, .slice ia x.inn.length ic, .slice ba x.back.length bc, .int .i64 x.dir, .bool x.fin, .bool x.bad, .bool x.closed]] w fun e w' => e = .returned (.bool x.buf) ∧ Below w.heap.size w w' := by
  obtain ⟨rd, wt, mode, size, out, inn, back, dir, fin, bad, closed⟩ := x
  generalize hr : SS.buf ⟨rd, wt, mode, size, out, inn, back, dir, fin, bad, closed⟩ = r
  unfold SS.buf at hr
  simp only at hr ⊢
  by_cases hm : mode = 1
  · subst hm
    rw [if_pos rfl, show (decide ((1 : Int) ≤ 1) && decide ((1 : Int) ≤ 3)) = true from rfl] at hr
    cases h2 : (decide (1 ≤ size) && decide (size ≤ 65536)) with
    | false =>
      have H2 := hide h2
      rw [h2] at hr
      have HR : Hid (false = r) := hide (by rw [← hr]; rfl)
      clear hr h2
      go_enter Tryz.func92, Tryz.ntmps92
      go_wp2_with (first | (go_at_call 105; refine (isMode_any _ _).mono ?_; rintro _ _ ⟨rfl, rfl⟩; skip) | (go_at_call 106; refine (isSize_any _ _).mono ?_; rintro _ _ ⟨rfl, rfl⟩; rw [H2.out]) | fail)
      go_ret
      exact ⟨by rw [← HR.out]; first | rfl | (show Ending.returned (Value.bool (decide _)) = _; rw [decide_eq_false (by omega)]), recv_below _ _⟩
    | true =>
    have H2 := hide h2
    rw [h2] at hr
    clear h2
    rcases out with _ | ⟨c, t⟩
    · skip
      by_cases h4 : (inn.length : Int) ≤ 65536
      · by_cases h5 : (back.length : Int) ≤ 8
        · skip
          have HR : Hid (true = r) := hide (by rw [← hr, decide_eq_true (show (([] : List UInt8).length : Int) ≤ 0 from Int.le_refl _), decide_eq_true h4, decide_eq_true h5]; rfl)
          clear hr
          go_enter Tryz.func92, Tryz.ntmps92
          go_wp2_with (first | (go_at_call 105; refine (isMode_any _ _).mono ?_; rintro _ _ ⟨rfl, rfl⟩; skip) | (go_at_call 106; refine (isSize_any _ _).mono ?_; rintro _ _ ⟨rfl, rfl⟩; rw [H2.out]) | fail)
          go_ret
          exact ⟨by rw [← HR.out]; first | rfl | (show Ending.returned (Value.bool (decide _)) = _; rw [decide_eq_false (by omega)]), recv_below _ _⟩
        · skip
          have HR : Hid (false = r) := hide (by rw [← hr, decide_eq_true (show (([] : List UInt8).length : Int) ≤ 0 from Int.le_refl _), decide_eq_true h4, decide_eq_false h5]; rfl)
          clear hr
          go_enter Tryz.func92, Tryz.ntmps92
          go_wp2_with (first | (go_at_call 105; refine (isMode_any _ _).mono ?_; rintro _ _ ⟨rfl, rfl⟩; skip) | (go_at_call 106; refine (isSize_any _ _).mono ?_; rintro _ _ ⟨rfl, rfl⟩; rw [H2.out]) | fail)
          go_ret
          exact ⟨by rw [← HR.out]; first | rfl | (show Ending.returned (Value.bool (decide _)) = _; rw [decide_eq_false (by omega)]), recv_below _ _⟩
      · skip
        have HR : Hid (false = r) := hide (by rw [← hr, decide_eq_true (show (([] : List UInt8).length : Int) ≤ 0 from Int.le_refl _), decide_eq_false h4]; rfl)
        clear hr
        go_enter Tryz.func92, Tryz.ntmps92
        go_wp2_with (first | (go_at_call 105; refine (isMode_any _ _).mono ?_; rintro _ _ ⟨rfl, rfl⟩; skip) | (go_at_call 106; refine (isSize_any _ _).mono ?_; rintro _ _ ⟨rfl, rfl⟩; rw [H2.out]) | fail)
        go_ret
        exact ⟨by rw [← HR.out]; first | rfl | (show Ending.returned (Value.bool (decide _)) = _; rw [decide_eq_false (by omega)]), recv_below _ _⟩
    · have h3 : ¬ (((c :: t).length : Int) ≤ 0) := by simp only [List.length_cons]; omega
      have HR : Hid (false = r) := hide (by rw [← hr, decide_eq_false h3]; rfl)
      clear hr
      have h3' : ¬ ((t.length : Int) + 1 ≤ 0) := by omega
      go_enter Tryz.func92, Tryz.ntmps92
      go_wp2_with (first | (go_at_call 105; refine (isMode_any _ _).mono ?_; rintro _ _ ⟨rfl, rfl⟩; skip) | (go_at_call 106; refine (isSize_any _ _).mono ?_; rintro _ _ ⟨rfl, rfl⟩; rw [H2.out]) | fail)
      go_ret
      exact ⟨by rw [← HR.out]; first | rfl | (show Ending.returned (Value.bool (decide _)) = _; rw [decide_eq_false (by omega)]), recv_below _ _⟩
  · rw [if_neg hm] at hr
    cases h1 : (decide (1 ≤ mode) && decide (mode ≤ 3)) with
    | false =>
      have H1 := hide h1
      rw [h1] at hr
      have HR : Hid (false = r) := hide (by rw [← hr]; rfl)
      clear hr h1
      go_enter Tryz.func92, Tryz.ntmps92
      go_wp2_with (first | (go_at_call 105; refine (isMode_any _ _).mono ?_; rintro _ _ ⟨rfl, rfl⟩; rw [H1.out]) | (go_at_call 106; refine (isSize_any _ _).mono ?_; rintro _ _ ⟨rfl, rfl⟩; rw [H2.out]) | fail)
      go_ret
      exact ⟨by rw [← HR.out]; first | rfl | (show Ending.returned (Value.bool (decide _)) = _; rw [decide_eq_false (by omega)]), recv_below _ _⟩
    | true =>
    have H1 := hide h1
    rw [h1] at hr
    clear h1
    cases h2 : (decide (1 ≤ size) && decide (size ≤ 65536)) with
    | false =>
      have H2 := hide h2
      rw [h2] at hr
      have HR : Hid (false = r) := hide (by rw [← hr]; rfl)
      clear hr h2
      go_enter Tryz.func92, Tryz.ntmps92
      go_wp2_with (first | (go_at_call 105; refine (isMode_any _ _).mono ?_; rintro _ _ ⟨rfl, rfl⟩; rw [H1.out]) | (go_at_call 106; refine (isSize_any _ _).mono ?_; rintro _ _ ⟨rfl, rfl⟩; rw [H2.out]) | fail)
      go_ret
      exact ⟨by rw [← HR.out]; first | rfl | (show Ending.returned (Value.bool (decide _)) = _; rw [decide_eq_false (by omega)]), recv_below _ _⟩
    | true =>
    have H2 := hide h2
    rw [h2] at hr
    clear h2
    by_cases h3 : (out.length : Int) ≤ size
    · skip
      by_cases h4 : (inn.length : Int) ≤ 65536
      · by_cases h5 : (back.length : Int) ≤ 8
        · skip
          have HR : Hid (true = r) := hide (by rw [← hr, decide_eq_true h3, decide_eq_true h4, decide_eq_true h5]; rfl)
          clear hr
          go_enter Tryz.func92, Tryz.ntmps92
          go_wp2_with (first | (go_at_call 105; refine (isMode_any _ _).mono ?_; rintro _ _ ⟨rfl, rfl⟩; rw [H1.out]) | (go_at_call 106; refine (isSize_any _ _).mono ?_; rintro _ _ ⟨rfl, rfl⟩; rw [H2.out]) | fail)
          go_ret
          exact ⟨by rw [← HR.out]; first | rfl | (show Ending.returned (Value.bool (decide _)) = _; rw [decide_eq_false (by omega)]), recv_below _ _⟩
        · skip
          have HR : Hid (false = r) := hide (by rw [← hr, decide_eq_true h3, decide_eq_true h4, decide_eq_false h5]; rfl)
          clear hr
          go_enter Tryz.func92, Tryz.ntmps92
          go_wp2_with (first | (go_at_call 105; refine (isMode_any _ _).mono ?_; rintro _ _ ⟨rfl, rfl⟩; rw [H1.out]) | (go_at_call 106; refine (isSize_any _ _).mono ?_; rintro _ _ ⟨rfl, rfl⟩; rw [H2.out]) | fail)
          go_ret
          exact ⟨by rw [← HR.out]; first | rfl | (show Ending.returned (Value.bool (decide _)) = _; rw [decide_eq_false (by omega)]), recv_below _ _⟩
      · skip
        have HR : Hid (false = r) := hide (by rw [← hr, decide_eq_true h3, decide_eq_false h4]; rfl)
        clear hr
        go_enter Tryz.func92, Tryz.ntmps92
        go_wp2_with (first | (go_at_call 105; refine (isMode_any _ _).mono ?_; rintro _ _ ⟨rfl, rfl⟩; rw [H1.out]) | (go_at_call 106; refine (isSize_any _ _).mono ?_; rintro _ _ ⟨rfl, rfl⟩; rw [H2.out]) | fail)
        go_ret
        exact ⟨by rw [← HR.out]; first | rfl | (show Ending.returned (Value.bool (decide _)) = _; rw [decide_eq_false (by omega)]), recv_below _ _⟩
    · skip
      have HR : Hid (false = r) := hide (by rw [← hr, decide_eq_false h3]; rfl)
      clear hr
      go_enter Tryz.func92, Tryz.ntmps92
      go_wp2_with (first | (go_at_call 105; refine (isMode_any _ _).mono ?_; rintro _ _ ⟨rfl, rfl⟩; rw [H1.out]) | (go_at_call 106; refine (isSize_any _ _).mono ?_; rintro _ _ ⟨rfl, rfl⟩; rw [H2.out]) | fail)
      go_ret
      exact ⟨by rw [← HR.out]; first | rfl | (show Ending.returned (Value.bool (decide _)) = _; rw [decide_eq_false (by omega)]), recv_below _ _⟩
set_option maxRecDepth 100000 in
set_option maxHeartbeats 4000000 in
theorem wayMay_any (x : SS) (oa ia ba : Option Addr) (oc ic bc : Nat) (w : World) (hi : x.inn.length ≤ 140737488351232) (hb : x.back.length ≤ 140737488351232) : Calls Tryz.prog 93 #[.agg #[.bool x.rd, .bool x.wt, .int .i64 x.mode, .int .i64 x.size, .slice oa x.out.length oc, .slice ia x.inn.length ic, .slice ba x.back.length bc, .int .i64 x.dir, .bool x.fin, .bool x.bad, .bool x.closed]] w fun e w' => e = .returned (.bool x.way) ∧ Below w.heap.size w w' := by
  obtain ⟨rd, wt, mode, size, out, inn, back, dir, fin, bad, closed⟩ := x
  generalize hr : SS.way ⟨rd, wt, mode, size, out, inn, back, dir, fin, bad, closed⟩ = r
  unfold SS.way SS.toR SS.toW at hr
  simp only at hr hi hb ⊢
  by_cases h0 : dir = 0
  · subst h0
    rw [if_pos rfl] at hr
    by_cases h1 : 0 < (inn.length : Int) + (back.length : Int)
    · by_cases h2 : 0 < (out.length : Int)
      · skip
        have HR : Hid (false = r) := hide (by rw [← hr, decide_eq_true h1, decide_eq_true h2]; rfl)
        clear hr
        have q1 := decide_eq_true h1
        have q2 : decide (0 < out.length) = true := decide_eq_true (by omega)
        go_enter Tryz.func93, Tryz.ntmps93
        go_wp2
        go_quiet (fail)
        go_wp2
        go_ret
        exact ⟨by rw [← HR.out]; first | rfl | (show Ending.returned (Value.bool (decide _)) = _; rw [decide_eq_false (by omega)]), recv_drew _ _ _⟩
      · skip
        have HR : Hid (false = r) := hide (by rw [← hr, decide_eq_true h1, decide_eq_false h2]; rfl)
        clear hr
        have q1 := decide_eq_true h1
        have q2 : decide (0 < out.length) = false := decide_eq_false (by omega)
        go_enter Tryz.func93, Tryz.ntmps93
        go_wp2
        go_quiet (fail)
        go_wp2
        go_ret
        exact ⟨by rw [← HR.out]; first | rfl | (show Ending.returned (Value.bool (decide _)) = _; rw [decide_eq_false (by omega)]), recv_drew _ _ _⟩
    · by_cases h2 : 0 < (out.length : Int)
      · skip
        have HR : Hid (false = r) := hide (by rw [← hr, decide_eq_false h1, decide_eq_true h2]; rfl)
        clear hr
        have q1 := decide_eq_false h1
        have q2 : decide (0 < out.length) = true := decide_eq_true (by omega)
        go_enter Tryz.func93, Tryz.ntmps93
        go_wp2
        go_quiet (fail)
        go_wp2
        go_ret
        exact ⟨by rw [← HR.out]; first | rfl | (show Ending.returned (Value.bool (decide _)) = _; rw [decide_eq_false (by omega)]), recv_drew _ _ _⟩
      · skip
        have HR : Hid (true = r) := hide (by rw [← hr, decide_eq_false h1, decide_eq_false h2]; rfl)
        clear hr
        have q1 := decide_eq_false h1
        have q2 : decide (0 < out.length) = false := decide_eq_false (by omega)
        go_enter Tryz.func93, Tryz.ntmps93
        go_wp2
        go_quiet (fail)
        go_wp2
        go_ret
        exact ⟨by rw [← HR.out]; first | rfl | (show Ending.returned (Value.bool (decide _)) = _; rw [decide_eq_false (by omega)]), recv_drew _ _ _⟩
  rw [if_neg h0] at hr
  by_cases h3 : dir = 1
  · subst h3
    rw [if_pos rfl] at hr
    cases rd with
    | false =>
      have HR : Hid (false = r) := hide (by rw [← hr]; rfl)
      clear hr
      go_enter Tryz.func93, Tryz.ntmps93
      go_wp2
      go_quiet (fail)
      go_wp2
      go_ret
      exact ⟨by rw [← HR.out]; first | rfl | (show Ending.returned (Value.bool (decide _)) = _; rw [decide_eq_false (by omega)]), recv_drew _ _ _⟩
    | true =>
    by_cases h2 : 0 < (out.length : Int)
    · skip
      have HR : Hid (false = r) := hide (by rw [← hr, decide_eq_true h2]; rfl)
      clear hr
      have q2 : decide (0 < out.length) = true := decide_eq_true (by omega)
      go_enter Tryz.func93, Tryz.ntmps93
      go_wp2
      go_quiet (fail)
      go_wp2
      go_ret
      exact ⟨by rw [← HR.out]; first | rfl | (show Ending.returned (Value.bool (decide _)) = _; rw [decide_eq_false (by omega)]), recv_drew _ _ _⟩
    · cases closed with
      | false =>
        have HR : Hid (true = r) := hide (by rw [← hr, decide_eq_false h2]; rfl)
        clear hr
        have q2 : decide (0 < out.length) = false := decide_eq_false (by omega)
        go_enter Tryz.func93, Tryz.ntmps93
        go_wp2
        go_quiet (fail)
        go_wp2
        go_ret
        exact ⟨by rw [← HR.out]; first | rfl | (show Ending.returned (Value.bool (decide _)) = _; rw [decide_eq_false (by omega)]), recv_drew _ _ _⟩
      | true =>
        have HR : Hid (false = r) := hide (by rw [← hr, decide_eq_false h2]; rfl)
        clear hr
        have q2 : decide (0 < out.length) = false := decide_eq_false (by omega)
        go_enter Tryz.func93, Tryz.ntmps93
        go_wp2
        go_quiet (fail)
        go_wp2
        go_ret
        exact ⟨by rw [← HR.out]; first | rfl | (show Ending.returned (Value.bool (decide _)) = _; rw [decide_eq_false (by omega)]), recv_drew _ _ _⟩
  rw [if_neg h3] at hr
  by_cases h4 : dir = 2
  · subst h4
    rw [if_pos rfl] at hr
    cases wt with
    | false =>
      have HR : Hid (false = r) := hide (by rw [← hr]; rfl)
      clear hr
      go_enter Tryz.func93, Tryz.ntmps93
      go_wp2
      go_quiet (fail)
      go_wp2
      go_ret
      exact ⟨by rw [← HR.out]; first | rfl | (show Ending.returned (Value.bool (decide _)) = _; rw [decide_eq_false (by omega)]), recv_drew _ _ _⟩
    | true =>
    by_cases h1 : 0 < (inn.length : Int) + (back.length : Int)
    · skip
      have HR : Hid (false = r) := hide (by rw [← hr, decide_eq_true h1]; rfl)
      clear hr
      have q1 := decide_eq_true h1
      go_enter Tryz.func93, Tryz.ntmps93
      go_wp2
      go_quiet (fail)
      go_wp2
      go_ret
      exact ⟨by rw [← HR.out]; first | rfl | (show Ending.returned (Value.bool (decide _)) = _; rw [decide_eq_false (by omega)]), recv_drew _ _ _⟩
    · cases closed with
      | false =>
        have HR : Hid (true = r) := hide (by rw [← hr, decide_eq_false h1]; rfl)
        clear hr
        have q1 := decide_eq_false h1
        go_enter Tryz.func93, Tryz.ntmps93
        go_wp2
        go_quiet (fail)
        go_wp2
        go_ret
        exact ⟨by rw [← HR.out]; first | rfl | (show Ending.returned (Value.bool (decide _)) = _; rw [decide_eq_false (by omega)]), recv_drew _ _ _⟩
      | true =>
        have HR : Hid (false = r) := hide (by rw [← hr, decide_eq_false h1]; rfl)
        clear hr
        have q1 := decide_eq_false h1
        go_enter Tryz.func93, Tryz.ntmps93
        go_wp2
        go_quiet (fail)
        go_wp2
        go_ret
        exact ⟨by rw [← HR.out]; first | rfl | (show Ending.returned (Value.bool (decide _)) = _; rw [decide_eq_false (by omega)]), recv_drew _ _ _⟩
  rw [if_neg h4] at hr
  have HR : Hid (false = r) := hide hr
  clear hr
  go_enter Tryz.func93, Tryz.ntmps93
  go_wp2
  go_quiet (fail)
  go_wp2
  go_ret
  exact ⟨by rw [← HR.out]; first | rfl | (show Ending.returned (Value.bool (decide _)) = _; rw [decide_eq_false (by omega)]), recv_drew _ _ _⟩
end Go.Proofs.YtkkommomefmpgaaGreat

/- Streams: Check, refusal, copies. -/
namespace Go.Proofs.YtkkommomefmpgaaGreat
open Go.RowKit

def StAt (W : World) (g : Nat) (x : SS) (o i b : Value) : Prop := W.heap[g]? = some (.cells #[.bool x.rd, .bool x.wt, .int .i64 x.mode, .int .i64 x.size, o, i, b, .int .i64 x.dir, .bool x.fin, .bool x.bad, .bool x.closed] 58)
theorem StAt.cs {W : World} {g : Nat} {x : SS} {o i b : Value} (h : StAt W g x o i b) : W.cell? ⟨g, 0, none⟩ = some (.bool x.rd) ∧ W.cell? ⟨g, 1, none⟩ = some (.bool x.wt) ∧ W.cell? ⟨g, 2, none⟩ = some (.int .i64 x.mode) ∧ W.cell? ⟨g, 3, none⟩ = some (.int .i64 x.size) ∧ W.cell? ⟨g, 4, none⟩ = some (o) ∧ W.cell? ⟨g, 5, none⟩ = some (i) ∧ W.cell? ⟨g, 6, none⟩ = some (b) ∧ W.cell? ⟨g, 7, none⟩ = some (.int .i64 x.dir) ∧ W.cell? ⟨g, 8, none⟩ = some (.bool x.fin) ∧ W.cell? ⟨g, 9, none⟩ = some (.bool x.bad) ∧ W.cell? ⟨g, 10, none⟩ = some (.bool x.closed) :=
  ⟨cell_of_row W g 0 _ _ _ h, cell_of_row W g 1 _ _ _ h, cell_of_row W g 2 _ _ _ h, cell_of_row W g 3 _ _ _ h, cell_of_row W g 4 _ _ _ h, cell_of_row W g 5 _ _ _ h, cell_of_row W g 6 _ _ _ h, cell_of_row W g 7 _ _ _ h, cell_of_row W g 8 _ _ _ h, cell_of_row W g 9 _ _ _ h, cell_of_row W g 10 _ _ _ h⟩
theorem StAt.new (w : World) (x : SS) (o i b : Value) : StAt (w.alloc (Obj.cells #[.bool x.rd, .bool x.wt, .int .i64 x.mode, .int .i64 x.size, o, i, b, .int .i64 x.dir, .bool x.fin, .bool x.bad, .bool x.closed] 58)) w.heap.size x o i b := heap_alloc_new w _
theorem StAt.below {W W' : World} {g : Nat} {x : SS} {o i b : Value} (h : StAt W g x o i b) (hB : Below W.heap.size W W') : StAt W' g x o i b := (hB.block g (Array.getElem?_eq_some_iff.1 h).1).trans h
set_option maxRecDepth 100000 in
set_option maxHeartbeats 400000 in
theorem scheck_any (x : SS) (oa ia ba : Option Addr) (oc ic bc : Nat) (w : World) (hi : x.inn.length ≤ 140737488351232) (hb : x.back.length ≤ 140737488351232) : Calls Tryz.prog 20 #[.agg #[.bool x.rd, .bool x.wt, .int .i64 x.mode, .int .i64 x.size, .slice oa x.out.length oc, .slice ia x.inn.length ic, .slice ba x.back.length bc, .int .i64 x.dir, .bool x.fin, .bool x.bad, .bool x.closed]] w fun e w' => e = .returned (.int .i64 (if x.may = true then 0 else 51)) ∧ Below w.heap.size w w' := by
  have HB := hide (bufMay_any x oa ia ba oc ic bc)
  have HW := hide (fun W => wayMay_any x oa ia ba oc ic bc W hi hb)
  generalize hr : (if x.may = true then (0 : Int) else 51) = r
  unfold SS.may at hr
  cases h1 : x.buf with
  | false =>
    have H1 := hide h1
    have HR : Hid (51 = r) := hide (by rw [← hr, h1]; rfl)
    clear hr h1
    go_enter Tryz.func20, Tryz.ntmps20
    go_wp2_with fail
    have HB0 := hide (recv_below w (Obj.cells #[.bool x.rd, .bool x.wt, .int .i64 x.mode, .int .i64 x.size, .slice oa x.out.length oc, .slice ia x.inn.length ic, .slice ba x.back.length bc, .int .i64 x.dir, .bool x.fin, .bool x.bad, .bool x.closed] 58))
    have HS0 := hide (StAt.new w x (.slice oa x.out.length oc) (.slice ia x.inn.length ic) (.slice ba x.back.length bc))
    generalize w.alloc (Obj.cells #[.bool x.rd, .bool x.wt, .int .i64 x.mode, .int .i64 x.size, .slice oa x.out.length oc, .slice ia x.inn.length ic, .slice ba x.back.length bc, .int .i64 x.dir, .bool x.fin, .bool x.bad, .bool x.closed] 58) = w0 at *
    refine (HB.out w0).mono ?_
    rintro _ w1 ⟨rfl, hB1⟩
    rw [H1.out]
    have HB1 := hide (HB0.out.trans (hB1.mono HB0.out.size))
    clear hB1
    go_wp2
    go_ret
    exact ⟨by rw [← HR.out]; rfl, HB1.out⟩
  | true =>
  cases h2 : x.way with
  | false =>
    have H1 := hide h1
    have H2 := hide h2
    have HR : Hid (51 = r) := hide (by rw [← hr, h1, h2]; rfl)
    clear hr h1 h2
    go_enter Tryz.func20, Tryz.ntmps20
    go_wp2_with fail
    have HB0 := hide (recv_below w (Obj.cells #[.bool x.rd, .bool x.wt, .int .i64 x.mode, .int .i64 x.size, .slice oa x.out.length oc, .slice ia x.inn.length ic, .slice ba x.back.length bc, .int .i64 x.dir, .bool x.fin, .bool x.bad, .bool x.closed] 58))
    have HS0 := hide (StAt.new w x (.slice oa x.out.length oc) (.slice ia x.inn.length ic) (.slice ba x.back.length bc))
    generalize w.alloc (Obj.cells #[.bool x.rd, .bool x.wt, .int .i64 x.mode, .int .i64 x.size, .slice oa x.out.length oc, .slice ia x.inn.length ic, .slice ba x.back.length bc, .int .i64 x.dir, .bool x.fin, .bool x.bad, .bool x.closed] 58) = w0 at *
    refine (HB.out w0).mono ?_
    rintro _ w1 ⟨rfl, hB1⟩
    rw [H1.out]
    have HS1 := hide (HS0.out.below hB1)
    obtain ⟨c0, c1, c2, c3, c4, c5, c6, c7, c8, c9, c10⟩ := HS1.out.cs
    have HB1 := hide (HB0.out.trans (hB1.mono HB0.out.size))
    clear hB1
    go_wp2_with fail
    refine (HW.out w1).mono ?_
    rintro _ w2 ⟨rfl, hB2⟩
    rw [H2.out]
    have HB2 := hide (HB1.out.trans (hB2.mono HB1.out.size))
    clear hB2 c0 c1 c2 c3 c4 c5 c6 c7 c8 c9 c10
    go_wp2
    go_ret
    exact ⟨by rw [← HR.out]; rfl, HB2.out⟩
  | true =>
    have H1 := hide h1
    have H2 := hide h2
    have HR : Hid (0 = r) := hide (by rw [← hr, h1, h2]; rfl)
    clear hr h1 h2
    go_enter Tryz.func20, Tryz.ntmps20
    go_wp2_with fail
    have HB0 := hide (recv_below w (Obj.cells #[.bool x.rd, .bool x.wt, .int .i64 x.mode, .int .i64 x.size, .slice oa x.out.length oc, .slice ia x.inn.length ic, .slice ba x.back.length bc, .int .i64 x.dir, .bool x.fin, .bool x.bad, .bool x.closed] 58))
    have HS0 := hide (StAt.new w x (.slice oa x.out.length oc) (.slice ia x.inn.length ic) (.slice ba x.back.length bc))
    generalize w.alloc (Obj.cells #[.bool x.rd, .bool x.wt, .int .i64 x.mode, .int .i64 x.size, .slice oa x.out.length oc, .slice ia x.inn.length ic, .slice ba x.back.length bc, .int .i64 x.dir, .bool x.fin, .bool x.bad, .bool x.closed] 58) = w0 at *
    refine (HB.out w0).mono ?_
    rintro _ w1 ⟨rfl, hB1⟩
    rw [H1.out]
    have HS1 := hide (HS0.out.below hB1)
    obtain ⟨c0, c1, c2, c3, c4, c5, c6, c7, c8, c9, c10⟩ := HS1.out.cs
    have HB1 := hide (HB0.out.trans (hB1.mono HB0.out.size))
    clear hB1
    go_wp2_with fail
    refine (HW.out w1).mono ?_
    rintro _ w2 ⟨rfl, hB2⟩
    rw [H2.out]
    have HB2 := hide (HB1.out.trans (hB2.mono HB1.out.size))
    clear hB2 c0 c1 c2 c3 c4 c5 c6 c7 c8 c9 c10
    go_wp2
    go_ret
    exact ⟨by rw [← HR.out]; rfl, HB2.out⟩
set_option maxRecDepth 100000 in
set_option maxHeartbeats 400000 in
theorem srefusal_any (x : SS) (hr : Bool) (oa ia ba : Option Addr) (oc ic bc : Nat) (w : World) (hi : x.inn.length ≤ 140737488351232) (hb : x.back.length ≤ 140737488351232) : Calls Tryz.prog 180 #[.agg #[.bool x.rd, .bool x.wt, .int .i64 x.mode, .int .i64 x.size, .slice oa x.out.length oc, .slice ia x.inn.length ic, .slice ba x.back.length bc, .int .i64 x.dir, .bool x.fin, .bool x.bad, .bool x.closed], .bool hr] w fun e w' => e = .returned (.int .i64 (x.refuse hr)) ∧ Below w.heap.size w w' := by
  have HC := hide (fun W => scheck_any x oa ia ba oc ic bc W hi hb)
  generalize hq : x.refuse hr = r
  unfold SS.refuse at hq
  cases hm : x.may with
  | false =>
    have HM : Hid ((if x.may = true then (0 : Int) else 51) = 51) := hide (by rw [hm]; rfl)
    have HR : Hid (51 = r) := hide (by rw [← hq, hm]; rfl)
    clear hq hm
    go_enter Tryz.func180, Tryz.ntmps180
    go_wp2_with fail
    have HB0 := hide (recv_below w (Obj.cells #[.bool x.rd, .bool x.wt, .int .i64 x.mode, .int .i64 x.size, .slice oa x.out.length oc, .slice ia x.inn.length ic, .slice ba x.back.length bc, .int .i64 x.dir, .bool x.fin, .bool x.bad, .bool x.closed] 58))
    have HS0 := hide (StAt.new w x (.slice oa x.out.length oc) (.slice ia x.inn.length ic) (.slice ba x.back.length bc))
    generalize w.alloc (Obj.cells #[.bool x.rd, .bool x.wt, .int .i64 x.mode, .int .i64 x.size, .slice oa x.out.length oc, .slice ia x.inn.length ic, .slice ba x.back.length bc, .int .i64 x.dir, .bool x.fin, .bool x.bad, .bool x.closed] 58) = w0 at *
    refine (HC.out w0).mono ?_
    rintro _ w1 ⟨rfl, hB1⟩
    rw [HM.out]
    have HS1 := hide (HS0.out.below hB1)
    obtain ⟨c0, c1, c2, c3, c4, c5, c6, c7, c8, c9, c10⟩ := HS1.out.cs
    have HB1 := hide (HB0.out.trans (hB1.mono HB0.out.size))
    clear hB1
    go_wp2
    go_ret
    exact ⟨by rw [← HR.out]; rfl, HB1.out⟩
  | true =>
  rw [hm] at hq
  have HM : Hid ((if x.may = true then (0 : Int) else 51) = 0) := hide (by rw [hm]; rfl)
  cases hr with
  | false =>
    have HR : Hid (2 = r) := hide hq
    clear hq hm
    go_enter Tryz.func180, Tryz.ntmps180
    go_wp2_with fail
    have HB0 := hide (recv_below w (Obj.cells #[.bool x.rd, .bool x.wt, .int .i64 x.mode, .int .i64 x.size, .slice oa x.out.length oc, .slice ia x.inn.length ic, .slice ba x.back.length bc, .int .i64 x.dir, .bool x.fin, .bool x.bad, .bool x.closed] 58))
    have HS0 := hide (StAt.new w x (.slice oa x.out.length oc) (.slice ia x.inn.length ic) (.slice ba x.back.length bc))
    generalize w.alloc (Obj.cells #[.bool x.rd, .bool x.wt, .int .i64 x.mode, .int .i64 x.size, .slice oa x.out.length oc, .slice ia x.inn.length ic, .slice ba x.back.length bc, .int .i64 x.dir, .bool x.fin, .bool x.bad, .bool x.closed] 58) = w0 at *
    refine (HC.out w0).mono ?_
    rintro _ w1 ⟨rfl, hB1⟩
    rw [HM.out]
    have HS1 := hide (HS0.out.below hB1)
    obtain ⟨c0, c1, c2, c3, c4, c5, c6, c7, c8, c9, c10⟩ := HS1.out.cs
    have HB1 := hide (HB0.out.trans (hB1.mono HB0.out.size))
    clear hB1
    go_wp2
    go_ret
    exact ⟨by rw [← HR.out]; rfl, HB1.out⟩
  | true =>
  rcases Bool.eq_false_or_eq_true x.closed with hcl | hcl
  · skip
    have HR : Hid (113 = r) := hide (by rw [← hq, hcl]; rfl)
    have HCl := hide hcl
    clear hq hm hcl
    go_enter Tryz.func180, Tryz.ntmps180
    go_wp2_with fail
    have HB0 := hide (recv_below w (Obj.cells #[.bool x.rd, .bool x.wt, .int .i64 x.mode, .int .i64 x.size, .slice oa x.out.length oc, .slice ia x.inn.length ic, .slice ba x.back.length bc, .int .i64 x.dir, .bool x.fin, .bool x.bad, .bool x.closed] 58))
    have HS0 := hide (StAt.new w x (.slice oa x.out.length oc) (.slice ia x.inn.length ic) (.slice ba x.back.length bc))
    generalize w.alloc (Obj.cells #[.bool x.rd, .bool x.wt, .int .i64 x.mode, .int .i64 x.size, .slice oa x.out.length oc, .slice ia x.inn.length ic, .slice ba x.back.length bc, .int .i64 x.dir, .bool x.fin, .bool x.bad, .bool x.closed] 58) = w0 at *
    refine (HC.out w0).mono ?_
    rintro _ w1 ⟨rfl, hB1⟩
    rw [HM.out]
    have HS1 := hide (HS0.out.below hB1)
    obtain ⟨c0, c1, c2, c3, c4, c5, c6, c7, c8, c9, c10⟩ := HS1.out.cs
    rw [HCl.out] at c10
    have HB1 := hide (HB0.out.trans (hB1.mono HB0.out.size))
    clear hB1
    go_wp2
    go_ret
    exact ⟨by rw [← HR.out]; rfl, HB1.out⟩
  · skip
    have HR : Hid (0 = r) := hide (by rw [← hq, hcl]; rfl)
    have HCl := hide hcl
    clear hq hm hcl
    go_enter Tryz.func180, Tryz.ntmps180
    go_wp2_with fail
    have HB0 := hide (recv_below w (Obj.cells #[.bool x.rd, .bool x.wt, .int .i64 x.mode, .int .i64 x.size, .slice oa x.out.length oc, .slice ia x.inn.length ic, .slice ba x.back.length bc, .int .i64 x.dir, .bool x.fin, .bool x.bad, .bool x.closed] 58))
    have HS0 := hide (StAt.new w x (.slice oa x.out.length oc) (.slice ia x.inn.length ic) (.slice ba x.back.length bc))
    generalize w.alloc (Obj.cells #[.bool x.rd, .bool x.wt, .int .i64 x.mode, .int .i64 x.size, .slice oa x.out.length oc, .slice ia x.inn.length ic, .slice ba x.back.length bc, .int .i64 x.dir, .bool x.fin, .bool x.bad, .bool x.closed] 58) = w0 at *
    refine (HC.out w0).mono ?_
    rintro _ w1 ⟨rfl, hB1⟩
    rw [HM.out]
    have HS1 := hide (HS0.out.below hB1)
    obtain ⟨c0, c1, c2, c3, c4, c5, c6, c7, c8, c9, c10⟩ := HS1.out.cs
    rw [HCl.out] at c10
    have HB1 := hide (HB0.out.trans (hB1.mono HB0.out.size))
    clear hB1
    go_wp2
    go_ret
    exact ⟨by rw [← HR.out]; rfl, HB1.out⟩
set_option maxRecDepth 100000 in
set_option maxHeartbeats 1000000 in
theorem behind_any (l : List UInt8) (v : Value) (n : Nat) (w : World) (h : Sl w v l) (hn : n ≤ l.length) : Calls Tryz.prog 211 #[v, .int .i64 n] w fun e w' => ∃ u, e = .returned u ∧ Sl w u (l.drop n) ∧ (∀ k, u.ownBlock = some k → v.ownBlock = some k) ∧ (n = l.length → u = .slice none 0 0) ∧ w = w' := by
  obtain ⟨a, c, rfl, hb, hc⟩ := h
  by_cases he : n = l.length
  · subst he
    clear hb
    go_enter Tryz.func211, Tryz.ntmps211
    go_wp2
    go_ret
    exact ⟨.slice none 0 0, rfl, by rw [List.drop_length]; exact Sl.nil, by intro k e; simp [Value.ownBlock] at e, fun _ => rfl, rfl⟩
  · obtain ⟨-, b, off, rfl, -⟩ := bys_block hb (by omega)
    have HB := hide hb
    clear hb
    have h1 : ¬ (n : Int) = (l.length : Int) := by omega
    have h2 : (n : Int) ≤ (l.length : Int) := by omega
    have h3 : (l.length : Int) ≤ (c : Int) := by omega
    have h4 : (n : Int) < (c : Int) := by omega
    have h5 : ¬ c = n := by omega
    go_enter Tryz.func211, Tryz.ntmps211
    go_wp2
    go_ret
    refine ⟨.slice (some ⟨b, off + n, none⟩) (l.length - n) (c - n), rfl, ?_, fun k e => e, fun e => absurd e he, rfl⟩
    have := bys_cut HB.out n (l.length - n) (c - n) (by omega)
    rw [List.take_of_length_le (by rw [List.length_drop]; exact Nat.le_refl _)] at this
    exact ⟨_, _, by rw [List.length_drop], this, by rw [List.length_drop]; omega⟩
end Go.Proofs.YtkkommomefmpgaaGreat

/- Position: why a call is refused; sums of places; a Raw's place is set. -/
namespace Go.Proofs.YtkkommomefmpgaaGreat
open Go.RowKit

theorem plus_eq (a b : Int) (ha : -9223372036854775808 ≤ a ∧ a ≤ 9223372036854775807) (hb : -9223372036854775808 ≤ b ∧ b ≤ 9223372036854775807) : (decide (wrap64 (a + b) < a) == decide (b < 0)) = decide (-9223372036854775808 ≤ a + b ∧ a + b ≤ 9223372036854775807) := by
  by_cases h1 : a + b < -9223372036854775808
  · have e : wrap64 (a + b) = a + b + 18446744073709551616 := by unfold wrap64; omega
    rw [e, decide_eq_false (by omega : ¬ (a + b + 18446744073709551616 < a)), decide_eq_true (by omega : b < 0), decide_eq_false (by omega)]
    rfl
  by_cases h2 : 9223372036854775807 < a + b
  · have e : wrap64 (a + b) = a + b - 18446744073709551616 := by unfold wrap64; omega
    rw [e, decide_eq_true (by omega : a + b - 18446744073709551616 < a), decide_eq_false (by omega : ¬ b < 0), decide_eq_false (by omega)]
    rfl
  have e : wrap64 (a + b) = a + b := by unfold wrap64; omega
  rw [e, decide_eq_true (by omega : -9223372036854775808 ≤ a + b ∧ a + b ≤ 9223372036854775807)]
  by_cases h3 : b < 0
  · rw [decide_eq_true (by omega : a + b < a), decide_eq_true h3]; rfl
  · rw [decide_eq_false (by omega : ¬ a + b < a), decide_eq_false h3]; rfl
theorem plus_any (a b : Int) (w : World) (ha : -9223372036854775808 ≤ a ∧ a ≤ 9223372036854775807) (hb : -9223372036854775808 ≤ b ∧ b ≤ 9223372036854775807) : Calls Tryz.prog 215 #[.int .i64 a, .int .i64 b] w fun e w' => e = .returned (.tuple #[.int .i64 (wrap64 (a + b)), .bool (decide (-9223372036854775808 ≤ a + b ∧ a + b ≤ 9223372036854775807))]) ∧ w = w' := by
  have HE := hide (plus_eq a b ha hb)
  clear ha hb
  generalize decide (-9223372036854775808 ≤ a + b ∧ a + b ≤ 9223372036854775807) = q at *
  go_enter Tryz.func215, Tryz.ntmps215
  go_wp2
  go_ret2
  exact ⟨by rw [← HE.out]; rfl, rfl⟩
def placeV (at' n off : Int) : Int × Int := if 0 ≤ at' - n + off ∧ at' - n + off ≤ 1048576 then (at' - n + off, 0) else (0, 4)
set_option maxHeartbeats 4000000 in
theorem placeOf_any (p n off : Int) (w : World) (hp : 0 ≤ p ∧ p ≤ 1048576) (hn : 0 ≤ n ∧ n ≤ 1000000000000000) (ho : -9223372036854775808 ≤ off ∧ off ≤ 9223372036854775807) : Calls Tryz.prog 186 #[.int .i64 p, .int .i64 n, .int .i64 off] w fun e w' => e = .returned (.tuple #[.int .i64 (placeV p n off).1, .int .i64 (placeV p n off).2]) ∧ w = w' := by
  have hw1 : wrap64 (p + -n) = p - n := by unfold wrap64; omega
  have hw0 : wrap64 (-n) = -n := by unfold wrap64; omega
  have h1 := fun W => plus_any p (-n) W (by omega) (by omega)
  have h2 := fun W => plus_any (p - n) off W (by omega) ho
  rw [hw1, decide_eq_true (by omega)] at h1
  have H1 := hide h1
  clear h1 hw1
  obtain ⟨t, ht⟩ : ∃ t, t = p - n := ⟨_, rfl⟩
  rw [← ht] at h2 H1
  obtain ⟨z, hz⟩ : ∃ z, z = placeV p n off := ⟨_, rfl⟩
  rw [← hz]
  have hz2 : z = if 0 ≤ t + off ∧ t + off ≤ 1048576 then (t + off, 0) else (0, 4) := by rw [hz, ht]; rfl
  have htb : -1000000000000000 ≤ t ∧ t ≤ 1048576 := by omega
  clear hz ht hn hp
  by_cases hf : -9223372036854775808 ≤ t + off ∧ t + off ≤ 9223372036854775807
  · rw [decide_eq_true hf, show wrap64 (t + off) = t + off by unfold wrap64; omega] at h2
    generalize t + off = q at *
    have H2 := hide h2
    clear h2 htb ho hf
    by_cases hq0 : q < 0
    · have HZ : Hid (z = (0, 4)) := hide (by rw [hz2, if_neg (by omega)])
      clear hz2
      go_enter Tryz.func186, Tryz.ntmps186
      go_wp2_with fail
      refine (H1.out _).mono ?_
      rintro _ _ ⟨rfl, rfl⟩
      go_wp2_with fail
      refine (H2.out _).mono ?_
      rintro _ _ ⟨rfl, rfl⟩
      go_wp2
      go_ret2
      exact ⟨by rw [HZ.out]; rfl, rfl⟩
    by_cases hq1 : 1048576 < q
    · have HZ : Hid (z = (0, 4)) := hide (by rw [hz2, if_neg (by omega)])
      clear hz2
      go_enter Tryz.func186, Tryz.ntmps186
      go_wp2_with fail
      refine (H1.out _).mono ?_
      rintro _ _ ⟨rfl, rfl⟩
      go_wp2_with fail
      refine (H2.out _).mono ?_
      rintro _ _ ⟨rfl, rfl⟩
      go_wp2
      go_ret2
      exact ⟨by rw [HZ.out]; rfl, rfl⟩
    have HZ : Hid (z = (q, 0)) := hide (by rw [hz2, if_pos (by omega)])
    clear hz2
    go_enter Tryz.func186, Tryz.ntmps186
    go_wp2_with fail
    refine (H1.out _).mono ?_
    rintro _ _ ⟨rfl, rfl⟩
    go_wp2_with fail
    refine (H2.out _).mono ?_
    rintro _ _ ⟨rfl, rfl⟩
    go_wp2
    go_ret2
    exact ⟨by rw [HZ.out]; rfl, rfl⟩
  · rw [decide_eq_false hf] at h2
    have HZ : Hid (z = (0, 4)) := hide (by rw [hz2, if_neg (by omega)])
    generalize wrap64 (t + off) = q at *
    have H2 := hide h2
    clear h2 htb ho hf hz2
    go_enter Tryz.func186, Tryz.ntmps186
    go_wp2_with fail
    refine (H1.out _).mono ?_
    rintro _ _ ⟨rfl, rfl⟩
    go_wp2_with fail
    refine (H2.out _).mono ?_
    rintro _ _ ⟨rfl, rfl⟩
    go_wp2
    go_ret2
    exact ⟨by rw [HZ.out]; rfl, rfl⟩
set_option maxRecDepth 100000 in
set_option maxHeartbeats 1000000 in
theorem prefusal14 (x : SS) (oa ia ba : Option Addr) (oc ic bc : Nat) (T : TypeId) (v : Value) (w : World) (hi : x.inn.length ≤ 140737488351232) (hb : x.back.length ≤ 140737488351232) :
    Calls Tryz.prog 116 #[.agg #[.bool x.rd, .bool x.wt, .int .i64 x.mode, .int .i64 x.size, .slice oa x.out.length oc, .slice ia x.inn.length ic, .slice ba x.back.length bc, .int .i64 x.dir, .bool x.fin, .bool x.bad, .bool x.closed], .iface T v] w fun e w' => e = .returned (.int .i64 (x.refuse true)) ∧ Below w.heap.size w w' := by
  have HC := hide (fun W => scheck_any x oa ia ba oc ic bc W hi hb)
  generalize hr : x.refuse true = r
  unfold SS.refuse at hr
  cases h1 : x.may with
  | false =>
    rw [h1] at HC
    simp only [Bool.false_eq_true, if_false] at HC
    have HR : Hid (51 = r) := hide (by rw [← hr, h1]; rfl)
    clear hr h1
    go_enter Tryz.func116, Tryz.ntmps116
    go_wp2_with fail
    have HB0 := hide (recv_below w (Obj.cells #[.bool x.rd, .bool x.wt, .int .i64 x.mode, .int .i64 x.size, .slice oa x.out.length oc, .slice ia x.inn.length ic, .slice ba x.back.length bc, .int .i64 x.dir, .bool x.fin, .bool x.bad, .bool x.closed] 58))
    have HS0 := hide (StAt.new w x (.slice oa x.out.length oc) (.slice ia x.inn.length ic) (.slice ba x.back.length bc))
    generalize w.alloc (Obj.cells #[.bool x.rd, .bool x.wt, .int .i64 x.mode, .int .i64 x.size, .slice oa x.out.length oc, .slice ia x.inn.length ic, .slice ba x.back.length bc, .int .i64 x.dir, .bool x.fin, .bool x.bad, .bool x.closed] 58) = w0 at *
    refine (HC.out w0).mono ?_
    rintro _ w1 ⟨rfl, hB1⟩
    have HS1 := hide (HS0.out.below hB1)
    obtain ⟨-, -, -, -, -, -, -, -, -, -, c10⟩ := HS1.out.cs

    have HB1 := hide (HB0.out.trans (hB1.mono HB0.out.size))
    clear hB1
    go_wp2
    go_ret
    exact ⟨by rw [← HR.out]; rfl, HB1.out⟩
  | true =>
    rw [h1] at HC
    simp only [if_true] at HC
    rcases Bool.eq_false_or_eq_true x.closed with h2 | h2
    · skip
      have HR : Hid (113 = r) := hide (by rw [← hr, h1, h2]; rfl)
      have H2 := hide h2
      clear hr h1 h2
      go_enter Tryz.func116, Tryz.ntmps116
      go_wp2_with fail
      have HB0 := hide (recv_below w (Obj.cells #[.bool x.rd, .bool x.wt, .int .i64 x.mode, .int .i64 x.size, .slice oa x.out.length oc, .slice ia x.inn.length ic, .slice ba x.back.length bc, .int .i64 x.dir, .bool x.fin, .bool x.bad, .bool x.closed] 58))
      have HS0 := hide (StAt.new w x (.slice oa x.out.length oc) (.slice ia x.inn.length ic) (.slice ba x.back.length bc))
      generalize w.alloc (Obj.cells #[.bool x.rd, .bool x.wt, .int .i64 x.mode, .int .i64 x.size, .slice oa x.out.length oc, .slice ia x.inn.length ic, .slice ba x.back.length bc, .int .i64 x.dir, .bool x.fin, .bool x.bad, .bool x.closed] 58) = w0 at *
      refine (HC.out w0).mono ?_
      rintro _ w1 ⟨rfl, hB1⟩
      have HS1 := hide (HS0.out.below hB1)
      obtain ⟨-, -, -, -, -, -, -, -, -, -, c10⟩ := HS1.out.cs
      rw [H2.out] at c10
      have HB1 := hide (HB0.out.trans (hB1.mono HB0.out.size))
      clear hB1
      go_wp2
      go_ret
      exact ⟨by rw [← HR.out]; rfl, HB1.out⟩
    · skip
      have HR : Hid (0 = r) := hide (by rw [← hr, h1, h2]; rfl)
      have H2 := hide h2
      clear hr h1 h2
      go_enter Tryz.func116, Tryz.ntmps116
      go_wp2_with fail
      have HB0 := hide (recv_below w (Obj.cells #[.bool x.rd, .bool x.wt, .int .i64 x.mode, .int .i64 x.size, .slice oa x.out.length oc, .slice ia x.inn.length ic, .slice ba x.back.length bc, .int .i64 x.dir, .bool x.fin, .bool x.bad, .bool x.closed] 58))
      have HS0 := hide (StAt.new w x (.slice oa x.out.length oc) (.slice ia x.inn.length ic) (.slice ba x.back.length bc))
      generalize w.alloc (Obj.cells #[.bool x.rd, .bool x.wt, .int .i64 x.mode, .int .i64 x.size, .slice oa x.out.length oc, .slice ia x.inn.length ic, .slice ba x.back.length bc, .int .i64 x.dir, .bool x.fin, .bool x.bad, .bool x.closed] 58) = w0 at *
      refine (HC.out w0).mono ?_
      rintro _ w1 ⟨rfl, hB1⟩
      have HS1 := hide (HS0.out.below hB1)
      obtain ⟨-, -, -, -, -, -, -, -, -, -, c10⟩ := HS1.out.cs
      rw [H2.out] at c10
      have HB1 := hide (HB0.out.trans (hB1.mono HB0.out.size))
      clear hB1
      go_wp2
      go_ret
      exact ⟨by rw [← HR.out]; rfl, HB1.out⟩
def SS.srefuse (x : SS) (hr : Bool) (wh : Int) : Int := if x.refuse hr ≠ 0 then x.refuse hr else if wh < 0 ∨ 2 < wh then 1 else 0
set_option maxRecDepth 100000 in
set_option maxHeartbeats 1000000 in
theorem seekRefusal_any (x : SS) (oa ia ba : Option Addr) (oc ic bc : Nat) (T : TypeId) (v : Value) (wh : Int) (w : World) (hi : x.inn.length ≤ 140737488351232) (hb : x.back.length ≤ 140737488351232) :
    Calls Tryz.prog 107 #[.agg #[.bool x.rd, .bool x.wt, .int .i64 x.mode, .int .i64 x.size, .slice oa x.out.length oc, .slice ia x.inn.length ic, .slice ba x.back.length bc, .int .i64 x.dir, .bool x.fin, .bool x.bad, .bool x.closed], .iface T v, .int .i64 wh] w fun e w' => e = .returned (.int .i64 (x.srefuse true wh)) ∧ Below w.heap.size w w' := by
  have HC := hide (fun W => prefusal14 x oa ia ba oc ic bc T v W hi hb)
  generalize hr : x.srefuse true wh = r
  unfold SS.srefuse at hr
  obtain ⟨rf, hrf⟩ : ∃ rf, rf = x.refuse true := ⟨_, rfl⟩
  rw [← hrf] at HC hr
  clear hrf
  by_cases h0 : rf = 0
  case neg =>
    have HR : Hid (rf = r) := hide (by rw [← hr, if_pos h0])
    have hb1 : (rf == 0) = false := by simp [h0]
    have hb2 : (rf != 0) = true := by simp [h0]
    clear hr h0
    go_enter Tryz.func107, Tryz.ntmps107
    go_wp2_with fail
    refine (HC.out _).mono ?_
    rintro _ w1 ⟨rfl, hB1⟩
    have HB1 := hide ((recv_below w (Obj.cells #[.bool x.rd, .bool x.wt, .int .i64 x.mode, .int .i64 x.size, .slice oa x.out.length oc, .slice ia x.inn.length ic, .slice ba x.back.length bc, .int .i64 x.dir, .bool x.fin, .bool x.bad, .bool x.closed] 58)).trans (hB1.mono (recv_below w (Obj.cells #[.bool x.rd, .bool x.wt, .int .i64 x.mode, .int .i64 x.size, .slice oa x.out.length oc, .slice ia x.inn.length ic, .slice ba x.back.length bc, .int .i64 x.dir, .bool x.fin, .bool x.bad, .bool x.closed] 58)).size))
    clear hB1
    go_wp2
    go_ret
    exact ⟨by rw [← HR.out]; rfl, HB1.out⟩
  subst h0
  rw [if_neg (by simp)] at hr
  by_cases h1 : wh < 0
  · skip
    have HR : Hid (1 = r) := hide (by rw [← hr, if_pos (.inl h1)])
    clear hr
    go_enter Tryz.func107, Tryz.ntmps107
    go_wp2_with fail
    refine (HC.out _).mono ?_
    rintro _ w1 ⟨rfl, hB1⟩
    have HB1 := hide ((recv_below w (Obj.cells #[.bool x.rd, .bool x.wt, .int .i64 x.mode, .int .i64 x.size, .slice oa x.out.length oc, .slice ia x.inn.length ic, .slice ba x.back.length bc, .int .i64 x.dir, .bool x.fin, .bool x.bad, .bool x.closed] 58)).trans (hB1.mono (recv_below w (Obj.cells #[.bool x.rd, .bool x.wt, .int .i64 x.mode, .int .i64 x.size, .slice oa x.out.length oc, .slice ia x.inn.length ic, .slice ba x.back.length bc, .int .i64 x.dir, .bool x.fin, .bool x.bad, .bool x.closed] 58)).size))
    clear hB1
    go_wp2
    go_ret
    exact ⟨by rw [← HR.out]; rfl, HB1.out⟩
  by_cases h2 : 2 < wh
  · skip
    have HR : Hid (1 = r) := hide (by rw [← hr, if_pos (.inr h2)])
    clear hr
    go_enter Tryz.func107, Tryz.ntmps107
    go_wp2_with fail
    refine (HC.out _).mono ?_
    rintro _ w1 ⟨rfl, hB1⟩
    have HB1 := hide ((recv_below w (Obj.cells #[.bool x.rd, .bool x.wt, .int .i64 x.mode, .int .i64 x.size, .slice oa x.out.length oc, .slice ia x.inn.length ic, .slice ba x.back.length bc, .int .i64 x.dir, .bool x.fin, .bool x.bad, .bool x.closed] 58)).trans (hB1.mono (recv_below w (Obj.cells #[.bool x.rd, .bool x.wt, .int .i64 x.mode, .int .i64 x.size, .slice oa x.out.length oc, .slice ia x.inn.length ic, .slice ba x.back.length bc, .int .i64 x.dir, .bool x.fin, .bool x.bad, .bool x.closed] 58)).size))
    clear hB1
    go_wp2
    go_ret
    exact ⟨by rw [← HR.out]; rfl, HB1.out⟩
  · skip
    have HR : Hid (0 = r) := hide (by rw [← hr, if_neg (by omega)])
    clear hr
    go_enter Tryz.func107, Tryz.ntmps107
    go_wp2_with fail
    refine (HC.out _).mono ?_
    rintro _ w1 ⟨rfl, hB1⟩
    have HB1 := hide ((recv_below w (Obj.cells #[.bool x.rd, .bool x.wt, .int .i64 x.mode, .int .i64 x.size, .slice oa x.out.length oc, .slice ia x.inn.length ic, .slice ba x.back.length bc, .int .i64 x.dir, .bool x.fin, .bool x.bad, .bool x.closed] 58)).trans (hB1.mono (recv_below w (Obj.cells #[.bool x.rd, .bool x.wt, .int .i64 x.mode, .int .i64 x.size, .slice oa x.out.length oc, .slice ia x.inn.length ic, .slice ba x.back.length bc, .int .i64 x.dir, .bool x.fin, .bool x.bad, .bool x.closed] 58)).size))
    clear hB1
    go_wp2
    go_ret
    exact ⟨by rw [← HR.out]; rfl, HB1.out⟩
end Go.Proofs.YtkkommomefmpgaaGreat

/- Streams: a copy of a state. -/
namespace Go.Proofs.YtkkommomefmpgaaGreat
open Go.RowKit

theorem st_fill (w : World) (g : Nat) (x : SS) (o i b : Value) (h : w.heap[g]? = some (Obj.cells #[.bool false, .bool false, .int .i64 0, .int .i64 0, .slice none 0 0, .slice none 0 0, .slice none 0 0, .int .i64 0, .bool false, .bool false, .bool false] 58)) : StAt (((((((((((w.setCell ⟨g, 0, none⟩ (.bool x.rd)).setCell ⟨g, 1, none⟩ (.bool x.wt)).setCell ⟨g, 2, none⟩ (.int .i64 x.mode)).setCell ⟨g, 3, none⟩ (.int .i64 x.size)).setCell ⟨g, 4, none⟩ (o)).setCell ⟨g, 5, none⟩ (i)).setCell ⟨g, 6, none⟩ (b)).setCell ⟨g, 7, none⟩ (.int .i64 x.dir)).setCell ⟨g, 8, none⟩ (.bool x.fin)).setCell ⟨g, 9, none⟩ (.bool x.bad)).setCell ⟨g, 10, none⟩ (.bool x.closed)) g x o i b ∧ Turned (fun k => k = g) w (((((((((((w.setCell ⟨g, 0, none⟩ (.bool x.rd)).setCell ⟨g, 1, none⟩ (.bool x.wt)).setCell ⟨g, 2, none⟩ (.int .i64 x.mode)).setCell ⟨g, 3, none⟩ (.int .i64 x.size)).setCell ⟨g, 4, none⟩ (o)).setCell ⟨g, 5, none⟩ (i)).setCell ⟨g, 6, none⟩ (b)).setCell ⟨g, 7, none⟩ (.int .i64 x.dir)).setCell ⟨g, 8, none⟩ (.bool x.fin)).setCell ⟨g, 9, none⟩ (.bool x.bad)).setCell ⟨g, 10, none⟩ (.bool x.closed)) := by
  have e0 := Go.heap_setCell_same _ g 0 _ _ (.bool x.rd) h
  simp only [List.setIfInBounds_toArray, List.set_cons_zero] at e0
  have e1 := Go.heap_setCell_same _ g 1 _ _ (.bool x.wt) e0
  simp only [List.setIfInBounds_toArray, List.set_cons_zero, List.set_cons_succ] at e1
  have e2 := Go.heap_setCell_same _ g 2 _ _ (.int .i64 x.mode) e1
  simp only [List.setIfInBounds_toArray, List.set_cons_zero, List.set_cons_succ] at e2
  have e3 := Go.heap_setCell_same _ g 3 _ _ (.int .i64 x.size) e2
  simp only [List.setIfInBounds_toArray, List.set_cons_zero, List.set_cons_succ] at e3
  have e4 := Go.heap_setCell_same _ g 4 _ _ (o) e3
  simp only [List.setIfInBounds_toArray, List.set_cons_zero, List.set_cons_succ] at e4
  have e5 := Go.heap_setCell_same _ g 5 _ _ (i) e4
  simp only [List.setIfInBounds_toArray, List.set_cons_zero, List.set_cons_succ] at e5
  have e6 := Go.heap_setCell_same _ g 6 _ _ (b) e5
  simp only [List.setIfInBounds_toArray, List.set_cons_zero, List.set_cons_succ] at e6
  have e7 := Go.heap_setCell_same _ g 7 _ _ (.int .i64 x.dir) e6
  simp only [List.setIfInBounds_toArray, List.set_cons_zero, List.set_cons_succ] at e7
  have e8 := Go.heap_setCell_same _ g 8 _ _ (.bool x.fin) e7
  simp only [List.setIfInBounds_toArray, List.set_cons_zero, List.set_cons_succ] at e8
  have e9 := Go.heap_setCell_same _ g 9 _ _ (.bool x.bad) e8
  simp only [List.setIfInBounds_toArray, List.set_cons_zero, List.set_cons_succ] at e9
  have e10 := Go.heap_setCell_same _ g 10 _ _ (.bool x.closed) e9
  simp only [List.setIfInBounds_toArray, List.set_cons_zero, List.set_cons_succ] at e10
  exact ⟨e10, ((((((((((((Turned.refl (fun k => k = g) w).set (.inl rfl)).set (.inl rfl)).set (.inl rfl)).set (.inl rfl)).set (.inl rfl)).set (.inl rfl)).set (.inl rfl)).set (.inl rfl)).set (.inl rfl)).set (.inl rfl)).set (.inl rfl))⟩
set_option maxRecDepth 100000 in
set_option maxHeartbeats 40000000 in
theorem scopied_any (x : SS) (o i b : Value) (P : Nat → Prop) (w : World) (h : SIn w P x o i b) (ho : x.out.length ≤ 140737488351232) (hi : x.inn.length ≤ 140737488351232) (hb : x.back.length ≤ 140737488351232) :
    Calls Tryz.prog 179 #[.agg #[.bool x.rd, .bool x.wt, .int .i64 x.mode, .int .i64 x.size, o, i, b, .int .i64 x.dir, .bool x.fin, .bool x.bad, .bool x.closed]] w fun e w' => ∃ o' i' b', e = .returned (.agg #[.bool x.rd, .bool x.wt, .int .i64 x.mode, .int .i64 x.size, o', i', b', .int .i64 x.dir, .bool x.fin, .bool x.bad, .bool x.closed]) ∧ w'.ownsRow w.heap.size 5 1 o' x.out.length (x.out.map bv) ∧ w'.ownsRow w.heap.size 5 1 i' x.inn.length (x.inn.map bv) ∧ w'.ownsRow w.heap.size 5 1 b' x.back.length (x.back.map bv) ∧ Below w.heap.size w w' := by
  have HC1 := hide (fun W (hB : Below w.heap.size w W) => bclone_any o x.out W ((h.so.turned (Turned.of_below (S := fun _ => False) hB) (fun _ _ _ => id)).choose_spec.choose_spec.2.1) ho)
  have HC2 := hide (fun W (hB : Below w.heap.size w W) => bclone_any i x.inn W ((h.si.turned (Turned.of_below (S := fun _ => False) hB) (fun _ _ _ => id)).choose_spec.choose_spec.2.1) hi)
  have HC3 := hide (fun W (hB : Below w.heap.size w W) => bclone_any b x.back W ((h.sb.turned (Turned.of_below (S := fun _ => False) hB) (fun _ _ _ => id)).choose_spec.choose_spec.2.1) hb)
  obtain ⟨oa, oc, rfl, -⟩ := h.so
  obtain ⟨ia, ic, rfl, -⟩ := h.si
  obtain ⟨ba, bc, rfl, -⟩ := h.sb
  clear h
  go_enter Tryz.func179, Tryz.ntmps179
  go_wp2_with fail
  have HB0 := hide ((recv_below w (Obj.cells #[.bool x.rd, .bool x.wt, .int .i64 x.mode, .int .i64 x.size, .slice oa x.out.length oc, .slice ia x.inn.length ic, .slice ba x.back.length bc, .int .i64 x.dir, .bool x.fin, .bool x.bad, .bool x.closed] 58)).trans ((recv_below (w.alloc (Obj.cells #[.bool x.rd, .bool x.wt, .int .i64 x.mode, .int .i64 x.size, .slice oa x.out.length oc, .slice ia x.inn.length ic, .slice ba x.back.length bc, .int .i64 x.dir, .bool x.fin, .bool x.bad, .bool x.closed] 58)) (Obj.cells #[.bool false, .bool false, .int .i64 0, .int .i64 0, .slice none 0 0, .slice none 0 0, .slice none 0 0, .int .i64 0, .bool false, .bool false, .bool false] 58)).mono (recv_below w (Obj.cells #[.bool x.rd, .bool x.wt, .int .i64 x.mode, .int .i64 x.size, .slice oa x.out.length oc, .slice ia x.inn.length ic, .slice ba x.back.length bc, .int .i64 x.dir, .bool x.fin, .bool x.bad, .bool x.closed] 58)).size))
  have HS0 := hide ((StAt.new w x (.slice oa x.out.length oc) (.slice ia x.inn.length ic) (.slice ba x.back.length bc)).below (recv_below _ (Obj.cells #[.bool false, .bool false, .int .i64 0, .int .i64 0, .slice none 0 0, .slice none 0 0, .slice none 0 0, .int .i64 0, .bool false, .bool false, .bool false] 58)))
  have HZ0 : Hid (((w.alloc (Obj.cells #[.bool x.rd, .bool x.wt, .int .i64 x.mode, .int .i64 x.size, .slice oa x.out.length oc, .slice ia x.inn.length ic, .slice ba x.back.length bc, .int .i64 x.dir, .bool x.fin, .bool x.bad, .bool x.closed] 58)).alloc (Obj.cells #[.bool false, .bool false, .int .i64 0, .int .i64 0, .slice none 0 0, .slice none 0 0, .slice none 0 0, .int .i64 0, .bool false, .bool false, .bool false] 58)).heap[w.heap.size + 1]? = some (Obj.cells #[.bool false, .bool false, .int .i64 0, .int .i64 0, .slice none 0 0, .slice none 0 0, .slice none 0 0, .int .i64 0, .bool false, .bool false, .bool false] 58)) := hide (by have := heap_alloc_new (w.alloc (Obj.cells #[.bool x.rd, .bool x.wt, .int .i64 x.mode, .int .i64 x.size, .slice oa x.out.length oc, .slice ia x.inn.length ic, .slice ba x.back.length bc, .int .i64 x.dir, .bool x.fin, .bool x.bad, .bool x.closed] 58)) (Obj.cells #[.bool false, .bool false, .int .i64 0, .int .i64 0, .slice none 0 0, .slice none 0 0, .slice none 0 0, .int .i64 0, .bool false, .bool false, .bool false] 58); rw [show (w.alloc (Obj.cells #[.bool x.rd, .bool x.wt, .int .i64 x.mode, .int .i64 x.size, .slice oa x.out.length oc, .slice ia x.inn.length ic, .slice ba x.back.length bc, .int .i64 x.dir, .bool x.fin, .bool x.bad, .bool x.closed] 58)).heap.size = w.heap.size + 1 from Array.size_push ..] at this; exact this)
  generalize (w.alloc (Obj.cells #[.bool x.rd, .bool x.wt, .int .i64 x.mode, .int .i64 x.size, .slice oa x.out.length oc, .slice ia x.inn.length ic, .slice ba x.back.length bc, .int .i64 x.dir, .bool x.fin, .bool x.bad, .bool x.closed] 58)).alloc (Obj.cells #[.bool false, .bool false, .int .i64 0, .int .i64 0, .slice none 0 0, .slice none 0 0, .slice none 0 0, .int .i64 0, .bool false, .bool false, .bool false] 58) = w0 at *
  have hz0 : w.heap.size + 1 < w0.heap.size := (Array.getElem?_eq_some_iff.1 HZ0.out).1
  obtain ⟨-, -, -, -, c4, c5, c6, -⟩ := HS0.out.cs
  go_region_law (first
    | (go_simp; go_at_call 182; have := HB2; refine (HC3.out _ HB2.out).mono ?_; rintro _ w3 ⟨u3, rfl, hO3, hB3⟩; obtain ⟨a3, k3, rfl⟩ := owns_slice hO3; have HS3 := hide (HS2.out.below hB3); have HZ3 := hide ((hB3.block (w.heap.size + 1) (Array.getElem?_eq_some_iff.1 HZ2.out).1).trans HZ2.out); have HB3 := hide (HB2.out.trans (hB3.mono HB2.out.size)); have HO3 := hide (And.intro (And.intro (owns_below HO2.out.1 hB3) (owns_below HO2.out.2 hB3)) hO3); clear hO3 hB3; obtain ⟨f0, f1, f2, f3, f4, f5, f6, f7, f8, f9, f10⟩ := HS3.out.cs; have g4 := frozen_of_row w3 w.heap.size 4 _ _ HS3.out; have g5 := frozen_of_row w3 w.heap.size 5 _ _ HS3.out; have g6 := frozen_of_row w3 w.heap.size 6 _ _ HS3.out)
    | (go_simp; go_at_call 182; have := HB1; refine (HC2.out _ HB1.out).mono ?_; rintro _ w2 ⟨u2, rfl, hO2, hB2⟩; obtain ⟨a2, k2, rfl⟩ := owns_slice hO2; have HS2 := hide (HS1.out.below hB2); have HZ2 := hide ((hB2.block (w.heap.size + 1) (Array.getElem?_eq_some_iff.1 HZ1.out).1).trans HZ1.out); have HB2 := hide (HB1.out.trans (hB2.mono HB1.out.size)); have hs2 := hB2.size; have HO2 := hide (And.intro (owns_below HO1.out hB2) hO2); clear hO2 hB2; obtain ⟨-, -, -, -, e4, e5, e6, -⟩ := HS2.out.cs)
    | (go_simp; go_at_call 182; refine (HC1.out _ (by exact HB0.out.drew)).mono ?_; rintro _ w1 ⟨u1, rfl, hO1, hB1⟩; obtain ⟨a1, k1, rfl⟩ := owns_slice hO1; have HS1 := hide (HS0.out.below ((Below.refl _ _).drew.trans hB1)); have HZ1 := hide ((hB1.block (w.heap.size + 1) (Array.getElem?_eq_some_iff.1 HZ0.out).1).trans HZ0.out); have HB1 := hide (HB0.out.trans (((Below.refl _ _).drew.trans hB1).mono HB0.out.size)); have hs1 : w0.heap.size ≤ w1.heap.size := hB1.size; have HO1 := hide hO1; clear hO1 hB1; obtain ⟨-, -, -, -, d4, d5, d6, -⟩ := HS1.out.cs)
    | fail)
  all_goals
    have e4 := Go.heap_setCell_same w3 w.heap.size 4 _ _ (.slice a1 x.out.length k1) HS3.out
    have e5 := Go.heap_setCell_same _ w.heap.size 5 _ _ (.slice a2 x.inn.length k2) e4
    have e6 := Go.heap_setCell_same _ w.heap.size 6 _ _ (.slice a3 x.back.length k3) e5
    have HS4 : Hid (StAt (((w3.setCell ⟨w.heap.size, 4, none⟩ (.slice a1 x.out.length k1)).setCell ⟨w.heap.size, 5, none⟩ (.slice a2 x.inn.length k2)).setCell ⟨w.heap.size, 6, none⟩ (.slice a3 x.back.length k3)) w.heap.size x (.slice a1 x.out.length k1) (.slice a2 x.inn.length k2) (.slice a3 x.back.length k3)) := hide e6
    have HT4 : Hid (Turned (fun k => k = w.heap.size) w3 (((w3.setCell ⟨w.heap.size, 4, none⟩ (.slice a1 x.out.length k1)).setCell ⟨w.heap.size, 5, none⟩ (.slice a2 x.inn.length k2)).setCell ⟨w.heap.size, 6, none⟩ (.slice a3 x.back.length k3))) := hide ((((Turned.refl (fun k => k = w.heap.size) w3).set (.inl rfl)).set (.inl rfl)).set (.inl rfl))
    clear e4 e5 e6 f0 f1 f2 f3 f4 f5 f6 f7 f8 f9 f10 g4 g5 g6 c4 c5 c6 d4 d5 d6 HS0 HS1 HS2 HS3 HZ0 HZ1 HZ2 HC1 HC2 HC3
    generalize ((w3.setCell ⟨w.heap.size, 4, none⟩ (.slice a1 x.out.length k1)).setCell ⟨w.heap.size, 5, none⟩ (.slice a2 x.inn.length k2)).setCell ⟨w.heap.size, 6, none⟩ (.slice a3 x.back.length k3) = w4 at *
    have HZ4 := hide ((HT4.out.block (w.heap.size + 1) (Array.getElem?_eq_some_iff.1 HZ3.out).1 (by omega)).trans HZ3.out)
    obtain ⟨f0, f1, f2, f3, f4, f5, f6, f7, f8, f9, f10⟩ := HS4.out.cs
    have z0 := cell_of_row w4 (w.heap.size + 1) 0 _ _ _ HZ4.out
    have z1 := cell_of_row w4 (w.heap.size + 1) 1 _ _ _ HZ4.out
    have z2 := cell_of_row w4 (w.heap.size + 1) 2 _ _ _ HZ4.out
    have z3 := cell_of_row w4 (w.heap.size + 1) 3 _ _ _ HZ4.out
    have z4 := cell_of_row w4 (w.heap.size + 1) 4 _ _ _ HZ4.out
    have z5 := cell_of_row w4 (w.heap.size + 1) 5 _ _ _ HZ4.out
    have z6 := cell_of_row w4 (w.heap.size + 1) 6 _ _ _ HZ4.out
    have z7 := cell_of_row w4 (w.heap.size + 1) 7 _ _ _ HZ4.out
    have z8 := cell_of_row w4 (w.heap.size + 1) 8 _ _ _ HZ4.out
    have z9 := cell_of_row w4 (w.heap.size + 1) 9 _ _ _ HZ4.out
    have z10 := cell_of_row w4 (w.heap.size + 1) 10 _ _ _ HZ4.out
    have y0 := frozen_of_row w4 (w.heap.size + 1) 0 _ _ HZ4.out
    have y1 := frozen_of_row w4 (w.heap.size + 1) 1 _ _ HZ4.out
    have y2 := frozen_of_row w4 (w.heap.size + 1) 2 _ _ HZ4.out
    have y3 := frozen_of_row w4 (w.heap.size + 1) 3 _ _ HZ4.out
    have y4 := frozen_of_row w4 (w.heap.size + 1) 4 _ _ HZ4.out
    have y5 := frozen_of_row w4 (w.heap.size + 1) 5 _ _ HZ4.out
    have y6 := frozen_of_row w4 (w.heap.size + 1) 6 _ _ HZ4.out
    have y7 := frozen_of_row w4 (w.heap.size + 1) 7 _ _ HZ4.out
    have y8 := frozen_of_row w4 (w.heap.size + 1) 8 _ _ HZ4.out
    have y9 := frozen_of_row w4 (w.heap.size + 1) 9 _ _ HZ4.out
    have y10 := frozen_of_row w4 (w.heap.size + 1) 10 _ _ HZ4.out
    simp at z0 z1 z2 z3 z4 z5 z6 z7 z8 z9 z10
    go_wp2
    obtain ⟨e1, e2⟩ := st_fill w4 (w.heap.size + 1) x (.slice a1 x.out.length k1) (.slice a2 x.inn.length k2) (.slice a3 x.back.length k3) HZ4.out
    have HTw := hide ((HT4.out.mono fun k e => (.inl e : k = w.heap.size ∨ k = w.heap.size + 1)).trans (e2.mono fun k e => (.inr e : k = w.heap.size ∨ k = w.heap.size + 1)) (fun _ _ e => e))
    refine bodyPost_ret (results_cell_row rfl _ _ (w.heap.size + 1) _ _ _ _ rfl e1 Tryz.underlying58 rfl (by kernel_rfl)) rfl ?_
    have far : ∀ k, w.heap.size + 1 < k → ¬ (k = w.heap.size ∨ k = w.heap.size + 1) := fun k h e => by omega
    have hr1 := HO3.out.1.1
    have hr2 := HO3.out.1.2
    have hr3 := HO3.out.2
    have hs0 : w.heap.size + 1 < w0.drew.heap.size := hz0
    exact ⟨_, _, _, rfl, owns_mono (owns_turned hr1 HTw.out (fun k e => far k (by have := (hr1.lt k e).1; omega))) (by omega), owns_mono (owns_turned hr2 HTw.out (fun k e => far k (by have := (hr2.lt k e).1; omega))) (by omega), owns_mono (owns_turned hr3 HTw.out (fun k e => far k (by have := (hr3.lt k e).1; omega))) (by omega), (HTw.out.below (B := w.heap.size) (fun k e => by omega) HB3.out.size) |> HB3.out.trans⟩
end Go.Proofs.YtkkommomefmpgaaGreat

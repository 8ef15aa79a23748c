/- What the proof stands on, part 16: the contracts of the program's calls that it reaches. -/
import Derived.Test.YtkkommomefmpgaaGreatKQ15
/- Streams: a state on its way, in memory. -/
namespace Go.Proofs.YtkkommomefmpgaaGreat
open Go.RowKit

def Way (W : World) (g : Nat) (x : SS) (o i b r : Value) : Prop := W.heap[g]? = some (.cells #[.bool x.rd, .bool x.wt, .int .i64 x.mode, .int .i64 x.size, o, i, b, .int .i64 x.dir, .bool x.fin, .bool x.bad, .bool x.closed, r] 199)
theorem Way.cs {W : World} {g : Nat} {x : SS} {o i b r : Value} (h : Way W g x o i b r) : W.cell? ⟨g, 0, none⟩ = some (.bool x.rd) ∧ W.cell? ⟨g, 1, none⟩ = some (.bool x.wt) ∧ W.cell? ⟨g, 2, none⟩ = some (.int .i64 x.mode) ∧ W.cell? ⟨g, 3, none⟩ = some (.int .i64 x.size) ∧ W.cell? ⟨g, 4, none⟩ = some (o) ∧ W.cell? ⟨g, 5, none⟩ = some (i) ∧ W.cell? ⟨g, 6, none⟩ = some (b) ∧ W.cell? ⟨g, 7, none⟩ = some (.int .i64 x.dir) ∧ W.cell? ⟨g, 8, none⟩ = some (.bool x.fin) ∧ W.cell? ⟨g, 9, none⟩ = some (.bool x.bad) ∧ W.cell? ⟨g, 10, none⟩ = some (.bool x.closed) ∧ W.cell? ⟨g, 11, none⟩ = some (r) :=
  ⟨cell_of_row W g 0 _ _ _ h, cell_of_row W g 1 _ _ _ h, cell_of_row W g 2 _ _ _ h, cell_of_row W g 3 _ _ _ h, cell_of_row W g 4 _ _ _ h, cell_of_row W g 5 _ _ _ h, cell_of_row W g 6 _ _ _ h, cell_of_row W g 7 _ _ _ h, cell_of_row W g 8 _ _ _ h, cell_of_row W g 9 _ _ _ h, cell_of_row W g 10 _ _ _ h, cell_of_row W g 11 _ _ _ h⟩
theorem Way.lt {W : World} {g : Nat} {x : SS} {o i b r : Value} (h : Way W g x o i b r) : g < W.heap.size := (Array.getElem?_eq_some_iff.1 h).1
theorem Way.soft {W : World} {g : Nat} {x : SS} {o i b r : Value} (h : Way W g x o i b r) (j : Nat) : W.frozen? ⟨g, j, none⟩ = false := frozen_of_row W g j _ _ h
theorem Way.set {W : World} {g : Nat} {x x' : SS} {o i b o' i' b' r : Value} (h : Way W g x o i b r) (j : Nat) (u : Value) (hl : ([.bool x.rd, .bool x.wt, .int .i64 x.mode, .int .i64 x.size, o, i, b, .int .i64 x.dir, .bool x.fin, .bool x.bad, .bool x.closed, r] : List Value).set j u = [.bool x'.rd, .bool x'.wt, .int .i64 x'.mode, .int .i64 x'.size, o', i', b', .int .i64 x'.dir, .bool x'.fin, .bool x'.bad, .bool x'.closed, r]) : Way (W.setCell ⟨g, j, none⟩ u) g x' o' i' b' r := by
  have := Go.heap_setCell_same W g j _ _ u h
  unfold Way
  rw [this]
  simp only [List.setIfInBounds_toArray, hl]
structure On {S : Type} (At : World → (Nat → Prop) → S → Prop) (W : World) (O : Nat → Prop) (s : S) (B g : Nat) (x : SS) (o i b r : Value) : Prop where
  way : Way W g x o i b r
  ls : SIn W (fun k => B ≤ k ∧ ¬ O k ∧ k ≠ g ∧ k < W.heap.size) x o i b
  raw : At W O s
  og : ¬ O g
  gB : B ≤ g
  ol : ∀ j, O j → j < W.heap.size
theorem marked_any (x : SS) (g : Nat) (e : Int) (o i b r : Value) (w : World) (h : Way w g x o i b r) : Calls Tryz.prog 189 #[.pointer (some ⟨g, 0, none⟩), .int .i64 e] w fun en w' => en = .returned (.int .i64 e) ∧ Way w' g (x.mark e) o i b r ∧ Turned (fun k => k = g) w w' := by
  have HW := hide h
  have g9 := h.soft 9
  have c9 := h.cs.2.2.2.2.2.2.2.2.2.1
  clear h
  obtain ⟨y, hy⟩ : ∃ y, y = x.mark e := ⟨_, rfl⟩
  rw [← hy]
  unfold SS.mark at hy
  by_cases h0 : e = 0
  · subst h0
    have HY : Hid (y = x) := hide (by rw [hy, if_pos (.inl rfl)])
    clear hy
    go_enter Tryz.func189, Tryz.ntmps189
    go_wp2
    go_ret
    exact ⟨rfl, by rw [HY.out]; exact HW.out, Turned.refl _ _⟩
  by_cases h1 : e = 52
  · subst h1
    have HY : Hid (y = x) := hide (by rw [hy, if_pos (.inr rfl)])
    clear hy
    go_enter Tryz.func189, Tryz.ntmps189
    go_wp2
    go_ret
    exact ⟨rfl, by rw [HY.out]; exact HW.out, Turned.refl _ _⟩
  have HY : Hid (y = { x with bad := true }) := hide (by rw [hy, if_neg (by intro h; rcases h with h | h; exact h0 h; exact h1 h)])
  clear hy
  have h2 : (e == 0) = false := by simp [h0]
  have h3 : (e == 52) = false := by simp [h1]
  have h4 : (e != 0) = true := by simp [h0]
  have h5 : (e != 52) = true := by simp [h1]
  go_enter Tryz.func189, Tryz.ntmps189
  go_wp2
  go_ret
  exact ⟨rfl, by rw [HY.out]; exact HW.out.set 9 (.bool true) rfl, (Turned.refl _ _).set (.inl rfl)⟩
theorem Way.below {W W' : World} {g : Nat} {x : SS} {o i b r : Value} (h : Way W g x o i b r) (hB : Below W.heap.size W W') : Way W' g x o i b r := (hB.block g h.lt).trans h
theorem Way.turned {P : Nat → Prop} {W W' : World} {g : Nat} {x : SS} {o i b r : Value} (h : Way W g x o i b r) (hT : Turned P W W') (hg : ¬ P g) : Way W' g x o i b r := (hT.block g h.lt hg).trans h
theorem drewN_below (w : World) (n : Nat) : Below w.heap.size w (w.drewN n) := ⟨rfl, rfl, rfl, Nat.le_refl _, fun _ _ => rfl⟩
theorem isFull_any (x : SS) (g : Nat) (oa : Option Addr) (oc : Nat) (i b r : Value) (w : World) (h : Way w g x (.slice oa x.out.length oc) i b r) : Calls Tryz.prog 190 #[.pointer (some ⟨g, 0, none⟩)] w fun en w' => en = .returned (.bool (decide ((x.out.length : Int) = x.size))) ∧ Below w.heap.size w w' := by
  obtain ⟨c0, c1, c2, c3, c4, c5, c6, c7, c8, c9, c10, c11⟩ := h.cs
  clear h
  generalize hr : decide ((x.out.length : Int) = x.size) = q
  by_cases he : (x.out.length : Int) = x.size
  · have HR : Hid (true = q) := hide (by rw [← hr, decide_eq_true he])
    have hq : ((x.out.length : Int) == x.size) = true := by simp [he]
    clear hr he
    go_enter Tryz.func190, Tryz.ntmps190
    go_wp2
    go_quiet (fail)
    go_wp2
    go_ret
    exact ⟨by rw [← HR.out]; rfl, drewN_below _ _⟩
  · have HR : Hid (false = q) := hide (by rw [← hr, decide_eq_false he])
    have hq : ((x.out.length : Int) == x.size) = false := by simp [he]
    clear hr he
    go_enter Tryz.func190, Tryz.ntmps190
    go_wp2
    go_quiet (fail)
    go_wp2
    go_ret
    exact ⟨by rw [← HR.out]; rfl, drewN_below _ _⟩
set_option maxHeartbeats 1000000 in
theorem isReadOut_any (x : SS) (g : Nat) (ia ba : Option Addr) (ic bc : Nat) (o r : Value) (w : World) (h : Way w g x o (.slice ia x.inn.length ic) (.slice ba x.back.length bc) r) (hi : x.inn.length ≤ 140737488351232) (hb : x.back.length ≤ 140737488351232) : Calls Tryz.prog 187 #[.pointer (some ⟨g, 0, none⟩)] w fun en w' => en = .returned (.bool (x.fin && decide ((x.inn.length : Int) + (x.back.length : Int) = 0))) ∧ Below w.heap.size w w' := by
  obtain ⟨c0, c1, c2, c3, c4, c5, c6, c7, c8, c9, c10, c11⟩ := h.cs
  clear h
  generalize hr : (x.fin && decide ((x.inn.length : Int) + (x.back.length : Int) = 0)) = q
  rcases Bool.eq_false_or_eq_true x.fin with hf | hf
  · rw [hf] at c8 hr
    by_cases he : (x.inn.length : Int) + (x.back.length : Int) = 0
    · have HR : Hid (true = q) := hide (by rw [← hr, decide_eq_true he]; rfl)
      have hq : ((x.inn.length : Int) + (x.back.length : Int) == 0) = true := by simp [he]
      clear hr he hf
      go_enter Tryz.func187, Tryz.ntmps187
      go_wp2
      go_quiet (fail)
      go_wp2
      go_ret
      exact ⟨by rw [← HR.out]; rfl, drewN_below _ _⟩
    · have HR : Hid (false = q) := hide (by rw [← hr, decide_eq_false he]; rfl)
      have hq : ((x.inn.length : Int) + (x.back.length : Int) == 0) = false := by simp only [beq_eq_false_iff_ne]; exact he
      clear hr he hf
      go_enter Tryz.func187, Tryz.ntmps187
      go_wp2
      go_quiet (fail)
      go_wp2
      go_ret
      exact ⟨by rw [← HR.out]; rfl, drewN_below _ _⟩
  · rw [hf] at c8 hr
    have HR : Hid (false = q) := hide hr
    clear hr hf
    go_enter Tryz.func187, Tryz.ntmps187
    go_wp2
    go_quiet (fail)
    go_wp2
    go_ret
    exact ⟨by rw [← HR.out]; rfl, drewN_below _ _⟩
set_option maxRecDepth 100000 in
set_option maxHeartbeats 1000000 in
theorem wrefusal_any (x : SS) (g : Nat) (oa ia ba : Option Addr) (oc ic bc : Nat) (T : TypeId) (v : Value) (w : World) (h : Way w g x (.slice oa x.out.length oc) (.slice ia x.inn.length ic) (.slice ba x.back.length bc) (.iface T v)) (hi : x.inn.length ≤ 140737488351232) (hb : x.back.length ≤ 140737488351232) : Calls Tryz.prog 167 #[.pointer (some ⟨g, 0, none⟩)] w fun en w' => en = .returned (.int .i64 (x.refuse true)) ∧ Below w.heap.size w w' := by
  obtain ⟨c0, c1, c2, c3, c4, c5, c6, c7, c8, c9, c10, c11⟩ := h.cs
  have HC := hide (fun W => srefusal_any x true oa ia ba oc ic bc W hi hb)
  have HK := hide (fun (w' : World) (hB : Below w.heap.size w w') => (show w'.cell? ⟨g, 0, none⟩ = some (.bool x.rd) ∧ w'.cell? ⟨g, 1, none⟩ = some (.bool x.wt) ∧ w'.cell? ⟨g, 2, none⟩ = some (.int .i64 x.mode) ∧ w'.cell? ⟨g, 3, none⟩ = some (.int .i64 x.size) ∧ w'.cell? ⟨g, 4, none⟩ = some (.slice oa x.out.length oc) ∧ w'.cell? ⟨g, 5, none⟩ = some (.slice ia x.inn.length ic) ∧ w'.cell? ⟨g, 6, none⟩ = some (.slice ba x.back.length bc) ∧ w'.cell? ⟨g, 7, none⟩ = some (.int .i64 x.dir) ∧ w'.cell? ⟨g, 8, none⟩ = some (.bool x.fin) ∧ w'.cell? ⟨g, 9, none⟩ = some (.bool x.bad) ∧ w'.cell? ⟨g, 10, none⟩ = some (.bool x.closed) ∧ w'.cell? ⟨g, 11, none⟩ = some (.iface T v) from (h.below hB).cs))
  clear h c0 c1 c2 c3 c4 c5 c6 c7 c8 c9 c10 c11
  go_enter Tryz.func167, Tryz.ntmps167
  go_wp2_with fail
  go_region_held3 (fun w' => w'.cell? ⟨g, 0, none⟩ = some (.bool x.rd) ∧ w'.cell? ⟨g, 1, none⟩ = some (.bool x.wt) ∧ w'.cell? ⟨g, 2, none⟩ = some (.int .i64 x.mode) ∧ w'.cell? ⟨g, 3, none⟩ = some (.int .i64 x.size) ∧ w'.cell? ⟨g, 4, none⟩ = some (.slice oa x.out.length oc) ∧ w'.cell? ⟨g, 5, none⟩ = some (.slice ia x.inn.length ic) ∧ w'.cell? ⟨g, 6, none⟩ = some (.slice ba x.back.length bc) ∧ w'.cell? ⟨g, 7, none⟩ = some (.int .i64 x.dir) ∧ w'.cell? ⟨g, 8, none⟩ = some (.bool x.fin) ∧ w'.cell? ⟨g, 9, none⟩ = some (.bool x.bad) ∧ w'.cell? ⟨g, 10, none⟩ = some (.bool x.closed) ∧ w'.cell? ⟨g, 11, none⟩ = some (.iface T v)) (first | exact HK.out _ (Below.refl _ _).drew | exact HK.out _ HB1.out) (first | (go_at_call 180; refine (HC.out _).mono ?_; rintro _ w1 ⟨rfl, hB1⟩; have HB1 := hide ((Below.refl _ _).drew.trans hB1)) | fail)
  go_wp2
  go_ret
  exact ⟨rfl, HB1.out⟩
end Go.Proofs.YtkkommomefmpgaaGreat

/- Streams: a state is turned to writing, to reading. -/
namespace Go.Proofs.YtkkommomefmpgaaGreat
open Go.RowKit

set_option maxRecDepth 100000 in
set_option maxHeartbeats 2000000 in
theorem turnToWriting_any (x : SS) (g : Nat) (oa ia ba : Option Addr) (oc ic bc : Nat) (T : TypeId) (v : Value) (w : World) (h : Way w g x (.slice oa x.out.length oc) (.slice ia x.inn.length ic) (.slice ba x.back.length bc) (.iface T v)) (hi : x.inn.length ≤ 140737488351232) (hb : x.back.length ≤ 140737488351232) :
    Calls Tryz.prog 114 #[.pointer (some ⟨g, 0, none⟩)] w fun en w' => en = .returned (.int .i64 x.noWrite) ∧ Way w' g (if x.noWrite = 0 then { x with dir := 2 } else x) (.slice oa x.out.length oc) (.slice ia x.inn.length ic) (.slice ba x.back.length bc) (.iface T v) ∧ Turned (fun k => k = g) w w' := by
  have HC := hide (wrefusal_any x g oa ia ba oc ic bc T v w h hi hb)
  have HW := hide h
  clear h
  generalize hn : x.noWrite = q
  unfold SS.noWrite at hn
  by_cases h0 : x.refuse true = 0
  case neg =>
    rw [if_pos h0] at hn
    subst hn
    have HN := hide h0
    have HE : Hid (x.refuse true = x.refuse true) := hide rfl
    generalize hrr : x.refuse true = rr at *
    have h2 : (rr != 0) = true := by simp [h0]
    have h3 : ¬ rr = 0 := h0
    clear h0 hrr
    go_enter Tryz.func114, Tryz.ntmps114
    go_wp2_with fail
    refine (HC.out).mono ?_
    rintro _ w1 ⟨rfl, hB1⟩
    have HW1 := hide (HW.out.below hB1)
    have HB1 := hide hB1
    clear hB1
    go_wp2
    go_ret
    exact ⟨rfl, by first | exact HW1.out | (rw [if_neg HN.out]; exact HW1.out), Turned.of_below HB1.out⟩
  rw [if_neg (by simp [h0])] at hn
  have HE := hide h0
  clear h0
  rcases Bool.eq_false_or_eq_true x.wt with hf | hf
  case inr =>
    rw [if_pos hf] at hn
    subst hn
    have HF := hide hf
    clear hf
    go_enter Tryz.func114, Tryz.ntmps114
    go_wp2_with fail
    refine (HC.out).mono ?_
    rintro _ w1 ⟨rfl, hB1⟩
    rw [HE.out]
    have HW1 := hide (HW.out.below hB1)
    have HB1 := hide hB1
    clear hB1
    obtain ⟨c0, c1, c2, c3, c4, c5, c6, c7, c8, c9, c10, c11⟩ := HW1.out.cs
    rw [HF.out] at c1
    go_wp2
    go_ret
    exact ⟨rfl, by first | exact HW1.out | (rw [if_neg (by decide)]; exact HW1.out), Turned.of_below HB1.out⟩
  rw [if_neg (by simp [hf])] at hn
  have HF := hide hf
  clear hf
  by_cases hd : x.dir = 1
  · have HD := hide hd
    by_cases hq : x.fin = true ∧ (x.inn.length : Int) + (x.back.length : Int) = 0
    · rw [if_neg (by simp [hq])] at hn
      subst hn
      have HQ : Hid ((x.fin && decide ((x.inn.length : Int) + (x.back.length : Int) = 0)) = true) := hide (by simp [hq])
      clear hq hd
      go_enter Tryz.func114, Tryz.ntmps114
      go_wp2_with fail
      refine (HC.out).mono ?_
      rintro _ w1 ⟨rfl, hB1⟩
      rw [HE.out]
      have HW1 := hide (HW.out.below hB1)
      have HB1 := hide hB1
      clear hB1
      obtain ⟨c0, c1, c2, c3, c4, c5, c6, c7, c8, c9, c10, c11⟩ := HW1.out.cs
      have g7 := HW1.out.soft 7
      rw [HF.out] at c1
      rw [HD.out] at c7
      go_wp2_with fail
      refine (isReadOut_any x g ia ba ic bc _ _ w1 HW1.out hi hb).mono ?_
      rintro _ w2 ⟨rfl, hB2⟩
      rw [HQ.out]
      have HW2 := hide (HW1.out.below hB2)
      have HB2 := hide (HB1.out.trans (hB2.mono HB1.out.size))
      clear hB2 c0 c1 c2 c3 c4 c5 c6 c7 c8 c9 c10 c11 g7
      obtain ⟨c0, c1, c2, c3, c4, c5, c6, c7, c8, c9, c10, c11⟩ := HW2.out.cs
      have g7 := HW2.out.soft 7
      go_wp2
      go_ret
      exact ⟨rfl, by first | exact HW2.out.set 7 (.int .i64 2) rfl | (rw [if_pos rfl]; exact HW2.out.set 7 (.int .i64 2) rfl), (Turned.of_below HB2.out).set (.inl rfl)⟩
    · rw [if_pos ⟨hd, hq⟩] at hn
      subst hn
      have HQ : Hid ((x.fin && decide ((x.inn.length : Int) + (x.back.length : Int) = 0)) = false) := hide (by
        cases hfi : x.fin with
        | false => rfl
        | true => rw [Bool.true_and]; exact decide_eq_false fun e => hq ⟨hfi, e⟩)
      clear hq hd
      go_enter Tryz.func114, Tryz.ntmps114
      go_wp2_with fail
      refine (HC.out).mono ?_
      rintro _ w1 ⟨rfl, hB1⟩
      rw [HE.out]
      have HW1 := hide (HW.out.below hB1)
      have HB1 := hide hB1
      clear hB1
      obtain ⟨c0, c1, c2, c3, c4, c5, c6, c7, c8, c9, c10, c11⟩ := HW1.out.cs
      rw [HF.out] at c1
      rw [HD.out] at c7
      go_wp2_with fail
      refine (isReadOut_any x g ia ba ic bc _ _ w1 HW1.out hi hb).mono ?_
      rintro _ w2 ⟨rfl, hB2⟩
      rw [HQ.out]
      have HW2 := hide (HW1.out.below hB2)
      have HB2 := hide (HB1.out.trans (hB2.mono HB1.out.size))
      clear hB2 c0 c1 c2 c3 c4 c5 c6 c7 c8 c9 c10 c11
      go_wp2
      go_ret
      exact ⟨rfl, by first | exact HW2.out | (rw [if_neg (by decide)]; exact HW2.out), Turned.of_below HB2.out⟩
  rw [if_neg (fun h => hd h.1)] at hn
  subst hn
  have hd2 : (x.dir == 1) = false := by simp [hd]
  go_enter Tryz.func114, Tryz.ntmps114
  go_wp2_with fail
  refine (HC.out).mono ?_
  rintro _ w1 ⟨rfl, hB1⟩
  rw [HE.out]
  have HW1 := hide (HW.out.below hB1)
  have HB1 := hide hB1
  clear hB1
  obtain ⟨c0, c1, c2, c3, c4, c5, c6, c7, c8, c9, c10, c11⟩ := HW1.out.cs
  have g7 := HW1.out.soft 7
  rw [HF.out] at c1
  go_wp2
  go_ret
  exact ⟨rfl, by first | exact HW1.out.set 7 (.int .i64 2) rfl | (rw [if_pos rfl]; exact HW1.out.set 7 (.int .i64 2) rfl), (Turned.of_below HB1.out).set (.inl rfl)⟩
set_option maxRecDepth 100000 in
set_option maxHeartbeats 2000000 in
theorem turnToReading_any (x : SS) (g : Nat) (oa ia ba : Option Addr) (oc ic bc : Nat) (T : TypeId) (v : Value) (w : World) (h : Way w g x (.slice oa x.out.length oc) (.slice ia x.inn.length ic) (.slice ba x.back.length bc) (.iface T v)) (hi : x.inn.length ≤ 140737488351232) (hb : x.back.length ≤ 140737488351232) :
    Calls Tryz.prog 174 #[.pointer (some ⟨g, 0, none⟩)] w fun en w' => en = .returned (.int .i64 x.noRead) ∧ Way w' g (if x.noRead = 0 then { x with dir := 1 } else x) (.slice oa x.out.length oc) (.slice ia x.inn.length ic) (.slice ba x.back.length bc) (.iface T v) ∧ Turned (fun k => k = g) w w' := by
  have HC := hide (wrefusal_any x g oa ia ba oc ic bc T v w h hi hb)
  have HW := hide h
  clear h
  generalize hn : x.noRead = q
  unfold SS.noRead at hn
  by_cases h0 : x.refuse true = 0
  case neg =>
    rw [if_pos h0] at hn
    subst hn
    have HN := hide h0
    have HE : Hid (x.refuse true = x.refuse true) := hide rfl
    generalize hrr : x.refuse true = rr at *
    have h2 : (rr != 0) = true := by simp [h0]
    have h3 : ¬ rr = 0 := h0
    clear h0 hrr
    go_enter Tryz.func174, Tryz.ntmps174
    go_wp2_with fail
    refine (HC.out).mono ?_
    rintro _ w1 ⟨rfl, hB1⟩
    have HW1 := hide (HW.out.below hB1)
    have HB1 := hide hB1
    clear hB1
    go_wp2
    go_ret
    exact ⟨rfl, by first | exact HW1.out | (rw [if_neg HN.out]; exact HW1.out), Turned.of_below HB1.out⟩
  rw [if_neg (by simp [h0])] at hn
  have HE := hide h0
  clear h0
  rcases Bool.eq_false_or_eq_true x.rd with hf | hf
  case inr =>
    rw [if_pos hf] at hn
    subst hn
    have HF := hide hf
    clear hf
    go_enter Tryz.func174, Tryz.ntmps174
    go_wp2_with fail
    refine (HC.out).mono ?_
    rintro _ w1 ⟨rfl, hB1⟩
    rw [HE.out]
    have HW1 := hide (HW.out.below hB1)
    have HB1 := hide hB1
    clear hB1
    obtain ⟨c0, c1, c2, c3, c4, c5, c6, c7, c8, c9, c10, c11⟩ := HW1.out.cs
    rw [HF.out] at c0
    go_wp2
    go_ret
    exact ⟨rfl, by first | exact HW1.out | (rw [if_neg (by decide)]; exact HW1.out), Turned.of_below HB1.out⟩
  rw [if_neg (by simp [hf])] at hn
  have HF := hide hf
  clear hf
  by_cases hd : x.dir = 2
  · rw [if_pos hd] at hn
    subst hn
    have HD := hide hd
    clear hd
    go_enter Tryz.func174, Tryz.ntmps174
    go_wp2_with fail
    refine (HC.out).mono ?_
    rintro _ w1 ⟨rfl, hB1⟩
    rw [HE.out]
    have HW1 := hide (HW.out.below hB1)
    have HB1 := hide hB1
    clear hB1
    obtain ⟨c0, c1, c2, c3, c4, c5, c6, c7, c8, c9, c10, c11⟩ := HW1.out.cs
    rw [HF.out] at c0
    rw [HD.out] at c7
    go_wp2
    go_ret
    exact ⟨rfl, by first | exact HW1.out | (rw [if_neg (by decide)]; exact HW1.out), Turned.of_below HB1.out⟩
  rw [if_neg hd] at hn
  subst hn
  have hd2 : (x.dir == 2) = false := by simp [hd]
  go_enter Tryz.func174, Tryz.ntmps174
  go_wp2_with fail
  refine (HC.out).mono ?_
  rintro _ w1 ⟨rfl, hB1⟩
  rw [HE.out]
  have HW1 := hide (HW.out.below hB1)
  have HB1 := hide hB1
  clear hB1
  obtain ⟨c0, c1, c2, c3, c4, c5, c6, c7, c8, c9, c10, c11⟩ := HW1.out.cs
  have g7 := HW1.out.soft 7
  rw [HF.out] at c0
  go_wp2
  go_ret
  exact ⟨rfl, by first | exact HW1.out.set 7 (.int .i64 1) rfl | (rw [if_pos rfl]; exact HW1.out.set 7 (.int .i64 1) rfl), (Turned.of_below HB1.out).set (.inl rfl)⟩
end Go.Proofs.YtkkommomefmpgaaGreat

/- Streams: what was put is delivered. -/
namespace Go.Proofs.YtkkommomefmpgaaGreat
open Go.RowKit

theorem On.step {S : Type} {At : World → (Nat → Prop) → S → Prop} (hT : ∀ s, OAt (fun w O => At w O s)) {w w1 : World} {O : Nat → Prop} {s s' : S} {B g : Nat} {x : SS} {o i b r : Value} (h : On At w O s B g x o i b r) (hS : RStep At w O s' w1) : ∃ O', On At w1 O' s' B g x o i b r ∧ (∀ k, O' k → O k ∨ w.heap.size ≤ k) ∧ Turned O w w1 := by
  obtain ⟨O', h1, h2, h3⟩ := hS
  have hz := h3.size
  refine ⟨fun k => O' k ∧ k < w1.heap.size, ⟨h.way.turned h3 h.og, (h.ls.turned h3 fun k e _ => e.2.1).mono fun k e => ⟨e.1, fun e' => ?_, e.2.2.1, by have := e.2.2.2; omega⟩, (hT s').trim h1, fun e => ?_, h.gB, fun j e => e.2⟩, fun k e => h2 k e.1, h3⟩
  · rcases h2 k e'.1 with e2 | e2
    · exact e.2.1 e2
    · have := e.2.2.2; omega
  · rcases h2 g e.1 with e2 | e2
    · exact h.og e2
    · have := h.way.lt; omega
theorem On.below {S : Type} {At : World → (Nat → Prop) → S → Prop} (hT : ∀ s, OAt (fun w O => At w O s)) {w w1 : World} {O : Nat → Prop} {s : S} {B g : Nat} {x : SS} {o i b r : Value} (h : On At w O s B g x o i b r) (hB : Below w.heap.size w w1) : On At w1 O s B g x o i b r := by
  have hz := hB.size
  exact ⟨h.way.below hB, (h.ls.below hB).mono fun k e => ⟨e.1, e.2.1, e.2.2.1, by have := e.2.2.2; omega⟩, (hT s).keep h.raw (fun j _ hj => hB.block j hj) hz, h.og, h.gB, fun j e => Nat.lt_of_lt_of_le (h.ol j e) hz⟩
theorem On.at {S : Type} {At : World → (Nat → Prop) → S → Prop} (hT : ∀ s, OAt (fun w O => At w O s)) {w w1 : World} {O : Nat → Prop} {s : S} {B g : Nat} {x x' : SS} {o i b o' i' b' r r' : Value} (h : On At w O s B g x o i b r) (hw : Way w1 g x' o' i' b' r') (hT1 : Turned (fun k => k = g) w w1) (hl : SIn w (fun k => B ≤ k ∧ ¬ O k ∧ k ≠ g ∧ k < w.heap.size) x' o' i' b') : On At w1 O s B g x' o' i' b' r' := by
  have hz := hT1.size
  exact ⟨hw, (hl.turned hT1 fun k e _ => e.2.2.1).mono fun k e => ⟨e.1, e.2.1, e.2.2.1, by have := e.2.2.2; omega⟩, (hT s).keep h.raw (fun j e hj => hT1.block j hj (fun e' => h.og (e' ▸ e))) hz, h.og, h.gB, fun j e => Nat.lt_of_lt_of_le (h.ol j e) hz⟩
theorem SIn.mark {W : World} {P : Nat → Prop} {x : SS} {o i b : Value} {e : Int} (h : SIn W P x o i b) : SIn W P (x.mark e) o i b := by
  unfold SS.mark
  split
  · exact h
  · exact ⟨h.so, h.si, h.sb, h.po, h.pi, h.pb⟩
set_option maxRecDepth 100000 in
set_option maxHeartbeats 4000000 in
theorem deliver_any {S : Type} {D : RawD S} {T : TypeId} {v : Value} {fr fw : FuncId} {rok wok : S → Prop} {At : World → (Nat → Prop) → S → Prop} (R : RawM D T v fr fw rok wok At) (hT : ∀ s, OAt (fun w O => At w O s)) {w : World} {O : Nat → Prop} {s : S} {B g : Nat} {x : SS} {o i b : Value} (h : On At w O s B g x o i b (.iface T v)) (hl : x.out.length ≤ 65536) (hok : putOk D wok x.out (putF x.out) s 0 0) :
    Calls Tryz.prog 191 #[.pointer (some ⟨g, 0, none⟩)] w fun en w' => en = .returned (.int .i64 (x.deliver D s).2.1) ∧ ∃ o' O', On At w' O' (x.deliver D s).2.2 B g (x.deliver D s).1 o' i b (.iface T v) ∧ ((x.deliver D s).2.1 = 0 → o' = .slice none 0 0) ∧ (∀ k, O' k → O k ∨ w.heap.size ≤ k) ∧ Turned (fun k => O k ∨ k = g) w w' := by
  obtain ⟨oa, oc, rfl, hby, hcap⟩ := h.ls.so
  have HP := hide (fun (W : World) (hW : Below w.heap.size w W) => rput_any R (w := W) (O := O) (s := s) x.out oa oc (R.keep h.raw (fun j _ hj => hW.block j hj) hW.size) (fun j e => Nat.lt_of_lt_of_le (h.ol j e) hW.size) (hby.below hW) hcap (by omega) (fun _ k e => (h.ls.po k e).2.1) hok)
  have HH := hide h
  have hfit := putV_fits D x.out s
  have HAll := hide (putV_all D x.out s)
  have HV : Hid (x.deliver D s = (({ x with out := x.out.drop (putV D x.out (putF x.out) s 0 0).1 } : SS).mark (putV D x.out (putF x.out) s 0 0).2.1, (putV D x.out (putF x.out) s 0 0).2.1, (putV D x.out (putF x.out) s 0 0).2.2)) := hide rfl
  obtain ⟨dx, de, ds, hd⟩ : ∃ dx de ds, x.deliver D s = (dx, de, ds) := ⟨_, _, _, rfl⟩
  rw [hd] at HV ⊢
  clear hd
  generalize putV D x.out (putF x.out) s 0 0 = X at *
  obtain ⟨n, e, s2⟩ := X
  simp only at HV hfit HAll HP ⊢
  obtain ⟨rfl, rfl, rfl⟩ : dx = ({ x with out := x.out.drop n } : SS).mark e ∧ de = e ∧ ds = s2 := by
    have := HV.out
    simp only [Prod.mk.injEq] at this
    exact this
  have HK := hide (fun (W : World) (hW : Below w.heap.size w W) => (show W.cell? ⟨g, 4, none⟩ = some (.slice oa x.out.length oc) ∧ W.cell? ⟨g, 11, none⟩ = some (.iface T v) from ⟨(h.way.below hW).cs.2.2.2.2.1, (h.way.below hW).cs.2.2.2.2.2.2.2.2.2.2.2⟩))
  clear h hby HV hok
  go_enter Tryz.func191, Tryz.ntmps191
  go_wp2_with fail
  go_region_held3 (fun W => W.cell? ⟨g, 4, none⟩ = some (.slice oa x.out.length oc) ∧ W.cell? ⟨g, 11, none⟩ = some (.iface T v)) (first | exact HK.out _ (Below.refl _ _).drew | exact HK1.out) (first | (go_at_call 188; refine (HP.out _ (Below.refl _ _).drew).mono ?_; rintro _ w1 ⟨rfl, hS⟩; obtain ⟨O1, hO1, hO2, hO3⟩ := On.step hT (On.below hT HH.out (Below.refl _ _).drew) hS; have HK1 := hide (And.intro hO1.way.cs.2.2.2.2.1 hO1.way.cs.2.2.2.2.2.2.2.2.2.2.2); have HO1 := hide hO1; have HO2 := hide hO2; have HO3 := hide ((Turned.of_below (S := O) (Below.refl _ w).drew).trans hO3 (fun _ _ e => e)); clear hO1 hO2 hO3 hS) | fail)
  have hs1 : w.heap.size ≤ w1.heap.size := HO3.out.size
  have c4 := HO1.out.way.cs.2.2.2.2.1
  have g4 := HO1.out.way.soft 4
  clear HP HK HK1
  go_wp2_with fail
  refine (behind_any x.out _ n w1 HO1.out.ls.so hfit).mono ?_
  rintro _ _ ⟨u, rfl, hu, hub, hnil, rfl⟩
  have HNil : Hid (de = 0 → u = .slice none 0 0) := hide (fun e => hnil (HAll.out e))
  obtain ⟨L, hL⟩ : ∃ L, L = x.out.drop n := ⟨_, rfl⟩
  rw [← hL] at hu
  have HL := hide hL
  clear hL
  have hu2 := hu
  obtain ⟨ua, uc, rfl, -⟩ := hu2
  have HW2 := hide (HO1.out.way.set (x' := { x with out := L }) (o' := .slice ua L.length uc) (i' := i) (b' := b) 4 (.slice ua L.length uc) rfl)
  have HOn2 := hide (On.at hT HO1.out HW2.out ((Turned.refl (fun k => k = g) w1).set (.inl rfl)) ⟨hu, HO1.out.ls.si, HO1.out.ls.sb, fun k e => HO1.out.ls.po k (hub k e), HO1.out.ls.pi, HO1.out.ls.pb⟩)
  have HT2 : Hid (Turned (fun k => O k ∨ k = g) w (w1.setCell ⟨g, 4, none⟩ (.slice ua L.length uc))) := hide ((HO3.out.mono fun k e => .inl e).set (.inl (.inr rfl)))
  clear hu hub hnil
  go_wp2_with fail
  refine (marked_any _ g de _ i b _ _ HW2.out).mono ?_
  rintro _ w3 ⟨rfl, hW3, hT3⟩
  have HOn3 := hide (On.at hT HOn2.out hW3 hT3 HOn2.out.ls.mark)
  have HT3 := hide (HT2.out.trans hT3 (fun _ _ e => .inr e))
  clear hW3 hT3
  go_wp2
  go_ret
  exact ⟨rfl, _, O1, by rw [← HL.out]; exact HOn3.out, HNil.out, HO2.out, HT3.out⟩
end Go.Proofs.YtkkommomefmpgaaGreat

/- Streams: a byte is put. -/
namespace Go.Proofs.YtkkommomefmpgaaGreat
open Go.RowKit

def WStep {S : Type} (At : World → (Nat → Prop) → S → Prop) (w : World) (O : Nat → Prop) (B g : Nat) (r : Value) (x : SS) (s : S) (w' : World) : Prop := ∃ o i b O', On At w' O' s B g x o i b r ∧ (∀ k, O' k → O k ∨ w.heap.size ≤ k) ∧ Turned (fun k => O k ∨ B ≤ k) w w'
theorem one_bys {W : World} {a : Nat} {c : UInt8} (hc : W.cell? ⟨a, 0, none⟩ = some (.int .u8 (c.toNat : Int))) : Bys W (.slice (some ⟨a, 0, none⟩) [c].length 1) [c] := by
  refine .inr (.inr ⟨a, 0, 1, rfl, by simp, fun j hj => ?_⟩)
  obtain rfl : j = 0 := by simp at hj; omega
  simpa using hc
set_option maxRecDepth 100000 in
set_option maxHeartbeats 4000000 in
theorem put_raw {S : Type} {D : RawD S} {T : TypeId} {v : Value} {fr fw : FuncId} {rok wok : S → Prop} {At : World → (Nat → Prop) → S → Prop} (R : RawM D T v fr fw rok wok At) (hT : ∀ s, OAt (fun w O => At w O s)) {w : World} {O : Nat → Prop} {s : S} {B g : Nat} {x : SS} {o i b : Value} (c : UInt8) (h : On At w O s B g x o i b (.iface T v)) (hm : x.mode = 1) (hok : putOk D wok [c] (putF [c]) s 0 0) :
    Calls Tryz.prog 115 #[.pointer (some ⟨g, 0, none⟩), .int .u8 (c.toNat : Int)] w fun en w' => en = .returned (.int .i64 (putV D [c] (putF [c]) s 0 0).2.1) ∧ WStep At w O B g (.iface T v) (x.mark (putV D [c] (putF [c]) s 0 0).2.1) (putV D [c] (putF [c]) s 0 0).2.2 w' := by
  have HP := hide (fun (W : World) (a : Nat) (hW : Below w.heap.size w W) (hc : W.cell? ⟨a, 0, none⟩ = some (.int .u8 (c.toNat : Int))) (ha : w.heap.size ≤ a) => rput_any R (w := W) (O := O) (s := s) [c] (some ⟨a, 0, none⟩) 1 (R.keep h.raw (fun j _ hj => hW.block j hj) hW.size) (fun j e => Nat.lt_of_lt_of_le (h.ol j e) hW.size) (one_bys hc) (by simp) (by simp) (fun _ k e e' => by
    have : a = k := by simpa [Value.ownBlock] using e
    have := h.ol k e'
    omega) hok)
  have HH := hide h
  generalize putV D [c] (putF [c]) s 0 0 = X at *
  obtain ⟨n, e, s2⟩ := X
  simp only at HP ⊢
  obtain ⟨c0, c1, c2, c3, c4, c5, c6, c7, c8, c9, c10, c11⟩ := h.way.cs
  rw [hm] at c2
  have HBa : Hid (Below w.heap.size w (w.alloc (Obj.cells #[.int .u8 (c.toNat : Int)] 5))) := hide (recv_below w _)
  clear h hok c0 c1 c3 c4 c5 c6 c7 c8 c9 c10
  go_enter Tryz.func115, Tryz.ntmps115
  go_wp2_with fail
  refine (HP.out _ w.heap.size HBa.out (cell_one_new _ _ _ 0 _ rfl) (Nat.le_refl _)).mono ?_
  rintro _ w1 ⟨rfl, hS⟩
  obtain ⟨O1, hO1, hO2, hO3⟩ := On.step hT (On.below hT HH.out HBa.out) hS
  have HO1 := hide hO1
  have HO2 : Hid (∀ k, O1 k → O k ∨ w.heap.size ≤ k) := hide (fun k e => (hO2 k e).imp id (fun e => Nat.le_trans HBa.out.size e))
  have HO3 := hide ((Turned.of_below (S := O) HBa.out).trans hO3 (fun _ _ e => e))
  clear hO1 hO2 hO3 hS HP
  go_wp2_with fail
  refine (marked_any _ g e _ i b _ _ HO1.out.way).mono ?_
  rintro _ w3 ⟨rfl, hW3, hT3⟩
  have HOn3 := hide (On.at hT HO1.out hW3 hT3 HO1.out.ls.mark)
  have HT3 := hide ((HO3.out.mono (fun k e => (.inl e : O k ∨ k = g))).trans hT3 (fun _ _ e => .inr e))
  clear hW3 hT3
  go_wp2
  go_ret
  exact ⟨rfl, _, _, _, O1, HOn3.out, HO2.out, HT3.out.mono fun k e => e.imp id (fun e => by have := HH.out.gB; omega)⟩
theorem Sl.empty {W W' : World} {v : Value} (h : Sl W v []) : Sl W' v [] := by
  obtain ⟨a, c, rfl, hb, hc⟩ := h
  cases a with
  | none =>
    rcases hb with ⟨h1, -⟩ | ⟨a, cap, h1, -⟩ | ⟨b, off, cap, h1, h2, -⟩
    · exact ⟨none, c, rfl, .inl ⟨h1, rfl⟩, hc⟩
    · cases h1
    · cases h1
  | some a => exact ⟨some a, c, rfl, .inr (.inl ⟨a, c, rfl, rfl⟩), hc⟩
theorem out_more {w : World} {O : Nat → Prop} {B g : Nat} {x : SS} {o i b : Value} (c : UInt8) (hl : SIn w (fun k => B ≤ k ∧ ¬ O k ∧ k ≠ g ∧ k < w.heap.size) x o i b) (ho : w.ownsRow B 5 1 o x.out.length (x.out.map bv)) (hn : x.out.length ≤ 65536) (hB : B ≤ w.heap.size) (hO : ∀ j, O j → j < w.heap.size) (hg : g < w.heap.size)
    (hi : x.inn = []) (hb : x.back = []) :
    ∃ a k w2, (Builtin.append_ #[40, 40] 40 #[o, .slice (some ⟨w.heap.size, 0, none⟩) 1 1]).run Tryz.prog (w.alloc (Obj.cells #[.int .u8 (c.toNat : Int)] 5)) = .ok (.slice a (x.out ++ [c]).length k) w2 ∧
      SIn w2 (fun k => B ≤ k ∧ ¬ O k ∧ k ≠ g ∧ k < w2.heap.size) { x with out := x.out ++ [c] } (.slice a (x.out ++ [c]).length k) i b ∧ Turned (fun k => B ≤ k ∧ ¬ O k ∧ k ≠ g) w w2 := by
  have hBa := recv_below w (Obj.cells #[.int .u8 (c.toNat : Int)] 5)
  have hz : (w.alloc (Obj.cells #[.int .u8 (c.toNat : Int)] 5)).heap.size = w.heap.size + 1 := Array.size_push ..
  obtain ⟨s', w2, hrun, HO, hgr, hbl⟩ := run_append_bytes (w.alloc (Obj.cells #[.int .u8 (c.toNat : Int)] 5)) 40 B o (.slice (some ⟨w.heap.size, 0, none⟩) 1 1) x.out [c] (owns_below ho hBa) (one_bys (cell_one_new _ _ _ 0 _ rfl)) (by simp; omega) (by omega)
  obtain ⟨a, k, rfl⟩ := owns_slice HO.out
  have hz2 := hgr.size
  have hTu : Turned (fun k => o.ownBlock = some k) w w2 := (Turned.of_below hBa).grown hgr (fun k e => .inl e)
  refine ⟨a, k, w2, hrun, ⟨Sl.own HO.out, by rw [hi]; exact (hi ▸ hl.si).empty, by rw [hb]; exact (hb ▸ hl.sb).empty, fun k e => ?_, fun k e => ?_, fun k e => ?_⟩, hTu.mono fun k e => ⟨(hl.po k e).1, (hl.po k e).2.1, (hl.po k e).2.2.1⟩⟩
  · rcases hbl with e' | e'
    · have := hl.po k (by rw [← e', e])
      exact ⟨this.1, this.2.1, this.2.2.1, by omega⟩
    · rw [e'] at e
      obtain rfl := Option.some.inj e
      rw [hz]
      exact ⟨by omega, fun e2 => by have := hO _ e2; omega, by omega, by have := (HO.out.lt _ e').2; omega⟩
  · have := hl.pi k e
    exact ⟨this.1, this.2.1, this.2.2.1, by omega⟩
  · have := hl.pb k e
    exact ⟨this.1, this.2.1, this.2.2.1, by omega⟩
end Go.Proofs.YtkkommomefmpgaaGreat

/- Streams: a byte is put into the buffer. -/
namespace Go.Proofs.YtkkommomefmpgaaGreat
open Go.RowKit

structure Laid {S : Type} (At : World → (Nat → Prop) → S → Prop) (w : World) (O : Nat → Prop) (s : S) (B g : Nat) (x : SS) (o i b r : Value) (c : UInt8) (L : List UInt8) (a : Option Addr) (k : Nat) (w2 : World) : Prop where
  len : L.length = x.out.length + 1
  eq : L = x.out ++ [c]
  run : (Builtin.append_ #[40, 40] 40 #[o, .slice (some ⟨w.heap.size, 0, none⟩) 1 1]).run Tryz.prog (w.alloc (Obj.cells #[.int .u8 (c.toNat : Int)] 5)) = .ok (.slice a L.length k) w2
  d4 : w2.cell? ⟨g, 4, none⟩ = some o
  g4 : w2.frozen? ⟨g, 4, none⟩ = false
  on : On At (w2.setCell ⟨g, 4, none⟩ (.slice a L.length k)) O s B g { x with out := L } (.slice a L.length k) i b r
  tu : Turned (fun k => O k ∨ B ≤ k) w (w2.setCell ⟨g, 4, none⟩ (.slice a L.length k))
theorem laid_any {S : Type} {At : World → (Nat → Prop) → S → Prop} (hT : ∀ s, OAt (fun w O => At w O s)) {w : World} {O : Nat → Prop} {s : S} {B g : Nat} {x : SS} {o i b r : Value} (c : UInt8) (h : On At w O s B g x o i b r) (ho : w.ownsRow B 5 1 o x.out.length (x.out.map bv)) (hn : x.out.length ≤ 65536) (hB : B ≤ w.heap.size) (hi : x.inn = []) (hb : x.back = []) :
    ∃ L a k w2, Laid At w O s B g x o i b r c L a k w2 := by
  obtain ⟨a, k, w2, hrun, hIn, hTu⟩ := out_more c h.ls ho hn hB h.ol h.way.lt hi hb
  have hz := hTu.size
  have hW := h.way.turned hTu (fun e => e.2.2 rfl)
  have hR := (hT s).keep h.raw (fun j e hj => hTu.block j hj (fun e' => e'.2.1 e)) hz
  refine ⟨x.out ++ [c], a, k, w2, by simp, rfl, hrun, hW.cs.2.2.2.2.1, hW.soft 4, ?_, ?_⟩
  · have hWy := hW.set (x' := { x with out := x.out ++ [c] }) (o' := .slice a (x.out ++ [c]).length k) (i' := i) (b' := b) 4 (.slice a (x.out ++ [c]).length k) rfl
    have hz3 : (w2.setCell ⟨g, 4, none⟩ (.slice a (x.out ++ [c]).length k)).heap.size = w2.heap.size := by simp [World.setCell]
    have hT3 : Turned (fun k => k = g) w2 (w2.setCell ⟨g, 4, none⟩ (.slice a (x.out ++ [c]).length k)) := (Turned.refl (fun k => k = g) w2).set (.inl rfl)
    exact ⟨hWy, (hIn.turned hT3 fun k e _ => e.2.2.1).mono fun k e => ⟨e.1, e.2.1, e.2.2.1, by rw [hz3]; exact e.2.2.2⟩, (hT s).keep hR (fun j e hj => hT3.block j hj (fun e' => h.og (e' ▸ e))) hT3.size, h.og, h.gB, fun j e => by rw [hz3]; exact Nat.lt_of_lt_of_le (h.ol j e) hz⟩
  · exact (hTu.mono fun k e => .inr e.1).set (.inl (.inr h.gB))
set_option maxRecDepth 100000 in
set_option maxHeartbeats 4000000 in
theorem put_lay {S : Type} {D : RawD S} {T : TypeId} {v : Value} {fr fw : FuncId} {rok wok : S → Prop} {At : World → (Nat → Prop) → S → Prop} (R : RawM D T v fr fw rok wok At) (hT : ∀ s, OAt (fun w O => At w O s)) {w : World} {O : Nat → Prop} {s : S} {B g : Nat} {x : SS} {o i b : Value} (c : UInt8) (h : On At w O s B g x o i b (.iface T v)) (ho : w.ownsRow B 5 1 o x.out.length (x.out.map bv)) (hB : B ≤ w.heap.size) (hm : ¬ x.mode = 1) (hs : x.size ≤ 65536) (hf : (x.out.length : Int) < x.size) (hi : x.inn = []) (hb : x.back = []) (hok : putOk D wok (x.out ++ [c]) (putF (x.out ++ [c])) s 0 0) :
    Calls Tryz.prog 115 #[.pointer (some ⟨g, 0, none⟩), .int .u8 (c.toNat : Int)] w fun en w' => en = .returned (.int .i64 (x.lay D s c).2.1) ∧ WStep At w O B g (.iface T v) (x.lay D s c).1 (x.lay D s c).2.2 w' := by
  obtain ⟨oa, oc, rfl, -⟩ := h.ls.so
  have hgB := h.gB
  have HF0 := hide (isFull_any x g oa oc i b _ w h.way)
  have hne : decide ((x.out.length : Int) = x.size) = false := decide_eq_false (by omega)
  rw [hne] at HF0
  have HOn := hide h
  obtain ⟨c0, c1, c2, c3, c4, c5, c6, c7, c8, c9, c10, c11⟩ := h.way.cs
  have hm1 : (x.mode == 1) = false := by simp [hm]
  generalize hq : x.lay D s c = q
  obtain ⟨qx, qe, qs⟩ := q
  unfold SS.lay at hq
  have HOw := hide ho
  clear h ho hne c0 c1 c3 c4 c5 c6 c7 c8 c9 c10 c11
  go_enter Tryz.func115, Tryz.ntmps115
  go_wp2_with fail
  refine HF0.out.mono ?_
  rintro _ w1 ⟨rfl, hB1⟩
  have HOn1 := hide (On.below hT HOn.out hB1)
  have HT1 := hide (Turned.of_below (S := fun k => O k ∨ B ≤ k) hB1)
  have hs1 := hB1.size
  have hOw1 := owns_below HOw.out hB1
  clear hB1 c2
  obtain ⟨L, a, k, w2, hL⟩ := laid_any hT c HOn1.out hOw1 (by omega) (by omega) hi hb
  have HL := hide hL
  have HLl := hide hL.len
  have HLe := hide hL.eq
  rw [← hL.eq] at hok
  rw [← hL.eq] at hq
  have HOk := hide hok
  clear hL hOw1 hok
  have HR := hide HL.out.run
  have c4 := HOn1.out.way.cs.2.2.2.2.1
  have d4 := HL.out.d4
  have g4 := HL.out.g4
  go_wp2_with (first | (at_builtin; refine Lib.wpList_append_run _ rfl _ _ _ _ rfl _ _ rfl rfl _ _ HR.out ?_) | fail)
  refine (isFull_any _ g _ _ i b _ _ HL.out.on.way).mono ?_
  rintro _ w3 ⟨rfl, hB3⟩
  have HOn3 := hide (On.below hT HL.out.on hB3)
  have HT3 := hide ((HT1.out.trans HL.out.tu (fun _ _ e => e)).trans (Turned.of_below hB3) (fun _ _ e => e))
  have hs3 := hB3.size
  clear hB3 c4 d4 g4
  by_cases hfull : ((x.out.length + 1 : Nat) : Int) = x.size
  · rw [if_pos (.inl hfull)] at hq
    have HQ := hide hq
    rw [show decide ((L.length : Int) = x.size) = true from decide_eq_true (by have := HLl.out; omega)]
    clear hq
    go_wp2_with fail
    refine (deliver_any R hT HOn3.out (by show L.length ≤ 65536; have := HLl.out; omega) HOk.out).mono ?_
    rintro _ w4 ⟨rfl, o', O', hO4, -, hO5, hT4⟩
    have HOn4 := hide hO4
    have HO5 : Hid (∀ k, O' k → O k ∨ w.heap.size ≤ k) := hide (fun k e => (hO5 k e).imp id (fun e => by have := HT3.out.size; omega))
    have HT4 := hide (HT3.out.trans hT4 (fun k _ e => e.imp id (fun e => by omega)))
    clear hO4 hO5 hT4
    rw [HQ.out] at HOn4 ⊢
    go_wp2
    go_ret
    exact ⟨rfl, _, _, _, O', HOn4.out, HO5.out, HT4.out⟩
  have hfd : decide ((L.length : Int) = x.size) = false := decide_eq_false (by have := HLl.out; omega)
  rw [hfd]
  obtain ⟨c0, c1, c2, c3, c4, c5, c6, c7, c8, c9, c10, c11⟩ := HOn3.out.way.cs
  by_cases hl2 : x.mode = 2
  · by_cases hc : c = 10
    · rw [if_pos (.inr ⟨hl2, hc⟩)] at hq
      have HQ := hide hq
      have hcc : ((c.toNat : Int) == 10) = true := by rw [hc]; rfl
      have hce : (c.toNat : Int) = 10 := by rw [hc]; rfl
      rw [hl2] at c2
      clear hq hc hfd hm1 hm
      go_wp2_with fail
      refine (deliver_any R hT HOn3.out (by show L.length ≤ 65536; have := HLl.out; omega) HOk.out).mono ?_
      rintro _ w4 ⟨rfl, o', O', hO4, -, hO5, hT4⟩
      have HOn4 := hide hO4
      have HO5 : Hid (∀ k, O' k → O k ∨ w.heap.size ≤ k) := hide (fun k e => (hO5 k e).imp id (fun e => by have := HT3.out.size; omega))
      have HT4 := hide (HT3.out.trans hT4 (fun k _ e => e.imp id (fun e => by omega)))
      clear hO4 hO5 hT4 c0 c1 c2 c3 c4 c5 c6 c7 c8 c9 c10 c11
      rw [HQ.out] at HOn4 ⊢
      go_wp2
      go_ret
      exact ⟨rfl, _, _, _, O', HOn4.out, HO5.out, HT4.out⟩
    · rw [if_neg (fun e => e.elim hfull (fun e => hc e.2))] at hq
      obtain ⟨rfl, rfl, rfl⟩ : { x with out := L } = qx ∧ 0 = qe ∧ s = qs := by simpa using hq
      have hcn : ¬ (c.toNat : Int) = 10 := fun e => hc (UInt8.toNat_inj.1 (by show c.toNat = 10; omega))
      have hcc : ((c.toNat : Int) == 10) = false := by simp only [beq_eq_false_iff_ne]; exact hcn
      rw [hl2] at c2
      clear hq hc hfd hm1 hm
      go_wp2
      go_ret
      exact ⟨rfl, _, _, _, O, HOn3.out, fun _ e => .inl e, HT3.out⟩
  · rw [if_neg (fun e => e.elim hfull (fun e => hl2 e.1))] at hq
    obtain ⟨rfl, rfl, rfl⟩ : { x with out := L } = qx ∧ 0 = qe ∧ s = qs := by simpa using hq
    have hm2 : (x.mode == 2) = false := by simp [hl2]
    clear hq hfd
    go_wp2
    go_ret
    exact ⟨rfl, _, _, _, O, HOn3.out, fun _ e => .inl e, HT3.out⟩
set_option maxRecDepth 100000 in
set_option maxHeartbeats 4000000 in
theorem put_full {S : Type} {D : RawD S} {T : TypeId} {v : Value} {fr fw : FuncId} {rok wok : S → Prop} {At : World → (Nat → Prop) → S → Prop} (R : RawM D T v fr fw rok wok At) (hT : ∀ s, OAt (fun w O => At w O s)) {w : World} {O : Nat → Prop} {s : S} {B g : Nat} {x : SS} {o i b : Value} (c : UInt8) (h : On At w O s B g x o i b (.iface T v)) (ho : w.ownsRow B 5 1 o x.out.length (x.out.map bv)) (hB : B ≤ w.heap.size) (hm : ¬ x.mode = 1) (hs : x.size ≤ 65536) (hf : (x.out.length : Int) = x.size) (h1 : 1 ≤ x.size) (hi : x.inn = []) (hb : x.back = []) (hok0 : putOk D wok x.out (putF x.out) s 0 0) (hok : (x.deliver D s).2.1 = 0 → putOk D wok [c] (putF [c]) (x.deliver D s).2.2 0 0) :
    Calls Tryz.prog 115 #[.pointer (some ⟨g, 0, none⟩), .int .u8 (c.toNat : Int)] w fun en w' => en = .returned (.int .i64 ((if (x.deliver D s).2.1 = 0 then (x.deliver D s).1.lay D (x.deliver D s).2.2 c else x.deliver D s)).2.1) ∧ WStep At w O B g (.iface T v) ((if (x.deliver D s).2.1 = 0 then (x.deliver D s).1.lay D (x.deliver D s).2.2 c else x.deliver D s)).1 ((if (x.deliver D s).2.1 = 0 then (x.deliver D s).1.lay D (x.deliver D s).2.2 c else x.deliver D s)).2.2 w' := by
  obtain ⟨oa, oc, rfl, -⟩ := h.ls.so
  have hgB := h.gB
  have HF0 := hide (isFull_any x g oa oc i b _ w h.way)
  have hne : decide ((x.out.length : Int) = x.size) = true := decide_eq_true hf
  rw [hne] at HF0
  have HOn := hide h
  obtain ⟨c0, c1, c2, c3, c4, c5, c6, c7, c8, c9, c10, c11⟩ := h.way.cs
  have hm1 : (x.mode == 1) = false := by simp [hm]
  generalize hq : (if (x.deliver D s).2.1 = 0 then (x.deliver D s).1.lay D (x.deliver D s).2.2 c else x.deliver D s) = q
  obtain ⟨qx, qe, qs⟩ := q
  have HDel := hide (fun (W : World) (hW : Below w.heap.size w W) => deliver_any R hT (On.below hT h hW) (by omega) hok0)
  have HDok := hide (deliver_ok D x s)
  obtain ⟨dx, de, ds, hd⟩ : ∃ dx de ds, x.deliver D s = (dx, de, ds) := ⟨_, _, _, rfl⟩
  rw [hd] at hq hok HDel HDok
  simp only at hq hok HDel HDok
  clear h ho hne hd hok0 c0 c1 c3 c4 c5 c6 c7 c8 c9 c10 c11
  go_enter Tryz.func115, Tryz.ntmps115
  go_wp2_with fail
  refine HF0.out.mono ?_
  rintro _ w1 ⟨rfl, hB1⟩
  have hs1 := hB1.size
  have HB1 := hide hB1
  clear hB1 c2
  go_wp2_with fail
  refine (HDel.out _ HB1.out).mono ?_
  rintro _ w2 ⟨rfl, o', O', hO4, hnil, hO5, hT4⟩
  have HOn2 := hide hO4
  have hs2 := hT4.size
  have HO5 : Hid (∀ k, O' k → O k ∨ w.heap.size ≤ k) := hide (fun k e => (hO5 k e).imp id (fun e => by omega))
  have HT2 := hide ((Turned.of_below (S := fun k => O k ∨ B ≤ k) HB1.out).trans hT4 (fun k _ e => e.imp id (fun e => by omega)))
  clear hO4 hO5 hT4
  by_cases hde : de = 0
  case neg =>
    rw [if_neg hde] at hq
    obtain ⟨rfl, rfl, rfl⟩ : dx = qx ∧ de = qe ∧ ds = qs := by simpa using hq
    have hd1 : (de != 0) = true := by simp [hde]
    clear hq
    go_wp2
    go_ret
    exact ⟨rfl, _, _, _, O', HOn2.out, HO5.out, HT2.out⟩
  rw [if_pos hde] at hq
  obtain rfl := hnil hde
  have hdx := HDok.out hde
  subst hde hdx
  unfold SS.lay at hq
  have hok := hok rfl
  clear hnil
  obtain ⟨L, a, k, w2x, hL⟩ := laid_any hT c HOn2.out (World.ownsRow_nil _ _ _ _) (by simp) (by omega) hi hb
  have HL := hide hL
  have HLl := hide hL.len
  have HLe := hide hL.eq
  rw [show ([c] : List UInt8) = L from hL.eq.symm] at hok
  rw [← hL.eq] at hq
  have HOk := hide hok
  clear hL hok
  have HR := hide HL.out.run
  have c4 := HOn2.out.way.cs.2.2.2.2.1
  have d4 := HL.out.d4
  have g4 := HL.out.g4
  go_wp2_with (first | (at_builtin; refine Lib.wpList_append_run _ rfl _ _ _ _ rfl _ _ rfl rfl _ _ HR.out ?_) | fail)
  refine (isFull_any _ g _ _ i b _ _ HL.out.on.way).mono ?_
  rintro _ w3 ⟨rfl, hB3⟩
  have HOn3 := hide (On.below hT HL.out.on hB3)
  have HT3 := hide ((HT2.out.trans HL.out.tu (fun k _ e => e.elim (fun e => (HO5.out k e).imp id (fun e => Nat.le_trans hB e)) .inr)).trans (Turned.of_below hB3) (fun _ _ e => e))
  have hs3 := hB3.size
  clear hB3 c4 d4 g4
  by_cases hfull : ((([] : List UInt8).length + 1 : Nat) : Int) = x.size
  · rw [if_pos (.inl hfull)] at hq
    have HQ := hide hq
    rw [show decide ((L.length : Int) = x.size) = true from decide_eq_true (by have := HLl.out; simp only [List.length_nil] at *; omega)]
    clear hq
    go_wp2_with fail
    refine (deliver_any R hT HOn3.out (by show L.length ≤ 65536; have := HLl.out; simp only [List.length_nil] at this; omega) HOk.out).mono ?_
    rintro _ w4 ⟨rfl, o2, O2, hO4, -, hO6, hT4⟩
    have HOn4 := hide hO4
    have HO6 : Hid (∀ k, O2 k → O k ∨ w.heap.size ≤ k) := hide (fun k e => (hO6 k e).elim (fun e => HO5.out k e) (fun e => .inr (by have := HT3.out.size; omega)))
    have HT4 := hide (HT3.out.trans hT4 (fun k _ e => e.elim (fun e => (HO5.out k e).imp id (fun e => Nat.le_trans hB e)) (fun e => .inr (by omega))))
    clear hO4 hO6 hT4
    rw [HQ.out] at HOn4 ⊢
    go_wp2
    go_ret
    exact ⟨rfl, _, _, _, O2, HOn4.out, HO6.out, HT4.out⟩
  have hfd : decide ((L.length : Int) = x.size) = false := decide_eq_false (by have := HLl.out; simp only [List.length_nil] at *; omega)
  rw [hfd]
  obtain ⟨c0, c1, c2, c3, c4, c5, c6, c7, c8, c9, c10, c11⟩ := HOn3.out.way.cs
  by_cases hl2 : x.mode = 2
  · by_cases hc : c = 10
    · rw [if_pos (.inr ⟨hl2, hc⟩)] at hq
      have HQ := hide hq
      have hcc : ((c.toNat : Int) == 10) = true := by rw [hc]; rfl
      have hce : (c.toNat : Int) = 10 := by rw [hc]; rfl
      rw [hl2] at c2
      clear hq hc hfd hm1 hm
      go_wp2_with fail
      refine (deliver_any R hT HOn3.out (by show L.length ≤ 65536; have := HLl.out; simp only [List.length_nil] at this; omega) HOk.out).mono ?_
      rintro _ w4 ⟨rfl, o2, O2, hO4, -, hO6, hT4⟩
      have HOn4 := hide hO4
      have HO6 : Hid (∀ k, O2 k → O k ∨ w.heap.size ≤ k) := hide (fun k e => (hO6 k e).elim (fun e => HO5.out k e) (fun e => .inr (by have := HT3.out.size; omega)))
      have HT4 := hide (HT3.out.trans hT4 (fun k _ e => e.elim (fun e => (HO5.out k e).imp id (fun e => Nat.le_trans hB e)) (fun e => .inr (by omega))))
      clear hO4 hO6 hT4 c0 c1 c2 c3 c4 c5 c6 c7 c8 c9 c10 c11
      rw [HQ.out] at HOn4 ⊢
      go_wp2
      go_ret
      exact ⟨rfl, _, _, _, O2, HOn4.out, HO6.out, HT4.out⟩
    · rw [if_neg (fun e => e.elim hfull (fun e => hc e.2))] at hq
      obtain ⟨rfl, rfl, rfl⟩ : { x with out := L } = qx ∧ 0 = qe ∧ ds = qs := by simpa using hq
      have hcn : ¬ (c.toNat : Int) = 10 := fun e => hc (UInt8.toNat_inj.1 (by show c.toNat = 10; omega))
      have hcc : ((c.toNat : Int) == 10) = false := by simp only [beq_eq_false_iff_ne]; exact hcn
      rw [hl2] at c2
      clear hq hc hfd hm1 hm
      go_wp2
      go_ret
      exact ⟨rfl, _, _, _, O', HOn3.out, HO5.out, HT3.out⟩
  · rw [if_neg (fun e => e.elim hfull (fun e => hl2 e.1))] at hq
    obtain ⟨rfl, rfl, rfl⟩ : { x with out := L } = qx ∧ 0 = qe ∧ ds = qs := by simpa using hq
    have hm2 : (x.mode == 2) = false := by simp [hl2]
    clear hq hfd
    go_wp2
    go_ret
    exact ⟨rfl, _, _, _, O', HOn3.out, HO5.out, HT3.out⟩
end Go.Proofs.YtkkommomefmpgaaGreat

/- Streams: put; fill, get. -/
namespace Go.Proofs.YtkkommomefmpgaaGreat
open Go.RowKit

theorem wput_any {S : Type} {D : RawD S} {T : TypeId} {v : Value} {fr fw : FuncId} {rok wok : S → Prop} {At : World → (Nat → Prop) → S → Prop} (R : RawM D T v fr fw rok wok At) (hT : ∀ s, OAt (fun w O => At w O s)) {G : Nat → S → Prop} (hG : BearsW D wok G) {w : World} {O : Nat → Prop} {s : S} {B g : Nat} {x : SS} {o i b : Value} (c : UInt8) (h : On At w O s B g x o i b (.iface T v)) (ho : w.ownsRow B 5 1 o x.out.length (x.out.map bv)) (hB : B ≤ w.heap.size) (h1 : 1 ≤ x.size) (hs : x.size ≤ 65536) (hf : (x.out.length : Int) ≤ x.size) (hi : x.inn = []) (hb : x.back = []) (hg : G 2 s) :
    (Calls Tryz.prog 115 #[.pointer (some ⟨g, 0, none⟩), .int .u8 (c.toNat : Int)] w fun en w' => en = .returned (.int .i64 (x.put1 D s c).2.1) ∧ WStep At w O B g (.iface T v) (x.put1 D s c).1 (x.put1 D s c).2.2 w') ∧ G 0 (x.put1 D s c).2.2 := by
  unfold SS.put1
  by_cases hm : x.mode = 1
  · rw [if_pos hm]
    have := hG.put 1 s [c] hg (by simp)
    exact ⟨put_raw R hT c h hm this.1, hG.less _ _ this.2⟩
  rw [if_neg hm]
  by_cases he : (x.out.length : Int) = x.size
  · rw [if_pos he]
    have h0 := hG.put 1 s x.out hg (by omega)
    have h2 := hG.put 0 (x.deliver D s).2.2 [c] h0.2 (by simp)
    refine ⟨put_full R hT c h ho hB hm hs he h1 hi hb h0.1 (fun _ => h2.1), ?_⟩
    by_cases hd : (x.deliver D s).2.1 = 0
    · rw [if_pos hd, deliver_ok D x s hd]
      unfold SS.lay
      split
      · exact h2.2
      · exact hG.less _ _ h0.2
    · rw [if_neg hd]
      exact hG.less _ _ h0.2
  · rw [if_neg he]
    have h0 := hG.put 1 s (x.out ++ [c]) hg (by simp; omega)
    refine ⟨put_lay R hT c h ho hB hm hs (by omega) hi hb h0.1, ?_⟩
    unfold SS.lay
    split
    · exact hG.less _ _ h0.2
    · exact hG.less _ _ (hG.less _ _ hg)
def SS.fill {S : Type} (D : RawD S) (x : SS) (s : S) : SS × Int × S :=
  if x.fin = true then (x, 111, s)
  else if (someV D x.most 8192 s).2.1 ≠ 0 then (x.mark (someV D x.most 8192 s).2.1, (someV D x.most 8192 s).2.1, (someV D x.most 8192 s).2.2)
  else if (someV D x.most 8192 s).1.length = 0 then ({ x with fin := true }, 111, (someV D x.most 8192 s).2.2)
  else ({ x with inn := (someV D x.most 8192 s).1 }, 0, (someV D x.most 8192 s).2.2)
theorem SIn.kin {W : World} {P : Nat → Prop} {x y : SS} {o i b : Value} (h : SIn W P x o i b) (h1 : y.out = x.out) (h2 : y.inn = x.inn) (h3 : y.back = x.back) : SIn W P y o i b := ⟨h1 ▸ h.so, h2 ▸ h.si, h3 ▸ h.sb, h.po, h.pi, h.pb⟩
set_option maxRecDepth 100000 in
set_option maxHeartbeats 4000000 in
theorem fill_any {S : Type} {D : RawD S} {T : TypeId} {v : Value} {fr fw : FuncId} {rok wok : S → Prop} {At : World → (Nat → Prop) → S → Prop} (R : RawM D T v fr fw rok wok At) (hT : ∀ s, OAt (fun w O => At w O s)) {w : World} {O : Nat → Prop} {s : S} {B g : Nat} {x : SS} {o i b : Value} (h : On At w O s B g x o i b (.iface T v)) (hB : B ≤ w.heap.size) (h1 : 1 ≤ x.size) (hs : x.size ≤ 65536) (hok : x.fin = false → someOk D rok x.most 8192 s) :
    Calls Tryz.prog 210 #[.pointer (some ⟨g, 0, none⟩)] w fun en w' => en = .returned (.int .i64 (x.fill D s).2.1) ∧ ∃ i', On At w' O (x.fill D s).2.2 B g (x.fill D s).1 o i' b (.iface T v) ∧ Turned (fun k => O k ∨ k = g) w w' := by
  obtain ⟨c0, c1, c2, c3, c4, c5, c6, c7, c8, c9, c10, c11⟩ := h.way.cs
  generalize hq : x.fill D s = q
  obtain ⟨qx, qe, qs⟩ := q
  unfold SS.fill at hq
  rcases Bool.eq_false_or_eq_true x.fin with hf | hf
  · rw [if_pos hf] at hq
    obtain ⟨rfl, rfl, rfl⟩ : x = qx ∧ 111 = qe ∧ s = qs := by simpa using hq
    have HH := hide h
    rw [hf] at c8
    clear h hq hok c0 c1 c2 c3 c4 c5 c6 c7 c9 c10 c11 hf
    go_enter Tryz.func210, Tryz.ntmps210
    go_wp2
    go_ret
    exact ⟨rfl, _, HH.out, Turned.refl _ _⟩
  rw [if_neg (by simp [hf])] at hq
  have hok := hok hf
  rw [hf] at c8
  have g5 := h.way.soft 5
  have g8 := h.way.soft 8
  have hmost : 1 ≤ x.most ∧ x.most ≤ 65536 := by
    unfold SS.most
    split <;> omega
  have HSm := hide (some_any R x.most h.raw hmost.1 (by omega) hok)
  obtain ⟨m, hm⟩ : ∃ m, m = x.most := ⟨_, rfl⟩
  rw [← hm] at HSm hq hmost
  have HH := hide h
  have HHol := hide h.ol
  generalize someV D m 8192 s = X at *
  obtain ⟨L, e, s2⟩ := X
  simp only at HSm hq
  have HQ := hide hq
  clear h hok hq
  have HFin : Hid (∀ (u : Value) (w1 : World), w1.ownsRow w.heap.size 5 1 u L.length (L.map bv) → At w1 O s2 → Turned O w w1 → On At w1 O s2 B g x o i b (.iface T v) ∧ Sl w1 u L ∧ ∀ k, u.ownBlock = some k → B ≤ k ∧ ¬ O k ∧ k ≠ g ∧ k < w1.heap.size) := hide (fun u w1 a1 a2 a3 => by
    have hz := a3.size
    refine ⟨⟨HH.out.way.turned a3 HH.out.og, (HH.out.ls.turned a3 fun k e _ => e.2.1).mono fun k e => ⟨e.1, e.2.1, e.2.2.1, by have := e.2.2.2; omega⟩, a2, HH.out.og, HH.out.gB, fun j e => Nat.lt_of_lt_of_le (HHol.out j e) hz⟩, Sl.own a1, fun k e => ?_⟩
    have hk := a1.lt k e
    exact ⟨by omega, fun e' => by have := HHol.out k e'; omega, fun e' => by have := HH.out.way.lt; omega, hk.2⟩)
  clear g5 g8 c0 c1 c4 c5 c6 c7 c9 c10
  have hm2 : x.most = if x.mode = 1 then 1 else x.size.toNat := rfl
  by_cases hmd : x.mode = 1
  · rw [if_pos hmd] at hm2
    rw [← hm] at hm2
    subst hm2
    rw [hmd] at c2
    clear hm
    by_cases he : e = 0
    case neg =>
      have hq := HQ.out
      rw [if_pos he] at hq
      obtain ⟨rfl, rfl, rfl⟩ : x.mark e = qx ∧ e = qe ∧ s2 = qs := by simpa using hq
      have he2 : (e != 0) = true := by simp [he]
      clear hq HQ
      go_enter Tryz.func210, Tryz.ntmps210
      go_wp2_with fail
      refine HSm.out.mono ?_
      rintro _ w1 ⟨u, rfl, a1, a2, a3⟩
      obtain ⟨ua, uc, rfl⟩ := owns_slice a1
      obtain ⟨q1, q2, q3⟩ := HFin.out _ w1 a1 a2 a3
      have HOn1 := hide q1
      have HT1 := hide (a3.mono fun k e => (.inl e : O k ∨ k = g))
      clear q1 q2 q3 a1 a2 a3
      go_wp2_with fail
      refine (marked_any _ g e _ _ _ _ _ HOn1.out.way).mono ?_
      rintro _ w3 ⟨rfl, hW3, hT3⟩
      have HOn3 := hide (On.at hT HOn1.out hW3 hT3 HOn1.out.ls.mark)
      have HT3 := hide (HT1.out.trans hT3 (fun _ _ e => .inr e))
      clear hW3 hT3
      go_wp2
      go_ret
      exact ⟨rfl, _, HOn3.out, HT3.out⟩
    subst he
    by_cases hl : L.length = 0
    · have hq := HQ.out
      rw [if_neg (by simp), if_pos hl] at hq
      obtain ⟨rfl, rfl, rfl⟩ : { x with fin := true } = qx ∧ 111 = qe ∧ s2 = qs := by simpa using hq
      rw [hl] at HSm
      clear hq HQ
      go_enter Tryz.func210, Tryz.ntmps210
      go_wp2_with fail
      refine HSm.out.mono ?_
      rintro _ w1 ⟨u, rfl, a1, a2, a3⟩
      obtain ⟨ua, uc, rfl⟩ := owns_slice a1
      obtain ⟨q1, q2, q3⟩ := HFin.out _ w1 (by rw [hl]; exact a1) a2 a3
      have HOn1 := hide q1
      have HT1 := hide (a3.mono fun k e => (.inl e : O k ∨ k = g))
      clear q1 q2 q3 a1 a2 a3
      have d8 := HOn1.out.way.cs.2.2.2.2.2.2.2.2.1
      have g8 := HOn1.out.way.soft 8
      have HWy := hide (HOn1.out.way.set (x' := { x with fin := true }) (o' := o) (i' := i) (b' := b) 8 (.bool true) rfl)
      have HOn2 := hide (On.at hT HOn1.out HWy.out ((Turned.refl (fun k => k = g) w1).set (.inl rfl)) (HOn1.out.ls.kin rfl rfl rfl))
      go_wp2
      go_ret
      exact ⟨rfl, _, HOn2.out, HT1.out.set (.inl (.inr rfl))⟩
    · have hq := HQ.out
      rw [if_neg (by simp), if_neg hl] at hq
      obtain ⟨rfl, rfl, rfl⟩ : { x with inn := L } = qx ∧ 0 = qe ∧ s2 = qs := by simpa using hq
      have hl2 : ((L.length : Int) == 0) = false := by simp only [beq_eq_false_iff_ne]; omega
      have hl3 : ¬ L = [] := fun e => hl (by rw [e]; rfl)
      clear hq HQ
      go_enter Tryz.func210, Tryz.ntmps210
      go_wp2_with fail
      refine HSm.out.mono ?_
      rintro _ w1 ⟨u, rfl, a1, a2, a3⟩
      obtain ⟨ua, uc, rfl⟩ := owns_slice a1
      obtain ⟨q1, q2, q3⟩ := HFin.out _ w1 a1 a2 a3
      have HOn1 := hide q1
      have HT1 := hide (a3.mono fun k e => (.inl e : O k ∨ k = g))
      have HQ2 := hide (And.intro q2 q3)
      clear q1 q2 q3 a1 a2 a3
      have d5 := HOn1.out.way.cs.2.2.2.2.2.1
      have g5 := HOn1.out.way.soft 5
      have HWy := hide (HOn1.out.way.set (x' := { x with inn := L }) (o' := o) (i' := .slice ua L.length uc) (b' := b) 5 (.slice ua L.length uc) rfl)
      have HOn2 := hide (On.at hT HOn1.out HWy.out ((Turned.refl (fun k => k = g) w1).set (.inl rfl)) ⟨HOn1.out.ls.so, HQ2.out.1, HOn1.out.ls.sb, HOn1.out.ls.po, HQ2.out.2, HOn1.out.ls.pb⟩)
      go_wp2
      go_ret
      exact ⟨rfl, _, HOn2.out, HT1.out.set (.inl (.inr rfl))⟩
  · rw [if_neg hmd] at hm2
    rw [← hm] at hm2
    have hsz : x.size = (m : Int) := by omega
    rw [hsz] at c3
    have hmb : (x.mode == 1) = false := by simp [hmd]
    clear hm2
    clear hm
    by_cases he : e = 0
    case neg =>
      have hq := HQ.out
      rw [if_pos he] at hq
      obtain ⟨rfl, rfl, rfl⟩ : x.mark e = qx ∧ e = qe ∧ s2 = qs := by simpa using hq
      have he2 : (e != 0) = true := by simp [he]
      clear hq HQ
      go_enter Tryz.func210, Tryz.ntmps210
      go_wp2_with fail
      refine HSm.out.mono ?_
      rintro _ w1 ⟨u, rfl, a1, a2, a3⟩
      obtain ⟨ua, uc, rfl⟩ := owns_slice a1
      obtain ⟨q1, q2, q3⟩ := HFin.out _ w1 a1 a2 a3
      have HOn1 := hide q1
      have HT1 := hide (a3.mono fun k e => (.inl e : O k ∨ k = g))
      clear q1 q2 q3 a1 a2 a3
      go_wp2_with fail
      refine (marked_any _ g e _ _ _ _ _ HOn1.out.way).mono ?_
      rintro _ w3 ⟨rfl, hW3, hT3⟩
      have HOn3 := hide (On.at hT HOn1.out hW3 hT3 HOn1.out.ls.mark)
      have HT3 := hide (HT1.out.trans hT3 (fun _ _ e => .inr e))
      clear hW3 hT3
      go_wp2
      go_ret
      exact ⟨rfl, _, HOn3.out, HT3.out⟩
    subst he
    by_cases hl : L.length = 0
    · have hq := HQ.out
      rw [if_neg (by simp), if_pos hl] at hq
      obtain ⟨rfl, rfl, rfl⟩ : { x with fin := true } = qx ∧ 111 = qe ∧ s2 = qs := by simpa using hq
      rw [hl] at HSm
      clear hq HQ
      go_enter Tryz.func210, Tryz.ntmps210
      go_wp2_with fail
      refine HSm.out.mono ?_
      rintro _ w1 ⟨u, rfl, a1, a2, a3⟩
      obtain ⟨ua, uc, rfl⟩ := owns_slice a1
      obtain ⟨q1, q2, q3⟩ := HFin.out _ w1 (by rw [hl]; exact a1) a2 a3
      have HOn1 := hide q1
      have HT1 := hide (a3.mono fun k e => (.inl e : O k ∨ k = g))
      clear q1 q2 q3 a1 a2 a3
      have d8 := HOn1.out.way.cs.2.2.2.2.2.2.2.2.1
      have g8 := HOn1.out.way.soft 8
      have HWy := hide (HOn1.out.way.set (x' := { x with fin := true }) (o' := o) (i' := i) (b' := b) 8 (.bool true) rfl)
      have HOn2 := hide (On.at hT HOn1.out HWy.out ((Turned.refl (fun k => k = g) w1).set (.inl rfl)) (HOn1.out.ls.kin rfl rfl rfl))
      go_wp2
      go_ret
      exact ⟨rfl, _, HOn2.out, HT1.out.set (.inl (.inr rfl))⟩
    · have hq := HQ.out
      rw [if_neg (by simp), if_neg hl] at hq
      obtain ⟨rfl, rfl, rfl⟩ : { x with inn := L } = qx ∧ 0 = qe ∧ s2 = qs := by simpa using hq
      have hl2 : ((L.length : Int) == 0) = false := by simp only [beq_eq_false_iff_ne]; omega
      have hl3 : ¬ L = [] := fun e => hl (by rw [e]; rfl)
      clear hq HQ
      go_enter Tryz.func210, Tryz.ntmps210
      go_wp2_with fail
      refine HSm.out.mono ?_
      rintro _ w1 ⟨u, rfl, a1, a2, a3⟩
      obtain ⟨ua, uc, rfl⟩ := owns_slice a1
      obtain ⟨q1, q2, q3⟩ := HFin.out _ w1 a1 a2 a3
      have HOn1 := hide q1
      have HT1 := hide (a3.mono fun k e => (.inl e : O k ∨ k = g))
      have HQ2 := hide (And.intro q2 q3)
      clear q1 q2 q3 a1 a2 a3
      have d5 := HOn1.out.way.cs.2.2.2.2.2.1
      have g5 := HOn1.out.way.soft 5
      have HWy := hide (HOn1.out.way.set (x' := { x with inn := L }) (o' := o) (i' := .slice ua L.length uc) (b' := b) 5 (.slice ua L.length uc) rfl)
      have HOn2 := hide (On.at hT HOn1.out HWy.out ((Turned.refl (fun k => k = g) w1).set (.inl rfl)) ⟨HOn1.out.ls.so, HQ2.out.1, HOn1.out.ls.sb, HOn1.out.ls.po, HQ2.out.2, HOn1.out.ls.pb⟩)
      go_wp2
      go_ret
      exact ⟨rfl, _, HOn2.out, HT1.out.set (.inl (.inr rfl))⟩
end Go.Proofs.YtkkommomefmpgaaGreat

/- Streams: get, flush, close on a way. -/
namespace Go.Proofs.YtkkommomefmpgaaGreat
open Go.RowKit

theorem get1_fill {S : Type} (D : RawD S) (x : SS) (s : S) (hb : x.back.length = 0) (hi : x.inn.length = 0) : x.get1 D s = if (x.fill D s).2.1 = 0 then ({ (x.fill D s).1 with inn := (x.fill D s).1.inn.drop 1 }, (x.fill D s).1.inn.getD 0 0, 0, (x.fill D s).2.2) else ((x.fill D s).1, 0, (x.fill D s).2.1, (x.fill D s).2.2) := by
  unfold SS.get1 SS.fill
  rw [if_neg (by omega), if_neg (by omega)]
  by_cases h1 : x.fin = true
  · rw [if_pos h1, if_pos h1]; rfl
  rw [if_neg h1, if_neg h1]
  by_cases h2 : (someV D x.most 8192 s).2.1 ≠ 0
  · rw [if_pos h2, if_pos h2, if_neg h2]
  rw [if_neg h2, if_neg h2]
  by_cases h3 : (someV D x.most 8192 s).1.length = 0
  · rw [if_pos h3, if_pos h3]; rfl
  rw [if_neg h3, if_neg h3]; rfl
theorem fill_inn {S : Type} (D : RawD S) (x : SS) (s : S) (h : (x.fill D s).2.1 = 0) : 0 < (x.fill D s).1.inn.length := by
  unfold SS.fill at h ⊢
  split at h
  · simp at h
  rename_i h1
  rw [if_neg h1]
  split at h
  · contradiction
  rename_i h2
  rw [if_neg h2]
  split at h
  · simp at h
  rename_i h3
  rw [if_neg h3]
  exact Nat.pos_of_ne_zero h3
set_option maxRecDepth 100000 in
set_option maxHeartbeats 4000000 in
theorem get_any {S : Type} {D : RawD S} {T : TypeId} {v : Value} {fr fw : FuncId} {rok wok : S → Prop} {At : World → (Nat → Prop) → S → Prop} (R : RawM D T v fr fw rok wok At) (hT : ∀ s, OAt (fun w O => At w O s)) {w : World} {O : Nat → Prop} {s : S} {B g : Nat} {x : SS} {o i b : Value} (h : On At w O s B g x o i b (.iface T v)) (hB : B ≤ w.heap.size) (h1 : 1 ≤ x.size) (hs : x.size ≤ 65536) (hbl : x.back.length ≤ 8) (hil : x.inn.length ≤ 65536) (hok : someOk D rok x.most 8192 s) :
    Calls Tryz.prog 175 #[.pointer (some ⟨g, 0, none⟩)] w fun en w' => en = .returned (.tuple #[.int .u8 ((x.get1 D s).2.1.toNat : Int), .int .i64 (x.get1 D s).2.2.1]) ∧ ∃ i' b', On At w' O (x.get1 D s).2.2.2 B g (x.get1 D s).1 o i' b' (.iface T v) ∧ Turned (fun k => O k ∨ k = g) w w' := by
  obtain ⟨ia, ic, rfl, hib, hic⟩ := h.ls.si
  obtain ⟨ba, bc, rfl, hbb, hbc⟩ := h.ls.sb
  obtain ⟨c0, c1, c2, c3, c4, c5, c6, c7, c8, c9, c10, c11⟩ := h.way.cs
  have g5 := h.way.soft 5
  have g6 := h.way.soft 6
  have HH := hide h
  clear c0 c1 c2 c3 c4 c7 c8 c9 c10 c11
  generalize hq : x.get1 D s = q
  obtain ⟨qx, qc, qe, qs⟩ := q
  by_cases hb : 0 < x.back.length
  · unfold SS.get1 at hq
    rw [if_pos hb] at hq
    obtain ⟨rfl, rfl, rfl, rfl⟩ : { x with back := x.back.dropLast } = qx ∧ x.back.getD (x.back.length - 1) 0 = qc ∧ 0 = qe ∧ s = qs := by simpa using hq
    obtain ⟨-, bb, off, rfl, -, hcell⟩ := bys_block hbb hb
    have hcl := hcell (x.back.length - 1) (by omega)
    have hcut : Sl w (.slice (some ⟨bb, off, none⟩) (x.back.length - 1) bc) x.back.dropLast := by
      have := bys_cut hbb 0 (x.back.length - 1) bc (by omega)
      rw [List.drop_zero, ← List.dropLast_eq_take] at this
      exact ⟨_, _, by rw [List.length_dropLast], this, by rw [List.length_dropLast]; omega⟩
    obtain ⟨n, hn⟩ : ∃ n, n = x.back.length - 1 := ⟨_, rfl⟩
    rw [← hn] at hcl hcut ⊢
    have hbn : x.back.length = n + 1 := by omega
    rw [hbn] at c6 hbc
    have HWy := hide (h.way.set (x' := { x with back := x.back.dropLast }) (o' := o) (i' := .slice ia x.inn.length ic) (b' := .slice (some ⟨bb, off, none⟩) n bc) 6 (.slice (some ⟨bb, off, none⟩) n bc) rfl)
    have HOn2 := hide (On.at hT h HWy.out ((Turned.refl (fun k => k = g) w).set (.inl rfl)) ⟨h.ls.so, h.ls.si, hcut, h.ls.po, h.ls.pi, fun k e => h.ls.pb k e⟩)
    have k0 : (0 : Int) ≤ (n : Int) := by omega
    have k8 : (n : Int) ≤ 8 := by omega
    have k1 : (n : Int) < (n : Int) + 1 := by omega
    have k2 : (n : Int) ≤ (bc : Int) := by omega
    have k3 : ((n : Int) + 1) - 1 = (n : Int) := by omega
    have HNn := hide hbn
    clear hq hcut hbb hib h hcell hbn hn hok
    go_enter Tryz.func175, Tryz.ntmps175
    go_wp2
    go_ret2
    exact ⟨rfl, _, _, HOn2.out, (Turned.refl _ _).set (.inl (.inr rfl))⟩
  have hb0 : x.back.length = 0 := by omega
  rw [hb0] at c6
  by_cases hi : 0 < x.inn.length
  · unfold SS.get1 at hq
    rw [if_neg hb, if_pos hi] at hq
    obtain ⟨rfl, rfl, rfl, rfl⟩ : { x with inn := x.inn.drop 1 } = qx ∧ x.inn.getD 0 0 = qc ∧ 0 = qe ∧ s = qs := by simpa using hq
    obtain ⟨-, bb, off, rfl, -, hcell⟩ := bys_block hib hi
    have hcl := hcell 0 hi
    rw [Nat.add_zero] at hcl
    generalize x.inn.getD 0 0 = ch at hcl ⊢
    have HBh := hide (behind_any x.inn (.slice (some ⟨bb, off, none⟩) x.inn.length ic) 1 w h.ls.si hi)
    have k0 : (0 : Int) < (x.inn.length : Int) := by omega
    have k1 : ((x.inn.length : Int) == 0) = false := by simp only [beq_eq_false_iff_ne]; omega
    have k2 : ¬ x.inn = [] := fun e => by rw [e] at hi; simp at hi
    obtain ⟨L, hL⟩ : ∃ L, L = x.inn.drop 1 := ⟨_, rfl⟩
    rw [← hL] at HBh ⊢
    clear hq hib h hcell hL hok
    go_enter Tryz.func175, Tryz.ntmps175
    go_wp2_with fail
    refine HBh.out.mono ?_
    rintro _ _ ⟨u, rfl, hu, hub, -, rfl⟩
    have hu2 := hu
    obtain ⟨ua, uc, rfl, -⟩ := hu2
    have HWy := hide (HH.out.way.set (x' := { x with inn := L }) (o' := o) (i' := .slice ua L.length uc) (b' := .slice ba x.back.length bc) 5 (.slice ua L.length uc) rfl)
    have HOn2 := hide (On.at hT HH.out HWy.out ((Turned.refl (fun k => k = g) w).set (.inl rfl)) ⟨HH.out.ls.so, hu, HH.out.ls.sb, HH.out.ls.po, fun k e => HH.out.ls.pi k (hub k e), HH.out.ls.pb⟩)
    clear hu hub
    go_wp2
    go_ret2
    exact ⟨rfl, _, _, HOn2.out, (Turned.refl _ _).set (.inl (.inr rfl))⟩
  have hi0 : x.inn.length = 0 := by omega
  rw [get1_fill D x s hb0 hi0] at hq
  have HF := hide (fill_any R hT h hB h1 hs (fun _ => hok))
  have HIn := hide (fill_inn D x s)
  rw [hi0] at c5
  generalize x.fill D s = X at *
  obtain ⟨fx, fe, fs⟩ := X
  simp only at hq HF HIn
  have HQ := hide hq
  clear hq h hib hbb hok
  by_cases he : fe = 0
  · subst he
    have hq := HQ.out
    rw [if_pos rfl] at hq
    obtain ⟨rfl, rfl, rfl, rfl⟩ : { fx with inn := fx.inn.drop 1 } = qx ∧ fx.inn.getD 0 0 = qc ∧ 0 = qe ∧ fs = qs := by simpa using hq
    have hpos := HIn.out rfl
    obtain ⟨ch, hch⟩ : ∃ ch, ch = fx.inn.getD 0 0 := ⟨_, rfl⟩
    rw [← hch]
    have HCh := hide hch
    clear hch
    obtain ⟨L, hL⟩ : ∃ L, L = fx.inn.drop 1 := ⟨_, rfl⟩
    rw [← hL]
    have HL := hide hL
    clear hq HQ hL
    go_enter Tryz.func175, Tryz.ntmps175
    go_wp2_with fail
    refine HF.out.mono ?_
    rintro _ w1 ⟨rfl, i', hO1, hT1⟩
    obtain ⟨ja, jc, rfl, hjb, hjc⟩ := hO1.ls.si
    obtain ⟨-, bb, off, rfl, -, hcell⟩ := bys_block hjb hpos
    have hcl := hcell 0 hpos
    rw [Nat.add_zero, ← HCh.out] at hcl
    have hbh := behind_any fx.inn (.slice (some ⟨bb, off, none⟩) fx.inn.length jc) 1 w1 hO1.ls.si hpos
    rw [← HL.out] at hbh
    have HBh := hide hbh
    have d5 := hO1.way.cs.2.2.2.2.2.1
    have e5 := hO1.way.soft 5
    have HO1 := hide hO1
    have HT1 := hide hT1
    have k0 : (0 : Int) < (fx.inn.length : Int) := by omega
    clear hO1 hT1 hjb hcell hbh c5 c6 g5 g6
    go_wp2_with fail
    refine HBh.out.mono ?_
    rintro _ _ ⟨u, rfl, hu, hub, -, rfl⟩
    have hu2 := hu
    obtain ⟨ua, uc, rfl, -⟩ := hu2
    have HWy := hide (HO1.out.way.set (x' := { fx with inn := L }) (o' := o) (i' := .slice ua L.length uc) (b' := .slice ba x.back.length bc) 5 (.slice ua L.length uc) rfl)
    have HOn2 := hide (On.at hT HO1.out HWy.out ((Turned.refl (fun k => k = g) w1).set (.inl rfl)) ⟨HO1.out.ls.so, hu, HO1.out.ls.sb, HO1.out.ls.po, fun k e => HO1.out.ls.pi k (hub k e), HO1.out.ls.pb⟩)
    clear hu hub
    go_wp2
    go_ret2
    exact ⟨rfl, _, _, HOn2.out, HT1.out.set (.inl (.inr rfl))⟩
  · have hq := HQ.out
    rw [if_neg he] at hq
    obtain ⟨rfl, rfl, rfl, rfl⟩ : fx = qx ∧ 0 = qc ∧ fe = qe ∧ fs = qs := by simpa using hq
    have he2 : (fe != 0) = true := by simp [he]
    clear hq HQ
    go_enter Tryz.func175, Tryz.ntmps175
    go_wp2_with fail
    refine HF.out.mono ?_
    rintro _ w1 ⟨rfl, i', hO1, hT1⟩
    have HO1 := hide hO1
    have HT1 := hide hT1
    clear hO1 hT1 c5 c6 g5 g6
    go_wp2
    go_ret2
    exact ⟨rfl, _, _, HO1.out, HT1.out⟩
set_option maxRecDepth 100000 in
set_option maxHeartbeats 4000000 in
theorem flush_any {S : Type} {D : RawD S} {T : TypeId} {v : Value} {fr fw : FuncId} {rok wok : S → Prop} {At : World → (Nat → Prop) → S → Prop} (R : RawM D T v fr fw rok wok At) (hT : ∀ s, OAt (fun w O => At w O s)) {w : World} {O : Nat → Prop} {s : S} {B g : Nat} {x : SS} {o i b : Value} (h : On At w O s B g x o i b (.iface T v)) (hl : x.out.length ≤ 65536) (hok : putOk D wok x.out (putF x.out) s 0 0) :
    Calls Tryz.prog 178 #[.pointer (some ⟨g, 0, none⟩)] w fun en w' => en = .returned (.int .i64 (x.deliver D s).2.1) ∧ WStep At w O B g (.iface T v) (if (x.deliver D s).2.1 = 0 then { (x.deliver D s).1 with dir := 0 } else (x.deliver D s).1) (x.deliver D s).2.2 w' := by
  have HD := hide (deliver_any R hT h hl hok)
  have hgB := h.gB
  generalize x.deliver D s = X at *
  obtain ⟨dx, de, ds⟩ := X
  simp only at HD ⊢
  clear h hok
  by_cases he : de = 0
  · subst he
    rw [if_pos rfl]
    go_enter Tryz.func178, Tryz.ntmps178
    go_wp2_with fail
    refine HD.out.mono ?_
    rintro _ w1 ⟨rfl, o', O', hO4, -, hO5, hT4⟩
    have HO4 := hide hO4
    have HO5 := hide hO5
    have HT4 := hide (hT4.mono fun k e => (e.imp id (fun e => by omega) : O k ∨ B ≤ k))
    have d7 := hO4.way.cs.2.2.2.2.2.2.2.1
    have e7 := hO4.way.soft 7
    have HWy := hide (hO4.way.set (x' := { dx with dir := 0 }) (o' := o') (i' := i) (b' := b) 7 (.int .i64 0) rfl)
    have HOn2 := hide (On.at hT hO4 HWy.out ((Turned.refl (fun k => k = g) w1).set (.inl rfl)) (hO4.ls.kin rfl rfl rfl))
    clear hO4 hO5 hT4
    go_wp2
    go_ret
    exact ⟨rfl, _, _, _, _, HOn2.out, HO5.out, HT4.out.set (.inl (.inr hgB))⟩
  · rw [if_neg he]
    have he2 : (de == 0) = false := by simp [he]
    go_enter Tryz.func178, Tryz.ntmps178
    go_wp2_with fail
    refine HD.out.mono ?_
    rintro _ w1 ⟨rfl, o', O', hO4, -, hO5, hT4⟩
    have HO4 := hide hO4
    have HO5 := hide hO5
    have HT4 := hide (hT4.mono fun k e => (e.imp id (fun e => by omega) : O k ∨ B ≤ k))
    clear hO4 hO5 hT4
    go_wp2
    go_ret
    exact ⟨rfl, _, _, _, _, HO4.out, HO5.out, HT4.out⟩
end Go.Proofs.YtkkommomefmpgaaGreat

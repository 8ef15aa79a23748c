/- Streams: a state on its way, in memory. -/
import Derived.Test.YtbffnamdpmjfnaaStC
namespace Go.Proofs.Ytbffnamdpmjfnaa
open Go.RowKit

/-- The block of a way. -/
def Way (W : World) (g : Nat) (x : SS) (o i b r : Value) : Prop := W.heap[g]? = some (.cells #[.bool x.rd, .bool x.wt, .int .i64 x.mode, .int .i64 x.size, o, i, b, .int .i64 x.dir, .bool x.fin, .bool x.bad, .bool x.closed, r] 66)
theorem Way.cs {W : World} {g : Nat} {x : SS} {o i b r : Value} (h : Way W g x o i b r) : W.cell? ⟨g, 0, none⟩ = some (.bool x.rd) ∧ W.cell? ⟨g, 1, none⟩ = some (.bool x.wt) ∧ W.cell? ⟨g, 2, none⟩ = some (.int .i64 x.mode) ∧ W.cell? ⟨g, 3, none⟩ = some (.int .i64 x.size) ∧ W.cell? ⟨g, 4, none⟩ = some (o) ∧ W.cell? ⟨g, 5, none⟩ = some (i) ∧ W.cell? ⟨g, 6, none⟩ = some (b) ∧ W.cell? ⟨g, 7, none⟩ = some (.int .i64 x.dir) ∧ W.cell? ⟨g, 8, none⟩ = some (.bool x.fin) ∧ W.cell? ⟨g, 9, none⟩ = some (.bool x.bad) ∧ W.cell? ⟨g, 10, none⟩ = some (.bool x.closed) ∧ W.cell? ⟨g, 11, none⟩ = some (r) :=
  ⟨cell_of_row W g 0 _ _ _ h, cell_of_row W g 1 _ _ _ h, cell_of_row W g 2 _ _ _ h, cell_of_row W g 3 _ _ _ h, cell_of_row W g 4 _ _ _ h, cell_of_row W g 5 _ _ _ h, cell_of_row W g 6 _ _ _ h, cell_of_row W g 7 _ _ _ h, cell_of_row W g 8 _ _ _ h, cell_of_row W g 9 _ _ _ h, cell_of_row W g 10 _ _ _ h, cell_of_row W g 11 _ _ _ h⟩
theorem Way.lt {W : World} {g : Nat} {x : SS} {o i b r : Value} (h : Way W g x o i b r) : g < W.heap.size := (Array.getElem?_eq_some_iff.1 h).1
theorem Way.soft {W : World} {g : Nat} {x : SS} {o i b r : Value} (h : Way W g x o i b r) (j : Nat) : W.frozen? ⟨g, j, none⟩ = false := frozen_of_row W g j _ _ h
theorem Way.set {W : World} {g : Nat} {x x' : SS} {o i b o' i' b' r : Value} (h : Way W g x o i b r) (j : Nat) (u : Value) (hl : ([.bool x.rd, .bool x.wt, .int .i64 x.mode, .int .i64 x.size, o, i, b, .int .i64 x.dir, .bool x.fin, .bool x.bad, .bool x.closed, r] : List Value).set j u = [.bool x'.rd, .bool x'.wt, .int .i64 x'.mode, .int .i64 x'.size, o', i', b', .int .i64 x'.dir, .bool x'.fin, .bool x'.bad, .bool x'.closed, r]) : Way (W.setCell ⟨g, j, none⟩ u) g x' o' i' b' r := by
  have := Go.heap_setCell_same W g j _ _ u h
  unfold Way
  rw [this]
  simp only [List.setIfInBounds_toArray, hl]
/-- A way over a Raw: its block, its lists (own), the Raw. -/
structure On {S : Type} (At : World → (Nat → Prop) → S → Prop) (W : World) (O : Nat → Prop) (s : S) (B g : Nat) (x : SS) (o i b r : Value) : Prop where
  way : Way W g x o i b r
  ls : SIn W (fun k => B ≤ k ∧ ¬ O k ∧ k ≠ g ∧ k < W.heap.size) x o i b
  raw : At W O s
  og : ¬ O g
  gB : B ≤ g
  ol : ∀ j, O j → j < W.heap.size
theorem marked_any (x : SS) (g : Nat) (e : Int) (o i b r : Value) (w : World) (h : Way w g x o i b r) : Calls Try.prog 35 #[.pointer (some ⟨g, 0, none⟩), .int .i64 e] w fun en w' => en = .returned (.int .i64 e) ∧ Way w' g (x.mark e) o i b r ∧ Turned (fun k => k = g) w w' := by
  have HW := hide h
  have g9 := h.soft 9
  have c9 := h.cs.2.2.2.2.2.2.2.2.2.1
  clear h
  obtain ⟨y, hy⟩ : ∃ y, y = x.mark e := ⟨_, rfl⟩
  rw [← hy]
  unfold SS.mark at hy
  by_cases h0 : e = 0
  · subst h0
    have HY : Hid (y = x) := hide (by rw [hy, if_pos (.inl rfl)])
    clear hy
    go_enter Try.func35, Try.ntmps35
    go_wp2
    go_ret
    exact ⟨rfl, by rw [HY.out]; exact HW.out, Turned.refl _ _⟩
  by_cases h1 : e = 52
  · subst h1
    have HY : Hid (y = x) := hide (by rw [hy, if_pos (.inr rfl)])
    clear hy
    go_enter Try.func35, Try.ntmps35
    go_wp2
    go_ret
    exact ⟨rfl, by rw [HY.out]; exact HW.out, Turned.refl _ _⟩
  have HY : Hid (y = { x with bad := true }) := hide (by rw [hy, if_neg (by intro h; rcases h with h | h; exact h0 h; exact h1 h)])
  clear hy
  have h2 : (e == 0) = false := by simp [h0]
  have h3 : (e == 52) = false := by simp [h1]
  have h4 : (e != 0) = true := by simp [h0]
  have h5 : (e != 52) = true := by simp [h1]
  go_enter Try.func35, Try.ntmps35
  go_wp2
  go_ret
  exact ⟨rfl, by rw [HY.out]; exact HW.out.set 9 (.bool true) rfl, (Turned.refl _ _).set (.inl rfl)⟩
theorem Way.below {W W' : World} {g : Nat} {x : SS} {o i b r : Value} (h : Way W g x o i b r) (hB : Below W.heap.size W W') : Way W' g x o i b r := (hB.block g h.lt).trans h
theorem Way.turned {P : Nat → Prop} {W W' : World} {g : Nat} {x : SS} {o i b r : Value} (h : Way W g x o i b r) (hT : Turned P W W') (hg : ¬ P g) : Way W' g x o i b r := (hT.block g h.lt hg).trans h
theorem drewN_below (w : World) (n : Nat) : Below w.heap.size w (w.drewN n) := ⟨rfl, rfl, rfl, Nat.le_refl _, fun _ _ => rfl⟩
theorem isFull_any (x : SS) (g : Nat) (oa : Option Addr) (oc : Nat) (i b r : Value) (w : World) (h : Way w g x (.slice oa x.out.length oc) i b r) : Calls Try.prog 36 #[.pointer (some ⟨g, 0, none⟩)] w fun en w' => en = .returned (.bool (decide ((x.out.length : Int) = x.size))) ∧ Below w.heap.size w w' := by
  obtain ⟨c0, c1, c2, c3, c4, c5, c6, c7, c8, c9, c10, c11⟩ := h.cs
  clear h
  generalize hr : decide ((x.out.length : Int) = x.size) = q
  by_cases he : (x.out.length : Int) = x.size
  · have HR : Hid (true = q) := hide (by rw [← hr, decide_eq_true he])
    have hq : ((x.out.length : Int) == x.size) = true := by simp [he]
    clear hr he
    go_enter Try.func36, Try.ntmps36
    go_wp2
    go_quiet (fail)
    go_wp2
    go_ret
    exact ⟨by rw [← HR.out]; rfl, drewN_below _ _⟩
  · have HR : Hid (false = q) := hide (by rw [← hr, decide_eq_false he])
    have hq : ((x.out.length : Int) == x.size) = false := by simp [he]
    clear hr he
    go_enter Try.func36, Try.ntmps36
    go_wp2
    go_quiet (fail)
    go_wp2
    go_ret
    exact ⟨by rw [← HR.out]; rfl, drewN_below _ _⟩
set_option maxHeartbeats 1000000 in
theorem isReadOut_any (x : SS) (g : Nat) (ia ba : Option Addr) (ic bc : Nat) (o r : Value) (w : World) (h : Way w g x o (.slice ia x.inn.length ic) (.slice ba x.back.length bc) r) (hi : x.inn.length ≤ 140737488351232) (hb : x.back.length ≤ 140737488351232) : Calls Try.prog 33 #[.pointer (some ⟨g, 0, none⟩)] w fun en w' => en = .returned (.bool (x.fin && decide ((x.inn.length : Int) + (x.back.length : Int) = 0))) ∧ Below w.heap.size w w' := by
  obtain ⟨c0, c1, c2, c3, c4, c5, c6, c7, c8, c9, c10, c11⟩ := h.cs
  clear h
  generalize hr : (x.fin && decide ((x.inn.length : Int) + (x.back.length : Int) = 0)) = q
  rcases Bool.eq_false_or_eq_true x.fin with hf | hf
  · rw [hf] at c8 hr
    by_cases he : (x.inn.length : Int) + (x.back.length : Int) = 0
    · have HR : Hid (true = q) := hide (by rw [← hr, decide_eq_true he]; rfl)
      have hq : ((x.inn.length : Int) + (x.back.length : Int) == 0) = true := by simp [he]
      clear hr he hf
      go_enter Try.func33, Try.ntmps33
      go_wp2
      go_quiet (fail)
      go_wp2
      go_ret
      exact ⟨by rw [← HR.out]; rfl, drewN_below _ _⟩
    · have HR : Hid (false = q) := hide (by rw [← hr, decide_eq_false he]; rfl)
      have hq : ((x.inn.length : Int) + (x.back.length : Int) == 0) = false := by simp only [beq_eq_false_iff_ne]; exact he
      clear hr he hf
      go_enter Try.func33, Try.ntmps33
      go_wp2
      go_quiet (fail)
      go_wp2
      go_ret
      exact ⟨by rw [← HR.out]; rfl, drewN_below _ _⟩
  · rw [hf] at c8 hr
    have HR : Hid (false = q) := hide hr
    clear hr hf
    go_enter Try.func33, Try.ntmps33
    go_wp2
    go_quiet (fail)
    go_wp2
    go_ret
    exact ⟨by rw [← HR.out]; rfl, drewN_below _ _⟩
set_option maxRecDepth 100000 in
set_option maxHeartbeats 1000000 in
theorem wrefusal_any (x : SS) (g : Nat) (oa ia ba : Option Addr) (oc ic bc : Nat) (T : TypeId) (v : Value) (w : World) (h : Way w g x (.slice oa x.out.length oc) (.slice ia x.inn.length ic) (.slice ba x.back.length bc) (.iface T v)) (hi : x.inn.length ≤ 140737488351232) (hb : x.back.length ≤ 140737488351232) : Calls Try.prog 23 #[.pointer (some ⟨g, 0, none⟩)] w fun en w' => en = .returned (.int .i64 (x.refuse true)) ∧ Below w.heap.size w w' := by
  obtain ⟨c0, c1, c2, c3, c4, c5, c6, c7, c8, c9, c10, c11⟩ := h.cs
  have HC := hide (fun W => srefusal_any x true oa ia ba oc ic bc W hi hb)
  have HK := hide (fun (w' : World) (hB : Below w.heap.size w w') => (show w'.cell? ⟨g, 0, none⟩ = some (.bool x.rd) ∧ w'.cell? ⟨g, 1, none⟩ = some (.bool x.wt) ∧ w'.cell? ⟨g, 2, none⟩ = some (.int .i64 x.mode) ∧ w'.cell? ⟨g, 3, none⟩ = some (.int .i64 x.size) ∧ w'.cell? ⟨g, 4, none⟩ = some (.slice oa x.out.length oc) ∧ w'.cell? ⟨g, 5, none⟩ = some (.slice ia x.inn.length ic) ∧ w'.cell? ⟨g, 6, none⟩ = some (.slice ba x.back.length bc) ∧ w'.cell? ⟨g, 7, none⟩ = some (.int .i64 x.dir) ∧ w'.cell? ⟨g, 8, none⟩ = some (.bool x.fin) ∧ w'.cell? ⟨g, 9, none⟩ = some (.bool x.bad) ∧ w'.cell? ⟨g, 10, none⟩ = some (.bool x.closed) ∧ w'.cell? ⟨g, 11, none⟩ = some (.iface T v) from (h.below hB).cs))
  clear h c0 c1 c2 c3 c4 c5 c6 c7 c8 c9 c10 c11
  go_enter Try.func23, Try.ntmps23
  go_wp2_with fail
  go_region_held3 (fun w' => w'.cell? ⟨g, 0, none⟩ = some (.bool x.rd) ∧ w'.cell? ⟨g, 1, none⟩ = some (.bool x.wt) ∧ w'.cell? ⟨g, 2, none⟩ = some (.int .i64 x.mode) ∧ w'.cell? ⟨g, 3, none⟩ = some (.int .i64 x.size) ∧ w'.cell? ⟨g, 4, none⟩ = some (.slice oa x.out.length oc) ∧ w'.cell? ⟨g, 5, none⟩ = some (.slice ia x.inn.length ic) ∧ w'.cell? ⟨g, 6, none⟩ = some (.slice ba x.back.length bc) ∧ w'.cell? ⟨g, 7, none⟩ = some (.int .i64 x.dir) ∧ w'.cell? ⟨g, 8, none⟩ = some (.bool x.fin) ∧ w'.cell? ⟨g, 9, none⟩ = some (.bool x.bad) ∧ w'.cell? ⟨g, 10, none⟩ = some (.bool x.closed) ∧ w'.cell? ⟨g, 11, none⟩ = some (.iface T v)) (first | exact HK.out _ (Below.refl _ _).drew | exact HK.out _ HB1.out) (first | (go_at_call 38; refine (HC.out _).mono ?_; rintro _ w1 ⟨rfl, hB1⟩; have HB1 := hide ((Below.refl _ _).drew.trans hB1)) | fail)
  go_wp2
  go_ret
  exact ⟨rfl, HB1.out⟩
theorem wrefusal_nil (x : SS) (g : Nat) (oa ia ba : Option Addr) (oc ic bc : Nat) (w : World) (h : Way w g x (.slice oa x.out.length oc) (.slice ia x.inn.length ic) (.slice ba x.back.length bc) .nilIface) (hi : x.inn.length ≤ 140737488351232) (hb : x.back.length ≤ 140737488351232) : Calls Try.prog 23 #[.pointer (some ⟨g, 0, none⟩)] w fun en w' => en = .returned (.int .i64 (x.refuse false)) ∧ Below w.heap.size w w' := by
  obtain ⟨c0, c1, c2, c3, c4, c5, c6, c7, c8, c9, c10, c11⟩ := h.cs
  have HC := hide (fun W => srefusal_any x false oa ia ba oc ic bc W hi hb)
  have HK := hide (fun (w' : World) (hB : Below w.heap.size w w') => (show w'.cell? ⟨g, 0, none⟩ = some (.bool x.rd) ∧ w'.cell? ⟨g, 1, none⟩ = some (.bool x.wt) ∧ w'.cell? ⟨g, 2, none⟩ = some (.int .i64 x.mode) ∧ w'.cell? ⟨g, 3, none⟩ = some (.int .i64 x.size) ∧ w'.cell? ⟨g, 4, none⟩ = some (.slice oa x.out.length oc) ∧ w'.cell? ⟨g, 5, none⟩ = some (.slice ia x.inn.length ic) ∧ w'.cell? ⟨g, 6, none⟩ = some (.slice ba x.back.length bc) ∧ w'.cell? ⟨g, 7, none⟩ = some (.int .i64 x.dir) ∧ w'.cell? ⟨g, 8, none⟩ = some (.bool x.fin) ∧ w'.cell? ⟨g, 9, none⟩ = some (.bool x.bad) ∧ w'.cell? ⟨g, 10, none⟩ = some (.bool x.closed) ∧ w'.cell? ⟨g, 11, none⟩ = some (.nilIface) from (h.below hB).cs))
  clear h c0 c1 c2 c3 c4 c5 c6 c7 c8 c9 c10 c11
  go_enter Try.func23, Try.ntmps23
  go_wp2_with fail
  go_region_held3 (fun w' => w'.cell? ⟨g, 0, none⟩ = some (.bool x.rd) ∧ w'.cell? ⟨g, 1, none⟩ = some (.bool x.wt) ∧ w'.cell? ⟨g, 2, none⟩ = some (.int .i64 x.mode) ∧ w'.cell? ⟨g, 3, none⟩ = some (.int .i64 x.size) ∧ w'.cell? ⟨g, 4, none⟩ = some (.slice oa x.out.length oc) ∧ w'.cell? ⟨g, 5, none⟩ = some (.slice ia x.inn.length ic) ∧ w'.cell? ⟨g, 6, none⟩ = some (.slice ba x.back.length bc) ∧ w'.cell? ⟨g, 7, none⟩ = some (.int .i64 x.dir) ∧ w'.cell? ⟨g, 8, none⟩ = some (.bool x.fin) ∧ w'.cell? ⟨g, 9, none⟩ = some (.bool x.bad) ∧ w'.cell? ⟨g, 10, none⟩ = some (.bool x.closed) ∧ w'.cell? ⟨g, 11, none⟩ = some (.nilIface)) (first | exact HK.out _ (Below.refl _ _).drew | exact HK.out _ HB1.out) (first | (go_at_call 38; refine (HC.out _).mono ?_; rintro _ w1 ⟨rfl, hB1⟩; have HB1 := hide ((Below.refl _ _).drew.trans hB1)) | fail)
  go_wp2
  go_ret
  exact ⟨rfl, HB1.out⟩
end Go.Proofs.Ytbffnamdpmjfnaa

/- What CopyLists and Spoil do with any lines. -/
import Derived.Test.YtoihblhhifcpnaaTeAlive
namespace Go.Proofs.Ytoihblhhifcpnaa
open Go.RowKit

theorem owns_apart {W : World} {B B' e e' s s' n n' : Nat} {v v' : Value} {xs xs' : List Value} (h : W.ownsRow B e s v n xs) (h' : W.ownsRow B' e' s' v' n' xs') (hne : e ≠ e') (k : Nat) (h1 : v.ownBlock = some k) : v'.ownBlock ≠ some k := by
  intro h2
  rcases h.2 with ⟨rfl, _⟩ | ⟨g, cap, cur, rfl, _, h3, _⟩
  · cases h1
  · rcases h'.2 with ⟨rfl, _⟩ | ⟨g', cap', cur', rfl, _, h4, _⟩
    · cases h2
    · simp only [Value.ownBlock, Option.some.injEq] at h1 h2
      subst h1
      subst h2
      rw [h3] at h4
      cases h4
      exact hne rfl
/-- Cells, each of them a slice of its own line. -/
def LCells (W : World) (B : Nat) (ls : List (List UInt8)) (xs : List Value) : Prop :=
  xs.length = ls.length ∧ (∀ j (hj : j < ls.length), ∃ v, xs[j]? = some v ∧ W.ownsRow B 5 1 v ls[j].length (ls[j].map bv)) ∧ ∀ (i j : Nat) (vi vj : Value) (k : Nat), i < j → xs[i]? = some vi → xs[j]? = some vj → vi.ownBlock = some k → vj.ownBlock ≠ some k
theorem LCells.keep {W W' : World} {B : Nat} {ls : List (List UInt8)} {xs : List Value} (h : LCells W B ls xs) (hk : ∀ j, j < ls.length → ∀ v k, xs[j]? = some v → v.ownBlock = some k → W'.heap[k]? = W.heap[k]?) : LCells W' B ls xs :=
  ⟨h.1, fun j hj => by
    obtain ⟨v, h1, h2⟩ := h.2.1 j hj
    exact ⟨v, h1, owns_keep h2 fun k e => hk j hj v k h1 e⟩, h.2.2⟩
theorem LCells.below {W W' : World} {B : Nat} {ls : List (List UInt8)} {xs : List Value} (h : LCells W B ls xs) (hB : Below W.heap.size W W') : LCells W' B ls xs :=
  h.keep fun j hj v k h1 e => by
    obtain ⟨v', h2, h3⟩ := h.2.1 j hj
    rw [h1] at h2
    cases h2
    exact hB.block k (h3.lt k e).2
theorem LCells.one {ls : List (List UInt8)} {W : World} {B : Nat} {xs : List Value} (h : LCells W B ls xs) : ∀ u ∈ xs, u.oneCell' = true := by
  intro u hu
  obtain ⟨j, hj, rfl⟩ := List.getElem_of_mem hu
  obtain ⟨v, h1, h2⟩ := h.2.1 j (by have := h.1; omega)
  rw [List.getElem?_eq_getElem hj] at h1
  cases h1
  obtain ⟨a, c, e⟩ := owns_slice h2
  rw [e]
  rfl
/-- A row that owns the cells of lines. -/
theorem LCells.lns {W : World} {B B' : Nat} {ls : List (List UInt8)} {xs : List Value} {v : Value} {n : Nat} (h : LCells W B ls xs) (hn : n = ls.length) (hv : W.ownsRow B' 33 1 v n xs) : Lns W v ls := by
  subst hn
  rcases hv.2 with ⟨rfl, h0⟩ | ⟨g, cap, cur, rfl, _⟩
  · rw [List.length_eq_zero_iff.1 h0]
    exact ⟨_, _, rfl, fun h => absurd h (by decide)⟩
  · refine ⟨_, cap, rfl, fun _ => ⟨g, 0, rfl, fun j hj => ?_⟩⟩
    obtain ⟨u, h1, h2⟩ := h.2.1 j hj
    obtain ⟨a, c, rfl⟩ := owns_slice h2
    exact ⟨a, c, by rw [Nat.zero_add, hv.cellAt j (by omega)]; exact h1, Bys.of_owns h2⟩
theorem LCells.snoc {W : World} {B : Nat} {ls : List (List UInt8)} {xs : List Value} {k : Nat} (hk : k < ls.length) (h : LCells W B (ls.take k) xs) (u : Value) (hu : W.ownsRow B 5 1 u ls[k].length (ls[k].map bv)) (hd : ∀ (j : Nat) (v : Value) (i : Nat), xs[j]? = some v → v.ownBlock = some i → u.ownBlock ≠ some i) : LCells W B (ls.take (k + 1)) (xs ++ [u]) := by
  have hl := h.1
  rw [List.length_take, Nat.min_eq_left (by omega)] at hl
  refine ⟨by simp [hl]; omega, fun j hj => ?_, fun i j vi vj m hij h1 h2 h3 => ?_⟩
  · have hj' : j < k + 1 := by simp at hj; omega
    by_cases e : j = k
    · subst e
      refine ⟨u, by rw [List.getElem?_append_right (by omega), hl, Nat.sub_self]; rfl, by simpa using hu⟩
    · obtain ⟨v, h1, h2⟩ := h.2.1 j (by simp; omega)
      refine ⟨v, by rw [List.getElem?_append_left (by omega)]; exact h1, by simpa using h2⟩
  · have hj : j < k + 1 := by have := (List.getElem?_eq_some_iff.1 h2).1; simp [hl] at this; omega
    rw [List.getElem?_append_left (by omega)] at h1
    by_cases e : j = k
    · subst e
      rw [List.getElem?_append_right (by omega), hl, Nat.sub_self] at h2
      obtain rfl : u = vj := by simpa using h2
      exact hd i vi m h1 h3
    · rw [List.getElem?_append_left (by omega)] at h2
      exact h.2.2 i j vi vj m hij h1 h2 h3

set_option maxRecDepth 100000 in
set_option maxHeartbeats 2000000 in
theorem copyLists_any (v : Value) (ls : List (List UInt8)) (w : World) (h : Lns w v ls) (hs : ls.length * 24 ≤ 140737488351232) (hs2 : ∀ j (hj : j < ls.length), ls[j].length ≤ 140737488351232) :
    Calls Try.prog 8 #[v] w fun e w' => ∃ v' xs, e = .returned v' ∧ w'.ownsRow w.heap.size 33 1 v' ls.length xs ∧ LCells w' w.heap.size ls xs ∧ Below w.heap.size w w' := by
  have H0 := hide h
  obtain ⟨a1, c1, rfl⟩ := h.form
  have HS := hide hs2
  clear h hs2
  go_enter Try.func8, Try.ntmps8
  go_wp2
  go_loopw [3, 4] (fun ov i wr => ∃ (k : Nat) (xs : List Value), k ≤ ls.length ∧ i = .int .i64 k ∧ Hid (wr.ownsRow w.heap.size 33 1 ov k xs) ∧ Hid (LCells wr w.heap.size (ls.take k) xs) ∧ Below w.heap.size w wr) (fun _ i _ => ls.length - (intOf i).toNat)
  case atStart => exact ⟨0, [], Nat.zero_le _, rfl, World.ownsRow_nil _ _ _ _, ⟨rfl, (fun j hj => by simp at hj), (fun i j vi vj m _ h1 => by simp at h1)⟩, Below.refl _ _⟩
  case round =>
    obtain ⟨k, xs, hk, rfl, HO, HL, hB⟩ := hrel
    obtain ⟨oa, oc, rfl⟩ := owns_slice HO.out
    by_cases hlt : k < ls.length
    · obtain ⟨b, off, va, vc, rfl, hc, hby⟩ := H0.out.at k hlt
      have hbl := World.block_lt_of_cell? w _ hc
      have hc' := (hB.cell (p := ⟨b, off + k, none⟩) hbl).trans hc
      have hk1 : (0 : Int) ≤ (k : Int) := by omega
      have hk2 : (k : Int) < (ls.length : Int) := by omega
      have HBy := hide hby
      have hl4 := HS.out k hlt
      have hsz := hB.size
      have hke : k ≤ ls.length := hk
      clear hc hby
      obtain ⟨L, hL⟩ : ∃ L, L = ls[k] := ⟨_, rfl⟩
      rw [← hL] at hc' HBy hl4
      have HLk := hide hL
      clear hL
      go_wp2_with fail
      refine (copy_any _ L _ (HBy.out.below hB) hl4).mono ?_
      rintro e w2 ⟨u, rfl, hownu, hB2⟩
      obtain ⟨ua, uc, rfl⟩ := owns_slice hownu
      have hB02 := hB.trans (hB2.mono hB.size)
      have hz2 := hB2.size
      have hBa : Below w2.heap.size w2 (w2.alloc (Obj.cells #[.slice ua L.length uc] 33)) := (Below.refl _ _).alloc (Nat.le_refl _) _
      have hB0a := hB02.trans (hBa.mono hB02.size)
      have hB2a := hB2.trans (hBa.mono hB2.size)
      have HOa := hide (owns_below HO.out hB2a)
      have HLa := hide (HL.out.below hB2a)
      have HUa := hide (owns_below hownu hBa)
      have hcu : (w2.alloc (Obj.cells #[.slice ua L.length uc] 33)).cell? ⟨w2.heap.size, 0, none⟩ = some (.slice ua L.length uc) := by simp only [World.cell?, heap_alloc_new]; rfl
      have hza := size_new w2 (Obj.cells #[.slice ua L.length uc] 33)
      obtain ⟨s', w7, hrun, HO7, hg7, hb7⟩ := run_append_line (w2.alloc (Obj.cells #[.slice ua L.length uc] 33)) 22 w.heap.size _ k xs w2.heap.size 1 _ HOa.out hcu rfl (by omega) (by omega)
      have HR := hide hrun
      have HX := hide hownu
      clear hrun hownu hcu
      go_wp2_with (at_builtin; refine Lib.wpList_append_run _ rfl _ _ _ _ rfl _ _ rfl rfl _ _ HR.out ?_)
      go_roundw
      case rel =>
        have hLa : LCells w7 w.heap.size (ls.take k) xs := HLa.out.keep fun j hj v i h1 e => by
          obtain ⟨v', h2, h3⟩ := HLa.out.2.1 j hj
          rw [h1] at h2
          cases h2
          exact hg7.block i (h3.lt i e).2 (fun e' => owns_apart h3 HOa.out (by decide) i e e'.symm)
        have hU7 := owns_keep (W' := w7) HUa.out fun i e => hg7.block i (HUa.out.lt i e).2 (fun e' => owns_apart HUa.out HOa.out (by decide) i e e'.symm)
        refine ⟨k + 1, xs ++ [.slice ua L.length uc], by omega, by go_num, HO7, LCells.snoc hlt hLa _ ?_ (fun j v i h1 e e' => ?_), hB0a.grown hg7 hB0a.size (fun j e => (HOa.out.lt j e).1)⟩
        · rw [← HLk.out]
          exact owns_mono hU7 hsz
        · obtain ⟨v', h2, h3⟩ := HL.out.2.1 j (by have := (List.getElem?_eq_some_iff.1 h1).1; have := HL.out.1; omega)
          rw [h1] at h2
          cases h2
          have := (h3.lt i e).2
          have := (HX.out.lt i e').1
          omega
      case measure => simp [intOf]; omega
    · have hke : k = ls.length := by omega
      go_wp2
      go_ret
      have h1 := HL.out
      have h2 := HO.out
      subst hke
      rw [List.take_length] at h1
      exact ⟨_, xs, rfl, h2, h1, hB⟩
end Go.Proofs.Ytoihblhhifcpnaa

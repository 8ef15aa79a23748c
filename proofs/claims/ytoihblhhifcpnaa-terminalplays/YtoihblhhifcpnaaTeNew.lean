/- New, Left, Screen, Copy of a terminal. -/
import Derived.Test.YtoihblhhifcpnaaTeLeaf
namespace Go.Proofs.Ytoihblhhifcpnaa
open Go.RowKit

/-- What New answers. -/
def newE (ls : List (List UInt8)) : Int := if 256 < ls.length then 3 else if ls.any (fun l => decide (4096 < l.length)) = true then 5 else 0
theorem newE_long {ls : List (List UInt8)} (k : Nat) (hk : k < ls.length) (h1 : ls.length ≤ 256) (h2 : 4096 < ls[k].length) : newE ls = 5 := by
  unfold newE
  rw [if_neg (by omega), if_pos]
  rw [List.any_eq_true]
  exact ⟨_, List.getElem_mem hk, by simpa using h2⟩
theorem newE_ok {ls : List (List UInt8)} (h1 : ls.length ≤ 256) (h2 : ∀ j (hj : j < ls.length), ls[j].length ≤ 4096) : newE ls = 0 := by
  unfold newE
  rw [if_neg (by omega), if_neg]
  rw [List.any_eq_true]
  rintro ⟨l, hl, h⟩
  obtain ⟨j, hj, rfl⟩ := List.getElem_of_mem hl
  have := h2 j hj
  simp at h
  omega
theorem newE_small {ls : List (List UInt8)} (h : newE ls = 0) : ls.length ≤ 256 ∧ ∀ j (hj : j < ls.length), ls[j].length ≤ 4096 := by
  unfold newE at h
  split at h
  · cases h
  · split at h
    · cases h
    · rename_i h1 h2
      refine ⟨by omega, fun j hj => ?_⟩
      simp only [List.any_eq_true, not_exists, not_and, decide_eq_true_eq] at h2
      have := h2 _ (List.getElem_mem hj)
      omega

/-- The program's terminal. -/
structure PTerm (W : World) (B t : Nat) (O : Nat → Prop) (ls : List (List UInt8)) (scr : List UInt8) : Prop where
  made : W.cell? ⟨t, 0, none⟩ = some (.bool true)
  term : ∃ la lc s, Term W B t 1 O la lc s ls scr
  few : ls.length ≤ 256
  short : ∀ j (hj : j < ls.length), ls[j].length ≤ 4096
  room : scr.length ≤ 1048576
theorem PTerm.ot {W : World} {B t : Nat} {O : Nat → Prop} {ls : List (List UInt8)} {scr : List UInt8} (h : PTerm W B t O ls scr) : O t := by
  obtain ⟨_, _, _, h⟩ := h.term
  exact h.ot
theorem PTerm.lt {W : World} {B t : Nat} {O : Nat → Prop} {ls : List (List UInt8)} {scr : List UInt8} (h : PTerm W B t O ls scr) : ∀ k, O k → B ≤ k ∧ k < W.heap.size := by
  obtain ⟨_, _, _, h⟩ := h.term
  exact h.lt
theorem PTerm.keep {W W' : World} {B t : Nat} {O : Nat → Prop} {ls : List (List UInt8)} {scr : List UInt8} (h : PTerm W B t O ls scr) (hk : ∀ k, O k → W'.heap[k]? = W.heap[k]?) (hs : W.heap.size ≤ W'.heap.size) : PTerm W' B t O ls scr := by
  have ho := h.ot
  obtain ⟨h1, ⟨la, lc, s, h2⟩, h3, h4, h5⟩ := h
  exact ⟨(World.cell?_of_block (w := W) (hk t ho)).trans h1, ⟨la, lc, s, h2.keep hk hs⟩, h3, h4, h5⟩
theorem PTerm.below {W W' : World} {B t : Nat} {O : Nat → Prop} {ls : List (List UInt8)} {scr : List UInt8} (h : PTerm W B t O ls scr) (hB : Below W.heap.size W W') : PTerm W' B t O ls scr :=
  h.keep (fun k e => hB.block k (h.lt k e).2) hB.size
theorem PTerm.turned {S : Nat → Prop} {W W' : World} {B t : Nat} {O : Nat → Prop} {ls : List (List UInt8)} {scr : List UInt8} (h : PTerm W B t O ls scr) (hT : Turned S W W') (hS : ∀ k, O k → ¬ S k) : PTerm W' B t O ls scr :=
  h.keep (fun k e => hT.block k (h.lt k e).2 (hS k e)) hT.size

set_option maxRecDepth 100000 in
set_option maxHeartbeats 1000000 in
theorem new_bad (v : Value) (ls : List (List UInt8)) (w : World) (h : Lns w v ls) (hl : newE ls ≠ 0) :
    Calls Try.prog 7 #[v] w fun e w' => e = .returned (.tuple #[.pointer none, .int .i64 (newE ls)]) ∧ w' = w := by
  have H0 := hide h
  obtain ⟨a1, c1, rfl⟩ := h.form
  clear h
  by_cases hc : 256 < ls.length
  · have hE : newE ls = 3 := by unfold newE; rw [if_pos hc]
    rw [hE]
    have hd : decide ((256 : Int) < (ls.length : Int)) = true := by simp; omega
    clear hE hl
    go_enter Try.func7, Try.ntmps7
    go_wp2
    all_goals first
      | (exfalso; omega)
      | (go_ret2; exact ⟨rfl, rfl⟩)
  · have hd : decide ((256 : Int) < (ls.length : Int)) = false := by simp; omega
    have HL := hide hl
    have HN : Hid (∀ k (hk : k < ls.length), 4096 < ls[k].length → newE ls = 5) := hide fun k hk h2 => newE_long k hk (by omega) h2
    have HZ : Hid ((∀ j (hj : j < ls.length), ls[j].length ≤ 4096) → newE ls = 0) := hide fun h2 => newE_ok (by omega) h2
    generalize newE ls = E at *
    clear hl
    go_enter Try.func7, Try.ntmps7
    go_wp2
    go_loopw [5, 11] (fun _ i wr => ∃ k : Nat, k ≤ ls.length ∧ i = .int .i64 k ∧ wr = w ∧ Hid (∀ j (hj : j < ls.length), j < k → ls[j].length ≤ 4096)) (fun _ i _ => ls.length - (intOf i).toNat)
    case atStart => exact ⟨0, Nat.zero_le _, rfl, rfl, fun j _ hj => by omega⟩
    case round =>
      obtain ⟨k, hk, rfl, rfl, HK⟩ := hrel
      by_cases hlt : k < ls.length
      · obtain ⟨b, off, va, vc, rfl, hcell, _⟩ := H0.out.at k hlt
        have hk1 : (0 : Int) ≤ (k : Int) := by omega
        have hk2 : (k : Int) < (ls.length : Int) := by omega
        by_cases hb : 4096 < ls[k].length
        · have HE := hide (HN.out k hlt hb)
          generalize ls[k].length = n at *
          have hd4 : decide ((4096 : Int) < (n : Int)) = true := by simp; omega
          go_wp2
          all_goals first
            | (exfalso; omega)
            | (go_ret2; exact ⟨by rw [HE.out]; rfl, rfl⟩)
        · have HK' : Hid (∀ j (hj : j < ls.length), j < k + 1 → ls[j].length ≤ 4096) := hide fun j hj hjk => by
            by_cases e : j = k
            · subst e; omega
            · exact HK.out j hj (by omega)
          generalize ls[k].length = n at *
          have hd4 : decide ((4096 : Int) < (n : Int)) = false := by simp; omega
          go_wp2
          all_goals first
            | (exfalso; omega)
            | (go_roundw
               case rel => exact ⟨k + 1, by omega, by go_num, by trivial, HK'⟩
               case measure => simp [intOf]; omega)
      · exact absurd (HZ.out fun j hj => HK.out j hj (by omega)) HL.out

/-- What stands behind '&Terminal{made: true, lines: .., screen: ..}'. -/
theorem term_new {w w2 : World} {s : Value} {ls : List (List UInt8)} {scr : List UInt8} {cs : Array Value} {T : TypeId} (r : Nat) (hr : w.heap.size ≤ r) (hL : LRow w2 w.heap.size r 0 ls) (hlt : r < w2.heap.size) (hown : w2.ownsRow w.heap.size 5 1 s scr.length (scr.map bv)) (hsr : s.ownBlock ≠ some r) (hsl : ∀ j (hj : j < ls.length) va vc k, w2.cell? ⟨r, j, none⟩ = some (.slice va ls[j].length vc) → (Value.slice va ls[j].length vc).ownBlock = some k → s.ownBlock ≠ some k)
    (hB : Below w.heap.size w w2) (hf : ls.length ≤ 256) (hf2 : ∀ j (hj : j < ls.length), ls[j].length ≤ 4096) (hf3 : scr.length ≤ 1048576)
    (hcs : cs = #[Value.bool true, Value.slice (some ⟨r, 0, none⟩) ls.length ls.length, s]) :
    PTerm (w2.alloc (Obj.cells cs T)) w.heap.size w2.heap.size (fun k => w.heap.size ≤ k ∧ k < w2.heap.size + 1) ls scr ∧ Below w.heap.size w (w2.alloc (Obj.cells cs T)) := by
  subst hcs
  have hBa : Below w2.heap.size w2 (w2.alloc (Obj.cells #[Value.bool true, Value.slice (some ⟨r, 0, none⟩) ls.length ls.length, s] T)) := (Below.refl _ _).alloc (Nat.le_refl _) _
  have hsz := hB.size
  refine ⟨⟨?_, ⟨some ⟨r, 0, none⟩, ls.length, s, ⟨?_, ?_, ?_, ?_, Nat.le_refl _, fun k e => ?_, fun _ => ⟨r, 0, rfl, fun j hj => ?_⟩, owns_below hown hBa, fun k e => ?_, ⟨hsz, by omega⟩, fun k e => ?_⟩⟩, hf, hf2, hf3⟩, hB.alloc hB.size _⟩
  · simp only [World.cell?, heap_alloc_new]; rfl
  · simp only [World.cell?, heap_alloc_new]; rfl
  · simp only [World.cell?, heap_alloc_new]; rfl
  · simp only [World.frozen?, heap_alloc_new]; rfl
  · simp only [World.frozen?, heap_alloc_new]; rfl
  · cases e
    exact ⟨⟨hr, by dsimp only; omega⟩, by dsimp only; omega, hsr⟩
  · obtain ⟨h1, va, vc, h2, h3, h4, h5⟩ := hL j hj
    refine ⟨(hBa.frozen (p := ⟨r, 0 + j, none⟩) hlt).trans h1, va, vc, (hBa.cell (p := ⟨r, 0 + j, none⟩) hlt).trans h2, h3, h4.below hBa, fun k e => ?_⟩
    obtain ⟨q1, q2, q3⟩ := h5 k e
    exact ⟨⟨q1, by omega⟩, by omega, q2, hsl j hj va vc k (by rw [Nat.zero_add] at h2; exact h2) e⟩
  · have := hown.lt k e
    exact ⟨⟨this.1, by omega⟩, by omega⟩
  · have : (w2.alloc (Obj.cells #[Value.bool true, Value.slice (some ⟨r, 0, none⟩) ls.length ls.length, s] T)).heap.size = w2.heap.size + 1 := by simp
    rw [this]
    exact e

set_option maxRecDepth 100000 in
set_option maxHeartbeats 1000000 in
theorem new_good (v : Value) (ls : List (List UInt8)) (w : World) (h : Lns w v ls) (hl : newE ls = 0) :
    Calls Try.prog 7 #[v] w fun e w' => ∃ t O, e = .returned (.tuple #[.pointer (some ⟨t, 0, none⟩), .int .i64 0]) ∧ PTerm w' w.heap.size t O ls [] ∧ Below w.heap.size w w' := by
  have H0 := hide h
  obtain ⟨a1, c1, rfl⟩ := h.form
  obtain ⟨hf, hf2⟩ := newE_small hl
  have HF := hide hf2
  clear h hl hf2
  have hd : decide ((256 : Int) < (ls.length : Int)) = false := by simp; omega
  go_enter Try.func7, Try.ntmps7
  go_wp2
  go_loopw [5, 11] (fun _ i wr => ∃ k : Nat, k ≤ ls.length ∧ i = .int .i64 k ∧ wr = w) (fun _ i _ => ls.length - (intOf i).toNat)
  case atStart => exact ⟨0, Nat.zero_le _, rfl, rfl⟩
  case round =>
    obtain ⟨k, hk, rfl, rfl⟩ := hrel
    by_cases hlt : k < ls.length
    · obtain ⟨b, off, va, vc, rfl, hcell, _⟩ := H0.out.at k hlt
      have hk1 : (0 : Int) ≤ (k : Int) := by omega
      have hk2 : (k : Int) < (ls.length : Int) := by omega
      have hb := HF.out k hlt
      generalize ls[k].length = n at *
      have hd4 : decide ((4096 : Int) < (n : Int)) = false := by simp; omega
      go_wp2
      all_goals first
        | (exfalso; omega)
        | (go_roundw
           case rel => exact ⟨k + 1, by omega, by go_num, by trivial⟩
           case measure => simp [intOf]; omega)
    · go_wp2_with fail
      refine (copiedLines_any _ ls _ H0.out hf HF.out).mono ?_
      rintro e w2 ⟨rfl, hL, hlt2, hB⟩
      have HL := hide hL
      clear hL
      go_wp2
      go_ret2
      obtain ⟨r1, r2⟩ := term_new (w := wr) (s := .slice none 0 0) (scr := []) (T := 54) wr.heap.size (Nat.le_refl _) HL.out hlt2 (World.ownsRow_nil _ _ _ _) (by intro e; cases e) (fun _ _ _ _ _ _ _ e => by cases e) hB hf HF.out (by simp) rfl
      exact ⟨_, _, rfl, r1, r2⟩

set_option maxRecDepth 100000 in
set_option maxHeartbeats 1000000 in
theorem left_any (B t : Nat) (O : Nat → Prop) (ls : List (List UInt8)) (scr : List UInt8) (w : World) (h : PTerm w B t O ls scr) :
    Calls Try.prog 18 #[.pointer (some ⟨t, 0, none⟩)] w fun e w' => e = .returned (.int .i64 ls.length) ∧ w' = w := by
  have h1 := h.made
  obtain ⟨la, lc, s, hT⟩ := h.term
  have h2 := hT.lines
  clear h hT
  go_enter Try.func18, Try.ntmps18
  go_wp2_with fail
  refine (isMade_yes t w h1).mono ?_
  rintro e w1 ⟨rfl, rfl⟩
  go_wp2
  go_ret
  exact ⟨rfl, rfl⟩

set_option maxRecDepth 100000 in
set_option maxHeartbeats 1000000 in
theorem screen_any (B t : Nat) (O : Nat → Prop) (ls : List (List UInt8)) (scr : List UInt8) (w : World) (h : PTerm w B t O ls scr) :
    Calls Try.prog 19 #[.pointer (some ⟨t, 0, none⟩)] w fun e w' => e = .returned (.slice (some ⟨w.heap.size, 0, none⟩) scr.length scr.length) ∧ w'.ownsRow w.heap.size 5 1 (.slice (some ⟨w.heap.size, 0, none⟩) scr.length scr.length) scr.length (scr.map bv) ∧ Below w.heap.size w w' := by
  have h1 := h.made
  have h0 := h.room
  obtain ⟨la, lc, s, hT⟩ := h.term
  have h2 := hT.screen
  have h3 := hide hT.scr
  obtain ⟨sa, sc, rfl⟩ := owns_slice hT.scr
  clear h hT
  go_enter Try.func19, Try.ntmps19
  go_wp2_with fail
  refine (isMade_yes t w h1).mono ?_
  rintro e w1 ⟨rfl, rfl⟩
  go_wp2_with fail
  refine (copied_any _ scr _ (Bys.of_owns h3.out) (by omega)).mono ?_
  rintro e w2 ⟨rfl, hown, hB⟩
  have HO := hide hown
  clear hown
  go_wp2
  go_ret
  exact ⟨rfl, HO.out, hB⟩
end Go.Proofs.Ytoihblhhifcpnaa

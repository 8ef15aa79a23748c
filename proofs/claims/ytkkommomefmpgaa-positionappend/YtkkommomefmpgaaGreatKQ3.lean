/- What the proof stands on, part 3: the contracts of the program's calls that it reaches. -/
import Derived.Test.YtkkommomefmpgaaGreatKQ2
import Derived.Deep.RegionLaw
import Derived.ProofKit
import Derived.OpenShut
import Derived.ChangeArms
import Derived.ChangeSlices
import Derived.SizedLaws
import Derived.Deep.Slices
import Derived.Lib.MinMax
import Derived.Defers
import Derived.Lib.BufferMore
/- What CopyLists and Spoil do with any lines. -/
namespace Go.Proofs.YtkkommomefmpgaaGreat
open Go.RowKit

theorem Te_owns_apart {W : World} {B B' e e' s s' n n' : Nat} {v v' : Value} {xs xs' : List Value} (h : W.ownsRow B e s v n xs) (h' : W.ownsRow B' e' s' v' n' xs') (hne : e ≠ e') (k : Nat) (h1 : v.ownBlock = some k) : v'.ownBlock ≠ some k := by
  intro h2
  rcases h.2 with ⟨rfl, _⟩ | ⟨g, cap, cur, rfl, _, h3, _⟩
  · cases h1
  · rcases h'.2 with ⟨rfl, _⟩ | ⟨g', cap', cur', rfl, _, h4, _⟩
    · cases h2
    · simp only [Value.ownBlock, Option.some.injEq] at h1 h2
      subst h1
      subst h2
      rw [h3] at h4
      cases h4
      exact hne rfl
def LCells (W : World) (B : Nat) (ls : List (List UInt8)) (xs : List Value) : Prop :=
  xs.length = ls.length ∧ (∀ j (hj : j < ls.length), ∃ v, xs[j]? = some v ∧ W.ownsRow B 5 1 v ls[j].length (ls[j].map bv)) ∧ ∀ (i j : Nat) (vi vj : Value) (k : Nat), i < j → xs[i]? = some vi → xs[j]? = some vj → vi.ownBlock = some k → vj.ownBlock ≠ some k
theorem LCells.keep {W W' : World} {B : Nat} {ls : List (List UInt8)} {xs : List Value} (h : LCells W B ls xs) (hk : ∀ j, j < ls.length → ∀ v k, xs[j]? = some v → v.ownBlock = some k → W'.heap[k]? = W.heap[k]?) : LCells W' B ls xs :=
  ⟨h.1, fun j hj => by
    obtain ⟨v, h1, h2⟩ := h.2.1 j hj
    exact ⟨v, h1, owns_keep h2 fun k e => hk j hj v k h1 e⟩, h.2.2⟩
theorem LCells.below {W W' : World} {B : Nat} {ls : List (List UInt8)} {xs : List Value} (h : LCells W B ls xs) (hB : Below W.heap.size W W') : LCells W' B ls xs :=
  h.keep fun j hj v k h1 e => by
    obtain ⟨v', h2, h3⟩ := h.2.1 j hj
    rw [h1] at h2
    cases h2
    exact hB.block k (h3.lt k e).2
theorem LCells.snoc {W : World} {B : Nat} {ls : List (List UInt8)} {xs : List Value} {k : Nat} (hk : k < ls.length) (h : LCells W B (ls.take k) xs) (u : Value) (hu : W.ownsRow B 5 1 u ls[k].length (ls[k].map bv)) (hd : ∀ (j : Nat) (v : Value) (i : Nat), xs[j]? = some v → v.ownBlock = some i → u.ownBlock ≠ some i) : LCells W B (ls.take (k + 1)) (xs ++ [u]) := by
  have hl := h.1
  rw [List.length_take, Nat.min_eq_left (by omega)] at hl
  refine ⟨by simp [hl]; omega, fun j hj => ?_, fun i j vi vj m hij h1 h2 h3 => ?_⟩
  · have hj' : j < k + 1 := by simp at hj; omega
    by_cases e : j = k
    · subst e
      refine ⟨u, by rw [List.getElem?_append_right (by omega), hl, Nat.sub_self]; rfl, by simpa using hu⟩
    · obtain ⟨v, h1, h2⟩ := h.2.1 j (by simp; omega)
      refine ⟨v, by rw [List.getElem?_append_left (by omega)]; exact h1, by simpa using h2⟩
  · have hj : j < k + 1 := by have := (List.getElem?_eq_some_iff.1 h2).1; simp [hl] at this; omega
    rw [List.getElem?_append_left (by omega)] at h1
    by_cases e : j = k
    · subst e
      rw [List.getElem?_append_right (by omega), hl, Nat.sub_self] at h2
      obtain rfl : u = vj := by simpa using h2
      exact hd i vi m h1 h3
    · rw [List.getElem?_append_left (by omega)] at h2
      exact h.2.2 i j vi vj m hij h1 h2 h3

end Go.Proofs.YtkkommomefmpgaaGreat

/- The reference's terminal: Check, New. -/
namespace Go.Proofs.YtkkommomefmpgaaGreat
open Go.RowKit

set_option maxRecDepth 100000 in
set_option maxHeartbeats 1000000 in
theorem Te_check_any (v : Value) (ls : List (List UInt8)) (w : World) (h : Lns w v ls) (hs : ls.length * 24 ≤ 140737488351232) :
    Calls Tryz.prog 42 #[v] w fun e w' => e = .returned (.int .i64 (newE ls)) ∧ w' = w := by
  have H0 := hide h
  obtain ⟨a1, c1, rfl⟩ := h.form
  clear h
  by_cases hc : 256 < ls.length
  · have hE : newE ls = 3 := by unfold newE; rw [if_pos hc]
    rw [hE]
    have hd : decide ((256 : Int) < (ls.length : Int)) = true := by simp; omega
    clear hE
    go_enter Tryz.func42, Tryz.ntmps42
    go_wp2
    all_goals first
      | (exfalso; omega)
      | (go_ret; exact ⟨rfl, rfl⟩)
  · have hd : decide ((256 : Int) < (ls.length : Int)) = false := by simp; omega
    have HN : Hid (∀ k (hk : k < ls.length), 4096 < ls[k].length → newE ls = 5) := hide fun k hk h2 => newE_long k hk (by omega) h2
    have HZ : Hid ((∀ j (hj : j < ls.length), ls[j].length ≤ 4096) → newE ls = 0) := hide fun h2 => newE_ok (by omega) h2
    generalize newE ls = E at *
    go_enter Tryz.func42, Tryz.ntmps42
    go_wp2
    go_loopw [3] (fun i wr => ∃ k : Nat, k ≤ ls.length ∧ i = .int .i64 k ∧ wr = w ∧ Hid (∀ j (hj : j < ls.length), j < k → ls[j].length ≤ 4096)) (fun i _ => ls.length - (intOf i).toNat)
    case atStart => exact ⟨0, Nat.zero_le _, rfl, rfl, fun j _ hj => by omega⟩
    case round =>
      obtain ⟨k, hk, rfl, rfl, HK⟩ := hrel
      by_cases hlt : k < ls.length
      · obtain ⟨b, off, va, vc, rfl, hcell, _⟩ := H0.out.at k hlt
        have hk1 : (0 : Int) ≤ (k : Int) := by omega
        have hk2 : (k : Int) < (ls.length : Int) := by omega
        by_cases hb : 4096 < ls[k].length
        · have HE := hide (HN.out k hlt hb)
          generalize ls[k].length = n at *
          have hd4 : decide ((4096 : Int) < (n : Int)) = true := by simp; omega
          go_wp2
          all_goals first
            | (exfalso; omega)
            | (go_ret; exact ⟨by rw [HE.out]; rfl, rfl⟩)
        · have HK' : Hid (∀ j (hj : j < ls.length), j < k + 1 → ls[j].length ≤ 4096) := hide fun j hj hjk => by
            by_cases e : j = k
            · subst e; omega
            · exact HK.out j hj (by omega)
          generalize ls[k].length = n at *
          have hd4 : decide ((4096 : Int) < (n : Int)) = false := by simp; omega
          go_wp2
          all_goals first
            | (exfalso; omega)
            | (go_roundw
               case rel => exact ⟨k + 1, by omega, by go_num, by trivial, HK'⟩
               case measure => simp [intOf]; omega)
      · have HE := hide (HZ.out fun j hj => HK.out j hj (by omega))
        go_wp2
        go_ret
        exact ⟨by rw [HE.out]; rfl, rfl⟩

theorem term_ref {W : World} {t : Nat} {a : Option Addr} {c : Nat} {ls : List (List UInt8)} {xs : List Value} (h1 : W.cell? ⟨t, 0, none⟩ = some (.slice a ls.length c)) (h2 : W.cell? ⟨t, 1, none⟩ = some (.slice none 0 0)) (h3 : W.frozen? ⟨t, 0, none⟩ = false) (h4 : W.frozen? ⟨t, 1, none⟩ = false)
    (hown : W.ownsRow (t + 1) 40 1 (.slice a ls.length c) ls.length xs) (hL : LCells W (t + 1) ls xs) : Term W t t 0 (fun k => t ≤ k ∧ k < W.heap.size) a c (.slice none 0 0) ls [] := by
  have htl := World.block_lt_of_cell? W _ h1
  refine ⟨h1, h2, h3, h4, owns_cap hown, fun k e => ?_, fun h0 => ?_, World.ownsRow_nil _ _ _ _, (fun k e => by cases e), ⟨Nat.le_refl _, htl⟩, (fun k e => e)⟩
  · have := hown.lt k e
    exact ⟨⟨by omega, this.2⟩, by omega, by intro e; cases e⟩
  · obtain ⟨r, cap, he, _, _⟩ := hown.form h0
    cases he
    refine ⟨r, 0, rfl, fun j hj => ?_⟩
    obtain ⟨v, q1, q2⟩ := hL.2.1 j hj
    obtain ⟨va, vc, rfl⟩ := owns_slice q2
    rw [Nat.zero_add]
    refine ⟨hown.frozenAt j, va, vc, (hown.cellAt j (by omega)).trans q1, owns_cap q2, Bys.of_owns q2, fun k e => ?_⟩
    have := q2.lt k e
    refine ⟨⟨by omega, this.2⟩, by omega, fun e' => ?_, by intro e; cases e⟩
    exact Te_owns_apart q2 hown (by decide) k e (by rw [e']; rfl)

set_option maxRecDepth 100000 in
set_option maxHeartbeats 4000000 in
theorem Te_rnew_good (v : Value) (ls : List (List UInt8)) (w : World) (h : Lns w v ls) (hs : ls.length * 24 ≤ 140737488351232) (hl : newE ls = 0) :
    Calls Tryz.prog 128 #[v] w fun e w' => e = .returned (.tuple #[.pointer (some ⟨w.heap.size, 0, none⟩), .int .i64 0]) ∧ (∃ a c, Term w' w.heap.size w.heap.size 0 (fun k => w.heap.size ≤ k ∧ k < w'.heap.size) a c (.slice none 0 0) ls []) ∧ Below w.heap.size w w' := by
  have HC := hide (Te_check_any v ls w h hs)
  have H0 := hide h
  obtain ⟨hfew, hshort⟩ := newE_small hl
  have HSh := hide hshort
  obtain ⟨a1, c1, rfl⟩ := h.form
  rw [hl] at HC
  clear h hshort hl
  go_enter Tryz.func128, Tryz.ntmps128
  go_wp2_with fail
  refine HC.out.mono ?_
  rintro e w1 ⟨rfl, rfl⟩
  clear HC
  go_wp2
  have hBa : Below w1.heap.size w1 (w1.alloc (Obj.cells #[.slice none 0 0, .slice none 0 0] 277)) := (Below.refl _ _).alloc (Nat.le_refl _) _
  have q1 : (w1.alloc (Obj.cells #[.slice none 0 0, .slice none 0 0] 277)).cell? ⟨w1.heap.size, 0, none⟩ = some (.slice none 0 0) := by simp only [World.cell?, heap_alloc_new]; rfl
  have q2 : (w1.alloc (Obj.cells #[.slice none 0 0, .slice none 0 0] 277)).cell? ⟨w1.heap.size, 1, none⟩ = some (.slice none 0 0) := by simp only [World.cell?, heap_alloc_new]; rfl
  have q3 : ∀ j, (w1.alloc (Obj.cells #[.slice none 0 0, .slice none 0 0] 277)).frozen? ⟨w1.heap.size, j, none⟩ = false := fun j => by simp only [World.frozen?, heap_alloc_new]; simp
  have Q1 := hide q1
  have Q2 := hide q2
  have Q3 := hide q3
  clear q1 q2 q3
  go_loopw [6, 7] (fun i _ wr => ∃ (k : Nat) (xs : List Value) (la : Option Addr) (lc : Nat), k ≤ ls.length ∧ i = .int .i64 k ∧ wr.cell? ⟨w1.heap.size, 0, none⟩ = some (.slice la k lc) ∧ Hid (wr.cell? ⟨w1.heap.size, 1, none⟩ = some (.slice none 0 0)) ∧ wr.frozen? ⟨w1.heap.size, 0, none⟩ = false ∧ Hid (wr.frozen? ⟨w1.heap.size, 1, none⟩ = false) ∧ Hid (wr.ownsRow (w1.heap.size + 1) 40 1 (.slice la k lc) k xs) ∧ Hid (LCells wr (w1.heap.size + 1) (ls.take k) xs) ∧ Below w1.heap.size w1 wr) (fun i _ _ => ls.length - (intOf i).toNat)
  case atStart => exact ⟨0, [], none, 0, Nat.zero_le _, rfl, Q1.out, Q2.out, Q3.out 0, Q3.out 1, World.ownsRow_nil _ _ _ _, ⟨rfl, (fun j hj => by simp at hj), (fun i j vi vj m _ h1 => by simp at h1)⟩, hBa⟩
  case round =>
    clear Q1 Q2 Q3 hBa
    obtain ⟨k, xs, la, lc, hk, rfl, t1, T2, t3, T4, HO, HL, hB⟩ := hrel
    by_cases hlt : k < ls.length
    · obtain ⟨b, off, va, vc, rfl, hc, hby⟩ := H0.out.at k hlt
      have hbl := World.block_lt_of_cell? w1 _ hc
      have hc' := (hB.cell (p := ⟨b, off + k, none⟩) hbl).trans hc
      have hk1 : (0 : Int) ≤ (k : Int) := by omega
      have hk2 : (k : Int) < (ls.length : Int) := by omega
      have hl4 := HSh.out k hlt
      have htw : w1.heap.size < wr.heap.size := World.block_lt_of_cell? wr _ t1
      obtain ⟨L, hL⟩ : ∃ L, L = ls[k] := ⟨_, rfl⟩
      rw [← hL] at hc' hby hl4
      have HLk := hide hL
      have hbd : Bys wr.drew (.slice va L.length vc) L := (hby.below hB).below (Below.refl _ _).drew
      obtain ⟨s1, w2, hr1, HO1, hg1, hb1⟩ := run_append_bytes wr.drew 40 wr.heap.size (.slice none 0 0) (.slice va L.length vc) [] L (World.ownsRow_nil _ _ _ _) hbd (by simp; omega) (Nat.le_refl _)
      rw [List.nil_append] at HO1
      obtain ⟨sa, sc, rfl⟩ := owns_slice HO1.out
      have hB2 : Below wr.heap.size wr w2 := (Below.refl _ wr).drew.grown hg1 (Nat.le_refl _) (fun j e => by cases e)
      have hz2 := hB2.size
      have u1 := (hB2.cell (p := ⟨w1.heap.size, 0, none⟩) htw).trans t1
      have hBb : Below w2.heap.size w2 (w2.alloc (Obj.cells #[.slice sa L.length sc] 40)) := (Below.refl _ _).alloc (Nat.le_refl _) _
      have hB2b := hB2.trans (hBb.mono hz2)
      have hcu : (w2.alloc (Obj.cells #[.slice sa L.length sc] 40)).cell? ⟨w2.heap.size, 0, none⟩ = some (.slice sa L.length sc) := by simp only [World.cell?, heap_alloc_new]; rfl
      have u2 := (hB2b.cell (p := ⟨w1.heap.size, 0, none⟩) htw).trans t1
      have HOb := hide (owns_below HO.out hB2b)
      obtain ⟨s2, w3, hr2, HO2, hg2, hb2⟩ := run_append_line (w2.alloc (Obj.cells #[.slice sa L.length sc] 40)) 48 (w1.heap.size + 1) _ k xs w2.heap.size 1 _ HOb.out hcu rfl (by omega) (by have := hB2b.size; omega)
      obtain ⟨ra, rc, rfl⟩ := owns_slice HO2.out
      have hgt : w3.heap[w1.heap.size]? = (w2.alloc (Obj.cells #[.slice sa L.length sc] 40)).heap[w1.heap.size]? := hg2.block _ (by have := hB2b.size; omega) (fun e => by have := (HOb.out.lt _ e.symm).1; omega)
      have u3 : w3.cell? ⟨w1.heap.size, 0, none⟩ = some (.slice la k lc) := (World.cell?_of_block (w := w2.alloc (Obj.cells #[.slice sa L.length sc] 40)) hgt).trans u2
      have u4 : w3.frozen? ⟨w1.heap.size, 0, none⟩ = false := (World.frozen?_of_block (w := w2.alloc (Obj.cells #[.slice sa L.length sc] 40)) hgt).trans ((hB2b.frozen (p := ⟨w1.heap.size, 0, none⟩) htw).trans t3)
      have HR1 := hide hr1
      have HR2 := hide hr2
      have hz2b := hB2b.size
      have hBw := hB.trans (hB2b.mono hB.size)
      have hO : ∀ j, j ≠ w1.heap.size → (w3.setCell ⟨w1.heap.size, 0, none⟩ (.slice ra (k + 1) rc)).heap[j]? = w3.heap[j]? := fun j hj => Below.heap_setCell _ _ _ _ hj
      have hgc := hide (World.cell?_of_block (w := w2.alloc (Obj.cells #[.slice sa L.length sc] 40)) (a := ⟨w1.heap.size, 1, none⟩) hgt)
      have hgf := hide (World.frozen?_of_block (w := w2.alloc (Obj.cells #[.slice sa L.length sc] 40)) (a := ⟨w1.heap.size, 1, none⟩) hgt)
      have G1 := hide (World.cell?_setCell_same w3 ⟨w1.heap.size, 0, none⟩ (.slice ra (k + 1) rc) u3)
      have G2 : Hid ((w3.setCell ⟨w1.heap.size, 0, none⟩ (.slice ra (k + 1) rc)).cell? ⟨w1.heap.size, 1, none⟩ = some (.slice none 0 0)) := hide (by
        rw [World.cell?_setCell_other _ _ _ _ (by simp)]
        exact hgc.out.trans ((hB2b.cell (p := ⟨w1.heap.size, 1, none⟩) htw).trans T2.out))
      have G3 : Hid ((w3.setCell ⟨w1.heap.size, 0, none⟩ (.slice ra (k + 1) rc)).frozen? ⟨w1.heap.size, 0, none⟩ = false) := hide (by rw [World.frozen?_setCell]; exact u4)
      have G4 : Hid ((w3.setCell ⟨w1.heap.size, 0, none⟩ (.slice ra (k + 1) rc)).frozen? ⟨w1.heap.size, 1, none⟩ = false) := hide (by
        rw [World.frozen?_setCell]
        exact hgf.out.trans ((hB2b.frozen (p := ⟨w1.heap.size, 1, none⟩) htw).trans T4.out))
      have G5 : Hid ((w3.setCell ⟨w1.heap.size, 0, none⟩ (.slice ra (k + 1) rc)).ownsRow (w1.heap.size + 1) 40 1 (.slice ra (k + 1) rc) (k + 1) (xs ++ [.slice sa L.length sc])) := hide (owns_keep HO2.out fun j e => hO j (by have := (HO2.out.lt j e).1; omega))
      have G6 : Hid (LCells (w3.setCell ⟨w1.heap.size, 0, none⟩ (.slice ra (k + 1) rc)) (w1.heap.size + 1) (ls.take (k + 1)) (xs ++ [.slice sa L.length sc])) := hide (by
        have hLb := HL.out.below hB2b
        have hUb := owns_below HO1.out hBb
        refine LCells.snoc hlt (hLb.keep fun j hj v i h1 e => ?_) _ ?_ (fun j v i h1 e e' => ?_)
        · obtain ⟨v', h2, h3⟩ := hLb.2.1 j hj
          rw [h1] at h2
          cases h2
          have hi := h3.lt i e
          exact (hO i (by omega)).trans (hg2.block i hi.2 (fun e' => Te_owns_apart h3 HOb.out (by decide) i e e'.symm))
        · rw [← hL]
          refine owns_mono (base := wr.heap.size) (owns_keep hUb fun i e => ?_) (by omega)
          have hi := hUb.lt i e
          exact (hO i (by omega)).trans (hg2.block i hi.2 (fun e' => Te_owns_apart hUb HOb.out (by decide) i e e'.symm))
        · obtain ⟨v', h2, h3⟩ := HL.out.2.1 j (by have := (List.getElem?_eq_some_iff.1 h1).1; have := HL.out.1; omega)
          rw [h1] at h2
          cases h2
          have := (h3.lt i e).2
          have := (HO1.out.lt i e').1
          omega)
      have G7 : Hid (Below w1.heap.size w1 (w3.setCell ⟨w1.heap.size, 0, none⟩ (.slice ra (k + 1) rc))) := hide ((hBw.grown hg2 hBw.size (fun j e => by have := (HOb.out.lt j e).1; omega)).setCell (p := ⟨w1.heap.size, 0, none⟩) (Nat.le_refl _) _)
      clear hr1 hr2 hgt hc hby hL hbd hcu hgc hgf hO hb1 hb2 hg1 hg2 HOb HO1 HO2 hBw hBb
      go_wp2_with fail
      go_region_law (first | (refine step_append_run _ (by rfl) _ _ _ _ (by rfl) _ _ (by rfl) (by rfl) _ _ HR1.out ?_) | (refine step_append_run _ (by rfl) _ _ _ _ (by rfl) _ _ (by rfl) (by rfl) _ _ HR2.out ?_))
      all_goals
        go_wp2
        go_roundw
        case rel => exact ⟨k + 1, _, ra, rc, by omega, by go_num, G1.out, G2, G3.out, G4, G5, G6, G7.out⟩
        case measure => simp [intOf]; omega
    · have hke : k = ls.length := by omega
      subst hke
      go_wp2
      go_ret2
      have hL := HL.out
      rw [List.take_length] at hL
      exact ⟨rfl, ⟨la, lc, term_ref t1 T2.out t3 T4.out HO.out hL⟩, hB⟩
end Go.Proofs.YtkkommomefmpgaaGreat

/- The reference's terminal: Read, Write. -/
namespace Go.Proofs.YtkkommomefmpgaaGreat
open Go.RowKit

end Go.Proofs.YtkkommomefmpgaaGreat

/- Bytes that came in as an argument: what a walk is told of them. -/
namespace Go.Proofs.YtkkommomefmpgaaGreat
open Go.ChangeShapes Go.WideShapes Go.ChangeAt Go.RowKit

end Go.Proofs.YtkkommomefmpgaaGreat

/- Bytes, and steps, that came in as an argument: what a walk is told of them. -/
namespace Go.Proofs.YtkkommomefmpgaaGreat
open Go.ChangeShapes Go.WideShapes Go.ChangeAt Go.RowKit Go.Deep

theorem Kp_bys_len {W : World} {a : Option Addr} {n c : Nat} {l : List UInt8} (h : Bys W (.slice a n c) l) : n = l.length := by
  obtain ⟨a', c', he, _⟩ := bys_form h
  cases he
  rfl
theorem bytes_arg2 {H : Type} {enc : TypeId × Value → H} {P : Program} {W : World} {base : Nat} {a : Option Addr} {len cap fuel t e : Nat} {d : DataW H} {p : List MemPlace}
    (ht : P.underlying t = some (.slice e)) (he : P.underlying e = some (.int .u8)) (hc : P.cellsOf e = 1)
    (hf : DataW.trod enc P W base (fun _ => true) true fuel t (Value.slice a len cap).cells.toList = some (d, p)) :
    ∃ l : List UInt8, Bys W (.slice a len cap) l ∧ l.length ≤ cap ∧ ((d = .nil ∧ l = []) ∨ ∃ elems spare : List (DataW H), d = .slice elems spare ∧ l.length = elems.length) := by
  rcases open_ints ht he hc hf with ⟨hcs, hd⟩ | ⟨x, n, c, zs, hcs, _, hl, hm, hz, hx, hcell, hwz⟩
  · simp [Value.cells] at hcs
    obtain ⟨rfl, rfl, rfl⟩ := hcs
    exact ⟨[], .inl ⟨rfl, rfl⟩, by simp, .inl ⟨(Prod.mk.inj hd).1, rfl⟩⟩
  · simp [Value.cells] at hcs
    obtain ⟨rfl, rfl, rfl⟩ := hcs
    simp only [if_true] at hz
    have hlen : ((zs.take len).map fun n => UInt8.ofNat n.toNat).length = len := by rw [List.length_map, List.length_take]; omega
    refine ⟨(zs.take len).map fun n => UInt8.ofNat n.toNat, ?_, by rw [hlen]; exact hl, .inr ⟨_, _, (Prod.mk.inj hx).1, by simp [lits]⟩⟩
    by_cases h0 : len = 0
    · subst h0
      exact .inr (.inl ⟨x, cap, rfl, by simp⟩)
    · obtain ⟨b, off, spot⟩ := x
      have hspot : spot = none := by simpa [Addr.add] using World.cell?_spot (hcell 0 (by omega))
      subst hspot
      refine .inr (.inr ⟨b, off, cap, by rw [hlen], by rw [hlen]; omega, fun j hj => ?_⟩)
      rw [hlen] at hj
      have h1 := hcell j (by omega)
      have hadd : (⟨b, off, none⟩ : Addr).add j = ⟨b, off + j, none⟩ := by unfold Addr.add; split <;> simp_all
      rw [hadd] at h1
      rw [h1]
      have hjz : j < zs.length := by omega
      have hb := bounds_u8 (hwz zs[j] (List.getElem_mem hjz))
      simp only [List.getD_eq_getElem?_getD, List.getElem?_map, List.getElem?_take, if_pos hj, List.getElem?_eq_getElem hjz, Option.map_some, Option.getD_some]
      rw [UInt8.toNat_ofNat_of_lt' (by show _ < 256; omega), Int.toNat_of_nonneg hb.1]



def Kp_DataOf {H : Type} (d : DataW H) (x : List UInt8) : Prop := (d = .nil ∧ x = []) ∨ ∃ elems spare : List (DataW H), d = .slice elems spare ∧ x.length = elems.length

theorem Kp_weightsAll_mem {H : Type} {P : Program} {e : TypeId} : ∀ {l : List (DataW H)} {d : DataW H}, d ∈ l → ∀ n ∈ d.weights P e, n ∈ DataW.weightsAll P e l
  | d' :: r, d, hd, n, hn => by
    simp only [DataW.weightsAll, List.mem_append]
    rcases List.mem_cons.1 hd with rfl | h
    · exact Or.inl hn
    · exact Or.inr (Kp_weightsAll_mem h n hn)
end Go.Proofs.YtkkommomefmpgaaGreat

/- Slices of anything that came in as an argument: what a walk is told of them, and their sizes. -/
namespace Go.Proofs.YtkkommomefmpgaaGreat
open Go.ChangeShapes Go.WideShapes Go.ChangeAt Go.RowKit Go.Deep

def DatL {H : Type} {α : Type} (Dt : DataW H → α → Prop) (d : DataW H) (l : List α) : Prop := (d = .nil ∧ l = []) ∨ ∃ elems spare : List (DataW H), d = .slice elems spare ∧ l.length = elems.length ∧ ∀ i (hi : i < l.length), ∃ di, di ∈ elems ∧ Dt di l[i]
def RowsR {α : Type} (W : World) (k : Nat) (Rd : List Value → α → Prop) (v : Value) (l : List α) : Prop :=
  (v = .slice none 0 0 ∧ l = []) ∨ ∃ q cap, v = .slice (some q) l.length cap ∧ l.length ≤ cap ∧ (0 < l.length → ∃ b off, q = ⟨b, off, none⟩ ∧ ∀ j (hj : j < l.length), ∃ cs, Rd cs l[j] ∧ cs.length = k ∧ ∀ i v, cs[i]? = some v → W.cell? ⟨b, off + j * k + i, none⟩ = some v)
theorem rows_arg {H : Type} {enc : TypeId × Value → H} {P : Program} {W : World} {base : Nat} {a : Option Addr} {len cap fuel t e : Nat} {d : DataW H} {p : List MemPlace} {α : Type} (k : Nat) (Rd : List Value → α → Prop) (Dt : DataW H → α → Prop)
    (ht : P.underlying t = some (.slice e)) (ce : P.cellsOf e = k) (hk : 0 < k)
    (each : ∀ fuel cs d p, DataW.trod enc P W base (fun _ => true) true fuel e cs = some (d, p) → cs.length = k → ∃ x, Rd cs x ∧ Dt d x)
    (hf : DataW.trod enc P W base (fun _ => true) true fuel t (Value.slice a len cap).cells.toList = some (d, p)) :
    ∃ l : List α, RowsR W k Rd (.slice a len cap) l ∧ DatL Dt d l := by
  rcases open_slice ht hf with ⟨hcs, hd⟩ | ⟨x, n, c, m, kk, D, Pl, hcs, _, hl, hm, hmm, hx, hel⟩
  · simp [Value.cells] at hcs
    obtain ⟨rfl, rfl, rfl⟩ := hcs
    exact ⟨[], .inl ⟨rfl, rfl⟩, .inl ⟨(Prod.mk.inj hd).1, rfl⟩⟩
  · simp [Value.cells] at hcs
    obtain ⟨rfl, rfl, rfl⟩ := hcs
    simp only [if_true] at hmm
    subst hmm
    have ea : ∀ i, i < len → ∃ s : α, Dt (D i) s ∧ ∃ cs, Rd cs s ∧ cs.length = k ∧ ∀ j v, cs[j]? = some v → W.cell? ((x.add (i * k)).add j) = some v := by
      intro i hi
      obtain ⟨cs', h1, h2⟩ := hel i (by omega)
      rw [ce] at h1
      obtain ⟨_, hlen, hcell⟩ := World.cells?_some h1
      obtain ⟨s, hs, hD⟩ := each _ _ _ _ h2 hlen
      refine ⟨s, hD, cs', hs, hlen, fun j v hj => ?_⟩
      have hjl := (List.getElem?_eq_some_iff.1 hj).1
      rw [hcell j (by omega)]
      exact hj
    by_cases hα : 0 < len
    case neg =>
      obtain rfl : len = 0 := by omega
      exact ⟨[], .inr ⟨x, _, rfl, Nat.zero_le _, fun h => absurd h (by simp)⟩, .inr ⟨_, _, (Prod.mk.inj hx).1, by simp, fun i hi => absurd hi (by simp)⟩⟩
    obtain ⟨s, hs⟩ : ∃ s : Nat → α, ∀ i, i < len → Dt (D i) (s i) ∧ ∃ cs, Rd cs (s i) ∧ cs.length = k ∧ ∀ j v, cs[j]? = some v → W.cell? ((x.add (i * k)).add j) = some v := by
      exact ⟨fun i => if h : i < len then (ea i h).choose else (ea 0 hα).choose, fun i hi => by simp only [dif_pos hi]; exact (ea i hi).choose_spec⟩
    refine ⟨(List.range len).map s, .inr ⟨x, m, by simp, by simpa using hl, fun h0 => ?_⟩, .inr ⟨_, _, (Prod.mk.inj hx).1, by simp, fun i hi => ?_⟩⟩
    · obtain ⟨b, off, spot⟩ := x
      obtain ⟨_, cs0, _, hc0, q0⟩ := hs 0 hα
      have hspot : spot = none := by
        have h1 := q0 0 (cs0[0]'(by omega)) (List.getElem?_eq_getElem (by omega))
        simpa [Addr.add] using World.cell?_spot h1
      subst hspot
      refine ⟨b, off, rfl, fun j hj => ?_⟩
      have hj' : j < len := by simpa using hj
      obtain ⟨_, cs, h1, h2, h3⟩ := hs j hj'
      have hadd : ∀ o k, (⟨b, o, none⟩ : Addr).add k = ⟨b, o + k, none⟩ := fun o k => by unfold Addr.add; split <;> simp_all
      simp only [List.getElem_map, List.getElem_range]
      exact ⟨cs, h1, h2, fun i v hv => by have := h3 i v hv; rwa [hadd, hadd] at this⟩
    · have hi' : i < len := by simpa using hi
      exact ⟨D i, List.mem_map.2 ⟨i, by simpa using hi', rfl⟩, by simpa using (hs i hi').1⟩
theorem RowsR.form {α : Type} {W : World} {k : Nat} {Rd : List Value → α → Prop} {v : Value} {l : List α} (h : RowsR W k Rd v l) : ∃ a c, v = .slice a l.length c ∧ l.length ≤ c := by
  rcases h with ⟨rfl, rfl⟩ | ⟨q, cap, rfl, h1, _⟩
  · exact ⟨_, _, rfl, Nat.le_refl _⟩
  · exact ⟨_, _, rfl, h1⟩
theorem RowsR.at {α : Type} {W : World} {k : Nat} {Rd : List Value → α → Prop} {a : Option Addr} {n c : Nat} {l : List α} (h : RowsR W k Rd (.slice a n c) l) (j : Nat) (hj : j < l.length) :
    ∃ b off cs, a = some ⟨b, off, none⟩ ∧ Rd cs l[j] ∧ cs.length = k ∧ ∀ i v, cs[i]? = some v → W.cell? ⟨b, off + j * k + i, none⟩ = some v := by
  rcases h with ⟨_, rfl⟩ | ⟨q, cap, he, h1, h2⟩
  · simp at hj
  · cases he
    obtain ⟨b, off, rfl, hd⟩ := h2 (by omega)
    obtain ⟨cs, h3, h4, h5⟩ := hd j hj
    exact ⟨b, off, cs, rfl, h3, h4, h5⟩
def MSmall {H : Type} (P : Program) (t : TypeId) (d : DataW H) : Prop := ∀ n ∈ d.weights P t, n ≤ reachBytes
theorem msmall_arg {H : Type} {P : Program} {ts : List TypeId} {ds : List (DataW H)} (h : (DataW.weightsEach P ts ds).all (· ≤ reachBytes) = true) {j : Nat} {t : TypeId} {d : DataW H} (ht : ts[j]? = some t) (hd : ds[j]? = some d) : MSmall P t d :=
  fun n hn => of_decide_eq_true (List.all_eq_true.1 h _ (DataW.weights_mem_each ht hd n hn))
theorem MSmall.slice {H : Type} {P : Program} {t e : TypeId} {es sp : List (DataW H)} (h : MSmall P t (.slice es sp)) (hu : P.underlying t = some (.slice e)) : (es.length + sp.length) * P.bytesOf e ≤ reachBytes ∧ ∀ d ∈ es, MSmall P e d :=
  ⟨h _ (by simp [DataW.weights, hu]), fun d hd n hn => h n (by
    simp only [DataW.weights, hu, List.mem_cons, List.mem_append]
    exact Or.inr (Or.inl (Kp_weightsAll_mem hd n hn)))⟩
theorem mbytes_small {H : Type} {P : Program} {t e : TypeId} {d : DataW H} {x : List UInt8} (h : MSmall P t d) (hu : P.underlying t = some (.slice e)) (be : P.bytesOf e = 1) (hO : Kp_DataOf d x) : x.length ≤ 140737488351232 := by
  rcases hO with ⟨_, rfl⟩ | ⟨es, sp, rfl, hl⟩
  · simp
  · have := (h.slice hu).1
    rw [be] at this
    simp only [reachBytes] at this
    omega
theorem mrows_small {H : Type} {P : Program} {t e : TypeId} {d : DataW H} {α : Type} {Dt : DataW H → α → Prop} {l : List α} {n : Nat} (h : MSmall P t d) (hu : P.underlying t = some (.slice e)) (be : P.bytesOf e = n) (hO : DatL Dt d l) : l.length * n ≤ 140737488351232 ∧ ∀ i (hi : i < l.length), ∃ di, MSmall P e di ∧ Dt di l[i] := by
  rcases hO with ⟨_, rfl⟩ | ⟨es, sp, rfl, hl, hel⟩
  · exact ⟨by simp, fun i hi => absurd hi (by simp)⟩
  · obtain ⟨h1, h2⟩ := h.slice hu
    rw [be] at h1
    simp only [reachBytes] at h1
    refine ⟨Nat.le_trans (Nat.mul_le_mul_right _ (by omega)) h1, fun i hi => ?_⟩
    obtain ⟨di, hm, hO⟩ := hel i hi
    exact ⟨di, h2 di hm, hO⟩
def ByC (W : World) (v : Value) (x : List UInt8) : Prop := ∃ va vc, v = .slice va x.length vc ∧ Bys W (.slice va x.length vc) x ∧ x.length ≤ vc
theorem byc_arg {H : Type} {enc : TypeId × Value → H} {P : Program} {W : World} {base fuel e u : Nat} {v : Value} {d : DataW H} {p : List MemPlace} (he : P.underlying e = some (.slice u)) (hu : P.underlying u = some (.int .u8)) (cu : P.cellsOf u = 1)
    (h : DataW.trod enc P W base (fun _ => true) true fuel e [v] = some (d, p)) : ∃ x, ByC W v x ∧ Kp_DataOf d x := by
  obtain ⟨va, vl, vc, rfl⟩ : ∃ va vl vc, v = .slice va vl vc := by
    rcases DataW.trod_slice he h with ⟨h0, _⟩ | ⟨x, len, cap, _, _, _, _, h0, _⟩
    · exact ⟨_, _, _, by simpa using h0⟩
    · exact ⟨_, _, _, by simpa using h0⟩
  obtain ⟨s, hs, hc, hO⟩ := bytes_arg2 he hu cu (by simpa [Value.cells] using h)
  obtain rfl := Kp_bys_len hs
  exact ⟨s, ⟨va, vc, rfl, hs, hc⟩, hO⟩
end Go.Proofs.YtkkommomefmpgaaGreat

/- Memories: a store as a value and in memory; isMade, read, seek, all of it. -/
namespace Go.Proofs.YtkkommomefmpgaaGreat
open Go.RowKit

structure MS where
  l : List UInt8
  room : Nat
  pl : Nat
def MS.read (S : MS) (n : Int) : List UInt8 × Int × MS :=
  if inR n = true then (piece S.l S.pl n.toNat, 0, ⟨S.l, S.room, S.pl + (piece S.l S.pl n.toNat).length⟩) else ([], 4, S)
def MS.write (S : MS) (x : List UInt8) : Int × Int × MS :=
  if 1048576 < x.length then (0, 5, S) else if x = [] then (0, 0, S) else if S.pl = S.room then (0, 31, S)
  else ((min x.length (S.room - S.pl) : Nat), 0, ⟨lay S.l S.pl (x.take (min x.length (S.room - S.pl))), S.room, S.pl + min x.length (S.room - S.pl)⟩)
def MS.from (S : MS) (wh : Int) : Nat := if wh = 1 then S.pl else if wh = 2 then S.l.length else 0
def MS.seek (S : MS) (off wh : Int) : Int × Int × MS :=
  if wh < 0 ∨ 2 < wh then (0, 1, S)
  else if off < -(S.from wh : Int) ∨ (S.room : Int) - (S.from wh : Int) < off then (0, 4, S)
  else ((S.from wh : Int) + off, 0, ⟨S.l, S.room, ((S.from wh : Int) + off).toNat⟩)

def MemAt (W : World) (O : Nat → Prop) (g : Nat) (S : MS) : Prop :=
  ∃ f b cap, W.cell? ⟨g, 0, none⟩ = some (.pointer (some ⟨f, 0, none⟩)) ∧ W.cell? ⟨g, 1, none⟩ = some (.int .i64 S.room) ∧ W.cell? ⟨g, 2, none⟩ = some (.int .i64 S.pl) ∧ W.frozen? ⟨g, 2, none⟩ = false ∧
    FileAt W f b cap S.l ∧ O g ∧ O f ∧ O b ∧ g ≠ f ∧ g ≠ b ∧ S.l.length ≤ S.room ∧ S.pl ≤ S.room ∧ S.room ≤ 1048576
def MStep (w : World) (O : Nat → Prop) (g : Nat) (S : MS) (w' : World) : Prop := ∃ O', MemAt w' O' g S ∧ (∀ k, O' k → O k ∨ w.heap.size ≤ k) ∧ Turned O w w'
theorem MemAt.keep {W W' : World} {O : Nat → Prop} {g : Nat} {S : MS} (h : MemAt W O g S) (hk : ∀ j, O j → j < W.heap.size → W'.heap[j]? = W.heap[j]?) : MemAt W' O g S := by
  obtain ⟨f, b, cap, h0, h1, h2, h3, h4, og, of, ob, n1, n2, r1, r2, r3⟩ := h
  have kg := hk g og (World.block_lt_of_cell? W _ h0)
  exact ⟨f, b, cap, (World.cell?_of_block (w := W) kg).trans h0, (World.cell?_of_block (w := W) kg).trans h1, (World.cell?_of_block (w := W) kg).trans h2, (World.frozen?_of_block (w := W) kg).trans h3,
    h4.keep (hk f of h4.lt) (hk b ob h4.row.lt), og, of, ob, n1, n2, r1, r2, r3⟩
theorem MemAt.below {W W' : World} {O : Nat → Prop} {g : Nat} {S : MS} (h : MemAt W O g S) (hB : Below W.heap.size W W') : MemAt W' O g S := h.keep fun j _ hl => hB.block j hl
theorem MemAt.ok {W : World} {O : Nat → Prop} {g : Nat} {S : MS} (h : MemAt W O g S) : S.l.length ≤ S.room ∧ S.pl ≤ S.room ∧ S.room ≤ 1048576 := by
  obtain ⟨f, b, cap, h0, h1, h2, h3, h4, og, of, ob, n1, n2, r1, r2, r3⟩ := h
  exact ⟨r1, r2, r3⟩
theorem MemAt.trim {W : World} {O : Nat → Prop} {g : Nat} {S : MS} (h : MemAt W O g S) : MemAt W (fun k => O k ∧ k < W.heap.size) g S := by
  obtain ⟨f, b, cap, h0, h1, h2, h3, h4, og, of, ob, n⟩ := h
  exact ⟨f, b, cap, h0, h1, h2, h3, h4, ⟨og, World.block_lt_of_cell? W _ h0⟩, ⟨of, h4.lt⟩, ⟨ob, h4.row.lt⟩, n⟩
theorem MStep.same {w : World} {O : Nat → Prop} {g : Nat} {S : MS} (h : MemAt w O g S) : MStep w O g S w := ⟨O, h, fun _ e => .inl e, Turned.refl _ _⟩
theorem MStep.below {w w' : World} {O : Nat → Prop} {g : Nat} {S : MS} (h : MemAt w O g S) (hB : Below w.heap.size w w') : MStep w O g S w' := ⟨O, h.below hB, fun _ e => .inl e, Turned.of_below hB⟩

set_option maxHeartbeats 1000000 in
theorem sMade_yes (g f : Nat) (w : World) (h : w.cell? ⟨g, 0, none⟩ = some (.pointer (some ⟨f, 0, none⟩))) :
    Calls Tryz.prog 278 #[.pointer (some ⟨g, 0, none⟩)] w fun e w' => e = .returned (.bool true) ∧ w = w' := by
  go_enter Tryz.func278, Tryz.ntmps278
  go_wp2
  go_ret
  exact ⟨rfl, rfl⟩
set_option maxRecDepth 100000 in
set_option maxHeartbeats 1000000 in
theorem sread_any (O : Nat → Prop) (g : Nat) (S : MS) (n : Int) (w : World) (h : MemAt w O g S) :
    Calls Tryz.prog 279 #[.pointer (some ⟨g, 0, none⟩), .int .i64 n] w fun e w' => ∃ v, e = .returned (.tuple #[v, .int .i64 (S.read n).2.1]) ∧ w'.ownsRow w.heap.size 5 1 v (S.read n).1.length ((S.read n).1.map bv) ∧ MemAt w' O g (S.read n).2.2 ∧ Turned O w w' := by
  obtain ⟨f, b, cap, h0, h1, h2, h3, h4, og, of, ob, n1, n2, r1, r2, r3⟩ := h
  have hp : inR (S.pl : Int) = true := inR_yes (by omega) (by omega)
  have hE : Fi_rdE (S.pl : Int) n = (S.read n).2.1 := by
    unfold Fi_rdE MS.read
    rw [hp, Bool.true_and]
    by_cases hn : inR n = true
    · rw [if_neg (by simp [hn]), if_pos hn]
    · rw [if_pos (by simpa using hn), if_neg hn]
  have hL : rdL S.l (S.pl : Int) n = (S.read n).1 := by
    unfold rdL MS.read
    rw [hp, Bool.true_and]
    by_cases hn : inR n = true
    · rw [if_neg (by simp [hn]), if_pos hn, Int.toNat_natCast]
    · rw [if_pos (by simpa using hn), if_neg hn]
  have hS : (S.read n).2.2 = ⟨S.l, S.room, S.pl + (S.read n).1.length⟩ := by
    unfold MS.read
    by_cases hn : inR n = true
    · rw [if_pos hn]
    · rw [if_neg hn]; rfl
  have hle : S.pl + (S.read n).1.length ≤ S.room := by
    unfold MS.read
    by_cases hn : inR n = true
    · rw [if_pos hn]; show S.pl + (piece S.l S.pl n.toNat).length ≤ S.room; rw [piece_len]; omega
    · rw [if_neg hn]; simpa using r2
  have HR := hide (readAt_any f b cap S.l (S.pl : Int) n w.drew (h4.below (Below.refl _ _).drew) (by omega))
  rw [hE, hL] at HR
  rw [hS]
  generalize (S.read n).1 = Y at *
  generalize (S.read n).2.1 = E at *
  have H4 := hide h4
  have HS := hide (And.intro h0 (And.intro h1 (And.intro h2 h3)))
  clear hE hL hS h4 hp
  go_enter Tryz.func279, Tryz.ntmps279
  go_wp2_with fail
  go_region_held3 (fun w' => w'.cell? ⟨g, 0, none⟩ = some (.pointer (some ⟨f, 0, none⟩)) ∧ w'.cell? ⟨g, 2, none⟩ = some (.int .i64 S.pl))
    (first | exact hx5 | exact ⟨h0, h2⟩ | go_keep)
    (first
      | (go_at_call 282; refine HR.out.mono ?_; rintro e w2 ⟨v, rfl, hown, hB⟩; have hx5 : w2.cell? ⟨g, 0, none⟩ = some (.pointer (some ⟨f, 0, none⟩)) ∧ w2.cell? ⟨g, 2, none⟩ = some (.int .i64 S.pl) := ⟨(hB.cell (p := ⟨g, 0, none⟩) (World.block_lt_of_cell? w _ HS.out.1)).trans HS.out.1, (hB.cell (p := ⟨g, 2, none⟩) (World.block_lt_of_cell? w _ HS.out.2.2.1)).trans HS.out.2.2.1⟩)
      | fail)
  obtain ⟨va, vc, rfl⟩ := owns_slice hown
  obtain ⟨-, k2⟩ := hx5
  have hgl : g < w.heap.size := World.block_lt_of_cell? w _ HS.out.2.2.1
  have kb : w2.heap[g]? = w.heap[g]? := hB.block g hgl
  have k3 : w2.frozen? ⟨g, 2, none⟩ = false := (World.frozen?_of_block (w := w) kb).trans HS.out.2.2.2
  have HO := hide hown
  have hB' : Below w.heap.size w w2 := ((Below.refl _ w).drew).trans hB
  clear hown h0 h1 h2 h3 HR hB
  have hB := hB'
  go_wp2
  go_ret2
  rw [show ((S.pl : Int) + (Y.length : Int)) = ((S.pl + Y.length : Nat) : Int) by omega]
  have hT : Turned O w (w2.setCell ⟨g, 2, none⟩ (.int .i64 ((S.pl + Y.length : Nat) : Int))) := (Turned.of_below (S := O) hB).set (.inl og)
  refine ⟨_, rfl, owns_keep HO.out (fun k hk => Below.heap_setCell _ _ _ _ (fun e => ?_)), ⟨f, b, cap, ?_, ?_, ?_, ?_, ?_, og, of, ob, n1, n2, r1, hle, r3⟩, hT⟩
  · have h1 : w.heap.size ≤ k := (HO.out.lt k hk).1; have e' : k = g := e; omega
  · rw [World.cell?_setCell_other _ _ _ _ (by simp)]; exact (World.cell?_of_block (w := w) kb).trans HS.out.1
  · rw [World.cell?_setCell_other _ _ _ _ (by simp)]; exact (World.cell?_of_block (w := w) kb).trans HS.out.2.1
  · exact World.cell?_setCell_same _ _ _ k2
  · rw [World.frozen?_setCell]; exact k3
  · have := H4.out.below hB
    exact this.keep (Below.heap_setCell _ _ _ _ (fun e => n1 e.symm)) (Below.heap_setCell _ _ _ _ (fun e => n2 e.symm))
end Go.Proofs.YtkkommomefmpgaaGreat

/- Memories: write, seek. -/
namespace Go.Proofs.YtkkommomefmpgaaGreat
open Go.RowKit

theorem MS.write_long {S : MS} {x : List UInt8} (h : 1048576 < x.length) : S.write x = (0, 5, S) := by unfold MS.write; rw [if_pos h]
theorem MS.write_none {S : MS} : S.write [] = (0, 0, S) := by unfold MS.write; rw [if_neg (by decide), if_pos rfl]
theorem MS.write_full {S : MS} {x : List UInt8} (h : x.length ≤ 1048576) (h0 : x ≠ []) (hp : S.pl = S.room) : S.write x = (0, 31, S) := by unfold MS.write; rw [if_neg (by omega), if_neg h0, if_pos hp]
theorem MS.write_some {S : MS} {x : List UInt8} (h : x.length ≤ 1048576) (h0 : x ≠ []) (hp : S.pl ≠ S.room) {m : Nat} (hm : m = min x.length (S.room - S.pl)) : S.write x = ((m : Int), 0, ⟨lay S.l S.pl (x.take m), S.room, S.pl + m⟩) := by
  unfold MS.write; rw [if_neg (by omega), if_neg h0, if_neg hp, hm]

set_option maxRecDepth 100000 in
set_option maxHeartbeats 1000000 in
theorem swrite_long (O : Nat → Prop) (g : Nat) (S : MS) (a : Option Addr) (n c : Nat) (w : World) (h : MemAt w O g S) (hl : 1048576 < n) :
    Calls Tryz.prog 281 #[.pointer (some ⟨g, 0, none⟩), .slice a n c] w fun e w' => e = .returned (.tuple #[.int .i64 0, .int .i64 5]) ∧ w = w' := by
  obtain ⟨f, b, cap, h0, -⟩ := h
  have hd : (1048576 : Int) < (n : Int) := by omega
  go_enter Tryz.func281, Tryz.ntmps281
  go_wp2_with (first | (go_at_call 278; refine (sMade_yes g f _ h0).mono ?_; rintro _ _ ⟨rfl, rfl⟩) | fail)
  go_ret2
  exact ⟨rfl, rfl⟩
set_option maxRecDepth 100000 in
set_option maxHeartbeats 1000000 in
theorem swrite_none (O : Nat → Prop) (g : Nat) (S : MS) (a : Option Addr) (c : Nat) (w : World) (h : MemAt w O g S) :
    Calls Tryz.prog 281 #[.pointer (some ⟨g, 0, none⟩), .slice a 0 c] w fun e w' => e = .returned (.tuple #[.int .i64 0, .int .i64 0]) ∧ w = w' := by
  obtain ⟨f, b, cap, h0, -⟩ := h
  go_enter Tryz.func281, Tryz.ntmps281
  go_wp2_with (first | (go_at_call 278; refine (sMade_yes g f _ h0).mono ?_; rintro _ _ ⟨rfl, rfl⟩) | fail)
  go_ret2
  exact ⟨rfl, rfl⟩
set_option maxRecDepth 100000 in
set_option maxHeartbeats 1000000 in
theorem swrite_full (O : Nat → Prop) (g : Nat) (S : MS) (a : Option Addr) (n c : Nat) (w : World) (h : MemAt w O g S) (hl : n ≤ 1048576) (hn : 0 < n) (hp : S.pl = S.room) :
    Calls Tryz.prog 281 #[.pointer (some ⟨g, 0, none⟩), .slice a n c] w fun e w' => e = .returned (.tuple #[.int .i64 0, .int .i64 31]) ∧ Below w.heap.size w w' := by
  obtain ⟨f, b, cap, h0, h1, h2, -⟩ := h
  rw [hp] at h2
  have hd : ¬ (1048576 : Int) < (n : Int) := by omega
  have hd2 : ((n : Int) == 0) = false := by simp; omega
  generalize S.room = R at *
  generalize S.pl = Q at *
  clear hp
  go_enter Tryz.func281, Tryz.ntmps281
  go_wp2_with (first | (go_at_call 278; refine (sMade_yes g f _ h0).mono ?_; rintro _ _ ⟨rfl, rfl⟩) | fail)
  go_quiet (fail)
  go_wp2
  go_ret2
  exact ⟨rfl, below_drewN (Below.refl _ _) _⟩
set_option maxRecDepth 100000 in
set_option maxHeartbeats 2000000 in
theorem swrite_some (O : Nat → Prop) (g : Nat) (S : MS) (x : List UInt8) (a : Option Addr) (c m : Nat) (w : World) (h : MemAt w O g S) (hx : Bys w (.slice a x.length c) x) (hc : x.length ≤ c) (hap : ∀ k, (Value.slice a x.length c).ownBlock = some k → ¬ O k) (hl : x.length ≤ 1048576) (h0x : 0 < x.length) (hp : S.pl ≠ S.room) (hm : m = min x.length (S.room - S.pl)) :
    Calls Tryz.prog 281 #[.pointer (some ⟨g, 0, none⟩), .slice a x.length c] w fun e w' => e = .returned (.tuple #[.int .i64 m, .int .i64 0]) ∧ MStep w O g ⟨lay S.l S.pl (x.take m), S.room, S.pl + m⟩ w' := by
  obtain ⟨f, b, cap, h0, h1, h2, h3, h4, og, of, ob, n1, n2, r1, r2, r3⟩ := h
  obtain ⟨_, xb, xo, rfl, hxl, hcells⟩ := bys_block hx h0x
  have hm1 : 0 < m := by omega
  have hm2 : m ≤ x.length := by omega
  have hm3 : S.pl + m ≤ S.room := by omega
  have hmi : min (x.length : Int) ((S.room : Int) - (S.pl : Int)) = (m : Int) := by omega
  have htl : (x.take m).length = m := by rw [List.length_take]; omega
  have hcut : Bys w (.slice (some ⟨xb, xo, none⟩) m c) (x.take m) := by have := bys_cut hx 0 m c (by omega); simpa using this
  have HW := hide fun (W : World) (hB : Below w.heap.size w W) => writeAt_some f b cap S.l S.pl (.slice (some ⟨xb, xo, none⟩) m c) (x.take m) W (h4.below hB) (hcut.below hB) (fun k hk => by
    obtain rfl : xb = k := by simpa [Value.ownBlock] using hk
    have hn := hap xb rfl
    exact ⟨fun e => hn (e ▸ of), fun e => hn (e ▸ ob)⟩) (by rw [htl]; omega) (by rw [htl]; omega)
  have HS := hide (And.intro h0 (And.intro h1 (And.intro h2 h3)))
  have HF := hide (And.intro of (And.intro ob og))
  have hgl : g < w.heap.size := World.block_lt_of_cell? w _ h0
  have hd : ¬ (1048576 : Int) < (x.length : Int) := by omega
  have hd2 : ((x.length : Int) == 0) = false := by simp; intro e; rw [e] at h0x; simp at h0x
  have hd3 : ((S.pl : Int) == (S.room : Int)) = false := by simp; omega
  have hd3' : ¬ (S.pl : Int) = (S.room : Int) := by omega
  have hmc : m ≤ c := by omega
  have HH := hide (And.intro hm htl)
  clear hm hx hcells hcut hap h4 h3 of ob htl
  go_enter Tryz.func281, Tryz.ntmps281
  go_wp2_with (first | (go_at_call 278; refine (sMade_yes g f _ h0).mono ?_; rintro _ _ ⟨rfl, rfl⟩) | fail)
  go_quiet (fail)
  go_wp2_with fail
  go_quiet (fail)
  go_wp2_with fail
  go_region_held3 (fun w' => w'.cell? ⟨g, 0, none⟩ = some (.pointer (some ⟨f, 0, none⟩)) ∧ w'.cell? ⟨g, 2, none⟩ = some (.int .i64 S.pl))
    (first | exact hx5 | exact ⟨h0, h2⟩ | go_keep)
    (first
      | (go_at_call 283; refine (HW.out _ (below_drewN (Below.refl _ _) _)).mono ?_; rintro e w2 ⟨rfl, b', cap', hF2, hb2, hT2⟩; have hx5 : w2.cell? ⟨g, 0, none⟩ = some (.pointer (some ⟨f, 0, none⟩)) ∧ w2.cell? ⟨g, 2, none⟩ = some (.int .i64 S.pl) := ⟨hT2.cell HS.out.1 (fun e => by rcases e with e | e; exact n1 e; exact n2 e), hT2.cell HS.out.2.2.1 (fun e => by rcases e with e | e; exact n1 e; exact n2 e)⟩)
      | fail)
  obtain ⟨k0, k2⟩ := hx5
  have hgb : w2.heap[g]? = w.heap[g]? := hT2.block g hgl (fun e => by rcases e with e | e; exact n1 e; exact n2 e)
  have k1 : w2.cell? ⟨g, 1, none⟩ = some (.int .i64 S.room) := (World.cell?_of_block (w := w) hgb).trans HS.out.2.1
  have k3 : w2.frozen? ⟨g, 2, none⟩ = false := (World.frozen?_of_block (w := w) hgb).trans HS.out.2.2.2
  have hz : w.heap.size ≤ w2.heap.size := hT2.size
  have hb2' : b' = b ∨ w.heap.size ≤ b' := hb2
  have HT2 : Hid (Turned (fun k => k = f ∨ k = b) w w2) := hide ⟨hT2.os, hT2.tape, hT2.output, hT2.size, hT2.block⟩
  have HF2 := hide hF2
  clear hF2 hT2 h0 h1 h2 HW hb2
  go_wp2
  go_ret2
  rw [show ((S.pl : Int) + (m : Int)) = ((S.pl + m : Nat) : Int) by omega]
  have hll : (lay S.l S.pl (x.take m)).length ≤ S.room := by rw [lay_len, HH.out.2]; split <;> omega
  have hff := HF2.out.lt
  have hbn : b' ≠ g := by rcases hb2' with e | e <;> omega
  have hbf : f ≠ g := fun e => n1 e.symm
  refine ⟨rfl, fun k => k = g ∨ k = f ∨ k = b', ⟨f, b', cap', ?_, ?_, ?_, ?_, ?_, .inl rfl, .inr (.inl rfl), .inr (.inr rfl), n1, fun e => hbn e.symm, hll, hm3, r3⟩, fun k e => ?_, ?_⟩
  · rw [World.cell?_setCell_other _ _ _ _ (by simp)]; exact k0
  · rw [World.cell?_setCell_other _ _ _ _ (by simp)]; exact k1
  · exact World.cell?_setCell_same _ _ _ k2
  · rw [World.frozen?_setCell]; exact k3
  · exact HF2.out.keep (Below.heap_setCell _ _ _ _ hbf) (Below.heap_setCell _ _ _ _ hbn)
  · rcases e with rfl | rfl | rfl
    · exact .inl HF.out.2.2
    · exact .inl HF.out.1
    · rcases hb2' with rfl | e
      · exact .inl HF.out.2.1
      · exact .inr e
  · exact (HT2.out.mono (S' := O) (fun k e => by rcases e with rfl | rfl; exact HF.out.1; exact HF.out.2.1)).set (.inl HF.out.2.2)
theorem swrite_any (O : Nat → Prop) (g : Nat) (S : MS) (x : List UInt8) (a : Option Addr) (c : Nat) (w : World) (h : MemAt w O g S) (hx : Bys w (.slice a x.length c) x) (hc : x.length ≤ c) (hap : 0 < x.length → ∀ k, (Value.slice a x.length c).ownBlock = some k → ¬ O k) :
    Calls Tryz.prog 281 #[.pointer (some ⟨g, 0, none⟩), .slice a x.length c] w fun e w' => e = .returned (.tuple #[.int .i64 (S.write x).1, .int .i64 (S.write x).2.1]) ∧ MStep w O g (S.write x).2.2 w' := by
  by_cases hl : 1048576 < x.length
  · rw [MS.write_long hl]
    refine (swrite_long O g S a x.length c w h hl).mono ?_
    rintro e w' ⟨rfl, rfl⟩
    exact ⟨rfl, MStep.same h⟩
  by_cases h0 : x = []
  · subst h0
    rw [MS.write_none]
    refine (swrite_none O g S a c w h).mono ?_
    rintro e w' ⟨rfl, rfl⟩
    exact ⟨rfl, MStep.same h⟩
  have h0x := List.length_pos_iff.2 h0
  by_cases hp : S.pl = S.room
  · rw [MS.write_full (by omega) h0 hp]
    refine (swrite_full O g S a x.length c w h (by omega) h0x hp).mono ?_
    rintro e w' ⟨rfl, hB⟩
    exact ⟨rfl, MStep.below h hB⟩
  · rw [MS.write_some (by omega) h0 hp rfl]
    exact swrite_some O g S x a c _ w h hx hc (hap h0x) (by omega) h0x hp rfl
end Go.Proofs.YtkkommomefmpgaaGreat

/- Memories: seek. -/
namespace Go.Proofs.YtkkommomefmpgaaGreat
open Go.RowKit

theorem MS.seek_arg {S : MS} {off wh : Int} (h : wh < 0 ∨ 2 < wh) : S.seek off wh = (0, 1, S) := by unfold MS.seek; rw [if_pos h]
theorem MS.seek_range {S : MS} {off wh : Int} (h : ¬ (wh < 0 ∨ 2 < wh)) (h2 : off < -(S.from wh : Int) ∨ (S.room : Int) - (S.from wh : Int) < off) : S.seek off wh = (0, 4, S) := by unfold MS.seek; rw [if_neg h, if_pos h2]
theorem MS.seek_good {S : MS} {off wh : Int} (h : ¬ (wh < 0 ∨ 2 < wh)) (h2 : ¬ (off < -(S.from wh : Int) ∨ (S.room : Int) - (S.from wh : Int) < off)) : S.seek off wh = ((S.from wh : Int) + off, 0, ⟨S.l, S.room, ((S.from wh : Int) + off).toNat⟩) := by unfold MS.seek; rw [if_neg h, if_neg h2]

theorem MemAt.place {w : World} {O : Nat → Prop} {g : Nat} {S : MS} (h : MemAt w O g S) (m : Nat) (hm : m ≤ S.room) : MStep w O g ⟨S.l, S.room, m⟩ (w.setCell ⟨g, 2, none⟩ (.int .i64 m)) := by
  obtain ⟨f, b, cap, h0, h1, h2, h3, h4, og, of, ob, n1, n2, r1, r2, r3⟩ := h
  refine ⟨O, ⟨f, b, cap, ?_, ?_, ?_, ?_, ?_, og, of, ob, n1, n2, r1, hm, r3⟩, fun _ e => .inl e, (Turned.refl O w).set (.inl og)⟩
  · rw [World.cell?_setCell_other _ _ _ _ (by simp)]; exact h0
  · rw [World.cell?_setCell_other _ _ _ _ (by simp)]; exact h1
  · exact World.cell?_setCell_same _ _ _ h2
  · rw [World.frozen?_setCell]; exact h3
  · exact h4.keep (Below.heap_setCell _ _ _ _ (fun e => n1 e.symm)) (Below.heap_setCell _ _ _ _ (fun e => n2 e.symm))

set_option maxRecDepth 100000 in
set_option maxHeartbeats 2000000 in
theorem sseek_arg (O : Nat → Prop) (g : Nat) (S : MS) (off wh : Int) (w : World) (h : MemAt w O g S) (ha : wh < 0 ∨ 2 < wh) :
    Calls Tryz.prog 280 #[.pointer (some ⟨g, 0, none⟩), .int .i64 off, .int .i64 wh] w fun e w' => e = .returned (.tuple #[.int .i64 0, .int .i64 1]) ∧ w = w' := by
  have HM := hide h
  obtain ⟨f, b, cap, h0, h1, h2, h3, h4, og, of, ob, n1, n2, r1, r2, r3⟩ := h
  have H4 := hide h4
  clear h4 og of ob n1 n2
  have e0 : (wh == 0) = false := by simp; omega
  have e1 : (wh == 1) = false := by simp; omega
  have e2 : (wh == 2) = false := by simp; omega
  have e0' : ¬ wh = 0 := by omega
  have e1' : ¬ wh = 1 := by omega
  have e2' : ¬ wh = 2 := by omega
  clear ha
  go_enter Tryz.func280, Tryz.ntmps280
  go_wp2_with (first | (go_at_call 278; refine (sMade_yes g f _ h0).mono ?_; rintro _ _ ⟨rfl, rfl⟩) | (go_at_call 154; refine (size_any f b cap S.l _ H4.out).mono ?_; rintro _ _ ⟨rfl, rfl⟩) | fail)
  go_ret2
  exact ⟨rfl, rfl⟩
set_option maxRecDepth 100000 in
set_option maxHeartbeats 2000000 in
theorem sseek_bad0 (O : Nat → Prop) (g : Nat) (S : MS) (off : Int) (w : World) (h : MemAt w O g S) (hr : off < -((0 : Nat) : Int) ∨ (S.room : Int) - ((0 : Nat) : Int) < off) :
    Calls Tryz.prog 280 #[.pointer (some ⟨g, 0, none⟩), .int .i64 off, .int .i64 0] w fun e w' => e = .returned (.tuple #[.int .i64 0, .int .i64 4]) ∧ w = w' := by
  have HM := hide h
  obtain ⟨f, b, cap, h0, h1, h2, h3, h4, og, of, ob, n1, n2, r1, r2, r3⟩ := h
  have H4 := hide h4
  clear h4 og of ob n1 n2
  rcases (show off < 0 ∨ (¬ off < 0 ∧ (S.room : Int) < off) by omega) with hq | ⟨hq, hq2⟩
  all_goals
    clear hr
    go_enter Tryz.func280, Tryz.ntmps280
    go_wp2_with (first | (go_at_call 278; refine (sMade_yes g f _ h0).mono ?_; rintro _ _ ⟨rfl, rfl⟩) | (go_at_call 154; refine (size_any f b cap S.l _ H4.out).mono ?_; rintro _ _ ⟨rfl, rfl⟩) | fail)
    go_ret2
    exact ⟨rfl, rfl⟩
set_option maxRecDepth 100000 in
set_option maxHeartbeats 2000000 in
theorem sseek_good0 (O : Nat → Prop) (g : Nat) (S : MS) (off : Int) (m : Nat) (w : World) (h : MemAt w O g S) (hm : ((0 : Nat) : Int) + off = m) (hr : m ≤ S.room) :
    Calls Tryz.prog 280 #[.pointer (some ⟨g, 0, none⟩), .int .i64 off, .int .i64 0] w fun e w' => e = .returned (.tuple #[.int .i64 m, .int .i64 0]) ∧ MStep w O g ⟨S.l, S.room, m⟩ w' := by
  have HM := hide h
  obtain ⟨f, b, cap, h0, h1, h2, h3, h4, og, of, ob, n1, n2, r1, r2, r3⟩ := h
  have H4 := hide h4
  clear h4 og of ob n1 n2
  obtain rfl : off = (m : Int) := by omega
  clear hm
  have q1 : ¬ (m : Int) < 0 := by omega
  have q2 : ¬ (S.room : Int) < (m : Int) := by omega
  go_enter Tryz.func280, Tryz.ntmps280
  go_wp2_with (first | (go_at_call 278; refine (sMade_yes g f _ h0).mono ?_; rintro _ _ ⟨rfl, rfl⟩) | (go_at_call 154; refine (size_any f b cap S.l _ H4.out).mono ?_; rintro _ _ ⟨rfl, rfl⟩) | fail)
  go_ret2
  exact ⟨rfl, HM.out.place m hr⟩
set_option maxRecDepth 100000 in
set_option maxHeartbeats 2000000 in
theorem sseek_bad1 (O : Nat → Prop) (g : Nat) (S : MS) (off : Int) (w : World) (h : MemAt w O g S) (hr : off < -((S.pl : Nat) : Int) ∨ (S.room : Int) - ((S.pl : Nat) : Int) < off) :
    Calls Tryz.prog 280 #[.pointer (some ⟨g, 0, none⟩), .int .i64 off, .int .i64 1] w fun e w' => e = .returned (.tuple #[.int .i64 0, .int .i64 4]) ∧ w = w' := by
  have HM := hide h
  obtain ⟨f, b, cap, h0, h1, h2, h3, h4, og, of, ob, n1, n2, r1, r2, r3⟩ := h
  have H4 := hide h4
  clear h4 og of ob n1 n2
  rcases (show off < -((S.pl : Nat) : Int) ∨ (¬ off < -((S.pl : Nat) : Int) ∧ (S.room : Int) - ((S.pl : Nat) : Int) < off) by omega) with hq | ⟨hq, hq2⟩
  all_goals
    clear hr
    go_enter Tryz.func280, Tryz.ntmps280
    go_wp2_with (first | (go_at_call 278; refine (sMade_yes g f _ h0).mono ?_; rintro _ _ ⟨rfl, rfl⟩) | (go_at_call 154; refine (size_any f b cap S.l _ H4.out).mono ?_; rintro _ _ ⟨rfl, rfl⟩) | fail)
    go_ret2
    exact ⟨rfl, rfl⟩
set_option maxRecDepth 100000 in
set_option maxHeartbeats 2000000 in
theorem sseek_good1 (O : Nat → Prop) (g : Nat) (S : MS) (off : Int) (m : Nat) (w : World) (h : MemAt w O g S) (hm : ((S.pl : Nat) : Int) + off = m) (hr : m ≤ S.room) :
    Calls Tryz.prog 280 #[.pointer (some ⟨g, 0, none⟩), .int .i64 off, .int .i64 1] w fun e w' => e = .returned (.tuple #[.int .i64 m, .int .i64 0]) ∧ MStep w O g ⟨S.l, S.room, m⟩ w' := by
  have HM := hide h
  obtain ⟨f, b, cap, h0, h1, h2, h3, h4, og, of, ob, n1, n2, r1, r2, r3⟩ := h
  have H4 := hide h4
  clear h4 og of ob n1 n2
  have q1 : ¬ off < -((S.pl : Nat) : Int) := by omega
  have q2 : ¬ (S.room : Int) - ((S.pl : Nat) : Int) < off := by omega
  have HMm := hide hm
  clear hm
  go_enter Tryz.func280, Tryz.ntmps280
  go_wp2_with (first | (go_at_call 278; refine (sMade_yes g f _ h0).mono ?_; rintro _ _ ⟨rfl, rfl⟩) | (go_at_call 154; refine (size_any f b cap S.l _ H4.out).mono ?_; rintro _ _ ⟨rfl, rfl⟩) | fail)
  go_ret2
  rw [HMm.out]
  exact ⟨rfl, HM.out.place m hr⟩
set_option maxRecDepth 100000 in
set_option maxHeartbeats 2000000 in
theorem sseek_bad2 (O : Nat → Prop) (g : Nat) (S : MS) (off : Int) (w : World) (h : MemAt w O g S) (hr : off < -((S.l.length : Nat) : Int) ∨ (S.room : Int) - ((S.l.length : Nat) : Int) < off) :
    Calls Tryz.prog 280 #[.pointer (some ⟨g, 0, none⟩), .int .i64 off, .int .i64 2] w fun e w' => e = .returned (.tuple #[.int .i64 0, .int .i64 4]) ∧ w = w' := by
  have HM := hide h
  obtain ⟨f, b, cap, h0, h1, h2, h3, h4, og, of, ob, n1, n2, r1, r2, r3⟩ := h
  have H4 := hide h4
  clear h4 og of ob n1 n2
  rcases (show off < -((S.l.length : Nat) : Int) ∨ (¬ off < -((S.l.length : Nat) : Int) ∧ (S.room : Int) - ((S.l.length : Nat) : Int) < off) by omega) with hq | ⟨hq, hq2⟩
  all_goals
    clear hr
    go_enter Tryz.func280, Tryz.ntmps280
    go_wp2_with (first | (go_at_call 278; refine (sMade_yes g f _ h0).mono ?_; rintro _ _ ⟨rfl, rfl⟩) | (go_at_call 154; refine (size_any f b cap S.l _ H4.out).mono ?_; rintro _ _ ⟨rfl, rfl⟩) | fail)
    go_ret2
    exact ⟨rfl, rfl⟩
set_option maxRecDepth 100000 in
set_option maxHeartbeats 2000000 in
theorem sseek_good2 (O : Nat → Prop) (g : Nat) (S : MS) (off : Int) (m : Nat) (w : World) (h : MemAt w O g S) (hm : ((S.l.length : Nat) : Int) + off = m) (hr : m ≤ S.room) :
    Calls Tryz.prog 280 #[.pointer (some ⟨g, 0, none⟩), .int .i64 off, .int .i64 2] w fun e w' => e = .returned (.tuple #[.int .i64 m, .int .i64 0]) ∧ MStep w O g ⟨S.l, S.room, m⟩ w' := by
  have HM := hide h
  obtain ⟨f, b, cap, h0, h1, h2, h3, h4, og, of, ob, n1, n2, r1, r2, r3⟩ := h
  have H4 := hide h4
  clear h4 og of ob n1 n2
  have q1 : ¬ off < -((S.l.length : Nat) : Int) := by omega
  have q2 : ¬ (S.room : Int) - ((S.l.length : Nat) : Int) < off := by omega
  have HMm := hide hm
  clear hm
  go_enter Tryz.func280, Tryz.ntmps280
  go_wp2_with (first | (go_at_call 278; refine (sMade_yes g f _ h0).mono ?_; rintro _ _ ⟨rfl, rfl⟩) | (go_at_call 154; refine (size_any f b cap S.l _ H4.out).mono ?_; rintro _ _ ⟨rfl, rfl⟩) | fail)
  go_ret2
  rw [HMm.out]
  exact ⟨rfl, HM.out.place m hr⟩
theorem sseek_any (O : Nat → Prop) (g : Nat) (S : MS) (off wh : Int) (w : World) (h : MemAt w O g S) :
    Calls Tryz.prog 280 #[.pointer (some ⟨g, 0, none⟩), .int .i64 off, .int .i64 wh] w fun e w' => e = .returned (.tuple #[.int .i64 (S.seek off wh).1, .int .i64 (S.seek off wh).2.1]) ∧ MStep w O g (S.seek off wh).2.2 w' := by
  have hok := h.ok
  by_cases ha : wh < 0 ∨ 2 < wh
  · rw [MS.seek_arg ha]
    refine (sseek_arg O g S off wh w h ha).mono ?_
    rintro e w' ⟨rfl, rfl⟩
    exact ⟨rfl, MStep.same h⟩
  have hw3 : wh = 0 ∨ wh = 1 ∨ wh = 2 := by omega
  by_cases hr : off < -(S.from wh : Int) ∨ (S.room : Int) - (S.from wh : Int) < off
  · rw [MS.seek_range ha hr]
    rcases hw3 with rfl | rfl | rfl
    · refine (sseek_bad0 O g S off w h hr).mono ?_
      rintro e w' ⟨rfl, rfl⟩
      exact ⟨rfl, MStep.same h⟩
    · refine (sseek_bad1 O g S off w h hr).mono ?_
      rintro e w' ⟨rfl, rfl⟩
      exact ⟨rfl, MStep.same h⟩
    · refine (sseek_bad2 O g S off w h hr).mono ?_
      rintro e w' ⟨rfl, rfl⟩
      exact ⟨rfl, MStep.same h⟩
  · rw [MS.seek_good ha hr]
    obtain ⟨m, hm⟩ : ∃ m : Nat, (S.from wh : Int) + off = m := ⟨((S.from wh : Int) + off).toNat, by omega⟩
    rw [hm]
    simp only [Int.toNat_natCast]
    rcases hw3 with rfl | rfl | rfl
    · exact sseek_good0 O g S off m w h hm (by omega)
    · exact sseek_good1 O g S off m w h hm (by omega)
    · exact sseek_good2 O g S off m w h hm (by omega)
end Go.Proofs.YtkkommomefmpgaaGreat

/- Memories: made, and their calls. -/
namespace Go.Proofs.YtkkommomefmpgaaGreat
open Go.RowKit

theorem recv4 (w : World) (o : Obj) : Below w.heap.size w (w.alloc o) := (Below.refl _ _).alloc (Nat.le_refl _) _
theorem new_zero3 {W w' : World} {x y z : Value} {t : TypeId} (h : Below (W.alloc (Obj.cells #[x, y, z] t)).heap.size (W.alloc (Obj.cells #[x, y, z] t)) w') :
    w'.cell? ⟨W.heap.size, 0, none⟩ = some x ∧ w'.cell? ⟨W.heap.size, 1, none⟩ = some y ∧ w'.cell? ⟨W.heap.size, 2, none⟩ = some z ∧ w'.frozen? ⟨W.heap.size, 0, none⟩ = false ∧ w'.frozen? ⟨W.heap.size, 1, none⟩ = false ∧ w'.frozen? ⟨W.heap.size, 2, none⟩ = false :=
  ⟨(h.cell (p := ⟨W.heap.size, 0, none⟩) (size_new _ _)).trans (by simp only [World.cell?, heap_alloc_new]; rfl), (h.cell (p := ⟨W.heap.size, 1, none⟩) (size_new _ _)).trans (by simp only [World.cell?, heap_alloc_new]; rfl), (h.cell (p := ⟨W.heap.size, 2, none⟩) (size_new _ _)).trans (by simp only [World.cell?, heap_alloc_new]; rfl), (h.frozen (p := ⟨W.heap.size, 0, none⟩) (size_new _ _)).trans (by simp only [World.frozen?, heap_alloc_new]; rfl), (h.frozen (p := ⟨W.heap.size, 1, none⟩) (size_new _ _)).trans (by simp only [World.frozen?, heap_alloc_new]; rfl), (h.frozen (p := ⟨W.heap.size, 2, none⟩) (size_new _ _)).trans (by simp only [World.frozen?, heap_alloc_new]; rfl)⟩
theorem res_store {fn : Func} {p u : Tmp} {w : World} (h : fn.results = #[.cell p 280, .tmp u]) (tmps : Array Value) (b : Nat) (hp : tmps.getD p undef = .pointer (some ⟨b, 0, none⟩)) (x : Option Addr) (y z : Int) (h1 : w.cell? ⟨b, 0, none⟩ = some (.pointer x)) (h2 : w.cell? ⟨b, 1, none⟩ = some (.int .i64 y)) (h3 : w.cell? ⟨b, 2, none⟩ = some (.int .i64 z)) :
    (results fn tmps).run Tryz.prog w = .ok (.tuple #[.agg #[.pointer x, .int .i64 y, .int .i64 z], tmps.getD u undef]) w := by
  have a60 := Tryz.isAgg280
  have z60 := Tryz.sizeOf280
  have u3 := Tryz.underlying3
  have a3 := Tryz.isAgg3
  have z3 := Tryz.sizeOf3
  have a4 := Tryz.isAgg97
  have z4 := Tryz.sizeOf97
  have u4 := Tryz.underlying97
  rw [results_cell_tmp h, hp]
  simp only [loadVar]
  go_simp
set_option maxRecDepth 100000 in
set_option maxHeartbeats 1000000 in
theorem storeOf_good (v : Value) (l : List UInt8) (room : Int) (w : World) (hb : Bys w v l) (h : ¬ room < (l.length : Int)) (hl : l.length ≤ 1048576) :
    Calls Tryz.prog 163 #[v, .int .i64 room] w fun e w' => ∃ f b, e = .returned (.tuple #[.agg #[.pointer (some ⟨f, 0, none⟩), .int .i64 room, .int .i64 0], .int .i64 0]) ∧ FileAt w' f b l.length l ∧ w.heap.size ≤ f ∧ w.heap.size ≤ b ∧ Below w.heap.size w w' := by
  obtain ⟨a1, c1, rfl, -⟩ := bys_form hb
  have hB : Below w.heap.size w (w.alloc (Obj.cells #[Value.pointer none, Value.int IntKind.i64 0, Value.int IntKind.i64 0] 280)) := (Below.refl _ _).alloc (Nat.le_refl _) _
  have HB := hide (hb.below hB)
  clear hb
  go_enter Tryz.func163, Tryz.ntmps163
  go_wp2_with fail
  refine (Fi_new_good _ l _ HB.out hl).mono ?_
  rintro e w2 ⟨f, rfl, h1, h2, h3⟩
  have H1 := hide h1
  obtain ⟨z0, z1, z2, z3, z4, z5⟩ := new_zero3 h3
  have hwf : w.heap.size < f := Nat.lt_of_le_of_lt hB.size h2
  have hwb : w.heap.size < (w.alloc (Obj.cells #[Value.pointer none, Value.int IntKind.i64 0, Value.int IntKind.i64 0] 280)).heap.size := size_new _ _
  have hB2 := hB.trans (h3.mono hB.size)
  clear h1 h2 h3 hB HB
  generalize (w.alloc (Obj.cells #[Value.pointer none, Value.int IntKind.i64 0, Value.int IntKind.i64 0] 280)).heap.size = b at *
  go_wp2
  obtain ⟨W, hW⟩ : ∃ W, W = ((w2.setCell ⟨w.heap.size, 0, none⟩ (.pointer (some ⟨f, 0, none⟩))).setCell ⟨w.heap.size, 1, none⟩ (.int .i64 room)).setCell ⟨w.heap.size, 2, none⟩ (.int .i64 0) := ⟨_, rfl⟩
  rw [← hW]
  have y0 : W.cell? ⟨w.heap.size, 0, none⟩ = some (.pointer (some ⟨f, 0, none⟩)) := by
    rw [hW, World.cell?_setCell_other _ _ _ _ (by simp), World.cell?_setCell_other _ _ _ _ (by simp)]; exact World.cell?_setCell_same _ _ _ z0
  have y1 : W.cell? ⟨w.heap.size, 1, none⟩ = some (.int .i64 room) := by
    rw [hW, World.cell?_setCell_other _ _ _ _ (by simp)]; exact World.cell?_setCell_same _ _ _ ((World.cell?_setCell_other _ _ _ _ (by simp)).trans z1)
  have y2 : W.cell? ⟨w.heap.size, 2, none⟩ = some (.int .i64 0) := by
    rw [hW]; exact World.cell?_setCell_same _ _ _ ((World.cell?_setCell_other _ _ _ _ (by simp)).trans ((World.cell?_setCell_other _ _ _ _ (by simp)).trans z2))
  refine bodyPost_ret (res_store rfl _ w.heap.size rfl (some ⟨f, 0, none⟩) room 0 y0 y1 y2) rfl ?_
  have hT : Turned (fun k => k = w.heap.size) w2 W := by
    rw [hW]
    exact (((Turned.refl (fun k => k = w.heap.size) w2).set (.inl rfl)).set (.inl rfl)).set (.inl rfl)
  have hbl := H1.out.row.lt
  exact ⟨f, b, rfl, H1.out.keep (hT.block f H1.out.lt (by omega)) (hT.block b hbl (by omega)), by omega, by omega, hB2.trans (hT.below (fun k e => by omega) hB2.size)⟩
theorem mem_new {w w2 : World} {l : List UInt8} {f b room : Nat} {T : TypeId} (hF : FileAt w2 f b l.length l) (hf : w.heap.size ≤ f) (hb : w.heap.size ≤ b) (hB : Below w.heap.size w w2) (hl : l.length ≤ room) (hr : room ≤ 1048576) :
    MemAt (w2.alloc (Obj.cells #[.pointer (some ⟨f, 0, none⟩), .int .i64 (room : Int), .int .i64 0] T)) (fun k => w.heap.size ≤ k) w2.heap.size ⟨l, room, 0⟩ ∧ Below w.heap.size w (w2.alloc (Obj.cells #[.pointer (some ⟨f, 0, none⟩), .int .i64 (room : Int), .int .i64 0] T)) := by
  have hfl := hF.lt
  have hbl := hF.row.lt
  refine ⟨⟨f, b, l.length, ?_, ?_, ?_, ?_, hF.keep (Below.heap_alloc _ _ _ hfl) (Below.heap_alloc _ _ _ hbl), hB.size, hf, hb, by omega, by omega, hl, Nat.zero_le _, hr⟩, hB.alloc hB.size _⟩
  · simp only [World.cell?, heap_alloc_new]; rfl
  · simp only [World.cell?, heap_alloc_new]; rfl
  · simp only [World.cell?, heap_alloc_new]; rfl
  · simp only [World.frozen?, heap_alloc_new]; rfl
theorem mem_new2 {w w2 : World} {l : List UInt8} {f b room : Nat} {T : TypeId} (hF : FileAt w2 f b l.length l) (hf : w.heap.size ≤ f) (hb : w.heap.size ≤ b) (hB : Below w.heap.size w w2) (hl : l.length ≤ room) (hr : room ≤ 1048576) :
    MemAt ((w2.alloc (Obj.cells #[.pointer (some ⟨f, 0, none⟩), .int .i64 (room : Int), .int .i64 0] 280)).alloc (Obj.cells #[.pointer (some ⟨f, 0, none⟩), .int .i64 (room : Int), .int .i64 0] T)) (fun k => w.heap.size ≤ k) (w2.heap.size + 1) ⟨l, room, 0⟩ ∧ Below w.heap.size w ((w2.alloc (Obj.cells #[.pointer (some ⟨f, 0, none⟩), .int .i64 (room : Int), .int .i64 0] 280)).alloc (Obj.cells #[.pointer (some ⟨f, 0, none⟩), .int .i64 (room : Int), .int .i64 0] T)) := by
  have h1 := mem_new (w := w) (T := T) (hF.below (recv4 w2 (Obj.cells #[.pointer (some ⟨f, 0, none⟩), .int .i64 (room : Int), .int .i64 0] 280))) hf hb (hB.alloc hB.size _) hl hr
  have hs : (w2.alloc (Obj.cells #[.pointer (some ⟨f, 0, none⟩), .int .i64 (room : Int), .int .i64 0] 280)).heap.size = w2.heap.size + 1 := by simp
  rw [hs] at h1
  exact h1
set_option maxRecDepth 100000 in
set_option maxHeartbeats 1000000 in
theorem newGrowing_good (v : Value) (l : List UInt8) (w : World) (hb : Bys w v l) (hl : l.length ≤ 1048576) :
    Calls Tryz.prog 81 #[v] w fun e w' => ∃ g, e = .returned (.tuple #[.pointer (some ⟨g, 0, none⟩), .int .i64 0]) ∧ MemAt w' (fun k => w.heap.size ≤ k) g ⟨l, 1048576, 0⟩ ∧ Below w.heap.size w w' := by
  obtain ⟨a1, c1, rfl, -⟩ := bys_form hb
  have HB := hide hb
  clear hb
  go_enter Tryz.func81, Tryz.ntmps81
  go_wp2_with fail
  refine (storeOf_good _ l 1048576 w HB.out (by omega) (by omega)).mono ?_
  rintro e w2 ⟨f, b, rfl, k1, k2, kb, k3⟩
  have K1 := hide k1
  clear k1
  go_wp2
  go_ret2
  obtain ⟨q1, q2⟩ := mem_new2 (room := 1048576) (T := 285) K1.out k2 kb k3 (by omega) (by omega)
  exact ⟨_, rfl, q1, q2⟩
set_option maxRecDepth 100000 in
set_option maxHeartbeats 1000000 in
theorem gmread_any (O : Nat → Prop) (g : Nat) (S : MS) (n : Int) (w : World) (h : MemAt w O g S) :
    Calls Tryz.prog 284 #[.pointer (some ⟨g, 0, none⟩), .int .i64 n] w fun e w' => ∃ v, e = .returned (.tuple #[v, .int .i64 (S.read n).2.1]) ∧ w'.ownsRow w.heap.size 5 1 v (S.read n).1.length ((S.read n).1.map bv) ∧ MemAt w' O g (S.read n).2.2 ∧ Turned O w w' := by
  have HR := hide (sread_any O g S n w h)
  clear h
  go_enter Tryz.func284, Tryz.ntmps284
  go_wp2_with fail
  refine HR.out.mono ?_
  rintro e w2 ⟨v, rfl, h1, h2, h3⟩
  have H1 := hide h1
  have H2 := hide h2
  have H3 := hide h3
  clear h1 h2 h3 HR
  go_wp2
  go_ret2
  exact ⟨v, rfl, H1.out, H2.out, H3.out⟩
set_option maxRecDepth 100000 in
set_option maxHeartbeats 1000000 in
theorem gmseek_any (O : Nat → Prop) (g : Nat) (S : MS) (off wh : Int) (w : World) (h : MemAt w O g S) :
    Calls Tryz.prog 285 #[.pointer (some ⟨g, 0, none⟩), .int .i64 off, .int .i64 wh] w fun e w' => e = .returned (.tuple #[.int .i64 (S.seek off wh).1, .int .i64 (S.seek off wh).2.1]) ∧ MStep w O g (S.seek off wh).2.2 w' := by
  have HR := hide (sseek_any O g S off wh w h)
  clear h
  go_enter Tryz.func285, Tryz.ntmps285
  go_wp2_with fail
  refine HR.out.mono ?_
  rintro e w2 ⟨rfl, h1⟩
  have H1 := hide h1
  clear h1 HR
  go_wp2
  go_ret2
  exact ⟨rfl, H1.out⟩
set_option maxRecDepth 100000 in
set_option maxHeartbeats 1000000 in
theorem gmwrite_any (O : Nat → Prop) (g : Nat) (S : MS) (x : List UInt8) (a : Option Addr) (c : Nat) (w : World) (h : MemAt w O g S) (hx : Bys w (.slice a x.length c) x) (hc : x.length ≤ c) (hap : 0 < x.length → ∀ k, (Value.slice a x.length c).ownBlock = some k → ¬ O k) :
    Calls Tryz.prog 286 #[.pointer (some ⟨g, 0, none⟩), .slice a x.length c] w fun e w' => e = .returned (.tuple #[.int .i64 (S.write x).1, .int .i64 (S.write x).2.1]) ∧ MStep w O g (S.write x).2.2 w' := by
  have HR := hide (swrite_any O g S x a c w h hx hc hap)
  clear h hx hap
  go_enter Tryz.func286, Tryz.ntmps286
  go_wp2_with fail
  refine HR.out.mono ?_
  rintro e w2 ⟨rfl, h1⟩
  have H1 := hide h1
  clear h1 HR
  go_wp2
  go_ret2
  exact ⟨rfl, H1.out⟩
end Go.Proofs.YtkkommomefmpgaaGreat

/- A custom stream, as a value and in memory; isMade, Seek, Taken; an answer is used up. -/
namespace Go.Proofs.YtkkommomefmpgaaGreat
open Go.RowKit

end Go.Proofs.YtkkommomefmpgaaGreat

/- A custom stream is made: copiedAnswers. -/
namespace Go.Proofs.YtkkommomefmpgaaGreat
open Go.RowKit

def AnsR (W : World) (v : Value) (l : List (List UInt8 × Int)) : Prop :=
  ∃ a cap, v = .slice a l.length cap ∧ (0 < l.length → ∃ b off, a = some ⟨b, off, none⟩ ∧ ∀ j (hj : j < l.length), ∃ va vc, W.cell? ⟨b, off + j * 2, none⟩ = some (.slice va l[j].1.length vc) ∧ W.cell? ⟨b, off + j * 2 + 1, none⟩ = some (.int .i64 l[j].2) ∧ Bys W (.slice va l[j].1.length vc) l[j].1 ∧ l[j].1.length ≤ vc)
theorem AnsR.below {W W' : World} {v : Value} {l : List (List UInt8 × Int)} (h : AnsR W v l) (hB : Below W.heap.size W W') : AnsR W' v l := by
  obtain ⟨a, cap, rfl, h2⟩ := h
  refine ⟨a, cap, rfl, fun h0 => ?_⟩
  obtain ⟨b, off, rfl, hd⟩ := h2 h0
  refine ⟨b, off, rfl, fun j hj => ?_⟩
  obtain ⟨va, vc, a1, a2, a3, a4⟩ := hd j hj
  have hl := World.block_lt_of_cell? W _ a1
  exact ⟨va, vc, (hB.cell (p := ⟨b, off + j * 2, none⟩) hl).trans a1, (hB.cell (p := ⟨b, off + j * 2 + 1, none⟩) hl).trans a2, a3.below hB, a4⟩
end Go.Proofs.YtkkommomefmpgaaGreat

/- A custom stream is made. -/
namespace Go.Proofs.YtkkommomefmpgaaGreat
open Go.RowKit

def IntsR (W : World) (v : Value) (l : List Int) : Prop :=
  (v = .slice none 0 0 ∧ l = []) ∨ ∃ q cap, v = .slice (some q) l.length cap ∧ (0 < l.length → ∃ b off, q = ⟨b, off, none⟩ ∧ ∀ j (hj : j < l.length), W.cell? ⟨b, off + j, none⟩ = some (.int .i64 l[j]))
theorem IntsR.below {W W' : World} {v : Value} {l : List Int} (h : IntsR W v l) (hB : Below W.heap.size W W') : IntsR W' v l := by
  rcases h with h | ⟨q, cap, rfl, h2⟩
  · exact .inl h
  · refine .inr ⟨q, cap, rfl, fun h0 => ?_⟩
    obtain ⟨b, off, rfl, hd⟩ := h2 h0
    exact ⟨b, off, rfl, fun j hj => (hB.cell (p := ⟨b, off + j, none⟩) (World.block_lt_of_cell? W _ (hd j hj))).trans (hd j hj)⟩
theorem IntsR.form {W : World} {v : Value} {l : List Int} (h : IntsR W v l) : ∃ a c, v = .slice a l.length c := by
  rcases h with ⟨rfl, rfl⟩ | ⟨q, cap, rfl, _⟩
  · exact ⟨_, _, rfl⟩
  · exact ⟨_, _, rfl⟩
def iv (x : Int) : Value := .int .i64 x
end Go.Proofs.YtkkommomefmpgaaGreat

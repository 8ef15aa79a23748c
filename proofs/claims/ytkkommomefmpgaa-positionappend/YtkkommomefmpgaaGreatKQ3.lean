/- What the proof stands on, part 3: the contracts of the program's calls that it reaches. -/
import Derived.Test.YtkkommomefmpgaaGreatKQ2
import Derived.Deep.RegionLaw
import Derived.Deep.RegionWith
/- What CopyLists and Spoil do with any lines. -/
namespace Go.Proofs.YtkkommomefmpgaaGreat
open Go.RowKit

theorem Te_owns_apart {W : World} {B B' e e' s s' n n' : Nat} {v v' : Value} {xs xs' : List Value} (h : W.ownsRow B e s v n xs) (h' : W.ownsRow B' e' s' v' n' xs') (hne : e ≠ e') (k : Nat) (h1 : v.ownBlock = some k) : v'.ownBlock ≠ some k := by
  intro h2
  rcases h.2 with ⟨rfl, _⟩ | ⟨g, cap, cur, rfl, _, h3, _⟩
  · cases h1
  · rcases h'.2 with ⟨rfl, _⟩ | ⟨g', cap', cur', rfl, _, h4, _⟩
    · cases h2
    · simp only [Value.ownBlock, Option.some.injEq] at h1 h2
      subst h1
      subst h2
      rw [h3] at h4
      cases h4
      exact hne rfl
def LCells (W : World) (B : Nat) (ls : List (List UInt8)) (xs : List Value) : Prop :=
  xs.length = ls.length ∧ (∀ j (hj : j < ls.length), ∃ v, xs[j]? = some v ∧ W.ownsRow B 5 1 v ls[j].length (ls[j].map bv)) ∧ ∀ (i j : Nat) (vi vj : Value) (k : Nat), i < j → xs[i]? = some vi → xs[j]? = some vj → vi.ownBlock = some k → vj.ownBlock ≠ some k
theorem LCells.keep {W W' : World} {B : Nat} {ls : List (List UInt8)} {xs : List Value} (h : LCells W B ls xs) (hk : ∀ j, j < ls.length → ∀ v k, xs[j]? = some v → v.ownBlock = some k → W'.heap[k]? = W.heap[k]?) : LCells W' B ls xs :=
  ⟨h.1, fun j hj => by
    obtain ⟨v, h1, h2⟩ := h.2.1 j hj
    exact ⟨v, h1, owns_keep h2 fun k e => hk j hj v k h1 e⟩, h.2.2⟩
theorem LCells.below {W W' : World} {B : Nat} {ls : List (List UInt8)} {xs : List Value} (h : LCells W B ls xs) (hB : Below W.heap.size W W') : LCells W' B ls xs :=
  h.keep fun j hj v k h1 e => by
    obtain ⟨v', h2, h3⟩ := h.2.1 j hj
    rw [h1] at h2
    cases h2
    exact hB.block k (h3.lt k e).2
theorem LCells.snoc {W : World} {B : Nat} {ls : List (List UInt8)} {xs : List Value} {k : Nat} (hk : k < ls.length) (h : LCells W B (ls.take k) xs) (u : Value) (hu : W.ownsRow B 5 1 u ls[k].length (ls[k].map bv)) (hd : ∀ (j : Nat) (v : Value) (i : Nat), xs[j]? = some v → v.ownBlock = some i → u.ownBlock ≠ some i) : LCells W B (ls.take (k + 1)) (xs ++ [u]) := by
  have hl := h.1
  rw [List.length_take, Nat.min_eq_left (by omega)] at hl
  refine ⟨by simp [hl]; omega, fun j hj => ?_, fun i j vi vj m hij h1 h2 h3 => ?_⟩
  · have hj' : j < k + 1 := by simp at hj; omega
    by_cases e : j = k
    · subst e
      refine ⟨u, by rw [List.getElem?_append_right (by omega), hl, Nat.sub_self]; rfl, by simpa using hu⟩
    · obtain ⟨v, h1, h2⟩ := h.2.1 j (by simp; omega)
      refine ⟨v, by rw [List.getElem?_append_left (by omega)]; exact h1, by simpa using h2⟩
  · have hj : j < k + 1 := by have := (List.getElem?_eq_some_iff.1 h2).1; simp [hl] at this; omega
    rw [List.getElem?_append_left (by omega)] at h1
    by_cases e : j = k
    · subst e
      rw [List.getElem?_append_right (by omega), hl, Nat.sub_self] at h2
      obtain rfl : u = vj := by simpa using h2
      exact hd i vi m h1 h3
    · rw [List.getElem?_append_left (by omega)] at h2
      exact h.2.2 i j vi vj m hij h1 h2 h3

end Go.Proofs.YtkkommomefmpgaaGreat

/- The reference's terminal: Check, New. -/
namespace Go.Proofs.YtkkommomefmpgaaGreat
open Go.RowKit

set_option maxRecDepth 100000 in
set_option maxHeartbeats 1000000 in
theorem Te_check_any (v : Value) (ls : List (List UInt8)) (w : World) (h : Lns w v ls) (hs : ls.length * 24 ≤ 140737488351232) :
    Calls Tryz.prog 42 #[v] w fun e w' => e = .returned (.int .i64 (newE ls)) ∧ w' = w := by
  have H0 := hide h
  obtain ⟨a1, c1, rfl⟩ := h.form
  clear h
  by_cases hc : 256 < ls.length
  · have hE : newE ls = 3 := by unfold newE; rw [if_pos hc]
    rw [hE]
    have hd : decide ((256 : Int) < (ls.length : Int)) = true := by simp; omega
    clear hE
    go_enter Tryz.func42, Tryz.ntmps42
    go_wp2
    all_goals first
      | (exfalso; omega)
      | (go_ret; exact ⟨rfl, rfl⟩)
  · have hd : decide ((256 : Int) < (ls.length : Int)) = false := by simp; omega
    have HN : Hid (∀ k (hk : k < ls.length), 4096 < ls[k].length → newE ls = 5) := hide fun k hk h2 => newE_long k hk (by omega) h2
    have HZ : Hid ((∀ j (hj : j < ls.length), ls[j].length ≤ 4096) → newE ls = 0) := hide fun h2 => newE_ok (by omega) h2
    generalize newE ls = E at *
    go_enter Tryz.func42, Tryz.ntmps42
    go_wp2
    go_loopw [3] (fun i wr => ∃ k : Nat, k ≤ ls.length ∧ i = .int .i64 k ∧ wr = w ∧ Hid (∀ j (hj : j < ls.length), j < k → ls[j].length ≤ 4096)) (fun i _ => ls.length - (intOf i).toNat)
    case atStart => exact ⟨0, Nat.zero_le _, rfl, rfl, fun j _ hj => by omega⟩
    case round =>
      obtain ⟨k, hk, rfl, rfl, HK⟩ := hrel
      by_cases hlt : k < ls.length
      · obtain ⟨b, off, va, vc, rfl, hcell, _⟩ := H0.out.at k hlt
        have hk1 : (0 : Int) ≤ (k : Int) := by omega
        have hk2 : (k : Int) < (ls.length : Int) := by omega
        by_cases hb : 4096 < ls[k].length
        · have HE := hide (HN.out k hlt hb)
          generalize ls[k].length = n at *
          have hd4 : decide ((4096 : Int) < (n : Int)) = true := by simp; omega
          go_wp2
          all_goals first
            | (exfalso; omega)
            | (go_ret; exact ⟨by rw [HE.out]; rfl, rfl⟩)
        · have HK' : Hid (∀ j (hj : j < ls.length), j < k + 1 → ls[j].length ≤ 4096) := hide fun j hj hjk => by
            by_cases e : j = k
            · subst e; omega
            · exact HK.out j hj (by omega)
          generalize ls[k].length = n at *
          have hd4 : decide ((4096 : Int) < (n : Int)) = false := by simp; omega
          go_wp2
          all_goals first
            | (exfalso; omega)
            | (go_roundw
               case rel => exact ⟨k + 1, by omega, by go_num, by trivial, HK'⟩
               case measure => simp [intOf]; omega)
      · have HE := hide (HZ.out fun j hj => HK.out j hj (by omega))
        go_wp2
        go_ret
        exact ⟨by rw [HE.out]; rfl, rfl⟩

theorem term_ref {W : World} {t : Nat} {a : Option Addr} {c : Nat} {ls : List (List UInt8)} {xs : List Value} (h1 : W.cell? ⟨t, 0, none⟩ = some (.slice a ls.length c)) (h2 : W.cell? ⟨t, 1, none⟩ = some (.slice none 0 0)) (h3 : W.frozen? ⟨t, 0, none⟩ = false) (h4 : W.frozen? ⟨t, 1, none⟩ = false)
    (hown : W.ownsRow (t + 1) 40 1 (.slice a ls.length c) ls.length xs) (hL : LCells W (t + 1) ls xs) : Term W t t 0 (fun k => t ≤ k ∧ k < W.heap.size) a c (.slice none 0 0) ls [] := by
  have htl := World.block_lt_of_cell? W _ h1
  refine ⟨h1, h2, h3, h4, owns_cap hown, fun k e => ?_, fun h0 => ?_, World.ownsRow_nil _ _ _ _, (fun k e => by cases e), ⟨Nat.le_refl _, htl⟩, (fun k e => e)⟩
  · have := hown.lt k e
    exact ⟨⟨by omega, this.2⟩, by omega, by intro e; cases e⟩
  · obtain ⟨r, cap, he, _, _⟩ := hown.form h0
    cases he
    refine ⟨r, 0, rfl, fun j hj => ?_⟩
    obtain ⟨v, q1, q2⟩ := hL.2.1 j hj
    obtain ⟨va, vc, rfl⟩ := owns_slice q2
    rw [Nat.zero_add]
    refine ⟨hown.frozenAt j, va, vc, (hown.cellAt j (by omega)).trans q1, owns_cap q2, Bys.of_owns q2, fun k e => ?_⟩
    have := q2.lt k e
    refine ⟨⟨by omega, this.2⟩, by omega, fun e' => ?_, by intro e; cases e⟩
    exact Te_owns_apart q2 hown (by decide) k e (by rw [e']; rfl)

set_option maxRecDepth 100000 in
set_option maxHeartbeats 4000000 in
theorem Te_rnew_good (v : Value) (ls : List (List UInt8)) (w : World) (h : Lns w v ls) (hs : ls.length * 24 ≤ 140737488351232) (hl : newE ls = 0) :
    Calls Tryz.prog 128 #[v] w fun e w' => e = .returned (.tuple #[.pointer (some ⟨w.heap.size, 0, none⟩), .int .i64 0]) ∧ (∃ a c, Term w' w.heap.size w.heap.size 0 (fun k => w.heap.size ≤ k ∧ k < w'.heap.size) a c (.slice none 0 0) ls []) ∧ Below w.heap.size w w' := by
  have HC := hide (Te_check_any v ls w h hs)
  have H0 := hide h
  obtain ⟨hfew, hshort⟩ := newE_small hl
  have HSh := hide hshort
  obtain ⟨a1, c1, rfl⟩ := h.form
  rw [hl] at HC
  clear h hshort hl
  go_enter Tryz.func128, Tryz.ntmps128
  go_wp2_with fail
  refine HC.out.mono ?_
  rintro e w1 ⟨rfl, rfl⟩
  clear HC
  go_wp2
  have hBa : Below w1.heap.size w1 (w1.alloc (Obj.cells #[.slice none 0 0, .slice none 0 0] 277)) := (Below.refl _ _).alloc (Nat.le_refl _) _
  have q1 : (w1.alloc (Obj.cells #[.slice none 0 0, .slice none 0 0] 277)).cell? ⟨w1.heap.size, 0, none⟩ = some (.slice none 0 0) := by simp only [World.cell?, heap_alloc_new]; rfl
  have q2 : (w1.alloc (Obj.cells #[.slice none 0 0, .slice none 0 0] 277)).cell? ⟨w1.heap.size, 1, none⟩ = some (.slice none 0 0) := by simp only [World.cell?, heap_alloc_new]; rfl
  have q3 : ∀ j, (w1.alloc (Obj.cells #[.slice none 0 0, .slice none 0 0] 277)).frozen? ⟨w1.heap.size, j, none⟩ = false := fun j => by simp only [World.frozen?, heap_alloc_new]; simp
  have Q1 := hide q1
  have Q2 := hide q2
  have Q3 := hide q3
  clear q1 q2 q3
  go_loopw [6, 7] (fun i _ wr => ∃ (k : Nat) (xs : List Value) (la : Option Addr) (lc : Nat), k ≤ ls.length ∧ i = .int .i64 k ∧ wr.cell? ⟨w1.heap.size, 0, none⟩ = some (.slice la k lc) ∧ Hid (wr.cell? ⟨w1.heap.size, 1, none⟩ = some (.slice none 0 0)) ∧ wr.frozen? ⟨w1.heap.size, 0, none⟩ = false ∧ Hid (wr.frozen? ⟨w1.heap.size, 1, none⟩ = false) ∧ Hid (wr.ownsRow (w1.heap.size + 1) 40 1 (.slice la k lc) k xs) ∧ Hid (LCells wr (w1.heap.size + 1) (ls.take k) xs) ∧ Below w1.heap.size w1 wr) (fun i _ _ => ls.length - (intOf i).toNat)
  case atStart => exact ⟨0, [], none, 0, Nat.zero_le _, rfl, Q1.out, Q2.out, Q3.out 0, Q3.out 1, World.ownsRow_nil _ _ _ _, ⟨rfl, (fun j hj => by simp at hj), (fun i j vi vj m _ h1 => by simp at h1)⟩, hBa⟩
  case round =>
    clear Q1 Q2 Q3 hBa
    obtain ⟨k, xs, la, lc, hk, rfl, t1, T2, t3, T4, HO, HL, hB⟩ := hrel
    by_cases hlt : k < ls.length
    · obtain ⟨b, off, va, vc, rfl, hc, hby⟩ := H0.out.at k hlt
      have hbl := World.block_lt_of_cell? w1 _ hc
      have hc' := (hB.cell (p := ⟨b, off + k, none⟩) hbl).trans hc
      have hk1 : (0 : Int) ≤ (k : Int) := by omega
      have hk2 : (k : Int) < (ls.length : Int) := by omega
      have hl4 := HSh.out k hlt
      have htw : w1.heap.size < wr.heap.size := World.block_lt_of_cell? wr _ t1
      obtain ⟨L, hL⟩ : ∃ L, L = ls[k] := ⟨_, rfl⟩
      rw [← hL] at hc' hby hl4
      have HLk := hide hL
      have hbd : Bys wr.drew (.slice va L.length vc) L := (hby.below hB).below (Below.refl _ _).drew
      obtain ⟨s1, w2, hr1, HO1, hg1, hb1⟩ := run_append_bytes wr.drew 40 wr.heap.size (.slice none 0 0) (.slice va L.length vc) [] L (World.ownsRow_nil _ _ _ _) hbd (by simp; omega) (Nat.le_refl _)
      rw [List.nil_append] at HO1
      obtain ⟨sa, sc, rfl⟩ := owns_slice HO1.out
      have hB2 : Below wr.heap.size wr w2 := (Below.refl _ wr).drew.grown hg1 (Nat.le_refl _) (fun j e => by cases e)
      have hz2 := hB2.size
      have u1 := (hB2.cell (p := ⟨w1.heap.size, 0, none⟩) htw).trans t1
      have hBb : Below w2.heap.size w2 (w2.alloc (Obj.cells #[.slice sa L.length sc] 40)) := (Below.refl _ _).alloc (Nat.le_refl _) _
      have hB2b := hB2.trans (hBb.mono hz2)
      have hcu : (w2.alloc (Obj.cells #[.slice sa L.length sc] 40)).cell? ⟨w2.heap.size, 0, none⟩ = some (.slice sa L.length sc) := by simp only [World.cell?, heap_alloc_new]; rfl
      have u2 := (hB2b.cell (p := ⟨w1.heap.size, 0, none⟩) htw).trans t1
      have HOb := hide (owns_below HO.out hB2b)
      obtain ⟨s2, w3, hr2, HO2, hg2, hb2⟩ := run_append_line (w2.alloc (Obj.cells #[.slice sa L.length sc] 40)) 48 (w1.heap.size + 1) _ k xs w2.heap.size 1 _ HOb.out hcu rfl (by omega) (by have := hB2b.size; omega)
      obtain ⟨ra, rc, rfl⟩ := owns_slice HO2.out
      have hgt : w3.heap[w1.heap.size]? = (w2.alloc (Obj.cells #[.slice sa L.length sc] 40)).heap[w1.heap.size]? := hg2.block _ (by have := hB2b.size; omega) (fun e => by have := (HOb.out.lt _ e.symm).1; omega)
      have u3 : w3.cell? ⟨w1.heap.size, 0, none⟩ = some (.slice la k lc) := (World.cell?_of_block (w := w2.alloc (Obj.cells #[.slice sa L.length sc] 40)) hgt).trans u2
      have u4 : w3.frozen? ⟨w1.heap.size, 0, none⟩ = false := (World.frozen?_of_block (w := w2.alloc (Obj.cells #[.slice sa L.length sc] 40)) hgt).trans ((hB2b.frozen (p := ⟨w1.heap.size, 0, none⟩) htw).trans t3)
      have HR1 := hide hr1
      have HR2 := hide hr2
      have hz2b := hB2b.size
      have hBw := hB.trans (hB2b.mono hB.size)
      have hO : ∀ j, j ≠ w1.heap.size → (w3.setCell ⟨w1.heap.size, 0, none⟩ (.slice ra (k + 1) rc)).heap[j]? = w3.heap[j]? := fun j hj => Below.heap_setCell _ _ _ _ hj
      have hgc := hide (World.cell?_of_block (w := w2.alloc (Obj.cells #[.slice sa L.length sc] 40)) (a := ⟨w1.heap.size, 1, none⟩) hgt)
      have hgf := hide (World.frozen?_of_block (w := w2.alloc (Obj.cells #[.slice sa L.length sc] 40)) (a := ⟨w1.heap.size, 1, none⟩) hgt)
      have G1 := hide (World.cell?_setCell_same w3 ⟨w1.heap.size, 0, none⟩ (.slice ra (k + 1) rc) u3)
      have G2 : Hid ((w3.setCell ⟨w1.heap.size, 0, none⟩ (.slice ra (k + 1) rc)).cell? ⟨w1.heap.size, 1, none⟩ = some (.slice none 0 0)) := hide (by
        rw [World.cell?_setCell_other _ _ _ _ (by simp)]
        exact hgc.out.trans ((hB2b.cell (p := ⟨w1.heap.size, 1, none⟩) htw).trans T2.out))
      have G3 : Hid ((w3.setCell ⟨w1.heap.size, 0, none⟩ (.slice ra (k + 1) rc)).frozen? ⟨w1.heap.size, 0, none⟩ = false) := hide (by rw [World.frozen?_setCell]; exact u4)
      have G4 : Hid ((w3.setCell ⟨w1.heap.size, 0, none⟩ (.slice ra (k + 1) rc)).frozen? ⟨w1.heap.size, 1, none⟩ = false) := hide (by
        rw [World.frozen?_setCell]
        exact hgf.out.trans ((hB2b.frozen (p := ⟨w1.heap.size, 1, none⟩) htw).trans T4.out))
      have G5 : Hid ((w3.setCell ⟨w1.heap.size, 0, none⟩ (.slice ra (k + 1) rc)).ownsRow (w1.heap.size + 1) 40 1 (.slice ra (k + 1) rc) (k + 1) (xs ++ [.slice sa L.length sc])) := hide (owns_keep HO2.out fun j e => hO j (by have := (HO2.out.lt j e).1; omega))
      have G6 : Hid (LCells (w3.setCell ⟨w1.heap.size, 0, none⟩ (.slice ra (k + 1) rc)) (w1.heap.size + 1) (ls.take (k + 1)) (xs ++ [.slice sa L.length sc])) := hide (by
        have hLb := HL.out.below hB2b
        have hUb := owns_below HO1.out hBb
        refine LCells.snoc hlt (hLb.keep fun j hj v i h1 e => ?_) _ ?_ (fun j v i h1 e e' => ?_)
        · obtain ⟨v', h2, h3⟩ := hLb.2.1 j hj
          rw [h1] at h2
          cases h2
          have hi := h3.lt i e
          exact (hO i (by omega)).trans (hg2.block i hi.2 (fun e' => Te_owns_apart h3 HOb.out (by decide) i e e'.symm))
        · rw [← hL]
          refine owns_mono (base := wr.heap.size) (owns_keep hUb fun i e => ?_) (by omega)
          have hi := hUb.lt i e
          exact (hO i (by omega)).trans (hg2.block i hi.2 (fun e' => Te_owns_apart hUb HOb.out (by decide) i e e'.symm))
        · obtain ⟨v', h2, h3⟩ := HL.out.2.1 j (by have := (List.getElem?_eq_some_iff.1 h1).1; have := HL.out.1; omega)
          rw [h1] at h2
          cases h2
          have := (h3.lt i e).2
          have := (HO1.out.lt i e').1
          omega)
      have G7 : Hid (Below w1.heap.size w1 (w3.setCell ⟨w1.heap.size, 0, none⟩ (.slice ra (k + 1) rc))) := hide ((hBw.grown hg2 hBw.size (fun j e => by have := (HOb.out.lt j e).1; omega)).setCell (p := ⟨w1.heap.size, 0, none⟩) (Nat.le_refl _) _)
      clear hr1 hr2 hgt hc hby hL hbd hcu hgc hgf hO hb1 hb2 hg1 hg2 HOb HO1 HO2 hBw hBb
      go_wp2_with fail
      go_region_law (first | (refine step_append_run _ (by rfl) _ _ _ _ (by rfl) _ _ (by rfl) (by rfl) _ _ HR1.out ?_) | (refine step_append_run _ (by rfl) _ _ _ _ (by rfl) _ _ (by rfl) (by rfl) _ _ HR2.out ?_))
      all_goals
        go_wp2
        go_roundw
        case rel => exact ⟨k + 1, _, ra, rc, by omega, by go_num, G1.out, G2, G3.out, G4, G5, G6, G7.out⟩
        case measure => simp [intOf]; omega
    · have hke : k = ls.length := by omega
      subst hke
      go_wp2
      go_ret2
      have hL := HL.out
      rw [List.take_length] at hL
      exact ⟨rfl, ⟨la, lc, term_ref t1 T2.out t3 T4.out HO.out hL⟩, hB⟩
end Go.Proofs.YtkkommomefmpgaaGreat

/- The reference's terminal: Read, Write. -/
namespace Go.Proofs.YtkkommomefmpgaaGreat
open Go.RowKit

end Go.Proofs.YtkkommomefmpgaaGreat

/- A pipe: what its block holds, and what stays of it. -/
namespace Go.Proofs.YtkkommomefmpgaaGreat
open Go.RowKit

def pcells (R : List Value) (f c rd wr : Nat) : List Value := .bool true :: (R ++ [.int .i64 f, .int .i64 c, .int .i64 rd, .int .i64 wr])
theorem pcells_len (R : List Value) (f c rd wr : Nat) (h : R.length = 4096) : (pcells R f c rd wr).length = 4101 := by simp [pcells, h]
theorem pcells_tail (R : List Value) (f c rd wr : Nat) (h : R.length = 4096) (j : Nat) : (pcells R f c rd wr)[4097 + j]? = ([.int .i64 f, .int .i64 c, .int .i64 rd, .int .i64 wr] : List Value)[j]? := by
  unfold pcells
  rw [show 4097 + j = (4096 + j) + 1 by omega, List.getElem?_cons_succ, List.getElem?_append_right (by omega), h, show 4096 + j - 4096 = j by omega]
theorem pcells_place (R : List Value) (f c rd wr : Nat) (h : R.length = 4096) (j : Nat) (hj : j < 4096) : (pcells R f c rd wr)[1 + j]? = R[j]? := by
  unfold pcells
  rw [Nat.add_comm, List.getElem?_cons_succ, List.getElem?_append_left (by omega)]
theorem pcells_set (R : List Value) (f c rd wr : Nat) (h : R.length = 4096) (j : Nat) (v : Value) : (pcells R f c rd wr).set (4097 + j) v = .bool true :: (R ++ ([.int .i64 f, .int .i64 c, .int .i64 rd, .int .i64 wr] : List Value).set j v) := by
  unfold pcells
  rw [show 4097 + j = (4096 + j) + 1 by omega, List.set_cons_succ, List.set_append_right _ _ (by omega), h, show 4096 + j - 4096 = j by omega]
theorem pcells_splice (R : List Value) (f c rd wr : Nat) (h : R.length = 4096) (off : Nat) (cs : List Value) (hf : off + cs.length ≤ 4096) : splice (pcells R f c rd wr) (1 + off) cs = pcells (splice R off cs) f c rd wr := by
  unfold pcells splice
  rw [Nat.add_comm 1 off, List.take_succ_cons, show off + 1 + cs.length = (off + cs.length) + 1 by omega, List.drop_succ_cons, List.take_append_of_le_length (by omega), List.drop_append_of_le_length (by omega)]
  simp

theorem heap_setCell_same {W : World} {g : Nat} (j : Nat) (v : Value) {cur : List Value} {t : TypeId} {fr : Nat × Nat} (h : W.heap[g]? = some (.cells cur.toArray t fr)) : (W.setCell ⟨g, j, none⟩ v).heap[g]? = some (.cells (cur.set j v).toArray t fr) := by
  unfold World.setCell
  simp only [Array.getElem?_modify, h]
  simp

structure Pp (W : World) (g : Nat) (R : List Value) (f c rd wr : Nat) : Prop where
  blk : W.heap[g]? = some (.cells (pcells R f c rd wr).toArray 324 (0, 0))
  len : R.length = 4096
  lf : f < 4096
  lc : c ≤ 4096
  lr : rd ≤ 1024
  lw : wr ≤ 1024
theorem Pp.keep {W W' : World} {g : Nat} {R : List Value} {f c rd wr : Nat} (h : Pp W g R f c rd wr) (hB : W'.heap[g]? = W.heap[g]?) : Pp W' g R f c rd wr := ⟨hB.trans h.blk, h.len, h.lf, h.lc, h.lr, h.lw⟩
theorem Pp.lt {W : World} {g : Nat} {R : List Value} {f c rd wr : Nat} (h : Pp W g R f c rd wr) : g < W.heap.size := (Array.getElem?_eq_some_iff.1 h.blk).1
theorem Pp.soft {W : World} {g : Nat} {R : List Value} {f c rd wr : Nat} (h : Pp W g R f c rd wr) (j : Nat) : W.frozen? ⟨g, j, none⟩ = false := frozen_of_row W g j _ _ h.blk
theorem Pp.c0 {W : World} {g : Nat} {R : List Value} {f c rd wr : Nat} (h : Pp W g R f c rd wr) : W.cell? ⟨g, 0, none⟩ = some (.bool true) := by
  rw [cell_of_row W g 0 _ _ _ h.blk]; simp [pcells]
theorem Pp.cf {W : World} {g : Nat} {R : List Value} {f c rd wr : Nat} (h : Pp W g R f c rd wr) : W.cell? ⟨g, 4097, none⟩ = some (.int .i64 f) := by
  rw [cell_of_row W g 4097 _ _ _ h.blk, List.getElem?_toArray]; exact pcells_tail R f c rd wr h.len 0
theorem Pp.cc {W : World} {g : Nat} {R : List Value} {f c rd wr : Nat} (h : Pp W g R f c rd wr) : W.cell? ⟨g, 4098, none⟩ = some (.int .i64 c) := by
  rw [cell_of_row W g 4098 _ _ _ h.blk, List.getElem?_toArray]; exact pcells_tail R f c rd wr h.len 1
theorem Pp.cr {W : World} {g : Nat} {R : List Value} {f c rd wr : Nat} (h : Pp W g R f c rd wr) : W.cell? ⟨g, 4099, none⟩ = some (.int .i64 rd) := by
  rw [cell_of_row W g 4099 _ _ _ h.blk, List.getElem?_toArray]; exact pcells_tail R f c rd wr h.len 2
theorem Pp.cw {W : World} {g : Nat} {R : List Value} {f c rd wr : Nat} (h : Pp W g R f c rd wr) : W.cell? ⟨g, 4100, none⟩ = some (.int .i64 wr) := by
  rw [cell_of_row W g 4100 _ _ _ h.blk, List.getElem?_toArray]; exact pcells_tail R f c rd wr h.len 3
theorem Pp.place {W : World} {g : Nat} {R : List Value} {f c rd wr : Nat} (h : Pp W g R f c rd wr) (j : Nat) (hj : j < 4096) : W.cell? ⟨g, 1 + j, none⟩ = R[j]? := by
  rw [cell_of_row W g (1 + j) _ _ _ h.blk, List.getElem?_toArray]; exact pcells_place R f c rd wr h.len j hj
theorem Pp.setf {W : World} {g : Nat} {R : List Value} {f c rd wr : Nat} (h : Pp W g R f c rd wr) (f' : Nat) (hf : f' < 4096) : Pp (W.setCell ⟨g, 4097, none⟩ (.int .i64 f')) g R f' c rd wr :=
  ⟨by rw [heap_setCell_same 4097 _ h.blk, pcells_set R f c rd wr h.len 0]; rfl, h.len, hf, h.lc, h.lr, h.lw⟩
theorem Pp.setc {W : World} {g : Nat} {R : List Value} {f c rd wr : Nat} (h : Pp W g R f c rd wr) (c' : Nat) (hc : c' ≤ 4096) : Pp (W.setCell ⟨g, 4098, none⟩ (.int .i64 c')) g R f c' rd wr :=
  ⟨by rw [heap_setCell_same 4098 _ h.blk, pcells_set R f c rd wr h.len 1]; rfl, h.len, h.lf, hc, h.lr, h.lw⟩
theorem run_copy_tag (w : World) (ty : TypeId) (dp sp : Option Addr) (dLen dCap sLen sCap : Nat) (g off : Nat) (tag : TypeId) (cur : List Value) (hg : w.heap[g]? = some (.cells cur.toArray tag (0, 0))) (cs : List Value) (hn : cs.length = Nat.min sLen dLen)
    (hpos : 0 < cs.length → dp = some ⟨g, off, none⟩ ∧ ∃ ad, sp = some ad ∧ ∀ j v, cs[j]? = some v → w.cell? (ad.add j) = some v) (hfit : off + cs.length ≤ cur.length) (h1 : ∀ v ∈ cs, v.oneCell' = true) :
    ∃ w', (Builtin.copy_ #[40, 40] ty #[.slice dp dLen dCap, .slice sp sLen sCap]).run Tryz.prog w = .ok (goInt cs.length) w' ∧ Hid (w'.heap[g]? = some (.cells (splice cur off cs).toArray tag (0, 0))) ∧ w.grownBy w' (some g) := by
  refine (?_ : ∃ w', (Builtin.copy_ #[40, 40] ty #[.slice dp dLen dCap, .slice sp sLen sCap]).run Tryz.prog w = .ok (goInt cs.length) w' ∧ w'.heap[g]? = some (.cells (splice cur off cs).toArray tag (0, 0)) ∧ w.grownBy w' (some g))
  obtain ⟨i0, hi, hz0, hz1, hz2⟩ := info_parts Tryz.infoB
  have hsz : (Tryz.prog.info? 5).map (·.size) = some 1 := by rw [hi]; simp [hz1]
  by_cases h0 : cs.length = 0
  · obtain rfl : cs = [] := List.eq_nil_of_length_eq_zero h0
    exact ⟨w, run_copy_none (P := Tryz.prog) w _ _ ty 5 dp sp dLen dCap sLen sCap Tryz.underlying40 hsz (by simpa using hn.symm), by simpa [splice] using hg, ⟨rfl, rfl, rfl, Nat.le_refl _, fun _ _ _ => rfl⟩⟩
  · obtain ⟨rfl, ad, rfl, hsrc⟩ := hpos (by omega)
    have hrun := run_copy_row (P := Tryz.prog) w 40 40 ty 5 g off dLen dCap ad sLen sCap cur.toArray tag cs Tryz.underlying40 hsz hg hn hsrc (by simpa using hfit) h1
    refine ⟨_, hrun, by simpa [splice] using setRow_heap w g _ _ tag _ hg, ⟨rfl, rfl, rfl, by simp [World.setRow], fun j _ hj => setRow_other w g j _ (fun e => hj (by rw [e]))⟩⟩

end Go.Proofs.YtkkommomefmpgaaGreat

/- What the small functions of a pipe answer: isMade, mayBeAsked, room, place, side, readWaits, refuses, fitting. -/
namespace Go.Proofs.YtkkommomefmpgaaGreat
open Go.RowKit

def inN (n : Int) : Bool := decide (1 ≤ n) && decide (n ≤ 1048576)
theorem inN_true {n : Int} (h : inN n = true) : 1 ≤ n ∧ n ≤ 1048576 := by simpa [inN] using h
theorem inN_nat {n : Int} (h : inN n = true) : ∃ m : Nat, n = (m : Int) ∧ 1 ≤ m ∧ m ≤ 1048576 := by
  have := inN_true h
  exact ⟨n.toNat, by omega, by omega, by omega⟩

theorem isMade_is (g : Nat) (x : Bool) (w : World) (h : w.cell? ⟨g, 0, none⟩ = some (.bool x)) :
    Calls Tryz.prog 204 #[.pointer (some ⟨g, 0, none⟩)] w fun e w' => e = .returned (.bool x) ∧ w' = w := by
  go_enter Tryz.func204, Tryz.ntmps204
  go_wp2
  go_ret
  exact ⟨rfl, rfl⟩
theorem mayBeAsked_any (n : Int) (w : World) :
    Calls Tryz.prog 315 #[.int .i64 n] w fun e w' => e = .returned (.bool (inN n)) ∧ w' = w := by
  unfold inN
  rcases (show n < 1 ∨ (1 ≤ n ∧ n ≤ 1048576) ∨ 1048576 < n by omega) with h | ⟨h, h1⟩ | h
  · rw [show decide (1 ≤ n) = false by simp; omega]
    go_enter Tryz.func315, Tryz.ntmps315
    go_wp2
    go_ret
    exact ⟨rfl, rfl⟩
  · rw [show decide (1 ≤ n) = true by simp; omega, show decide (n ≤ 1048576) = true by simp; omega]
    go_enter Tryz.func315, Tryz.ntmps315
    go_wp2
    go_ret
    exact ⟨rfl, rfl⟩
  · rw [show decide (1 ≤ n) = true by simp; omega, show decide (n ≤ 1048576) = false by simp; omega]
    have h1 : 1 ≤ n := by omega
    go_enter Tryz.func315, Tryz.ntmps315
    go_wp2
    go_ret
    exact ⟨ret_bool (by simp; omega), rfl⟩
theorem room_is (g c : Nat) (w : World) (h : w.cell? ⟨g, 4098, none⟩ = some (.int .i64 c)) (hc : c ≤ 4096) :
    Calls Tryz.prog 321 #[.pointer (some ⟨g, 1, none⟩)] w fun e w' => e = .returned (.int .i64 ((4096 - c : Nat) : Int)) ∧ w' = w := by
  go_enter Tryz.func321, Tryz.ntmps321
  go_wp2
  go_ret
  exact ⟨ret_int (by omega), rfl⟩
theorem place_is (g f n : Nat) (w : World) (h : w.cell? ⟨g, 4097, none⟩ = some (.int .i64 f)) (hf : f < 4096) (hn : n ≤ 4096) :
    Calls Tryz.prog 322 #[.pointer (some ⟨g, 1, none⟩), .int .i64 n] w fun e w' => e = .returned (.int .i64 (((f + n) % 4096 : Nat) : Int)) ∧ w' = w := by
  go_enter Tryz.func322, Tryz.ntmps322
  go_wp2
  go_ret
  exact ⟨ret_int (by omega), rfl⟩
theorem readWaits_is (g : Nat) (R : List Value) (f c rd wr : Nat) (w : World) (h : Pp w g R f c rd wr) :
    Calls Tryz.prog 316 #[.pointer (some ⟨g, 0, none⟩)] w fun e w' => e = .returned (.bool (decide (c = 0 ∧ 0 < wr))) ∧ w' = w := by
  have h1 := h.cc
  have h2 := h.cw
  have h3 := h.lc
  clear h
  rcases (show 0 < c ∨ (c = 0 ∧ 0 < wr) ∨ (c = 0 ∧ wr = 0) by omega) with hc | ⟨rfl, hw⟩ | ⟨rfl, rfl⟩
  · rw [show decide (c = 0 ∧ 0 < wr) = false by simp; omega]
    have k1 : ¬ ((4096 - c : Nat) : Int) = 4096 := by omega
    have k2 : (((4096 - c : Nat) : Int) == 4096) = false := by simp; omega
    go_enter Tryz.func316, Tryz.ntmps316
    go_wp2_with fail
    refine (room_is g c w h1 h3).mono ?_
    rintro e w1 ⟨rfl, rfl⟩
    generalize ((4096 - c : Nat) : Int) = y at *
    go_wp2
    go_ret
    exact ⟨rfl, rfl⟩
  · rw [show decide (0 = 0 ∧ 0 < wr) = true by simp; omega]
    have k2 : (0 : Int) < (wr : Int) := by omega
    go_enter Tryz.func316, Tryz.ntmps316
    go_wp2_with fail
    refine (room_is g 0 w h1 h3).mono ?_
    rintro e w1 ⟨rfl, rfl⟩
    go_wp2
    go_ret
    exact ⟨rfl, rfl⟩
  · go_enter Tryz.func316, Tryz.ntmps316
    go_wp2_with fail
    refine (room_is g 0 w h1 h3).mono ?_
    rintro e w1 ⟨rfl, rfl⟩
    go_wp2
    go_ret
    exact ⟨rfl, rfl⟩

def fitN (n most c : Nat) : Nat := if 512 < n then min n (min most (4096 - c)) else if 4096 - c < n then 0 else n
theorem fitN_le (n most c : Nat) : fitN n most c ≤ n ∧ (c ≤ 4096 → c + fitN n most c ≤ 4096) := by unfold fitN; split <;> (try split) <;> omega

set_option maxHeartbeats 1000000 in
theorem fitting_is (g : Nat) (R : List Value) (f c rd wr n most : Nat) (w : World) (h : Pp w g R f c rd wr) (hn : n ≤ 1048576) :
    Calls Tryz.prog 319 #[.pointer (some ⟨g, 0, none⟩), .int .i64 n, .int .i64 most] w fun e w' => e = .returned (.int .i64 (fitN n most c : Nat)) ∧ w' = w := by
  have h1 := h.cc
  have h3 := h.lc
  clear h
  unfold fitN
  by_cases hb : 512 < n
  · rw [if_pos hb]
    go_enter Tryz.func319, Tryz.ntmps319
    go_wp2_with fail
    refine (room_is g c w h1 h3).mono ?_
    rintro e w1 ⟨rfl, rfl⟩
    generalize hy : 4096 - c = y at *
    go_wp2
    all_goals
      go_ret
      exact ⟨ret_int (by omega), rfl⟩
  · rw [if_neg hb]
    by_cases hr : 4096 - c < n
    · rw [if_pos hr]
      have k1 : ((4096 - c : Nat) : Int) < (n : Int) := by omega
      go_enter Tryz.func319, Tryz.ntmps319
      go_wp2_with fail
      refine (room_is g c w h1 h3).mono ?_
      rintro e w1 ⟨rfl, rfl⟩
      generalize hy : 4096 - c = y at *
      go_wp2
      go_ret
      exact ⟨rfl, rfl⟩
    · rw [if_neg hr]
      have k1 : ¬ ((4096 - c : Nat) : Int) < (n : Int) := by omega
      go_enter Tryz.func319, Tryz.ntmps319
      go_wp2_with fail
      refine (room_is g c w h1 h3).mono ?_
      rintro e w1 ⟨rfl, rfl⟩
      generalize hy : 4096 - c = y at *
      go_wp2
      go_ret
      exact ⟨rfl, rfl⟩

def refE (n : Nat) (most : Int) (rd wr : Nat) : Int := if 1048576 < n then 5 else if inN most = false then 4 else if wr = 0 then 51 else if rd = 0 then 53 else 0

set_option maxHeartbeats 1000000 in
theorem refuses_is (g : Nat) (R : List Value) (f c rd wr : Nat) (a : Option Addr) (n k : Nat) (most : Int) (w : World) (h : Pp w g R f c rd wr) (hn : n ≤ 140737488351232) :
    Calls Tryz.prog 318 #[.pointer (some ⟨g, 0, none⟩), .slice a n k, .int .i64 most] w fun e w' => e = .returned (.int .i64 (refE n most rd wr)) ∧ w' = w := by
  have h1 := h.c0
  have h2 := h.cr
  have h3 := h.cw
  clear h
  unfold refE
  by_cases hb : 1048576 < n
  · rw [if_pos hb]
    have k1 : (1048576 : Int) < (n : Int) := by omega
    go_enter Tryz.func318, Tryz.ntmps318
    go_wp2_with fail
    refine (isMade_is g true w h1).mono ?_
    rintro e w1 ⟨rfl, rfl⟩
    go_wp2
    go_ret
    exact ⟨rfl, rfl⟩
  · rw [if_neg hb]
    have k1 : ¬ (1048576 : Int) < (n : Int) := by omega
    by_cases hi : inN most = false
    · rw [if_pos hi]
      have HI := hide hi
      clear hi
      go_enter Tryz.func318, Tryz.ntmps318
      go_wp2_with fail
      refine (isMade_is g true w h1).mono ?_
      rintro e w1 ⟨rfl, rfl⟩
      go_wp2_with fail
      refine (mayBeAsked_any most _).mono ?_
      rintro e w1 ⟨rfl, rfl⟩
      rw [HI.out]
      go_wp2
      go_ret
      exact ⟨rfl, rfl⟩
    · rw [if_neg hi]
      have HI : Hid (inN most = true) := hide (by simpa using hi)
      clear hi
      rcases (show wr = 0 ∨ (0 < wr ∧ rd = 0) ∨ (0 < wr ∧ 0 < rd) by omega) with rfl | ⟨hw, rfl⟩ | ⟨hw, hr⟩
      · rw [if_pos rfl]
        go_enter Tryz.func318, Tryz.ntmps318
        go_wp2_with fail
        refine (isMade_is g true w h1).mono ?_
        rintro e w1 ⟨rfl, rfl⟩
        go_wp2_with fail
        refine (mayBeAsked_any most _).mono ?_
        rintro e w1 ⟨rfl, rfl⟩
        rw [HI.out]
        go_wp2
        go_ret
        exact ⟨rfl, rfl⟩
      · rw [if_neg (by omega), if_pos rfl]
        have k2 : ¬ (wr : Int) = 0 := by omega
        have k3 : ((wr : Int) == 0) = false := by simp; omega
        go_enter Tryz.func318, Tryz.ntmps318
        go_wp2_with fail
        refine (isMade_is g true w h1).mono ?_
        rintro e w1 ⟨rfl, rfl⟩
        go_wp2_with fail
        refine (mayBeAsked_any most _).mono ?_
        rintro e w1 ⟨rfl, rfl⟩
        rw [HI.out]
        go_wp2
        go_ret
        exact ⟨rfl, rfl⟩
      · rw [if_neg (by omega), if_neg (by omega)]
        have k2 : ¬ (wr : Int) = 0 := by omega
        have k3 : ((wr : Int) == 0) = false := by simp; omega
        have k4 : ¬ (rd : Int) = 0 := by omega
        have k5 : ((rd : Int) == 0) = false := by simp; omega
        go_enter Tryz.func318, Tryz.ntmps318
        go_wp2_with fail
        refine (isMade_is g true w h1).mono ?_
        rintro e w1 ⟨rfl, rfl⟩
        go_wp2_with fail
        refine (mayBeAsked_any most _).mono ?_
        rintro e w1 ⟨rfl, rfl⟩
        rw [HI.out]
        go_wp2
        go_ret
        exact ⟨rfl, rfl⟩
end Go.Proofs.YtkkommomefmpgaaGreat

/- The ring of a pipe: front. -/
namespace Go.Proofs.YtkkommomefmpgaaGreat
open Go.RowKit

theorem Kp_made_row {w w1 : World} {T n : Nat} {xs : List Value} (h : w1.ownsRow w.heap.size T 1 (.slice (some ⟨w.heap.size, 0, none⟩) n n) n xs) (hg : w.grownBy w1 none) :
    ∃ cur : List Value, cur.length = n ∧ Hid (w1.heap[w.heap.size]? = some (.cells cur.toArray T (0, 0))) ∧ Below w.heap.size w w1 := by
  refine (?_ : ∃ cur : List Value, cur.length = n ∧ w1.heap[w.heap.size]? = some (.cells cur.toArray T (0, 0)) ∧ Below w.heap.size w w1)
  rcases h.2 with ⟨h0, _⟩ | ⟨g, c, cur, h1, h2, h3, h4, h5, h6, h7⟩
  · cases h0
  · cases h1
    exact ⟨cur.toList, by rw [Array.length_toList]; omega, by rw [Array.toArray_toList]; exact h3, (Below.refl _ w).grown hg (Nat.le_refl _) (fun k e => by cases e)⟩
theorem Kp_bys_src {w : World} {a1 : Option Addr} {n c1 : Nat} {l : List UInt8} {X : List Value} (h : Bys w (.slice a1 n c1) l) (hX : X = l.map bv) :
    0 < X.length → ∃ ad, a1 = some ad ∧ ∀ j v, X[j]? = some v → w.cell? (ad.add j) = some v := by
  intro h0
  obtain ⟨a, c, he, hc⟩ := bys_form h
  cases he
  obtain ⟨b, off, rfl, hd⟩ := hc (by rw [hX] at h0; simpa using h0)
  exact ⟨_, rfl, fun j v hj => bys_news hd j v (by rw [← hX]; exact hj)⟩

theorem splice_two (cur X : List Value) (k : Nat) (h : cur.length = X.length) (hk : k ≤ X.length) : splice (splice cur 0 (X.take k)) k (X.drop k) = X := by
  have h1 : splice cur 0 (X.take k) = X.take k ++ cur.drop k := by simp [splice, Nat.min_eq_left hk]
  rw [h1]
  unfold splice
  have h2 : (X.take k ++ cur.drop k).drop (k + (X.drop k).length) = [] := List.drop_eq_nil_of_le (by simp only [List.length_append, List.length_take, List.length_drop]; omega)
  rw [h2, List.take_left' (by simp only [List.length_take]; omega), List.append_nil, List.take_append_drop]
theorem ring_src {W : World} {g f c rd wr m : Nat} {R X : List Value} (h : Pp W g R f c rd wr) (hX : (R.drop f ++ R).take m = X) (k : Nat) (hk : k ≤ 4096 - f) :
    ∀ j v, (X.take k)[j]? = some v → W.cell? ((⟨g, 1 + f, none⟩ : Addr).add j) = some v := by
  intro j v hj
  have hjk : j < k := by
    have := (List.getElem?_eq_some_iff.1 hj).1
    simp at this; omega
  rw [List.getElem?_take, if_pos hjk, ← hX, List.getElem?_take] at hj
  split at hj
  · rw [List.getElem?_append_left (by simp [h.len]; omega), List.getElem?_drop] at hj
    rw [show (⟨g, 1 + f, none⟩ : Addr).add j = ⟨g, 1 + (f + j), none⟩ by unfold Addr.add; split <;> simp_all [Nat.add_assoc], h.place (f + j) (by omega)]
    exact hj
  · cases hj
theorem ring_src2 {W : World} {g f c rd wr m : Nat} {R X : List Value} (h : Pp W g R f c rd wr) (hX : (R.drop f ++ R).take m = X) (hm : m ≤ 4096) :
    ∀ j v, (X.drop (4096 - f))[j]? = some v → W.cell? ((⟨g, 1, none⟩ : Addr).add j) = some v := by
  intro j v hj
  have hf := h.lf
  rw [List.getElem?_drop, ← hX, List.getElem?_take] at hj
  split at hj
  · rw [List.getElem?_append_right (by simp [h.len]), List.length_drop, h.len, show 4096 - f + j - (4096 - f) = j by omega] at hj
    rw [show (⟨g, 1, none⟩ : Addr).add j = ⟨g, 1 + j, none⟩ by unfold Addr.add; split <;> simp_all, h.place j (by omega)]
    exact hj
  · cases hj

set_option maxRecDepth 100000 in
set_option maxHeartbeats 2000000 in
theorem front_any (g : Nat) (R : List Value) (f rd wr : Nat) (q : List UInt8) (n : Nat) (w : World) (h : Pp w g R f q.length rd wr) (hq : (R.drop f ++ R).take q.length = q.map bv) (hn : n ≤ 1048576) :
    Calls Tryz.prog 207 #[.pointer (some ⟨g, 1, none⟩), .int .i64 n] w fun e w' => e = .returned (.slice (some ⟨w.heap.size, 0, none⟩) (q.take n).length (q.take n).length) ∧ w'.ownsRow w.heap.size 5 1 (.slice (some ⟨w.heap.size, 0, none⟩) (q.take n).length (q.take n).length) (q.take n).length ((q.take n).map bv) ∧ Below w.heap.size w w' := by
  obtain ⟨i0, hi, hz0, hz1, hz2⟩ := info_parts Tryz.infoB
  have hf := h.lf
  have hc := h.lc
  have hgl := h.lt
  have HP := hide h
  have hcf := h.cf
  have hcc := h.cc
  obtain ⟨m, hm⟩ : ∃ m, m = (q.take n).length := ⟨_, rfl⟩
  have hm' : m = min n q.length := by rw [hm]; simp
  have hX : (R.drop f ++ R).take m = (q.take n).map bv := by
    rw [List.map_take, ← hq, List.take_take, hm']
  have H1 : Hid (∀ v ∈ (q.take n).map bv, v.oneCell' = true) := hide (bys_one _)
  have hXl : ((q.take n).map bv).length = m := by rw [List.length_map, hm]
  rw [← hm]
  generalize (q.take n).map bv = X at *
  generalize q.length = c at *
  have HX := hide hX
  clear h hq hm hX
  obtain ⟨k, hk⟩ : ∃ k, k = min m (4096 - f) := ⟨_, rfl⟩
  have hkl : (X.take k).length = k := by rw [List.length_take, hXl]; omega
  have hkd : (X.drop k).length = m - k := by rw [List.length_drop, hXl]
  have H1a : Hid (∀ v ∈ X.take k, v.oneCell' = true) := hide fun v hv => H1.out v (List.mem_of_mem_take hv)
  have H1b : Hid (∀ v ∈ X.drop k, v.oneCell' = true) := hide fun v hv => H1.out v (List.mem_of_mem_drop hv)
  have hfl : ¬ 4096 = f := by omega
  have hfi : (f : Int) ≤ 4096 := by omega
  have hkc : k = m ∨ (k = 4096 - f ∧ k < m) := by omega
  rcases (show n < c ∨ c < n ∨ n = c by omega) with hnc | hnc | rfl
  case' inl =>
    have hd : ¬ (c : Int) < (n : Int) := by omega
    obtain rfl : m = n := by omega
  case' inr.inl =>
    have hd : (c : Int) < (n : Int) := by omega
    obtain rfl : m = c := by omega
  case' inr.inr =>
    have hd : ¬ (n : Int) < (n : Int) := by omega
    obtain rfl : m = n := by omega
  all_goals
    clear hm'
    have HK := hide hk
    clear hk
    rcases hkc with rfl | ⟨hk1, hk2⟩
    · go_enter Tryz.func207, Tryz.ntmps207
      go_wp2_with (at_make; refine wpList_make_full _ rfl _ _ 40 rfl w.heap.size 5 i0 (.int .u8 0) 1 Tryz.underlying40 hi hz0 hz1 _ _ _ _ k rfl rfl rfl rfl (by rw [hz2]; omega) (by unfold maxLen; omega) (Nat.le_refl _) ?_; intro w1 hown1 hgrow1; obtain ⟨cur, hcl, HR, hB1⟩ := Kp_made_row hown1 hgrow1; clear hown1 hgrow1; obtain ⟨w2, hrun, HG2, hgr2⟩ := run_copy_tag w1.drew 3 (some ⟨w.heap.size, 0, none⟩) (some ⟨g, 1 + f, none⟩) k k (4096 - f) (4096 - f) w.heap.size 0 5 cur HR.out (X.take k) (by rw [hkl]; have := HK.out; show k = min (4096 - f) k; omega) (fun h0 => ⟨rfl, _, rfl, ring_src ((HP.out.keep (hB1.block g hgl)).keep (W' := w1.drew) rfl) HX.out k (by have := HK.out; omega)⟩) (by have := HK.out; omega) H1a.out; have hcf1 := (HP.out.keep (hB1.block g hgl)).cf; have HP2 := hide ((HP.out.keep (hB1.block g hgl)).keep (W' := w2) (hgr2.block g (HP.out.keep (hB1.block g hgl)).lt (by intro e; cases e; omega))); rw [hkl] at hrun; obtain ⟨w3, hrun3, HG3, hgr3⟩ := run_copy_tag w2.drew 3 (some ⟨w.heap.size, 0, none⟩) (some ⟨g, 1, none⟩) 0 0 4096 4096 w.heap.size 0 5 _ HG2.out [] (by simp) (fun h0 => by simp at h0) (by simp) (by simp))
      go_region
      go_wp2_with fail
      go_region
      go_wp2
      go_ret
      have hG : splice (splice cur 0 (X.take k)) 0 [] = X := by
        have := splice_two cur X k (by omega) (by omega)
        have hx0 : X.drop k = [] := List.drop_eq_nil_of_le (by omega)
        rw [hx0] at this
        simpa [splice] using this
      have hG3 := HG3.out
      rw [hG] at hG3
      exact ⟨rfl, ⟨by simp [hXl], .inr ⟨w.heap.size, k, _, rfl, Nat.le_refl _, hG3, Nat.le_refl _, by unfold maxLen; omega, by simp [hXl], by simpa using List.take_of_length_le (Nat.le_of_eq hXl)⟩⟩, (hB1.drew.grown hgr2 hB1.size (fun k e => by cases e; exact Nat.le_refl _)).drew.grown hgr3 (Nat.le_trans hB1.size hgr2.size) (fun k e => by cases e; exact Nat.le_refl _)⟩
    · have hk3 : ¬ m = k := by omega
      have hk4 : (k : Int) ≤ (m : Int) := by omega
      have hk5 : (k : Int) < (m : Int) := by omega
      go_enter Tryz.func207, Tryz.ntmps207
      go_wp2_with (at_make; refine wpList_make_full _ rfl _ _ 40 rfl w.heap.size 5 i0 (.int .u8 0) 1 Tryz.underlying40 hi hz0 hz1 _ _ _ _ m rfl rfl rfl rfl (by rw [hz2]; omega) (by unfold maxLen; omega) (Nat.le_refl _) ?_; intro w1 hown1 hgrow1; obtain ⟨cur, hcl, HR, hB1⟩ := Kp_made_row hown1 hgrow1; clear hown1 hgrow1; obtain ⟨w2, hrun, HG2, hgr2⟩ := run_copy_tag w1.drew 3 (some ⟨w.heap.size, 0, none⟩) (some ⟨g, 1 + f, none⟩) m m (4096 - f) (4096 - f) w.heap.size 0 5 cur HR.out (X.take k) (by rw [hkl]; have := HK.out; show k = min (4096 - f) m; omega) (fun h0 => ⟨rfl, _, rfl, ring_src ((HP.out.keep (hB1.block g hgl)).keep (W' := w1.drew) rfl) HX.out k (by have := HK.out; omega)⟩) (by have := HK.out; omega) H1a.out; have hcf1 := (HP.out.keep (hB1.block g hgl)).cf; have HP2 := hide ((HP.out.keep (hB1.block g hgl)).keep (W' := w2) (hgr2.block g (HP.out.keep (hB1.block g hgl)).lt (by intro e; cases e; omega))); rw [hkl] at hrun; obtain ⟨w3, hrun3, HG3, hgr3⟩ := run_copy_tag w2.drew 3 (some ⟨w.heap.size, k, none⟩) (some ⟨g, 1, none⟩) (m - k) (m - k) 4096 4096 w.heap.size k 5 _ HG2.out (X.drop k) (by rw [hkd]; show m - k = min 4096 (m - k); omega) (fun h0 => ⟨rfl, _, rfl, by rw [hk1]; exact ring_src2 (HP2.out.keep (W' := w2.drew) rfl) HX.out (by omega)⟩) (by rw [length_splice cur 0 _ (by omega)]; omega) H1b.out; rw [hkd] at hrun3; have HK1 := hide hk1; clear hk1)
      go_region
      go_wp2_with fail
      go_region
      go_wp2
      go_ret
      have hG3 := HG3.out
      rw [splice_two cur X k (by omega) (by omega)] at hG3
      exact ⟨rfl, ⟨by simp [hXl], .inr ⟨w.heap.size, m, _, rfl, Nat.le_refl _, hG3, Nat.le_refl _, by unfold maxLen; omega, by simp [hXl], by simpa using List.take_of_length_le (Nat.le_of_eq hXl)⟩⟩, (hB1.drew.grown hgr2 hB1.size (fun k e => by cases e; exact Nat.le_refl _)).drew.grown hgr3 (Nat.le_trans hB1.size hgr2.size) (fun k e => by cases e; exact Nat.le_refl _)⟩
end Go.Proofs.YtkkommomefmpgaaGreat

/- The ring of a pipe: take and put. -/
namespace Go.Proofs.YtkkommomefmpgaaGreat
open Go.RowKit

theorem add_at (b o j : Nat) : (⟨b, o, none⟩ : Addr).add j = ⟨b, o + j, none⟩ := by unfold Addr.add; split <;> simp_all
def RHeld (R : List Value) (f : Nat) (q : List UInt8) : Prop := (R.drop f ++ R).take q.length = q.map bv
theorem ring_at (R : List Value) (f j : Nat) (hR : R.length = 4096) (hf : f < 4096) (hj : j < 4096) : (R.drop f ++ R)[j]? = R[(f + j) % 4096]? := by
  by_cases h : f + j < 4096
  · rw [List.getElem?_append_left (by simp [hR]; omega), List.getElem?_drop, Nat.mod_eq_of_lt h]
  · rw [List.getElem?_append_right (by simp [hR]; omega), List.length_drop, hR]
    congr 1
    omega
theorem rheld_iff {R : List Value} {f : Nat} {q : List UInt8} (hR : R.length = 4096) (hf : f < 4096) (hc : q.length ≤ 4096) : RHeld R f q ↔ ∀ j, j < q.length → R[(f + j) % 4096]? = (q.map bv)[j]? := by
  constructor
  · intro h j hj
    rw [← h, List.getElem?_take, if_pos hj, ring_at R f j hR hf (by omega)]
  · intro h
    apply List.ext_getElem?
    intro j
    rw [List.getElem?_take]
    split
    · rename_i hj
      rw [ring_at R f j hR hf (by omega), h j hj]
    · rename_i hj
      rw [List.getElem?_eq_none (by simp; omega)]
theorem RHeld.drop {R : List Value} {f : Nat} {q : List UInt8} (h : RHeld R f q) (hR : R.length = 4096) (hf : f < 4096) (hc : q.length ≤ 4096) (m : Nat) (hm : m ≤ q.length) : RHeld R ((f + m) % 4096) (q.drop m) := by
  rw [rheld_iff hR (Nat.mod_lt _ (by omega)) (by simp; omega)]
  intro j hj
  rw [List.length_drop] at hj
  rw [List.map_drop, List.getElem?_drop, ← (rheld_iff hR hf hc).1 h (m + j) (by omega)]
  congr 1
  omega
theorem splice_get (L cs : List Value) (off i : Nat) (h : off + cs.length ≤ L.length) : (splice L off cs)[i]? = if i < off then L[i]? else if i < off + cs.length then cs[i - off]? else L[i]? := by
  unfold splice
  split
  · rename_i h1
    rw [List.getElem?_append_left (by simp; omega), List.getElem?_take, if_pos h1]
  · rename_i h1
    rw [List.getElem?_append_right (by simp; omega), List.length_take, Nat.min_eq_left (by omega)]
    split
    · rename_i h2
      rw [List.getElem?_append_left (by omega)]
    · rename_i h2
      rw [List.getElem?_append_right (by omega), List.getElem?_drop]
      congr 1
      omega
theorem RHeld.put {R : List Value} {f : Nat} {q x : List UInt8} (h : RHeld R f q) (hR : R.length = 4096) (hf : f < 4096) (hc : q.length + x.length ≤ 4096) (k : Nat) (hk : k = min (4096 - (f + q.length) % 4096) x.length) :
    RHeld (splice (splice R ((f + q.length) % 4096) ((x.map bv).take k)) 0 ((x.map bv).drop k)) f (q ++ x) := by
  have hp : (f + q.length) % 4096 < 4096 := Nat.mod_lt _ (by omega)
  have hk1 : ((x.map bv).take k).length = k := by simp; omega
  have hk2 : ((x.map bv).drop k).length = x.length - k := by simp
  have hR1 : (splice R ((f + q.length) % 4096) ((x.map bv).take k)).length = 4096 := by rw [length_splice _ _ _ (by rw [hk1]; omega), hR]
  have hR2 : (splice (splice R ((f + q.length) % 4096) ((x.map bv).take k)) 0 ((x.map bv).drop k)).length = 4096 := by rw [length_splice _ _ _ (by rw [hk2, hR1]; omega), hR1]
  rw [rheld_iff hR2 hf (by simpa using hc)]
  intro j hj
  rw [List.length_append] at hj
  rw [splice_get _ _ _ _ (by rw [hk2, hR1]; omega), if_neg (by omega), hk2, splice_get _ _ _ _ (by rw [hk1, hR]; omega), hk1, List.map_append]
  by_cases hjq : j < q.length
  · rw [if_neg (by omega), List.getElem?_append_left (by simpa using hjq), ← (rheld_iff hR hf (by omega)).1 h j hjq]
    by_cases h1 : (f + j) % 4096 < (f + q.length) % 4096
    · rw [if_pos h1]
    · rw [if_neg h1, if_neg (by omega)]
  · rw [List.getElem?_append_right (by simpa using hjq), List.length_map]
    by_cases hjk : j - q.length < k
    · have he : (f + j) % 4096 = (f + q.length) % 4096 + (j - q.length) := by omega
      rw [if_neg (by omega), if_neg (by omega), if_pos (by omega), he, List.getElem?_take, if_pos (by omega)]
      congr 1
      omega
    · have he : (f + j) % 4096 = j - q.length - k := by omega
      rw [if_pos (by omega), he, List.getElem?_drop]
      congr 1
      omega

def PipeAt (W : World) (g : Nat) (q : List UInt8) (rd wr : Nat) : Prop := ∃ R f, Pp W g R f q.length rd wr ∧ RHeld R f q
theorem PipeAt.keep {W W' : World} {g : Nat} {q : List UInt8} {rd wr : Nat} (h : PipeAt W g q rd wr) (hB : W'.heap[g]? = W.heap[g]?) : PipeAt W' g q rd wr := by
  obtain ⟨R, f, h1, h2⟩ := h
  exact ⟨R, f, h1.keep hB, h2⟩
theorem PipeAt.lt {W : World} {g : Nat} {q : List UInt8} {rd wr : Nat} (h : PipeAt W g q rd wr) : g < W.heap.size := by
  obtain ⟨R, f, h1, h2⟩ := h
  exact h1.lt
theorem PipeAt.len {W : World} {g : Nat} {q : List UInt8} {rd wr : Nat} (h : PipeAt W g q rd wr) : q.length ≤ 4096 := by
  obtain ⟨R, f, h1, h2⟩ := h
  exact h1.lc

set_option maxRecDepth 100000 in
set_option maxHeartbeats 2000000 in
theorem Kp_take_any (g : Nat) (rd wr : Nat) (q : List UInt8) (n : Nat) (w : World) (h : PipeAt w g q rd wr) (hn : n ≤ 1048576) :
    Calls Tryz.prog 317 #[.pointer (some ⟨g, 1, none⟩), .int .i64 n] w fun e w' => e = .returned (.slice (some ⟨w.heap.size, 0, none⟩) (q.take n).length (q.take n).length) ∧ w'.ownsRow w.heap.size 5 1 (.slice (some ⟨w.heap.size, 0, none⟩) (q.take n).length (q.take n).length) (q.take n).length ((q.take n).map bv) ∧ PipeAt w' g (q.drop n) rd wr ∧ Turned (fun k => k = g) w w' := by
  obtain ⟨R, f, hP, hq⟩ := h
  have HP := hide hP
  have hgl := hP.lt
  have hlf := hP.lf
  have hlc := hP.lc
  have HQ := hide hq
  obtain ⟨m, hm⟩ : ∃ m, m = (q.take n).length := ⟨_, rfl⟩
  have hm' : m ≤ q.length := by rw [hm]; simp; omega
  have hdr : q.drop n = q.drop m := by
    rw [hm, List.length_take]
    by_cases hnq : n ≤ q.length
    · rw [Nat.min_eq_left hnq]
    · rw [Nat.min_eq_right (by omega), List.drop_eq_nil_of_le (by omega), List.drop_eq_nil_of_le (by omega)]
  have HM := hide hm
  have hdl : (q.drop m).length = q.length - m := by simp
  have HDl := hide hdl
  have HDr := hide (hq.drop hP.len hlf hlc m hm')
  rw [hdr, ← hm]
  clear hP hq hm hdr hdl
  go_enter Tryz.func317, Tryz.ntmps317
  go_wp2_with fail
  refine (front_any g R f rd wr q n w HP.out HQ.out hn).mono ?_
  rintro e w1 ⟨rfl, hown, hB1⟩
  rw [← HM.out] at hown ⊢
  have HO := hide hown
  have HP1 := hide (HP.out.keep (hB1.block g hgl))
  clear hown
  have hp1 := HP1.out.cf
  have hp2 := HP1.out.soft 4097
  go_wp2_with fail
  refine (place_is g f m w1 hp1 hlf (by omega)).mono ?_
  rintro e w2 ⟨rfl, rfl⟩
  have hp' : (f + m) % 4096 < 4096 := Nat.mod_lt _ (by omega)
  have HP3 := hide (HP1.out.setf _ hp')
  have hp3 := HP3.out.cc
  have hp4 := HP3.out.soft 4098
  have hw3 : ∀ k, k ≠ g → (w2.setCell ⟨g, 4097, none⟩ (.int .i64 (((f + m) % 4096 : Nat) : Int))).heap[k]? = w2.heap[k]? := fun k hk => Below.heap_setCell _ _ _ _ hk
  have HW3 := hide hw3
  have HP4 := hide (HP3.out.setc (q.length - m) (by omega))
  clear hw3
  generalize hF : (f + m) % 4096 = f' at *
  clear hF
  go_wp2
  go_ret
  rw [show (q.length : Int) - (m : Int) = ((q.length - m : Nat) : Int) by omega]
  refine ⟨rfl, owns_keep HO.out fun k hk => ?_, ⟨R, f', by rw [HDl.out]; exact HP4.out, HDr.out⟩, ((Turned.of_below (S := fun k => k = g) hB1).set (.inl rfl)).set (.inl rfl)⟩
  have hkg : k ≠ g := by
    have : w.heap.size = k := by simpa [Value.ownBlock] using hk
    omega
  rw [Below.heap_setCell _ _ _ _ hkg, Below.heap_setCell _ _ _ _ hkg]

set_option maxRecDepth 100000 in
set_option maxHeartbeats 2000000 in
theorem put_any (g : Nat) (rd wr : Nat) (q x : List UInt8) (a : Option Addr) (n cx : Nat) (w : World) (h : PipeAt w g q rd wr) (hx : Bys w (.slice a n cx) x) (hx0 : 0 < x.length) (hcx : x.length ≤ cx) (hxg : (Value.slice a n cx).ownBlock ≠ some g) (hfit : q.length + x.length ≤ 4096) :
    Calls Tryz.prog 320 #[.pointer (some ⟨g, 1, none⟩), .slice a n cx] w fun e w' => e = .returned (.tuple #[]) ∧ PipeAt w' g (q ++ x) rd wr ∧ Turned (fun k => k = g) w w' := by
  obtain ⟨R, f, hP, hq⟩ := h
  obtain ⟨rfl, b, off, rfl, hbl, -⟩ := bys_block hx hx0
  have HP := hide hP
  have hgl := hP.lt
  have hlf := hP.lf
  have hlc := hP.lc
  have hlR := hP.len
  have hbg : b ≠ g := fun e => hxg (by rw [e]; rfl)
  obtain ⟨X, hX⟩ : ∃ X, X = x.map bv := ⟨_, rfl⟩
  have hXl : X.length = x.length := by rw [hX]; simp
  obtain ⟨k, hk⟩ : ∃ k, k = min (4096 - (f + q.length) % 4096) x.length := ⟨_, rfl⟩
  have HPut := hide (hq.put hlR hlf hfit k hk)
  have H1 : ∀ v ∈ X, v.oneCell' = true := by rw [hX]; exact bys_one x
  have hsrc := Kp_bys_src hx hX (by omega)
  have hlast : (q ++ x).length = q.length + x.length := by simp
  rw [← hX] at HPut
  have hkl : (X.take k).length = k := by rw [List.length_take, hXl]; omega
  have hkd : (X.drop k).length = x.length - k := by rw [List.length_drop, hXl]
  have hp : (f + q.length) % 4096 < 4096 := Nat.mod_lt _ (by omega)
  have hp1 := hP.cf
  have hp2 := hP.cc
  obtain ⟨p, hpe⟩ : ∃ p, p = (f + q.length) % 4096 := ⟨_, rfl⟩
  have HPl := hide (place_is g f q.length w.drew hp1 hlf hlc)
  rw [← hpe] at hp hk HPut HPl
  have hR1 : (splice R p (X.take k)).length = 4096 := by rw [length_splice _ _ _ (by rw [hkl]; omega), hlR]
  have hR2 : (splice (splice R p (X.take k)) 0 (X.drop k)).length = 4096 := by rw [length_splice _ _ _ (by rw [hkd, hR1]; omega), hR1]
  obtain ⟨w2, hrun, HG2, hgr2⟩ := run_copy_tag w.drew 3 (some ⟨g, 1 + p, none⟩) (some ⟨b, off, none⟩) (4096 - p) (4096 - p) x.length cx g (1 + p) 324 _ hP.blk (X.take k) (by rw [hkl, hk]; exact Nat.min_comm _ _) (fun h0 => ⟨rfl, _, rfl, fun j v hj => by
    obtain ⟨ad, he, hs⟩ := hsrc
    cases he
    refine hs j v ?_
    rw [List.getElem?_take] at hj
    split at hj
    · exact hj
    · cases hj⟩) (by rw [hkl, pcells_len _ _ _ _ _ hlR]; omega) (fun v hv => H1 v (List.mem_of_mem_take hv))
  have hP2 : Pp w2 g (splice R p (X.take k)) f q.length rd wr := ⟨by rw [← pcells_splice R f q.length rd wr hlR p _ (by rw [hkl]; omega)]; exact HG2.out, hR1, hlf, hlc, hP.lr, hP.lw⟩
  have hsrc2 : ∀ j v, (X.drop k)[j]? = some v → w2.drew.cell? ((⟨b, off + k, none⟩ : Addr).add j) = some v := fun j v hj => by
    obtain ⟨ad, he, hs⟩ := hsrc
    cases he
    have h1 := hs (k + j) v (by rw [List.getElem?_drop] at hj; exact hj)
    rw [add_at, ← Nat.add_assoc] at h1
    rw [add_at]
    exact (World.cell?_of_block (w := w) (hgr2.block b hbl (by intro e; cases e; exact hbg rfl))).trans h1
  rw [hkl] at hrun
  have HP2 := hide hP2
  have HPf : Hid (∀ w3, w3.heap[g]? = some (.cells (splice (pcells (splice R p (X.take k)) f q.length rd wr) 1 (X.drop k)).toArray 324 (0, 0)) → Pp w3 g (splice (splice R p (X.take k)) 0 (X.drop k)) f q.length rd wr) := hide fun w3 h3 => ⟨by rw [← pcells_splice _ f q.length rd wr hR1 0 _ (by rw [hkd]; omega)]; exact h3, hR2, hlf, hlc, hP.lr, hP.lw⟩
  have hkx : k ≤ x.length := by omega
  have H1b : Hid (∀ v ∈ X.drop k, v.oneCell' = true) := hide fun v hv => H1 v (List.mem_of_mem_drop hv)
  have HS2 := hide hsrc2
  have hpl : (pcells (splice R p (X.take k)) f q.length rd wr).length = 4101 := pcells_len _ _ _ _ _ hR1
  have HPL := hide hpl
  have HL := hide hlast
  have hP2b := HP2.out.blk
  have HB2 := hide hP2b
  unfold PipeAt
  rw [hlast]
  clear hsrc hP hq hx hX H1 hP2 hsrc2 hR1 hR2 hlR hpe hkl hXl hxg hpl hP2b HG2 hlast HP hx0
  generalize splice R p (X.take k) = R1 at *
  generalize q.length = c at *
  generalize x.length = L at *
  have hpi : (p : Int) ≤ 4096 := by omega
  have hpn : ¬ 4096 = p := by omega
  have hk1 : (k : Int) ≤ (L : Int) := by omega
  have HK := hide hk
  clear hk
  rcases (show (cx = k ∧ L = k) ∨ k < cx by omega) with ⟨rfl, rfl⟩ | hck
  · obtain ⟨w3, hrun3, HG3, hgr3⟩ := run_copy_tag w2.drew 3 (some ⟨g, 1, none⟩) (some ⟨b, off, none⟩) 4096 4096 0 0 g 1 324 _ HB2.out (X.drop L) (by rw [hkd]; simp) (fun h0 => by rw [hkd] at h0; simp at h0) (by rw [hkd, HPL.out]; omega) H1b.out
    rw [hkd] at hrun3
    have HP3 := hide (HPf.out w3 HG3.out)
    have hp3 := HP3.out.cc
    have hp4 := HP3.out.soft 4098
    have HP4 := hide (HP3.out.setc (c + L) (by omega))
    go_enter Tryz.func320, Tryz.ntmps320
    go_wp2_with fail
    go_region_with (go_at_call 322; refine HPl.out.mono ?_; rintro e w' ⟨rfl, rfl⟩)
    go_wp2_with fail
    go_region
    go_wp2
    go_end0
    rw [show (c : Int) + (L : Int) = ((c + L : Nat) : Int) by omega]
    exact ⟨rfl, ⟨_, _, HP4.out, HPut.out⟩, ((((Turned.of_below (S := fun k => k = g) (Below.refl _ w).drew).grown hgr2 (fun k e => by cases e; exact .inl rfl)).trans (Turned.of_below (S := fun k => k = g) (Below.refl _ w2).drew) (fun k _ e => e)).grown hgr3 (fun k e => by cases e; exact .inl rfl)).set (.inl rfl)⟩
  · have hci : (k : Int) < (cx : Int) := by omega
    have hcn : ¬ cx = k := by omega
    obtain ⟨w3, hrun3, HG3, hgr3⟩ := run_copy_tag w2.drew 3 (some ⟨g, 1, none⟩) (some ⟨b, off + k, none⟩) 4096 4096 (L - k) (cx - k) g 1 324 _ HB2.out (X.drop k) (by rw [hkd]; show L - k = min (L - k) 4096; omega) (fun h0 => ⟨rfl, _, rfl, HS2.out⟩) (by rw [hkd, HPL.out]; omega) H1b.out
    rw [hkd] at hrun3
    have HP3 := hide (HPf.out w3 HG3.out)
    have hp3 := HP3.out.cc
    have hp4 := HP3.out.soft 4098
    have HP4 := hide (HP3.out.setc (c + L) (by omega))
    go_enter Tryz.func320, Tryz.ntmps320
    go_wp2_with fail
    go_region_with (go_at_call 322; refine HPl.out.mono ?_; rintro e w' ⟨rfl, rfl⟩)
    go_wp2_with fail
    go_region
    go_wp2
    go_end0
    rw [show (c : Int) + (L : Int) = ((c + L : Nat) : Int) by omega]
    exact ⟨rfl, ⟨_, _, HP4.out, HPut.out⟩, ((((Turned.of_below (S := fun k => k = g) (Below.refl _ w).drew).grown hgr2 (fun k e => by cases e; exact .inl rfl)).trans (Turned.of_below (S := fun k => k = g) (Below.refl _ w2).drew) (fun k _ e => e)).grown hgr3 (fun k e => by cases e; exact .inl rfl)).set (.inl rfl)⟩
end Go.Proofs.YtkkommomefmpgaaGreat

/- What the calls of a pipe answer, and what they leave: New, Join, Leave, Held, Ends, CanRead, CanWrite. -/
namespace Go.Proofs.YtkkommomefmpgaaGreat
open Go.RowKit

end Go.Proofs.YtkkommomefmpgaaGreat

/- What the calls of a pipe answer, and what they leave: Join, Leave, Held, Ends, CanRead, CanWrite. -/
namespace Go.Proofs.YtkkommomefmpgaaGreat
open Go.RowKit

set_option maxHeartbeats 1000000 in
theorem ends_any (g : Nat) (q : List UInt8) (rd wr : Nat) (w : World) (h : PipeAt w g q rd wr) :
    Calls Tryz.prog 328 #[.pointer (some ⟨g, 0, none⟩)] w fun e w' => e = .returned (.tuple #[.int .i64 rd, .int .i64 wr]) ∧ Below w.heap.size w w' := by
  obtain ⟨R, f, hP, hq⟩ := h
  have h1 := hP.c0
  have h2 := hP.cr
  have h3 := hP.cw
  clear hP hq
  go_enter Tryz.func328, Tryz.ntmps328
  go_wp2_with fail
  refine (isMade_is g true w h1).mono ?_
  rintro e w1 ⟨rfl, rfl⟩
  go_wp2
  go_quiet (fail)
  go_wp2
  go_ret2
  exact ⟨rfl, below_drewN (Below.refl _ _) _⟩

def canR (n rd wr : Nat) : Bool := decide (0 < rd) && !decide (n = 0 ∧ 0 < wr)
set_option maxHeartbeats 1000000 in
theorem canRead_any (g : Nat) (q : List UInt8) (rd wr : Nat) (w : World) (h : PipeAt w g q rd wr) :
    Calls Tryz.prog 312 #[.pointer (some ⟨g, 0, none⟩)] w fun e w' => e = .returned (.bool (canR q.length rd wr)) ∧ w' = w := by
  obtain ⟨R, f, hP, hq⟩ := h
  have HP := hide hP
  have h1 := hP.c0
  have h2 := hP.cr
  clear hP hq
  unfold canR
  by_cases hr : 0 < rd
  · rw [show decide (0 < rd) = true by simp; omega]
    have k1 : (0 : Int) < (rd : Int) := by omega
    generalize hy : decide (q.length = 0 ∧ 0 < wr) = y
    have HY := hide hy
    clear hy
    go_enter Tryz.func312, Tryz.ntmps312
    go_wp2_with fail
    refine (isMade_is g true w h1).mono ?_
    rintro e w1 ⟨rfl, rfl⟩
    go_wp2_with fail
    refine (readWaits_is g R f q.length rd wr _ HP.out).mono ?_
    rintro e w2 ⟨rfl, rfl⟩
    rw [HY.out]
    go_wp2
    go_ret
    exact ⟨ret_bool (by simp), rfl⟩
  · obtain rfl : rd = 0 := by omega
    go_enter Tryz.func312, Tryz.ntmps312
    go_wp2_with fail
    refine (isMade_is g true w h1).mono ?_
    rintro e w1 ⟨rfl, rfl⟩
    go_wp2
    go_ret
    exact ⟨rfl, rfl⟩

def canW (n : Int) (c rd wr : Nat) : Bool := inN n && (decide (0 < wr) && (decide (rd = 0) || decide (0 < fitN n.toNat n.toNat c)))
set_option maxHeartbeats 1000000 in
theorem canWrite_any (n : Int) (g : Nat) (q : List UInt8) (rd wr : Nat) (w : World) (h : PipeAt w g q rd wr) :
    Calls Tryz.prog 329 #[.pointer (some ⟨g, 0, none⟩), .int .i64 n] w fun e w' => e = .returned (.bool (canW n q.length rd wr)) ∧ w' = w := by
  obtain ⟨R, f, hP, hq⟩ := h
  have HP := hide hP
  have h1 := hP.c0
  have h2 := hP.cr
  have h3 := hP.cw
  clear hP hq
  unfold canW
  by_cases hi : inN n = false
  · rw [hi]
    have HI := hide hi
    clear hi
    go_enter Tryz.func329, Tryz.ntmps329
    go_wp2_with fail
    refine (isMade_is g true w h1).mono ?_
    rintro e w1 ⟨rfl, rfl⟩
    go_wp2_with fail
    refine (mayBeAsked_any n _).mono ?_
    rintro e w1 ⟨rfl, rfl⟩
    rw [HI.out]
    go_wp2
    go_ret
    exact ⟨rfl, rfl⟩
  · have hi' : inN n = true := by simpa using hi
    obtain ⟨m, rfl, hm1, hm2⟩ := inN_nat hi'
    rw [hi']
    have HI := hide hi'
    clear hi hi'
    simp only [Int.toNat_natCast]
    rcases (show wr = 0 ∨ (0 < wr ∧ rd = 0) ∨ (0 < wr ∧ 0 < rd) by omega) with rfl | ⟨hw, rfl⟩ | ⟨hw, hr⟩
    · go_enter Tryz.func329, Tryz.ntmps329
      go_wp2_with fail
      refine (isMade_is g true w h1).mono ?_
      rintro e w1 ⟨rfl, rfl⟩
      go_wp2_with fail
      refine (mayBeAsked_any m _).mono ?_
      rintro e w1 ⟨rfl, rfl⟩
      rw [HI.out]
      go_wp2
      go_ret
      exact ⟨rfl, rfl⟩
    · rw [show decide (0 < wr) = true by simp; omega]
      have k1 : ¬ (wr : Int) = 0 := by omega
      have k2 : ((wr : Int) == 0) = false := by simp; omega
      go_enter Tryz.func329, Tryz.ntmps329
      go_wp2_with fail
      refine (isMade_is g true w h1).mono ?_
      rintro e w1 ⟨rfl, rfl⟩
      go_wp2_with fail
      refine (mayBeAsked_any m _).mono ?_
      rintro e w1 ⟨rfl, rfl⟩
      rw [HI.out]
      go_wp2
      go_ret
      exact ⟨rfl, rfl⟩
    · rw [show decide (0 < wr) = true by simp; omega, show decide (rd = 0) = false by simp; omega]
      have k1 : ¬ (wr : Int) = 0 := by omega
      have k2 : ((wr : Int) == 0) = false := by simp; omega
      have k3 : ¬ (rd : Int) = 0 := by omega
      have k4 : ((rd : Int) == 0) = false := by simp; omega
      go_enter Tryz.func329, Tryz.ntmps329
      go_wp2_with fail
      refine (isMade_is g true w h1).mono ?_
      rintro e w1 ⟨rfl, rfl⟩
      go_wp2_with fail
      refine (mayBeAsked_any m _).mono ?_
      rintro e w1 ⟨rfl, rfl⟩
      rw [HI.out]
      go_wp2_with fail
      refine (fitting_is g R f q.length rd wr m m _ HP.out hm2).mono ?_
      rintro e w1 ⟨rfl, rfl⟩
      go_wp2
      go_ret
      exact ⟨ret_bool (by simp), rfl⟩
end Go.Proofs.YtkkommomefmpgaaGreat

/- The reference's terminal: Check, New. -/
import Derived.Test.YtoihblhhifcpnaaTeLists
import Derived.Deep.RegionLaw
namespace Go.Proofs.Ytoihblhhifcpnaa
open Go.RowKit

set_option maxRecDepth 100000 in
set_option maxHeartbeats 1000000 in
theorem check_any (v : Value) (ls : List (List UInt8)) (w : World) (h : Lns w v ls) (hs : ls.length * 24 ≤ 140737488351232) :
    Calls Try.prog 24 #[v] w fun e w' => e = .returned (.int .i64 (newE ls)) ∧ w' = w := by
  have H0 := hide h
  obtain ⟨a1, c1, rfl⟩ := h.form
  clear h
  by_cases hc : 256 < ls.length
  · have hE : newE ls = 3 := by unfold newE; rw [if_pos hc]
    rw [hE]
    have hd : decide ((256 : Int) < (ls.length : Int)) = true := by simp; omega
    clear hE
    go_enter Try.func24, Try.ntmps24
    go_wp2
    all_goals first
      | (exfalso; omega)
      | (go_ret; exact ⟨rfl, rfl⟩)
  · have hd : decide ((256 : Int) < (ls.length : Int)) = false := by simp; omega
    have HN : Hid (∀ k (hk : k < ls.length), 4096 < ls[k].length → newE ls = 5) := hide fun k hk h2 => newE_long k hk (by omega) h2
    have HZ : Hid ((∀ j (hj : j < ls.length), ls[j].length ≤ 4096) → newE ls = 0) := hide fun h2 => newE_ok (by omega) h2
    generalize newE ls = E at *
    go_enter Try.func24, Try.ntmps24
    go_wp2
    go_loopw [3] (fun i wr => ∃ k : Nat, k ≤ ls.length ∧ i = .int .i64 k ∧ wr = w ∧ Hid (∀ j (hj : j < ls.length), j < k → ls[j].length ≤ 4096)) (fun i _ => ls.length - (intOf i).toNat)
    case atStart => exact ⟨0, Nat.zero_le _, rfl, rfl, fun j _ hj => by omega⟩
    case round =>
      obtain ⟨k, hk, rfl, rfl, HK⟩ := hrel
      by_cases hlt : k < ls.length
      · obtain ⟨b, off, va, vc, rfl, hcell, _⟩ := H0.out.at k hlt
        have hk1 : (0 : Int) ≤ (k : Int) := by omega
        have hk2 : (k : Int) < (ls.length : Int) := by omega
        by_cases hb : 4096 < ls[k].length
        · have HE := hide (HN.out k hlt hb)
          generalize ls[k].length = n at *
          have hd4 : decide ((4096 : Int) < (n : Int)) = true := by simp; omega
          go_wp2
          all_goals first
            | (exfalso; omega)
            | (go_ret; exact ⟨by rw [HE.out]; rfl, rfl⟩)
        · have HK' : Hid (∀ j (hj : j < ls.length), j < k + 1 → ls[j].length ≤ 4096) := hide fun j hj hjk => by
            by_cases e : j = k
            · subst e; omega
            · exact HK.out j hj (by omega)
          generalize ls[k].length = n at *
          have hd4 : decide ((4096 : Int) < (n : Int)) = false := by simp; omega
          go_wp2
          all_goals first
            | (exfalso; omega)
            | (go_roundw
               case rel => exact ⟨k + 1, by omega, by go_num, by trivial, HK'⟩
               case measure => simp [intOf]; omega)
      · have HE := hide (HZ.out fun j hj => HK.out j hj (by omega))
        go_wp2
        go_ret
        exact ⟨by rw [HE.out]; rfl, rfl⟩

set_option maxRecDepth 100000 in
set_option maxHeartbeats 1000000 in
theorem rnew_bad (v : Value) (ls : List (List UInt8)) (w : World) (h : Lns w v ls) (hs : ls.length * 24 ≤ 140737488351232) (hl : newE ls ≠ 0) :
    Calls Try.prog 9 #[v] w fun e w' => e = .returned (.tuple #[.pointer none, .int .i64 (newE ls)]) ∧ w' = w := by
  have HC := hide (check_any v ls w h hs)
  obtain ⟨a1, c1, rfl⟩ := h.form
  clear h
  have hE2 : (newE ls != 0) = true := by simpa using hl
  generalize newE ls = E at *
  go_enter Try.func9, Try.ntmps9
  go_wp2_with fail
  refine HC.out.mono ?_
  rintro e w1 ⟨rfl, rfl⟩
  go_wp2
  all_goals
    go_ret2
    exact ⟨rfl, rfl⟩

/-- Lines of one row and the cells of their own, as a terminal's. -/
theorem term_ref {W : World} {t : Nat} {a : Option Addr} {c : Nat} {ls : List (List UInt8)} {xs : List Value} (h1 : W.cell? ⟨t, 0, none⟩ = some (.slice a ls.length c)) (h2 : W.cell? ⟨t, 1, none⟩ = some (.slice none 0 0)) (h3 : W.frozen? ⟨t, 0, none⟩ = false) (h4 : W.frozen? ⟨t, 1, none⟩ = false)
    (hown : W.ownsRow (t + 1) 33 1 (.slice a ls.length c) ls.length xs) (hL : LCells W (t + 1) ls xs) : Term W t t 0 (fun k => t ≤ k ∧ k < W.heap.size) a c (.slice none 0 0) ls [] := by
  have htl := World.block_lt_of_cell? W _ h1
  refine ⟨h1, h2, h3, h4, owns_cap hown, fun k e => ?_, fun h0 => ?_, World.ownsRow_nil _ _ _ _, (fun k e => by cases e), ⟨Nat.le_refl _, htl⟩, (fun k e => e)⟩
  · have := hown.lt k e
    exact ⟨⟨by omega, this.2⟩, by omega, by intro e; cases e⟩
  · obtain ⟨r, cap, he, _, _⟩ := hown.form h0
    cases he
    refine ⟨r, 0, rfl, fun j hj => ?_⟩
    obtain ⟨v, q1, q2⟩ := hL.2.1 j hj
    obtain ⟨va, vc, rfl⟩ := owns_slice q2
    rw [Nat.zero_add]
    refine ⟨hown.frozenAt j, va, vc, (hown.cellAt j (by omega)).trans q1, owns_cap q2, Bys.of_owns q2, fun k e => ?_⟩
    have := q2.lt k e
    refine ⟨⟨by omega, this.2⟩, by omega, fun e' => ?_, by intro e; cases e⟩
    exact owns_apart q2 hown (by decide) k e (by rw [e']; rfl)

set_option maxRecDepth 100000 in
set_option maxHeartbeats 4000000 in
theorem rnew_good (v : Value) (ls : List (List UInt8)) (w : World) (h : Lns w v ls) (hs : ls.length * 24 ≤ 140737488351232) (hl : newE ls = 0) :
    Calls Try.prog 9 #[v] w fun e w' => e = .returned (.tuple #[.pointer (some ⟨w.heap.size, 0, none⟩), .int .i64 0]) ∧ (∃ a c, Term w' w.heap.size w.heap.size 0 (fun k => w.heap.size ≤ k ∧ k < w'.heap.size) a c (.slice none 0 0) ls []) ∧ Below w.heap.size w w' := by
  have HC := hide (check_any v ls w h hs)
  have H0 := hide h
  obtain ⟨hfew, hshort⟩ := newE_small hl
  have HSh := hide hshort
  obtain ⟨a1, c1, rfl⟩ := h.form
  rw [hl] at HC
  clear h hshort hl
  go_enter Try.func9, Try.ntmps9
  go_wp2_with fail
  refine HC.out.mono ?_
  rintro e w1 ⟨rfl, rfl⟩
  clear HC
  go_wp2
  have hBa : Below w1.heap.size w1 (w1.alloc (Obj.cells #[.slice none 0 0, .slice none 0 0] 47)) := (Below.refl _ _).alloc (Nat.le_refl _) _
  have q1 : (w1.alloc (Obj.cells #[.slice none 0 0, .slice none 0 0] 47)).cell? ⟨w1.heap.size, 0, none⟩ = some (.slice none 0 0) := by simp only [World.cell?, heap_alloc_new]; rfl
  have q2 : (w1.alloc (Obj.cells #[.slice none 0 0, .slice none 0 0] 47)).cell? ⟨w1.heap.size, 1, none⟩ = some (.slice none 0 0) := by simp only [World.cell?, heap_alloc_new]; rfl
  have q3 : ∀ j, (w1.alloc (Obj.cells #[.slice none 0 0, .slice none 0 0] 47)).frozen? ⟨w1.heap.size, j, none⟩ = false := fun j => by simp only [World.frozen?, heap_alloc_new]; simp
  have Q1 := hide q1
  have Q2 := hide q2
  have Q3 := hide q3
  clear q1 q2 q3
  go_loopw [6, 7] (fun i _ wr => ∃ (k : Nat) (xs : List Value) (la : Option Addr) (lc : Nat), k ≤ ls.length ∧ i = .int .i64 k ∧ wr.cell? ⟨w1.heap.size, 0, none⟩ = some (.slice la k lc) ∧ Hid (wr.cell? ⟨w1.heap.size, 1, none⟩ = some (.slice none 0 0)) ∧ wr.frozen? ⟨w1.heap.size, 0, none⟩ = false ∧ Hid (wr.frozen? ⟨w1.heap.size, 1, none⟩ = false) ∧ Hid (wr.ownsRow (w1.heap.size + 1) 33 1 (.slice la k lc) k xs) ∧ Hid (LCells wr (w1.heap.size + 1) (ls.take k) xs) ∧ Below w1.heap.size w1 wr) (fun i _ _ => ls.length - (intOf i).toNat)
  case atStart => exact ⟨0, [], none, 0, Nat.zero_le _, rfl, Q1.out, Q2.out, Q3.out 0, Q3.out 1, World.ownsRow_nil _ _ _ _, ⟨rfl, (fun j hj => by simp at hj), (fun i j vi vj m _ h1 => by simp at h1)⟩, hBa⟩
  case round =>
    clear Q1 Q2 Q3 hBa
    obtain ⟨k, xs, la, lc, hk, rfl, t1, T2, t3, T4, HO, HL, hB⟩ := hrel
    by_cases hlt : k < ls.length
    · obtain ⟨b, off, va, vc, rfl, hc, hby⟩ := H0.out.at k hlt
      have hbl := World.block_lt_of_cell? w1 _ hc
      have hc' := (hB.cell (p := ⟨b, off + k, none⟩) hbl).trans hc
      have hk1 : (0 : Int) ≤ (k : Int) := by omega
      have hk2 : (k : Int) < (ls.length : Int) := by omega
      have hl4 := HSh.out k hlt
      have htw : w1.heap.size < wr.heap.size := World.block_lt_of_cell? wr _ t1
      obtain ⟨L, hL⟩ : ∃ L, L = ls[k] := ⟨_, rfl⟩
      rw [← hL] at hc' hby hl4
      have HLk := hide hL
      have hbd : Bys wr.drew (.slice va L.length vc) L := (hby.below hB).below (Below.refl _ _).drew
      obtain ⟨s1, w2, hr1, HO1, hg1, hb1⟩ := run_append_bytes wr.drew 33 wr.heap.size (.slice none 0 0) (.slice va L.length vc) [] L (World.ownsRow_nil _ _ _ _) hbd (by simp; omega) (Nat.le_refl _)
      rw [List.nil_append] at HO1
      obtain ⟨sa, sc, rfl⟩ := owns_slice HO1.out
      have hB2 : Below wr.heap.size wr w2 := (Below.refl _ wr).drew.grown hg1 (Nat.le_refl _) (fun j e => by cases e)
      have hz2 := hB2.size
      have u1 := (hB2.cell (p := ⟨w1.heap.size, 0, none⟩) htw).trans t1
      have hBb : Below w2.heap.size w2 (w2.alloc (Obj.cells #[.slice sa L.length sc] 33)) := (Below.refl _ _).alloc (Nat.le_refl _) _
      have hB2b := hB2.trans (hBb.mono hz2)
      have hcu : (w2.alloc (Obj.cells #[.slice sa L.length sc] 33)).cell? ⟨w2.heap.size, 0, none⟩ = some (.slice sa L.length sc) := by simp only [World.cell?, heap_alloc_new]; rfl
      have u2 := (hB2b.cell (p := ⟨w1.heap.size, 0, none⟩) htw).trans t1
      have HOb := hide (owns_below HO.out hB2b)
      obtain ⟨s2, w3, hr2, HO2, hg2, hb2⟩ := run_append_line (w2.alloc (Obj.cells #[.slice sa L.length sc] 33)) 22 (w1.heap.size + 1) _ k xs w2.heap.size 1 _ HOb.out hcu rfl (by omega) (by have := hB2b.size; omega)
      obtain ⟨ra, rc, rfl⟩ := owns_slice HO2.out
      have hgt : w3.heap[w1.heap.size]? = (w2.alloc (Obj.cells #[.slice sa L.length sc] 33)).heap[w1.heap.size]? := hg2.block _ (by have := hB2b.size; omega) (fun e => by have := (HOb.out.lt _ e.symm).1; omega)
      have u3 : w3.cell? ⟨w1.heap.size, 0, none⟩ = some (.slice la k lc) := (World.cell?_of_block (w := w2.alloc (Obj.cells #[.slice sa L.length sc] 33)) hgt).trans u2
      have u4 : w3.frozen? ⟨w1.heap.size, 0, none⟩ = false := (World.frozen?_of_block (w := w2.alloc (Obj.cells #[.slice sa L.length sc] 33)) hgt).trans ((hB2b.frozen (p := ⟨w1.heap.size, 0, none⟩) htw).trans t3)
      have HR1 := hide hr1
      have HR2 := hide hr2
      have hz2b := hB2b.size
      have hBw := hB.trans (hB2b.mono hB.size)
      have hO : ∀ j, j ≠ w1.heap.size → (w3.setCell ⟨w1.heap.size, 0, none⟩ (.slice ra (k + 1) rc)).heap[j]? = w3.heap[j]? := fun j hj => Below.heap_setCell _ _ _ _ hj
      have hgc := hide (World.cell?_of_block (w := w2.alloc (Obj.cells #[.slice sa L.length sc] 33)) (a := ⟨w1.heap.size, 1, none⟩) hgt)
      have hgf := hide (World.frozen?_of_block (w := w2.alloc (Obj.cells #[.slice sa L.length sc] 33)) (a := ⟨w1.heap.size, 1, none⟩) hgt)
      have G1 := hide (World.cell?_setCell_same w3 ⟨w1.heap.size, 0, none⟩ (.slice ra (k + 1) rc) u3)
      have G2 : Hid ((w3.setCell ⟨w1.heap.size, 0, none⟩ (.slice ra (k + 1) rc)).cell? ⟨w1.heap.size, 1, none⟩ = some (.slice none 0 0)) := hide (by
        rw [World.cell?_setCell_other _ _ _ _ (by simp)]
        exact hgc.out.trans ((hB2b.cell (p := ⟨w1.heap.size, 1, none⟩) htw).trans T2.out))
      have G3 : Hid ((w3.setCell ⟨w1.heap.size, 0, none⟩ (.slice ra (k + 1) rc)).frozen? ⟨w1.heap.size, 0, none⟩ = false) := hide (by rw [World.frozen?_setCell]; exact u4)
      have G4 : Hid ((w3.setCell ⟨w1.heap.size, 0, none⟩ (.slice ra (k + 1) rc)).frozen? ⟨w1.heap.size, 1, none⟩ = false) := hide (by
        rw [World.frozen?_setCell]
        exact hgf.out.trans ((hB2b.frozen (p := ⟨w1.heap.size, 1, none⟩) htw).trans T4.out))
      have G5 : Hid ((w3.setCell ⟨w1.heap.size, 0, none⟩ (.slice ra (k + 1) rc)).ownsRow (w1.heap.size + 1) 33 1 (.slice ra (k + 1) rc) (k + 1) (xs ++ [.slice sa L.length sc])) := hide (owns_keep HO2.out fun j e => hO j (by have := (HO2.out.lt j e).1; omega))
      have G6 : Hid (LCells (w3.setCell ⟨w1.heap.size, 0, none⟩ (.slice ra (k + 1) rc)) (w1.heap.size + 1) (ls.take (k + 1)) (xs ++ [.slice sa L.length sc])) := hide (by
        have hLb := HL.out.below hB2b
        have hUb := owns_below HO1.out hBb
        refine LCells.snoc hlt (hLb.keep fun j hj v i h1 e => ?_) _ ?_ (fun j v i h1 e e' => ?_)
        · obtain ⟨v', h2, h3⟩ := hLb.2.1 j hj
          rw [h1] at h2
          cases h2
          have hi := h3.lt i e
          exact (hO i (by omega)).trans (hg2.block i hi.2 (fun e' => owns_apart h3 HOb.out (by decide) i e e'.symm))
        · rw [← hL]
          refine owns_mono (base := wr.heap.size) (owns_keep hUb fun i e => ?_) (by omega)
          have hi := hUb.lt i e
          exact (hO i (by omega)).trans (hg2.block i hi.2 (fun e' => owns_apart hUb HOb.out (by decide) i e e'.symm))
        · obtain ⟨v', h2, h3⟩ := HL.out.2.1 j (by have := (List.getElem?_eq_some_iff.1 h1).1; have := HL.out.1; omega)
          rw [h1] at h2
          cases h2
          have := (h3.lt i e).2
          have := (HO1.out.lt i e').1
          omega)
      have G7 : Hid (Below w1.heap.size w1 (w3.setCell ⟨w1.heap.size, 0, none⟩ (.slice ra (k + 1) rc))) := hide ((hBw.grown hg2 hBw.size (fun j e => by have := (HOb.out.lt j e).1; omega)).setCell (p := ⟨w1.heap.size, 0, none⟩) (Nat.le_refl _) _)
      clear hr1 hr2 hgt hc hby hL hbd hcu hgc hgf hO hb1 hb2 hg1 hg2 HOb HO1 HO2 hBw hBb
      go_wp2_with fail
      go_region_law (first | (refine step_append_run _ (by rfl) _ _ _ _ (by rfl) _ _ (by rfl) (by rfl) _ _ HR1.out ?_) | (refine step_append_run _ (by rfl) _ _ _ _ (by rfl) _ _ (by rfl) (by rfl) _ _ HR2.out ?_))
      all_goals
        go_wp2
        go_roundw
        case rel => exact ⟨k + 1, _, ra, rc, by omega, by go_num, G1.out, G2, G3.out, G4, G5, G6, G7.out⟩
        case measure => simp [intOf]; omega
    · have hke : k = ls.length := by omega
      subst hke
      go_wp2
      go_ret2
      have hL := HL.out
      rw [List.take_length] at hL
      exact ⟨rfl, ⟨la, lc, term_ref t1 T2.out t3 T4.out HO.out hL⟩, hB⟩
end Go.Proofs.Ytoihblhhifcpnaa

/- What the proof stands on, part 14: the contracts of the program's calls that it reaches. -/
import Derived.Test.YtkkicbhmcjbmbaaGreatKM13
import Derived.Deep.RegionLaw
/- The reference's terminal: Check, New. -/
namespace Go.Proofs.YtkkicbhmcjbmbaaGreat
open Go.RowKit

set_option maxRecDepth 100000 in
set_option maxHeartbeats 1000000 in
theorem Te_check_any (v : Value) (ls : List (List UInt8)) (w : World) (h : Lns w v ls) (hs : ls.length * 24 ≤ 140737488351232) :
    Calls Tryz.prog 47 #[v] w fun e w' => e = .returned (.int .i64 (newE ls)) ∧ w' = w := by
  have H0 := hide h
  obtain ⟨a1, c1, rfl⟩ := h.form
  clear h
  by_cases hc : 256 < ls.length
  · have hE : newE ls = 3 := by unfold newE; rw [if_pos hc]
    rw [hE]
    have hd : decide ((256 : Int) < (ls.length : Int)) = true := by simp; omega
    clear hE
    go_enter Tryz.func47, Tryz.ntmps47
    go_wp2
    all_goals first
      | (exfalso; omega)
      | (go_ret; exact ⟨rfl, rfl⟩)
  · have hd : decide ((256 : Int) < (ls.length : Int)) = false := by simp; omega
    have HN : Hid (∀ k (hk : k < ls.length), 4096 < ls[k].length → newE ls = 5) := hide fun k hk h2 => newE_long k hk (by omega) h2
    have HZ : Hid ((∀ j (hj : j < ls.length), ls[j].length ≤ 4096) → newE ls = 0) := hide fun h2 => newE_ok (by omega) h2
    generalize newE ls = E at *
    go_enter Tryz.func47, Tryz.ntmps47
    go_wp2
    go_loopw [3] (fun i wr => ∃ k : Nat, k ≤ ls.length ∧ i = .int .i64 k ∧ wr = w ∧ Hid (∀ j (hj : j < ls.length), j < k → ls[j].length ≤ 4096)) (fun i _ => ls.length - (intOf i).toNat)
    case atStart => exact ⟨0, Nat.zero_le _, rfl, rfl, fun j _ hj => by omega⟩
    case round =>
      obtain ⟨k, hk, rfl, rfl, HK⟩ := hrel
      by_cases hlt : k < ls.length
      · obtain ⟨b, off, va, vc, rfl, hcell, _⟩ := H0.out.at k hlt
        have hk1 : (0 : Int) ≤ (k : Int) := by omega
        have hk2 : (k : Int) < (ls.length : Int) := by omega
        by_cases hb : 4096 < ls[k].length
        · have HE := hide (HN.out k hlt hb)
          generalize ls[k].length = n at *
          have hd4 : decide ((4096 : Int) < (n : Int)) = true := by simp; omega
          go_wp2
          all_goals first
            | (exfalso; omega)
            | (go_ret; exact ⟨by rw [HE.out]; rfl, rfl⟩)
        · have HK' : Hid (∀ j (hj : j < ls.length), j < k + 1 → ls[j].length ≤ 4096) := hide fun j hj hjk => by
            by_cases e : j = k
            · subst e; omega
            · exact HK.out j hj (by omega)
          generalize ls[k].length = n at *
          have hd4 : decide ((4096 : Int) < (n : Int)) = false := by simp; omega
          go_wp2
          all_goals first
            | (exfalso; omega)
            | (go_roundw
               case rel => exact ⟨k + 1, by omega, by go_num, by trivial, HK'⟩
               case measure => simp [intOf]; omega)
      · have HE := hide (HZ.out fun j hj => HK.out j hj (by omega))
        go_wp2
        go_ret
        exact ⟨by rw [HE.out]; rfl, rfl⟩

set_option maxRecDepth 100000 in
set_option maxHeartbeats 1000000 in
theorem Te_rnew_bad (v : Value) (ls : List (List UInt8)) (w : World) (h : Lns w v ls) (hs : ls.length * 24 ≤ 140737488351232) (hl : newE ls ≠ 0) :
    Calls Tryz.prog 130 #[v] w fun e w' => e = .returned (.tuple #[.pointer none, .int .i64 (newE ls)]) ∧ w' = w := by
  have HC := hide (Te_check_any v ls w h hs)
  obtain ⟨a1, c1, rfl⟩ := h.form
  clear h
  have hE2 : (newE ls != 0) = true := by simpa using hl
  generalize newE ls = E at *
  go_enter Tryz.func130, Tryz.ntmps130
  go_wp2_with fail
  refine HC.out.mono ?_
  rintro e w1 ⟨rfl, rfl⟩
  go_wp2
  all_goals
    go_ret2
    exact ⟨rfl, rfl⟩

/-- Lines of one row and the cells of their own, as a terminal's. -/
theorem term_ref {W : World} {t : Nat} {a : Option Addr} {c : Nat} {ls : List (List UInt8)} {xs : List Value} (h1 : W.cell? ⟨t, 0, none⟩ = some (.slice a ls.length c)) (h2 : W.cell? ⟨t, 1, none⟩ = some (.slice none 0 0)) (h3 : W.frozen? ⟨t, 0, none⟩ = false) (h4 : W.frozen? ⟨t, 1, none⟩ = false)
    (hown : W.ownsRow (t + 1) 40 1 (.slice a ls.length c) ls.length xs) (hL : LCells W (t + 1) ls xs) : Term W t t 0 (fun k => t ≤ k ∧ k < W.heap.size) a c (.slice none 0 0) ls [] := by
  have htl := World.block_lt_of_cell? W _ h1
  refine ⟨h1, h2, h3, h4, owns_cap hown, fun k e => ?_, fun h0 => ?_, World.ownsRow_nil _ _ _ _, (fun k e => by cases e), ⟨Nat.le_refl _, htl⟩, (fun k e => e)⟩
  · have := hown.lt k e
    exact ⟨⟨by omega, this.2⟩, by omega, by intro e; cases e⟩
  · obtain ⟨r, cap, he, _, _⟩ := hown.form h0
    cases he
    refine ⟨r, 0, rfl, fun j hj => ?_⟩
    obtain ⟨v, q1, q2⟩ := hL.2.1 j hj
    obtain ⟨va, vc, rfl⟩ := owns_slice q2
    rw [Nat.zero_add]
    refine ⟨hown.frozenAt j, va, vc, (hown.cellAt j (by omega)).trans q1, owns_cap q2, Bys.of_owns q2, fun k e => ?_⟩
    have := q2.lt k e
    refine ⟨⟨by omega, this.2⟩, by omega, fun e' => ?_, by intro e; cases e⟩
    exact Te_owns_apart q2 hown (by decide) k e (by rw [e']; rfl)

set_option maxRecDepth 100000 in
set_option maxHeartbeats 4000000 in
theorem Te_rnew_good (v : Value) (ls : List (List UInt8)) (w : World) (h : Lns w v ls) (hs : ls.length * 24 ≤ 140737488351232) (hl : newE ls = 0) :
    Calls Tryz.prog 130 #[v] w fun e w' => e = .returned (.tuple #[.pointer (some ⟨w.heap.size, 0, none⟩), .int .i64 0]) ∧ (∃ a c, Term w' w.heap.size w.heap.size 0 (fun k => w.heap.size ≤ k ∧ k < w'.heap.size) a c (.slice none 0 0) ls []) ∧ Below w.heap.size w w' := by
  have HC := hide (Te_check_any v ls w h hs)
  have H0 := hide h
  obtain ⟨hfew, hshort⟩ := newE_small hl
  have HSh := hide hshort
  obtain ⟨a1, c1, rfl⟩ := h.form
  rw [hl] at HC
  clear h hshort hl
  go_enter Tryz.func130, Tryz.ntmps130
  go_wp2_with fail
  refine HC.out.mono ?_
  rintro e w1 ⟨rfl, rfl⟩
  clear HC
  go_wp2
  have hBa : Below w1.heap.size w1 (w1.alloc (Obj.cells #[.slice none 0 0, .slice none 0 0] 250)) := (Below.refl _ _).alloc (Nat.le_refl _) _
  have q1 : (w1.alloc (Obj.cells #[.slice none 0 0, .slice none 0 0] 250)).cell? ⟨w1.heap.size, 0, none⟩ = some (.slice none 0 0) := by simp only [World.cell?, heap_alloc_new]; rfl
  have q2 : (w1.alloc (Obj.cells #[.slice none 0 0, .slice none 0 0] 250)).cell? ⟨w1.heap.size, 1, none⟩ = some (.slice none 0 0) := by simp only [World.cell?, heap_alloc_new]; rfl
  have q3 : ∀ j, (w1.alloc (Obj.cells #[.slice none 0 0, .slice none 0 0] 250)).frozen? ⟨w1.heap.size, j, none⟩ = false := fun j => by simp only [World.frozen?, heap_alloc_new]; simp
  have Q1 := hide q1
  have Q2 := hide q2
  have Q3 := hide q3
  clear q1 q2 q3
  go_loopw [6, 7] (fun i _ wr => ∃ (k : Nat) (xs : List Value) (la : Option Addr) (lc : Nat), k ≤ ls.length ∧ i = .int .i64 k ∧ wr.cell? ⟨w1.heap.size, 0, none⟩ = some (.slice la k lc) ∧ Hid (wr.cell? ⟨w1.heap.size, 1, none⟩ = some (.slice none 0 0)) ∧ wr.frozen? ⟨w1.heap.size, 0, none⟩ = false ∧ Hid (wr.frozen? ⟨w1.heap.size, 1, none⟩ = false) ∧ Hid (wr.ownsRow (w1.heap.size + 1) 40 1 (.slice la k lc) k xs) ∧ Hid (LCells wr (w1.heap.size + 1) (ls.take k) xs) ∧ Below w1.heap.size w1 wr) (fun i _ _ => ls.length - (intOf i).toNat)
  case atStart => exact ⟨0, [], none, 0, Nat.zero_le _, rfl, Q1.out, Q2.out, Q3.out 0, Q3.out 1, World.ownsRow_nil _ _ _ _, ⟨rfl, (fun j hj => by simp at hj), (fun i j vi vj m _ h1 => by simp at h1)⟩, hBa⟩
  case round =>
    clear Q1 Q2 Q3 hBa
    obtain ⟨k, xs, la, lc, hk, rfl, t1, T2, t3, T4, HO, HL, hB⟩ := hrel
    by_cases hlt : k < ls.length
    · obtain ⟨b, off, va, vc, rfl, hc, hby⟩ := H0.out.at k hlt
      have hbl := World.block_lt_of_cell? w1 _ hc
      have hc' := (hB.cell (p := ⟨b, off + k, none⟩) hbl).trans hc
      have hk1 : (0 : Int) ≤ (k : Int) := by omega
      have hk2 : (k : Int) < (ls.length : Int) := by omega
      have hl4 := HSh.out k hlt
      have htw : w1.heap.size < wr.heap.size := World.block_lt_of_cell? wr _ t1
      obtain ⟨L, hL⟩ : ∃ L, L = ls[k] := ⟨_, rfl⟩
      rw [← hL] at hc' hby hl4
      have HLk := hide hL
      have hbd : Bys wr.drew (.slice va L.length vc) L := (hby.below hB).below (Below.refl _ _).drew
      obtain ⟨s1, w2, hr1, HO1, hg1, hb1⟩ := run_append_bytes wr.drew 40 wr.heap.size (.slice none 0 0) (.slice va L.length vc) [] L (World.ownsRow_nil _ _ _ _) hbd (by simp; omega) (Nat.le_refl _)
      rw [List.nil_append] at HO1
      obtain ⟨sa, sc, rfl⟩ := owns_slice HO1.out
      have hB2 : Below wr.heap.size wr w2 := (Below.refl _ wr).drew.grown hg1 (Nat.le_refl _) (fun j e => by cases e)
      have hz2 := hB2.size
      have u1 := (hB2.cell (p := ⟨w1.heap.size, 0, none⟩) htw).trans t1
      have hBb : Below w2.heap.size w2 (w2.alloc (Obj.cells #[.slice sa L.length sc] 40)) := (Below.refl _ _).alloc (Nat.le_refl _) _
      have hB2b := hB2.trans (hBb.mono hz2)
      have hcu : (w2.alloc (Obj.cells #[.slice sa L.length sc] 40)).cell? ⟨w2.heap.size, 0, none⟩ = some (.slice sa L.length sc) := by simp only [World.cell?, heap_alloc_new]; rfl
      have u2 := (hB2b.cell (p := ⟨w1.heap.size, 0, none⟩) htw).trans t1
      have HOb := hide (owns_below HO.out hB2b)
      obtain ⟨s2, w3, hr2, HO2, hg2, hb2⟩ := run_append_line (w2.alloc (Obj.cells #[.slice sa L.length sc] 40)) 96 (w1.heap.size + 1) _ k xs w2.heap.size 1 _ HOb.out hcu rfl (by omega) (by have := hB2b.size; omega)
      obtain ⟨ra, rc, rfl⟩ := owns_slice HO2.out
      have hgt : w3.heap[w1.heap.size]? = (w2.alloc (Obj.cells #[.slice sa L.length sc] 40)).heap[w1.heap.size]? := hg2.block _ (by have := hB2b.size; omega) (fun e => by have := (HOb.out.lt _ e.symm).1; omega)
      have u3 : w3.cell? ⟨w1.heap.size, 0, none⟩ = some (.slice la k lc) := (World.cell?_of_block (w := w2.alloc (Obj.cells #[.slice sa L.length sc] 40)) hgt).trans u2
      have u4 : w3.frozen? ⟨w1.heap.size, 0, none⟩ = false := (World.frozen?_of_block (w := w2.alloc (Obj.cells #[.slice sa L.length sc] 40)) hgt).trans ((hB2b.frozen (p := ⟨w1.heap.size, 0, none⟩) htw).trans t3)
      have HR1 := hide hr1
      have HR2 := hide hr2
      have hz2b := hB2b.size
      have hBw := hB.trans (hB2b.mono hB.size)
      have hO : ∀ j, j ≠ w1.heap.size → (w3.setCell ⟨w1.heap.size, 0, none⟩ (.slice ra (k + 1) rc)).heap[j]? = w3.heap[j]? := fun j hj => Below.heap_setCell _ _ _ _ hj
      have hgc := hide (World.cell?_of_block (w := w2.alloc (Obj.cells #[.slice sa L.length sc] 40)) (a := ⟨w1.heap.size, 1, none⟩) hgt)
      have hgf := hide (World.frozen?_of_block (w := w2.alloc (Obj.cells #[.slice sa L.length sc] 40)) (a := ⟨w1.heap.size, 1, none⟩) hgt)
      have G1 := hide (World.cell?_setCell_same w3 ⟨w1.heap.size, 0, none⟩ (.slice ra (k + 1) rc) u3)
      have G2 : Hid ((w3.setCell ⟨w1.heap.size, 0, none⟩ (.slice ra (k + 1) rc)).cell? ⟨w1.heap.size, 1, none⟩ = some (.slice none 0 0)) := hide (by
        rw [World.cell?_setCell_other _ _ _ _ (by simp)]
        exact hgc.out.trans ((hB2b.cell (p := ⟨w1.heap.size, 1, none⟩) htw).trans T2.out))
      have G3 : Hid ((w3.setCell ⟨w1.heap.size, 0, none⟩ (.slice ra (k + 1) rc)).frozen? ⟨w1.heap.size, 0, none⟩ = false) := hide (by rw [World.frozen?_setCell]; exact u4)
      have G4 : Hid ((w3.setCell ⟨w1.heap.size, 0, none⟩ (.slice ra (k + 1) rc)).frozen? ⟨w1.heap.size, 1, none⟩ = false) := hide (by
        rw [World.frozen?_setCell]
        exact hgf.out.trans ((hB2b.frozen (p := ⟨w1.heap.size, 1, none⟩) htw).trans T4.out))
      have G5 : Hid ((w3.setCell ⟨w1.heap.size, 0, none⟩ (.slice ra (k + 1) rc)).ownsRow (w1.heap.size + 1) 40 1 (.slice ra (k + 1) rc) (k + 1) (xs ++ [.slice sa L.length sc])) := hide (owns_keep HO2.out fun j e => hO j (by have := (HO2.out.lt j e).1; omega))
      have G6 : Hid (LCells (w3.setCell ⟨w1.heap.size, 0, none⟩ (.slice ra (k + 1) rc)) (w1.heap.size + 1) (ls.take (k + 1)) (xs ++ [.slice sa L.length sc])) := hide (by
        have hLb := HL.out.below hB2b
        have hUb := owns_below HO1.out hBb
        refine LCells.snoc hlt (hLb.keep fun j hj v i h1 e => ?_) _ ?_ (fun j v i h1 e e' => ?_)
        · obtain ⟨v', h2, h3⟩ := hLb.2.1 j hj
          rw [h1] at h2
          cases h2
          have hi := h3.lt i e
          exact (hO i (by omega)).trans (hg2.block i hi.2 (fun e' => Te_owns_apart h3 HOb.out (by decide) i e e'.symm))
        · rw [← hL]
          refine owns_mono (base := wr.heap.size) (owns_keep hUb fun i e => ?_) (by omega)
          have hi := hUb.lt i e
          exact (hO i (by omega)).trans (hg2.block i hi.2 (fun e' => Te_owns_apart hUb HOb.out (by decide) i e e'.symm))
        · obtain ⟨v', h2, h3⟩ := HL.out.2.1 j (by have := (List.getElem?_eq_some_iff.1 h1).1; have := HL.out.1; omega)
          rw [h1] at h2
          cases h2
          have := (h3.lt i e).2
          have := (HO1.out.lt i e').1
          omega)
      have G7 : Hid (Below w1.heap.size w1 (w3.setCell ⟨w1.heap.size, 0, none⟩ (.slice ra (k + 1) rc))) := hide ((hBw.grown hg2 hBw.size (fun j e => by have := (HOb.out.lt j e).1; omega)).setCell (p := ⟨w1.heap.size, 0, none⟩) (Nat.le_refl _) _)
      clear hr1 hr2 hgt hc hby hL hbd hcu hgc hgf hO hb1 hb2 hg1 hg2 HOb HO1 HO2 hBw hBb
      go_wp2_with fail
      go_region_law (first | (refine step_append_run _ (by rfl) _ _ _ _ (by rfl) _ _ (by rfl) (by rfl) _ _ HR1.out ?_) | (refine step_append_run _ (by rfl) _ _ _ _ (by rfl) _ _ (by rfl) (by rfl) _ _ HR2.out ?_))
      all_goals
        go_wp2
        go_roundw
        case rel => exact ⟨k + 1, _, ra, rc, by omega, by go_num, G1.out, G2, G3.out, G4, G5, G6, G7.out⟩
        case measure => simp [intOf]; omega
    · have hke : k = ls.length := by omega
      subst hke
      go_wp2
      go_ret2
      have hL := HL.out
      rw [List.take_length] at hL
      exact ⟨rfl, ⟨la, lc, term_ref t1 T2.out t3 T4.out HO.out hL⟩, hB⟩
end Go.Proofs.YtkkicbhmcjbmbaaGreat

/- The reference's terminal: Read, Write. -/
namespace Go.Proofs.YtkkicbhmcjbmbaaGreat
open Go.RowKit

set_option maxRecDepth 100000 in
set_option maxHeartbeats 1000000 in
theorem rread_bad (t : Nat) (n : Int) (w : World) (hn : ¬ (1 ≤ n ∧ n ≤ 1048576)) :
    Calls Tryz.prog 139 #[.pointer (some ⟨t, 0, none⟩), .int .i64 n] w fun e w' => e = .returned (.tuple #[.slice none 0 0, .int .i64 4]) ∧ w' = w := by
  by_cases hd1 : n < 1
  · have hd : decide (n < 1) = true := by simp; omega
    go_enter Tryz.func139, Tryz.ntmps139
    go_wp2
    go_ret2
    exact ⟨rfl, rfl⟩
  · have hd : decide (n < 1) = false := by simp; omega
    have hd2 : decide (1048576 < n) = true := by simp; omega
    go_enter Tryz.func139, Tryz.ntmps139
    go_wp2
    go_ret2
    exact ⟨rfl, rfl⟩

set_option maxRecDepth 100000 in
set_option maxHeartbeats 2000000 in
theorem rread_good (B t : Nat) (O : Nat → Prop) (la : Option Addr) (lc : Nat) (s : Value) (ls : List (List UInt8)) (scr : List UInt8) (n : Nat) (w : World) (h : Term w B t 0 O la lc s ls scr) (hn1 : 1 ≤ n) (hn : n ≤ 1048576) (hf : ls.length ≤ 256) (hsh : ∀ j (hj : j < ls.length), ls[j].length ≤ 4096) :
    Calls Tryz.prog 139 #[.pointer (some ⟨t, 0, none⟩), .int .i64 n] w fun e w' => ∃ v, e = .returned (.tuple #[v, .int .i64 0]) ∧ Bys w' v (headL ls n) ∧ (∃ la' lc', Term w' B t 0 O la' lc' s (restL ls n) scr) ∧ Turned O w w' := by
  have HT := hide h
  have h2 := h.lines
  have h3 := h.soft1
  have hd : decide ((n : Int) < 1) = false := by simp; omega
  have hd2 : decide ((1048576 : Int) < (n : Int)) = false := by simp; omega
  cases ls with
  | nil =>
    simp only [List.length_nil] at h2
    clear h
    go_enter Tryz.func139, Tryz.ntmps139
    go_wp2
    go_ret2
    exact ⟨_, rfl, .inl ⟨rfl, rfl⟩, ⟨_, _, HT.out⟩, Turned.refl _ _⟩
  | cons l ls =>
    have hz : ((ls.length : Int) + 1 == 0) = false := by simp; omega
    have hz2 : ¬ (ls.length : Int) + 1 = 0 := by omega
    have hl := hsh 0 (by simp)
    simp only [List.getElem_cons_zero] at hl
    obtain ⟨r, off, rfl, hr⟩ := h.row (by simp)
    obtain ⟨hfz, va, vc, hc, hvc, hby, hkk⟩ := hr 0 (by simp)
    obtain ⟨ro, rt, rs⟩ := h.lo r rfl
    have hcap := h.cap
    simp only [Nat.add_zero, List.getElem_cons_zero, List.length_cons] at hc hfz h2 hcap hvc hby hkk
    have HBy := hide hby
    have HK := hide hkk
    clear hr h hby hkk hsh hf
    by_cases hlt : n < l.length
    · obtain ⟨_, b, o, rfl, hbl, -⟩ := bys_block HBy.out (by omega)
      have hd3 : decide ((n : Int) < (l.length : Int)) = true := by simp; omega
      have hq : ((n : Int) == (l.length : Int)) = false := by simp; omega
      have hq2 : ¬ (n : Int) = (l.length : Int) := by omega
      have hq3 : ¬ n = l.length := by omega
      obtain ⟨hC, hTn⟩ := HT.out.cut hc hlt
      have k1 : (n : Int) < (vc : Int) := by omega
      have k2 : (n : Int) ≤ (l.length : Int) := by omega
      have k3 : ¬ vc = n := by omega
      have k4 : (n : Int) ≤ (vc : Int) := by omega
      have hby1 : Bys (w.setCell ⟨r, off, none⟩ (.slice (some ⟨b, o + n, none⟩) (l.length - n) (vc - n))) (.slice (some ⟨b, o, none⟩) n vc) (l.take n) := by
        have h5 := bys_cut HBy.out 0 n vc (by omega)
        rw [List.drop_zero, Nat.add_zero] at h5
        exact h5.keep fun k e _ => Below.heap_setCell _ _ _ _ (HK.out k e).2.2.1
      have HB1 := hide hby1
      have HC := hide hC
      have HTn := hide hTn
      rw [show restL (l :: ls) n = l.drop n :: ls by rw [restL, if_pos hlt], show headL (l :: ls) n = l.take n from rfl]
      clear hby1 hC hTn
      go_enter Tryz.func139, Tryz.ntmps139
      go_wp2_with fail
      go_region
      go_wp2
      go_ret2
      generalize w.setCell ⟨r, off, none⟩ (.slice (some ⟨b, o + n, none⟩) (l.length - n) (vc - n)) = w1 at *
      have hBd : Below w1.heap.size w1 w1.drew := (Below.refl _ _).drew
      exact ⟨_, rfl, HB1.out.below hBd, ⟨_, _, HC.out.below hBd⟩, HTn.out.trans (Turned.of_below (S := O) hBd) (fun _ _ h => h)⟩
    · have hd3 : decide ((n : Int) < (l.length : Int)) = false := by simp; omega
      rw [show restL (l :: ls) n = ls by rw [restL, if_neg hlt], show headL (l :: ls) n = l from List.take_of_length_le (by omega)]
      have k4 : (l.length : Int) ≤ (vc : Int) := by omega
      have k5 : (l.length : Int) ≤ (n : Int) := by omega
      have hva : (va = none ∧ l.length = 0 ∧ vc = 0) ∨ (∃ ad, va = some ad ∧ l.length < n) ∨ ∃ ad, va = some ad ∧ n = l.length := by
        have hva : (va = none ∧ l.length = 0 ∧ vc = 0) ∨ ∃ ad, va = some ad := by
          rcases HBy.out with ⟨h5, h6⟩ | ⟨a, c, h5, h6⟩ | ⟨b, o, c, h5, _⟩
          · simp only [Value.slice.injEq] at h5
            exact .inl ⟨h5.1, h5.2.1, h5.2.2⟩
          · simp only [Value.slice.injEq] at h5
            exact .inr ⟨_, h5.1⟩
          · simp only [Value.slice.injEq] at h5
            exact .inr ⟨_, h5.1⟩
        rcases hva with h | ⟨ad, h⟩
        · exact .inl h
        · rcases Nat.lt_or_ge l.length n with h1 | h1
          · exact .inr (.inl ⟨ad, h, h1⟩)
          · exact .inr (.inr ⟨ad, h, by omega⟩)
      have HD := hide (fun la n' h5 h6 => HT.out.dropped (w1 := w) rfl rfl rfl rfl (fun k hk => rfl) (fun j => ⟨rfl, rfl⟩) la n' h5 h6)
      have HTo : Hid (∀ W, Turned (fun k => k = t ∨ k = r) w W → Turned O w W) := hide fun W h => h.mono fun k e => by
        rcases e with rfl | rfl
        · exact HT.out.ot
        · exact ro
      have HBk : Hid (∀ u, Bys (w.setCell ⟨t, 0, none⟩ u) (.slice va l.length vc) l) := hide fun u => HBy.out.keep fun k e _ => Below.heap_setCell _ _ _ _ (HK.out k e).2.1
      clear HBy HK
      rcases hva with ⟨rfl, hl0, rfl⟩ | ⟨ad, rfl, hcn⟩ | ⟨ad, rfl, rfl⟩
      case' inr.inr =>
        clear hd3 k5 hlt
        have hd3 : decide ((l.length : Int) < (l.length : Int)) = false := by simp
        have hd4 : ¬ l.length < l.length := by omega
      case' inl =>
        rw [hl0] at hc
        obtain rfl : l = [] := List.length_eq_zero_iff.1 hl0
        clear hd3 k4 k5 hlt hvc hl
        have hd3 : decide ((n : Int) < 0) = false := by simp
        have k5 : (0 : Int) < (n : Int) := by omega
        have k6 : 0 < n := hn1
      all_goals
        by_cases h1 : lc = 1
        · obtain rfl : ls = [] := List.length_eq_zero_iff.1 (by omega)
          subst h1
          simp only [List.length_nil, Nat.zero_add] at h2
          clear hz hz2 hcap
          go_enter Tryz.func139, Tryz.ntmps139
          go_wp2
          go_ret2
          obtain ⟨r1, r2⟩ := HD.out (some ⟨r, off, none⟩) 0 (.inr ⟨trivial, rfl⟩) rfl
          exact ⟨_, rfl, HBk.out _, ⟨_, _, r1⟩, HTo.out _ r2⟩
        · have k7 : (1 : Int) < (lc : Int) := by omega
          have k8 : (1 : Int) ≤ (ls.length : Int) + 1 := by omega
          go_enter Tryz.func139, Tryz.ntmps139
          go_wp2
          go_ret2
          obtain ⟨r1, r2⟩ := HD.out (some ⟨r, off + 1, none⟩) ls.length (.inl rfl) rfl
          exact ⟨_, rfl, HBk.out _, ⟨_, _, r1⟩, HTo.out _ r2⟩

theorem Te_rread_any (B t : Nat) (O : Nat → Prop) (la : Option Addr) (lc : Nat) (s : Value) (ls : List (List UInt8)) (scr : List UInt8) (n : Int) (w : World) (h : Term w B t 0 O la lc s ls scr) (hf : ls.length ≤ 256) (hsh : ∀ j (hj : j < ls.length), ls[j].length ≤ 4096) :
    Calls Tryz.prog 139 #[.pointer (some ⟨t, 0, none⟩), .int .i64 n] w fun e w' => ∃ v, e = .returned (.tuple #[v, .int .i64 (Te_rdE n)]) ∧ Bys w' v (rdH ls n) ∧ (∃ la' lc', Term w' B t 0 O la' lc' s (rdR ls n) scr) ∧ Turned O w w' := by
  by_cases hn : 1 ≤ n ∧ n ≤ 1048576
  · have hr := rOk_yes hn.1 hn.2
    rw [Te_rdE, rdH, rdR, if_pos hr, if_pos hr, if_pos hr]
    obtain ⟨m, rfl⟩ : ∃ m : Nat, n = m := ⟨n.toNat, by omega⟩
    rw [Int.toNat_natCast]
    exact rread_good B t O la lc s ls scr m w h (by omega) (by omega) hf hsh
  · have hr : ¬ rOk n = true := by rw [rOk_no hn]; simp
    rw [Te_rdE, rdH, rdR, if_neg hr, if_neg hr, if_neg hr]
    refine (rread_bad t n w hn).mono ?_
    rintro e w' ⟨rfl, rfl⟩
    exact ⟨_, rfl, .inl ⟨rfl, rfl⟩, ⟨_, _, h⟩, Turned.refl _ _⟩

set_option maxRecDepth 100000 in
set_option maxHeartbeats 1000000 in
theorem Te_rwrite_any (B t : Nat) (O : Nat → Prop) (la : Option Addr) (lc : Nat) (s : Value) (ls : List (List UInt8)) (scr : List UInt8) (vx : Value) (x : List UInt8) (w : World) (h : Term w B t 0 O la lc s ls scr) (hx : Bys w vx x) (h0 : scr.length ≤ 1048576) (hxs : x.length ≤ 140737488351232) :
    Calls Tryz.prog 145 #[.pointer (some ⟨t, 0, none⟩), vx] w fun e w' => e = .returned (.int .i64 (Te_wrE scr.length x.length)) ∧ ∃ O' s', Term w' B t 0 O' la lc s' ls (wrS scr x) ∧ (∀ k, O' k → O k ∨ w.heap.size ≤ k) ∧ Turned O w w' := by
  have HT := hide h
  have hlt := h.lt t h.ot
  obtain ⟨sa, sc, rfl⟩ := owns_slice h.scr
  have h2 := h.screen
  have h3 := h.soft2
  have hst := h.st t
  have HX := hide hx
  obtain ⟨a1, c1, rfl, -⟩ := bys_form hx
  clear h hx
  by_cases hf : 1048576 < scr.length + x.length
  · rw [Te_wrE, wrS, if_pos hf, if_pos hf]
    have hd : decide ((1048576 : Int) < (scr.length : Int) + (x.length : Int)) = true := by simp; omega
    clear hst
    go_enter Tryz.func145, Tryz.ntmps145
    go_wp2
    all_goals first
      | (exfalso; omega)
      | (go_ret; exact ⟨rfl, O, _, HT.out, fun k e => .inl e, Turned.refl _ _⟩)
  · rw [Te_wrE, wrS, if_neg hf, if_neg hf]
    have hd : decide ((1048576 : Int) < (scr.length : Int) + (x.length : Int)) = false := by simp; omega
    obtain ⟨s', w1, hrun, HO, hg, hb⟩ := run_append_bytes w 40 B _ _ scr x HT.out.scr HX.out (by omega) (by omega)
    obtain ⟨sa', sc', rfl⟩ := owns_slice HO.out
    have hgt : w1.heap[t]? = w.heap[t]? := hg.block t hlt.2 (fun e => (hst e.symm).2 rfl)
    have q1 : w1.cell? ⟨t, 1, none⟩ = some (.slice sa scr.length sc) := (World.cell?_of_block (w := w) hgt).trans h2
    have q2 : w1.frozen? ⟨t, 1, none⟩ = false := (World.frozen?_of_block (w := w) hgt).trans h3
    obtain ⟨r1, r2⟩ := HT.out.written HO.out hg hb
    simp only [List.length_append] at r1 r2 hrun hb
    have R1 := hide r1
    have R2 := hide r2
    have HB := hide hb
    have HR := hide hrun
    clear r1 r2 hgt hst hg hb hrun
    go_enter Tryz.func145, Tryz.ntmps145
    go_wp2_with (at_builtin; refine Lib.wpList_append_run _ rfl _ _ _ _ rfl _ _ rfl rfl _ _ HR.out ?_)
    all_goals first
      | (exfalso; omega)
      | skip
    go_ret
    refine ⟨rfl, _, _, R1.out, fun k e => ?_, R2.out⟩
    rcases e with e | e
    · exact .inl e
    · rcases HB.out with e' | e'
      · rw [e'] at e; exact .inl (HT.out.st k e).1
      · rw [e'] at e; cases e; exact .inr (Nat.le_refl _)
end Go.Proofs.YtkkicbhmcjbmbaaGreat

/- The reference's pipe: Join, Leave, Read, CanRead, CanWrite. -/
namespace Go.Proofs.YtkkicbhmcjbmbaaGreat
open Go.RowKit

/-- The block t is the reference's pipe, whose bytes lie in a block from B on. -/
structure RP (W : World) (B t : Nat) (a : Option Addr) (c : Nat) (q : List UInt8) (rd wr : Nat) : Prop where
  blk : W.heap[t]? = some (.cells ([.slice a q.length c, .int .i64 rd, .int .i64 wr] : List Value).toArray 176 (0, 0))
  bys : Bys W (.slice a q.length c) q
  cap : q.length ≤ c
  lq : q.length ≤ 4096
  lr : rd ≤ 1024
  lw : wr ≤ 1024
  ad : (a = none ∧ c = 0 ∧ q = []) ∨ ∃ b off, a = some ⟨b, off, none⟩ ∧ b ≠ t ∧ B ≤ b ∧ b < W.heap.size
theorem RP.lt {W : World} {B t : Nat} {a : Option Addr} {c : Nat} {q : List UInt8} {rd wr : Nat} (h : RP W B t a c q rd wr) : t < W.heap.size := (Array.getElem?_eq_some_iff.1 h.blk).1
theorem RP.soft {W : World} {B t : Nat} {a : Option Addr} {c : Nat} {q : List UInt8} {rd wr : Nat} (h : RP W B t a c q rd wr) (j : Nat) : W.frozen? ⟨t, j, none⟩ = false := frozen_of_row W t j _ _ h.blk
theorem RP.c0 {W : World} {B t : Nat} {a : Option Addr} {c : Nat} {q : List UInt8} {rd wr : Nat} (h : RP W B t a c q rd wr) : W.cell? ⟨t, 0, none⟩ = some (.slice a q.length c) := by rw [cell_of_row W t 0 _ _ _ h.blk]; rfl
theorem RP.c1 {W : World} {B t : Nat} {a : Option Addr} {c : Nat} {q : List UInt8} {rd wr : Nat} (h : RP W B t a c q rd wr) : W.cell? ⟨t, 1, none⟩ = some (.int .i64 rd) := by rw [cell_of_row W t 1 _ _ _ h.blk]; rfl
theorem RP.c2 {W : World} {B t : Nat} {a : Option Addr} {c : Nat} {q : List UInt8} {rd wr : Nat} (h : RP W B t a c q rd wr) : W.cell? ⟨t, 2, none⟩ = some (.int .i64 wr) := by rw [cell_of_row W t 2 _ _ _ h.blk]; rfl
theorem RP.keep {S : Nat → Prop} {W W' : World} {B t : Nat} {a : Option Addr} {c : Nat} {q : List UInt8} {rd wr : Nat} (h : RP W B t a c q rd wr) (hT : Turned S W W') (ht : ¬ S t) (hb : ∀ b, B ≤ b → b ≠ t → b < W.heap.size → (Value.slice a q.length c).ownBlock = some b → ¬ S b) : RP W' B t a c q rd wr := by
  refine ⟨(hT.block t h.lt ht).trans h.blk, h.bys.turned hT fun k hk hlt => ?_, h.cap, h.lq, h.lr, h.lw, ?_⟩
  · rcases h.ad with ⟨rfl, _⟩ | ⟨b, off, rfl, h1, h2, h3⟩
    · cases hk
    · obtain rfl : b = k := by simpa [Value.ownBlock] using hk
      exact hb b h2 h1 h3 rfl
  · rcases h.ad with h | ⟨b, off, h0, h1, h2, h3⟩
    · exact .inl h
    · exact .inr ⟨b, off, h0, h1, h2, Nat.lt_of_lt_of_le h3 hT.size⟩
theorem RP.below {W W' : World} {B t : Nat} {a : Option Addr} {c : Nat} {q : List UInt8} {rd wr : Nat} (h : RP W B t a c q rd wr) (hB : Below W.heap.size W W') : RP W' B t a c q rd wr :=
  h.keep (Turned.of_below (S := fun _ => False) hB) id (fun _ _ _ _ _ => id)
/-- A cell of the block turns. -/
theorem RP.set {W : World} {B t : Nat} {a : Option Addr} {c : Nat} {q : List UInt8} {rd wr : Nat} (h : RP W B t a c q rd wr) (j : Nat) (v : Value) {a' : Option Addr} {c' : Nat} {q' : List UInt8} {rd' wr' : Nat}
    (hl : ([.slice a q.length c, .int .i64 rd, .int .i64 wr] : List Value).set j v = [.slice a' q'.length c', .int .i64 rd', .int .i64 wr']) (hb : Bys W (.slice a' q'.length c') q') (hc : q'.length ≤ c') (hq : q'.length ≤ 4096) (hr : rd' ≤ 1024) (hw : wr' ≤ 1024)
    (ha : (a' = none ∧ c' = 0 ∧ q' = []) ∨ ∃ b off, a' = some ⟨b, off, none⟩ ∧ b ≠ t ∧ B ≤ b ∧ b < W.heap.size) : RP (W.setCell ⟨t, j, none⟩ v) B t a' c' q' rd' wr' := by
  have hs : (W.setCell ⟨t, j, none⟩ v).heap.size = W.heap.size := by simp [World.setCell]
  refine ⟨by rw [heap_setCell_same j v h.blk, hl], hb.keep fun k hk _ => Below.heap_setCell _ _ _ _ ?_, hc, hq, hr, hw, ?_⟩
  · rcases ha with ⟨rfl, _⟩ | ⟨b, off, rfl, h1, _⟩
    · cases hk
    · obtain rfl : b = k := by simpa [Value.ownBlock] using hk
      exact h1
  · rw [hs]; exact ha

set_option maxRecDepth 100000 in
set_option maxHeartbeats 1000000 in
theorem rleave_any (x : Bool) (B t : Nat) (a : Option Addr) (c : Nat) (q : List UInt8) (rd wr : Nat) (w : World) (h : RP w B t a c q rd wr) :
    Calls Tryz.prog 152 #[.pointer (some ⟨t, 0, none⟩), .bool x] w fun e w' => e = .returned (.int .i64 (leaveE x rd wr)) ∧ RP w' B t a c q (leaveR x rd wr) (leaveW x rd wr) ∧ Turned (fun k => k = t) w w' := by
  have HP := hide h
  have h2 := h.c1
  have h3 := h.c2
  have h4 := h.soft 1
  have h5 := h.soft 2
  have h6 := h.lr
  have h7 := h.lw
  clear h
  cases x
  · by_cases hf : rd = 0
    · subst hf
      go_enter Tryz.func152, Tryz.ntmps152
      go_wp2
      go_ret
      exact ⟨rfl, HP.out, Turned.refl _ _⟩
    · have k1 : ¬ (rd : Int) = 0 := by omega
      have k2 : ((rd : Int) == 0) = false := by simp; omega
      have HP2 := hide (HP.out.set 1 (.int .i64 ((rd - 1 : Nat) : Int)) (a' := a) (c' := c) (q' := q) (rd' := rd - 1) (wr' := wr) rfl HP.out.bys HP.out.cap HP.out.lq (by omega) HP.out.lw HP.out.ad)
      go_enter Tryz.func152, Tryz.ntmps152
      go_wp2
      go_ret
      refine ⟨ret_int (by simp [leaveE, hf]), ?_, (Turned.refl _ _).set (.inl rfl)⟩
      rw [show (rd : Int) - 1 = ((rd - 1 : Nat) : Int) by omega]
      exact HP2.out
  · by_cases hf : wr = 0
    · subst hf
      go_enter Tryz.func152, Tryz.ntmps152
      go_wp2
      go_ret
      exact ⟨rfl, HP.out, Turned.refl _ _⟩
    · have k1 : ¬ (wr : Int) = 0 := by omega
      have k2 : ((wr : Int) == 0) = false := by simp; omega
      have HP2 := hide (HP.out.set 2 (.int .i64 ((wr - 1 : Nat) : Int)) (a' := a) (c' := c) (q' := q) (rd' := rd) (wr' := wr - 1) rfl HP.out.bys HP.out.cap HP.out.lq HP.out.lr (by omega) HP.out.ad)
      go_enter Tryz.func152, Tryz.ntmps152
      go_wp2
      go_ret
      refine ⟨ret_int (by simp [leaveE, hf]), ?_, (Turned.refl _ _).set (.inl rfl)⟩
      rw [show (wr : Int) - 1 = ((wr - 1 : Nat) : Int) by omega]
      exact HP2.out

set_option maxHeartbeats 1000000 in
theorem rcanRead_any (B t : Nat) (a : Option Addr) (c : Nat) (q : List UInt8) (rd wr : Nat) (w : World) (h : RP w B t a c q rd wr) :
    Calls Tryz.prog 137 #[.pointer (some ⟨t, 0, none⟩)] w fun e w' => e = .returned (.bool (canR q.length rd wr)) ∧ w' = w := by
  have h1 := h.c0
  have h2 := h.c1
  have h3 := h.c2
  clear h
  unfold canR
  generalize q.length = n at *
  rcases (show rd = 0 ∨ (0 < rd ∧ 0 < n) ∨ (0 < rd ∧ n = 0 ∧ 0 < wr) ∨ (0 < rd ∧ n = 0 ∧ wr = 0) by omega) with rfl | ⟨hr, hn⟩ | ⟨hr, rfl, hw⟩ | ⟨hr, rfl, rfl⟩
  · go_enter Tryz.func137, Tryz.ntmps137
    go_wp2
    go_ret
    exact ⟨rfl, rfl⟩
  · rw [show decide (0 < rd) = true by simp; omega, show decide (n = 0 ∧ 0 < wr) = false by rw [decide_eq_false_iff_not]; omega]
    have k1 : (0 : Int) < (rd : Int) := by omega
    have k2 : (0 : Int) < (n : Int) := by omega
    go_enter Tryz.func137, Tryz.ntmps137
    go_wp2
    go_ret
    exact ⟨rfl, rfl⟩
  · rw [show decide (0 < rd) = true by simp; omega, show decide (0 = 0 ∧ 0 < wr) = true by rw [decide_eq_true_iff]; omega]
    have k1 : (0 : Int) < (rd : Int) := by omega
    have k2 : ((wr : Int) == 0) = false := by simp; omega
    go_enter Tryz.func137, Tryz.ntmps137
    go_wp2
    go_ret
    exact ⟨rfl, rfl⟩
  · rw [show decide (0 < rd) = true by simp; omega]
    have k1 : (0 : Int) < (rd : Int) := by omega
    go_enter Tryz.func137, Tryz.ntmps137
    go_wp2
    go_ret
    exact ⟨rfl, rfl⟩

set_option maxHeartbeats 2000000 in
theorem rcanWrite_any (n : Int) (B t : Nat) (a : Option Addr) (c : Nat) (q : List UInt8) (rd wr : Nat) (w : World) (h : RP w B t a c q rd wr) :
    Calls Tryz.prog 142 #[.pointer (some ⟨t, 0, none⟩), .int .i64 n] w fun e w' => e = .returned (.bool (canW n q.length rd wr)) ∧ w' = w := by
  have h1 := h.c0
  have h2 := h.c1
  have h3 := h.c2
  have h4 := h.lq
  clear h
  unfold canW
  generalize q.length = z at *
  by_cases hi : inN n = false
  · rw [hi]
    have h5 : n < 1 ∨ 1048576 < n := by
      simp only [inN, Bool.and_eq_false_iff, decide_eq_false_iff_not] at hi
      omega
    clear hi
    rcases (show wr = 0 ∨ (0 < wr ∧ n < 1) ∨ (0 < wr ∧ 1048576 < n) by omega) with rfl | ⟨hw, hn⟩ | ⟨hw, hn⟩
    · go_enter Tryz.func142, Tryz.ntmps142
      go_wp2
      go_ret
      exact ⟨rfl, rfl⟩
    · have k1 : (0 : Int) < (wr : Int) := by omega
      have k2 : ¬ 1 ≤ n := by omega
      go_enter Tryz.func142, Tryz.ntmps142
      go_wp2
      go_ret
      exact ⟨rfl, rfl⟩
    · have k1 : (0 : Int) < (wr : Int) := by omega
      have k2 : 1 ≤ n := by omega
      have k3 : ¬ n ≤ 1048576 := by omega
      go_enter Tryz.func142, Tryz.ntmps142
      go_wp2
      go_ret
      exact ⟨rfl, rfl⟩
  · have hi' : inN n = true := by simpa using hi
    obtain ⟨m, rfl, hm1, hm2⟩ := inN_nat hi'
    rw [hi']
    clear hi hi'
    simp only [Int.toNat_natCast]
    have k2 : (1 : Int) ≤ (m : Int) := by omega
    have k3 : (m : Int) ≤ 1048576 := by omega
    rcases (show wr = 0 ∨ (0 < wr ∧ rd = 0) ∨ (0 < wr ∧ 0 < rd ∧ m ≤ 512 ∧ m ≤ 4096 - z) ∨ (0 < wr ∧ 0 < rd ∧ m ≤ 512 ∧ ¬ m ≤ 4096 - z) ∨ (0 < wr ∧ 0 < rd ∧ 512 < m ∧ 0 < 4096 - z) ∨ (0 < wr ∧ 0 < rd ∧ 512 < m ∧ z = 4096) by omega) with rfl | ⟨hw, rfl⟩ | ⟨hw, hr, hm, hz⟩ | ⟨hw, hr, hm, hz⟩ | ⟨hw, hr, hm, hz⟩ | ⟨hw, hr, hm, rfl⟩
    · go_enter Tryz.func142, Tryz.ntmps142
      go_wp2
      go_ret
      exact ⟨rfl, rfl⟩
    · rw [show decide (0 < wr) = true by simp; omega]
      have k1 : (0 : Int) < (wr : Int) := by omega
      go_enter Tryz.func142, Tryz.ntmps142
      go_wp2
      go_ret
      exact ⟨rfl, rfl⟩
    · have hy : fitN m m z = m := by unfold fitN; rw [if_neg (by omega), if_neg (by omega)]
      rw [show decide (0 < wr) = true by simp; omega, show decide (rd = 0) = false by simp; omega, show decide (0 < fitN m m z) = true by rw [hy]; simp; omega]
      have k1 : (0 : Int) < (wr : Int) := by omega
      have k4 : ((rd : Int) == 0) = false := by simp; omega
      have k5 : (m : Int) ≤ 512 := by omega
      have k6 : (m : Int) ≤ 4096 - (z : Int) := by omega
      clear hy
      go_enter Tryz.func142, Tryz.ntmps142
      go_wp2
      go_ret
      exact ⟨rfl, rfl⟩
    · have hy : fitN m m z = 0 := by unfold fitN; rw [if_neg (by omega), if_pos (by omega)]
      rw [show decide (0 < wr) = true by simp; omega, show decide (rd = 0) = false by simp; omega, show decide (0 < fitN m m z) = false by rw [hy]; rfl]
      have k1 : (0 : Int) < (wr : Int) := by omega
      have k4 : ((rd : Int) == 0) = false := by simp; omega
      have k5 : (m : Int) ≤ 512 := by omega
      have k6 : ¬ (m : Int) ≤ 4096 - (z : Int) := by omega
      have k7 : ¬ (512 : Int) < (m : Int) := by omega
      clear hy
      go_enter Tryz.func142, Tryz.ntmps142
      go_wp2
      go_ret
      exact ⟨rfl, rfl⟩
    · have hy : 0 < fitN m m z := by unfold fitN; rw [if_pos (by omega)]; omega
      rw [show decide (0 < wr) = true by simp; omega, show decide (rd = 0) = false by simp; omega, show decide (0 < fitN m m z) = true by simp; omega]
      have k1 : (0 : Int) < (wr : Int) := by omega
      have k4 : ((rd : Int) == 0) = false := by simp; omega
      have k5 : ¬ (m : Int) ≤ 512 := by omega
      have k7 : (512 : Int) < (m : Int) := by omega
      have k6 : (0 : Int) < 4096 - (z : Int) := by omega
      clear hy
      go_enter Tryz.func142, Tryz.ntmps142
      go_wp2
      go_ret
      exact ⟨ret_bool (by simp; omega), rfl⟩
    · have hy : fitN m m 4096 = 0 := by unfold fitN; rw [if_pos (by omega)]; omega
      rw [show decide (0 < wr) = true by simp; omega, show decide (rd = 0) = false by simp; omega, show decide (0 < fitN m m 4096) = false by rw [hy]; rfl]
      have k1 : (0 : Int) < (wr : Int) := by omega
      have k4 : ((rd : Int) == 0) = false := by simp; omega
      have k5 : ¬ (m : Int) ≤ 512 := by omega
      have k7 : (512 : Int) < (m : Int) := by omega
      clear hy
      go_enter Tryz.func142, Tryz.ntmps142
      go_wp2
      go_ret
      exact ⟨rfl, rfl⟩
end Go.Proofs.YtkkicbhmcjbmbaaGreat

/- The reference's pipe: Read. -/
namespace Go.Proofs.YtkkicbhmcjbmbaaGreat
open Go.RowKit

theorem inN_no {n : Int} (h : inN n = false) : n < 1 ∨ (1 ≤ n ∧ 1048576 < n) := by
  simp only [inN, Bool.and_eq_false_iff, decide_eq_false_iff_not] at h
  omega

/-- What a read of the reference's pipe answers, and leaves. -/
def RRead (w : World) (B t : Nat) (va : Value) (rd wr : Nat) (E : Int) (Y q' : List UInt8) (e : Ending) (w' : World) : Prop :=
  ∃ v a' c', e = .returned (.tuple #[v, .int .i64 E]) ∧ Bys w' v Y ∧ RP w' B t a' c' q' rd wr ∧ Turned (fun k => k = t) w w' ∧ ∀ b, (Value.slice a' q'.length c').ownBlock = some b → va.ownBlock = some b

set_option maxRecDepth 100000 in
set_option maxHeartbeats 1000000 in
theorem rread_ok (n : Nat) (B t : Nat) (a : Option Addr) (c : Nat) (q : List UInt8) (rd wr : Nat) (w : World) (h : RP w B t a c q rd wr) (hn1 : 1 ≤ n) (hn : n ≤ 1048576) (hr : 0 < rd) (hb : ¬ (q.length = 0 ∧ 0 < wr)) :
    Calls Tryz.prog 140 #[.pointer (some ⟨t, 0, none⟩), .int .i64 n] w (RRead w B t (.slice a q.length c) rd wr 0 (q.take n) (q.drop n)) := by
  have HP := hide h
  have h1 := h.c0
  have h2 := h.c1
  have h3 := h.c2
  have h4 := h.soft 0
  have hcap := h.cap
  have hlq := h.lq
  have had := h.ad
  clear h
  have d1 : ¬ (n : Int) < 1 := by omega
  have d2 : ¬ (1048576 : Int) < (n : Int) := by omega
  have d3 : ((rd : Int) == 0) = false := by simp; omega
  rcases had with ⟨rfl, rfl, rfl⟩ | ⟨b, off, rfl, hbt, hBb, hbl⟩
  · obtain rfl : wr = 0 := by simp at hb; omega
    have HP2 := hide (HP.out.set 0 (.slice none 0 0) (a' := none) (c' := 0) (q' := []) (rd' := rd) (wr' := 0) rfl HP.out.bys HP.out.cap HP.out.lq HP.out.lr HP.out.lw (.inl ⟨rfl, rfl, rfl⟩))
    simp only [List.length_nil] at h1
    have d4 : (0 : Int) < (n : Int) := by omega
    rw [List.take_nil, List.drop_nil, List.length_nil]
    have HF : Hid (∀ w' e, e = .returned (.tuple #[.slice none 0 0, .int .i64 0]) → w' = w.setCell ⟨t, 0, none⟩ (.slice none 0 0) → RRead w B t (.slice none 0 0) rd 0 0 [] [] e w') := hide fun w' e h5 h6 => by
      subst h6
      exact ⟨_, none, 0, h5, .inl ⟨rfl, rfl⟩, HP2.out, (Turned.refl _ _).set (.inl rfl), fun b e => e⟩
    go_enter Tryz.func140, Tryz.ntmps140
    go_wp2
    go_ret2
    exact HF.out _ _ rfl rfl
  · rcases (show (q.length = 0 ∧ wr = 0) ∨ 0 < q.length by omega) with ⟨hq0, rfl⟩ | hq0
    · obtain rfl : q = [] := List.length_eq_zero_iff.1 hq0
      rcases (show c = 0 ∨ 0 < c by omega) with rfl | hc0
      case' inl => have d6 : (0 : Int) ≤ 0 := by omega
      case' inr => have d6 : ¬ c = 0 := by omega
      all_goals
        simp only [List.length_nil] at h1
        have d4 : (0 : Int) < (n : Int) := by omega
        rw [List.take_nil, List.drop_nil, List.length_nil]
        go_enter Tryz.func140, Tryz.ntmps140
        go_wp2
        go_ret2
        refine ⟨_, some ⟨b, off, none⟩, _, rfl, .inr (.inl ⟨_, _, rfl, rfl⟩), ?_, (Turned.refl _ _).set (.inl rfl), fun b e => e⟩
        exact HP.out.set 0 _ rfl (.inr (.inl ⟨_, _, rfl, rfl⟩)) (by simp) (by simp) HP.out.lr HP.out.lw (.inr ⟨b, off, rfl, hbt, hBb, hbl⟩)
    · have d5 : ((q.length : Int) == 0) = false := by rw [beq_eq_false_iff_ne]; omega
      by_cases hnq : n < q.length
      · have d4 : ¬ (q.length : Int) < (n : Int) := by omega
        have d6 : (n : Int) ≤ (c : Int) := by omega
        have d7 : (n : Int) ≤ (q.length : Int) := by omega
        have d8 : ¬ c = n := by omega
        have htl : (q.take n).length = n := by simp; omega
        have hdl : (q.drop n).length = q.length - n := by simp
        have HB1 : Hid (Bys w (.slice (some ⟨b, off, none⟩) n c) (q.take n)) := hide (by simpa using bys_cut HP.out.bys 0 n c (by omega))
        have HB2 : Hid (Bys w (.slice (some ⟨b, off + n, none⟩) (q.drop n).length (c - n)) (q.drop n)) := hide (by
          have := bys_cut HP.out.bys n (q.length - n) (c - n) (by omega)
          rw [List.take_of_length_le (by simp)] at this
          rw [hdl]; exact this)
        have HP2 := hide (HP.out.set 0 (.slice (some ⟨b, off + n, none⟩) (q.length - n) (c - n)) (a' := some ⟨b, off + n, none⟩) (c' := c - n) (q' := q.drop n) (rd' := rd) (wr' := wr) (by rw [hdl]; rfl) HB2.out (by omega) (by omega) HP.out.lr HP.out.lw (.inr ⟨b, off + n, rfl, hbt, hBb, hbl⟩))
        have HF : Hid (∀ w' e, e = .returned (.tuple #[.slice (some ⟨b, off, none⟩) n c, .int .i64 0]) → w' = w.setCell ⟨t, 0, none⟩ (.slice (some ⟨b, off + n, none⟩) (q.length - n) (c - n)) → RRead w B t (.slice (some ⟨b, off, none⟩) q.length c) rd wr 0 (q.take n) (q.drop n) e w') := hide fun w' e h5 h6 => by
          subst h6
          refine ⟨_, _, _, h5, HB1.out.keep fun k hk _ => Below.heap_setCell _ _ _ _ ?_, HP2.out, (Turned.refl _ _).set (.inl rfl), fun b e => e⟩
          obtain rfl : b = k := by simpa [Value.ownBlock] using hk
          exact hbt
        clear HB1 HB2 HP2 htl hdl
        go_enter Tryz.func140, Tryz.ntmps140
        go_wp2
        go_ret2
        exact HF.out _ _ rfl rfl
      · rw [List.take_of_length_le (by omega), List.drop_eq_nil_of_le (by omega)]
        have d9 : (q.length : Int) ≤ (c : Int) := by omega
        have HF : Hid (∀ a' c' w' e, a' = some ⟨b, off, none⟩ ∨ a' = some ⟨b, off + q.length, none⟩ → e = .returned (.tuple #[.slice (some ⟨b, off, none⟩) q.length c, .int .i64 0]) → w' = w.setCell ⟨t, 0, none⟩ (.slice a' 0 c') → RRead w B t (.slice (some ⟨b, off, none⟩) q.length c) rd wr 0 q [] e w') := hide fun a' c' w' e h5 h6 h7 => by
          subst h7
          have h8 : ∃ o', a' = some ⟨b, o', none⟩ := by rcases h5 with h5 | h5 <;> exact ⟨_, h5⟩
          obtain ⟨o', rfl⟩ := h8
          refine ⟨_, _, c', h6, HP.out.bys.keep fun k hk _ => Below.heap_setCell _ _ _ _ ?_, HP.out.set 0 _ rfl (.inr (.inl ⟨_, _, rfl, rfl⟩)) (by simp) (by simp) HP.out.lr HP.out.lw (.inr ⟨b, o', rfl, hbt, hBb, hbl⟩), (Turned.refl _ _).set (.inl rfl), fun b e => e⟩
          obtain rfl : b = k := by simpa [Value.ownBlock] using hk
          exact hbt
        rcases (show q.length < n ∨ n = q.length by omega) with hlt | rfl
        case' inl => have d4 : (q.length : Int) < (n : Int) := by omega
        case' inr => have d4 : ¬ (q.length : Int) < (q.length : Int) := by omega
        all_goals
          rcases (show c = q.length ∨ q.length < c by omega) with rfl | hc
          · go_enter Tryz.func140, Tryz.ntmps140
            go_wp2
            go_ret2
            exact HF.out _ _ _ _ (.inl rfl) rfl rfl
          · have d8 : ¬ c = q.length := by omega
            go_enter Tryz.func140, Tryz.ntmps140
            go_wp2
            go_ret2
            exact HF.out _ _ _ _ (.inr rfl) rfl rfl

set_option maxRecDepth 100000 in
set_option maxHeartbeats 1000000 in
theorem Kp_rread_any (n : Int) (B t : Nat) (a : Option Addr) (c : Nat) (q : List UInt8) (rd wr : Nat) (w : World) (h : RP w B t a c q rd wr) :
    Calls Tryz.prog 140 #[.pointer (some ⟨t, 0, none⟩), .int .i64 n] w (RRead w B t (.slice a q.length c) rd wr (Kp_rdE n q.length rd wr) (rdB n q rd wr) (rdQ n q rd wr)) := by
  have HP := hide h
  have h1 := h.c0
  have h2 := h.c1
  have h3 := h.c2
  unfold rdB rdQ
  by_cases hi : inN n = false
  · have he : Kp_rdE n q.length rd wr = 4 := by rw [Kp_rdE, if_pos hi]
    rw [he, if_neg (by decide), if_neg (by decide)]
    have hn := inN_no hi
    have HF : Hid (RRead w B t (.slice a q.length c) rd wr 4 [] q (.returned (.tuple #[.slice none 0 0, .int .i64 4])) w) := hide ⟨_, a, c, rfl, .inl ⟨rfl, rfl⟩, h, Turned.refl _ _, fun b e => e⟩
    clear h he hi
    rcases hn with hn | ⟨hn, hn2⟩
    · go_enter Tryz.func140, Tryz.ntmps140
      go_wp2
      go_ret2
      exact HF.out
    · have d1 : ¬ n < 1 := by omega
      go_enter Tryz.func140, Tryz.ntmps140
      go_wp2
      go_ret2
      exact HF.out
  · have hi' : inN n = true := by simpa using hi
    obtain ⟨m, rfl, hm1, hm2⟩ := inN_nat hi'
    simp only [Int.toNat_natCast]
    have d1 : ¬ (m : Int) < 1 := by omega
    have d2 : ¬ (1048576 : Int) < (m : Int) := by omega
    by_cases hr : rd = 0
    · subst hr
      have he : Kp_rdE m q.length 0 wr = 51 := by rw [Kp_rdE, if_neg hi, if_pos rfl]
      rw [he, if_neg (by decide), if_neg (by decide)]
      have HF : Hid (RRead w B t (.slice a q.length c) 0 wr 51 [] q (.returned (.tuple #[.slice none 0 0, .int .i64 51])) w) := hide ⟨_, a, c, rfl, .inl ⟨rfl, rfl⟩, h, Turned.refl _ _, fun b e => e⟩
      clear h he hi hi'
      go_enter Tryz.func140, Tryz.ntmps140
      go_wp2
      go_ret2
      exact HF.out
    · by_cases hb : q.length = 0 ∧ 0 < wr
      · have he : Kp_rdE m q.length rd wr = 52 := by rw [Kp_rdE, if_neg hi, if_neg hr, if_pos (decide_eq_true hb)]
        rw [he, if_neg (by decide), if_neg (by decide)]
        have HF : Hid (RRead w B t (.slice a q.length c) rd wr 52 [] q (.returned (.tuple #[.slice none 0 0, .int .i64 52])) w) := hide ⟨_, a, c, rfl, .inl ⟨rfl, rfl⟩, h, Turned.refl _ _, fun b e => e⟩
        have d3 : ((rd : Int) == 0) = false := by simp; omega
        obtain ⟨hq0, hw⟩ := hb
        have d4 : (0 : Int) < (wr : Int) := by omega
        have HQ := hide hq0
        rw [hq0] at h1
        clear h he hi hi' hq0
        go_enter Tryz.func140, Tryz.ntmps140
        go_wp2
        go_ret2
        exact HF.out
      · have he : Kp_rdE m q.length rd wr = 0 := by rw [Kp_rdE, if_neg hi, if_neg hr, if_neg (by simpa using hb)]
        rw [he, if_pos rfl, if_pos rfl]
        exact rread_ok m B t a c q rd wr w h hm1 hm2 (by omega) hb
end Go.Proofs.YtkkicbhmcjbmbaaGreat

/- The reference's pipe: Write. -/
namespace Go.Proofs.YtkkicbhmcjbmbaaGreat
open Go.RowKit

/-- What a write to the reference's pipe answers, and leaves. -/
def RWrite (w : World) (B t : Nat) (va : Value) (rd wr : Nat) (N : Nat) (E : Int) (q' : List UInt8) (e : Ending) (w' : World) : Prop :=
  ∃ a' c', e = .returned (.tuple #[.int .i64 (N : Int), .int .i64 E]) ∧ RP w' B t a' c' q' rd wr ∧ Turned (fun k => k = t) w w' ∧ ∀ b, (Value.slice a' q'.length c').ownBlock = some b → va.ownBlock = some b ∨ w.heap.size ≤ b

theorem rwrite_facts {w : World} {B t : Nat} {a : Option Addr} {c : Nat} {q : List UInt8} {rd wr : Nat} (h : RP w B t a c q rd wr) (hB : B ≤ w.heap.size) {a1 : Option Addr} {N cx : Nat} {X : List UInt8} (hx : Bys w (.slice a1 N cx) X) (hXl : X.length = N) (hN : 1 ≤ N) (hfit : q.length + N ≤ 4096) :
    ∃ s1 w2 sa sc w3, Hid ((Builtin.append_ #[40, 40] 40 #[.slice none 0 0, .slice a q.length c]).run Tryz.prog w.drew = .ok s1 w2) ∧ Hid ((Builtin.append_ #[40, 40] 40 #[s1, .slice a1 N cx]).run Tryz.prog w2 = .ok (.slice sa (q.length + N) sc) w3) ∧
      w3.cell? ⟨t, 0, none⟩ = some (.slice a q.length c) ∧ w3.frozen? ⟨t, 0, none⟩ = false ∧ Hid (∀ w' e E, w' = w3.setCell ⟨t, 0, none⟩ (.slice sa (q.length + N) sc) → e = .returned (.tuple #[.int .i64 (N : Int), .int .i64 E]) → RWrite w B t (.slice a q.length c) rd wr N E (q ++ X) e w') := by
  obtain ⟨s1, w2, hr1, HO1, hg1, hb1⟩ := run_append_bytes w.drew 40 w.heap.size (.slice none 0 0) (.slice a q.length c) [] q (World.ownsRow_nil _ _ _ _) (h.bys.below (Below.refl _ w).drew) (by have := h.lq; simp; omega) (Nat.le_refl _)
  rw [List.nil_append] at HO1
  have hB2 : Below w.heap.size w w2 := (Below.refl _ w).drew.grown hg1 (Nat.le_refl _) (fun j e => by cases e)
  have hz2 := hB2.size
  obtain ⟨s2, w3, hr2, HO2, hg2, hb2⟩ := run_append_bytes w2 40 w.heap.size s1 (.slice a1 N cx) q X HO1.out (hx.below hB2) (by have := h.lq; omega) hz2
  have hB3 : Below w.heap.size w w3 := hB2.grown hg2 hz2 (fun j e => (HO1.out.lt j e).1)
  have hql : (q ++ X).length = q.length + N := by rw [List.length_append, hXl]
  obtain ⟨sa, sc, rfl⟩ := owns_slice HO2.out
  have hcap := owns_cap HO2.out
  have hO2 := HO2.out
  have hP3 := h.below hB3
  have htl := h.lt
  refine ⟨s1, w2, sa, sc, w3, hr1, by rw [← hql]; exact hr2, hP3.c0, hP3.soft 0, fun w' e E hw he => ?_⟩
  subst hw
  have hblk : ∀ b, (Value.slice sa (q ++ X).length sc).ownBlock = some b → w.heap.size ≤ b ∧ b < w3.heap.size := fun b e => hO2.lt b e
  refine ⟨sa, sc, he, hP3.set 0 _ (by rw [hql]; rfl) (Bys.of_owns hO2) hcap (by omega) h.lr h.lw ?_, (Turned.of_below (S := fun k => k = t) hB3).set (.inl rfl), fun b e => .inr (hblk b e).1⟩
  right
  rcases hO2.2 with ⟨h0, h1⟩ | ⟨g, c, cur, h1, h2, h3, _⟩
  · omega
  · cases h1
    have := hblk g rfl
    exact ⟨g, 0, rfl, by omega, by omega, by omega⟩

set_option maxRecDepth 100000 in
set_option maxHeartbeats 4000000 in
theorem Kp_rwrite_any (most : Int) (B t : Nat) (a : Option Addr) (c : Nat) (q x : List UInt8) (a1 : Option Addr) (n cx : Nat) (rd wr : Nat) (w : World) (h : RP w B t a c q rd wr) (hB : B ≤ w.heap.size) (hx : Bys w (.slice a1 n cx) x) (hcx : x.length ≤ cx) (hxs : x.length ≤ 140737488351232) :
    Calls Tryz.prog 144 #[.pointer (some ⟨t, 0, none⟩), .slice a1 n cx, .int .i64 most] w (RWrite w B t (.slice a q.length c) rd wr (wrN x.length most q.length rd wr) (Kp_wrE x.length most q.length rd wr) (q ++ x.take (wrN x.length most q.length rd wr))) := by
  obtain ⟨a2, c2, he1, -⟩ := bys_form hx
  obtain ⟨rfl, rfl, rfl⟩ : a1 = a2 ∧ n = x.length ∧ cx = c2 := by simpa using he1
  clear he1
  have HP := hide h
  have HX := hide hx
  have h1 := h.c0
  have h2 := h.c1
  have h3 := h.c2
  have hlq := h.lq
  have HF : Hid (∀ E, RWrite w B t (.slice a q.length c) rd wr 0 E q (.returned (.tuple #[.int .i64 ((0 : Nat) : Int), .int .i64 E])) w) := hide fun E => ⟨a, c, rfl, h, Turned.refl _ _, fun b e => .inl e⟩
  clear h hx
  unfold wrN Kp_wrE
  by_cases hr : refE x.length most rd wr = 0
  · obtain ⟨hl, hi, hw0, hr0⟩ := refE_zero hr
    obtain ⟨m, rfl, hm1, hm2⟩ := inN_nat hi
    rw [if_pos hr, if_pos hr]
    simp only [Int.toNat_natCast]
    clear hr hi
    have d0 : ¬ (1048576 : Int) < (x.length : Int) := by omega
    have d1 : ¬ (m : Int) < 1 := by omega
    have d2 : ¬ (1048576 : Int) < (m : Int) := by omega
    have d3 : ((wr : Int) == 0) = false := by simp; omega
    have d4 : ((rd : Int) == 0) = false := by simp; omega
    obtain ⟨room, hroom⟩ : ∃ room, room = 4096 - q.length := ⟨_, rfl⟩
    have hrv : (4096 : Int) - (q.length : Int) = (room : Int) := by omega
    by_cases hx0 : x.length = 0
    · obtain rfl : x = [] := List.length_eq_zero_iff.1 hx0
      rw [if_pos hx0]
      have hf : fitN ([] : List UInt8).length m q.length = 0 := by simp [fitN]
      rw [hf, List.take_zero, List.append_nil]
      simp only [List.length_nil] at *
      go_enter Tryz.func144, Tryz.ntmps144
      go_wp2
      go_ret2
      exact HF.out 0
    · rw [if_neg hx0]
      have d5 : ((x.length : Int) == 0) = false := by rw [beq_eq_false_iff_ne]; omega
      rcases (show (x.length ≤ 512 ∧ room < x.length) ∨ (512 < x.length ∧ room = 0) ∨ (0 < room ∧ x.length ≤ 512 ∧ x.length ≤ room) ∨ (0 < room ∧ 512 < x.length) by omega) with ⟨hs, hb⟩ | ⟨hs, hb⟩ | ⟨hr1, hs, hb⟩ | ⟨hr1, hs⟩
      · have hf : fitN x.length m q.length = 0 := by unfold fitN; rw [if_neg (by omega), if_pos (by omega)]
        rw [if_pos hf, hf, List.take_zero, List.append_nil]
        have d6 : (x.length : Int) ≤ 512 := by omega
        have d7 : (room : Int) < (x.length : Int) := by omega
        clear hf hroom
        go_enter Tryz.func144, Tryz.ntmps144
        go_wp2
        go_ret2
        exact HF.out 52
      · have hf : fitN x.length m q.length = 0 := by unfold fitN; rw [if_pos (by omega)]; omega
        rw [if_pos hf, hf, List.take_zero, List.append_nil]
        subst hb
        have d6 : ¬ (x.length : Int) ≤ 512 := by omega
        clear hf hroom
        go_enter Tryz.func144, Tryz.ntmps144
        go_wp2
        go_ret2
        exact HF.out 52
      · have hf : fitN x.length m q.length = x.length := by unfold fitN; rw [if_neg (by omega), if_neg (by omega)]
        rw [if_neg (by omega), hf, List.take_length]
        have d6 : (x.length : Int) ≤ 512 := by omega
        have d7 : ¬ (room : Int) < (x.length : Int) := by omega
        have d8 : ((room : Int) == 0) = false := by rw [beq_eq_false_iff_ne]; omega
        obtain ⟨-, b1, off1, rfl, -, -⟩ := bys_block HX.out (by omega)
        obtain ⟨s1, w2, sa, sc, w3, HR1, HR2, c3, f3, HFin⟩ := rwrite_facts HP.out hB HX.out rfl (by omega) (by omega)
        have d9 : (x.length : Int) ≤ (cx : Int) := by omega
        clear hf hroom HF
        all_goals
          go_enter Tryz.func144, Tryz.ntmps144
          go_wp2_with fail
          go_region_law (first | (refine step_append_run _ (by rfl) _ _ _ _ (by rfl) _ _ (by rfl) (by rfl) _ _ HR1.out ?_) | (refine step_append_run _ (by rfl) _ _ _ _ (by rfl) _ _ (by rfl) (by rfl) _ _ HR2.out ?_))
          all_goals
            go_wp2
            go_ret2
            exact HFin.out _ _ 0 rfl rfl
      · have hfe : fitN x.length m q.length = min x.length (min m room) := by unfold fitN; rw [if_pos (by omega), hroom]
        rw [if_neg (by omega), hfe]
        have d6 : ¬ (x.length : Int) ≤ 512 := by omega
        have d8 : ((room : Int) == 0) = false := by rw [beq_eq_false_iff_ne]; omega
        obtain ⟨-, b1, off1, rfl, -, -⟩ := bys_block HX.out (by omega)
        obtain ⟨N, hN⟩ : ∃ N, N = min x.length (min m room) := ⟨_, rfl⟩
        rw [← hN]
        have HXc : Hid (Bys w (.slice (some ⟨b1, off1, none⟩) N cx) (x.take N)) := hide (by simpa using bys_cut HX.out 0 N cx (by omega))
        obtain ⟨s1, w2, sa, sc, w3, HR1, HR2, c3, f3, HFin⟩ := rwrite_facts HP.out hB HXc.out (by simp; omega) (by omega) (by omega)
        have d9 : (N : Int) ≤ (cx : Int) := by omega
        clear hfe hroom HF HXc
        have hcs : (N = x.length ∧ x.length ≤ room ∧ x.length ≤ m) ∨ (N = room ∧ room < x.length ∧ room ≤ m) ∨ (N = m ∧ room < x.length ∧ m < room) ∨ (N = m ∧ x.length ≤ room ∧ m < x.length) := by omega
        clear hN
        rcases hcs with ⟨hNe, e1, e2⟩ | ⟨hNe, e1, e2⟩ | ⟨hNe, e1, e2⟩ | ⟨hNe, e1, e2⟩
        all_goals
          first
            | (have g1 : ¬ (room : Int) < (x.length : Int) := by omega
               have g2 : ¬ (m : Int) < (x.length : Int) := by omega
               subst hNe)
            | (have g1 : (room : Int) < (x.length : Int) := by omega
               have g2 : ¬ (m : Int) < (room : Int) := by omega
               subst hNe)
            | (have g1 : (room : Int) < (x.length : Int) := by omega
               have g2 : (m : Int) < (room : Int) := by omega
               subst hNe)
            | (have g1 : ¬ (room : Int) < (x.length : Int) := by omega
               have g2 : (m : Int) < (x.length : Int) := by omega
               subst hNe)
          go_enter Tryz.func144, Tryz.ntmps144
          go_wp2_with fail
          go_region_law (first | (refine step_append_run _ (by rfl) _ _ _ _ (by rfl) _ _ (by rfl) (by rfl) _ _ HR1.out ?_) | (refine step_append_run _ (by rfl) _ _ _ _ (by rfl) _ _ (by rfl) (by rfl) _ _ HR2.out ?_))
          all_goals
            go_wp2
            go_ret2
            exact HFin.out _ _ 0 rfl rfl
  · rw [if_neg hr, if_neg hr, List.take_zero, List.append_nil]
    unfold refE
    by_cases hl : 1048576 < x.length
    · rw [if_pos hl]
      have d0 : (1048576 : Int) < (x.length : Int) := by omega
      clear hr
      go_enter Tryz.func144, Tryz.ntmps144
      go_wp2
      go_ret2
      exact HF.out 5
    · rw [if_neg hl]
      have d0 : ¬ (1048576 : Int) < (x.length : Int) := by omega
      by_cases hi : inN most = false
      · rw [if_pos hi]
        have hn := inN_no hi
        clear hr hi
        rcases hn with hn | ⟨hn, hn2⟩
        · go_enter Tryz.func144, Tryz.ntmps144
          go_wp2
          go_ret2
          exact HF.out 4
        · have d1 : ¬ most < 1 := by omega
          go_enter Tryz.func144, Tryz.ntmps144
          go_wp2
          go_ret2
          exact HF.out 4
      · rw [if_neg hi]
        have hi' := inN_true (by simpa using hi : inN most = true)
        have d1 : ¬ most < 1 := by omega
        have d2 : ¬ 1048576 < most := by omega
        by_cases hw : wr = 0
        · subst hw
          rw [if_pos rfl]
          clear hr hi
          go_enter Tryz.func144, Tryz.ntmps144
          go_wp2
          go_ret2
          exact HF.out 51
        · rw [if_neg hw]
          have d3 : ((wr : Int) == 0) = false := by simp; omega
          by_cases hr0 : rd = 0
          · subst hr0
            rw [if_pos rfl]
            clear hr hi
            go_enter Tryz.func144, Tryz.ntmps144
            go_wp2
            go_ret2
            exact HF.out 53
          · exfalso
            apply hr
            unfold refE
            rw [if_neg hl, if_neg hi, if_neg hw, if_neg hr0]
end Go.Proofs.YtkkicbhmcjbmbaaGreat

/- The reference's things: files, terminals and pipes in one notion, each within a set of blocks of its own. -/
namespace Go.Proofs.YtkkicbhmcjbmbaaGreat
open Go.RowKit

/-- The reference's object at block p, all of whose blocks are O's. -/
def RObj (W : World) (O : Nat → Prop) (p : Nat) : Ob → Prop
  | .file b => ∃ u B, RFileAt W B p u b ∧ B ≤ W.heap.size ∧ O p ∧ ∀ k, u.ownBlock = some k → O k
  | .term ls scr => ∃ la lc s B O1, Term W B p 0 O1 la lc s ls scr ∧ ∀ k, O1 k → O k
  | .pipe q rd wt => ∃ a c B, RP W B p a c q rd wt ∧ B ≤ W.heap.size ∧ O p ∧ ∀ k, (Value.slice a q.length c).ownBlock = some k → O k
theorem RObj.at {W : World} {O : Nat → Prop} {p : Nat} {ob : Ob} (h : RObj W O p ob) : O p ∧ p < W.heap.size := by
  cases ob with
  | file b => obtain ⟨u, B, h1, _, h2, _⟩ := h; exact ⟨h2, h1.lt⟩
  | term ls scr => obtain ⟨la, lc, s, B, O1, h1, h2⟩ := h; exact ⟨h2 _ h1.ot, (h1.lt _ h1.ot).2⟩
  | pipe q rd wt => obtain ⟨a, c, B, h1, _, h2, _⟩ := h; exact ⟨h2, h1.lt⟩
theorem RObj.mono {W : World} {O O' : Nat → Prop} {p : Nat} {ob : Ob} (h : RObj W O p ob) (hO : ∀ k, O k → O' k) : RObj W O' p ob := by
  cases ob with
  | file b => obtain ⟨u, B, h1, h2, h3, h4⟩ := h; exact ⟨u, B, h1, h2, hO _ h3, fun k e => hO _ (h4 k e)⟩
  | term ls scr => obtain ⟨la, lc, s, B, O1, h1, h2⟩ := h; exact ⟨la, lc, s, B, O1, h1, fun k e => hO _ (h2 k e)⟩
  | pipe q rd wt => obtain ⟨a, c, B, h1, h2, h3, h4⟩ := h; exact ⟨a, c, B, h1, h2, hO _ h3, fun k e => hO _ (h4 k e)⟩
theorem RObj.keep {W W' : World} {O : Nat → Prop} {p : Nat} {ob : Ob} (h : RObj W O p ob) (hk : ∀ k, O k → k < W.heap.size → W'.heap[k]? = W.heap[k]?) (hs : W.heap.size ≤ W'.heap.size) : RObj W' O p ob := by
  cases ob with
  | file b =>
    obtain ⟨u, B, h1, h2, h3, h4⟩ := h
    have hp := hk p h3 h1.lt
    exact ⟨u, B, ⟨(World.cell?_of_block (w := W) hp).trans h1.data, (World.frozen?_of_block (w := W) hp).trans h1.soft, owns_keep h1.row fun k e => hk k (h4 k e) (h1.row.lt k e).2, h1.apart⟩, Nat.le_trans h2 hs, h3, h4⟩
  | term ls scr =>
    obtain ⟨la, lc, s, B, O1, h1, h2⟩ := h
    exact ⟨la, lc, s, B, O1, h1.keep (fun k e => hk k (h2 k e) (h1.lt k e).2) hs, h2⟩
  | pipe q rd wt =>
    obtain ⟨a, c, B, h1, h2, h3, h4⟩ := h
    refine ⟨a, c, B, ⟨(hk p h3 h1.lt).trans h1.blk, h1.bys.keep fun k e hlt => hk k (h4 k e) hlt, h1.cap, h1.lq, h1.lr, h1.lw, ?_⟩, Nat.le_trans h2 hs, h3, h4⟩
    rcases h1.ad with h5 | ⟨b, off, h5, h6, h7, h8⟩
    · exact .inl h5
    · exact .inr ⟨b, off, h5, h6, h7, Nat.lt_of_lt_of_le h8 hs⟩
/-- What a call leaves of an object: new bytes, within its blocks and new ones; nothing else turns. -/
def ObjStep (w : World) (O : Nat → Prop) (p : Nat) (ob' : Ob) (w' : World) : Prop := ∃ O', RObj w' O' p ob' ∧ (∀ k, O' k → O k ∨ w.heap.size ≤ k) ∧ Turned O w w'
theorem ObjStep.same {w : World} {O : Nat → Prop} {p : Nat} {ob : Ob} (h : RObj w O p ob) : ObjStep w O p ob w := ⟨O, h, fun _ e => .inl e, Turned.refl _ _⟩

theorem ob_fwrite (O : Nat → Prop) (p : Nat) (b x : List UInt8) (off : Int) (vx : Value) (w : World) (h : RObj w O p (.file b)) (hl : b.length ≤ 1048576) (hx : Bys w vx x) (hd : 0 < x.length → ∀ k, vx.ownBlock = some k → ¬ O k) :
    Calls Tryz.prog 146 #[.pointer (some ⟨p, 0, none⟩), .int .i64 off, vx] w fun e w' => e = .returned (.int .i64 (Fi_wrE off x.length)) ∧ ObjStep w O p (.file (wrL b off x)) w' := by
  obtain ⟨u, B, h1, h2, h3, h4⟩ := h
  refine (rwriteAt_any B p u b off vx x w h1 hx (fun h0 k e e' => hd h0 k e (h4 k e')) hl h2).mono ?_
  rintro e w' ⟨rfl, u', h5, h6, h7⟩
  refine ⟨rfl, fun k => O k ∨ u'.ownBlock = some k, ⟨u', B, h5, Nat.le_trans h2 h7.size, .inl h3, fun k e => .inr e⟩, fun k e => ?_, h7.mono fun k e => ?_⟩
  · rcases e with e | e
    · exact .inl e
    · exact (h6 k e).imp (h4 k) id
  · rcases e with rfl | e
    · exact h3
    · exact h4 k e
theorem ob_tread (O : Nat → Prop) (p : Nat) (ls : List (List UInt8)) (scr : List UInt8) (n : Int) (w : World) (h : RObj w O p (.term ls scr)) (hok : (Ob.term ls scr).ok) :
    Calls Tryz.prog 139 #[.pointer (some ⟨p, 0, none⟩), .int .i64 n] w fun e w' => ∃ v, e = .returned (.tuple #[v, .int .i64 (Te_rdE n)]) ∧ Bys w' v (rdH ls n) ∧ ObjStep w O p (.term (rdR ls n) scr) w' := by
  obtain ⟨la, lc, s, B, O1, h1, h2⟩ := h
  refine (Te_rread_any B p O1 la lc s ls scr n w h1 hok.1 hok.2.1).mono ?_
  rintro e w' ⟨v, rfl, h3, ⟨la', lc', h4⟩, h5⟩
  exact ⟨v, rfl, h3, O, ⟨la', lc', s, B, O1, h4, h2⟩, fun _ e => .inl e, h5.mono h2⟩
theorem ob_twrite (O : Nat → Prop) (p : Nat) (ls : List (List UInt8)) (scr x : List UInt8) (vx : Value) (w : World) (h : RObj w O p (.term ls scr)) (hok : (Ob.term ls scr).ok) (hx : Bys w vx x) (hxs : x.length ≤ 140737488351232) :
    Calls Tryz.prog 145 #[.pointer (some ⟨p, 0, none⟩), vx] w fun e w' => e = .returned (.int .i64 (Te_wrE scr.length x.length)) ∧ ObjStep w O p (.term ls (wrS scr x)) w' := by
  obtain ⟨la, lc, s, B, O1, h1, h2⟩ := h
  refine (Te_rwrite_any B p O1 la lc s ls scr vx x w h1 hx hok.2.2 hxs).mono ?_
  rintro e w' ⟨rfl, O2, s', h3, h4, h5⟩
  refine ⟨rfl, fun k => O k ∨ O2 k, ⟨la, lc, s', B, O2, h3, fun k e => .inr e⟩, fun k e => ?_, h5.mono h2⟩
  rcases e with e | e
  · exact .inl e
  · exact (h4 k e).imp (h2 k) id
theorem ob_pread (O : Nat → Prop) (p : Nat) (q : List UInt8) (rd wt : Nat) (n : Int) (w : World) (h : RObj w O p (.pipe q rd wt)) :
    Calls Tryz.prog 140 #[.pointer (some ⟨p, 0, none⟩), .int .i64 n] w fun e w' => ∃ v, e = .returned (.tuple #[v, .int .i64 (Kp_rdE n q.length rd wt)]) ∧ Bys w' v (rdB n q rd wt) ∧ ObjStep w O p (.pipe (rdQ n q rd wt) rd wt) w' := by
  obtain ⟨a, c, B, h1, h2, h3, h4⟩ := h
  refine (Kp_rread_any n B p a c q rd wt w h1).mono ?_
  rintro e w' ⟨v, a', c', rfl, h5, h6, h7, h8⟩
  exact ⟨v, rfl, h5, O, ⟨a', c', B, h6, Nat.le_trans h2 h7.size, h3, fun k e => h4 k (h8 k e)⟩, fun _ e => .inl e, h7.mono fun k e => by rw [e]; exact h3⟩
theorem ob_pwrite (O : Nat → Prop) (p : Nat) (q x : List UInt8) (rd wt : Nat) (most : Int) (a1 : Option Addr) (n cx : Nat) (w : World) (h : RObj w O p (.pipe q rd wt)) (hx : Bys w (.slice a1 n cx) x) (hcx : x.length ≤ cx) (hxs : x.length ≤ 140737488351232) :
    Calls Tryz.prog 144 #[.pointer (some ⟨p, 0, none⟩), .slice a1 n cx, .int .i64 most] w fun e w' => e = .returned (.tuple #[.int .i64 (wrN x.length most q.length rd wt : Nat), .int .i64 (Kp_wrE x.length most q.length rd wt)]) ∧ ObjStep w O p (.pipe (q ++ x.take (wrN x.length most q.length rd wt)) rd wt) w' := by
  obtain ⟨a, c, B, h1, h2, h3, h4⟩ := h
  refine (Kp_rwrite_any most B p a c q x a1 n cx rd wt w h1 h2 hx hcx hxs).mono ?_
  rintro e w' ⟨a', c', rfl, h6, h7, h8⟩
  refine ⟨rfl, fun k => O k ∨ (Value.slice a' (q ++ x.take (wrN x.length most q.length rd wt)).length c').ownBlock = some k, ⟨a', c', B, h6, Nat.le_trans h2 h7.size, .inl h3, fun k e => .inr e⟩, fun k e => ?_, h7.mono fun k e => by rw [e]; exact h3⟩
  rcases e with e | e
  · exact .inl e
  · exact (h8 k e).imp (h4 k) id
theorem ob_pleave (O : Nat → Prop) (p : Nat) (q : List UInt8) (rd wt : Nat) (x : Bool) (w : World) (h : RObj w O p (.pipe q rd wt)) :
    Calls Tryz.prog 152 #[.pointer (some ⟨p, 0, none⟩), .bool x] w fun e w' => e = .returned (.int .i64 (leaveE x rd wt)) ∧ ObjStep w O p (.pipe q (leaveR x rd wt) (leaveW x rd wt)) w' := by
  obtain ⟨a, c, B, h1, h2, h3, h4⟩ := h
  refine (rleave_any x B p a c q rd wt w h1).mono ?_
  rintro e w' ⟨rfl, h6, h7⟩
  exact ⟨rfl, O, ⟨a, c, B, h6, Nat.le_trans h2 h7.size, h3, h4⟩, fun _ e => .inl e, h7.mono fun k e => by rw [e]; exact h3⟩
theorem ob_pcanRead (O : Nat → Prop) (p : Nat) (q : List UInt8) (rd wt : Nat) (w : World) (h : RObj w O p (.pipe q rd wt)) :
    Calls Tryz.prog 137 #[.pointer (some ⟨p, 0, none⟩)] w fun e w' => e = .returned (.bool (canR q.length rd wt)) ∧ w' = w := by
  obtain ⟨a, c, B, h1, h2, h3, h4⟩ := h
  exact rcanRead_any B p a c q rd wt w h1
theorem ob_pcanWrite (O : Nat → Prop) (p : Nat) (q : List UInt8) (rd wt : Nat) (n : Int) (w : World) (h : RObj w O p (.pipe q rd wt)) :
    Calls Tryz.prog 142 #[.pointer (some ⟨p, 0, none⟩), .int .i64 n] w fun e w' => e = .returned (.bool (canW n q.length rd wt)) ∧ w' = w := by
  obtain ⟨a, c, B, h1, h2, h3, h4⟩ := h
  exact rcanWrite_any n B p a c q rd wt w h1
end Go.Proofs.YtkkicbhmcjbmbaaGreat

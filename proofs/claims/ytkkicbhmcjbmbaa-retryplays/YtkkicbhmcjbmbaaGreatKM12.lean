/- What the proof stands on, part 12: the contracts of the program's calls that it reaches. -/
import Derived.Test.YtkkicbhmcjbmbaaGreatKM11
/- CopyNamed, SameNamed. -/
namespace Go.Proofs.YtkkicbhmcjbmbaaGreat
open Go.RowKit

set_option maxRecDepth 100000 in
set_option maxHeartbeats 2000000 in
theorem copyNamed_any (v : Value) (l : List Nm) (w : World) (h : Nms w v l) (hs : l.length * 40 ≤ 140737488351232) (hs2 : ∀ j (hj : j < l.length), l[j].2.length ≤ 140737488351232) :
    Calls Tryz.prog 39 #[v] w fun e w' => ∃ v' us, e = .returned v' ∧ w'.ownsRow w.heap.size 93 2 v' l.length (ncs l us) ∧ LCells w' w.heap.size (l.map Prod.snd) us ∧ Below w.heap.size w w' := by
  have H0 := hide h
  obtain ⟨a1, c1, rfl⟩ := h.form
  have HS := hide hs2
  clear h hs2
  go_enter Tryz.func39, Tryz.ntmps39
  go_wp2
  go_loopw [3, 4] (fun ov i wr => ∃ (k : Nat) (us : List Value), k ≤ l.length ∧ i = .int .i64 k ∧ Hid (wr.ownsRow w.heap.size 93 2 ov k (ncs (l.take k) us)) ∧ Hid (LCells wr w.heap.size ((l.take k).map Prod.snd) us) ∧ Below w.heap.size w wr) (fun _ i _ => l.length - (intOf i).toNat)
  case atStart => exact ⟨0, [], Nat.zero_le _, rfl, World.ownsRow_nil _ _ _ _, ⟨rfl, (fun j hj => by simp at hj), (fun i j vi vj m _ h1 => by simp at h1)⟩, Below.refl _ _⟩
  case round =>
    obtain ⟨k, us, hk, rfl, HO, HL, hB⟩ := hrel
    obtain ⟨oa, oc, rfl⟩ := owns_slice HO.out
    by_cases hlt : k < l.length
    · obtain ⟨b, off, va, vc, rfl, hbl, q0, q1, hby, -⟩ := H0.out.at k hlt
      have hc0 := (hB.cell (p := ⟨b, off + k * 2, none⟩) hbl).trans q0
      have hc1 := (hB.cell (p := ⟨b, off + k * 2 + 1, none⟩) hbl).trans q1
      have hk1 : (0 : Int) ≤ (k : Int) := by omega
      have hk2 : (k : Int) < (l.length : Int) := by omega
      have HBy := hide hby
      have hl4 := HS.out k hlt
      have hsz := hB.size
      clear q0 q1 hby
      obtain ⟨p, hp⟩ : ∃ p, p = l[k] := ⟨_, rfl⟩
      rw [← hp] at hc0 hc1 HBy hl4
      have HPk := hide hp
      clear hp
      obtain ⟨nm, L⟩ := p
      simp only at hc0 hc1 HBy hl4
      have hul := HL.out.1
      simp only [List.length_map, List.length_take, Nat.min_eq_left hk] at hul
      go_wp2_with fail
      go_region_held3 (fun w' => w'.cell? ⟨b, off + k * 2, none⟩ = some (.string nm) ∧ w'.cell? ⟨b, off + k * 2 + 1, none⟩ = some (.slice va L.length vc))
        (first | exact K7 | exact Ka | exact K2 | go_keep)
        (first
          | (go_at_call 54; refine (copy_any _ L _ (HBy.out.below hB.drew) hl4).mono ?_; rintro e w2 ⟨u, rfl, hownu, hB2⟩; obtain ⟨ua, uc, rfl⟩ := owns_slice hownu; have hsd : wr.drew.heap.size = wr.heap.size := rfl; have hz2 : wr.heap.size ≤ w2.heap.size := hB2.size; have hB02 : Below w.heap.size w w2 := hB.drew.trans (hB2.mono (by omega)); have K2 : w2.cell? ⟨b, off + k * 2, none⟩ = some (.string nm) ∧ w2.cell? ⟨b, off + k * 2 + 1, none⟩ = some (.slice va L.length vc) := ⟨(hB2.cell (p := ⟨b, off + k * 2, none⟩) (by show b < wr.heap.size; omega)).trans hc0, (hB2.cell (p := ⟨b, off + k * 2 + 1, none⟩) (by show b < wr.heap.size; omega)).trans hc1⟩; have hBa : Below w2.heap.size w2 (w2.alloc (Obj.cells #[.string nm, .slice ua L.length uc] 93)) := (Below.refl _ _).alloc (Nat.le_refl _) _; have Ka : (w2.alloc (Obj.cells #[.string nm, .slice ua L.length uc] 93)).cell? ⟨b, off + k * 2, none⟩ = some (.string nm) ∧ (w2.alloc (Obj.cells #[.string nm, .slice ua L.length uc] 93)).cell? ⟨b, off + k * 2 + 1, none⟩ = some (.slice va L.length vc) := ⟨(hBa.cell (p := ⟨b, off + k * 2, none⟩) (by show b < _; omega)).trans K2.1, (hBa.cell (p := ⟨b, off + k * 2 + 1, none⟩) (by show b < _; omega)).trans K2.2⟩; have hB0a := hB02.trans (hBa.mono hB02.size); have hB2a := hB2.trans (hBa.mono hB2.size); have HOa := hide (owns_below (W := wr.drew) HO.out hB2a); have HLa := hide (LCells.below (W := wr.drew) HL.out hB2a); have HUa := hide (owns_below hownu hBa); have hcu0 : (w2.alloc (Obj.cells #[.string nm, .slice ua L.length uc] 93)).cell? ⟨w2.heap.size, 0, none⟩ = some (.string nm) := (by simp only [World.cell?, heap_alloc_new]; rfl); have hcu1 : (w2.alloc (Obj.cells #[.string nm, .slice ua L.length uc] 93)).cell? ⟨w2.heap.size, 1, none⟩ = some (.slice ua L.length uc) := (by simp only [World.cell?, heap_alloc_new]; rfl); have hza := size_new w2 (Obj.cells #[.string nm, .slice ua L.length uc] 93); obtain ⟨s', w7, hrun, HO7, hg7, hb7⟩ := run_append_named (w2.alloc (Obj.cells #[.string nm, .slice ua L.length uc] 93)) 22 w.heap.size _ k _ w2.heap.size 1 nm _ HOa.out hcu0 hcu1 rfl (by omega) (by omega); have HR := hide hrun; have HX := hide hownu; have K7 : w7.cell? ⟨b, off + k * 2, none⟩ = some (.string nm) ∧ w7.cell? ⟨b, off + k * 2 + 1, none⟩ = some (.slice va L.length vc) := ⟨(World.cell?_of_block (w := w2.alloc (Obj.cells #[.string nm, .slice ua L.length uc] 93)) (a := ⟨b, off + k * 2, none⟩) (hg7.block b (by omega) (fun e => by have := (HOa.out.lt b e.symm).1; omega))).trans Ka.1, (World.cell?_of_block (w := w2.alloc (Obj.cells #[.string nm, .slice ua L.length uc] 93)) (a := ⟨b, off + k * 2 + 1, none⟩) (hg7.block b (by omega) (fun e => by have := (HOa.out.lt b e.symm).1; omega))).trans Ka.2⟩; clear hrun hownu hcu0 hcu1)
          | (refine step_append_run _ (by rfl) _ _ _ _ (by rfl) _ _ (by rfl) (by rfl) _ _ HR.out ?_)
          | fail)
      all_goals
        go_wp2
        go_roundw
        case rel =>
          have hLa : LCells w7 w.heap.size ((l.take k).map Prod.snd) us := HLa.out.keep fun j hj v i h1 e => by
            obtain ⟨v', h2, h3⟩ := HLa.out.2.1 j hj
            rw [h1] at h2
            cases h2
            exact hg7.block i (h3.lt i e).2 (fun e' => Te_owns_apart h3 HOa.out (by decide) i e e'.symm)
          have hU7 := owns_keep (W' := w7) HUa.out fun i e => hg7.block i (HUa.out.lt i e).2 (fun e' => Te_owns_apart HUa.out HOa.out (by decide) i e e'.symm)
          refine ⟨k + 1, us ++ [.slice ua L.length uc], by omega, by go_num, ?_, ?_, hB0a.grown hg7 hB0a.size (fun j e => (HOa.out.lt j e).1)⟩
          · have h8 := HO7.out
            rw [← ncs_snoc (l.take k) us (nm, L) _ (by simp; omega)] at h8
            rw [show l.take (k + 1) = l.take k ++ [(nm, L)] by rw [List.take_add_one, List.getElem?_eq_getElem hlt, ← HPk.out]; rfl]
            exact h8
          · have h9 : k < (l.map Prod.snd).length := by simpa using hlt
            rw [List.map_take] at hLa ⊢
            refine LCells.snoc h9 hLa _ ?_ (fun j v i h1 e e' => ?_)
            · rw [List.getElem_map, ← HPk.out]
              exact owns_mono hU7 (by omega)
            · obtain ⟨v', h2, h3⟩ := HL.out.2.1 j (by have := (List.getElem?_eq_some_iff.1 h1).1; have := HL.out.1; omega)
              rw [h1] at h2
              cases h2
              have := (h3.lt i e).2
              have : wr.heap.size ≤ i := (HX.out.lt i e').1
              omega
        case measure => simp [intOf]; omega
    · have hke : k = l.length := by omega
      go_wp2
      go_ret
      have h1 := HL.out
      have h2 := HO.out
      subst hke
      rw [List.take_length] at h1 h2
      exact ⟨_, us, rfl, h2, h1, hB⟩

set_option maxRecDepth 100000 in
set_option maxHeartbeats 2000000 in
theorem sameNamed_any (v1 v2 : Value) (l : List Nm) (w : World) (h1 : Nms w v1 l) (h2 : Nms w v2 l) (hs : l.length ≤ maxLen) (hs2 : ∀ j (hj : j < l.length), l[j].2.length ≤ maxLen) :
    Calls Tryz.prog 65 #[v1, v2] w fun e w' => e = .returned (.bool true) ∧ Below w.heap.size w w' := by
  unfold maxLen at hs
  have H1 := hide h1
  have H2 := hide h2
  have HS := hide hs2
  obtain ⟨a1, c1, rfl⟩ := h1.form
  obtain ⟨a2, c2, rfl⟩ := h2.form
  clear h1 h2 hs2
  go_enter Tryz.func65, Tryz.ntmps65
  go_wp2
  go_loopw [5] (fun i wr => ∃ k : Nat, k ≤ l.length ∧ i = .int .i64 k ∧ Below w.heap.size w wr) (fun i _ => l.length - (intOf i).toNat)
  case atStart => exact ⟨0, Nat.zero_le _, rfl, Below.refl _ _⟩
  case round =>
    obtain ⟨k, hk, rfl, hB⟩ := hrel
    have hsz := hB.size
    by_cases hlt : k < l.length
    · obtain ⟨b1, o1, va1, vc1, rfl, hb1, p0, p1, hy1, -⟩ := (H1.out.below hB).at k hlt
      obtain ⟨b2, o2, va2, vc2, rfl, hb2, q0, q1, hy2, -⟩ := (H2.out.below hB).at k hlt
      have hl4 := HS.out k hlt
      generalize l[k] = p at p0 p1 q0 q1 hy1 hy2 hl4
      obtain ⟨nm, L⟩ := p
      simp only at p0 p1 q0 q1 hy1 hy2 hl4
      have hk1 : (0 : Int) ≤ (k : Int) := by omega
      have hk2 : (k : Int) < (l.length : Int) := by omega
      have HY1 := hide hy1
      have HY2 := hide hy2
      clear hy1 hy2
      go_wp2_with fail
      go_region_held3 (fun w' => w'.cell? ⟨b1, o1 + k * 2, none⟩ = some (.string nm) ∧ w'.cell? ⟨b1, o1 + k * 2 + 1, none⟩ = some (.slice va1 L.length vc1) ∧ w'.cell? ⟨b2, o2 + k * 2, none⟩ = some (.string nm) ∧ w'.cell? ⟨b2, o2 + k * 2 + 1, none⟩ = some (.slice va2 L.length vc2))
        (first | exact K5 | go_keep)
        (first
          | (go_at_call 38; refine (same_any _ _ L _ (HY1.out.below (Below.refl _ wr).drew) (HY2.out.below (Below.refl _ wr).drew) hl4).mono ?_; rintro e w5 ⟨rfl, hB5⟩; have hB05 : Below w.heap.size w w5 := hB.drew.trans (hB5.mono (by show w.heap.size ≤ wr.heap.size; omega)); have K5 : w5.cell? ⟨b1, o1 + k * 2, none⟩ = some (.string nm) ∧ w5.cell? ⟨b1, o1 + k * 2 + 1, none⟩ = some (.slice va1 L.length vc1) ∧ w5.cell? ⟨b2, o2 + k * 2, none⟩ = some (.string nm) ∧ w5.cell? ⟨b2, o2 + k * 2 + 1, none⟩ = some (.slice va2 L.length vc2) := ⟨(hB5.cell (p := ⟨b1, o1 + k * 2, none⟩) hb1).trans p0, (hB5.cell (p := ⟨b1, o1 + k * 2 + 1, none⟩) hb1).trans p1, (hB5.cell (p := ⟨b2, o2 + k * 2, none⟩) hb2).trans q0, (hB5.cell (p := ⟨b2, o2 + k * 2 + 1, none⟩) hb2).trans q1⟩)
          | fail)
      all_goals
        go_wp2
        go_roundw
        case rel => exact ⟨k + 1, by omega, by go_num, hB05⟩
        case measure => simp [intOf]; omega
    · go_wp2
      go_ret
      exact ⟨rfl, hB⟩
end Go.Proofs.YtkkicbhmcjbmbaaGreat

/- CopyTyped. -/
namespace Go.Proofs.YtkkicbhmcjbmbaaGreat
open Go.RowKit

set_option maxRecDepth 100000 in
set_option maxHeartbeats 2000000 in
theorem copyTyped_any (v : Value) (l : List Tp) (w : World) (h : Tps w v l) (hs : l.length * 40 ≤ 140737488351232) (hs2 : ∀ j (hj : j < l.length), l[j].2.length * 24 ≤ 140737488351232 ∧ ∀ i (hi : i < l[j].2.length), l[j].2[i].length ≤ 140737488351232) :
    Calls Tryz.prog 40 #[v] w fun e w' => ∃ v' us, e = .returned v' ∧ w'.ownsRow w.heap.size 98 2 v' l.length (ncs l us) ∧ us.length = l.length ∧ (∀ j (hj : j < l.length), ∃ u, us[j]? = some u ∧ TC w' w.heap.size l[j].2 u) ∧ Below w.heap.size w w' := by
  have H0 := hide h
  obtain ⟨a1, c1, rfl⟩ := h.form
  have HS := hide hs2
  clear h hs2
  go_enter Tryz.func40, Tryz.ntmps40
  go_wp2
  go_loopw [3, 4] (fun ov i wr => ∃ (k : Nat) (us : List Value), k ≤ l.length ∧ i = .int .i64 k ∧ Hid (wr.ownsRow w.heap.size 98 2 ov k (ncs (l.take k) us)) ∧ us.length = k ∧ Hid (∀ j (hj : j < l.length), j < k → ∃ u, us[j]? = some u ∧ TC wr w.heap.size l[j].2 u) ∧ Below w.heap.size w wr) (fun _ i _ => l.length - (intOf i).toNat)
  case atStart => exact ⟨0, [], Nat.zero_le _, rfl, World.ownsRow_nil _ _ _ _, rfl, (fun j _ hj => by omega), Below.refl _ _⟩
  case round =>
    obtain ⟨k, us, hk, rfl, HO, hul, HL, hB⟩ := hrel
    obtain ⟨oa, oc, rfl⟩ := owns_slice HO.out
    by_cases hlt : k < l.length
    · obtain ⟨b, off, va, vc, rfl, hbl, q0, q1, hby, -⟩ := H0.out.at k hlt
      have hc0 := (hB.cell (p := ⟨b, off + k * 2, none⟩) hbl).trans q0
      have hc1 := (hB.cell (p := ⟨b, off + k * 2 + 1, none⟩) hbl).trans q1
      have hk1 : (0 : Int) ≤ (k : Int) := by omega
      have hk2 : (k : Int) < (l.length : Int) := by omega
      have HBy := hide hby
      have hl4 := HS.out k hlt
      have hsz := hB.size
      clear q0 q1 hby
      obtain ⟨p, hp⟩ : ∃ p, p = l[k] := ⟨_, rfl⟩
      rw [← hp] at hc0 hc1 HBy hl4
      have HPk := hide hp
      clear hp
      obtain ⟨nm, L⟩ := p
      simp only at hc0 hc1 HBy hl4
      go_wp2_with fail
      go_region_held3 (fun w' => w'.cell? ⟨b, off + k * 2, none⟩ = some (.string nm) ∧ w'.cell? ⟨b, off + k * 2 + 1, none⟩ = some (.slice va L.length vc))
        (first | exact K7 | exact Ka | exact K2 | go_keep)
        (first
          | (go_at_call 125; refine (copyLists_any _ L _ (HBy.out.below hB.drew) hl4.1 hl4.2).mono ?_; rintro e w2 ⟨u, ys, rfl, hownu, hly, hB2⟩; obtain ⟨ua, uc, rfl⟩ := owns_slice hownu; have hsd : wr.drew.heap.size = wr.heap.size := rfl; have hz2 : wr.heap.size ≤ w2.heap.size := hB2.size; have hB02 : Below w.heap.size w w2 := hB.drew.trans (hB2.mono (by omega)); have K2 : w2.cell? ⟨b, off + k * 2, none⟩ = some (.string nm) ∧ w2.cell? ⟨b, off + k * 2 + 1, none⟩ = some (.slice va L.length vc) := ⟨(hB2.cell (p := ⟨b, off + k * 2, none⟩) (by show b < wr.heap.size; omega)).trans hc0, (hB2.cell (p := ⟨b, off + k * 2 + 1, none⟩) (by show b < wr.heap.size; omega)).trans hc1⟩; have hBa : Below w2.heap.size w2 (w2.alloc (Obj.cells #[.string nm, .slice ua L.length uc] 98)) := (Below.refl _ _).alloc (Nat.le_refl _) _; have Ka : (w2.alloc (Obj.cells #[.string nm, .slice ua L.length uc] 98)).cell? ⟨b, off + k * 2, none⟩ = some (.string nm) ∧ (w2.alloc (Obj.cells #[.string nm, .slice ua L.length uc] 98)).cell? ⟨b, off + k * 2 + 1, none⟩ = some (.slice va L.length vc) := ⟨(hBa.cell (p := ⟨b, off + k * 2, none⟩) (by show b < _; omega)).trans K2.1, (hBa.cell (p := ⟨b, off + k * 2 + 1, none⟩) (by show b < _; omega)).trans K2.2⟩; have hB0a := hB02.trans (hBa.mono hB02.size); have hB2a := hB2.trans (hBa.mono hB2.size); have HOa := hide (owns_below (W := wr.drew) HO.out hB2a); have HUa : Hid (TC (w2.alloc (Obj.cells #[.string nm, .slice ua L.length uc] 98)) wr.heap.size L (.slice ua L.length uc)) := hide (TC.below ⟨ys, hownu, hly⟩ hBa); have HLa : Hid (∀ j (hj : j < l.length), j < k → ∃ u, us[j]? = some u ∧ TC (w2.alloc (Obj.cells #[.string nm, .slice ua L.length uc] 98)) w.heap.size l[j].2 u) := hide (fun j hj hjk => by obtain ⟨u, h5, h6⟩ := HL.out j hj hjk; exact ⟨u, h5, TC.below (W := wr.drew) h6 hB2a⟩); have hcu0 : (w2.alloc (Obj.cells #[.string nm, .slice ua L.length uc] 98)).cell? ⟨w2.heap.size, 0, none⟩ = some (.string nm) := (by simp only [World.cell?, heap_alloc_new]; rfl); have hcu1 : (w2.alloc (Obj.cells #[.string nm, .slice ua L.length uc] 98)).cell? ⟨w2.heap.size, 1, none⟩ = some (.slice ua L.length uc) := (by simp only [World.cell?, heap_alloc_new]; rfl); have hza := size_new w2 (Obj.cells #[.string nm, .slice ua L.length uc] 98); obtain ⟨s', w7, hrun, HO7, hg7, hb7⟩ := run_append_typed (w2.alloc (Obj.cells #[.string nm, .slice ua L.length uc] 98)) 23 w.heap.size _ k _ w2.heap.size 1 nm _ HOa.out hcu0 hcu1 rfl (by omega) (by omega); have HR := hide hrun; have K7 : w7.cell? ⟨b, off + k * 2, none⟩ = some (.string nm) ∧ w7.cell? ⟨b, off + k * 2 + 1, none⟩ = some (.slice va L.length vc) := ⟨(World.cell?_of_block (w := w2.alloc (Obj.cells #[.string nm, .slice ua L.length uc] 98)) (a := ⟨b, off + k * 2, none⟩) (hg7.block b (by omega) (fun e => by have := (HOa.out.lt b e.symm).1; omega))).trans Ka.1, (World.cell?_of_block (w := w2.alloc (Obj.cells #[.string nm, .slice ua L.length uc] 98)) (a := ⟨b, off + k * 2 + 1, none⟩) (hg7.block b (by omega) (fun e => by have := (HOa.out.lt b e.symm).1; omega))).trans Ka.2⟩; clear hrun hownu hly hcu0 hcu1)
          | (refine step_append_run _ (by rfl) _ _ _ _ (by rfl) _ _ (by rfl) (by rfl) _ _ HR.out ?_)
          | fail)
      all_goals
        go_wp2
        go_roundw
        case rel =>
          refine ⟨k + 1, us ++ [.slice ua L.length uc], by omega, by go_num, ?_, by simp [hul], fun j hj hjk => ?_, hB0a.grown hg7 hB0a.size (fun j e => (HOa.out.lt j e).1)⟩
          · have h8 := HO7.out
            rw [← ncs_snoc (l.take k) us (nm, L) _ (by simp; omega)] at h8
            rw [show l.take (k + 1) = l.take k ++ [(nm, L)] by rw [List.take_add_one, List.getElem?_eq_getElem hlt, ← HPk.out]; rfl]
            exact h8
          · by_cases hje : j = k
            · subst hje
              refine ⟨_, by rw [List.getElem?_append_right (by omega), hul, Nat.sub_self]; rfl, ?_⟩
              rw [← HPk.out]
              exact (HUa.out.grown HOa.out hg7).mono (by omega)
            · obtain ⟨u, h5, h6⟩ := HLa.out j hj (by omega)
              exact ⟨u, by rw [List.getElem?_append_left (by omega)]; exact h5, h6.grown HOa.out hg7⟩
        case measure => simp [intOf]; omega
    · have hke : k = l.length := by omega
      go_wp2
      go_ret
      have h1 := HL.out
      have h2 := HO.out
      subst hke
      rw [List.take_length] at h2
      exact ⟨_, us, rfl, h2, hul, fun j hj => h1 j hj hj, hB⟩
end Go.Proofs.YtkkicbhmcjbmbaaGreat

/- The reference's kernel: Named, has, flagged, Move. -/
namespace Go.Proofs.YtkkicbhmcjbmbaaGreat
open Go.RowKit

set_option maxRecDepth 100000 in
set_option maxHeartbeats 1000000 in
theorem named_any (s : ByteArray) (w : World) (hs : s.size ≤ maxLen) :
    Calls Tryz.prog 45 #[.string s] w fun e w' => e = .returned (.bool (nameOk s)) ∧ w' = w := by
  unfold maxLen at hs
  rcases (show s.size = 0 ∨ (0 < s.size ∧ 64 < s.size) ∨ (0 < s.size ∧ s.size ≤ 64) by omega) with h0 | ⟨h0, h1⟩ | ⟨h0, h1⟩
  · have d0 := kempty_yes s h0
    have hE : nameOk s = false := by unfold nameOk; rw [show decide (0 < s.size) = false by rw [decide_eq_false_iff_not]; omega]; rfl
    rw [hE]
    clear hE
    go_enter Tryz.func45, Tryz.ntmps45
    go_wp2
    go_ret
    exact ⟨rfl, rfl⟩
  · have d0 := kempty_no s (by omega)
    have d1 : (64 : Int) < (s.size : Int) := by omega
    have hE : nameOk s = false := by unfold nameOk; rw [show decide (s.size ≤ 64) = false by simp; omega]; simp
    rw [hE]
    clear hE
    go_enter Tryz.func45, Tryz.ntmps45
    go_wp2
    go_ret
    exact ⟨rfl, rfl⟩
  · have d0 := kempty_no s (by omega)
    have d1 : ¬ (64 : Int) < (s.size : Int) := by omega
    have HE : Hid (nameOk s = s.data.toList.all (fun c => decide (33 ≤ c.toNat) && decide (c.toNat ≤ 126))) := hide (by unfold nameOk; rw [show decide (0 < s.size) = true by simp; omega, show decide (s.size ≤ 64) = true by simp; omega]; rfl)
    rw [HE.out]
    obtain ⟨R, hR⟩ : ∃ R, R = s.data.toList.all (fun c => decide (33 ≤ c.toNat) && decide (c.toNat ≤ 126)) := ⟨_, rfl⟩
    rw [← hR]
    have HR := hide hR
    clear HE hR
    go_enter Tryz.func45, Tryz.ntmps45
    go_wp2
    go_loop [3] (fun i => ∃ k : Nat, k ≤ s.size ∧ i = .int .i64 k ∧ Hid (∀ j (hj : j < s.data.toList.length), j < k → (decide (33 ≤ s.data.toList[j].toNat) && decide (s.data.toList[j].toNat ≤ 126)) = true)) (fun i => s.size - (intOf i).toNat)
    case atStart => exact ⟨0, Nat.zero_le _, rfl, fun _ _ h => by omega⟩
    case round =>
      obtain ⟨k, hk, rfl, HA⟩ := hrel
      by_cases hlt : k < s.size
      · have hby : ((s[k].toNat : Nat) : Int) ≤ 255 := by have := s[k].toNat_lt; omega
        rcases (show (s[k].toNat : Int) < 33 ∨ (¬ (s[k].toNat : Int) < 33 ∧ (126 : Int) < (s[k].toNat : Int)) ∨ (¬ (s[k].toNat : Int) < 33 ∧ ¬ (126 : Int) < (s[k].toNat : Int)) by omega) with e1 | ⟨e1, e2⟩ | ⟨e1, e2⟩
        · have HF : Hid (R = false) := hide (by
            rw [HR.out, List.all_eq_false]
            exact ⟨s[k], by simp [ByteArray.getElem_eq_getElem_data], by simp; omega⟩)
          go_wp2
          go_ret
          exact ⟨by rw [HF.out]; rfl, rfl⟩
        · have HF : Hid (R = false) := hide (by
            rw [HR.out, List.all_eq_false]
            exact ⟨s[k], by simp [ByteArray.getElem_eq_getElem_data], by simp; omega⟩)
          go_wp2
          go_ret
          exact ⟨by rw [HF.out]; rfl, rfl⟩
        · go_wp2
          go_round
          case rel =>
            refine ⟨k + 1, by omega, by go_num, fun j hj hjk => ?_⟩
            rcases Nat.lt_or_ge j k with h | h
            · exact HA.out j hj h
            · obtain rfl : j = k := by omega
              have : s.data.toList[j] = s[j] := by simp [ByteArray.getElem_eq_getElem_data]
              rw [this]
              simp; omega
          case measure => simp [intOf]; omega
      · have HF : Hid (R = true) := hide (by
          rw [HR.out, List.all_eq_true]
          intro c hc
          obtain ⟨j, hj, rfl⟩ := List.getElem_of_mem hc
          have hjs : j < s.size := by simpa using hj
          exact HA.out j hj (by omega))
        go_wp2
        go_ret
        exact ⟨by rw [HF.out]; rfl, rfl⟩

set_option maxRecDepth 100000 in
set_option maxHeartbeats 2000000 in
theorem flagged_any (f : Int) (w : World) :
    Calls Tryz.prog 115 #[.int .i64 f] w fun e w' => e = .returned (.bool (flagsOk f)) ∧ w' = w := by
  unfold flagsOk
  rcases (show f < 0 ∨ (¬ f < 0 ∧ 63 < f) ∨ (¬ f < 0 ∧ ¬ 63 < f) by omega) with e1 | ⟨e1, e2⟩ | ⟨e1, e2⟩
  · rw [show decide (0 ≤ f ∧ f ≤ 63) = false by rw [decide_eq_false_iff_not]; omega]
    go_enter Tryz.func115, Tryz.ntmps115
    go_wp2
    go_ret
    exact ⟨rfl, rfl⟩
  · rw [show decide (0 ≤ f ∧ f ≤ 63) = false by rw [decide_eq_false_iff_not]; omega]
    go_enter Tryz.func115, Tryz.ntmps115
    go_wp2
    go_ret
    exact ⟨rfl, rfl⟩
  · rw [show decide (0 ≤ f ∧ f ≤ 63) = true by rw [decide_eq_true_iff]; omega]
    obtain ⟨v3, h3⟩ : ∃ v, bits .and .i64 f 3 = v := ⟨_, rfl⟩
    obtain ⟨v20, h20⟩ : ∃ v, bits .and .i64 f 20 = v := ⟨_, rfl⟩
    obtain ⟨v2, h2⟩ : ∃ v, bits .and .i64 f 2 = v := ⟨_, rfl⟩
    obtain ⟨v32, h32⟩ : ∃ v, bits .and .i64 f 32 = v := ⟨_, rfl⟩
    obtain ⟨v8, h8⟩ : ∃ v, bits .and .i64 f 8 = v := ⟨_, rfl⟩
    simp only [fbit, h3, h20, h2, h32, h8]
    by_cases k3 : v3 = 0
    · subst k3
      go_enter Tryz.func115, Tryz.ntmps115
      go_wp2
      go_ret
      exact ⟨rfl, rfl⟩
    · have m3 : (v3 == 0) = false := by simpa using k3
      rw [m3]
      by_cases k20 : v20 = 0
      case' pos => subst k20
      case' neg =>
        have m20 : (v20 == 0) = false := by simpa using k20
        have m20' : (v20 != 0) = true := by simpa using k20
        rw [m20]
        by_cases k2 : v2 = 0
        case' pos => subst k2
        case' neg =>
          have m2 : (v2 == 0) = false := by simpa using k2
          rw [m2]
      all_goals
        by_cases k32 : v32 = 0
        case' pos =>
          subst k32
        case' neg =>
          have m32 : (v32 == 0) = false := by simpa using k32
          rw [m32]
          by_cases k8 : v8 = 0
          case' pos => subst k8
          case' neg =>
            have m8 : (v8 == 0) = false := by simpa using k8
            have m8' : (v8 != 0) = true := by simpa using k8
            rw [m8]
      all_goals
        go_enter Tryz.func115, Tryz.ntmps115
        go_wp2
        go_ret
        exact ⟨rfl, rfl⟩
theorem move_any (base off most : Int) (w : World) (h1 : 0 ≤ base) (h2 : base ≤ 1048576) (h3 : 0 ≤ most) (h4 : most ≤ 1048576) :
    Calls Tryz.prog 149 #[.int .i64 base, .int .i64 off, .int .i64 most] w fun e w' => e = .returned (if 0 ≤ base + off ∧ base + off ≤ most then .tuple #[.int .i64 (base + off), .bool true] else .tuple #[.int .i64 0, .bool false]) ∧ w' = w := by
  rcases (show off < -base ∨ (¬ off < -base ∧ most - base < off) ∨ (¬ off < -base ∧ ¬ most - base < off) by omega) with e1 | ⟨e1, e2⟩ | ⟨e1, e2⟩
  · rw [if_neg (by omega)]
    go_enter Tryz.func149, Tryz.ntmps149
    go_wp2
    go_ret2
    exact ⟨rfl, rfl⟩
  · rw [if_neg (by omega)]
    go_enter Tryz.func149, Tryz.ntmps149
    go_wp2
    go_ret2
    exact ⟨rfl, rfl⟩
  · rw [if_pos (by omega)]
    have e3 : -9223372036854775808 ≤ base + off ∧ base + off ≤ 9223372036854775807 := by omega
    go_enter Tryz.func149, Tryz.ntmps149
    go_wp2
    go_ret2
    exact ⟨rfl, rfl⟩
end Go.Proofs.YtkkicbhmcjbmbaaGreat

/- The reference's plan: Next. -/
namespace Go.Proofs.YtkkicbhmcjbmbaaGreat
open Go.RowKit

theorem rplan_world {w : World} {g b off cap n : Nat} {f : Fault} {r : List Fault} {o : Obj} {v' : Value} (h : RPlanAt w g (.slice (some ⟨b, off, none⟩) n cap) (f :: r)) (hn : n = r.length + 1) (hcap : n ≤ cap)
    (hv : v' = .slice (some ⟨b, off + 2, none⟩) r.length (cap - 1) ∨ v' = .slice (some ⟨b, off, none⟩) r.length 0 ∧ cap = 1) :
    RPlanAt ((w.setCell ⟨g, 0, none⟩ v').alloc o) g v' r ∧ v'.ownBlock = some b ∧ w.grownBy ((w.setCell ⟨g, 0, none⟩ v').alloc o) (some g) := by
  have hne : g ≠ b := fun e => h.apart (by rw [e]; rfl)
  have hgl : g < w.heap.size := World.block_lt_of_cell? w _ h.left
  have hsz : (w.setCell ⟨g, 0, none⟩ v').heap.size = w.heap.size := by simp [World.setCell]
  have hal : ∀ k, k < w.heap.size → ((w.setCell ⟨g, 0, none⟩ v').alloc o).heap[k]? = (w.setCell ⟨g, 0, none⟩ v').heap[k]? := fun k hk => Below.heap_alloc _ _ _ (by rw [hsz]; exact hk)
  have hoth : ∀ k, k < w.heap.size → k ≠ g → ((w.setCell ⟨g, 0, none⟩ v').alloc o).heap[k]? = w.heap[k]? := fun k hk hkg => (hal k hk).trans (Below.heap_setCell _ _ _ _ hkg)
  have hob : v'.ownBlock = some b := by rcases hv with rfl | ⟨rfl, _⟩ <;> rfl
  refine ⟨⟨?_, ?_, ?_, by rw [hob]; intro e; exact hne (Option.some.inj e).symm⟩, hob, ⟨rfl, rfl, rfl, ?_, ?_⟩⟩
  · exact (World.cell?_of_block (hal g hgl)).trans (World.cell?_setCell_same _ _ _ h.left)
  · exact (World.frozen?_of_block (hal g hgl)).trans ((World.frozen?_setCell _ _ _ _).trans h.soft)
  · rcases h.list with ⟨h0, _⟩ | ⟨a, c, h0, h1⟩ | ⟨b', off', cap', heq, h0, hc', hc⟩
    · cases h0
    · cases h1
    · cases heq
      rcases hv with rfl | ⟨rfl, h1⟩
      · by_cases hr : r.length = 0
        · exact .inr (.inl ⟨_, _, by rw [hr], List.length_eq_zero_iff.1 hr⟩)
        · refine .inr (.inr ⟨b, off + 2, cap - 1, rfl, by omega, by omega, fun j hj => ?_⟩)
          have hj' : j + 1 < (f :: r).length := by simp only [List.length_cons]; omega
          have hbl : b < w.heap.size := World.block_lt_of_cell? w _ (hc (j + 1) hj').1
          have e := hoth b hbl (Ne.symm hne)
          have e1 := (hc (j + 1) hj').1
          have e2 := (hc (j + 1) hj').2
          rw [List.getD_cons_succ] at e1 e2
          rw [show off + (j + 1) * 2 = off + 2 + j * 2 by omega] at e1 e2
          exact ⟨(World.cell?_of_block (w := w) e).trans e1, (World.cell?_of_block (w := w) e).trans e2⟩
      · have hr : r.length = 0 := by omega
        exact .inr (.inl ⟨_, _, by rw [hr], List.length_eq_zero_iff.1 hr⟩)
  · have := size_new (w.setCell ⟨g, 0, none⟩ v') o
    omega
  · intro k hk hkg
    exact hoth k hk fun e => hkg (by rw [e])

set_option maxRecDepth 100000 in
set_option maxHeartbeats 1000000 in
theorem rnext_range (g : Nat) (want : Int) (w : World) (hw : want < 1 ∨ 1048576 < want) :
    Calls Tryz.prog 138 #[.pointer (some ⟨g, 0, none⟩), .int .i64 want] w fun e w' => e = .returned (.tuple #[.int .i64 0, .int .i64 4]) ∧ w' = w := by
  by_cases hw1 : want < 1
  · go_enter Tryz.func138, Tryz.ntmps138
    go_wp2
    go_ret2
    exact ⟨rfl, rfl⟩
  · have hw2 : 1048576 < want := by omega
    clear hw
    go_enter Tryz.func138, Tryz.ntmps138
    go_wp2
    go_ret2
    exact ⟨rfl, rfl⟩
set_option maxRecDepth 100000 in
set_option maxHeartbeats 1000000 in
theorem rnext_end (g : Nat) (v : Value) (want : Int) (w : World) (h : RPlanAt w g v []) (hw1 : 1 ≤ want) (hw2 : want ≤ 1048576) :
    Calls Tryz.prog 138 #[.pointer (some ⟨g, 0, none⟩), .int .i64 want] w fun e w' => e = .returned (.tuple #[.int .i64 want, .int .i64 0]) ∧ w' = w := by
  obtain ⟨a, c, rfl, -⟩ := flts_form h.list
  have h2 := h.left
  simp only [List.length_nil] at h2
  clear h
  go_enter Tryz.func138, Tryz.ntmps138
  go_wp2
  go_ret2
  exact ⟨rfl, rfl⟩
set_option maxRecDepth 100000 in
set_option maxHeartbeats 1000000 in
theorem rnext_some (g : Nat) (v : Value) (f : Fault) (r : List Fault) (want : Int) (w : World) (h : RPlanAt w g v (f :: r)) (hw1 : 1 ≤ want) (hw2 : want ≤ 1048576) (hs : r.length < maxLen) :
    Calls Tryz.prog 138 #[.pointer (some ⟨g, 0, none⟩), .int .i64 want] w fun e w' => e = .returned (.tuple #[.int .i64 (nxt (f :: r) want).1, .int .i64 (nxt (f :: r) want).2]) ∧ ∃ v', RPlanAt w' g v' r ∧ v'.ownBlock = v.ownBlock ∧ w.grownBy w' (some g) := by
  unfold maxLen at hs
  have h2 := h.left
  have h3 := h.soft
  rcases h.list with ⟨rfl, h0⟩ | ⟨a, cap, rfl, h0⟩ | ⟨b, off, cap, rfl, h0, hcap, hc⟩
  · cases h0
  · cases h0
  · have e1 := (hc 0 h0).1
    have e2 := (hc 0 h0).2
    simp only [Nat.zero_mul, Nat.add_zero, List.getD_cons_zero] at e1 e2
    obtain ⟨x, y⟩ := f
    simp only at e1 e2
    have hne : g ≠ b := fun e => h.apart (by rw [e]; rfl)
    simp only [List.length_cons] at h2 hcap
    have HC := hide hc
    have HP := hide h
    have hgl := World.block_lt_of_cell? w _ h2
    have h2' : ∀ o, (w.alloc o).cell? ⟨g, 0, none⟩ = some (.slice (some ⟨b, off, none⟩) (r.length + 1) cap) := fun o => (World.cell?_of_block (w := w) (Below.heap_alloc w o g hgl)).trans h2
    have h3' : ∀ o, (w.alloc o).frozen? ⟨g, 0, none⟩ = false := fun o => (World.frozen?_of_block (w := w) (Below.heap_alloc w o g hgl)).trans h3
    have hgn : w.heap.size ≠ g := by simp only at hgl; omega
    clear hc h h0 h3
    go_enter Tryz.func138, Tryz.ntmps138
    go_wp2
    all_goals go_ret2
    all_goals refine ⟨ret2 (congrArg (Value.int .i64) ?_) (congrArg (Value.int .i64) ?_), _, rplan_world HP.out (by simp) (by simp only [List.length_cons]; omega) (by first | exact .inl rfl | exact .inr ⟨rfl, by first | rfl | omega⟩)⟩
    all_goals clear HC HP
    all_goals rw [nxt_in hw1 hw2]
    all_goals simp_all
    all_goals omega
end Go.Proofs.YtkkicbhmcjbmbaaGreat

/- The reference's kernel: has, Check. -/
namespace Go.Proofs.YtkkicbhmcjbmbaaGreat
open Go.RowKit

theorem Tryz.infoS : (Tryz.prog.info? 9).map (fun i => (i.zero, i.size, i.bytes)) = some (some (.string ByteArray.empty), 1, 16) := by kernel_rfl
/-- append(s, one) of a string. -/
theorem run_append_string (w : World) (ty : TypeId) (base : Nat) (s : Value) (n : Nat) (xs : List Value) (g c : Nat) (nm : ByteArray) (hs : w.ownsRow base 9 1 s n xs) (hx : w.cell? ⟨g, 0, none⟩ = some (.string nm)) (hn : (n + 1) * 16 ≤ 140737488355328) (hb : base ≤ w.heap.size) :
    ∃ s' w', (Builtin.append_ #[107, 107] ty #[s, .slice (some ⟨g, 0, none⟩) 1 c]).run Tryz.prog w = .ok s' w' ∧ Hid (w'.ownsRow base 9 1 s' (n + 1) (xs ++ [.string nm])) ∧ w.grownBy w' s.ownBlock := by
  refine (?_ : ∃ s' w', (Builtin.append_ #[107, 107] ty #[s, .slice (some ⟨g, 0, none⟩) 1 c]).run Tryz.prog w = .ok s' w' ∧ w'.ownsRow base 9 1 s' (n + 1) (xs ++ [.string nm]) ∧ w.grownBy w' s.ownBlock)
  obtain ⟨i0, hi, hz0, hz1, hz2⟩ := info_parts Tryz.infoS
  obtain ⟨v', w', h1, h2, h3, _⟩ := run_append_own_at (P := Tryz.prog) w base 107 ty 9 i0 (.string ByteArray.empty) 1 16 Tryz.underlying107 hi hz0 hz1 hz2 rfl (by decide) s _ _ hs ⟨g, 0, none⟩ 1 c [.string nm] rfl (fun j v hj => by
    match j, hj with
    | 0, hj =>
      obtain rfl : Value.string nm = v := by simpa using hj
      have hadd : (⟨g, 0, none⟩ : Addr).add 0 = ⟨g, 0, none⟩ := by unfold Addr.add; split <;> simp_all
      rw [hadd]; exact hx) (by intro v hv; simp at hv; subst hv; rfl) (by unfold maxLen; omega) (by omega) hb
  exact ⟨v', w', h1, h2, h3⟩

set_option maxRecDepth 100000 in
set_option maxHeartbeats 1000000 in
theorem has_any (base : Nat) (v : Value) (ss : List ByteArray) (s : ByteArray) (w : World) (h : w.ownsRow base 9 1 v ss.length (ss.map .string)) (hl : ss.length ≤ maxLen) :
    Calls Tryz.prog 46 #[v, .string s] w fun e w' => e = .returned (.bool (inNames s ss)) ∧ w' = w := by
  unfold maxLen at hl
  have HO := hide h
  obtain ⟨a, c, rfl⟩ := owns_slice h
  clear h
  obtain ⟨R, hR⟩ : ∃ R, R = inNames s ss := ⟨_, rfl⟩
  rw [← hR]
  have HR := hide hR
  clear hR
  go_enter Tryz.func46, Tryz.ntmps46
  go_wp2
  go_loop [5] (fun i => ∃ k : Nat, k ≤ ss.length ∧ i = .int .i64 k ∧ Hid (∀ j (hj : j < ss.length), j < k → ss[j] ≠ s)) (fun i => ss.length - (intOf i).toNat)
  case atStart => exact ⟨0, Nat.zero_le _, rfl, fun _ _ h => by omega⟩
  case round =>
    obtain ⟨k, hk, rfl, HA⟩ := hrel
    by_cases hlt : k < ss.length
    · obtain ⟨b, rfl⟩ : ∃ b, a = some ⟨b, 0, none⟩ := by
        rcases HO.out.2 with ⟨h0, _⟩ | ⟨g, cap, cur, h1, _⟩
        · simp only [Value.slice.injEq] at h0; omega
        · simp only [Value.slice.injEq] at h1; exact ⟨g, h1.1⟩
      have hcell := HO.out.cellAt k (by simpa using hlt)
      rw [List.getElem?_map, List.getElem?_eq_getElem hlt] at hcell
      simp only [Option.map_some] at hcell
      obtain ⟨x, hx⟩ : ∃ x, x = ss[k] := ⟨_, rfl⟩
      rw [← hx] at hcell
      have HX := hide hx
      clear hx
      have hk1 : (0 : Int) ≤ (k : Int) := by omega
      have hk2 : (k : Int) < (ss.length : Int) := by omega
      by_cases he : x = s
      · have HF : Hid (R = true) := hide (by rw [HR.out, inNames_iff, ← he, HX.out]; exact List.getElem_mem _)
        subst he
        go_wp2
        go_ret
        exact ⟨by rw [HF.out]; rfl, rfl⟩
      · have he2 : (x.toList == s.toList) = false := by rw [ByteArray.toList_eq, ByteArray.toList_eq, beq_eq_false_iff_ne]; exact bytes_ne he
        have he3 : ¬ x.toList = s.toList := by rw [ByteArray.toList_eq, ByteArray.toList_eq]; exact bytes_ne he
        go_wp2
        all_goals
          go_round
          case rel =>
            refine ⟨k + 1, by omega, by go_num, fun j hj hjk => ?_⟩
            rcases Nat.lt_or_ge j k with h | h
            · exact HA.out j hj h
            · obtain rfl : j = k := by omega
              rw [← HX.out]
              exact he
          case measure => simp [intOf]; omega
    · have HF : Hid (R = false) := hide (by
        rw [HR.out, Bool.eq_false_iff, Ne, inNames_iff]
        intro hm
        obtain ⟨j, hj, he⟩ := List.getElem_of_mem hm
        exact HA.out j hj (by omega) he)
      go_wp2
      go_ret
      exact ⟨by rw [HF.out]; rfl, rfl⟩

set_option maxRecDepth 100000 in
set_option maxHeartbeats 4000000 in
theorem rkcheck_any (v1 v2 v3 : Value) (fs : List Nm) (ts : List Tp) (l : List Fault) (w : World) (h1 : Nms w v1 fs) (h2 : Tps w v2 ts) (h3 : Flts w v3 l) (hs1 : fs.length * 40 ≤ 140737488351232) (hs2 : ts.length * 40 ≤ 140737488351232) (hs3 : ∀ j (hj : j < ts.length), ts[j].2.length * 24 ≤ 140737488351232) (hs4 : l.length ≤ maxLen) :
    Calls Tryz.prog 8 #[v1, v2, v3] w fun e w' => e = .returned (.int .i64 (checkE fs ts l)) ∧ Below w.heap.size w w' := by
  have H1 := hide h1
  have H2 := hide h2
  have H3 := hide h3
  have HS3 := hide hs3
  obtain ⟨a1, c1, rfl⟩ := h1.form
  obtain ⟨a2, c2, rfl⟩ := h2.form
  clear h1 h2 h3 hs3
  have HE1 : Hid (256 < fs.length + ts.length → checkE fs ts l = 3) := hide fun h => by unfold checkE; rw [if_pos h]
  have HE2 : Hid (¬ 256 < fs.length + ts.length → (kfiles [] fs).1 ≠ 0 → checkE fs ts l = (kfiles [] fs).1) := hide fun h h' => by unfold checkE; rw [if_neg h, if_neg h']
  have HE3 : Hid (¬ 256 < fs.length + ts.length → (kfiles [] fs).1 = 0 → kterms (kfiles [] fs).2 ts ≠ 0 → checkE fs ts l = kterms (kfiles [] fs).2 ts) := hide fun h h' h'' => by unfold checkE; rw [if_neg h, if_pos h', if_neg h'']
  have HE4 : Hid (¬ 256 < fs.length + ts.length → (kfiles [] fs).1 = 0 → kterms (kfiles [] fs).2 ts = 0 → checkE fs ts l = (chk l).1) := hide fun h h' h'' => by unfold checkE; rw [if_neg h, if_pos h', if_pos h'']
  generalize checkE fs ts l = E at *
  by_cases hc : 256 < fs.length + ts.length
  · have hd : (256 : Int) < (fs.length : Int) + (ts.length : Int) := by omega
    have HE := hide (HE1.out hc)
    clear HE1 HE2 HE3 HE4
    go_enter Tryz.func8, Tryz.ntmps8
    go_wp2
    go_ret
    exact ⟨by rw [HE.out]; rfl, Below.refl _ _⟩
  · have hd : ¬ (256 : Int) < (fs.length : Int) + (ts.length : Int) := by omega
    have HE2 := hide (HE2.out hc)
    have HE3 := hide (HE3.out hc)
    have HE4 := hide (HE4.out hc)
    obtain ⟨K, hK⟩ : ∃ K, K = kfiles [] fs := ⟨_, rfl⟩
    have HK := hide hK
    rw [← hK] at HE2 HE3 HE4
    clear hK HE1
    go_enter Tryz.func8, Tryz.ntmps8
    go_wp2
    go_loopw [7, 8] (fun nv i wr => ∃ (k : Nat) (ns : List ByteArray), k ≤ fs.length ∧ i = .int .i64 k ∧ ns.length = k ∧ Hid (wr.ownsRow w.heap.size 9 1 nv ns.length (ns.map .string)) ∧ Hid (kfiles ns (fs.drop k) = K) ∧ Below w.heap.size w wr) (fun _ i _ => fs.length - (intOf i).toNat)
    case atStart => exact ⟨0, [], Nat.zero_le _, rfl, rfl, World.ownsRow_nil _ _ _ _, by rw [HK.out]; rfl, Below.refl _ _⟩
    case round =>
      obtain ⟨k, ns, hk, rfl, hnl, HO, HF, hB⟩ := hrel
      obtain ⟨na, nc, rfl⟩ := owns_slice HO.out
      have hsz := hB.size
      have hnb : ns.length ≤ 256 := by omega
      have HNl := hide hnl
      clear hnl
      by_cases hlt : k < fs.length
      · obtain ⟨b, off, va, vc, rfl, hbl, q0, q1, -, -, hnm⟩ := H1.out.at k hlt
        have hc0 := (hB.cell (p := ⟨b, off + k * 2, none⟩) hbl).trans q0
        have hc1 := (hB.cell (p := ⟨b, off + k * 2 + 1, none⟩) hbl).trans q1
        have hF := HF.out
        rw [drop_at fs k hlt] at hF
        have hk1 : (0 : Int) ≤ (k : Int) := by omega
        have hk2 : (k : Int) < (fs.length : Int) := by omega
        clear q0 q1 HF
        generalize fs[k] = p at hc0 hc1 hnm hF
        obtain ⟨nm, L⟩ := p
        simp only at hc0 hc1 hnm
        rw [kfiles] at hF
        by_cases n1 : nameOk nm = false
        · rw [if_pos n1] at hF
          have HR := hide (HE2.out (by rw [← hF]; simp))
          have HK1 : Hid (K.1 = 61) := hide (by rw [← hF])
          have HN := hide n1
          clear hF n1
          go_wp2_with fail
          refine (named_any nm _ hnm).mono ?_
          rintro e w2 ⟨rfl, rfl⟩
          rw [HN.out]
          go_wp2
          go_ret
          exact ⟨by rw [HR.out, HK1.out]; rfl, hB⟩
        · rw [if_neg n1] at hF
          have HN : Hid (nameOk nm = true) := hide (by simpa using n1)
          clear n1
          by_cases n2 : inNames nm ns = true
          · rw [if_pos n2] at hF
            have HR := hide (HE2.out (by rw [← hF]; simp))
            have HK1 : Hid (K.1 = 6) := hide (by rw [← hF])
            have HN2 := hide n2
            clear hF n2
            go_wp2_with fail
            refine (named_any nm _ hnm).mono ?_
            rintro e w2 ⟨rfl, rfl⟩
            rw [HN.out]
            go_wp2_with fail
            refine (has_any _ _ ns nm _ HO.out (by unfold maxLen; omega)).mono ?_
            rintro e w2 ⟨rfl, rfl⟩
            rw [HN2.out]
            go_wp2
            go_ret
            exact ⟨by rw [HR.out, HK1.out]; rfl, hB⟩
          · rw [if_neg n2] at hF
            have HN2 : Hid (inNames nm ns = false) := hide (by simpa using n2)
            clear n2
            by_cases n3 : 1048576 < L.length
            · rw [if_pos n3] at hF
              have HR := hide (HE2.out (by rw [← hF]; simp))
              have HK1 : Hid (K.1 = 5) := hide (by rw [← hF])
              have d3 : (1048576 : Int) < (L.length : Int) := by omega
              clear hF
              go_wp2_with fail
              refine (named_any nm _ hnm).mono ?_
              rintro e w2 ⟨rfl, rfl⟩
              rw [HN.out]
              go_wp2_with fail
              refine (has_any _ _ ns nm _ HO.out (by unfold maxLen; omega)).mono ?_
              rintro e w2 ⟨rfl, rfl⟩
              rw [HN2.out]
              go_wp2
              go_ret
              exact ⟨by rw [HR.out, HK1.out]; rfl, hB⟩
            · rw [if_neg n3] at hF
              have d3 : ¬ (1048576 : Int) < (L.length : Int) := by omega
              have HF := hide hF
              clear hF
              have hBa : Below wr.heap.size wr (wr.alloc (Obj.cells #[.string nm] 9)) := (Below.refl _ _).alloc (Nat.le_refl _) _
              have hcu : (wr.alloc (Obj.cells #[.string nm] 9)).cell? ⟨wr.heap.size, 0, none⟩ = some (.string nm) := by simp only [World.cell?, heap_alloc_new]; rfl
              have hza := size_new wr (Obj.cells #[.string nm] 9)
              have HOa := hide (owns_below HO.out hBa)
              obtain ⟨s', w7, hrun, HO7, hg7⟩ := run_append_string (wr.alloc (Obj.cells #[.string nm] 9)) 107 w.heap.size _ ns.length _ wr.heap.size 1 nm HOa.out hcu (by omega) (by omega)
              have HR := hide hrun
              have hB0a := hB.trans (hBa.mono hsz)
              clear hrun hcu
              go_wp2_with fail
              refine (named_any nm _ hnm).mono ?_
              rintro e w2 ⟨rfl, rfl⟩
              rw [HN.out]
              go_wp2_with fail
              refine (has_any _ _ ns nm _ HO.out (by unfold maxLen; omega)).mono ?_
              rintro e w2 ⟨rfl, rfl⟩
              rw [HN2.out]
              go_wp2_with (at_builtin; refine Lib.wpList_append_run _ rfl _ _ _ _ rfl _ _ rfl rfl _ _ HR.out ?_)
              all_goals
                go_roundw
                case rel => exact ⟨k + 1, ns ++ [nm], by omega, by go_num, by simp [HNl.out], hide (by have := HO7.out; simpa using this), HF, hB0a.grown hg7 hB0a.size (fun j e => (HOa.out.lt j e).1)⟩
                case measure => simp [intOf]; omega
      · have hke : k = fs.length := by have := HNl.out; omega
        have hF := HF.out
        rw [List.drop_eq_nil_of_le (by omega), kfiles] at hF
        have HE3 := hide (HE3.out (by rw [← hF]))
        have HE4 := hide (HE4.out (by rw [← hF]))
        rw [← hF] at HE3 HE4
        obtain ⟨M, hM⟩ : ∃ M, M = kterms ns ts := ⟨_, rfl⟩
        have HM := hide hM
        have HE3 : Hid (M ≠ 0 → E = M) := hide (by rw [hM]; exact HE3.out)
        have HE4 : Hid (M = 0 → E = (chk l).1) := hide (by rw [hM]; exact HE4.out)
        have HBk := hide hnb
        clear hF HF HE2 HK hM hnb
        go_wp2
        go_loopw [7, 9, 10] (fun nv i _ wq => ∃ (k : Nat) (ms : List ByteArray), k ≤ ts.length ∧ i = .int .i64 k ∧ Hid (ms.length = fs.length + k) ∧ Hid (wq.ownsRow w.heap.size 9 1 nv ms.length (ms.map .string)) ∧ Hid (kterms ms (ts.drop k) = M) ∧ Below w.heap.size w wq) (fun _ i _ _ => ts.length - (intOf i).toNat)
        case atStart => exact ⟨0, ns, Nat.zero_le _, rfl, hide (by have := HNl.out; omega), HO, by rw [HM.out]; rfl, hB⟩
        case round =>
          rename_i hrel
          clear HO HM HNl HBk
          obtain ⟨k2, ms, hk, rfl, HNl, HO, HF, hB⟩ := hrel
          obtain ⟨na2, nc2, rfl⟩ := owns_slice HO.out
          have hsz := hB.size
          have hnb : ms.length ≤ 256 := by have := HNl.out; omega
          by_cases hlt : k2 < ts.length
          · obtain ⟨b, off, va, vc, rfl, hbl, q0, q1, hln, hnm⟩ := H2.out.at k2 hlt
            have hc0 := (hB.cell (p := ⟨b, off + k2 * 2, none⟩) hbl).trans q0
            have hc1 := (hB.cell (p := ⟨b, off + k2 * 2 + 1, none⟩) hbl).trans q1
            have hls := HS3.out k2 hlt
            have hF := HF.out
            rw [drop_at ts k2 hlt] at hF
            have hk1 : (0 : Int) ≤ (k2 : Int) := by omega
            have hk2 : (k2 : Int) < (ts.length : Int) := by omega
            clear q0 q1 HF
            generalize ts[k2] = p at hc0 hc1 hnm hF hln hls
            obtain ⟨nm, ls⟩ := p
            simp only at hc0 hc1 hnm hln hls
            have HLn := hide hln
            clear hln
            rw [kterms] at hF
            by_cases n1 : nameOk nm = false
            · rw [if_pos n1] at hF
              have HR := hide (HE3.out (by rw [← hF]; decide))
              have HK1 := hide hF
              have HN := hide n1
              clear hF n1
              go_wp2_with fail
              refine (named_any nm _ hnm).mono ?_
              rintro e w2 ⟨rfl, rfl⟩
              rw [HN.out]
              go_wp2
              go_ret
              exact ⟨by rw [HR.out, ← HK1.out]; rfl, hB⟩
            · rw [if_neg n1] at hF
              have HN : Hid (nameOk nm = true) := hide (by simpa using n1)
              clear n1
              by_cases n2 : inNames nm ms = true
              · rw [if_pos n2] at hF
                have HR := hide (HE3.out (by rw [← hF]; decide))
                have HK1 := hide hF
                have HN2 := hide n2
                clear hF n2
                go_wp2_with fail
                refine (named_any nm _ hnm).mono ?_
                rintro e w2 ⟨rfl, rfl⟩
                rw [HN.out]
                go_wp2_with fail
                refine (has_any _ _ ms nm _ HO.out (by unfold maxLen; omega)).mono ?_
                rintro e w2 ⟨rfl, rfl⟩
                rw [HN2.out]
                go_wp2
                go_ret
                exact ⟨by rw [HR.out, ← HK1.out]; rfl, hB⟩
              · rw [if_neg n2] at hF
                have HN2 : Hid (inNames nm ms = false) := hide (by simpa using n2)
                clear n2
                by_cases n3 : newE ls = 0
                · rw [if_pos n3] at hF
                  have HF := hide hF
                  have HN3 := hide n3
                  clear hF n3
                  have hBa : Below wr.heap.size wr (wr.alloc (Obj.cells #[.string nm] 9)) := (Below.refl _ _).alloc (Nat.le_refl _) _
                  have hcu : (wr.alloc (Obj.cells #[.string nm] 9)).cell? ⟨wr.heap.size, 0, none⟩ = some (.string nm) := by simp only [World.cell?, heap_alloc_new]; rfl
                  have hza := size_new wr (Obj.cells #[.string nm] 9)
                  have HOa := hide (owns_below HO.out hBa)
                  obtain ⟨s', w7, hrun, HO7, hg7⟩ := run_append_string (wr.alloc (Obj.cells #[.string nm] 9)) 107 w.heap.size _ ms.length _ wr.heap.size 1 nm HOa.out hcu (by omega) (by omega)
                  have HR := hide hrun
                  have hB0a := hB.trans (hBa.mono hsz)
                  clear hrun hcu
                  go_wp2_with fail
                  refine (named_any nm _ hnm).mono ?_
                  rintro e w2 ⟨rfl, rfl⟩
                  rw [HN.out]
                  go_wp2_with fail
                  refine (has_any _ _ ms nm _ HO.out (by unfold maxLen; omega)).mono ?_
                  rintro e w2 ⟨rfl, rfl⟩
                  rw [HN2.out]
                  go_wp2_with fail
                  refine (Te_check_any _ ls _ (HLn.out.below hB) hls).mono ?_
                  rintro e w2 ⟨rfl, rfl⟩
                  rw [HN3.out]
                  go_wp2_with (at_builtin; refine Lib.wpList_append_run _ rfl _ _ _ _ rfl _ _ rfl rfl _ _ HR.out ?_)
                  all_goals
                    go_roundw
                    case rel => exact ⟨k2 + 1, ms ++ [nm], by omega, by go_num, hide (by have := HNl.out; simp; omega), hide (by have := HO7.out; simpa using this), HF, hB0a.grown hg7 hB0a.size (fun j e => (HOa.out.lt j e).1)⟩
                    case measure => simp [intOf]; omega
                · rw [if_neg n3] at hF
                  obtain ⟨x, hx⟩ : ∃ x, x = newE ls := ⟨_, rfl⟩
                  have HR := hide (HE3.out (by rw [← hF]; exact n3))
                  have HK1 := hide hF
                  have HN3 : Hid (newE ls = x) := hide hx.symm
                  rw [← hx] at n3
                  have n3' : (x != 0) = true := by simpa using n3
                  clear hF hx
                  go_wp2_with fail
                  refine (named_any nm _ hnm).mono ?_
                  rintro e w2 ⟨rfl, rfl⟩
                  rw [HN.out]
                  go_wp2_with fail
                  refine (has_any _ _ ms nm _ HO.out (by unfold maxLen; omega)).mono ?_
                  rintro e w2 ⟨rfl, rfl⟩
                  rw [HN2.out]
                  go_wp2_with fail
                  refine (Te_check_any _ ls _ (HLn.out.below hB) hls).mono ?_
                  rintro e w2 ⟨rfl, rfl⟩
                  rw [HN3.out]
                  go_wp2
                  go_ret
                  exact ⟨by rw [HR.out, ← HK1.out, HN3.out]; rfl, hB⟩
          · have hF := HF.out
            rw [List.drop_eq_nil_of_le (by omega), kterms] at hF
            have HR := hide (HE4.out hF.symm)
            clear hF HF
            go_wp2_with fail
            refine (rcheck_any _ l _ (H3.out.below hB) hs4).mono ?_
            rintro e w5 ⟨rfl, hB5⟩
            go_wp2
            go_ret
            exact ⟨by rw [HR.out]; rfl, hB.trans (hB5.mono hsz)⟩
end Go.Proofs.YtkkicbhmcjbmbaaGreat

/- A kernel by the page: what it is, as a value; what lies in memory for the reference's kernel. -/
namespace Go.Proofs.YtkkicbhmcjbmbaaGreat
open Go.RowKit

inductive Tag where
  | kern
  | trow
  | drow
  | plan
  | thing (i : Nat)
  | obj (i : Nat)
  | desc (n : Nat)
/-- Where the reference's kernel lies: its block, its two rows, its plan and that one's list; the blocks of things, objects and descriptions. -/
structure RI where
  kb : Nat
  vT : Value
  vD : Value
  pb : Nat
  pv : Value
  tb : Nat → Nat
  ob : Nat → Nat
  db : Nat → Nat
/-- The cells of a thing whose object lies at block o. -/
def tcells (t : Th) (o : Nat) : List Value :=
  match t.ob with
  | .file _ => [.string t.name, .int .i64 1, .pointer (some ⟨o, 0, none⟩), .pointer none, .pointer none]
  | .term _ _ => [.string t.name, .int .i64 2, .pointer none, .pointer (some ⟨o, 0, none⟩), .pointer none]
  | .pipe _ _ _ => [.string t.name, .int .i64 3, .pointer none, .pointer none, .pointer (some ⟨o, 0, none⟩)]
/-- What each part of the reference's kernel is; its blocks bear its mark. -/
def RComp (W : World) (_ : Nat → Prop) (ρ : Nat → Option Tag) (I : RI) (K : KS) : Tag → Prop
  | .kern => W.heap[I.kb]? = some (.cells ([I.vT, I.vD, .int .i64 K.next, .pointer (some ⟨I.pb, 0, none⟩), .int .i64 K.reads, .int .i64 K.writes] : List Value).toArray 133 (0, 0)) ∧ ρ I.kb = some .kern
  | .trow => W.ownsRow 0 173 1 I.vT K.nm.length (K.nm.map fun i => .pointer (some ⟨I.tb i, 0, none⟩)) ∧ ∀ k, I.vT.ownBlock = some k → ρ k = some .trow
  | .drow => W.ownsRow 0 219 1 I.vD K.de.length (K.de.map fun d => .pointer (some ⟨I.db d.n, 0, none⟩)) ∧ ∀ k, I.vD.ownBlock = some k → ρ k = some .drow
  | .plan => RPlanAt W I.pb I.pv K.plan ∧ ρ I.pb = some .plan ∧ ∀ k, I.pv.ownBlock = some k → ρ k = some .plan
  | .thing i => ∀ (h : i < K.th.length), W.heap[I.tb i]? = some (.cells (tcells K.th[i] (I.ob i)).toArray 180 (0, 0)) ∧ ρ (I.tb i) = some (.thing i)
  | .obj i => ∀ (h : i < K.th.length), RObj W (fun k => ρ k = some (.obj i)) (I.ob i) K.th[i].ob ∧ K.th[i].ob.ok
  | .desc n => ∀ d ∈ K.de, d.n = n → W.heap[I.db n]? = some (.cells ([.int .i64 n, .pointer (some ⟨I.tb d.th, 0, none⟩), .int .i64 d.flags, .int .i64 d.pos, .int .i64 d.held] : List Value).toArray 222 (0, 0)) ∧ ρ (I.db n) = some (.desc n)
theorem RComp.keep {W W' : World} {B : Nat → Prop} {ρ : Nat → Option Tag} {I : RI} {K : KS} {t : Tag} (h : RComp W B ρ I K t) (hk : ∀ k, ρ k = some t → k < W.heap.size → W'.heap[k]? = W.heap[k]?) (hs : W.heap.size ≤ W'.heap.size) : RComp W' B ρ I K t := by
  have lt : ∀ {k o}, W.heap[k]? = some o → k < W.heap.size := fun e => (Array.getElem?_eq_some_iff.1 e).1
  cases t with
  | kern => exact ⟨(hk _ h.2 (lt h.1)).trans h.1, h.2⟩
  | trow => exact ⟨owns_keep h.1 fun k e => hk k (h.2 k e) (h.1.lt k e).2, h.2⟩
  | drow => exact ⟨owns_keep h.1 fun k e => hk k (h.2 k e) (h.1.lt k e).2, h.2⟩
  | plan => exact ⟨h.1.keep fun k hlt e => by
      rcases e with rfl | e
      · exact hk _ h.2.1 hlt
      · exact hk k (h.2.2 k e) hlt, h.2⟩
  | thing i => exact fun hi => ⟨(hk _ (h hi).2 (lt (h hi).1)).trans (h hi).1, (h hi).2⟩
  | obj i => exact fun hi => ⟨(h hi).1.keep (fun k e hlt => hk k e hlt) hs, (h hi).2⟩
  | desc n => exact fun d hd e => ⟨(hk _ (h d hd e).2 (lt (h d hd e).1)).trans (h d hd e).1, (h d hd e).2⟩
/-- The reference's kernel K lies in memory. -/
structure RK (W : World) (B : Nat → Prop) (ρ : Nat → Option Tag) (I : RI) (K : KS) : Prop where
  comp : ∀ t, RComp W B ρ I K t
  lt : ∀ k t, ρ k = some t → B k ∧ k < W.heap.size
  ok : KOk K
  up : ∀ k, W.heap.size ≤ k → B k
theorem RK.below {W W' : World} {B : Nat → Prop} {ρ : Nat → Option Tag} {I : RI} {K : KS} (h : RK W B ρ I K) (hB : Below W.heap.size W W') : RK W' B ρ I K :=
  ⟨fun t => (h.comp t).keep (fun k _ hlt => hB.block k hlt) hB.size, fun k t e => ⟨(h.lt k t e).1, Nat.lt_of_lt_of_le (h.lt k t e).2 hB.size⟩, h.ok, fun k e => h.up k (Nat.le_trans hB.size e)⟩
/-- The same kernel: its blocks are those that it has marked, and the new ones. -/
theorem RK.own {W : World} {B : Nat → Prop} {ρ : Nat → Option Tag} {I : RI} {K : KS} (h : RK W B ρ I K) : RK W (fun k => (∃ t, ρ k = some t) ∨ W.heap.size ≤ k) ρ I K :=
  ⟨fun t => by have := h.comp t; cases t <;> exact this, fun k t e => ⟨.inl ⟨t, e⟩, (h.lt k t e).2⟩, h.ok, fun _ e => .inr e⟩

set_option maxRecDepth 100000 in
set_option maxHeartbeats 2000000 in
theorem rfind_any (B : Nat → Prop) (ρ : Nat → Option Tag) (I : RI) (K : KS) (d : Int) (w : World) (h : RK w B ρ I K) :
    Calls Tryz.prog 136 #[.pointer (some ⟨I.kb, 0, none⟩), .int .i64 d] w fun e w' => e = .returned (.pointer ((K.find d).map fun x => ⟨I.db x.n, 0, none⟩)) ∧ w' = w := by
  have hb := (h.comp .kern).1
  have c1 : w.cell? ⟨I.kb, 1, none⟩ = some I.vD := by rw [cell_of_row w I.kb 1 _ _ _ hb]; rfl
  have HD := hide (h.comp .drow).1
  have HC := hide fun n => h.comp (.desc n)
  have hfew := h.ok.few
  obtain ⟨va, vc, hv⟩ := owns_slice (h.comp .drow).1
  rw [hv] at c1 HD
  clear h hb hv
  obtain ⟨R, hR⟩ : ∃ R, R = (K.find d).map fun x => (⟨I.db x.n, 0, none⟩ : Addr) := ⟨_, rfl⟩
  rw [← hR]
  have HR := hide hR
  clear hR
  go_enter Tryz.func136, Tryz.ntmps136
  go_wp2
  go_loop [5] (fun i => ∃ k : Nat, k ≤ K.de.length ∧ i = .int .i64 k ∧ Hid (∀ j (hj : j < K.de.length), j < k → ((K.de[j].n : Nat) : Int) ≠ d)) (fun i => K.de.length - (intOf i).toNat)
  case atStart => exact ⟨0, Nat.zero_le _, rfl, fun _ _ h => by omega⟩
  case round =>
    obtain ⟨k, hk, rfl, HA⟩ := hrel
    by_cases hlt : k < K.de.length
    · obtain ⟨b, rfl⟩ : ∃ b, va = some ⟨b, 0, none⟩ := by
        rcases HD.out.2 with ⟨h0, _⟩ | ⟨g, cap, cur, h1, _⟩
        · simp only [Value.slice.injEq] at h0; omega
        · simp only [Value.slice.injEq] at h1; exact ⟨g, h1.1⟩
      have hcell := HD.out.cellAt k (by simpa using hlt)
      rw [List.getElem?_map, List.getElem?_eq_getElem hlt] at hcell
      simp only [Option.map_some] at hcell
      have hbk := (HC.out K.de[k].n K.de[k] (List.getElem_mem _) rfl).1
      have hn : w.cell? ⟨I.db K.de[k].n, 0, none⟩ = some (.int .i64 K.de[k].n) := by rw [cell_of_row w _ 0 _ _ _ hbk]; rfl
      have hk1 : (0 : Int) ≤ (k : Int) := by omega
      have hk2 : (k : Int) < (K.de.length : Int) := by omega
      clear hbk
      obtain ⟨x, hx⟩ : ∃ x, x = K.de[k] := ⟨_, rfl⟩
      rw [← hx] at hcell hn
      have HX := hide hx
      clear hx
      by_cases he : ((x.n : Nat) : Int) = d
      · have HF : Hid (R = some ⟨I.db x.n, 0, none⟩) := hide (by
          rw [HR.out, show K.find d = some x by
            unfold KS.find
            rw [List.find?_eq_some_iff_getElem]
            exact ⟨by simpa using he, k, hlt, HX.out.symm, fun j hj => by simpa using HA.out j (by omega) hj⟩]
          rfl)
        have he2 : (((x.n : Nat) : Int) == d) = true := by simpa using he
        go_wp2
        go_ret
        exact ⟨by rw [HF.out]; rfl, rfl⟩
      · have he2 : (((x.n : Nat) : Int) == d) = false := by simpa using he
        go_wp2
        all_goals
          go_round
          case rel =>
            refine ⟨k + 1, by omega, by go_num, fun j hj hjk => ?_⟩
            rcases Nat.lt_or_ge j k with h | h
            · exact HA.out j hj h
            · obtain rfl : j = k := by omega
              rw [← HX.out]
              exact he
          case measure => simp [intOf]; omega
    · have HF : Hid (R = none) := hide (by
        rw [HR.out, show K.find d = none by
          unfold KS.find
          rw [List.find?_eq_none]
          intro x hx
          obtain ⟨j, hj, rfl⟩ := List.getElem_of_mem hx
          simpa using HA.out j hj (by omega)]
        rfl)
      go_wp2
      go_ret
      exact ⟨by rw [HF.out]; rfl, rfl⟩
end Go.Proofs.YtkkicbhmcjbmbaaGreat

/- The reference's kernel: what a description that is found leads to; Kind, Held, CanRead, CanWrite, Keep. -/
namespace Go.Proofs.YtkkicbhmcjbmbaaGreat
open Go.RowKit

/-- What is told of a description x that is there. -/
structure DeAt (W : World) (I : RI) (K : KS) (x : De) : Prop where
  t : W.cell? ⟨I.db x.n, 1, none⟩ = some (.pointer (some ⟨I.tb x.th, 0, none⟩))
  f : W.cell? ⟨I.db x.n, 2, none⟩ = some (.int .i64 x.flags)
  p : W.cell? ⟨I.db x.n, 3, none⟩ = some (.int .i64 x.pos)
  h : W.cell? ⟨I.db x.n, 4, none⟩ = some (.int .i64 x.held)
  soft : ∀ j, W.frozen? ⟨I.db x.n, j, none⟩ = false
  lt : x.th < K.th.length
  kind : W.cell? ⟨I.tb x.th, 1, none⟩ = some (.int .i64 (K.tho x).kind)
theorem RK.de {W : World} {B : Nat → Prop} {ρ : Nat → Option Tag} {I : RI} {K : KS} (h : RK W B ρ I K) {x : De} (hx : x ∈ K.de) : DeAt W I K x := by
  have h1 := (h.comp (.desc x.n) x hx rfl).1
  have hl := h.ok.th x hx
  have h2 := (h.comp (.thing x.th) hl).1
  refine ⟨?_, ?_, ?_, ?_, fun j => frozen_of_row W _ j _ _ h1, hl, ?_⟩
  · rw [cell_of_row W _ 1 _ _ _ h1]; rfl
  · rw [cell_of_row W _ 2 _ _ _ h1]; rfl
  · rw [cell_of_row W _ 3 _ _ _ h1]; rfl
  · rw [cell_of_row W _ 4 _ _ _ h1]; rfl
  · rw [cell_of_row W _ 1 _ _ _ h2, KS.tho_eq hl]
    cases h3 : K.th[x.th].ob <;> simp [tcells, h3, Ob.kind]
theorem RK.robj {W : World} {B : Nat → Prop} {ρ : Nat → Option Tag} {I : RI} {K : KS} (h : RK W B ρ I K) {x : De} (hx : x ∈ K.de) : RObj W (fun k => ρ k = some (.obj x.th)) (I.ob x.th) (K.tho x) ∧ (K.tho x).ok := by
  have hl := h.ok.th x hx
  rw [KS.tho_eq hl]
  exact h.comp (.obj x.th) hl
theorem RK.ptr {W : World} {B : Nat → Prop} {ρ : Nat → Option Tag} {I : RI} {K : KS} (h : RK W B ρ I K) {x : De} (hx : x ∈ K.de) :
    (∀ b, K.tho x = .file b → W.cell? ⟨I.tb x.th, 2, none⟩ = some (.pointer (some ⟨I.ob x.th, 0, none⟩))) ∧ (∀ ls scr, K.tho x = .term ls scr → W.cell? ⟨I.tb x.th, 3, none⟩ = some (.pointer (some ⟨I.ob x.th, 0, none⟩))) ∧ (∀ q rd wt, K.tho x = .pipe q rd wt → W.cell? ⟨I.tb x.th, 4, none⟩ = some (.pointer (some ⟨I.ob x.th, 0, none⟩))) := by
  have hl := h.ok.th x hx
  have h2 := (h.comp (.thing x.th) hl).1
  rw [KS.tho_eq hl]
  refine ⟨fun b e => ?_, fun ls scr e => ?_, fun q rd wt e => ?_⟩
  · rw [cell_of_row W _ 2 _ _ _ h2]; simp [tcells, e]
  · rw [cell_of_row W _ 3 _ _ _ h2]; simp [tcells, e]
  · rw [cell_of_row W _ 4 _ _ _ h2]; simp [tcells, e]

set_option maxHeartbeats 1000000 in
theorem rkind_any (B : Nat → Prop) (ρ : Nat → Option Tag) (I : RI) (K : KS) (d : Int) (w : World) (h : RK w B ρ I K) :
    Calls Tryz.prog 73 #[.pointer (some ⟨I.kb, 0, none⟩), .int .i64 d] w fun e w' => e = .returned (.int .i64 (K.kindOf d)) ∧ w' = w := by
  have HF := hide (rfind_any B ρ I K d w h)
  cases hx : K.find d with
  | none =>
    rw [hx] at HF
    rw [show K.kindOf d = 0 by unfold KS.kindOf; rw [hx]]
    clear h
    go_enter Tryz.func73, Tryz.ntmps73
    go_wp2_with fail
    refine HF.out.mono ?_
    rintro e w1 ⟨rfl, rfl⟩
    go_wp2
    go_ret
    exact ⟨rfl, rfl⟩
  | some x =>
    rw [hx] at HF
    have hd := h.de (KS.find_some hx).1
    have c1 := hd.t
    have c2 := hd.kind
    rw [show K.kindOf d = (K.tho x).kind by unfold KS.kindOf; rw [hx]]
    generalize (K.tho x).kind = y at *
    clear h hd
    go_enter Tryz.func73, Tryz.ntmps73
    go_wp2_with fail
    refine HF.out.mono ?_
    rintro e w1 ⟨rfl, rfl⟩
    simp only [Option.map_some]
    go_wp2
    go_ret
    exact ⟨rfl, rfl⟩

set_option maxRecDepth 100000 in
set_option maxHeartbeats 1000000 in
theorem rkcanRead_any (B : Nat → Prop) (ρ : Nat → Option Tag) (I : RI) (K : KS) (d : Int) (w : World) (h : RK w B ρ I K) :
    Calls Tryz.prog 75 #[.pointer (some ⟨I.kb, 0, none⟩), .int .i64 d] w fun e w' => e = .returned (.bool (K.canRead d)) ∧ w' = w := by
  have HF := hide (rfind_any B ρ I K d w h)
  cases hx : K.find d with
  | none =>
    rw [hx] at HF
    rw [KS.canRead_none hx]
    clear h
    go_enter Tryz.func75, Tryz.ntmps75
    go_wp2_with fail
    refine HF.out.mono ?_
    rintro e w1 ⟨rfl, rfl⟩
    go_wp2
    go_ret
    exact ⟨rfl, rfl⟩
  | some x =>
    rw [hx] at HF
    rw [KS.canRead_some hx]
    have hm := (KS.find_some hx).1
    have hd := h.de hm
    have c1 := hd.t
    have c2 := hd.kind
    have c3 := hd.f
    have hp := h.ptr hm
    have HO := hide (h.robj hm).1
    clear hd h
    obtain ⟨v, hv⟩ : ∃ v, bits .and .i64 x.flags 1 = v := ⟨_, rfl⟩
    rw [show fbit x.flags 1 = v from hv]
    by_cases k0 : v = 0
    · subst k0
      rw [show (!((0 : Int) == 0)) = false by decide, Bool.false_and]
      clear hp
      go_enter Tryz.func75, Tryz.ntmps75
      go_wp2_with fail
      refine HF.out.mono ?_
      rintro e w1 ⟨rfl, rfl⟩
      simp only [Option.map_some]
      go_wp2
      go_ret
      exact ⟨rfl, rfl⟩
    · have m0 : (v == 0) = false := by simpa using k0
      have m0' : (v != 0) = true := by simpa using k0
      rw [m0, Bool.not_false, Bool.true_and]
      cases ho : K.tho x with
      | file b =>
        rw [ho] at c2
        simp only [Ob.kind] at c2
        show Calls _ _ _ _ fun e w' => e = .returned (.bool true) ∧ w' = w
        clear hp HO
        go_enter Tryz.func75, Tryz.ntmps75
        go_wp2_with fail
        refine HF.out.mono ?_
        rintro e w1 ⟨rfl, rfl⟩
        simp only [Option.map_some]
        go_wp2
        go_ret
        exact ⟨rfl, rfl⟩
      | term ls scr =>
        rw [ho] at c2
        simp only [Ob.kind] at c2
        show Calls _ _ _ _ fun e w' => e = .returned (.bool true) ∧ w' = w
        clear hp HO
        go_enter Tryz.func75, Tryz.ntmps75
        go_wp2_with fail
        refine HF.out.mono ?_
        rintro e w1 ⟨rfl, rfl⟩
        simp only [Option.map_some]
        go_wp2
        go_ret
        exact ⟨rfl, rfl⟩
      | pipe q rd wt =>
        rw [ho] at c2 HO
        simp only [Ob.kind] at c2
        have c4 := hp.2.2 q rd wt ho
        have HC := hide (ob_pcanRead _ _ q rd wt w HO.out)
        clear hp
        show Calls _ _ _ _ fun e w' => e = .returned (.bool (canR q.length rd wt)) ∧ w' = w
        generalize canR q.length rd wt = y at *
        go_enter Tryz.func75, Tryz.ntmps75
        go_wp2_with fail
        refine HF.out.mono ?_
        rintro e w1 ⟨rfl, rfl⟩
        simp only [Option.map_some]
        go_wp2_with fail
        refine HC.out.mono ?_
        rintro e w1 ⟨rfl, rfl⟩
        go_wp2
        go_ret
        exact ⟨rfl, rfl⟩
end Go.Proofs.YtkkicbhmcjbmbaaGreat

/- FileOwn: the walk. -/
import Derived.Test.YtdhdbakkhmmpjaaFiAlive
namespace Go.Proofs.Ytdhdbakkhmmpjaa
open Go.RowKit

theorem FileAt.turned {S : Nat → Prop} {W W' : World} {g b cap : Nat} {l : List UInt8} (h : FileAt W g b cap l) (hT : Turned S W W') (hg : ¬ S g) (hb : ¬ S b) : FileAt W' g b cap l :=
  h.keep (hT.block g h.lt hg) (hT.block b h.row.lt hb)
theorem owns_turned {S : Nat → Prop} {W W' : World} {base e size n : Nat} {v : Value} {xs : List Value} (h : W.ownsRow base e size v n xs) (hT : Turned S W W') (hS : ∀ k, v.ownBlock = some k → ¬ S k) : W'.ownsRow base e size v n xs :=
  owns_keep h fun k hk => hT.block k (h.lt k hk).2 (hS k hk)
theorem Bys.turned {S : Nat → Prop} {W W' : World} {v : Value} {l : List UInt8} (h : Bys W v l) (hT : Turned S W W') (hS : ∀ k, v.ownBlock = some k → k < W.heap.size → ¬ S k) : Bys W' v l :=
  h.keep fun k hk hlt => hT.block k hlt (hS k hk hlt)

set_option maxRecDepth 100000 in
set_option maxHeartbeats 1000000 in
theorem spoil_turn (base : Nat) (v : Value) (n : Nat) (xs : List Value) (w : World) (h : w.ownsRow base 5 1 v n xs) (hx : ∀ u ∈ xs, ∃ c, u = .int .u8 c) (hs : n ≤ maxLen) :
    Calls Try.prog 23 #[v] w fun e w' => e = .returned (.tuple #[]) ∧ Turned (fun k => v.ownBlock = some k) w w' := by
  unfold maxLen at hs
  rcases h.2 with ⟨rfl, h0⟩ | ⟨g, cap, cur, rfl, hbg, -⟩
  · go_enter Try.func23, Try.ntmps23
    go_wp2
    go_loopw [2] (fun i wr => i = .int .i64 0 ∧ wr = w) (fun _ _ => 0)
    case atStart => exact ⟨rfl, rfl⟩
    case round =>
      obtain ⟨rfl, rfl⟩ := hrel
      go_wp2
      go_end0
      exact ⟨rfl, Turned.refl _ _⟩
  · have HO := hide h
    have HX := hide hx
    have hlen : xs.length = n := by have := h.1; omega
    clear h hx
    go_enter Try.func23, Try.ntmps23
    go_wp2
    go_loopw [2] (fun i wr => ∃ (k : Nat) (ys : List Value), k ≤ n ∧ i = .int .i64 k ∧ ys.length = n ∧ (∀ u ∈ ys, ∃ c, u = .int .u8 c) ∧ wr.ownsRow base 5 1 (.slice (some ⟨g, 0, none⟩) n cap) n ys ∧ Turned (fun k => (Value.slice (some ⟨g, 0, none⟩) n cap).ownBlock = some k) w wr) (fun i _ => n - (intOf i).toNat)
    case atStart => exact ⟨0, xs, Nat.zero_le _, rfl, hlen, HX.out, HO.out, Turned.refl _ _⟩
    case round =>
      clear HO HX hlen
      obtain ⟨k, ys, hk, rfl, hlen, hys, hown, hT⟩ := hrel
      have HT := hide hT
      clear hT
      by_cases hlt : k < n
      · obtain ⟨c, hc⟩ := hys ys[k] (List.getElem_mem _)
        have hcell := hown.cellAt k (by omega)
        rw [List.getElem?_eq_getElem (by omega), hc] at hcell
        have hfr := hown.frozenAt k
        have HY := hide hys
        have HO := hide hown
        have HL := hide hlen
        clear hys hown hc hlen
        go_wp2
        go_roundw
        case rel =>
          obtain ⟨hst, hgr⟩ := HO.out.stored k (Value.int .u8 (bits .xor .u8 c 85))
          refine ⟨k + 1, _, by omega, by go_num, ?_, ?_, hst, set_turn HT.out (.inl rfl)⟩
          · rw [List.length_set]; exact HL.out
          · intro u hu
            rcases List.mem_or_eq_of_mem_set hu with h | h
            · exact HY.out u h
            · exact ⟨_, h⟩
        case measure => simp [intOf]; omega
      · go_wp2
        go_end0
        exact ⟨rfl, HT.out⟩
theorem bv_ints (l : List UInt8) : ∀ u ∈ l.map bv, ∃ c, u = .int .u8 c := by
  intro u hu
  obtain ⟨c, _, rfl⟩ := List.mem_map.1 hu
  exact ⟨_, rfl⟩

set_option maxRecDepth 100000 in
set_option maxHeartbeats 4000000 in
theorem own_walk (v : Value) (l : List UInt8) (xa xb xc : Int) (va : Option Addr) (vl vc : Nat) (x : List UInt8) (w : World) (h : Bys w v l) (hx : Bys w (.slice va vl vc) x) (hs : l.length ≤ 140737488351232) (hxs : x.length ≤ 140737488351232) :
    Calls Try.prog 5 #[v, .agg #[.int .i64 xa, .int .i64 xb, .int .i64 xc, .slice va vl vc]] w fun e w' => e = .returned (.bool true) ∧ Below w.heap.size w w' := by
  have H0 := hide h
  obtain ⟨a1, c1, rfl, -⟩ := bys_form h
  clear h
  have hBa : Below w.heap.size w (w.alloc (Obj.cells #[.int .i64 xa, .int .i64 xb, .int .i64 xc, .slice va vl vc] 34)) := (Below.refl _ _).alloc (Nat.le_refl _) _
  have hq0 : (w.alloc (Obj.cells #[.int .i64 xa, .int .i64 xb, .int .i64 xc, .slice va vl vc] 34)).cell? ⟨w.heap.size, 1, none⟩ = some (.int .i64 xb) := by simp only [World.cell?, heap_alloc_new]; rfl
  have hq1 : (w.alloc (Obj.cells #[.int .i64 xa, .int .i64 xb, .int .i64 xc, .slice va vl vc] 34)).cell? ⟨w.heap.size, 3, none⟩ = some (.slice va vl vc) := by simp only [World.cell?, heap_alloc_new]; rfl
  have hsz0 := size_new w (Obj.cells #[.int .i64 xa, .int .i64 xb, .int .i64 xc, .slice va vl vc] 34)
  have HX0 := hide (hx.below hBa)
  have HB0 := hide (H0.out.below hBa)
  have HQ0 := hide hq0
  have HQ1 := hide hq1
  clear hx hq0 hq1
  go_enter Try.func5, Try.ntmps5
  go_wp2_with fail
  generalize w.alloc (Obj.cells #[.int .i64 xa, .int .i64 xb, .int .i64 xc, .slice va vl vc] 34) = w0 at *
  refine (alive_any _).mono ?_
  rintro e w1 ⟨rfl, hB1⟩
  go_wp2_with fail
  refine (nothing_any _ _ (isMade_nil _)).mono ?_
  rintro e w2 ⟨rfl, rfl⟩
  go_wp2_with fail
  refine (nothing_any _ _ (isMade_no _ _ (by simp only [World.cell?, heap_alloc_new]; rfl))).mono ?_
  rintro e w2 ⟨rfl, rfl⟩
  have hB2 := hB1.alloc hB1.size (Obj.cells #[Value.bool false, Value.slice none 0 0] 54)
  generalize w2.alloc (Obj.cells #[Value.bool false, Value.slice none 0 0] 54) = w2a at *
  clear hB1
  go_wp2_with fail
  refine (copy_any _ l _ (HB0.out.below hB2) hs).mono ?_
  rintro e w3 ⟨vo, rfl, hown, hB3⟩
  obtain ⟨ao, co, rfl⟩ := owns_slice hown
  have HO := hide hown
  have hB03 := hB2.trans (hB3.mono hB2.size)
  clear hown
  by_cases hl : l.length ≤ 1048576
  · go_wp2_with fail
    refine (new_good _ l _ (Bys.of_owns HO.out) hl).mono ?_
    rintro e w4 ⟨g, rfl, hF, hg, hB4⟩
    have hz2 := hB2.size
    have hz3 := hB3.size
    have hz4 := hB4.size
    have hB04 := hB03.trans (hB4.mono hB03.size)
    have HF := hide hF
    have HO4 := hide (owns_below HO.out hB4)
    have hlo := HO.out.lt
    have hgl := hF.lt
    clear hF HO
    go_wp2_with fail
    refine (num_any _ _).mono ?_
    rintro e w5 ⟨rfl, rfl⟩
    go_wp2_with fail
    refine (spoil_turn _ _ _ _ _ HO4.out (bv_ints l) (by unfold maxLen; omega)).mono ?_
    rintro e w6 ⟨rfl, hT6⟩
    have HF6 := hide (HF.out.turned hT6 (fun e => by have := hlo _ e; omega) (fun e => by have := hlo _ e; omega))
    have hB06 := hB04.trans (hT6.below (B := w0.heap.size) (fun k e => by have := hlo _ e; omega) (by omega))
    have hz6 := hT6.size
    clear HF HO4 hT6 hB04 hB4 hB03 hB3
    generalize w3.heap.size = b0 at *
    go_wp2_with fail
    refine (readAt_good g b0 _ l 0 l.length _ HF6.out hl (by omega) (by omega)).mono ?_
    rintro e w7 ⟨q7, rfl, hown7, hB7⟩
    have HF7 := hide (HF6.out.below hB7)
    have hB07 := hB06.trans (hB7.mono hB06.size)
    have HO7 := hide hown7
    have hlo7 := hown7.lt
    have hz7 := hB7.size
    have hg6 := HF6.out.lt
    have hb6 := HF6.out.row.lt
    have hpl : (piece l 0 l.length).length ≤ 1048576 := by rw [piece_len]; omega
    clear hown7 HF6 hB06 hB7 hlo
    generalize piece l 0 l.length = P at *
    go_wp2_with fail
    refine (spoil_turn _ _ _ _ _ HO7.out (bv_ints P) (by unfold maxLen; omega)).mono ?_
    rintro e w8 ⟨rfl, hT8⟩
    have HF8 := hide (HF7.out.turned hT8 (fun e => by have := hlo7 _ e; omega) (fun e => by have := hlo7 _ e; omega))
    have hB08 := hB07.trans (hT8.below (B := w0.heap.size) (fun k e => by have := hlo7 _ e; omega) (by omega))
    have hz8 := hT8.size
    clear HF7 HO7 hT8 hB07 hlo7 hpl
    go_wp2_with fail
    refine (bytes_any g b0 _ l _ HF8.out hl).mono ?_
    rintro e w9 ⟨rfl, hown9, hB9⟩
    have HF9 := hide (HF8.out.below hB9)
    have hB09 := hB08.trans (hB9.mono hB08.size)
    have HO9 := hide hown9
    have hlo9 := hown9.lt
    have hz9 := hB9.size
    have hg8 := HF8.out.lt
    have hb8 := HF8.out.row.lt
    clear hown9 HF8 hB08 hB9
    go_wp2_with fail
    refine (spoil_turn _ _ _ _ _ HO9.out (bv_ints l) (by unfold maxLen; omega)).mono ?_
    rintro e wa ⟨rfl, hTa⟩
    have HFa := hide (HF9.out.turned hTa (fun e => by have := hlo9 _ e; omega) (fun e => by have := hlo9 _ e; omega))
    have hB0a := hB09.trans (hTa.below (B := w0.heap.size) (fun k e => by have := hlo9 _ e; omega) (by omega))
    have hza := hTa.size
    clear HF9 HO9 hTa hB09 hlo9
    go_wp2_with fail
    refine (bytes_any g b0 _ l _ HFa.out hl).mono ?_
    rintro e wb ⟨rfl, hownb, hBb⟩
    have HFb := hide (HFa.out.below hBb)
    have hB0b := hB0a.trans (hBb.mono hB0a.size)
    have HOb := hide hownb
    have hzb := hBb.size
    clear hownb HFa hB0a
    go_wp2_with fail
    refine (same_any _ _ l _ (Bys.of_owns HOb.out) (HB0.out.below hB0b) (by unfold maxLen; omega)).mono ?_
    rintro e wc ⟨rfl, hBc⟩
    have HFc := hide (HFb.out.below hBc)
    have hB0c := hB0b.trans (hBc.mono hB0b.size)
    have hzc := hBc.size
    have q1 := (hB0c.cell (p := ⟨w.heap.size, 3, none⟩) hsz0).trans HQ1.out
    clear HFb HOb hB0b hBb hBc
    go_wp2_with fail
    refine (copy_any _ x _ (HX0.out.below hB0c) hxs).mono ?_
    rintro e wd ⟨vd, rfl, hownd, hBd⟩
    obtain ⟨ad, cd, rfl⟩ := owns_slice hownd
    have HFd := hide (HFc.out.below hBd)
    have hB0d := hB0c.trans (hBd.mono hB0c.size)
    have HOd := hide hownd
    have hlod := hownd.lt
    have hzd := hBd.size
    have hgc := HFc.out.lt
    have hbc := HFc.out.row.lt
    have q2 := (hB0d.cell (p := ⟨w.heap.size, 1, none⟩) hsz0).trans HQ0.out
    clear hownd HFc hB0c hBd q1
    go_wp2_with fail
    refine (writeAt_any g b0 _ l xb _ x _ HFd.out (Bys.of_owns HOd.out) (fun _ k e => by have := hlod k e; omega)).mono ?_
    rintro e we ⟨rfl, be, cape, hFe, hbe, hTe⟩
    have hB0e := hB0d.trans (hTe.below (B := w0.heap.size) (fun k e => by omega) (by omega))
    have HFe := hide hFe
    have hze := hTe.size
    have hgd := HFd.out.lt
    have hbd := HFd.out.row.lt
    have HOe := hide (owns_turned HOd.out hTe (fun k e => by have := hlod k e; omega))
    have hLl := wrL_len (off := xb) (x := x) hl
    have HW : Hid (wrE xb x.length = 0 ∨ wrE xb x.length ≠ 0 ∧ wrL l xb x = l) := hide (by
      by_cases h0 : wrE xb x.length = 0
      · exact .inl h0
      · exact .inr ⟨h0, by rw [wrL, if_neg h0]⟩)
    generalize wrE xb x.length = E at *
    generalize wrL l xb x = L at *
    clear hFe HFd HOd hTe hB0d q2
    go_wp2_with fail
    refine (bytes_any g be _ L _ HFe.out hLl).mono ?_
    rintro e wf ⟨rfl, hownf, hBf⟩
    have HFf := hide (HFe.out.below hBf)
    have HOf := hide (owns_below HOe.out hBf)
    have hB0f := hB0e.trans (hBf.mono hB0e.size)
    have HWas := hide hownf
    have hzf := hBf.size
    have hge := HFe.out.lt
    have hbe' := HFe.out.row.lt
    clear hownf HFe HOe hB0e hBf
    go_wp2_with fail
    refine (spoil_turn _ _ _ _ _ HOf.out (bv_ints x) (by unfold maxLen; omega)).mono ?_
    rintro e wg ⟨rfl, hTg⟩
    have HFg := hide (HFf.out.turned hTg (fun e => by have := hlod _ e; omega) (fun e => by have := hlod _ e; omega))
    have HWg := hide (owns_turned HWas.out hTg (fun k hk e => by
      have h1 := hlod _ e
      have h2 := (HWas.out.lt k hk).1
      omega))
    have hB0g := hB0f.trans (hTg.below (B := w0.heap.size) (fun k e => by have := hlod _ e; omega) (by omega))
    have hzg := hTg.size
    clear HFf HWas HOf hTg hB0f
    go_wp2_with fail
    refine (truncate_bad g be _ L (-1) _ HFg.out (by decide)).mono ?_
    rintro e wh ⟨rfl, hBh⟩
    have HFh := hide (HFg.out.below hBh)
    have HWh := hide (owns_below HWg.out hBh)
    have hB0h := hB0g.trans (hBh.mono hB0g.size)
    have hzh := hBh.size
    clear HFg HWg hB0g hBh
    go_wp2_with fail
    have hBi : Below wh.heap.size wh (wh.alloc (Obj.cells #[.int .u8 1] 5)) := (Below.refl _ _).alloc (Nat.le_refl _) _
    have HFi := hide (HFh.out.below hBi)
    have HWi := hide (owns_below HWh.out hBi)
    have hB0i := hB0h.trans (hBi.mono hB0h.size)
    generalize wh.alloc (Obj.cells #[.int .u8 1] 5) = wi at *
    clear HFh HWh hB0h hBi
    refine (writeAt_range g be _ L (-1) _ _ HFi.out (by decide)).mono ?_
    rintro e wj ⟨rfl, hBj⟩
    have HFj := hide (HFi.out.below hBj)
    have HWj := hide (owns_below HWi.out hBj)
    have hB0j := hB0i.trans (hBj.mono hB0i.size)
    clear HFi HWi hB0i hBj
    go_wp2_with fail
    refine (num_any _ _).mono ?_
    rintro e wk ⟨rfl, rfl⟩
    go_wp2_with fail
    refine (num_any _ _).mono ?_
    rintro e wk ⟨rfl, rfl⟩
    go_wp2_with fail
    refine (bytes_any g be _ L _ HFj.out hLl).mono ?_
    rintro e wl ⟨rfl, hownl, hBl⟩
    have HWl := hide (owns_below HWj.out hBl)
    have hB0l := hB0j.trans (hBl.mono hB0j.size)
    have HOl := hide hownl
    clear hownl HFj HWj hB0j hBl
    go_wp2_with fail
    refine (same_any _ _ L _ (Bys.of_owns HOl.out) (Bys.of_owns HWl.out) (by unfold maxLen; omega)).mono ?_
    rintro e wm ⟨rfl, hBm⟩
    have HWm := hide (owns_below HWl.out hBm)
    have hB0m := hB0l.trans (hBm.mono hB0l.size)
    clear HOl HWl hB0l hBm
    go_wp2_with fail
    refine (num_any _ _).mono ?_
    rintro e wn ⟨rfl, rfl⟩
    rcases HW.out with hE | ⟨hE, hL⟩
    · subst hE
      go_wp2
      go_ret
      exact ⟨rfl, hBa.trans (hB0m.mono hBa.size)⟩
    · have hE' : (E == 0) = false := by simpa using hE
      subst hL
      go_wp2_with fail
      refine (same_any _ _ L _ (Bys.of_owns HWm.out) (HB0.out.below hB0m) (by unfold maxLen; omega)).mono ?_
      rintro e wo ⟨rfl, hBo⟩
      have hB0o := hB0m.trans (hBo.mono hB0m.size)
      go_wp2
      go_ret
      exact ⟨rfl, hBa.trans (hB0o.mono hBa.size)⟩
  · go_wp2_with fail
    refine (new_bad _ l _ (Bys.of_owns HO.out) (by omega)).mono ?_
    rintro e w4 ⟨rfl, rfl⟩
    go_wp2_with fail
    refine (num_any _ _).mono ?_
    rintro e w5 ⟨rfl, rfl⟩
    go_wp2
    all_goals
      go_ret
      exact ⟨rfl, hBa.trans (hB03.mono hBa.size)⟩
end Go.Proofs.Ytdhdbakkhmmpjaa

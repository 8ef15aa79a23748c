/- What the proof stands on, part 9: the contracts of the program's calls that it reaches. -/
import Derived.Test.YtkkommomefmpgaaGreatKQ8
/- The program's kernel: New. -/
namespace Go.Proofs.YtkkommomefmpgaaGreat
open Go.RowKit Go.Maps

theorem giveE_zero {ns : List ByteArray} {s : ByteArray} (h : giveE ns s = 0) : nameOk s = true ∧ s ∉ ns := by
  unfold giveE at h
  by_cases h1 : nameOk s = false
  · rw [if_pos h1] at h; cases h
  · rw [if_neg h1] at h
    by_cases h2 : inNames s ns = true
    · rw [if_pos h2] at h; cases h
    · exact ⟨by simpa using h1, fun e => h2 ((inNames_iff s ns).2 e)⟩
structure Seen (K : KS) (ns : List ByteArray) (n : Nat) : Prop where
  names : ∀ i ∈ K.nm, K.nameOf i ∈ ns
  len : K.nm.length = n
  next : K.next = 1 ∧ K.reads = 0 ∧ K.writes = 0
theorem Seen.add {K : KS} {ns : List ByteArray} {n : Nat} (h : Seen K ns n) (hok : KOk K) (t : Th) : Seen (K.addTh t) (ns ++ [t.name]) (n + 1) := by
  have hM := more_addTh K t
  refine ⟨fun i hi => ?_, ?_, h.next⟩
  · rw [addTh_nm] at hi
    rcases mem_insN.1 hi with rfl | hi
    · rw [hM.nameNew]; simp
    · rw [hM.nameOf (hok.nm i hi)]
      exact List.mem_append_left _ (h.names i hi)
  · rw [addTh_nm, (insN_perm _ _ _).length_eq]; simp [h.len]
theorem foldl_take {α β : Type} (f : β → α → β) (b : β) (l : List α) (k : Nat) (hk : k < l.length) : (l.take (k + 1)).foldl f b = f ((l.take k).foldl f b) l[k] := by
  rw [List.take_succ_eq_append_getElem hk, List.foldl_append]; rfl
def addF (K : KS) (f : Nm) : KS := K.addTh ⟨f.1, .file f.2⟩
def addT (K : KS) (t : Tp) : KS := K.addTh ⟨t.1, .term t.2 []⟩
theorem check_plan {l : List Fault} (h : (chk l).1 = 0) : planOk l := by
  have hl : ¬ 4096 < l.length := fun e => by rw [chk_long e] at h; cases h
  have hfb : fb l = l.length := by
    rcases Nat.lt_or_ge (fb l) l.length with e | e
    · rw [chk_bad hl e] at h; cases h
    · have := fb_le l; omega
  refine ⟨by omega, fun f hf e1 => ?_⟩
  obtain ⟨j, hj, rfl⟩ := List.getElem_of_mem hf
  have := fb_good hfb j hj
  rw [List.getD_eq_getElem?_getD, List.getElem?_eq_getElem hj] at this
  simp only [Option.getD_some] at this
  unfold may at this
  simp [e1] at this
  omega
set_option maxRecDepth 100000 in
set_option maxHeartbeats 8000000 in
theorem knew_good (a1 a2 a3 : Option Addr) (c1 c2 c3 : Nat) (fs : List Nm) (ts : List Tp) (l : List Fault) (w : World) (h1 : Nms w (.slice a1 fs.length c1) fs) (h2 : Tps w (.slice a2 ts.length c2) ts) (h3 : Flts w (.slice a3 l.length c3) l) (hs3 : l.length * 16 ≤ 140737488351232) (hl1 : fs.length ≤ 140737488351232) (hl2 : ts.length ≤ 140737488351232) (hE : checkE fs ts l = 0) :
    Calls Tryz.prog 7 #[.agg #[.slice a1 fs.length c1, .slice a2 ts.length c2, .slice a3 l.length c3]] w fun e w' => ∃ kb, e = .returned (.tuple #[.pointer (some ⟨kb, 0, none⟩), .int .i64 0]) ∧ KAt w' (fun k => w.heap.size ≤ k) kb (KS.new fs ts l) ∧ Below w.heap.size w w' := by
  have hEs : ¬ 256 < fs.length + ts.length ∧ (kfiles [] fs).1 = 0 ∧ kterms (kfiles [] fs).2 ts = 0 ∧ (chk l).1 = 0 := by
    unfold checkE at hE
    by_cases e1 : 256 < fs.length + ts.length
    · rw [if_pos e1] at hE; cases hE
    · rw [if_neg e1] at hE
      by_cases e2 : (kfiles [] fs).1 = 0
      · rw [if_pos e2] at hE
        by_cases e3 : kterms (kfiles [] fs).2 ts = 0
        · rw [if_pos e3] at hE; exact ⟨e1, e2, e3, hE⟩
        · rw [if_neg e3] at hE; exact absurd hE e3
      · rw [if_neg e2] at hE; exact absurd hE e2
  obtain ⟨hc, hE1, hE2, hE3⟩ := hEs
  have H1 := hide h1
  have H2 := hide h2
  have H3 := hide h3
  have HE3 := hide hE3
  have hmm := @run_makeMap Tryz.prog
  have hB0 := recv_below w (Obj.cells #[.slice a1 fs.length c1, .slice a2 ts.length c2, .slice a3 l.length c3] 28)
  have HCk := hide (kcheck_any a1 a2 a3 c1 c2 c3 fs ts l _ (h1.below hB0) (h2.below hB0) (h3.below hB0) (by unfold maxLen; omega) hl1 hl2)
  rw [hE] at HCk
  obtain ⟨cc0, cc1, cc2⟩ := trio_cells w (.slice a1 fs.length c1) (.slice a2 ts.length c2) (.slice a3 l.length c3) 28
  have hlt0 : w.heap.size < (w.alloc (Obj.cells #[.slice a1 fs.length c1, .slice a2 ts.length c2, .slice a3 l.length c3] 28)).heap.size := size_new _ _
  have HKf : Hid ((kfiles [] fs).1 = 0 ∧ kterms (kfiles [] fs).2 ts = 0) := hide ⟨hE1, hE2⟩
  clear h1 h2 h3 hE1 hE2 hE3 hE
  go_enter Tryz.func7, Tryz.ntmps7
  go_wp2_with fail
  refine HCk.out.mono ?_
  rintro e w1 ⟨rfl, hB1⟩
  have d0 := (hB1.cell (p := ⟨w.heap.size, 0, none⟩) hlt0).trans cc0
  have d1 := (hB1.cell (p := ⟨w.heap.size, 1, none⟩) hlt0).trans cc1
  have d2 := (hB1.cell (p := ⟨w.heap.size, 2, none⟩) hlt0).trans cc2
  have hBw1 : Below w.heap.size w w1 := hB0.trans (hB1.mono hB0.size)
  have hlt1 : w.heap.size < w1.heap.size := Nat.lt_of_lt_of_le hlt0 hB1.size
  have hBk : Below w1.heap.size w1 ((((w1.alloc (.map #[] 0)).alloc (.map #[] 0)).alloc (.map #[] 0)).alloc (Obj.cells #[.bool true, .map (some w1.heap.size), .map (some (w1.heap.size + 1)), .map (some (w1.heap.size + 1 + 1)), .int .i64 0, .pointer none, .int .i64 0, .int .i64 0] 96)) := (recv_below _ _).trans (((recv_below _ _).trans (((recv_below _ _).trans ((recv_below _ _).mono (by simp))).mono (by simp))).mono (by simp))
  have e0 := (hBk.cell (p := ⟨w.heap.size, 0, none⟩) hlt1).trans d0
  have e1 := (hBk.cell (p := ⟨w.heap.size, 1, none⟩) hlt1).trans d1
  have e2 := (hBk.cell (p := ⟨w.heap.size, 2, none⟩) hlt1).trans d2
  have HY := hide (start_py w1 w.heap.size (Nat.le_of_lt hlt1) l (check_plan HE3.out))
  have hBwk : Below w.heap.size w ((((w1.alloc (.map #[] 0)).alloc (.map #[] 0)).alloc (.map #[] 0)).alloc (Obj.cells #[.bool true, .map (some w1.heap.size), .map (some (w1.heap.size + 1)), .map (some (w1.heap.size + 1 + 1)), .int .i64 0, .pointer none, .int .i64 0, .int .i64 0] 96)) := hBw1.trans (hBk.mono (Nat.le_of_lt hlt1))
  clear hB0 hB1 hBw1 hBk d0 d1 d2 cc0 cc1 cc2 HCk
  generalize hk0 : w1.heap.size + 1 + 1 + 1 = k0 at *
  generalize hf0 : w1.heap.size = f0 at *
  generalize ht0 : f0 + 1 = t0 at *
  generalize ho0 : t0 + 1 = o0 at *
  have HK0 : Hid (k0 ≠ f0 ∧ f0 ≠ t0 ∧ k0 ≠ t0 ∧ w.heap.size < f0 ∧ w.heap.size < t0 ∧ w.heap.size < k0) := hide (by omega)
  have HC0 := hide (And.intro e1 e2)
  clear e1 e2
  go_wp2
  clear hk0 hf0 ht0 ho0 hlt1
  go_loopw [25] (fun i wr => ∃ (k : Nat) (K : KS) (ns : List ByteArray), k ≤ fs.length ∧ i = .int .i64 k ∧ Hid (∃ ρ I, PY wr w.heap.size ρ I K k0 f0 t0 o0) ∧ Hid (Seen K ns k ∧ (kfiles ns (fs.drop k)).1 = 0 ∧ kterms (kfiles ns (fs.drop k)).2 ts = 0 ∧ K = (fs.take k).foldl addF (KS.nought l)) ∧ Hid (wr.cell? ⟨w.heap.size, 1, none⟩ = some (.slice a2 ts.length c2) ∧ wr.cell? ⟨w.heap.size, 2, none⟩ = some (.slice a3 l.length c3)) ∧ Below w.heap.size w wr) (fun i _ => fs.length - (intOf i).toNat)
  case atStart => exact ⟨0, KS.nought l, [], Nat.zero_le _, rfl, hide ⟨_, _, HY.out⟩, hide ⟨⟨fun i hi => (by cases hi), rfl, rfl, rfl, rfl⟩, HKf.out.1, HKf.out.2, rfl⟩, HC0, hBwk⟩
  case round =>
    clear HY HC0 hBwk e0
    obtain ⟨k, K, ns, hk, rfl, HY, HS, HCc, hB⟩ := hrel
    have hsz := hB.size
    by_cases hlt : k < fs.length
    · obtain ⟨b, off, va, vc, rfl, hbl, q0, q1, hby, -, hnm⟩ := H1.out.at k hlt
      have hc0 := (hB.cell (p := ⟨b, off + k * 2, none⟩) hbl).trans q0
      have hc1 := (hB.cell (p := ⟨b, off + k * 2 + 1, none⟩) hbl).trans q1
      have hk1 : (0 : Int) ≤ (k : Int) := by omega
      have hk2 : (k : Int) < (fs.length : Int) := by omega
      obtain ⟨hS, hF, hF2, hKe⟩ := HS.out
      rw [drop_at fs k hlt] at hF hF2
      have hKe2 := foldl_take addF (KS.nought l) fs k hlt
      rw [← hKe] at hKe2
      clear q0 q1
      generalize fs[k] = p at hc0 hc1 hnm hF hF2 hby hKe2
      obtain ⟨nm, L⟩ := p
      simp only at hc0 hc1 hnm hby
      rw [kfiles_cons] at hF hF2
      have hg : giveE ns nm = 0 := by
        by_cases hg : giveE ns nm = 0
        · exact hg
        · rw [if_neg hg] at hF; exact absurd hF hg
      rw [if_pos hg] at hF hF2
      have hL : ¬ 1048576 < L.length := fun e => by rw [if_pos e] at hF; cases hF
      rw [if_neg hL] at hF hF2
      obtain ⟨hno, hnn⟩ := giveE_zero hg
      have hnew : ∀ i ∈ K.nm, K.nameOf i ≠ nm := fun i hi e => hnn (e ▸ hS.names i hi)
      have hBa := recv_below wr (Obj.cells #[.string nm, .slice va L.length vc] 86)
      obtain ⟨ca0, ca1⟩ := pair_cells wr (.string nm) (.slice va L.length vc) 86
      obtain ⟨ρ, I, hY⟩ := HY.out
      have hYa := hY.under hBa
      have hlenK : K.nm.length < 256 := by have := hS.len; omega
      have kc : (wr.alloc (Obj.cells #[.string nm, .slice va L.length vc] 86)).cell? ⟨k0, 1, none⟩ = some (.map (some f0)) := by
        rw [← hY.kb, ← hY.fm, cell_of_row _ I.kb _ _ _ _ hYa.blk]; rfl
      have HNf := hide (newFile_raw k0 f0 (K.fl I) nm (.slice va L.length vc) L _ kc (by rw [← hY.fm]; exact (hYa.px.comp .fmap (by simp) (by simp)).1) ((hby.below hB).below hBa) (by omega) hnm (mem_names hnew).1 (by have := (fl_len (I := I) hY.px.ok).1; unfold maxLen; omega))
      have HST : Hid (∀ w2 p, PObj w2 (fun k => (wr.alloc (Obj.cells #[.string nm, .slice va L.length vc] 86)).heap.size ≤ k ∧ k < w2.heap.size) p (.file L) → PMap w2 Tryz.prog 9 f0 ((nkey nm, p) :: K.fl I) → Turned (fun k => k = f0) (wr.alloc (Obj.cells #[.string nm, .slice va L.length vc] 86)) w2 → (∃ ρ I, PY w2 w.heap.size ρ I (addF K (nm, L)) k0 f0 t0 o0) ∧ (w2.cell? ⟨w.heap.size, 1, none⟩ = some (.slice a2 ts.length c2) ∧ w2.cell? ⟨w.heap.size, 2, none⟩ = some (.slice a3 l.length c3)) ∧ Below w.heap.size w w2) := hide (by
        intro w2 p hO hm hT
        have hlt0 : w.heap.size < wr.heap.size := by have := World.block_lt_of_cell? wr _ HCc.out.1; exact this
        have hBwa := hB.trans (hBa.mono hsz)
        refine ⟨hYa.addFile hBwa.size hO (by rw [hY.fm]; exact hm) (by rw [hY.fm]; exact hT) hno hnew hlenK, ⟨hT.cell ((hBa.cell (p := ⟨w.heap.size, 1, none⟩) hlt0).trans HCc.out.1) (by show ¬ w.heap.size = f0; have := HK0.out; omega), hT.cell ((hBa.cell (p := ⟨w.heap.size, 2, none⟩) hlt0).trans HCc.out.2) (by show ¬ w.heap.size = f0; have := HK0.out; omega)⟩, ?_⟩
        exact hBwa.trans (hT.below (fun k e => by rw [e]; have := HK0.out; omega) hBwa.size))
      have HS2 : Hid (Seen (addF K (nm, L)) (ns ++ [nm]) (k + 1) ∧ (kfiles (ns ++ [nm]) (fs.drop (k + 1))).1 = 0 ∧ kterms (kfiles (ns ++ [nm]) (fs.drop (k + 1))).2 ts = 0 ∧ addF K (nm, L) = (fs.take (k + 1)).foldl addF (KS.nought l)) := hide ⟨hS.add hY.px.ok ⟨nm, .file L⟩, hF, hF2, hKe2.symm⟩
      clear hY hYa hBa hS hF hF2 hKe hKe2 hnew hby hg hno hnn HS HY HCc
      go_wp2_with fail
      refine HNf.out.mono ?_
      rintro e w2 ⟨p, rfl, hO, hm, hT⟩
      obtain ⟨g1, g2, g3⟩ := HST.out w2 p hO hm hT
      have HY2 := hide g1
      have HC2 := hide g2
      clear g1 g2 hO hm hT HST
      go_wp2
      all_goals
        go_roundw
        case rel => exact ⟨k + 1, addF K (nm, L), ns ++ [nm], by omega, by go_num, HY2, HS2, HC2, g3⟩
        case measure => simp [intOf]; omega
    · have HS2 : Hid (Seen K ns fs.length ∧ kterms ns ts = 0 ∧ K = fs.foldl addF (KS.nought l)) := hide (by
        obtain ⟨hS, hF, hF2, hKe⟩ := HS.out
        have hke : k = fs.length := by omega
        subst hke
        rw [List.drop_length, kfiles] at hF2
        rw [List.take_length] at hKe
        exact ⟨hS, hF2, hKe⟩)
      have c41 := HCc.out.1
      clear HS
      go_wp2
      go_loopw [39] (fun i wq => ∃ (k : Nat) (K : KS) (ns : List ByteArray), k ≤ ts.length ∧ i = .int .i64 k ∧ Hid (∃ ρ I, PY wq w.heap.size ρ I K k0 f0 t0 o0) ∧ Hid (Seen K ns (fs.length + k) ∧ kterms ns (ts.drop k) = 0 ∧ K = (ts.take k).foldl addT (fs.foldl addF (KS.nought l))) ∧ Hid (wq.cell? ⟨w.heap.size, 2, none⟩ = some (.slice a3 l.length c3)) ∧ Below w.heap.size w wq) (fun i _ => ts.length - (intOf i).toNat)
      case atStart => exact ⟨0, K, ns, Nat.zero_le _, rfl, HY, hide ⟨HS2.out.1, HS2.out.2.1, HS2.out.2.2⟩, hide HCc.out.2, hB⟩
      case round =>
        rename_i hrel
        clear HY HS2 HCc hB hsz c41
        obtain ⟨k2, K2, ms, hk3, rfl, HY, HS, HCc, hB⟩ := hrel
        have hsz := hB.size
        by_cases hlt2 : k2 < ts.length
        · obtain ⟨b, off, va, vc, rfl, hbl, q0, q1, hby, hnm⟩ := H2.out.at k2 hlt2
          have hc0 := (hB.cell (p := ⟨b, off + k2 * 2, none⟩) hbl).trans q0
          have hc1 := (hB.cell (p := ⟨b, off + k2 * 2 + 1, none⟩) hbl).trans q1
          have hk1 : (0 : Int) ≤ (k2 : Int) := by omega
          have hk2 : (k2 : Int) < (ts.length : Int) := by omega
          obtain ⟨hS, hF, hKe⟩ := HS.out
          rw [drop_at ts k2 hlt2] at hF
          have hKe2 := foldl_take addT (fs.foldl addF (KS.nought l)) ts k2 hlt2
          rw [← hKe] at hKe2
          clear q0 q1
          generalize ts[k2] = pp at hc0 hc1 hnm hF hby hKe2
          obtain ⟨nm, ls⟩ := pp
          simp only at hc0 hc1 hnm hby
          rw [kterms_cons] at hF
          have hg : giveE ms nm = 0 := by
            by_cases hg : giveE ms nm = 0
            · exact hg
            · rw [if_neg hg] at hF; exact absurd hF hg
          rw [if_pos hg] at hF
          have hL : newE ls = 0 := by
            by_cases e : newE ls = 0
            · exact e
            · rw [if_neg e] at hF; exact absurd hF e
          rw [if_pos hL] at hF
          obtain ⟨hno, hnn⟩ := giveE_zero hg
          obtain ⟨ρ, I, hY⟩ := HY.out
          have hnew : ∀ i ∈ K2.nm, K2.nameOf i ≠ nm := fun i hi e => hnn (e ▸ hS.names i hi)
          have hBa := recv_below wr (Obj.cells #[.string nm, .slice va ls.length vc] 100)
          obtain ⟨ca0, ca1⟩ := pair_cells wr (.string nm) (.slice va ls.length vc) 100
          have hYa := hY.under hBa
          have hlenK : K2.nm.length < 256 := by have := hS.len; omega
          have HTn := hide (po_new_term (.slice va ls.length vc) ls (wr.alloc (Obj.cells #[.string nm, .slice va ls.length vc] 100)) ((hby.below hB).below hBa) hL)
          have hBwa := hB.trans (hBa.mono hsz)
          have hlt0 : w.heap.size < wr.heap.size := World.block_lt_of_cell? wr _ HCc.out
          have kc : (wr.alloc (Obj.cells #[.string nm, .slice va ls.length vc] 100)).cell? ⟨k0, 2, none⟩ = some (.map (some t0)) := by
            rw [← hY.kb, ← hY.tm, cell_of_row _ I.kb _ _ _ _ hYa.blk]; rfl
          have HST : Hid (∀ w3 p, PObj w3 (fun k => (wr.alloc (Obj.cells #[.string nm, .slice va ls.length vc] 100)).heap.size ≤ k ∧ k < w3.heap.size) p (.term ls []) → Below (wr.alloc (Obj.cells #[.string nm, .slice va ls.length vc] 100)).heap.size (wr.alloc (Obj.cells #[.string nm, .slice va ls.length vc] 100)) w3 →
              ∃ w4, (Instr.mapUpdate 92 (.map (some t0)) (.string nm) (.pointer (some ⟨w3.heap.size, 0, none⟩))).run Tryz.prog (w3.alloc (Obj.cells #[.pointer (some ⟨p, 0, none⟩), .int .i64 0] 106)).drew = .ok () w4 ∧ Hid (∃ ρ I, PY w4 w.heap.size ρ I (addT K2 (nm, ls)) k0 f0 t0 o0) ∧ Hid (w4.cell? ⟨w.heap.size, 2, none⟩ = some (.slice a3 l.length c3)) ∧ Below w.heap.size w w4) := hide (by
            intro w3 p hO hB3
            have hBc : Below w3.heap.size w3 (w3.alloc (Obj.cells #[.pointer (some ⟨p, 0, none⟩), .int .i64 0] 106)).drew := (recv_below w3 (Obj.cells #[.pointer (some ⟨p, 0, none⟩), .int .i64 0] 106)).trans ((Below.refl _ _).drew.mono (Nat.le_of_lt (size_new w3 (Obj.cells #[.pointer (some ⟨p, 0, none⟩), .int .i64 0] 106))))
            have hBac : Below (wr.alloc (Obj.cells #[.string nm, .slice va ls.length vc] 100)).heap.size (wr.alloc (Obj.cells #[.string nm, .slice va ls.length vc] 100)) (w3.alloc (Obj.cells #[.pointer (some ⟨p, 0, none⟩), .int .i64 0] 106)).drew := hB3.trans (hBc.mono hB3.size)
            have hmt0 := hYa.px.comp .tmap (by simp) (by simp)
            have hm3 := hmt0.1.keep (hBac.block _ (hYa.px.lt _ _ hmt0.2))
            rw [hY.tm] at hm3
            obtain ⟨w4, hrun, hm4, hmt⟩ := hm3.store skeyed Tryz.underlying92 (by have := (fl_len (I := I) hY.px.ok).2; unfold maxLen; omega) (key := .string nm) w3.heap.size (string_key nm hnm) (mem_names hnew).2
            have hT4 := mapTurned_turned hmt
            have htl : t0 < (wr.alloc (Obj.cells #[.string nm, .slice va ls.length vc] 100)).heap.size := by rw [← hY.tm]; exact hYa.px.lt _ _ hmt0.2
            have hTa : Turned (fun k => k = t0) (wr.alloc (Obj.cells #[.string nm, .slice va ls.length vc] 100)) w4 := (Turned.of_below hBac).trans hT4 (fun _ _ e => e)
            have hcc : COc w4 w3.heap.size p 0 := by
              refine (hT4.block w3.heap.size (by show w3.heap.size < (w3.alloc (Obj.cells #[.pointer (some ⟨p, 0, none⟩), .int .i64 0] 106)).heap.size; exact size_new _ _) (by have := hB3.size; omega)).trans ?_
              exact heap_alloc_new w3 (Obj.cells #[.pointer (some ⟨p, 0, none⟩), .int .i64 0] 106)
            refine ⟨w4, hrun, hide (hYa.addTerm hBwa.size (O := fun k => (wr.alloc (Obj.cells #[.string nm, .slice va ls.length vc] 100)).heap.size ≤ k ∧ k < w3.heap.size) ?_ (fun k e => ⟨e.1, by omega⟩) hcc hB3.size (by rw [hY.tm]; exact hm4) (by rw [hY.tm]; exact hTa) hno hnew hlenK), hide (hTa.cell ((hBa.cell (p := ⟨w.heap.size, 2, none⟩) hlt0).trans HCc.out) (by show ¬ w.heap.size = t0; have := HK0.out; omega)), ?_⟩
            · exact (hO.keep (fun k e hlt => hBc.block k hlt) hBc.size).keep (fun k e hlt => hT4.block k hlt (by omega)) hT4.size
            · exact hBwa.trans (hTa.below (fun k e => by rw [e]; have := HK0.out; omega) hBwa.size))
          have HS2 : Hid (Seen (addT K2 (nm, ls)) (ms ++ [nm]) (fs.length + (k2 + 1)) ∧ kterms (ms ++ [nm]) (ts.drop (k2 + 1)) = 0 ∧ addT K2 (nm, ls) = (ts.take (k2 + 1)).foldl addT (fs.foldl addF (KS.nought l))) := hide ⟨hS.add hY.px.ok ⟨nm, .term ls []⟩, hF, hKe2.symm⟩
          have hltk : k0 < (wr.alloc (Obj.cells #[.string nm, .slice va ls.length vc] 100)).heap.size := World.block_lt_of_cell? _ _ kc
          have hlta : wr.heap.size < (wr.alloc (Obj.cells #[.string nm, .slice va ls.length vc] 100)).heap.size := size_new _ _
          clear hY hYa hBa hBwa hS hF hKe hKe2 hnew hby hg hno hnn HS HY HCc
          go_wp2_with fail
          refine HTn.out.mono ?_
          rintro e w3 ⟨p, rfl, hO, hB3⟩
          obtain ⟨w4, hr4, HY4, HC4, hB4⟩ := HST.out w3 p hO hB3
          have kc3 := (hB3.cell (p := ⟨k0, 2, none⟩) hltk).trans kc
          have ca3 := (hB3.cell (p := ⟨wr.heap.size, 0, none⟩) hlta).trans ca0
          have kc4 := ((recv_below w3 (Obj.cells #[.pointer (some ⟨p, 0, none⟩), .int .i64 0] 106)).cell (p := ⟨k0, 2, none⟩) (World.block_lt_of_cell? w3 _ kc3)).trans kc3
          have ca4 := ((recv_below w3 (Obj.cells #[.pointer (some ⟨p, 0, none⟩), .int .i64 0] 106)).cell (p := ⟨wr.heap.size, 0, none⟩) (World.block_lt_of_cell? w3 _ ca3)).trans ca3
          clear hO hB3 HST ca0 ca1 kc
          go_wp2_with fail
          go_region
          go_wp2
          all_goals
            go_roundw
            case rel => exact ⟨k2 + 1, addT K2 (nm, ls), ms ++ [nm], by omega, by go_num, HY4, HS2, HC4, hB4⟩
            case measure => simp [intOf]; omega
        · have HS2 : Hid (Seen K2 ms (fs.length + ts.length) ∧ K2 = KS.new fs ts l) := hide (by
            obtain ⟨hS, hF, hKe⟩ := HS.out
            have hke : k2 = ts.length := by omega
            subst hke
            rw [List.take_length] at hKe
            exact ⟨hS, hKe⟩)
          have c42 := HCc.out
          have HFn := hide (Fa_new_good (.slice a3 l.length c3) l wr (H3.out.below hB) hs3 HE3.out)
          have kcs : ∃ ρ I, PY wr w.heap.size ρ I K2 k0 f0 t0 o0 := HY.out
          obtain ⟨ρ, I, hY⟩ := kcs
          have HYy := hide hY
          have kb5 : wr.cell? ⟨k0, 5, none⟩ = some (.pointer none) := by
            rw [← hY.kb, cell_of_row _ I.kb _ _ _ _ hY.blk]; rfl
          have kb5s : wr.frozen? ⟨k0, 5, none⟩ = false := by rw [← hY.kb]; exact frozen_of_row wr I.kb 5 _ _ hY.blk
          have hltk : k0 < wr.heap.size := World.block_lt_of_cell? _ _ kb5
          clear HS hY HY
          go_wp2_with fail
          refine HFn.out.mono ?_
          rintro e w2 ⟨g, v', rfl, hP, g1, g2, g3, hB2⟩
          have kb6 := (hB2.cell (p := ⟨k0, 5, none⟩) hltk).trans kb5
          have kb6s : w2.frozen? ⟨k0, 5, none⟩ = false := (World.frozen?_of_block (w := wr) (hB2.block k0 hltk)).trans kb5s
          have HD : Hid (KAt (w2.setCell ⟨k0, 5, none⟩ (.pointer (some ⟨g, 0, none⟩))) (fun k => w.heap.size ≤ k) k0 (KS.new fs ts l) ∧ Below w.heap.size w (w2.setCell ⟨k0, 5, none⟩ (.pointer (some ⟨g, 0, none⟩)))) := hide (by
            obtain ⟨hS, hKe⟩ := HS2.out
            rw [← hKe]
            have hpl : K2.plan = l := by
              rw [hKe]
              have : ∀ (ts : List Tp) (K : KS), (ts.foldl (fun K t => K.addTh ⟨t.1, .term t.2 []⟩) K).plan = K.plan := fun ts => by
                induction ts with
                | nil => intro K; rfl
                | cons t r ih => intro K; rw [List.foldl_cons, ih]; rfl
              have this2 : ∀ (ts : List Nm) (K : KS), (ts.foldl (fun K t => K.addTh ⟨t.1, .file t.2⟩) K).plan = K.plan := fun ts => by
                induction ts with
                | nil => intro K; rfl
                | cons t r ih => intro K; rw [List.foldl_cons, ih]; rfl
              unfold KS.new
              rw [this, this2]
              rfl
            refine ⟨HYy.out.done hsz hS.next (W1 := w2) (by rw [hpl]; exact hP) g1 (fun k e => (g3 k e).1) hB2 rfl g2 (fun k e => (g3 k e).2), ?_⟩
            have hBw2 := hB.trans (hB2.mono hsz)
            exact hBw2.trans (((Turned.refl (fun k => k = k0) w2).set (g := k0) (j := 5) (u := .pointer (some ⟨g, 0, none⟩)) (.inl rfl)).below (fun k e => by rw [e]; have := HK0.out; omega) hBw2.size))
          clear hP g1 g2 g3 hB2
          go_wp2
          go_ret2
          exact ⟨k0, rfl, HD.out⟩
end Go.Proofs.YtkkommomefmpgaaGreat

/- The program's kernel: Read, walked. -/
namespace Go.Proofs.YtkkommomefmpgaaGreat
open Go.RowKit Go.Maps

theorem PRd.done {w w1 w4 : World} {ρ : Nat → Option PTag} {I I1 : PI} {r : List UInt8 × Int × KS} {v : Value} (hT : Turned (Own ρ) w w1) (hk : I1.kb = I.kb) (hrow : w4.ownsRow w1.heap.size 5 1 v r.1.length (r.1.map bv)) (hN : PHold ρ I1 w1 r.2.2 w4) :
    PRd ρ I w r (.returned (.tuple #[v, .int .i64 r.2.1])) w4 := ⟨v, rfl, owns_mono hrow hT.size, hN.after hT hk⟩
theorem waits_file {ob : Ob} {b : List UInt8} (h : ob = .file b) : ob.waits = false := by rw [h]; rfl
theorem waits_term {ob : Ob} {ls : List (List UInt8)} {scr : List UInt8} (h : ob = .term ls scr) : ob.waits = false := by rw [h]; rfl
set_option maxRecDepth 100000 in
theorem of_readWaits (x : Nat) (w : World) : Calls Tryz.prog 308 #[.pointer (some ⟨x, 0, none⟩)] w fun e w' => e = .returned (.bool false) ∧ w' = w := by
  go_enter Tryz.func308, Tryz.ntmps308
  go_wp2
  go_ret
  exact ⟨rfl, rfl⟩
set_option maxRecDepth 100000 in
theorem co_readWaits (x : Nat) (w : World) : Calls Tryz.prog 299 #[.pointer (some ⟨x, 0, none⟩)] w fun e w' => e = .returned (.bool false) ∧ w' = w := by
  go_enter Tryz.func299, Tryz.ntmps299
  go_wp2
  go_ret
  exact ⟨rfl, rfl⟩
set_option maxRecDepth 100000 in
set_option maxHeartbeats 4000000 in
theorem kread_any (ρ : Nat → Option PTag) (I : PI) (K : KS) (d n : Int) (w : World) (h : PK w ρ I K) (hd : I64 d) (hr : K.reads < 9223372036854775807) :
    Calls Tryz.prog 51 #[.pointer (some ⟨I.kb, 0, none⟩), .int .i64 d, .int .i64 n] w (PRd ρ I w (K.read d n)) := by
  have HF := hide (described_any ρ I K d w h hd)
  have HX := hide fun E => PRd.refused h (Below.refl _ w) E
  have HK := hide h
  cases hx : K.find d with
  | none =>
    rw [hx] at HF
    rw [show K.read d n = ([], 64, K) by unfold KS.read; rw [hx]]
    clear h HK
    go_enter Tryz.func51, Tryz.ntmps51
    go_wp2_with fail
    refine HF.out.mono ?_
    rintro e w1 ⟨rfl, rfl⟩
    unfold descV
    go_wp2
    go_ret2
    exact HX.out 64
  | some x =>
    rw [hx] at HF
    have hm := (KS.find_some hx).1
    have hdc := h.desc hm
    have c0 := hdc.thing
    have c1 := hdc.reads
    by_cases hf : fbit x.flags 1 = 0
    · rw [show K.read d n = ([], 65, K) by unfold KS.read; rw [hx]; simp only; rw [if_pos hf]]
      rw [bit_no hf] at c1
      clear h hdc HK
      go_enter Tryz.func51, Tryz.ntmps51
      go_wp2_with fail
      refine HF.out.mono ?_
      rintro e w1 ⟨rfl, rfl⟩
      unfold descV
      go_wp2
      go_ret2
      exact HX.out 65
    · rw [bit_yes hf] at c1
      by_cases hn : n < 0 ∨ 1048576 < n
      · rw [show K.read d n = ([], 4, K) by unfold KS.read; rw [hx]; simp only; rw [if_neg hf, if_pos hn]]
        clear h hdc HK
        rcases hn with hn | hn
        · go_enter Tryz.func51, Tryz.ntmps51
          go_wp2_with fail
          refine HF.out.mono ?_
          rintro e w1 ⟨rfl, rfl⟩
          unfold descV
          go_wp2
          go_ret2
          exact HX.out 4
        · have hn' : ¬ n < 0 := by omega
          go_enter Tryz.func51, Tryz.ntmps51
          go_wp2_with fail
          refine HF.out.mono ?_
          rintro e w1 ⟨rfl, rfl⟩
          unfold descV
          go_wp2
          go_ret2
          exact HX.out 4
      · by_cases hz : n = 0
        · rw [show K.read d n = ([], 0, K) by unfold KS.read; rw [hx]; simp only; rw [if_neg hf, if_neg hn, if_pos hz]]
          subst hz
          clear h hdc HK
          go_enter Tryz.func51, Tryz.ntmps51
          go_wp2_with fail
          refine HF.out.mono ?_
          rintro e w1 ⟨rfl, rfl⟩
          unfold descV
          go_wp2
          go_ret2
          exact HX.out 0
        · have n1 : ¬ n < 0 := by omega
          have n2 : ¬ 1048576 < n := by omega
          have n3 : (n == 0) = false := by simpa using hz
          have n4 : 1 ≤ n := by omega
          have n5 : n ≤ 1048576 := by omega
          have n6 : ¬ n = 0 := hz
          obtain ⟨pr, hpr⟩ : ∃ pr, pr = nxt K.plan n := ⟨_, rfl⟩
          have HG : Hid (pr.2 = 0 → 1 ≤ pr.1 ∧ pr.1 ≤ 1048576) := hide (fun e => by rw [hpr] at e ⊢; have := nxt_good h.ok.plan n4 n5 e; omega)
          have HN := hide fun W I' K' (hW : PK W ρ I' K') (hpl : K'.plan = K.plan) => by
            have := knext_any ρ I' K' n W hW n4 n5
            rw [hpl, ← hpr] at this
            exact this
          have hK := HK
          clear hdc
          cases ho : K.tho x with
          | file b =>
            rw [read_is hx hf n4 n5 (waits_file ho), ← hpr]
            have HP2 := hide h.readUp
            have HT0 := hide ho
            rw [thing_file ho] at c0
            have hmw := mf_readWaits (I.xb x.n)
            have hmr := mf_read (I.xb x.n)
            have c6 := h.cells.reads
            have c6s : w.frozen? ⟨I.kb, 6, none⟩ = false := frozen_of_row w I.kb 6 _ _ (h.comp .kern).1
            have c5 := HP2.out.1.cells.plan
            have d2 := (HP2.out.1.desc (x := x) hm).thing
            clear h HX HK
            clear hpr
            obtain ⟨pr1, pr2⟩ := pr
            simp only at HG HN ⊢
            by_cases he : pr2 = 0
            · subst he
              rw [if_pos rfl]
              go_enter Tryz.func51, Tryz.ntmps51
              go_wp2_with fail
              refine HF.out.mono ?_
              rintro e w1 ⟨rfl, rfl⟩
              unfold descV
              go_wp2_with fail
              refine (of_readWaits (I.xb x.n) _).mono ?_
              rintro e w1' ⟨rfl, rfl⟩
              go_wp2_with fail
              generalize hw2 : w1'.setCell ⟨I.kb, 6, none⟩ (.int .i64 ((K.reads : Int) + 1)) = w2 at *
              refine (HN.out w2 I _ HP2.out.1 rfl).mono ?_
              rintro e w3 ⟨rfl, v', hP3, hT3⟩
              have c7 := (hP3.desc (x := x) hm).thing
              rw [thing_file (K := { K with reads := K.reads + 1, plan := K.plan.tail }) ho] at c7
              simp only at c7
              go_wp2_with fail
              refine (xread_file ρ _ _ x b pr1 w3 hP3 hm ho (HG.out (by first | rfl | trivial)).1 (HG.out (by first | rfl | trivial)).2).mono ?_
              rintro e w4 ⟨v, rfl, hrow, hN⟩
              obtain ⟨va, vc, rfl⟩ := owns_slice hrow
              have HV := hide hrow
              have HS := hide hN
              clear hrow hN
              go_wp2
              go_ret2
              exact PRd.done (HP2.out.2.trans hT3 (fun _ _ e => e)) rfl HV.out HS.out
            · rw [if_neg he]
              have he2 : (pr2 == 0) = false := by simpa using he
              go_enter Tryz.func51, Tryz.ntmps51
              go_wp2_with fail
              refine HF.out.mono ?_
              rintro e w1 ⟨rfl, rfl⟩
              unfold descV
              go_wp2_with fail
              refine (of_readWaits (I.xb x.n) _).mono ?_
              rintro e w1' ⟨rfl, rfl⟩
              go_wp2_with fail
              generalize hw2 : w1'.setCell ⟨I.kb, 6, none⟩ (.int .i64 ((K.reads : Int) + 1)) = w2 at *
              refine (HN.out w2 I _ HP2.out.1 rfl).mono ?_
              rintro e w3 ⟨rfl, v', hP3, hT3⟩
              have HP3 := hide hP3
              clear hP3
              go_wp2
              go_ret2
              exact ⟨_, rfl, World.ownsRow_nil _ _ _ _, PHold.of HP3.out rfl (HP2.out.2.trans hT3 (fun _ _ e => e))⟩
          | term ls scr =>
            rw [read_is hx hf n4 n5 (waits_term ho), ← hpr]
            have HP2 := hide h.readUp
            have HT0 := hide ho
            rw [thing_term ho] at c0
            have hmw := mt_readWaits (I.cb x.th)
            have hmr := mt_read (I.cb x.th)
            have c6 := h.cells.reads
            have c6s : w.frozen? ⟨I.kb, 6, none⟩ = false := frozen_of_row w I.kb 6 _ _ (h.comp .kern).1
            have c5 := HP2.out.1.cells.plan
            have d2 := (HP2.out.1.desc (x := x) hm).thing
            clear h HX HK
            clear hpr
            obtain ⟨pr1, pr2⟩ := pr
            simp only at HG HN ⊢
            by_cases he : pr2 = 0
            · subst he
              rw [if_pos rfl]
              go_enter Tryz.func51, Tryz.ntmps51
              go_wp2_with fail
              refine HF.out.mono ?_
              rintro e w1 ⟨rfl, rfl⟩
              unfold descV
              go_wp2_with fail
              refine (co_readWaits (I.cb x.th) _).mono ?_
              rintro e w1' ⟨rfl, rfl⟩
              go_wp2_with fail
              generalize hw2 : w1'.setCell ⟨I.kb, 6, none⟩ (.int .i64 ((K.reads : Int) + 1)) = w2 at *
              refine (HN.out w2 I _ HP2.out.1 rfl).mono ?_
              rintro e w3 ⟨rfl, v', hP3, hT3⟩
              have c7 := (hP3.desc (x := x) hm).thing
              rw [thing_term (K := { K with reads := K.reads + 1, plan := K.plan.tail }) ho] at c7
              simp only at c7
              go_wp2_with fail
              refine (xread_term ρ _ _ x ls scr pr1 w3 hP3 hm ho).mono ?_
              rintro e w4 ⟨v, rfl, hrow, hN⟩
              obtain ⟨va, vc, rfl⟩ := owns_slice hrow
              have HV := hide hrow
              have HS := hide hN
              clear hrow hN
              go_wp2
              go_ret2
              exact PRd.done (HP2.out.2.trans hT3 (fun _ _ e => e)) rfl HV.out HS.out
            · rw [if_neg he]
              have he2 : (pr2 == 0) = false := by simpa using he
              go_enter Tryz.func51, Tryz.ntmps51
              go_wp2_with fail
              refine HF.out.mono ?_
              rintro e w1 ⟨rfl, rfl⟩
              unfold descV
              go_wp2_with fail
              refine (co_readWaits (I.cb x.th) _).mono ?_
              rintro e w1' ⟨rfl, rfl⟩
              go_wp2_with fail
              generalize hw2 : w1'.setCell ⟨I.kb, 6, none⟩ (.int .i64 ((K.reads : Int) + 1)) = w2 at *
              refine (HN.out w2 I _ HP2.out.1 rfl).mono ?_
              rintro e w3 ⟨rfl, v', hP3, hT3⟩
              have HP3 := hide hP3
              clear hP3
              go_wp2
              go_ret2
              exact ⟨_, rfl, World.ownsRow_nil _ _ _ _, PHold.of HP3.out rfl (HP2.out.2.trans hT3 (fun _ _ e => e))⟩
          | pipe q rd wt =>
            cases hcan : canR q.length rd wt with
            | false =>
              rw [show K.read d n = ([], 52, K) by unfold KS.read; rw [hx]; simp only; rw [if_neg hf, if_neg hn, if_neg hz, if_pos (by rw [ho]; show (!canR q.length rd wt) = true; rw [hcan]; rfl)]]
              have HW := hide (pp_readWaits (I.ob x.th) q rd wt w (by have := h.pobj hm; rw [ho] at this; exact this.1))
              rw [hcan] at HW
              rw [thing_pipe ho] at c0
              have hmw := mp_readWaits (I.ob x.th)
              clear h hK HN HG HX
              go_enter Tryz.func51, Tryz.ntmps51
              go_wp2_with fail
              refine HF.out.mono ?_
              rintro e w1 ⟨rfl, rfl⟩
              unfold descV
              go_wp2_with fail
              refine HW.out.mono ?_
              rintro e w2 ⟨rfl, hB⟩
              go_wp2
              go_ret2
              exact PRd.refused HK.out hB 52
            | true =>
            rw [read_is hx hf n4 n5 (by rw [ho]; show (!canR q.length rd wt) = false; rw [hcan]; rfl), ← hpr]
            have HW := hide (pp_readWaits (I.ob x.th) q rd wt w (by have := h.pobj hm; rw [ho] at this; exact this.1))
            rw [hcan] at HW
            have HP := hide h
            have HT0 := hide ho
            rw [thing_pipe ho] at c0
            have hmw := mp_readWaits (I.ob x.th)
            have hmr := mp_read (I.ob x.th)
            clear h HX HK
            clear hpr
            obtain ⟨pr1, pr2⟩ := pr
            simp only at HG HN ⊢
            by_cases he : pr2 = 0
            · subst he
              rw [if_pos rfl]
              go_enter Tryz.func51, Tryz.ntmps51
              go_wp2_with fail
              refine HF.out.mono ?_
              rintro e w1 ⟨rfl, rfl⟩
              unfold descV
              go_wp2_with fail
              refine HW.out.mono ?_
              rintro e w1' ⟨rfl, hB⟩
              have hP1 := HP.out.under hB
              have HP2 := hide hP1.readUp
              have c6 := hP1.cells.reads
              have c6s : w1'.frozen? ⟨I.kb, 6, none⟩ = false := frozen_of_row w1' I.kb 6 _ _ (hP1.comp .kern).1
              have c5 := HP2.out.1.cells.plan
              have d2 := (HP2.out.1.desc (x := x) hm).thing
              have HT1 := hide (Turned.of_below (S := Own ρ) hB)
              clear hP1 hB
              go_wp2_with fail
              generalize hw2 : w1'.setCell ⟨I.kb, 6, none⟩ (.int .i64 ((K.reads : Int) + 1)) = w2 at *
              refine (HN.out w2 I _ HP2.out.1 rfl).mono ?_
              rintro e w3 ⟨rfl, v', hP3, hT3⟩
              have c7 := (hP3.desc (x := x) hm).thing
              rw [thing_pipe (K := { K with reads := K.reads + 1, plan := K.plan.tail }) ho] at c7
              simp only at c7
              go_wp2_with fail
              refine (xread_pipe ρ _ _ x q rd wt pr1 w3 hP3 hm ho).mono ?_
              rintro e w4 ⟨v, rfl, hrow, hN⟩
              obtain ⟨va, vc, rfl⟩ := owns_slice hrow
              have HV := hide hrow
              have HS := hide hN
              clear hrow hN
              go_wp2
              go_ret2
              exact PRd.done ((HT1.out.trans HP2.out.2 (fun _ _ e => e)).trans hT3 (fun _ _ e => e)) rfl HV.out HS.out
            · rw [if_neg he]
              have he2 : (pr2 == 0) = false := by simpa using he
              go_enter Tryz.func51, Tryz.ntmps51
              go_wp2_with fail
              refine HF.out.mono ?_
              rintro e w1 ⟨rfl, rfl⟩
              unfold descV
              go_wp2_with fail
              refine HW.out.mono ?_
              rintro e w1' ⟨rfl, hB⟩
              have hP1 := HP.out.under hB
              have HP2 := hide hP1.readUp
              have c6 := hP1.cells.reads
              have c6s : w1'.frozen? ⟨I.kb, 6, none⟩ = false := frozen_of_row w1' I.kb 6 _ _ (hP1.comp .kern).1
              have c5 := HP2.out.1.cells.plan
              have d2 := (HP2.out.1.desc (x := x) hm).thing
              have HT1 := hide (Turned.of_below (S := Own ρ) hB)
              clear hP1 hB
              go_wp2_with fail
              generalize hw2 : w1'.setCell ⟨I.kb, 6, none⟩ (.int .i64 ((K.reads : Int) + 1)) = w2 at *
              refine (HN.out w2 I _ HP2.out.1 rfl).mono ?_
              rintro e w3 ⟨rfl, v', hP3, hT3⟩
              have HP3 := hide hP3
              clear hP3
              go_wp2
              go_ret2
              exact ⟨_, rfl, World.ownsRow_nil _ _ _ _, PHold.of HP3.out rfl ((HT1.out.trans HP2.out.2 (fun _ _ e => e)).trans hT3 (fun _ _ e => e))⟩
end Go.Proofs.YtkkommomefmpgaaGreat

/- The program's kernel: Pipe. -/
namespace Go.Proofs.YtkkommomefmpgaaGreat
open Go.RowKit Go.Maps

end Go.Proofs.YtkkommomefmpgaaGreat

/- The program's kernel: Pipe, walked. -/
namespace Go.Proofs.YtkkommomefmpgaaGreat
open Go.RowKit Go.Maps

end Go.Proofs.YtkkommomefmpgaaGreat

/- The program's kernel: CanRead, CanWrite. -/
namespace Go.Proofs.YtkkommomefmpgaaGreat
open Go.RowKit Go.Maps

end Go.Proofs.YtkkommomefmpgaaGreat

/- The program's kernel: Write, walked. -/
namespace Go.Proofs.YtkkommomefmpgaaGreat
open Go.RowKit Go.Maps

theorem PNum.done {w w1 w4 : World} {ρ : Nat → Option PTag} {I I1 : PI} {r : Int × Int × KS} (hT : Turned (Own ρ) w w1) (hk : I1.kb = I.kb) {e : Ending} (h : PNum ρ I1 w1 r e w4) : PNum ρ I w r e w4 := ⟨h.1, h.2.after hT hk⟩
set_option maxRecDepth 100000 in
set_option maxHeartbeats 4000000 in
theorem kwrite_any (ρ : Nat → Option PTag) (I : PI) (K : KS) (d : Int) (bs : List UInt8) (a1 : Option Addr) (cx : Nat) (w : World) (h : PK w ρ I K) (hd : I64 d) (hr : K.writes < 9223372036854775807)
    (hb : Bys w (.slice a1 bs.length cx) bs) (hcap : bs.length ≤ cx) (hbig : bs.length ≤ 9223372036854775807) (hap : 0 < bs.length → ∀ k, (Value.slice a1 bs.length cx).ownBlock = some k → ¬ Own ρ k) :
    Calls Tryz.prog 53 #[.pointer (some ⟨I.kb, 0, none⟩), .int .i64 d, .slice a1 bs.length cx] w (PNum ρ I w (K.write d bs)) := by
  have HF := hide (described_any ρ I K d w h hd)
  have HX := hide fun E => PNum.refused h (Below.refl _ w) E
  have HK := hide h
  cases hx : K.find d with
  | none =>
    rw [hx] at HF
    rw [show K.write d bs = (0, 64, K) by unfold KS.write; rw [hx]]
    clear h HK hb hap
    go_enter Tryz.func53, Tryz.ntmps53
    go_wp2_with fail
    refine HF.out.mono ?_
    rintro e w1 ⟨rfl, rfl⟩
    unfold descV
    go_wp2
    go_ret2
    exact HX.out 64
  | some x =>
    rw [hx] at HF
    have hm := (KS.find_some hx).1
    have hdc := h.desc hm
    have c0 := hdc.thing
    have c1 := hdc.writes
    by_cases hf : fbit x.flags 2 = 0
    · rw [show K.write d bs = (0, 65, K) by unfold KS.write; rw [hx]; simp only; rw [if_pos hf]]
      rw [bit_no hf] at c1
      clear h hdc HK hb hap
      go_enter Tryz.func53, Tryz.ntmps53
      go_wp2_with fail
      refine HF.out.mono ?_
      rintro e w1 ⟨rfl, rfl⟩
      unfold descV
      go_wp2
      go_ret2
      exact HX.out 65
    · rw [bit_yes hf] at c1
      by_cases hn : 1048576 < bs.length
      · rw [show K.write d bs = (0, 5, K) by unfold KS.write; rw [hx]; simp only; rw [if_neg hf, if_pos hn]]
        have hn' : (1048576 : Int) < (bs.length : Int) := by omega
        clear h hdc HK hb hap
        go_enter Tryz.func53, Tryz.ntmps53
        go_wp2_with fail
        refine HF.out.mono ?_
        rintro e w1 ⟨rfl, rfl⟩
        unfold descV
        go_wp2
        go_ret2
        exact HX.out 5
      · by_cases hz : bs.length = 0
        · rw [show K.write d bs = (0, 0, K) by unfold KS.write; rw [hx]; simp only; rw [if_neg hf, if_neg hn, if_pos hz]]
          obtain rfl := List.length_eq_zero_iff.1 hz
          clear h hdc HK hb hap
          simp only [List.length_nil]
          go_enter Tryz.func53, Tryz.ntmps53
          go_wp2_with fail
          refine HF.out.mono ?_
          rintro e w1 ⟨rfl, rfl⟩
          unfold descV
          go_wp2
          go_ret2
          exact HX.out 0
        · have n1 : 1 ≤ bs.length := by omega
          have n2 : bs.length ≤ 1048576 := by omega
          have n3 : ¬ (1048576 : Int) < (bs.length : Int) := by omega
          have n4 : (1 : Int) ≤ (bs.length : Int) := by omega
          have n5 : (bs.length : Int) ≤ 1048576 := by omega
          have n6 : ¬ (bs.length : Int) = 0 := by omega
          have n7 : ((bs.length : Int) == 0) = false := by simpa using n6
          obtain ⟨pr, hpr⟩ : ∃ pr, pr = nxt K.plan bs.length := ⟨_, rfl⟩
          have HG : Hid (pr.2 = 0 → ∃ m : Nat, pr.1 = m ∧ 1 ≤ m ∧ m ≤ bs.length) := hide (fun e => by rw [hpr] at e ⊢; have := nxt_good h.ok.plan n4 n5 e; exact ⟨(nxt K.plan bs.length).1.toNat, by omega, by omega, by omega⟩)
          have HN := hide fun W I' K' (hW : PK W ρ I' K') (hpl : K'.plan = K.plan) => by
            have := knext_any ρ I' K' bs.length W hW n4 n5
            rw [hpl, ← hpr] at this
            exact this
          have HB := hide (And.intro hb (And.intro hcap (hap (by omega))))
          have HO := hide (h.pobj hm)
          clear hdc hb hap
          cases ho : K.tho x with
          | file b =>
            obtain ⟨RF, hRF⟩ : ∃ RF : Int, RF = (if plc b (bit x.flags 4) x.pos = 1048576 then 31 else 0) := ⟨_, rfl⟩
            have HRf := hide (of_refuses (I.xb x.n) (I.ob x.th) b x.pos (bit x.flags 4) bs.length _ w (h.comp (.ofile x.n) x hm rfl b ho).1 (by have := HO.out; rw [ho] at this; exact this))
            rw [← hRF] at HRf
            have hRF2 : refusal (K.tho x) x.flags x.pos bs.length = RF := by rw [ho, hRF]; rfl
            clear hRF
            have HT0 := hide ho
            rw [thing_file ho] at c0
            have hmw := mf_refuses (I.xb x.n)
            have hmr := mf_write (I.xb x.n)
            by_cases hz2 : RF = 0
            · rw [write_is hx hf n1 n2 (hRF2.trans hz2), ← hpr]
              subst hz2
              clear h HX hpr
              obtain ⟨pr1, pr2⟩ := pr
              simp only at HG HN ⊢
              by_cases he : pr2 = 0
              · subst he
                rw [if_pos rfl]
                obtain ⟨M, hM, hM1, hM2⟩ := HG.out (by first | rfl | trivial)
                subst hM
                go_enter Tryz.func53, Tryz.ntmps53
                go_wp2_with fail
                refine HF.out.mono ?_
                rintro e w1 ⟨rfl, rfl⟩
                unfold descV
                go_wp2_with fail
                refine HRf.out.mono ?_
                rintro e w1' ⟨rfl, rfl⟩
                have hP1 := HK.out
                have HT1 := hide (Turned.refl (Own ρ) w1')
                have HP2 := hide hP1.writeUp
                have c6 := hP1.cells.writes
                have c6s : w1'.frozen? ⟨I.kb, 7, none⟩ = false := frozen_of_row w1' I.kb 7 _ _ (hP1.comp .kern).1
                have c5 := HP2.out.1.cells.plan
                have d2 := (HP2.out.1.desc (x := x) hm).thing
                clear hP1
                go_wp2_with fail
                generalize hw2 : w1'.setCell ⟨I.kb, 7, none⟩ (.int .i64 ((K.writes : Int) + 1)) = w2 at *
                refine (HN.out w2 I _ HP2.out.1 rfl).mono ?_
                rintro e w3 ⟨rfl, v', hP3, hT3⟩
                have hT13 := (HT1.out.trans HP2.out.2 (fun _ _ e => e)).trans hT3 (fun _ _ e => e)
                have hbw : Bys w3 (.slice a1 bs.length cx) bs := HB.out.1.turned hT13 (fun k e _ => HB.out.2.2 k e)
                have c7 := (hP3.desc (x := x) hm).thing
                rw [thing_file (K := { K with writes := K.writes + 1, plan := K.plan.tail }) ho] at c7
                simp only at c7
                go_wp2_with fail
                refine (xwrite_file ρ _ _ x b bs M a1 cx w3 hP3 hm ho hbw HB.out.2.1 hM1 hM2 n2 HB.out.2.2).mono ?_
                rintro e w4 hN4
                obtain rfl := hN4.1
                have HS := hide hN4
                clear hN4
                go_wp2
                go_ret2
                exact PNum.done hT13 rfl HS.out
              · rw [if_neg he]
                have he2 : (pr2 == 0) = false := by simpa using he
                go_enter Tryz.func53, Tryz.ntmps53
                go_wp2_with fail
                refine HF.out.mono ?_
                rintro e w1 ⟨rfl, rfl⟩
                unfold descV
                go_wp2_with fail
                refine HRf.out.mono ?_
                rintro e w1' ⟨rfl, rfl⟩
                have hP1 := HK.out
                have HT1 := hide (Turned.refl (Own ρ) w1')
                have HP2 := hide hP1.writeUp
                have c6 := hP1.cells.writes
                have c6s : w1'.frozen? ⟨I.kb, 7, none⟩ = false := frozen_of_row w1' I.kb 7 _ _ (hP1.comp .kern).1
                have c5 := HP2.out.1.cells.plan
                have d2 := (HP2.out.1.desc (x := x) hm).thing
                clear hP1
                go_wp2_with fail
                generalize hw2 : w1'.setCell ⟨I.kb, 7, none⟩ (.int .i64 ((K.writes : Int) + 1)) = w2 at *
                refine (HN.out w2 I _ HP2.out.1 rfl).mono ?_
                rintro e w3 ⟨rfl, v', hP3, hT3⟩
                have hT13 := (HT1.out.trans HP2.out.2 (fun _ _ e => e)).trans hT3 (fun _ _ e => e)
                have HP3 := hide hP3
                clear hP3
                go_wp2
                go_ret2
                exact ⟨rfl, PNext.of HP3.out rfl hT13⟩
            · have hne : ¬ refusal (K.tho x) x.flags x.pos bs.length = 0 := by rw [hRF2]; exact hz2
              rw [show K.write d bs = (0, RF, K) by unfold KS.write; rw [hx]; simp only; rw [if_neg hf, if_neg hn, if_neg hz, if_neg hne, hRF2]]
              have hz3 : (RF == 0) = false := by simpa using hz2
              clear h HX hpr HG HN hne
              go_enter Tryz.func53, Tryz.ntmps53
              go_wp2_with fail
              refine HF.out.mono ?_
              rintro e w1 ⟨rfl, rfl⟩
              unfold descV
              go_wp2_with fail
              refine HRf.out.mono ?_
              rintro e w1' ⟨rfl, rfl⟩
              go_wp2
              go_ret2
              exact PNum.refused HK.out (Below.refl _ _) RF
          | term ls scr =>
            obtain ⟨RF, hRF⟩ : ∃ RF : Int, RF = (if scr.length = 1048576 then 31 else 0) := ⟨_, rfl⟩
            have HRf := hide (co_refuses (I.cb x.th) (I.ob x.th) scr.length bs.length w (h.comp (.cons x.th) (h.ok.th x hm) ls scr (by rw [← KS.tho_eq (h.ok.th x hm)]; exact ho)).1)
            rw [← hRF] at HRf
            have hRF2 : refusal (K.tho x) x.flags x.pos bs.length = RF := by rw [ho, hRF]; rfl
            clear hRF
            have HT0 := hide ho
            rw [thing_term ho] at c0
            have hmw := mt_refuses (I.cb x.th)
            have hmr := mt_write (I.cb x.th)
            by_cases hz2 : RF = 0
            · rw [write_is hx hf n1 n2 (hRF2.trans hz2), ← hpr]
              subst hz2
              clear h HX hpr
              obtain ⟨pr1, pr2⟩ := pr
              simp only at HG HN ⊢
              by_cases he : pr2 = 0
              · subst he
                rw [if_pos rfl]
                obtain ⟨M, hM, hM1, hM2⟩ := HG.out (by first | rfl | trivial)
                subst hM
                go_enter Tryz.func53, Tryz.ntmps53
                go_wp2_with fail
                refine HF.out.mono ?_
                rintro e w1 ⟨rfl, rfl⟩
                unfold descV
                go_wp2_with fail
                refine HRf.out.mono ?_
                rintro e w1' ⟨rfl, rfl⟩
                have hP1 := HK.out
                have HT1 := hide (Turned.refl (Own ρ) w1')
                have HP2 := hide hP1.writeUp
                have c6 := hP1.cells.writes
                have c6s : w1'.frozen? ⟨I.kb, 7, none⟩ = false := frozen_of_row w1' I.kb 7 _ _ (hP1.comp .kern).1
                have c5 := HP2.out.1.cells.plan
                have d2 := (HP2.out.1.desc (x := x) hm).thing
                clear hP1
                go_wp2_with fail
                generalize hw2 : w1'.setCell ⟨I.kb, 7, none⟩ (.int .i64 ((K.writes : Int) + 1)) = w2 at *
                refine (HN.out w2 I _ HP2.out.1 rfl).mono ?_
                rintro e w3 ⟨rfl, v', hP3, hT3⟩
                have hT13 := (HT1.out.trans HP2.out.2 (fun _ _ e => e)).trans hT3 (fun _ _ e => e)
                have hbw : Bys w3 (.slice a1 bs.length cx) bs := HB.out.1.turned hT13 (fun k e _ => HB.out.2.2 k e)
                have c7 := (hP3.desc (x := x) hm).thing
                rw [thing_term (K := { K with writes := K.writes + 1, plan := K.plan.tail }) ho] at c7
                simp only at c7
                go_wp2_with fail
                refine (xwrite_term ρ _ _ x ls scr bs M a1 cx w3 hP3 hm ho hbw HB.out.2.1 hM1 hM2 n2 HB.out.2.2).mono ?_
                rintro e w4 hN4
                obtain rfl := hN4.1
                have HS := hide hN4
                clear hN4
                go_wp2
                go_ret2
                exact PNum.done hT13 rfl HS.out
              · rw [if_neg he]
                have he2 : (pr2 == 0) = false := by simpa using he
                go_enter Tryz.func53, Tryz.ntmps53
                go_wp2_with fail
                refine HF.out.mono ?_
                rintro e w1 ⟨rfl, rfl⟩
                unfold descV
                go_wp2_with fail
                refine HRf.out.mono ?_
                rintro e w1' ⟨rfl, rfl⟩
                have hP1 := HK.out
                have HT1 := hide (Turned.refl (Own ρ) w1')
                have HP2 := hide hP1.writeUp
                have c6 := hP1.cells.writes
                have c6s : w1'.frozen? ⟨I.kb, 7, none⟩ = false := frozen_of_row w1' I.kb 7 _ _ (hP1.comp .kern).1
                have c5 := HP2.out.1.cells.plan
                have d2 := (HP2.out.1.desc (x := x) hm).thing
                clear hP1
                go_wp2_with fail
                generalize hw2 : w1'.setCell ⟨I.kb, 7, none⟩ (.int .i64 ((K.writes : Int) + 1)) = w2 at *
                refine (HN.out w2 I _ HP2.out.1 rfl).mono ?_
                rintro e w3 ⟨rfl, v', hP3, hT3⟩
                have hT13 := (HT1.out.trans HP2.out.2 (fun _ _ e => e)).trans hT3 (fun _ _ e => e)
                have HP3 := hide hP3
                clear hP3
                go_wp2
                go_ret2
                exact ⟨rfl, PNext.of HP3.out rfl hT13⟩
            · have hne : ¬ refusal (K.tho x) x.flags x.pos bs.length = 0 := by rw [hRF2]; exact hz2
              rw [show K.write d bs = (0, RF, K) by unfold KS.write; rw [hx]; simp only; rw [if_neg hf, if_neg hn, if_neg hz, if_neg hne, hRF2]]
              have hz3 : (RF == 0) = false := by simpa using hz2
              clear h HX hpr HG HN hne
              go_enter Tryz.func53, Tryz.ntmps53
              go_wp2_with fail
              refine HF.out.mono ?_
              rintro e w1 ⟨rfl, rfl⟩
              unfold descV
              go_wp2_with fail
              refine HRf.out.mono ?_
              rintro e w1' ⟨rfl, rfl⟩
              go_wp2
              go_ret2
              exact PNum.refused HK.out (Below.refl _ _) RF
          | pipe q rd wt =>
            obtain ⟨RF, hRF⟩ : ∃ RF : Int, RF = (if rd = 0 then 53 else if canW bs.length q.length rd wt = false then 52 else 0) := ⟨_, rfl⟩
            have HRf := hide (pp_refuses (I.ob x.th) q rd wt bs.length w (by have := HO.out; rw [ho] at this; exact this.1))
            rw [← hRF] at HRf
            have hRF2 : refusal (K.tho x) x.flags x.pos bs.length = RF := by rw [ho, hRF]; rfl
            clear hRF
            have HT0 := hide ho
            rw [thing_pipe ho] at c0
            have hmw := mp_refuses (I.ob x.th)
            have hmr := mp_write (I.ob x.th)
            by_cases hz2 : RF = 0
            · rw [write_is hx hf n1 n2 (hRF2.trans hz2), ← hpr]
              subst hz2
              clear h HX hpr
              obtain ⟨pr1, pr2⟩ := pr
              simp only at HG HN ⊢
              by_cases he : pr2 = 0
              · subst he
                rw [if_pos rfl]
                obtain ⟨M, hM, hM1, hM2⟩ := HG.out (by first | rfl | trivial)
                subst hM
                go_enter Tryz.func53, Tryz.ntmps53
                go_wp2_with fail
                refine HF.out.mono ?_
                rintro e w1 ⟨rfl, rfl⟩
                unfold descV
                go_wp2_with fail
                refine HRf.out.mono ?_
                rintro e w1' ⟨rfl, hB⟩
                have hP1 := HK.out.under hB
                have HT1 := hide (Turned.of_below (S := Own ρ) hB)
                have HP2 := hide hP1.writeUp
                have c6 := hP1.cells.writes
                have c6s : w1'.frozen? ⟨I.kb, 7, none⟩ = false := frozen_of_row w1' I.kb 7 _ _ (hP1.comp .kern).1
                have c5 := HP2.out.1.cells.plan
                have d2 := (HP2.out.1.desc (x := x) hm).thing
                clear hP1
                go_wp2_with fail
                generalize hw2 : w1'.setCell ⟨I.kb, 7, none⟩ (.int .i64 ((K.writes : Int) + 1)) = w2 at *
                refine (HN.out w2 I _ HP2.out.1 rfl).mono ?_
                rintro e w3 ⟨rfl, v', hP3, hT3⟩
                have hT13 := (HT1.out.trans HP2.out.2 (fun _ _ e => e)).trans hT3 (fun _ _ e => e)
                have hbw : Bys w3 (.slice a1 bs.length cx) bs := HB.out.1.turned hT13 (fun k e _ => HB.out.2.2 k e)
                have c7 := (hP3.desc (x := x) hm).thing
                rw [thing_pipe (K := { K with writes := K.writes + 1, plan := K.plan.tail }) ho] at c7
                simp only at c7
                go_wp2_with fail
                refine (xwrite_pipe ρ _ _ x q rd wt bs M a1 cx w3 hP3 hm ho hbw HB.out.2.1 n2 HB.out.2.2).mono ?_
                rintro e w4 hN4
                obtain rfl := hN4.1
                have HS := hide hN4
                clear hN4
                go_wp2
                go_ret2
                exact PNum.done hT13 rfl HS.out
              · rw [if_neg he]
                have he2 : (pr2 == 0) = false := by simpa using he
                go_enter Tryz.func53, Tryz.ntmps53
                go_wp2_with fail
                refine HF.out.mono ?_
                rintro e w1 ⟨rfl, rfl⟩
                unfold descV
                go_wp2_with fail
                refine HRf.out.mono ?_
                rintro e w1' ⟨rfl, hB⟩
                have hP1 := HK.out.under hB
                have HT1 := hide (Turned.of_below (S := Own ρ) hB)
                have HP2 := hide hP1.writeUp
                have c6 := hP1.cells.writes
                have c6s : w1'.frozen? ⟨I.kb, 7, none⟩ = false := frozen_of_row w1' I.kb 7 _ _ (hP1.comp .kern).1
                have c5 := HP2.out.1.cells.plan
                have d2 := (HP2.out.1.desc (x := x) hm).thing
                clear hP1
                go_wp2_with fail
                generalize hw2 : w1'.setCell ⟨I.kb, 7, none⟩ (.int .i64 ((K.writes : Int) + 1)) = w2 at *
                refine (HN.out w2 I _ HP2.out.1 rfl).mono ?_
                rintro e w3 ⟨rfl, v', hP3, hT3⟩
                have hT13 := (HT1.out.trans HP2.out.2 (fun _ _ e => e)).trans hT3 (fun _ _ e => e)
                have HP3 := hide hP3
                clear hP3
                go_wp2
                go_ret2
                exact ⟨rfl, PNext.of HP3.out rfl hT13⟩
            · have hne : ¬ refusal (K.tho x) x.flags x.pos bs.length = 0 := by rw [hRF2]; exact hz2
              rw [show K.write d bs = (0, RF, K) by unfold KS.write; rw [hx]; simp only; rw [if_neg hf, if_neg hn, if_neg hz, if_neg hne, hRF2]]
              have hz3 : (RF == 0) = false := by simpa using hz2
              clear h HX hpr HG HN hne
              go_enter Tryz.func53, Tryz.ntmps53
              go_wp2_with fail
              refine HF.out.mono ?_
              rintro e w1 ⟨rfl, rfl⟩
              unfold descV
              go_wp2_with fail
              refine HRf.out.mono ?_
              rintro e w1' ⟨rfl, hB⟩
              go_wp2
              go_ret2
              exact PNum.refused HK.out hB RF
end Go.Proofs.YtkkommomefmpgaaGreat

/- The program's kernel within a set of blocks: each call. -/
namespace Go.Proofs.YtkkommomefmpgaaGreat
open Go.RowKit Go.Maps

theorem KAt.open {w : World} {O : Nat → Prop} {kb : Nat} {K : KS} (h : KAt w O kb K) (s : ByteArray) (flags : Int) (hs : s.size ≤ maxLen) (hl : K.next < 9223372036854775807) :
    Calls Tryz.prog 47 #[.pointer (some ⟨kb, 0, none⟩), .string s, .int .i64 flags] w fun e w' => e = .returned (.tuple #[.int .i64 (K.open s flags).1, .int .i64 (K.open s flags).2.1]) ∧ KStep w O kb (K.open s flags).2.2 w' := by
  obtain ⟨ρ, I, h1, rfl, h3⟩ := h
  exact (kopen_any ρ I K s flags w h1 hs hl).mono fun e w' ⟨a, b⟩ => ⟨a, b.step h3⟩
theorem KAt.read {w : World} {O : Nat → Prop} {kb : Nat} {K : KS} (h : KAt w O kb K) (d n : Int) (hd : I64 d) (hr : K.reads < 9223372036854775807) :
    Calls Tryz.prog 51 #[.pointer (some ⟨kb, 0, none⟩), .int .i64 d, .int .i64 n] w fun e w' => ∃ v, e = .returned (.tuple #[v, .int .i64 (K.read d n).2.1]) ∧ w'.ownsRow w.heap.size 5 1 v (K.read d n).1.length ((K.read d n).1.map bv) ∧ KAt w' O kb (K.read d n).2.2 ∧ Turned O w w' := by
  obtain ⟨ρ, I, h1, rfl, h3⟩ := h
  exact (kread_any ρ I K d n w h1 hd hr).mono fun e w' ⟨v, a, b, ρ', I', c1, c2, c3, c4⟩ => ⟨v, a, b, ⟨ρ', I', c1, c2, fun k t e => by obtain ⟨t', e'⟩ := c3 k ⟨t, e⟩; exact h3 k t' e'⟩, c4.mono fun k ⟨t, e⟩ => h3 k t e⟩
theorem KAt.write {w : World} {O : Nat → Prop} {kb : Nat} {K : KS} (h : KAt w O kb K) (d : Int) (bs : List UInt8) (a1 : Option Addr) (cx : Nat) (hd : I64 d) (hr : K.writes < 9223372036854775807)
    (hb : Bys w (.slice a1 bs.length cx) bs) (hcap : bs.length ≤ cx) (hbig : bs.length ≤ 9223372036854775807) (hap : 0 < bs.length → ∀ k, (Value.slice a1 bs.length cx).ownBlock = some k → ¬ O k) :
    Calls Tryz.prog 53 #[.pointer (some ⟨kb, 0, none⟩), .int .i64 d, .slice a1 bs.length cx] w fun e w' => e = .returned (.tuple #[.int .i64 (K.write d bs).1, .int .i64 (K.write d bs).2.1]) ∧ KStep w O kb (K.write d bs).2.2 w' := by
  obtain ⟨ρ, I, h1, rfl, h3⟩ := h
  exact (kwrite_any ρ I K d bs a1 cx w h1 hd hr hb hcap hbig (fun h0 k e ⟨t, e'⟩ => hap h0 k e (h3 k t e'))).mono fun e w' ⟨a, b⟩ => ⟨a, b.step h3⟩
theorem KAt.seek {w : World} {O : Nat → Prop} {kb : Nat} {K : KS} (h : KAt w O kb K) (d off wh : Int) (hd : I64 d) (ho : I64 off) :
    Calls Tryz.prog 56 #[.pointer (some ⟨kb, 0, none⟩), .int .i64 d, .int .i64 off, .int .i64 wh] w fun e w' => e = .returned (.tuple #[.int .i64 (K.seek d off wh).1, .int .i64 (K.seek d off wh).2.1]) ∧ KStep w O kb (K.seek d off wh).2.2 w' := by
  obtain ⟨ρ, I, h1, rfl, h3⟩ := h
  exact (kseek_any ρ I K d off wh w h1 hd ho).mono fun e w' ⟨a, b⟩ => ⟨a, b.step h3⟩
theorem KAt.trim {w : World} {O : Nat → Prop} {kb : Nat} {K : KS} (h : KAt w O kb K) : KAt w (fun k => O k ∧ k < w.heap.size) kb K := by
  obtain ⟨ρ, I, h1, h2, h3⟩ := h
  exact ⟨ρ, I, h1, h2, fun k t e => ⟨h3 k t e, h1.lt k t e⟩⟩
end Go.Proofs.YtkkommomefmpgaaGreat

/- The law's examples. -/
namespace Go.Proofs.YtkkommomefmpgaaGreat
open Go.RowKit Go.Maps

end Go.Proofs.YtkkommomefmpgaaGreat

/- KernPlace: the kernel's states, as values. -/
namespace Go.Proofs.YtkkommomefmpgaaGreat
open Go.RowKit Go.Maps

theorem nxt_nil {n : Int} (h1 : 1 ≤ n) (h2 : n ≤ 1048576) : nxt [] n = (n, 0) := by simp [nxt]; omega
end Go.Proofs.YtkkommomefmpgaaGreat

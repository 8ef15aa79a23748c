/- What the proof stands on, part 14: the contracts of the program's calls that it reaches. -/
import Derived.Test.YtkkicbhmcjbmbaaGreatKM13
import Derived.ProofKit
import Derived.OpenShut
import Derived.ChangeArms
import Derived.ChangeSlices
import Derived.SizedLaws
import Derived.Deep.Slices
/- The program's kernel: New. -/
namespace Go.Proofs.YtkkicbhmcjbmbaaGreat
open Go.RowKit Go.Maps

theorem giveE_zero {ns : List ByteArray} {s : ByteArray} (h : giveE ns s = 0) : nameOk s = true ∧ s ∉ ns := by
  unfold giveE at h
  by_cases h1 : nameOk s = false
  · rw [if_pos h1] at h; cases h
  · rw [if_neg h1] at h
    by_cases h2 : inNames s ns = true
    · rw [if_pos h2] at h; cases h
    · exact ⟨by simpa using h1, fun e => h2 ((inNames_iff s ns).2 e)⟩
/-- What Check has seen to, from the k-th file on, of a kernel that has those ahead. -/
structure Seen (K : KS) (ns : List ByteArray) (n : Nat) : Prop where
  names : ∀ i ∈ K.nm, K.nameOf i ∈ ns
  len : K.nm.length = n
  next : K.next = 1 ∧ K.reads = 0 ∧ K.writes = 0
theorem Seen.add {K : KS} {ns : List ByteArray} {n : Nat} (h : Seen K ns n) (hok : KOk K) (t : Th) : Seen (K.addTh t) (ns ++ [t.name]) (n + 1) := by
  have hM := more_addTh K t
  refine ⟨fun i hi => ?_, ?_, h.next⟩
  · rw [addTh_nm] at hi
    rcases mem_insN.1 hi with rfl | hi
    · rw [hM.nameNew]; simp
    · rw [hM.nameOf (hok.nm i hi)]
      exact List.mem_append_left _ (h.names i hi)
  · rw [addTh_nm, (insN_perm _ _ _).length_eq]; simp [h.len]
theorem foldl_take {α β : Type} (f : β → α → β) (b : β) (l : List α) (k : Nat) (hk : k < l.length) : (l.take (k + 1)).foldl f b = f ((l.take k).foldl f b) l[k] := by
  rw [List.take_succ_eq_append_getElem hk, List.foldl_append]; rfl
def addF (K : KS) (f : Nm) : KS := K.addTh ⟨f.1, .file f.2⟩
def addT (K : KS) (t : Tp) : KS := K.addTh ⟨t.1, .term t.2 []⟩
theorem check_plan {l : List Fault} (h : (chk l).1 = 0) : planOk l := by
  have hl : ¬ 4096 < l.length := fun e => by rw [chk_long e] at h; cases h
  have hfb : fb l = l.length := by
    rcases Nat.lt_or_ge (fb l) l.length with e | e
    · rw [chk_bad hl e] at h; cases h
    · have := fb_le l; omega
  refine ⟨by omega, fun f hf e1 => ?_⟩
  obtain ⟨j, hj, rfl⟩ := List.getElem_of_mem hf
  have := fb_good hfb j hj
  rw [List.getD_eq_getElem?_getD, List.getElem?_eq_getElem hj] at this
  simp only [Option.getD_some] at this
  unfold may at this
  simp [e1] at this
  omega
set_option maxRecDepth 100000 in
set_option maxHeartbeats 8000000 in
theorem knew_good (a1 a2 a3 : Option Addr) (c1 c2 c3 : Nat) (fs : List Nm) (ts : List Tp) (l : List Fault) (w : World) (h1 : Nms w (.slice a1 fs.length c1) fs) (h2 : Tps w (.slice a2 ts.length c2) ts) (h3 : Flts w (.slice a3 l.length c3) l) (hs3 : l.length * 16 ≤ 140737488351232) (hl1 : fs.length ≤ 140737488351232) (hl2 : ts.length ≤ 140737488351232) (hE : checkE fs ts l = 0) :
    Calls Tryz.prog 7 #[.agg #[.slice a1 fs.length c1, .slice a2 ts.length c2, .slice a3 l.length c3]] w fun e w' => ∃ kb, e = .returned (.tuple #[.pointer (some ⟨kb, 0, none⟩), .int .i64 0]) ∧ KAt w' (fun k => w.heap.size ≤ k) kb (KS.new fs ts l) ∧ Below w.heap.size w w' := by
  have hEs : ¬ 256 < fs.length + ts.length ∧ (kfiles [] fs).1 = 0 ∧ kterms (kfiles [] fs).2 ts = 0 ∧ (chk l).1 = 0 := by
    unfold checkE at hE
    by_cases e1 : 256 < fs.length + ts.length
    · rw [if_pos e1] at hE; cases hE
    · rw [if_neg e1] at hE
      by_cases e2 : (kfiles [] fs).1 = 0
      · rw [if_pos e2] at hE
        by_cases e3 : kterms (kfiles [] fs).2 ts = 0
        · rw [if_pos e3] at hE; exact ⟨e1, e2, e3, hE⟩
        · rw [if_neg e3] at hE; exact absurd hE e3
      · rw [if_neg e2] at hE; exact absurd hE e2
  obtain ⟨hc, hE1, hE2, hE3⟩ := hEs
  have H1 := hide h1
  have H2 := hide h2
  have H3 := hide h3
  have HE3 := hide hE3
  have hmm := @run_makeMap Tryz.prog
  have hB0 := recv_below w (Obj.cells #[.slice a1 fs.length c1, .slice a2 ts.length c2, .slice a3 l.length c3] 28)
  have HCk := hide (kcheck_any a1 a2 a3 c1 c2 c3 fs ts l _ (h1.below hB0) (h2.below hB0) (h3.below hB0) (by unfold maxLen; omega) hl1 hl2)
  rw [hE] at HCk
  obtain ⟨cc0, cc1, cc2⟩ := trio_cells w (.slice a1 fs.length c1) (.slice a2 ts.length c2) (.slice a3 l.length c3) 28
  have hlt0 : w.heap.size < (w.alloc (Obj.cells #[.slice a1 fs.length c1, .slice a2 ts.length c2, .slice a3 l.length c3] 28)).heap.size := size_new _ _
  have HKf : Hid ((kfiles [] fs).1 = 0 ∧ kterms (kfiles [] fs).2 ts = 0) := hide ⟨hE1, hE2⟩
  clear h1 h2 h3 hE1 hE2 hE3 hE
  go_enter Tryz.func7, Tryz.ntmps7
  go_wp2_with fail
  refine HCk.out.mono ?_
  rintro e w1 ⟨rfl, hB1⟩
  have d0 := (hB1.cell (p := ⟨w.heap.size, 0, none⟩) hlt0).trans cc0
  have d1 := (hB1.cell (p := ⟨w.heap.size, 1, none⟩) hlt0).trans cc1
  have d2 := (hB1.cell (p := ⟨w.heap.size, 2, none⟩) hlt0).trans cc2
  have hBw1 : Below w.heap.size w w1 := hB0.trans (hB1.mono hB0.size)
  have hlt1 : w.heap.size < w1.heap.size := Nat.lt_of_lt_of_le hlt0 hB1.size
  have hBk : Below w1.heap.size w1 ((((w1.alloc (.map #[] 0)).alloc (.map #[] 0)).alloc (.map #[] 0)).alloc (Obj.cells #[.bool true, .map (some w1.heap.size), .map (some (w1.heap.size + 1)), .map (some (w1.heap.size + 1 + 1)), .int .i64 0, .pointer none, .int .i64 0, .int .i64 0] 91)) := (recv_below _ _).trans (((recv_below _ _).trans (((recv_below _ _).trans ((recv_below _ _).mono (by simp))).mono (by simp))).mono (by simp))
  have e0 := (hBk.cell (p := ⟨w.heap.size, 0, none⟩) hlt1).trans d0
  have e1 := (hBk.cell (p := ⟨w.heap.size, 1, none⟩) hlt1).trans d1
  have e2 := (hBk.cell (p := ⟨w.heap.size, 2, none⟩) hlt1).trans d2
  have HY := hide (start_py w1 w.heap.size (Nat.le_of_lt hlt1) l (check_plan HE3.out))
  have hBwk : Below w.heap.size w ((((w1.alloc (.map #[] 0)).alloc (.map #[] 0)).alloc (.map #[] 0)).alloc (Obj.cells #[.bool true, .map (some w1.heap.size), .map (some (w1.heap.size + 1)), .map (some (w1.heap.size + 1 + 1)), .int .i64 0, .pointer none, .int .i64 0, .int .i64 0] 91)) := hBw1.trans (hBk.mono (Nat.le_of_lt hlt1))
  clear hB0 hB1 hBw1 hBk d0 d1 d2 cc0 cc1 cc2 HCk
  generalize hk0 : w1.heap.size + 1 + 1 + 1 = k0 at *
  generalize hf0 : w1.heap.size = f0 at *
  generalize ht0 : f0 + 1 = t0 at *
  generalize ho0 : t0 + 1 = o0 at *
  have HK0 : Hid (k0 ≠ f0 ∧ f0 ≠ t0 ∧ k0 ≠ t0 ∧ w.heap.size < f0 ∧ w.heap.size < t0 ∧ w.heap.size < k0) := hide (by omega)
  have HC0 := hide (And.intro e1 e2)
  clear e1 e2
  go_wp2
  clear hk0 hf0 ht0 ho0 hlt1
  go_loopw [25] (fun i wr => ∃ (k : Nat) (K : KS) (ns : List ByteArray), k ≤ fs.length ∧ i = .int .i64 k ∧ Hid (∃ ρ I, PY wr w.heap.size ρ I K k0 f0 t0 o0) ∧ Hid (Seen K ns k ∧ (kfiles ns (fs.drop k)).1 = 0 ∧ kterms (kfiles ns (fs.drop k)).2 ts = 0 ∧ K = (fs.take k).foldl addF (KS.nought l)) ∧ Hid (wr.cell? ⟨w.heap.size, 1, none⟩ = some (.slice a2 ts.length c2) ∧ wr.cell? ⟨w.heap.size, 2, none⟩ = some (.slice a3 l.length c3)) ∧ Below w.heap.size w wr) (fun i _ => fs.length - (intOf i).toNat)
  case atStart => exact ⟨0, KS.nought l, [], Nat.zero_le _, rfl, hide ⟨_, _, HY.out⟩, hide ⟨⟨fun i hi => (by cases hi), rfl, rfl, rfl, rfl⟩, HKf.out.1, HKf.out.2, rfl⟩, HC0, hBwk⟩
  case round =>
    clear HY HC0 hBwk e0
    obtain ⟨k, K, ns, hk, rfl, HY, HS, HCc, hB⟩ := hrel
    have hsz := hB.size
    by_cases hlt : k < fs.length
    · obtain ⟨b, off, va, vc, rfl, hbl, q0, q1, hby, -, hnm⟩ := H1.out.at k hlt
      have hc0 := (hB.cell (p := ⟨b, off + k * 2, none⟩) hbl).trans q0
      have hc1 := (hB.cell (p := ⟨b, off + k * 2 + 1, none⟩) hbl).trans q1
      have hk1 : (0 : Int) ≤ (k : Int) := by omega
      have hk2 : (k : Int) < (fs.length : Int) := by omega
      obtain ⟨hS, hF, hF2, hKe⟩ := HS.out
      rw [drop_at fs k hlt] at hF hF2
      have hKe2 := foldl_take addF (KS.nought l) fs k hlt
      rw [← hKe] at hKe2
      clear q0 q1
      generalize fs[k] = p at hc0 hc1 hnm hF hF2 hby hKe2
      obtain ⟨nm, L⟩ := p
      simp only at hc0 hc1 hnm hby
      rw [kfiles_cons] at hF hF2
      have hg : giveE ns nm = 0 := by
        by_cases hg : giveE ns nm = 0
        · exact hg
        · rw [if_neg hg] at hF; exact absurd hF hg
      rw [if_pos hg] at hF hF2
      have hL : ¬ 1048576 < L.length := fun e => by rw [if_pos e] at hF; cases hF
      rw [if_neg hL] at hF hF2
      obtain ⟨hno, hnn⟩ := giveE_zero hg
      have hnew : ∀ i ∈ K.nm, K.nameOf i ≠ nm := fun i hi e => hnn (e ▸ hS.names i hi)
      have hBa := recv_below wr (Obj.cells #[.string nm, .slice va L.length vc] 93)
      obtain ⟨ca0, ca1⟩ := pair_cells wr (.string nm) (.slice va L.length vc) 93
      obtain ⟨ρ, I, hY⟩ := HY.out
      have hYa := hY.under hBa
      have hlenK : K.nm.length < 256 := by have := hS.len; omega
      have kc : (wr.alloc (Obj.cells #[.string nm, .slice va L.length vc] 93)).cell? ⟨k0, 1, none⟩ = some (.map (some f0)) := by
        rw [← hY.kb, ← hY.fm, cell_of_row _ I.kb _ _ _ _ hYa.blk]; rfl
      have HNf := hide (newFile_raw k0 f0 (K.fl I) nm (.slice va L.length vc) L _ kc (by rw [← hY.fm]; exact (hYa.px.comp .fmap (by simp) (by simp)).1) ((hby.below hB).below hBa) (by omega) hnm (mem_names hnew).1 (by have := (fl_len (I := I) hY.px.ok).1; unfold maxLen; omega))
      have HST : Hid (∀ w2 p, PObj w2 (fun k => (wr.alloc (Obj.cells #[.string nm, .slice va L.length vc] 93)).heap.size ≤ k ∧ k < w2.heap.size) p (.file L) → PMap w2 Tryz.prog 9 f0 ((nkey nm, p) :: K.fl I) → Turned (fun k => k = f0) (wr.alloc (Obj.cells #[.string nm, .slice va L.length vc] 93)) w2 → (∃ ρ I, PY w2 w.heap.size ρ I (addF K (nm, L)) k0 f0 t0 o0) ∧ (w2.cell? ⟨w.heap.size, 1, none⟩ = some (.slice a2 ts.length c2) ∧ w2.cell? ⟨w.heap.size, 2, none⟩ = some (.slice a3 l.length c3)) ∧ Below w.heap.size w w2) := hide (by
        intro w2 p hO hm hT
        have hlt0 : w.heap.size < wr.heap.size := by have := World.block_lt_of_cell? wr _ HCc.out.1; exact this
        have hBwa := hB.trans (hBa.mono hsz)
        refine ⟨hYa.addFile hBwa.size hO (by rw [hY.fm]; exact hm) (by rw [hY.fm]; exact hT) hno hnew hlenK, ⟨hT.cell ((hBa.cell (p := ⟨w.heap.size, 1, none⟩) hlt0).trans HCc.out.1) (by show ¬ w.heap.size = f0; have := HK0.out; omega), hT.cell ((hBa.cell (p := ⟨w.heap.size, 2, none⟩) hlt0).trans HCc.out.2) (by show ¬ w.heap.size = f0; have := HK0.out; omega)⟩, ?_⟩
        exact hBwa.trans (hT.below (fun k e => by rw [e]; have := HK0.out; omega) hBwa.size))
      have HS2 : Hid (Seen (addF K (nm, L)) (ns ++ [nm]) (k + 1) ∧ (kfiles (ns ++ [nm]) (fs.drop (k + 1))).1 = 0 ∧ kterms (kfiles (ns ++ [nm]) (fs.drop (k + 1))).2 ts = 0 ∧ addF K (nm, L) = (fs.take (k + 1)).foldl addF (KS.nought l)) := hide ⟨hS.add hY.px.ok ⟨nm, .file L⟩, hF, hF2, hKe2.symm⟩
      clear hY hYa hBa hS hF hF2 hKe hKe2 hnew hby hg hno hnn HS HY HCc
      go_wp2_with fail
      refine HNf.out.mono ?_
      rintro e w2 ⟨p, rfl, hO, hm, hT⟩
      obtain ⟨g1, g2, g3⟩ := HST.out w2 p hO hm hT
      have HY2 := hide g1
      have HC2 := hide g2
      clear g1 g2 hO hm hT HST
      go_wp2
      all_goals
        go_roundw
        case rel => exact ⟨k + 1, addF K (nm, L), ns ++ [nm], by omega, by go_num, HY2, HS2, HC2, g3⟩
        case measure => simp [intOf]; omega
    · have HS2 : Hid (Seen K ns fs.length ∧ kterms ns ts = 0 ∧ K = fs.foldl addF (KS.nought l)) := hide (by
        obtain ⟨hS, hF, hF2, hKe⟩ := HS.out
        have hke : k = fs.length := by omega
        subst hke
        rw [List.drop_length, kfiles] at hF2
        rw [List.take_length] at hKe
        exact ⟨hS, hF2, hKe⟩)
      have c41 := HCc.out.1
      clear HS
      go_wp2
      go_loopw [39] (fun i wq => ∃ (k : Nat) (K : KS) (ns : List ByteArray), k ≤ ts.length ∧ i = .int .i64 k ∧ Hid (∃ ρ I, PY wq w.heap.size ρ I K k0 f0 t0 o0) ∧ Hid (Seen K ns (fs.length + k) ∧ kterms ns (ts.drop k) = 0 ∧ K = (ts.take k).foldl addT (fs.foldl addF (KS.nought l))) ∧ Hid (wq.cell? ⟨w.heap.size, 2, none⟩ = some (.slice a3 l.length c3)) ∧ Below w.heap.size w wq) (fun i _ => ts.length - (intOf i).toNat)
      case atStart => exact ⟨0, K, ns, Nat.zero_le _, rfl, HY, hide ⟨HS2.out.1, HS2.out.2.1, HS2.out.2.2⟩, hide HCc.out.2, hB⟩
      case round =>
        rename_i hrel
        clear HY HS2 HCc hB hsz c41
        obtain ⟨k2, K2, ms, hk3, rfl, HY, HS, HCc, hB⟩ := hrel
        have hsz := hB.size
        by_cases hlt2 : k2 < ts.length
        · obtain ⟨b, off, va, vc, rfl, hbl, q0, q1, hby, hnm⟩ := H2.out.at k2 hlt2
          have hc0 := (hB.cell (p := ⟨b, off + k2 * 2, none⟩) hbl).trans q0
          have hc1 := (hB.cell (p := ⟨b, off + k2 * 2 + 1, none⟩) hbl).trans q1
          have hk1 : (0 : Int) ≤ (k2 : Int) := by omega
          have hk2 : (k2 : Int) < (ts.length : Int) := by omega
          obtain ⟨hS, hF, hKe⟩ := HS.out
          rw [drop_at ts k2 hlt2] at hF
          have hKe2 := foldl_take addT (fs.foldl addF (KS.nought l)) ts k2 hlt2
          rw [← hKe] at hKe2
          clear q0 q1
          generalize ts[k2] = pp at hc0 hc1 hnm hF hby hKe2
          obtain ⟨nm, ls⟩ := pp
          simp only at hc0 hc1 hnm hby
          rw [kterms_cons] at hF
          have hg : giveE ms nm = 0 := by
            by_cases hg : giveE ms nm = 0
            · exact hg
            · rw [if_neg hg] at hF; exact absurd hF hg
          rw [if_pos hg] at hF
          have hL : newE ls = 0 := by
            by_cases e : newE ls = 0
            · exact e
            · rw [if_neg e] at hF; exact absurd hF e
          rw [if_pos hL] at hF
          obtain ⟨hno, hnn⟩ := giveE_zero hg
          obtain ⟨ρ, I, hY⟩ := HY.out
          have hnew : ∀ i ∈ K2.nm, K2.nameOf i ≠ nm := fun i hi e => hnn (e ▸ hS.names i hi)
          have hBa := recv_below wr (Obj.cells #[.string nm, .slice va ls.length vc] 98)
          obtain ⟨ca0, ca1⟩ := pair_cells wr (.string nm) (.slice va ls.length vc) 98
          have hYa := hY.under hBa
          have hlenK : K2.nm.length < 256 := by have := hS.len; omega
          have HTn := hide (po_new_term (.slice va ls.length vc) ls (wr.alloc (Obj.cells #[.string nm, .slice va ls.length vc] 98)) ((hby.below hB).below hBa) hL)
          have hBwa := hB.trans (hBa.mono hsz)
          have hlt0 : w.heap.size < wr.heap.size := World.block_lt_of_cell? wr _ HCc.out
          have kc : (wr.alloc (Obj.cells #[.string nm, .slice va ls.length vc] 98)).cell? ⟨k0, 2, none⟩ = some (.map (some t0)) := by
            rw [← hY.kb, ← hY.tm, cell_of_row _ I.kb _ _ _ _ hYa.blk]; rfl
          have HST : Hid (∀ w3 p, PObj w3 (fun k => (wr.alloc (Obj.cells #[.string nm, .slice va ls.length vc] 98)).heap.size ≤ k ∧ k < w3.heap.size) p (.term ls []) → Below (wr.alloc (Obj.cells #[.string nm, .slice va ls.length vc] 98)).heap.size (wr.alloc (Obj.cells #[.string nm, .slice va ls.length vc] 98)) w3 →
              ∃ w4, (Instr.mapUpdate 87 (.map (some t0)) (.string nm) (.pointer (some ⟨w3.heap.size, 0, none⟩))).run Tryz.prog (w3.alloc (Obj.cells #[.pointer (some ⟨p, 0, none⟩), .int .i64 0] 104)).drew = .ok () w4 ∧ Hid (∃ ρ I, PY w4 w.heap.size ρ I (addT K2 (nm, ls)) k0 f0 t0 o0) ∧ Hid (w4.cell? ⟨w.heap.size, 2, none⟩ = some (.slice a3 l.length c3)) ∧ Below w.heap.size w w4) := hide (by
            intro w3 p hO hB3
            have hBc : Below w3.heap.size w3 (w3.alloc (Obj.cells #[.pointer (some ⟨p, 0, none⟩), .int .i64 0] 104)).drew := (recv_below w3 (Obj.cells #[.pointer (some ⟨p, 0, none⟩), .int .i64 0] 104)).trans ((Below.refl _ _).drew.mono (Nat.le_of_lt (size_new w3 (Obj.cells #[.pointer (some ⟨p, 0, none⟩), .int .i64 0] 104))))
            have hBac : Below (wr.alloc (Obj.cells #[.string nm, .slice va ls.length vc] 98)).heap.size (wr.alloc (Obj.cells #[.string nm, .slice va ls.length vc] 98)) (w3.alloc (Obj.cells #[.pointer (some ⟨p, 0, none⟩), .int .i64 0] 104)).drew := hB3.trans (hBc.mono hB3.size)
            have hmt0 := hYa.px.comp .tmap (by simp) (by simp)
            have hm3 := hmt0.1.keep (hBac.block _ (hYa.px.lt _ _ hmt0.2))
            rw [hY.tm] at hm3
            obtain ⟨w4, hrun, hm4, hmt⟩ := hm3.store skeyed Tryz.underlying87 (by have := (fl_len (I := I) hY.px.ok).2; unfold maxLen; omega) (key := .string nm) w3.heap.size (string_key nm hnm) (mem_names hnew).2
            have hT4 := mapTurned_turned hmt
            have htl : t0 < (wr.alloc (Obj.cells #[.string nm, .slice va ls.length vc] 98)).heap.size := by rw [← hY.tm]; exact hYa.px.lt _ _ hmt0.2
            have hTa : Turned (fun k => k = t0) (wr.alloc (Obj.cells #[.string nm, .slice va ls.length vc] 98)) w4 := (Turned.of_below hBac).trans hT4 (fun _ _ e => e)
            have hcc : COc w4 w3.heap.size p 0 := by
              refine (hT4.block w3.heap.size (by show w3.heap.size < (w3.alloc (Obj.cells #[.pointer (some ⟨p, 0, none⟩), .int .i64 0] 104)).heap.size; exact size_new _ _) (by have := hB3.size; omega)).trans ?_
              exact heap_alloc_new w3 (Obj.cells #[.pointer (some ⟨p, 0, none⟩), .int .i64 0] 104)
            refine ⟨w4, hrun, hide (hYa.addTerm hBwa.size (O := fun k => (wr.alloc (Obj.cells #[.string nm, .slice va ls.length vc] 98)).heap.size ≤ k ∧ k < w3.heap.size) ?_ (fun k e => ⟨e.1, by omega⟩) hcc hB3.size (by rw [hY.tm]; exact hm4) (by rw [hY.tm]; exact hTa) hno hnew hlenK), hide (hTa.cell ((hBa.cell (p := ⟨w.heap.size, 2, none⟩) hlt0).trans HCc.out) (by show ¬ w.heap.size = t0; have := HK0.out; omega)), ?_⟩
            · exact (hO.keep (fun k e hlt => hBc.block k hlt) hBc.size).keep (fun k e hlt => hT4.block k hlt (by omega)) hT4.size
            · exact hBwa.trans (hTa.below (fun k e => by rw [e]; have := HK0.out; omega) hBwa.size))
          have HS2 : Hid (Seen (addT K2 (nm, ls)) (ms ++ [nm]) (fs.length + (k2 + 1)) ∧ kterms (ms ++ [nm]) (ts.drop (k2 + 1)) = 0 ∧ addT K2 (nm, ls) = (ts.take (k2 + 1)).foldl addT (fs.foldl addF (KS.nought l))) := hide ⟨hS.add hY.px.ok ⟨nm, .term ls []⟩, hF, hKe2.symm⟩
          have hltk : k0 < (wr.alloc (Obj.cells #[.string nm, .slice va ls.length vc] 98)).heap.size := World.block_lt_of_cell? _ _ kc
          have hlta : wr.heap.size < (wr.alloc (Obj.cells #[.string nm, .slice va ls.length vc] 98)).heap.size := size_new _ _
          clear hY hYa hBa hBwa hS hF hKe hKe2 hnew hby hg hno hnn HS HY HCc
          go_wp2_with fail
          refine HTn.out.mono ?_
          rintro e w3 ⟨p, rfl, hO, hB3⟩
          obtain ⟨w4, hr4, HY4, HC4, hB4⟩ := HST.out w3 p hO hB3
          have kc3 := (hB3.cell (p := ⟨k0, 2, none⟩) hltk).trans kc
          have ca3 := (hB3.cell (p := ⟨wr.heap.size, 0, none⟩) hlta).trans ca0
          have kc4 := ((recv_below w3 (Obj.cells #[.pointer (some ⟨p, 0, none⟩), .int .i64 0] 104)).cell (p := ⟨k0, 2, none⟩) (World.block_lt_of_cell? w3 _ kc3)).trans kc3
          have ca4 := ((recv_below w3 (Obj.cells #[.pointer (some ⟨p, 0, none⟩), .int .i64 0] 104)).cell (p := ⟨wr.heap.size, 0, none⟩) (World.block_lt_of_cell? w3 _ ca3)).trans ca3
          clear hO hB3 HST ca0 ca1 kc
          go_wp2_with fail
          go_region
          go_wp2
          all_goals
            go_roundw
            case rel => exact ⟨k2 + 1, addT K2 (nm, ls), ms ++ [nm], by omega, by go_num, HY4, HS2, HC4, hB4⟩
            case measure => simp [intOf]; omega
        · have HS2 : Hid (Seen K2 ms (fs.length + ts.length) ∧ K2 = KS.new fs ts l) := hide (by
            obtain ⟨hS, hF, hKe⟩ := HS.out
            have hke : k2 = ts.length := by omega
            subst hke
            rw [List.take_length] at hKe
            exact ⟨hS, hKe⟩)
          have c42 := HCc.out
          have HFn := hide (Fa_new_good (.slice a3 l.length c3) l wr (H3.out.below hB) hs3 HE3.out)
          have kcs : ∃ ρ I, PY wr w.heap.size ρ I K2 k0 f0 t0 o0 := HY.out
          obtain ⟨ρ, I, hY⟩ := kcs
          have HYy := hide hY
          have kb5 : wr.cell? ⟨k0, 5, none⟩ = some (.pointer none) := by
            rw [← hY.kb, cell_of_row _ I.kb _ _ _ _ hY.blk]; rfl
          have kb5s : wr.frozen? ⟨k0, 5, none⟩ = false := by rw [← hY.kb]; exact frozen_of_row wr I.kb 5 _ _ hY.blk
          have hltk : k0 < wr.heap.size := World.block_lt_of_cell? _ _ kb5
          clear HS hY HY
          go_wp2_with fail
          refine HFn.out.mono ?_
          rintro e w2 ⟨g, v', rfl, hP, g1, g2, g3, hB2⟩
          have kb6 := (hB2.cell (p := ⟨k0, 5, none⟩) hltk).trans kb5
          have kb6s : w2.frozen? ⟨k0, 5, none⟩ = false := (World.frozen?_of_block (w := wr) (hB2.block k0 hltk)).trans kb5s
          have HD : Hid (KAt (w2.setCell ⟨k0, 5, none⟩ (.pointer (some ⟨g, 0, none⟩))) (fun k => w.heap.size ≤ k) k0 (KS.new fs ts l) ∧ Below w.heap.size w (w2.setCell ⟨k0, 5, none⟩ (.pointer (some ⟨g, 0, none⟩)))) := hide (by
            obtain ⟨hS, hKe⟩ := HS2.out
            rw [← hKe]
            have hpl : K2.plan = l := by
              rw [hKe]
              have : ∀ (ts : List Tp) (K : KS), (ts.foldl (fun K t => K.addTh ⟨t.1, .term t.2 []⟩) K).plan = K.plan := fun ts => by
                induction ts with
                | nil => intro K; rfl
                | cons t r ih => intro K; rw [List.foldl_cons, ih]; rfl
              have this2 : ∀ (ts : List Nm) (K : KS), (ts.foldl (fun K t => K.addTh ⟨t.1, .file t.2⟩) K).plan = K.plan := fun ts => by
                induction ts with
                | nil => intro K; rfl
                | cons t r ih => intro K; rw [List.foldl_cons, ih]; rfl
              unfold KS.new
              rw [this, this2]
              rfl
            refine ⟨HYy.out.done hsz hS.next (W1 := w2) (by rw [hpl]; exact hP) g1 (fun k e => (g3 k e).1) hB2 rfl g2 (fun k e => (g3 k e).2), ?_⟩
            have hBw2 := hB.trans (hB2.mono hsz)
            exact hBw2.trans (((Turned.refl (fun k => k = k0) w2).set (g := k0) (j := 5) (u := .pointer (some ⟨g, 0, none⟩)) (.inl rfl)).below (fun k e => by rw [e]; have := HK0.out; omega) hBw2.size))
          clear hP g1 g2 g3 hB2
          go_wp2
          go_ret2
          exact ⟨k0, rfl, HD.out⟩
set_option maxRecDepth 100000 in
set_option maxHeartbeats 2000000 in
theorem knew_bad (a1 a2 a3 : Option Addr) (c1 c2 c3 : Nat) (fs : List Nm) (ts : List Tp) (l : List Fault) (w : World) (h1 : Nms w (.slice a1 fs.length c1) fs) (h2 : Tps w (.slice a2 ts.length c2) ts) (h3 : Flts w (.slice a3 l.length c3) l) (hs3 : l.length * 16 ≤ 140737488351232) (hl1 : fs.length ≤ 140737488351232) (hl2 : ts.length ≤ 140737488351232) (hE : checkE fs ts l ≠ 0) :
    Calls Tryz.prog 7 #[.agg #[.slice a1 fs.length c1, .slice a2 ts.length c2, .slice a3 l.length c3]] w fun e w' => e = .returned (.tuple #[.pointer none, .int .i64 (checkE fs ts l)]) ∧ Below w.heap.size w w' := by
  have hB0 := recv_below w (Obj.cells #[.slice a1 fs.length c1, .slice a2 ts.length c2, .slice a3 l.length c3] 28)
  have HCk := hide (kcheck_any a1 a2 a3 c1 c2 c3 fs ts l _ (h1.below hB0) (h2.below hB0) (h3.below hB0) (by unfold maxLen; omega) hl1 hl2)
  clear h1 h2 h3
  generalize checkE fs ts l = E at *
  have hE2 : (E == 0) = false := by simpa using hE
  go_enter Tryz.func7, Tryz.ntmps7
  go_wp2_with fail
  refine HCk.out.mono ?_
  rintro e w1 ⟨rfl, hB1⟩
  go_wp2
  go_ret2
  exact ⟨rfl, hB0.trans (hB1.mono hB0.size)⟩
end Go.Proofs.YtkkicbhmcjbmbaaGreat

/- The reference's kernel: New. -/
namespace Go.Proofs.YtkkicbhmcjbmbaaGreat
open Go.RowKit

/-- A kernel without a thing. -/
theorem rk_start {W : World} {B : Nat → Prop} {kb pb : Nat} {v : Value} {l : List Fault} (hup : ∀ k, W.heap.size ≤ k → B k) (hB : B pb) (hne : kb ≠ pb) (hkb : B kb) (hk : W.heap[kb]? = some (.cells ([.slice none 0 0, .slice none 0 0, .int .i64 ((1 : Nat) : Int), .pointer (some ⟨pb, 0, none⟩), .int .i64 ((0 : Nat) : Int), .int .i64 ((0 : Nat) : Int)] : List Value).toArray 133 (0, 0)))
    (hp : RPlanAt W pb v l) (hv : ∀ k, v.ownBlock = some k → B k ∧ k < W.heap.size ∧ k ≠ kb) (hl : planOk l) : ∃ ρ, RK W B ρ ⟨kb, .slice none 0 0, .slice none 0 0, pb, v, id, id, id⟩ (KS.nought l) := by
  have hkl : kb < W.heap.size := (Array.getElem?_eq_some_iff.1 hk).1
  have hpl : pb < W.heap.size := World.block_lt_of_cell? W _ hp.left
  refine ⟨fun k => if k = kb then some .kern else if k = pb then some .plan else if v.ownBlock = some k then some .plan else none, fun t => ?_, fun k t e => ?_, ?_, hup⟩
  · cases t with
    | kern => exact ⟨hk, if_pos rfl⟩
    | trow => exact ⟨World.ownsRow_nil _ _ _ _, fun k e => by cases e⟩
    | drow => exact ⟨World.ownsRow_nil _ _ _ _, fun k e => by cases e⟩
    | plan =>
      refine ⟨hp, (if_neg (fun e => hne e.symm)).trans (if_pos rfl), fun k e => ?_⟩
      show (if k = kb then some Tag.kern else if k = pb then some .plan else if v.ownBlock = some k then some .plan else none) = _
      rw [if_neg (hv k e).2.2, if_pos e]
      split <;> rfl
    | thing i => exact fun hi => absurd hi (by show ¬ i < 0; omega)
    | obj i => exact fun hi => absurd hi (by show ¬ i < 0; omega)
    | desc n => exact fun d hd => absurd hd (by show d ∉ ([] : List De); simp)
  · split at e
    · rename_i e1; subst e1; exact ⟨hkb, hkl⟩
    · split at e
      · rename_i e2; subst e2; exact ⟨hB, hpl⟩
      · split at e
        · rename_i e3; exact ⟨(hv k e3).1, (hv k e3).2.1⟩
        · cases e
  · exact ⟨by show 0 ≤ 256; decide, by show 0 ≤ 256; decide, fun d hd => (by cases hd), fun i hi => (by cases hi), fun d hd => (by cases hd), fun d hd => (by cases hd), fun d hd => (by cases hd), fun d hd => (by cases hd), fun d hd => (by cases hd), hl⟩
theorem knm_nought (l : List Fault) : KNm (KS.nought l) := ⟨List.Pairwise.nil, fun i hi => (by cases hi), fun i hi => absurd hi (by show ¬ i < 0; omega), fun i hi => (by cases hi)⟩
/-- A thing that is made is put among the names. -/
theorem radd_named {wr w1 : World} {B : Nat → Prop} {ρ : Nat → Option Tag} {I : RI} {K : KS} (h : RK wr B ρ I K) (hnm : KNm K) (hl : K.nm.length < 256) (t : Th) {ob : Nat} {O : Nat → Prop} (hB1 : Below wr.heap.size wr w1) (hO : RObj w1 O ob t.ob) (hOn : ∀ k, O k → wr.heap.size ≤ k ∧ k < w1.heap.size) (hok : t.ob.ok) {cs : Array Value} (hcs : cs = (tcells t ob).toArray) :
    Calls Tryz.prog 118 #[.pointer (some ⟨I.kb, 0, none⟩), .pointer (some ⟨w1.heap.size, 0, none⟩)] (w1.alloc (Obj.cells cs 180)) fun e w' => e = .returned (.tuple #[]) ∧ ∃ ρ' I', RK w' B ρ' I' (K.addTh t) ∧ I'.kb = I.kb ∧ Turned B wr w' := by
  subst hcs
  have hs1 := hB1.size
  have hB2 := recv_below w1 (Obj.cells (tcells t ob).toArray 180)
  have hn2 := heap_alloc_new w1 (Obj.cells (tcells t ob).toArray 180)
  have hB12 : Below wr.heap.size wr (w1.alloc (Obj.cells (tcells t ob).toArray 180)) := hB1.trans (hB2.mono hs1)
  obtain ⟨ρ2, hK2⟩ := h.more (W' := w1.alloc (Obj.cells (tcells t ob).toArray 180)) t (nb := w1.heap.size) (ob := ob) (O := O) (fun k hk => hB12.block k hk) hB12.size hs1 hn2 (hO.keep (fun k _ hl => hB2.block k hl) hB2.size) (fun k e => by have := hOn k e; omega) hok
  have hth2 : (K.more t).th.length = K.th.length + 1 := by simp [KS.more]
  have hA := radd_any B ρ2 _ _ K.th.length _ hK2 (by rw [hth2]; omega) (more_sorted h.ok hnm _) hl
  simp only [updT_new] at hA
  refine hA.mono ?_
  rintro e w3 ⟨rfl, ρ3, I3, hK3, hkb3, -, -, hT3⟩
  exact ⟨rfl, ρ3, I3, hK3, hkb3, (Turned.of_below hB12).trans hT3 (fun _ _ e => e)⟩
set_option maxRecDepth 100000 in
set_option maxHeartbeats 8000000 in
theorem rknew_any (a1 a2 a3 : Option Addr) (c1 c2 c3 : Nat) (fs : List Nm) (ts : List Tp) (l : List Fault) (w0 w : World) (hB0 : Below w0.heap.size w0 w) (h1 : Nms w0 (.slice a1 fs.length c1) fs) (h2 : Tps w0 (.slice a2 ts.length c2) ts) (h3 : Flts w (.slice a3 l.length c3) l) (hb3 : ∀ k, (Value.slice a3 l.length c3).ownBlock = some k → w0.heap.size ≤ k ∧ k < w.heap.size) (hE : checkE fs ts l = 0) :
    Calls Tryz.prog 49 #[.slice a1 fs.length c1, .slice a2 ts.length c2, .slice a3 l.length c3] w fun e w' => ∃ ρ I, e = .returned (.pointer (some ⟨I.kb, 0, none⟩)) ∧ RK w' (fun k => w0.heap.size ≤ k) ρ I (KS.new fs ts l) ∧ Below w0.heap.size w0 w' := by
  have hEs : ¬ 256 < fs.length + ts.length ∧ (kfiles [] fs).1 = 0 ∧ kterms (kfiles [] fs).2 ts = 0 ∧ (chk l).1 = 0 := by
    unfold checkE at hE
    by_cases e1 : 256 < fs.length + ts.length
    · rw [if_pos e1] at hE; cases hE
    · rw [if_neg e1] at hE
      by_cases e2 : (kfiles [] fs).1 = 0
      · rw [if_pos e2] at hE
        by_cases e3 : kterms (kfiles [] fs).2 ts = 0
        · rw [if_pos e3] at hE; exact ⟨e1, e2, e3, hE⟩
        · rw [if_neg e3] at hE; exact absurd hE e3
      · rw [if_neg e2] at hE; exact absurd hE e2
  obtain ⟨hc, hE1, hE2, hE3⟩ := hEs
  obtain ⟨o1, ho1⟩ : ∃ o1, o1 = Obj.cells #[.slice a3 l.length c3] 139 := ⟨_, rfl⟩
  obtain ⟨o2, ho2⟩ : ∃ o2, o2 = Obj.cells #[.slice none 0 0, .slice none 0 0, .int .i64 1, .pointer (some ⟨w.heap.size, 0, none⟩), .int .i64 0, .int .i64 0] 133 := ⟨_, rfl⟩
  have hs0 := hB0.size
  have hB1 := recv_below w o1
  have hB2 := recv_below (w.alloc o1) o2
  have hs1 : (w.alloc o1).heap.size = w.heap.size + 1 := by simp
  have hs2 : ((w.alloc o1).alloc o2).heap.size = w.heap.size + 2 := by simp
  have hB12 : Below w.heap.size w ((w.alloc o1).alloc o2) := hB1.trans (hB2.mono (by omega))
  have hn1' := heap_alloc_new w o1
  have hn2' := heap_alloc_new (w.alloc o1) o2
  rw [hs1] at hn2'
  have hn1'' : ((w.alloc o1).alloc o2).heap[w.heap.size]? = some o1 := (hB2.block _ (by omega)).trans hn1'
  have hpl : RPlanAt ((w.alloc o1).alloc o2) w.heap.size (.slice a3 l.length c3) l := ⟨by rw [World.cell?, hn1'', ho1]; rfl, by rw [World.frozen?, hn1'', ho1]; rfl, h3.below hB12, fun e => by have := (hb3 _ e).2; omega⟩
  obtain ⟨ρ, hK⟩ := rk_start (W := (w.alloc o1).alloc o2) (B := fun k => w0.heap.size ≤ k) (kb := w.heap.size + 1) (pb := w.heap.size) (fun k e => by omega) (by omega) (by omega) (by omega) (by rw [hn2', ho2]; rfl) hpl (fun k e => by have := hb3 k e; omega) (check_plan hE3)
  have HK0 : Hid (∃ ρ I, RK ((w.alloc o1).alloc o2) (fun k => w0.heap.size ≤ k) ρ I (KS.nought l) ∧ I.kb = w.heap.size + 1) := hide ⟨ρ, _, hK, rfl⟩
  have HB0 : Hid (Below w0.heap.size w0 ((w.alloc o1).alloc o2)) := hide (hB0.trans (hB12.mono hs0))
  have H1 := hide h1
  have H2 := hide h2
  have HKf : Hid ((kfiles [] fs).1 = 0 ∧ kterms (kfiles [] fs).2 ts = 0) := hide ⟨hE1, hE2⟩
  have hfl : fs.length ≤ 256 := by omega
  have htl : ts.length ≤ 256 := by omega
  subst ho1
  subst ho2
  clear h1 h2 h3 hE1 hE2 hE3 hE hB1 hB2 hs1 hs2 hB12 hn1' hn2' hn1'' hpl hK hb3 hB0
  go_enter Tryz.func49, Tryz.ntmps49
  go_wp2_with fail
  generalize hkb : w.heap.size + 1 = kb0 at *
  generalize hw2 : (w.alloc _).alloc _ = w2 at *
  clear hw2 hkb
  go_loopw [8] (fun i wr => ∃ (k : Nat) (K : KS) (ns : List ByteArray), k ≤ fs.length ∧ i = .int .i64 k ∧ Hid (∃ ρ I, RK wr (fun k => w0.heap.size ≤ k) ρ I K ∧ I.kb = kb0) ∧ Hid (KNm K) ∧ Hid (Seen K ns k ∧ (kfiles ns (fs.drop k)).1 = 0 ∧ kterms (kfiles ns (fs.drop k)).2 ts = 0 ∧ K = (fs.take k).foldl addF (KS.nought l)) ∧ Hid (Below w0.heap.size w0 wr)) (fun i _ => fs.length - (intOf i).toNat)
  case atStart => exact ⟨0, KS.nought l, [], Nat.zero_le _, rfl, HK0, hide (knm_nought l), hide ⟨⟨fun i hi => (by cases hi), rfl, rfl, rfl, rfl⟩, HKf.out.1, HKf.out.2, rfl⟩, HB0⟩
  case round =>
    clear HK0 HB0
    obtain ⟨k, K, ns, hk, rfl, HK, HNm, HS, HB⟩ := hrel
    by_cases hlt : k < fs.length
    · obtain ⟨b, off, va, vc, rfl, hbl, q0, q1, hby, -, hnm⟩ := H1.out.at k hlt
      have hc0 := (HB.out.cell (p := ⟨b, off + k * 2, none⟩) hbl).trans q0
      have hc1 := (HB.out.cell (p := ⟨b, off + k * 2 + 1, none⟩) hbl).trans q1
      have hk1 : (0 : Int) ≤ (k : Int) := by omega
      have hk2 : (k : Int) < (fs.length : Int) := by omega
      obtain ⟨hS, hF, hF2, hKe⟩ := HS.out
      rw [drop_at fs k hlt] at hF hF2
      have hKe2 := foldl_take addF (KS.nought l) fs k hlt
      rw [← hKe] at hKe2
      clear q0 q1
      generalize fs[k] = p at hc0 hc1 hnm hF hF2 hby hKe2
      obtain ⟨nm, L⟩ := p
      simp only at hc0 hc1 hnm hby
      rw [kfiles_cons] at hF hF2
      have hg : giveE ns nm = 0 := by
        by_cases hg : giveE ns nm = 0
        · exact hg
        · rw [if_neg hg] at hF; exact absurd hF hg
      rw [if_pos hg] at hF hF2
      have hL : ¬ 1048576 < L.length := fun e => by rw [if_pos e] at hF; cases hF
      rw [if_neg hL] at hF hF2
      obtain ⟨hno, hnn⟩ := giveE_zero hg
      have hnew : ∀ i ∈ K.nm, K.nameOf i ≠ nm := fun i hi e => hnn (e ▸ hS.names i hi)
      have hlenK : K.nm.length < 256 := by have := hS.len; omega
      obtain ⟨ρ, I, hK, hkb⟩ := HK.out
      have HNw := hide (Fi_rnew_good (.slice va L.length vc) L wr (hby.below HB.out) (by omega))
      have HNx : Hid (Seen (addF K (nm, L)) (ns ++ [nm]) (k + 1) ∧ (kfiles (ns ++ [nm]) (fs.drop (k + 1))).1 = 0 ∧ kterms (kfiles (ns ++ [nm]) (fs.drop (k + 1))).2 ts = 0 ∧ addF K (nm, L) = (fs.take (k + 1)).foldl addF (KS.nought l)) := hide ⟨hS.add hK.ok ⟨nm, .file L⟩, hF, hF2, hKe2.symm⟩
      have HNn : Hid (KNm (addF K (nm, L))) := hide (HNm.out.addTh hK.ok ⟨nm, .file L⟩ (.inl rfl) hno hnew)
      have HHh := hide (And.intro hK hkb)
      clear hS hF hF2 hKe hKe2 hg hno hnn hnew HS hby hK hkb
      go_wp2_with fail
      refine HNw.out.mono ?_
      rintro _ w1 ⟨rfl, ⟨u, hF1⟩, hB1⟩
      obtain ⟨hK, rfl⟩ := HHh.out
      have hO1 : RObj w1 (fun k => wr.heap.size ≤ k ∧ k < w1.heap.size) wr.heap.size (.file L) := ⟨u, wr.heap.size + 1, hF1, hF1.lt, ⟨Nat.le_refl _, hF1.lt⟩, fun k e => by have := hF1.row.lt k e; omega⟩
      have HA := hide (radd_named hK HNm.out hlenK ⟨nm, .file L⟩ hB1 hO1 (fun k e => e) (by show L.length ≤ 1048576; omega) (cs := #[.string nm, .int .i64 1, .pointer (some ⟨wr.heap.size, 0, none⟩), .pointer none, .pointer none]) rfl)
      have hc0' := (hB1.cell (p := ⟨b, off + k * 2, none⟩) (Nat.lt_of_lt_of_le hbl HB.out.size)).trans hc0
      clear hO1 hF1 hc0 hc1 hK
      go_wp2_with fail
      refine HA.out.mono ?_
      rintro _ w3 ⟨rfl, ρ3, I3, hK3, hkb3, hT3⟩
      have HK3 : Hid (∃ ρ I', RK w3 (fun k => w0.heap.size ≤ k) ρ I' (addF K (nm, L)) ∧ I'.kb = I.kb) := hide ⟨ρ3, I3, hK3, hkb3⟩
      have HB3 : Hid (Below w0.heap.size w0 w3) := hide (HB.out.trans (hT3.below (fun _ e => e) HB.out.size))
      clear hK3 hkb3 hT3 hc0'
      go_wp2
      go_roundw
      case rel => exact ⟨k + 1, addF K (nm, L), ns ++ [nm], by omega, by go_num, HK3, HNn, HNx, HB3⟩
      case measure => simp [intOf]; omega
    · obtain rfl : k = fs.length := by omega
      obtain ⟨hS, -, hF2, hKe⟩ := HS.out
      rw [List.drop_length] at hF2
      rw [List.take_length] at hKe
      have hF3 : kterms ns ts = 0 := hF2
      have HS2 : Hid (Seen K ns fs.length ∧ kterms ns ts = 0 ∧ K = fs.foldl addF (KS.nought l)) := hide ⟨hS, hF3, hKe⟩
      have hlt' : ¬ (fs.length : Int) < (fs.length : Int) := by omega
      clear HS hS hF2 hF3 hKe
      go_wp2_with fail
      go_loopw [11] (fun i wq => ∃ (k2 : Nat) (K2 : KS) (ms : List ByteArray), k2 ≤ ts.length ∧ i = .int .i64 k2 ∧ Hid (∃ ρ I, RK wq (fun k => w0.heap.size ≤ k) ρ I K2 ∧ I.kb = kb0) ∧ Hid (KNm K2) ∧ Hid (Seen K2 ms (fs.length + k2) ∧ kterms ms (ts.drop k2) = 0 ∧ K2 = (ts.take k2).foldl addT (fs.foldl addF (KS.nought l))) ∧ Hid (Below w0.heap.size w0 wq)) (fun i _ => ts.length - (intOf i).toNat)
      case atStart => exact ⟨0, K, ns, Nat.zero_le _, rfl, HK, HNm, hide ⟨HS2.out.1, HS2.out.2.1, HS2.out.2.2⟩, HB⟩
      case round =>
        clear HK HNm HB HS2
        obtain ⟨k, K, ms, hk, rfl, HK, HNm, HS, HB⟩ := hrel
        by_cases hlt2 : k < ts.length
        · obtain ⟨b, off, va, vc, rfl, hbl, q0, q1, hby, hnm⟩ := H2.out.at k hlt2
          have hc0 := (HB.out.cell (p := ⟨b, off + k * 2, none⟩) hbl).trans q0
          have hc1 := (HB.out.cell (p := ⟨b, off + k * 2 + 1, none⟩) hbl).trans q1
          have hk1 : (0 : Int) ≤ (k : Int) := by omega
          have hk2 : (k : Int) < (ts.length : Int) := by omega
          obtain ⟨hS, hF, hKe⟩ := HS.out
          rw [drop_at ts k hlt2] at hF
          have hKe2 := foldl_take addT (fs.foldl addF (KS.nought l)) ts k hlt2
          rw [← hKe] at hKe2
          clear q0 q1
          generalize ts[k] = pp at hc0 hc1 hnm hF hby hKe2
          obtain ⟨nm, ls⟩ := pp
          simp only at hc0 hc1 hnm hby
          rw [kterms_cons] at hF
          have hg : giveE ms nm = 0 := by
            by_cases hg : giveE ms nm = 0
            · exact hg
            · rw [if_neg hg] at hF; exact absurd hF hg
          rw [if_pos hg] at hF
          have hL : newE ls = 0 := by
            by_cases e : newE ls = 0
            · exact e
            · rw [if_neg e] at hF; exact absurd hF e
          rw [if_pos hL] at hF
          obtain ⟨hno, hnn⟩ := giveE_zero hg
          have hnew : ∀ i ∈ K.nm, K.nameOf i ≠ nm := fun i hi e => hnn (e ▸ hS.names i hi)
          have hlenK : K.nm.length < 256 := by have := hS.len; omega
          have hlok := newE_small hL
          obtain ⟨ρ, I, hK, hkb⟩ := HK.out
          have HNw := hide (Te_rnew_good (.slice va ls.length vc) ls wr (hby.below HB.out) (by have := hlok.1; omega) hL)
          have HNx : Hid (Seen (addT K (nm, ls)) (ms ++ [nm]) (fs.length + (k + 1)) ∧ kterms (ms ++ [nm]) (ts.drop (k + 1)) = 0 ∧ addT K (nm, ls) = (ts.take (k + 1)).foldl addT (fs.foldl addF (KS.nought l))) := hide ⟨hS.add hK.ok ⟨nm, .term ls []⟩, hF, hKe2.symm⟩
          have HNn : Hid (KNm (addT K (nm, ls))) := hide (HNm.out.addTh hK.ok ⟨nm, .term ls []⟩ (.inr rfl) hno hnew)
          have HHh := hide (And.intro hK hkb)
          clear hS hF hKe hKe2 hg hno hnn hnew HS hby hK hkb
          go_wp2_with fail
          refine HNw.out.mono ?_
          rintro _ w1 ⟨rfl, ⟨ta, tc, hT1⟩, hB1⟩
          obtain ⟨hK, rfl⟩ := HHh.out
          have hO1 : RObj w1 (fun k => wr.heap.size ≤ k ∧ k < w1.heap.size) wr.heap.size (.term ls []) := ⟨ta, tc, _, _, _, hT1, fun k e => e⟩
          have HA := hide (radd_named hK HNm.out hlenK ⟨nm, .term ls []⟩ hB1 hO1 (fun k e => e) ⟨hlok.1, hlok.2, by simp⟩ (cs := #[.string nm, .int .i64 2, .pointer none, .pointer (some ⟨wr.heap.size, 0, none⟩), .pointer none]) rfl)
          have hc0' := (hB1.cell (p := ⟨b, off + k * 2, none⟩) (Nat.lt_of_lt_of_le hbl HB.out.size)).trans hc0
          clear hO1 hT1 hc0 hc1 hK
          go_wp2_with fail
          refine HA.out.mono ?_
          rintro _ w3 ⟨rfl, ρ3, I3, hK3, hkb3, hT3⟩
          have HK3 : Hid (∃ ρ I', RK w3 (fun k => w0.heap.size ≤ k) ρ I' (addT K (nm, ls)) ∧ I'.kb = I.kb) := hide ⟨ρ3, I3, hK3, hkb3⟩
          have HB3 : Hid (Below w0.heap.size w0 w3) := hide (HB.out.trans (hT3.below (fun _ e => e) HB.out.size))
          clear hK3 hkb3 hT3 hc0'
          go_wp2
          go_roundw
          case rel => exact ⟨k + 1, addT K (nm, ls), ms ++ [nm], by omega, by go_num, HK3, HNn, HNx, HB3⟩
          case measure => simp [intOf]; omega
        · obtain rfl : k = ts.length := by omega
          obtain ⟨-, -, hKe⟩ := HS.out
          rw [List.take_length] at hKe
          have HKe : Hid (K = KS.new fs ts l) := hide hKe
          have hlt' : ¬ (ts.length : Int) < (ts.length : Int) := by omega
          clear HS hKe
          go_wp2
          go_ret
          obtain ⟨ρ, I, hK, rfl⟩ := HK.out
          rw [HKe.out] at hK
          exact ⟨ρ, I, rfl, hK, HB.out⟩
end Go.Proofs.YtkkicbhmcjbmbaaGreat

/- Bytes that came in as an argument: what a walk is told of them. -/
namespace Go.Proofs.YtkkicbhmcjbmbaaGreat
open Go.ChangeShapes Go.WideShapes Go.ChangeAt Go.RowKit

theorem bytes_arg {H : Type} {enc : TypeId × Value → H} {P : Program} {W : World} {base : Nat} {a : Option Addr} {len cap fuel t e : Nat} {d : DataW H} {p : List MemPlace}
    (ht : P.underlying t = some (.slice e)) (he : P.underlying e = some (.int .u8)) (hc : P.cellsOf e = 1)
    (hf : DataW.trod enc P W base (fun _ => true) true fuel t (Value.slice a len cap).cells.toList = some (d, p)) :
    ∃ l : List UInt8, Bys W (.slice a len cap) l ∧ ((d = .nil ∧ l = []) ∨ ∃ elems spare : List (DataW H), d = .slice elems spare ∧ l.length = elems.length) := by
  rcases open_ints ht he hc hf with ⟨hcs, hd⟩ | ⟨x, n, c, zs, hcs, _, hl, hm, hz, hx, hcell, hwz⟩
  · simp [Value.cells] at hcs
    obtain ⟨rfl, rfl, rfl⟩ := hcs
    exact ⟨[], .inl ⟨rfl, rfl⟩, .inl ⟨(Prod.mk.inj hd).1, rfl⟩⟩
  · simp [Value.cells] at hcs
    obtain ⟨rfl, rfl, rfl⟩ := hcs
    simp only [if_true] at hz
    have hlen : ((zs.take len).map fun n => UInt8.ofNat n.toNat).length = len := by rw [List.length_map, List.length_take]; omega
    refine ⟨(zs.take len).map fun n => UInt8.ofNat n.toNat, ?_, .inr ⟨_, _, (Prod.mk.inj hx).1, by simp [lits]⟩⟩
    by_cases h0 : len = 0
    · subst h0
      exact .inr (.inl ⟨x, cap, rfl, by simp⟩)
    · obtain ⟨b, off, spot⟩ := x
      have hspot : spot = none := by simpa [Addr.add] using World.cell?_spot (hcell 0 (by omega))
      subst hspot
      refine .inr (.inr ⟨b, off, cap, by rw [hlen], by rw [hlen]; omega, fun j hj => ?_⟩)
      rw [hlen] at hj
      have h1 := hcell j (by omega)
      have hadd : (⟨b, off, none⟩ : Addr).add j = ⟨b, off + j, none⟩ := by unfold Addr.add; split <;> simp_all
      rw [hadd] at h1
      rw [h1]
      have hjz : j < zs.length := by omega
      have hb := bounds_u8 (hwz zs[j] (List.getElem_mem hjz))
      simp only [List.getD_eq_getElem?_getD, List.getElem?_map, List.getElem?_take, if_pos hj, List.getElem?_eq_getElem hjz, Option.map_some, Option.getD_some]
      rw [UInt8.toNat_ofNat_of_lt' (by show _ < 256; omega), Int.toNat_of_nonneg hb.1]

theorem one_le {H : Type} (d : DataW H) : 1 ≤ Rows.uptoBulk d := by
  cases d with
  | lit l => cases l <;> simp [Rows.uptoBulk]
  | nil => simp [Rows.uptoBulk]
  | ptr d => simp [Rows.uptoBulk]
  | slice elems spare => simp [Rows.uptoBulk]
  | agg parts => simp [Rows.uptoBulk]
  | iface t d => simp [Rows.uptoBulk]
  | map entries => simp [Rows.uptoBulk]
  | held h => simp [Rows.uptoBulk]
theorem bulk_length {H : Type} (l : List (DataW H)) : l.length ≤ Rows.uptoBulkAll l := by
  induction l with
  | nil => simp [Rows.uptoBulkAll]
  | cons x r ih => have := one_le x; simp only [Rows.uptoBulkAll, List.length_cons]; omega
theorem bulk_slice {H : Type} (elems spare : List (DataW H)) : elems.length + 1 ≤ Rows.uptoBulk (.slice elems spare) := by
  have h1 := bulk_length elems
  simp only [Rows.uptoBulk]
  omega
end Go.Proofs.YtkkicbhmcjbmbaaGreat

/- Bytes, and steps, that came in as an argument: what a walk is told of them. -/
namespace Go.Proofs.YtkkicbhmcjbmbaaGreat
open Go.ChangeShapes Go.WideShapes Go.ChangeAt Go.RowKit Go.Deep

/-- A step: what, n, which side, data. -/
abbrev Kp_Stp := Int × Int × Bool × List UInt8
theorem Kp_bys_len {W : World} {a : Option Addr} {n c : Nat} {l : List UInt8} (h : Bys W (.slice a n c) l) : n = l.length := by
  obtain ⟨a', c', he, _⟩ := bys_form h
  cases he
  rfl
theorem bytes_arg2 {H : Type} {enc : TypeId × Value → H} {P : Program} {W : World} {base : Nat} {a : Option Addr} {len cap fuel t e : Nat} {d : DataW H} {p : List MemPlace}
    (ht : P.underlying t = some (.slice e)) (he : P.underlying e = some (.int .u8)) (hc : P.cellsOf e = 1)
    (hf : DataW.trod enc P W base (fun _ => true) true fuel t (Value.slice a len cap).cells.toList = some (d, p)) :
    ∃ l : List UInt8, Bys W (.slice a len cap) l ∧ l.length ≤ cap ∧ ((d = .nil ∧ l = []) ∨ ∃ elems spare : List (DataW H), d = .slice elems spare ∧ l.length = elems.length) := by
  rcases open_ints ht he hc hf with ⟨hcs, hd⟩ | ⟨x, n, c, zs, hcs, _, hl, hm, hz, hx, hcell, hwz⟩
  · simp [Value.cells] at hcs
    obtain ⟨rfl, rfl, rfl⟩ := hcs
    exact ⟨[], .inl ⟨rfl, rfl⟩, by simp, .inl ⟨(Prod.mk.inj hd).1, rfl⟩⟩
  · simp [Value.cells] at hcs
    obtain ⟨rfl, rfl, rfl⟩ := hcs
    simp only [if_true] at hz
    have hlen : ((zs.take len).map fun n => UInt8.ofNat n.toNat).length = len := by rw [List.length_map, List.length_take]; omega
    refine ⟨(zs.take len).map fun n => UInt8.ofNat n.toNat, ?_, by rw [hlen]; exact hl, .inr ⟨_, _, (Prod.mk.inj hx).1, by simp [lits]⟩⟩
    by_cases h0 : len = 0
    · subst h0
      exact .inr (.inl ⟨x, cap, rfl, by simp⟩)
    · obtain ⟨b, off, spot⟩ := x
      have hspot : spot = none := by simpa [Addr.add] using World.cell?_spot (hcell 0 (by omega))
      subst hspot
      refine .inr (.inr ⟨b, off, cap, by rw [hlen], by rw [hlen]; omega, fun j hj => ?_⟩)
      rw [hlen] at hj
      have h1 := hcell j (by omega)
      have hadd : (⟨b, off, none⟩ : Addr).add j = ⟨b, off + j, none⟩ := by unfold Addr.add; split <;> simp_all
      rw [hadd] at h1
      rw [h1]
      have hjz : j < zs.length := by omega
      have hb := bounds_u8 (hwz zs[j] (List.getElem_mem hjz))
      simp only [List.getD_eq_getElem?_getD, List.getElem?_map, List.getElem?_take, if_pos hj, List.getElem?_eq_getElem hjz, Option.map_some, Option.getD_some]
      rw [UInt8.toNat_ofNat_of_lt' (by show _ < 256; omega), Int.toNat_of_nonneg hb.1]



/-- How a slice of bytes inside a datum is told. -/
def Kp_DataOf {H : Type} (d : DataW H) (x : List UInt8) : Prop := (d = .nil ∧ x = []) ∨ ∃ elems spare : List (DataW H), d = .slice elems spare ∧ x.length = elems.length

theorem Kp_step_cells {H : Type} {enc : TypeId × Value → H} {P : Program} {W : World} {base : Nat} {fuel e u : Nat} {f0 f1 f2 f3 : Field} {cs : List Value} {d : DataW H} {p : List MemPlace}
    (he : P.underlying e = some (.struct #[f0, f1, f2, f3])) (ce : P.cellsOf e = 4) (o0 : f0.offset = 0) (o1 : f1.offset = 1) (o2 : f2.offset = 2) (o3 : f3.offset = 3)
    (c0 : P.cellsOf f0.type = 1) (c1 : P.cellsOf f1.type = 1) (c2 : P.cellsOf f2.type = 1) (c3 : P.cellsOf f3.type = 1)
    (t0 : P.underlying f0.type = some (.int .i64)) (t1 : P.underlying f1.type = some (.int .i64)) (t2 : P.underlying f2.type = some .bool) (t3 : P.underlying f3.type = some (.slice u)) (tu : P.underlying u = some (.int .u8)) (cu : P.cellsOf u = 1)
    (h : DataW.trod enc P W base (fun _ => true) true fuel e cs = some (d, p)) :
    ∃ (x : Kp_Stp) (va : Option Addr) (vc : Nat) (d3 : DataW H), cs = [.int .i64 x.1, .int .i64 x.2.1, .bool x.2.2.1, .slice va x.2.2.2.length vc] ∧ (Bys W (.slice va x.2.2.2.length vc) x.2.2.2 ∧ x.2.2.2.length ≤ vc) ∧ (∃ x0 x1 x2, d = .agg [x0, x1, x2, d3]) ∧ Kp_DataOf d3 x.2.2.2 := by
  obtain ⟨xs, k, hk, hxy, hcl, hxl, hf⟩ := DataW.trod_struct he h
  rw [ce] at hcl
  match xs, hxl, cs, hcl with
  | [y0, y1, y2, y3], _, [v0, v1, v2, v3], _ =>
    have g0 := hf 0 f0 rfl
    have g1 := hf 1 f1 rfl
    have g2 := hf 2 f2 rfl
    have g3 := hf 3 f3 rfl
    simp [o0, c0] at g0
    simp [o1, c1] at g1
    simp [o2, c2] at g2
    simp [o3, c3] at g3
    obtain ⟨a, ha, _⟩ := DataW.trod_int t0 g0
    obtain ⟨b, hb, _⟩ := DataW.trod_int t1 g1
    obtain ⟨c, hc, _⟩ := DataW.trod_bool t2 g2
    obtain rfl : v0 = .int .i64 a := by simpa using ha
    obtain rfl : v1 = .int .i64 b := by simpa using hb
    obtain rfl : v2 = .bool c := by simpa using hc
    obtain ⟨va, vl, vc, rfl⟩ : ∃ va vl vc, v3 = .slice va vl vc := by
      rcases DataW.trod_slice t3 g3 with ⟨h0, _⟩ | ⟨x, len, cap, _, _, _, _, h0, _⟩
      · exact ⟨_, _, _, by simpa using h0⟩
      · exact ⟨_, _, _, by simpa using h0⟩
    obtain ⟨y3a, y3b⟩ := y3
    obtain ⟨l, hl, hlc, hd⟩ := bytes_arg2 t3 tu cu (by simpa [Value.cells] using g3)
    obtain rfl := Kp_bys_len hl
    simp only [Prod.mk.injEq] at hxy
    exact ⟨(a, b, c, l), va, vc, y3a, rfl, ⟨hl, hlc⟩, ⟨_, _, _, by simpa using hxy.1⟩, hd⟩

/-- The slice value v holds the steps l. -/
def Kp_Stps (W : World) (v : Value) (l : List Kp_Stp) : Prop :=
  ∃ a c, v = .slice a l.length c ∧ (0 < l.length → ∃ b off, a = some ⟨b, off, none⟩ ∧ ∀ j (hj : j < l.length), ∃ va vc,
    W.cell? ⟨b, off + j * 4, none⟩ = some (.int .i64 l[j].1) ∧ W.cell? ⟨b, off + j * 4 + 1, none⟩ = some (.int .i64 l[j].2.1) ∧ W.cell? ⟨b, off + j * 4 + 2, none⟩ = some (.bool l[j].2.2.1) ∧ W.cell? ⟨b, off + j * 4 + 3, none⟩ = some (.slice va l[j].2.2.2.length vc) ∧ Bys W (.slice va l[j].2.2.2.length vc) l[j].2.2.2 ∧ l[j].2.2.2.length ≤ vc)

theorem Kp_stps_arg {H : Type} {enc : TypeId × Value → H} {P : Program} {W : World} {base : Nat} {a : Option Addr} {len cap fuel t e u : Nat} {f0 f1 f2 f3 : Field} {d : DataW H} {p : List MemPlace}
    (ht : P.underlying t = some (.slice e)) (he : P.underlying e = some (.struct #[f0, f1, f2, f3])) (ce : P.cellsOf e = 4) (o0 : f0.offset = 0) (o1 : f1.offset = 1) (o2 : f2.offset = 2) (o3 : f3.offset = 3)
    (c0 : P.cellsOf f0.type = 1) (c1 : P.cellsOf f1.type = 1) (c2 : P.cellsOf f2.type = 1) (c3 : P.cellsOf f3.type = 1)
    (t0 : P.underlying f0.type = some (.int .i64)) (t1 : P.underlying f1.type = some (.int .i64)) (t2 : P.underlying f2.type = some .bool) (t3 : P.underlying f3.type = some (.slice u)) (tu : P.underlying u = some (.int .u8)) (cu : P.cellsOf u = 1)
    (hf : DataW.trod enc P W base (fun _ => true) true fuel t (Value.slice a len cap).cells.toList = some (d, p)) :
    ∃ l : List Kp_Stp, Kp_Stps W (.slice a len cap) l ∧ ((d = .nil ∧ l = []) ∨ ∃ elems spare : List (DataW H), d = .slice elems spare ∧ l.length = elems.length ∧ ∀ i (hi : i < l.length), ∃ x0 x1 x2 d3, DataW.agg [x0, x1, x2, d3] ∈ elems ∧ Kp_DataOf d3 l[i].2.2.2) := by
  rcases open_slice ht hf with ⟨hcs, hd⟩ | ⟨x, n, c, m, k, D, Pl, hcs, _, hl, hm, hmm, hx, hel⟩
  · simp [Value.cells] at hcs
    obtain ⟨rfl, rfl, rfl⟩ := hcs
    exact ⟨[], ⟨_, _, rfl, fun h => absurd h (by decide)⟩, .inl ⟨(Prod.mk.inj hd).1, rfl⟩⟩
  · simp [Value.cells] at hcs
    obtain ⟨rfl, rfl, rfl⟩ := hcs
    simp only [if_true] at hmm
    subst hmm
    have each : ∀ i, i < len → ∃ s : Kp_Stp, ∃ va vc, (∃ x0 x1 x2 d3, D i = .agg [x0, x1, x2, d3] ∧ Kp_DataOf d3 s.2.2.2) ∧
        W.cell? ((x.add (i * 4)).add 0) = some (.int .i64 s.1) ∧ W.cell? ((x.add (i * 4)).add 1) = some (.int .i64 s.2.1) ∧ W.cell? ((x.add (i * 4)).add 2) = some (.bool s.2.2.1) ∧ W.cell? ((x.add (i * 4)).add 3) = some (.slice va s.2.2.2.length vc) ∧ Bys W (.slice va s.2.2.2.length vc) s.2.2.2 ∧ s.2.2.2.length ≤ vc := by
      intro i hi
      obtain ⟨cs', h1, h2⟩ := hel i (by omega)
      rw [ce] at h1
      obtain ⟨_, hlen, hcell⟩ := World.cells?_some h1
      obtain ⟨s, va, vc, d3, rfl, hb, ⟨x0, x1, x2, hD⟩, hO⟩ := Kp_step_cells he ce o0 o1 o2 o3 c0 c1 c2 c3 t0 t1 t2 t3 tu cu h2
      exact ⟨s, va, vc, ⟨x0, x1, x2, d3, hD, hO⟩, by simpa using hcell 0 (by omega), by simpa using hcell 1 (by omega), by simpa using hcell 2 (by omega), by simpa using hcell 3 (by omega), hb⟩
    obtain ⟨s, hs⟩ := choose_lt each
    refine ⟨(List.range len).map s, ⟨some x, m, by simp, fun h0 => ?_⟩, .inr ⟨_, _, (Prod.mk.inj hx).1, by simp, fun i hi => ?_⟩⟩
    · have h0' : 0 < len := by simpa using h0
      obtain ⟨b, off, spot⟩ := x
      obtain ⟨_, _, _, q0, _⟩ := hs 0 h0'
      have hspot : spot = none := by simpa [Addr.add] using World.cell?_spot q0
      subst hspot
      refine ⟨b, off, rfl, fun j hj => ?_⟩
      have hj' : j < len := by simpa using hj
      obtain ⟨va, vc, _, q0, q1, q2, q3, hb⟩ := hs j hj'
      have hadd : ∀ o k, (⟨b, o, none⟩ : Addr).add k = ⟨b, o + k, none⟩ := fun o k => by unfold Addr.add; split <;> simp_all
      rw [hadd, hadd] at q0 q1 q2 q3
      simp only [List.getElem_map, List.getElem_range]
      exact ⟨va, vc, by simpa using q0, q1, q2, q3, hb⟩
    · have hi' : i < len := by simpa using hi
      obtain ⟨va, vc, ⟨x0, x1, x2, d3, hD, hO⟩, _⟩ := hs i hi'
      refine ⟨x0, x1, x2, d3, ?_, by simpa using hO⟩
      rw [← hD]
      exact List.mem_map.2 ⟨i, by simpa using hi', rfl⟩

theorem Kp_weightsAll_mem {H : Type} {P : Program} {e : TypeId} : ∀ {l : List (DataW H)} {d : DataW H}, d ∈ l → ∀ n ∈ d.weights P e, n ∈ DataW.weightsAll P e l
  | d' :: r, d, hd, n, hn => by
    simp only [DataW.weightsAll, List.mem_append]
    rcases List.mem_cons.1 hd with rfl | h
    · exact Or.inl hn
    · exact Or.inr (Kp_weightsAll_mem h n hn)
theorem Kp_step_weight {H : Type} {P : Program} {e u : TypeId} {f0 f1 f2 f3 : Field} {x0 x1 x2 d3 : DataW H} {x : List UInt8} (he : P.underlying e = some (.struct #[f0, f1, f2, f3])) (t3 : P.underlying f3.type = some (.slice u)) (bu : P.bytesOf u = 1)
    (hO : Kp_DataOf d3 x) (h : ∀ n ∈ (DataW.agg [x0, x1, x2, d3]).weights P e, n ≤ reachBytes) : x.length ≤ 140737488351232 := by
  rcases hO with ⟨_, rfl⟩ | ⟨elems, spare, rfl, hl⟩
  · simp
  · have := h ((elems.length + spare.length) * P.bytesOf u) (by simp [DataW.weights, DataW.weightsEach, he, t3])
    rw [bu] at this
    simp only [reachBytes] at this
    omega
/-- The reach, of the data of each step. -/
theorem Kp_sized_steps {H : Type} {P : Program} {ts : List TypeId} {ds : List (DataW H)} (h : (DataW.weightsEach P ts ds).all (· ≤ reachBytes) = true) {j : Nat} {t e u : TypeId} {f0 f1 f2 f3 : Field} {x0 x1 x2 d3 : DataW H} {elems spare : List (DataW H)} {x : List UInt8}
    (ht : ts[j]? = some t) (hd : ds[j]? = some (.slice elems spare)) (hu : P.underlying t = some (.slice e)) (hm : DataW.agg [x0, x1, x2, d3] ∈ elems) (he : P.underlying e = some (.struct #[f0, f1, f2, f3])) (t3 : P.underlying f3.type = some (.slice u)) (bu : P.bytesOf u = 1) (hO : Kp_DataOf d3 x) : x.length ≤ 140737488351232 :=
  Kp_step_weight he t3 bu hO fun n hn => of_decide_eq_true (List.all_eq_true.1 h _ (DataW.weights_mem_each ht hd n (by
    simp only [DataW.weights, hu, List.mem_cons, List.mem_append]
    exact Or.inr (Or.inl (Kp_weightsAll_mem hm n hn)))))
theorem bulkAll_mem {H : Type} : ∀ {l : List (DataW H)} {d : DataW H}, d ∈ l → Rows.uptoBulk d ≤ Rows.uptoBulkAll l
  | d' :: r, d, hd => by
    simp only [Rows.uptoBulkAll]
    rcases List.mem_cons.1 hd with rfl | h
    · omega
    · have := bulkAll_mem h; omega
/-- The bulk, of the data of each step. -/
theorem bulk_steps {H : Type} {elems spare : List (DataW H)} {x0 x1 x2 d3 : DataW H} {x : List UInt8} (hm : DataW.agg [x0, x1, x2, d3] ∈ elems) (hO : Kp_DataOf d3 x) : x.length ≤ Rows.uptoBulk (.slice elems spare) := by
  have h1 := bulkAll_mem hm
  simp only [Rows.uptoBulk, Rows.uptoBulkAll] at h1
  have h2 : Rows.uptoBulkAll elems ≤ Rows.uptoBulk (.slice elems spare) := by simp only [Rows.uptoBulk]; omega
  rcases hO with ⟨_, rfl⟩ | ⟨es, sp, rfl, hl⟩
  · simp
  · have := bulk_slice es sp
    omega
theorem stps_form {W : World} {v : Value} {l : List Kp_Stp} (h : Kp_Stps W v l) : ∃ a c, v = .slice a l.length c := by
  obtain ⟨a, c, rfl, _⟩ := h
  exact ⟨a, c, rfl⟩
/-- Step j of the steps l, in any later world. -/
theorem Kp_stps_at {W W' : World} {a : Option Addr} {n c : Nat} {l : List Kp_Stp} (h : Kp_Stps W (.slice a n c) l) (hB : Below W.heap.size W W') (j : Nat) (hj : j < l.length) :
    ∃ b off va vc, a = some ⟨b, off, none⟩ ∧ b < W.heap.size ∧ W'.cell? ⟨b, off + j * 4, none⟩ = some (.int .i64 l[j].1) ∧ W'.cell? ⟨b, off + j * 4 + 1, none⟩ = some (.int .i64 l[j].2.1) ∧ W'.cell? ⟨b, off + j * 4 + 2, none⟩ = some (.bool l[j].2.2.1) ∧
      W'.cell? ⟨b, off + j * 4 + 3, none⟩ = some (.slice va l[j].2.2.2.length vc) ∧ Bys W (.slice va l[j].2.2.2.length vc) l[j].2.2.2 ∧ l[j].2.2.2.length ≤ vc := by
  obtain ⟨a', c', he, hc⟩ := h
  cases he
  obtain ⟨b, off, rfl, hd⟩ := hc (by omega)
  obtain ⟨va, vc, h0, h1, h2, h3, h4, h5⟩ := hd j hj
  have hb := World.block_lt_of_cell? W _ h0
  exact ⟨b, off, va, vc, rfl, hb, (hB.cell (p := ⟨b, off + j * 4, none⟩) hb).trans h0, (hB.cell (p := ⟨b, off + j * 4 + 1, none⟩) hb).trans h1, (hB.cell (p := ⟨b, off + j * 4 + 2, none⟩) hb).trans h2, (hB.cell (p := ⟨b, off + j * 4 + 3, none⟩) hb).trans h3, h4, h5⟩
end Go.Proofs.YtkkicbhmcjbmbaaGreat

/- Lines, and steps, that came in as an argument: what a walk is told of them. -/
namespace Go.Proofs.YtkkicbhmcjbmbaaGreat
open Go.ChangeShapes Go.WideShapes Go.ChangeAt Go.RowKit Go.Deep

/-- How a slice of bytes inside a datum is told. -/
def Te_DataOf {H : Type} (d : DataW H) (x : List UInt8) : Prop := (d = .nil ∧ x = []) ∨ ∃ elems spare : List (DataW H), d = .slice elems spare ∧ x.length = elems.length

theorem Te_bys_len {W : World} {a : Option Addr} {n c : Nat} {l : List UInt8} (h : Bys W (.slice a n c) l) : n = l.length := by
  obtain ⟨a', c', he, _⟩ := bys_form h
  cases he
  rfl

theorem lns_arg {H : Type} {enc : TypeId × Value → H} {P : Program} {W : World} {base : Nat} {a : Option Addr} {len cap fuel t e u : Nat} {d : DataW H} {p : List MemPlace}
    (ht : P.underlying t = some (.slice e)) (he : P.underlying e = some (.slice u)) (ce : P.cellsOf e = 1) (hu : P.underlying u = some (.int .u8)) (cu : P.cellsOf u = 1)
    (hf : DataW.trod enc P W base (fun _ => true) true fuel t (Value.slice a len cap).cells.toList = some (d, p)) :
    ∃ l : List (List UInt8), Lns W (.slice a len cap) l ∧ ((d = .nil ∧ l = []) ∨ ∃ elems spare : List (DataW H), d = .slice elems spare ∧ l.length = elems.length ∧ ∀ i (hi : i < l.length), ∃ di, di ∈ elems ∧ Te_DataOf di l[i]) := by
  rcases open_slice ht hf with ⟨hcs, hd⟩ | ⟨x, n, c, m, k, D, Pl, hcs, _, hl, hm, hmm, hx, hel⟩
  · simp [Value.cells] at hcs
    obtain ⟨rfl, rfl, rfl⟩ := hcs
    exact ⟨[], ⟨_, _, rfl, fun h => absurd h (by decide)⟩, .inl ⟨(Prod.mk.inj hd).1, rfl⟩⟩
  · simp [Value.cells] at hcs
    obtain ⟨rfl, rfl, rfl⟩ := hcs
    simp only [if_true] at hmm
    subst hmm
    have each : ∀ i, i < len → ∃ s : List UInt8, ∃ va vc, Te_DataOf (D i) s ∧ W.cell? ((x.add (i * 1)).add 0) = some (.slice va s.length vc) ∧ Bys W (.slice va s.length vc) s := by
      intro i hi
      obtain ⟨cs', h1, h2⟩ := hel i (by omega)
      rw [ce] at h1
      obtain ⟨_, hlen, hcell⟩ := World.cells?_some h1
      match cs', hlen with
      | [v0], _ =>
        obtain ⟨va, vl, vc, rfl⟩ : ∃ va vl vc, v0 = .slice va vl vc := by
          rcases DataW.trod_slice he h2 with ⟨h0, _⟩ | ⟨x, len, cap, _, _, _, _, h0, _⟩
          · exact ⟨_, _, _, by simpa using h0⟩
          · exact ⟨_, _, _, by simpa using h0⟩
        obtain ⟨s, hs, hO⟩ := bytes_arg he hu cu (by simpa [Value.cells] using h2)
        obtain rfl := Te_bys_len hs
        exact ⟨s, va, vc, hO, by simpa using hcell 0 (by simp), hs⟩
    obtain ⟨s, hs⟩ := choose_lt each
    refine ⟨(List.range len).map s, ⟨some x, m, by simp, fun h0 => ?_⟩, .inr ⟨_, _, (Prod.mk.inj hx).1, by simp, fun i hi => ?_⟩⟩
    · have h0' : 0 < len := by simpa using h0
      obtain ⟨b, off, spot⟩ := x
      obtain ⟨_, _, _, q0, _⟩ := hs 0 h0'
      have hspot : spot = none := by simpa [Addr.add] using World.cell?_spot q0
      subst hspot
      refine ⟨b, off, rfl, fun j hj => ?_⟩
      have hj' : j < len := by simpa using hj
      obtain ⟨va, vc, _, q0, hb⟩ := hs j hj'
      have hadd : ∀ o k, (⟨b, o, none⟩ : Addr).add k = ⟨b, o + k, none⟩ := fun o k => by unfold Addr.add; split <;> simp_all
      rw [hadd, hadd] at q0
      simp only [List.getElem_map, List.getElem_range]
      exact ⟨va, vc, by simpa using q0, hb⟩
    · have hi' : i < len := by simpa using hi
      obtain ⟨va, vc, hO, _⟩ := hs i hi'
      exact ⟨D i, List.mem_map.2 ⟨i, by simpa using hi', rfl⟩, by simpa using hO⟩

theorem Te_weightsAll_mem {H : Type} {P : Program} {e : TypeId} : ∀ {l : List (DataW H)} {d : DataW H}, d ∈ l → ∀ n ∈ d.weights P e, n ∈ DataW.weightsAll P e l
  | d' :: r, d, hd, n, hn => by
    simp only [DataW.weightsAll, List.mem_append]
    rcases List.mem_cons.1 hd with rfl | h
    · exact Or.inl hn
    · exact Or.inr (Te_weightsAll_mem h n hn)
theorem line_weight {H : Type} {P : Program} {e u : TypeId} {d : DataW H} {x : List UInt8} (he : P.underlying e = some (.slice u)) (bu : P.bytesOf u = 1) (hO : Te_DataOf d x) (h : ∀ n ∈ d.weights P e, n ≤ reachBytes) : x.length ≤ 140737488351232 := by
  rcases hO with ⟨_, rfl⟩ | ⟨elems, spare, rfl, hl⟩
  · simp
  · have := h ((elems.length + spare.length) * P.bytesOf u) (by simp [DataW.weights, he])
    rw [bu] at this
    simp only [reachBytes] at this
    omega
/-- The reach, of each line. -/
theorem sized_lines {H : Type} {P : Program} {ts : List TypeId} {ds : List (DataW H)} (h : (DataW.weightsEach P ts ds).all (· ≤ reachBytes) = true) {j : Nat} {t e u : TypeId} {d : DataW H} {elems spare : List (DataW H)} {x : List UInt8}
    (ht : ts[j]? = some t) (hd : ds[j]? = some (.slice elems spare)) (hu : P.underlying t = some (.slice e)) (hm : d ∈ elems) (he : P.underlying e = some (.slice u)) (bu : P.bytesOf u = 1) (hO : Te_DataOf d x) : x.length ≤ 140737488351232 :=
  line_weight he bu hO fun n hn => of_decide_eq_true (List.all_eq_true.1 h _ (DataW.weights_mem_each ht hd n (by
    simp only [DataW.weights, hu, List.mem_cons, List.mem_append]
    exact Or.inr (Or.inl (Te_weightsAll_mem hm n hn)))))

/-- A step: what, n, data. -/
abbrev Te_Stp := Int × Int × List UInt8
theorem Te_step_cells {H : Type} {enc : TypeId × Value → H} {P : Program} {W : World} {base : Nat} {fuel e u : Nat} {f0 f1 f2 : Field} {cs : List Value} {d : DataW H} {p : List MemPlace}
    (he : P.underlying e = some (.struct #[f0, f1, f2])) (ce : P.cellsOf e = 3) (o0 : f0.offset = 0) (o1 : f1.offset = 1) (o2 : f2.offset = 2)
    (c0 : P.cellsOf f0.type = 1) (c1 : P.cellsOf f1.type = 1) (c2 : P.cellsOf f2.type = 1)
    (t0 : P.underlying f0.type = some (.int .i64)) (t1 : P.underlying f1.type = some (.int .i64)) (t2 : P.underlying f2.type = some (.slice u)) (tu : P.underlying u = some (.int .u8)) (cu : P.cellsOf u = 1)
    (h : DataW.trod enc P W base (fun _ => true) true fuel e cs = some (d, p)) :
    ∃ (x : Te_Stp) (va : Option Addr) (vc : Nat) (d2 : DataW H), cs = [.int .i64 x.1, .int .i64 x.2.1, .slice va x.2.2.length vc] ∧ Bys W (.slice va x.2.2.length vc) x.2.2 ∧ (∃ x0 x1, d = .agg [x0, x1, d2]) ∧ Te_DataOf d2 x.2.2 := by
  obtain ⟨xs, k, hk, hxy, hcl, hxl, hf⟩ := DataW.trod_struct he h
  rw [ce] at hcl
  match xs, hxl, cs, hcl with
  | [y0, y1, y2], _, [v0, v1, v2], _ =>
    have g0 := hf 0 f0 rfl
    have g1 := hf 1 f1 rfl
    have g2 := hf 2 f2 rfl
    simp [o0, c0] at g0
    simp [o1, c1] at g1
    simp [o2, c2] at g2
    obtain ⟨a, ha, _⟩ := DataW.trod_int t0 g0
    obtain ⟨b, hb, _⟩ := DataW.trod_int t1 g1
    obtain rfl : v0 = .int .i64 a := by simpa using ha
    obtain rfl : v1 = .int .i64 b := by simpa using hb
    obtain ⟨va, vl, vc, rfl⟩ : ∃ va vl vc, v2 = .slice va vl vc := by
      rcases DataW.trod_slice t2 g2 with ⟨h0, _⟩ | ⟨x, len, cap, _, _, _, _, h0, _⟩
      · exact ⟨_, _, _, by simpa using h0⟩
      · exact ⟨_, _, _, by simpa using h0⟩
    obtain ⟨y2a, y2b⟩ := y2
    obtain ⟨l, hl, hd⟩ := bytes_arg t2 tu cu (by simpa [Value.cells] using g2)
    obtain rfl := Te_bys_len hl
    simp only [Prod.mk.injEq] at hxy
    exact ⟨(a, b, l), va, vc, y2a, rfl, hl, ⟨_, _, by simpa using hxy.1⟩, hd⟩

/-- The slice value v holds the steps l. -/
def Te_Stps (W : World) (v : Value) (l : List Te_Stp) : Prop :=
  ∃ a c, v = .slice a l.length c ∧ (0 < l.length → ∃ b off, a = some ⟨b, off, none⟩ ∧ ∀ j (hj : j < l.length), ∃ va vc,
    W.cell? ⟨b, off + j * 3, none⟩ = some (.int .i64 l[j].1) ∧ W.cell? ⟨b, off + j * 3 + 1, none⟩ = some (.int .i64 l[j].2.1) ∧ W.cell? ⟨b, off + j * 3 + 2, none⟩ = some (.slice va l[j].2.2.length vc) ∧ Bys W (.slice va l[j].2.2.length vc) l[j].2.2)

theorem Te_stps_arg {H : Type} {enc : TypeId × Value → H} {P : Program} {W : World} {base : Nat} {a : Option Addr} {len cap fuel t e u : Nat} {f0 f1 f2 : Field} {d : DataW H} {p : List MemPlace}
    (ht : P.underlying t = some (.slice e)) (he : P.underlying e = some (.struct #[f0, f1, f2])) (ce : P.cellsOf e = 3) (o0 : f0.offset = 0) (o1 : f1.offset = 1) (o2 : f2.offset = 2)
    (c0 : P.cellsOf f0.type = 1) (c1 : P.cellsOf f1.type = 1) (c2 : P.cellsOf f2.type = 1)
    (t0 : P.underlying f0.type = some (.int .i64)) (t1 : P.underlying f1.type = some (.int .i64)) (t2 : P.underlying f2.type = some (.slice u)) (tu : P.underlying u = some (.int .u8)) (cu : P.cellsOf u = 1)
    (hf : DataW.trod enc P W base (fun _ => true) true fuel t (Value.slice a len cap).cells.toList = some (d, p)) :
    ∃ l : List Te_Stp, Te_Stps W (.slice a len cap) l ∧ ((d = .nil ∧ l = []) ∨ ∃ elems spare : List (DataW H), d = .slice elems spare ∧ l.length = elems.length ∧ ∀ i (hi : i < l.length), ∃ x0 x1 d2, DataW.agg [x0, x1, d2] ∈ elems ∧ Te_DataOf d2 l[i].2.2) := by
  rcases open_slice ht hf with ⟨hcs, hd⟩ | ⟨x, n, c, m, k, D, Pl, hcs, _, hl, hm, hmm, hx, hel⟩
  · simp [Value.cells] at hcs
    obtain ⟨rfl, rfl, rfl⟩ := hcs
    exact ⟨[], ⟨_, _, rfl, fun h => absurd h (by decide)⟩, .inl ⟨(Prod.mk.inj hd).1, rfl⟩⟩
  · simp [Value.cells] at hcs
    obtain ⟨rfl, rfl, rfl⟩ := hcs
    simp only [if_true] at hmm
    subst hmm
    have each : ∀ i, i < len → ∃ s : Te_Stp, ∃ va vc, (∃ x0 x1 d2, D i = .agg [x0, x1, d2] ∧ Te_DataOf d2 s.2.2) ∧
        W.cell? ((x.add (i * 3)).add 0) = some (.int .i64 s.1) ∧ W.cell? ((x.add (i * 3)).add 1) = some (.int .i64 s.2.1) ∧ W.cell? ((x.add (i * 3)).add 2) = some (.slice va s.2.2.length vc) ∧ Bys W (.slice va s.2.2.length vc) s.2.2 := by
      intro i hi
      obtain ⟨cs', h1, h2⟩ := hel i (by omega)
      rw [ce] at h1
      obtain ⟨_, hlen, hcell⟩ := World.cells?_some h1
      obtain ⟨s, va, vc, d2, rfl, hb, ⟨x0, x1, hD⟩, hO⟩ := Te_step_cells he ce o0 o1 o2 c0 c1 c2 t0 t1 t2 tu cu h2
      exact ⟨s, va, vc, ⟨x0, x1, d2, hD, hO⟩, by simpa using hcell 0 (by omega), by simpa using hcell 1 (by omega), by simpa using hcell 2 (by omega), hb⟩
    obtain ⟨s, hs⟩ := choose_lt each
    refine ⟨(List.range len).map s, ⟨some x, m, by simp, fun h0 => ?_⟩, .inr ⟨_, _, (Prod.mk.inj hx).1, by simp, fun i hi => ?_⟩⟩
    · have h0' : 0 < len := by simpa using h0
      obtain ⟨b, off, spot⟩ := x
      obtain ⟨_, _, _, q0, _⟩ := hs 0 h0'
      have hspot : spot = none := by simpa [Addr.add] using World.cell?_spot q0
      subst hspot
      refine ⟨b, off, rfl, fun j hj => ?_⟩
      have hj' : j < len := by simpa using hj
      obtain ⟨va, vc, _, q0, q1, q2, hb⟩ := hs j hj'
      have hadd : ∀ o k, (⟨b, o, none⟩ : Addr).add k = ⟨b, o + k, none⟩ := fun o k => by unfold Addr.add; split <;> simp_all
      rw [hadd, hadd] at q0 q1 q2
      simp only [List.getElem_map, List.getElem_range]
      exact ⟨va, vc, by simpa using q0, q1, q2, hb⟩
    · have hi' : i < len := by simpa using hi
      obtain ⟨va, vc, ⟨x0, x1, d2, hD, hO⟩, _⟩ := hs i hi'
      refine ⟨x0, x1, d2, ?_, by simpa using hO⟩
      rw [← hD]
      exact List.mem_map.2 ⟨i, by simpa using hi', rfl⟩
theorem Te_sized_steps {H : Type} {P : Program} {ts : List TypeId} {ds : List (DataW H)} (h : (DataW.weightsEach P ts ds).all (· ≤ reachBytes) = true) {j : Nat} {t e u : TypeId} {f0 f1 f2 : Field} {x0 x1 d2 : DataW H} {elems spare : List (DataW H)} {x : List UInt8}
    (ht : ts[j]? = some t) (hd : ds[j]? = some (.slice elems spare)) (hu : P.underlying t = some (.slice e)) (hm : DataW.agg [x0, x1, d2] ∈ elems) (he : P.underlying e = some (.struct #[f0, f1, f2])) (t2 : P.underlying f2.type = some (.slice u)) (bu : P.bytesOf u = 1) (hO : Te_DataOf d2 x) : x.length ≤ 140737488351232 := by
  rcases hO with ⟨_, rfl⟩ | ⟨es, sp, rfl, hl⟩
  · simp
  · have := of_decide_eq_true (List.all_eq_true.1 h _ (DataW.weights_mem_each ht hd ((es.length + sp.length) * P.bytesOf u) (by
      simp only [DataW.weights, hu, List.mem_cons, List.mem_append]
      exact Or.inr (Or.inl (Te_weightsAll_mem hm _ (by simp [DataW.weights, DataW.weightsEach, he, t2]))))))
    rw [bu] at this
    simp only [reachBytes] at this
    omega
end Go.Proofs.YtkkicbhmcjbmbaaGreat
